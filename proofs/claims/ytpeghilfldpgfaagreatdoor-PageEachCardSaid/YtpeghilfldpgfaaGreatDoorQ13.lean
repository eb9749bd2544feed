import Derived.Test.YtpeghilfldpgfaaGreatDoorQ10
namespace Go.Proofs.YtpeghilfldpgfaaGreatDoor.L10
open Go Go.ChangeShapes Go.WideShapes Go.ChangeAt Go.RowKit NP
set_option linter.unusedVariables false
theorem Tryz.cellsItem : Tryz.prog.cellsOf 127 = 5 := by kernel_rfl
theorem Tryz.cellsVal : Tryz.prog.cellsOf 125 = 4 := by kernel_rfl
theorem Tryz.cellsB1 : Tryz.prog.cellsOf 4 = 1 := by kernel_rfl
theorem Tryz.cellsS1 : Tryz.prog.cellsOf 9 = 1 := by kernel_rfl
theorem Tryz.cellsI1 : Tryz.prog.cellsOf 3 = 1 := by kernel_rfl
set_option maxRecDepth 100000 in
theorem item_cells {H : Type} {enc : TypeId × Value → H} {w : World} {n : Nat} {cs : List Value} {x : DataW H × List MemPlace}
    (h : DataW.trod enc Tryz.prog w 0 (fun _ => true) true n 127 cs = some x) (hl : cs.length = 5) :
    ∃ c : It, cs = five c ∧ c.k.size ≤ maxLen ∧ c.s.size ≤ maxLen := by
  match cs, hl with
  | [v0, v1, v2, v3, v4], _ =>
    obtain ⟨y0, y1, n, _, _, h0, h1⟩ := trod_struct2 Tryz.underlying127 h
    simp only [Tryz.cellsS1, Tryz.cellsVal] at h0 h1
    obtain ⟨z0, z1, z2, z3, m, _, _, g0, g1, g2, g3⟩ := Go.Joins.trod_struct4 Tryz.underlying125 h1
    simp only [Tryz.cellsB1, Tryz.cellsS1, Tryz.cellsI1] at g0 g1 g2 g3
    obtain ⟨K, e0, _, k0⟩ := DataW.trod_string Tryz.underlying9 h0
    obtain ⟨O, e1, _⟩ := DataW.trod_bool Tryz.underlying4 g0
    obtain ⟨S, e2, _, k2⟩ := DataW.trod_string Tryz.underlying9 g1
    obtain ⟨L, e3, _, _⟩ := DataW.trod_int Tryz.underlying3 g2
    obtain ⟨P, e4, _, _⟩ := DataW.trod_int Tryz.underlying3 g3
    simp at e0 e1 e2 e3 e4
    subst e0 e1 e2 e3 e4
    exact ⟨⟨K, O, S, L, P⟩, rfl, k0, k2⟩
theorem open_items {H : Type} {enc : TypeId × Value → H} {w : World} {v : Value} {fuel : Nat} {x : DataW H × List MemPlace}
    (hf : DataW.trod enc Tryz.prog w 0 (fun _ => true) true fuel 24 [v] = some x) :
    ∃ (a : Option Addr) (l : List It) (cap : Nat), v = .slice a l.length cap ∧ Lies5 w w.heap.size a l ∧ (∀ c ∈ l, c.k.size ≤ maxLen ∧ c.s.size ≤ maxLen) ∧ l.length ≤ maxLen := by
  rcases Go.Deep.open_slice Tryz.underlying24 hf with ⟨hcs, _⟩ | ⟨x, len, c, m, n, D, Pl, hcs, _, hl, hm, hmm, hxx, hall⟩
  · simp at hcs
    subst hcs
    exact ⟨none, [], 0, rfl, Lies5.nil _ _ _, fun c h => by simp at h, by simp⟩
  · simp at hcs
    subst hcs
    have hlm : len ≤ m := by rw [hmm]; simpa using hl
    have each : ∀ i, i < len → ∃ c : It, w.cells? 0 (x.add (i * 5)) 5 = some (five c) ∧ c.k.size ≤ maxLen ∧ c.s.size ≤ maxLen := by
      intro i hi
      obtain ⟨cs', h1, h2⟩ := hall i (by omega)
      rw [Tryz.cellsItem] at h1
      obtain ⟨_, hlen, _⟩ := World.cells?_some h1
      obtain ⟨c, rfl, hc⟩ := item_cells h2 hlen
      exact ⟨c, h1, hc⟩
    have : Inhabited It := ⟨⟨⟨#[]⟩, false, ⟨#[]⟩, 0, 0⟩⟩
    obtain ⟨f, hf⟩ := Go.Deep.choose_lt each
    refine ⟨some x, (List.range len).map f, c, by simp, fun i c hc => ?_, fun c hc => ?_, by simpa using Nat.le_trans hl hm⟩
    · have hi : i < len := by have := (List.getElem?_eq_some_iff.1 hc).1; simpa using this
      have e : c = f i := by simp [hi] at hc; exact hc.symm
      subst e
      obtain ⟨_, _, hcell⟩ := World.cells?_some (hf i hi).1
      have hat : ∀ j v, (five (f i))[j]? = some v → w.cell? ((x.add (i * 5)).add j) = some v := fun j v hv => by
        rw [hcell j (by have := (List.getElem?_eq_some_iff.1 hv).1; simpa [five] using this)]
        exact hv
      obtain ⟨o, ho, _⟩ := cells_of_cell (hat 0 _ rfl)
      rw [L5.addr_block, L5.addr_block] at ho
      exact ⟨x, rfl, (Array.getElem?_eq_some_iff.1 ho).1, hat⟩
    · obtain ⟨i, hi, rfl⟩ := List.mem_map.1 hc
      exact (hf i (List.mem_range.1 hi)).2
end Go.Proofs.YtpeghilfldpgfaaGreatDoor.L10
