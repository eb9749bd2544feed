/-
  How a slice of columns that came in is opened.
-/
import Derived.Test.YtdcijbclafpkmaaDoorFrameS
import Derived.Test.YtdcijbclafpkmaaDoorKRow
import Derived.RangeFuncOwn
import Derived.Deep.Slices
namespace Go.Proofs.YtdcijbclafpkmaaDoor
open Go Go.ChangeShapes Go.WideShapes Go.ChangeAt Go.RowKit

set_option maxRecDepth 100000 in
theorem col_cells {H : Type} {enc : TypeId × Value → H} {w : World} {n : Nat} {cs : List Value} {x : DataW H × List MemPlace}
    (h : DataW.trod enc Tryd.prog w 0 (fun _ => true) true n 51 cs = some x) (hl : cs.length = 4) :
    ∃ c : QC, cs = c.four ∧ CP.Ok c.col ∧ c.s.size ≤ maxLen := by
  match cs, hl with
  | [v0, v1, v2, v3], _ =>
    obtain ⟨y0, y1, y2, y3, n, _, _, h0, h1, h2, h3⟩ := Go.Joins.trod_struct4 Tryd.underlying51 h
    simp only [Tryd.cellsI, Tryd.cellsI64, Tryd.cellsU64, Tryd.cellsS] at h0 h1 h2 h3
    obtain ⟨K, e0, _, k0⟩ := DataW.trod_int Tryd.underlying3 h0
    obtain ⟨I, e1, _, k1⟩ := DataW.trod_int Tryd.underlying2 h1
    obtain ⟨U, e2, _, k2⟩ := DataW.trod_int Tryd.underlying49 h2
    obtain ⟨S, e3, _, k3⟩ := DataW.trod_string Tryd.underlying9 h3
    simp at e0 e1 e2 e3
    subst e0 e1 e2 e3
    have b0 := bounds_i64 k0
    have b1 := bounds_i64 k1
    have b2 := bounds_u64 k2
    exact ⟨⟨K, I, U, S⟩, rfl, by unfold CP.Ok QC.col; simp only; omega, k3⟩

theorem open_cols {H : Type} {enc : TypeId × Value → H} {w : World} {a : Option Addr} {len cap : Nat} {d : DataW H} {p : List MemPlace} 
    (h : DataW.Trod enc Tryd.prog w 0 (fun _ => true) true 22 (.slice a len cap) d p) :
    ∃ l : List QC, len = l.length ∧ Lies w w.heap.size a l ∧ (∀ c ∈ l, CP.Ok c.col) ∧ (∀ c ∈ l, c.s.size ≤ maxLen) ∧ l.length ≤ maxLen := by
  obtain ⟨fuel, hf⟩ := h
  rcases Go.Deep.open_slice Tryd.underlying22 hf with ⟨hcs, _⟩ | ⟨x, l, c, m, n, D, Pl, hcs, _, hl, hm, hmm, hxx, hall⟩
  · simp [Value.cells] at hcs
    obtain ⟨rfl, rfl, rfl⟩ := hcs
    exact ⟨[], rfl, Lies.nil _ _ _, fun c h => by simp at h, fun c h => by simp at h, by simp⟩
  · simp [Value.cells] at hcs
    obtain ⟨rfl, rfl, rfl⟩ := hcs
    have hlm : len ≤ m := by rw [hmm]; simpa using hl
    have each : ∀ i, i < len → ∃ c : QC, w.cells? 0 (x.add (i * 4)) 4 = some c.four ∧ CP.Ok c.col ∧ c.s.size ≤ maxLen := by
      intro i hi
      obtain ⟨cs', h1, h2⟩ := hall i (by omega)
      rw [Tryd.cellsCol] at h1
      obtain ⟨_, hlen, _⟩ := World.cells?_some h1
      obtain ⟨c, rfl, hc⟩ := col_cells h2 hlen
      exact ⟨c, h1, hc⟩
    have : Inhabited QC := ⟨⟨0, 0, 0, ⟨#[]⟩⟩⟩
    obtain ⟨f, hf⟩ := Go.Deep.choose_lt each
    refine ⟨(List.range len).map f, by simp, fun i c hc => ?_, fun c hc => ?_, fun c hc => ?_, by simpa using Nat.le_trans hl hm⟩
    · have hi : i < len := by have := (List.getElem?_eq_some_iff.1 hc).1; simpa using this
      have e : c = f i := by simp [hi] at hc; exact hc.symm
      subst e
      obtain ⟨_, _, hcell⟩ := World.cells?_some (hf i hi).1
      have hat : ∀ j v, (f i).four[j]? = some v → w.cell? ((x.add (i * 4)).add j) = some v := fun j v hv => by
        rw [hcell j (by have := (List.getElem?_eq_some_iff.1 hv).1; simpa [QC.four] using this)]
        exact hv
      obtain ⟨o, ho, _⟩ := cells_of_cell (hat 0 _ rfl)
      rw [addr_block, addr_block] at ho
      exact ⟨x, rfl, lt_of_heap ho, hat⟩
    · obtain ⟨i, hi, rfl⟩ := List.mem_map.1 hc
      exact (hf i (List.mem_range.1 hi)).2.1
    · obtain ⟨i, hi, rfl⟩ := List.mem_map.1 hc
      exact (hf i (List.mem_range.1 hi)).2.2
end Go.Proofs.YtdcijbclafpkmaaDoor
