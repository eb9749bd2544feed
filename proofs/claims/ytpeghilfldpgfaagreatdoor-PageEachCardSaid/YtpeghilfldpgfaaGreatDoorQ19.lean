import Derived.Test.YtpeghilfldpgfaaGreatDoorQ13
import Derived.Test.YtpeghilfldpgfaaGreatDoorQGLEach
namespace Go.Proofs.YtpeghilfldpgfaaGreatDoor
open Go Go.ChangeShapes Go.WideShapes Go.ChangeAt Go.RowKit
open Go.Proofs.YtpeghilfldpgfaaGreatDoor.L11 (LiesN)
set_option linter.unusedVariables false
section
variable {P : Program} {H : Type} {enc : TypeId × Value → H} {w : World} {base : Nat} {spare held : _}
theorem trod_struct6 {t : TypeId} {f0 f1 f2 f3 f4 f5 : Field} {fuel : Nat} {cs : List Value} {x : DataW H × List MemPlace} (ht : P.underlying t = some (.struct #[f0, f1, f2, f3, f4, f5])) (h : DataW.trod enc P w 0 (fun _ => true) true fuel t cs = some x) :
    ∃ y0 y1 y2 y3 y4 y5 n, cs.length = P.cellsOf t ∧ DataW.trod enc P w 0 (fun _ => true) true n f0.type ((cs.drop f0.offset).take (P.cellsOf f0.type)) = some y0 ∧
      DataW.trod enc P w 0 (fun _ => true) true n f1.type ((cs.drop f1.offset).take (P.cellsOf f1.type)) = some y1 ∧ DataW.trod enc P w 0 (fun _ => true) true n f2.type ((cs.drop f2.offset).take (P.cellsOf f2.type)) = some y2 ∧
      DataW.trod enc P w 0 (fun _ => true) true n f3.type ((cs.drop f3.offset).take (P.cellsOf f3.type)) = some y3 ∧ DataW.trod enc P w 0 (fun _ => true) true n f4.type ((cs.drop f4.offset).take (P.cellsOf f4.type)) = some y4 ∧ DataW.trod enc P w 0 (fun _ => true) true n f5.type ((cs.drop f5.offset).take (P.cellsOf f5.type)) = some y5 := by
  obtain ⟨xs, n, _, rfl, hl, hlen, hf⟩ := DataW.trod_struct ht h
  match xs, hlen with
  | [y0, y1, y2, y3, y4, y5], _ => exact ⟨y0, y1, y2, y3, y4, y5, n, hl, by simpa using hf 0 f0 rfl, by simpa using hf 1 f1 rfl, by simpa using hf 2 f2 rfl, by simpa using hf 3 f3 rfl, by simpa using hf 4 f4 rfl, by simpa using hf 5 f5 rfl⟩
end
section
variable {P : Program} {H : Type} {enc : TypeId × Value → H} {w : World} {base : Nat} {spare held : _}
theorem trod_struct5 {t : TypeId} {f0 f1 f2 f3 f4 : Field} {fuel : Nat} {cs : List Value} {x : DataW H × List MemPlace} (ht : P.underlying t = some (.struct #[f0, f1, f2, f3, f4])) (h : DataW.trod enc P w 0 (fun _ => true) true fuel t cs = some x) :
    ∃ y0 y1 y2 y3 y4 n, cs.length = P.cellsOf t ∧ DataW.trod enc P w 0 (fun _ => true) true n f0.type ((cs.drop f0.offset).take (P.cellsOf f0.type)) = some y0 ∧
      DataW.trod enc P w 0 (fun _ => true) true n f1.type ((cs.drop f1.offset).take (P.cellsOf f1.type)) = some y1 ∧ DataW.trod enc P w 0 (fun _ => true) true n f2.type ((cs.drop f2.offset).take (P.cellsOf f2.type)) = some y2 ∧
      DataW.trod enc P w 0 (fun _ => true) true n f3.type ((cs.drop f3.offset).take (P.cellsOf f3.type)) = some y3 ∧ DataW.trod enc P w 0 (fun _ => true) true n f4.type ((cs.drop f4.offset).take (P.cellsOf f4.type)) = some y4 := by
  obtain ⟨xs, n, _, rfl, hl, hlen, hf⟩ := DataW.trod_struct ht h
  match xs, hlen with
  | [y0, y1, y2, y3, y4], _ => exact ⟨y0, y1, y2, y3, y4, n, hl, by simpa using hf 0 f0 rfl, by simpa using hf 1 f1 rfl, by simpa using hf 2 f2 rfl, by simpa using hf 3 f3 rfl, by simpa using hf 4 f4 rfl⟩
end
theorem Tryz.c4 : Tryz.prog.cellsOf 74 = 18 := by kernel_rfl
theorem Tryz.cM : Tryz.prog.cellsOf 33 = 5 := by kernel_rfl
theorem Tryz.cL : Tryz.prog.cellsOf 26 = 4 := by kernel_rfl
theorem Tryz.cN : Tryz.prog.cellsOf 29 = 6 := by kernel_rfl
theorem Tryz.cC : Tryz.prog.cellsOf 31 = 3 := by kernel_rfl
theorem Tryz.cellsS1 : Tryz.prog.cellsOf 9 = 1 := by kernel_rfl
theorem Tryz.cellsI1 : Tryz.prog.cellsOf 3 = 1 := by kernel_rfl
theorem Tryz.cellsSlN : Tryz.prog.cellsOf 27 = 1 := by kernel_rfl
theorem Tryz.cellsSlS : Tryz.prog.cellsOf 22 = 1 := by kernel_rfl
theorem Tryz.cellsSl : Tryz.prog.cellsOf 24 = 1 := by kernel_rfl
set_option maxRecDepth 100000 in
theorem open_nums {H : Type} {enc : TypeId × Value → H} {w : World} {v : Value} {fuel : Nat} {x : DataW H × List MemPlace}
    (hf : DataW.trod enc Tryz.prog w 0 (fun _ => true) true fuel 27 [v] = some x) :
    ∃ (a : Option Addr) (l : List Int) (cap : Nat), v = .slice a l.length cap ∧ LiesN w w.heap.size a l ∧ l.length ≤ maxLen ∧ l.length ≤ cap ∧ cap ≤ maxLen := by
  rcases Go.Deep.open_slice Tryz.underlying27 hf with ⟨hcs, _⟩ | ⟨x, len, c, m, n, D, Pl, hcs, _, hl, hm, hmm, hxx, hall⟩
  · simp at hcs
    subst hcs
    exact ⟨none, [], 0, rfl, LiesN.nil _ _ _, by simp, by simp, by simp⟩
  · simp at hcs
    subst hcs
    have hlm : len ≤ m := by rw [hmm]; simpa using hl
    have each : ∀ i, i < len → ∃ c : Int, w.cell? (x.add i) = some (.int .i64 c) ∧ x.block < w.heap.size := by
      intro i hi
      obtain ⟨cs', h1, h2⟩ := hall i (by omega)
      rw [Tryz.cellsI1] at h1
      obtain ⟨_, hlen, hcell⟩ := World.cells?_some h1
      match cs', hlen with
      | [v0], _ =>
        obtain ⟨k, e0, _, _⟩ := DataW.trod_int Tryz.underlying3 h2
        simp at e0
        subst e0
        have h3 := hcell 0 (by simp)
        simp only [Nat.mul_one] at h3
        have h4 : (x.add i).add 0 = x.add i := by cases x; simp [Addr.add]
        rw [h4] at h3
        have h5 : w.cell? (x.add i) = some (.int .i64 k) := by rw [h3]; rfl
        obtain ⟨o, ho, _⟩ := cells_of_cell h5
        rw [L5.addr_block] at ho
        exact ⟨k, h5, (Array.getElem?_eq_some_iff.1 ho).1⟩
    obtain ⟨f, hf⟩ := Go.Deep.choose_lt each
    refine ⟨some x, (List.range len).map f, c, by simp, fun i c hc => ?_, by simpa using Nat.le_trans hl hm, by simpa using hl, by simpa using hm⟩
    have hi : i < len := by have := (List.getElem?_eq_some_iff.1 hc).1; simpa using this
    have e : c = f i := by simp [hi] at hc; exact hc.symm
    subst e
    exact ⟨x, rfl, (hf i hi).2, (hf i hi).1⟩
set_option maxRecDepth 100000 in
theorem open_strs {H : Type} {enc : TypeId × Value → H} {w : World} {v : Value} {fuel : Nat} {x : DataW H × List MemPlace}
    (hf : DataW.trod enc Tryz.prog w 0 (fun _ => true) true fuel 22 [v] = some x) :
    ∃ (a : Option Addr) (l : List ByteArray) (cap : Nat), v = .slice a l.length cap ∧ L5.Lies w w.heap.size a l ∧ (∀ s ∈ l, s.size ≤ maxLen) ∧ l.length ≤ maxLen ∧ l.length ≤ cap := by
  rcases Go.Deep.open_slice Tryz.underlying22 hf with ⟨hcs, _⟩ | ⟨x, len, c, m, n, D, Pl, hcs, _, hl, hm, hmm, hxx, hall⟩
  · simp at hcs
    subst hcs
    exact ⟨none, [], 0, rfl, L5.Lies.nil _ _ _, by simp, by simp, by simp⟩
  · simp at hcs
    subst hcs
    have hlm : len ≤ m := by rw [hmm]; simpa using hl
    have each : ∀ i, i < len → ∃ c : ByteArray, w.cell? (x.add i) = some (.string c) ∧ x.block < w.heap.size ∧ c.size ≤ maxLen := by
      intro i hi
      obtain ⟨cs', h1, h2⟩ := hall i (by omega)
      rw [Tryz.cellsS1] at h1
      obtain ⟨_, hlen, hcell⟩ := World.cells?_some h1
      match cs', hlen with
      | [v0], _ =>
        obtain ⟨k, e0, _, hk⟩ := DataW.trod_string Tryz.underlying9 h2
        simp at e0
        subst e0
        have h3 := hcell 0 (by simp)
        simp only [Nat.mul_one] at h3
        have h4 : (x.add i).add 0 = x.add i := by cases x; simp [Addr.add]
        rw [h4] at h3
        have h5 : w.cell? (x.add i) = some (.string k) := by rw [h3]; rfl
        obtain ⟨o, ho, _⟩ := cells_of_cell h5
        rw [L5.addr_block] at ho
        exact ⟨k, h5, (Array.getElem?_eq_some_iff.1 ho).1, hk⟩
    have : Inhabited ByteArray := ⟨⟨#[]⟩⟩
    obtain ⟨f, hf⟩ := Go.Deep.choose_lt each
    refine ⟨some x, (List.range len).map f, c, by simp, fun i c hc => ?_, fun c hc => ?_, by simpa using Nat.le_trans hl hm, by simpa using hl⟩
    · have hi : i < len := by have := (List.getElem?_eq_some_iff.1 hc).1; simpa using this
      have e : c = f i := by simp [hi] at hc; exact hc.symm
      subst e
      exact ⟨x, rfl, (hf i hi).2.1, (hf i hi).1⟩
    · obtain ⟨i, hi, rfl⟩ := List.mem_map.1 hc
      exact (hf i (List.mem_range.1 hi)).2.2
section
variable {H : Type} {enc : TypeId × Value → H} {w : World} {fuel : Nat} {x : DataW H × List MemPlace}
theorem meta_cells {v0 v1 v2 v3 v4 : Value} (hf : DataW.trod enc Tryz.prog w 0 (fun _ => true) true fuel 33 [v0, v1, v2, v3, v4] = some x) : ∃ m : Mv, v0 = .int .i64 m.p ∧ v1 = .int .i64 m.pg ∧ v2 = .int .i64 m.r ∧ v3 = .int .i64 m.l ∧ v4 = .int .i64 m.n := by
  obtain ⟨y0, y1, y2, y3, y4, n, _, h0, h1, h2, h3, h4⟩ := trod_struct5 Tryz.underlying33 hf
  simp only [Tryz.cellsI1] at h0 h1 h2 h3 h4
  obtain ⟨a, e0, _, _⟩ := DataW.trod_int Tryz.underlying3 h0
  obtain ⟨b, e1, _, _⟩ := DataW.trod_int Tryz.underlying3 h1
  obtain ⟨c, e2, _, _⟩ := DataW.trod_int Tryz.underlying3 h2
  obtain ⟨d, e3, _, _⟩ := DataW.trod_int Tryz.underlying3 h3
  obtain ⟨f, e4, _, _⟩ := DataW.trod_int Tryz.underlying3 h4
  simp at e0 e1 e2 e3 e4
  exact ⟨⟨a, b, c, d, f⟩, e0, e1, e2, e3, e4⟩
theorem leaf_cells {v0 v1 v2 v3 : Value} (hf : DataW.trod enc Tryz.prog w 0 (fun _ => true) true fuel 26 [v0, v1, v2, v3] = some x) : ∃ (a : LV) (l : L10.NP.Lf), (v0 = .int .i64 a.F ∧ v1 = .int .i64 a.R ∧ v2 = .string a.H ∧ v3 = .slice a.A a.n a.ca) ∧ HasL w a l ∧ l.high.size ≤ maxLen ∧ l.items.length ≤ maxLen ∧ ∀ x ∈ l.items, x.k.size ≤ maxLen ∧ x.s.size ≤ maxLen := by
  obtain ⟨y0, y1, y2, y3, n, _, _, h0, h1, h2, h3⟩ := Go.Joins.trod_struct4 Tryz.underlying26 hf
  simp only [Tryz.cellsI1, Tryz.cellsS1, Tryz.cellsSl] at h0 h1 h2 h3
  obtain ⟨F, e0, _, _⟩ := DataW.trod_int Tryz.underlying3 h0
  obtain ⟨R, e1, _, _⟩ := DataW.trod_int Tryz.underlying3 h1
  obtain ⟨HH, e2, _, k2⟩ := DataW.trod_string Tryz.underlying9 h2
  simp at e0 e1 e2 h3
  obtain ⟨a, l, cap, e3, g1, g2, g3⟩ := L10.open_items h3
  exact ⟨⟨F, R, HH, a, l.length, cap⟩, ⟨F, R, HH, l⟩, ⟨e0, e1, e2, e3⟩, ⟨rfl, rfl, rfl, rfl, g1⟩, k2, g3, g2⟩
theorem inner_cells {v0 v1 v2 v3 v4 v5 : Value} (hf : DataW.trod enc Tryz.prog w 0 (fun _ => true) true fuel 29 [v0, v1, v2, v3, v4, v5] = some x) : ∃ (b : NV) (n : L11.IP.Inn), (v0 = .int .i64 b.F ∧ v1 = .int .i64 b.L ∧ v2 = .int .i64 b.R ∧ v3 = .string b.H ∧ v4 = .slice b.A b.n b.ca ∧ v5 = .slice b.C b.m b.cb) ∧ HasN w b n ∧ b.n ≤ maxLen ∧ b.ca ≤ maxLen ∧ b.m ≤ maxLen ∧ n.high.size ≤ maxLen ∧ ∀ s ∈ n.seps, s.size ≤ maxLen := by
  obtain ⟨y0, y1, y2, y3, y4, y5, n, _, h0, h1, h2, h3, h4, h5⟩ := trod_struct6 Tryz.underlying29 hf
  simp only [Tryz.cellsI1, Tryz.cellsS1, Tryz.cellsSlN, Tryz.cellsSlS] at h0 h1 h2 h3 h4 h5
  obtain ⟨F, e0, _, _⟩ := DataW.trod_int Tryz.underlying3 h0
  obtain ⟨L, e1, _, _⟩ := DataW.trod_int Tryz.underlying3 h1
  obtain ⟨R, e2, _, _⟩ := DataW.trod_int Tryz.underlying3 h2
  obtain ⟨HH, e3, _, k3⟩ := DataW.trod_string Tryz.underlying9 h3
  simp at e0 e1 e2 e3 h4 h5
  obtain ⟨a, l, cap, e4, g1, g2, g3, g4⟩ := open_nums h4
  obtain ⟨c, q, cp, e5, i1, i2, i3, i4⟩ := open_strs h5
  exact ⟨⟨F, L, R, HH, a, l.length, cap, c, q.length, cp⟩, ⟨F, L, R, HH, l, q⟩, ⟨e0, e1, e2, e3, e4, e5⟩, ⟨rfl, rfl, rfl, rfl, ⟨g1, i1, rfl, rfl, g3, i4⟩⟩, g2, g4, i3, k3, i2⟩
theorem chain_cells {v0 v1 v2 : Value} (hf : DataW.trod enc Tryz.prog w 0 (fun _ => true) true fuel 31 [v0, v1, v2] = some x) : ∃ c : CV, v0 = .int .i64 c.F ∧ v1 = .int .i64 c.N ∧ v2 = .string c.D := by
  obtain ⟨y0, y1, y2, n, _, _, h0, h1, h2⟩ := Go.Deep.trod_struct3 Tryz.underlying31 hf
  simp only [Tryz.cellsI1, Tryz.cellsS1] at h0 h1 h2
  obtain ⟨F, e0, _, _⟩ := DataW.trod_int Tryz.underlying3 h0
  obtain ⟨N, e1, _, _⟩ := DataW.trod_int Tryz.underlying3 h1
  obtain ⟨D, e2, _, _⟩ := DataW.trod_string Tryz.underlying9 h2
  simp at e0 e1 e2
  exact ⟨⟨F, N, D⟩, e0, e1, e2⟩
end
set_option maxRecDepth 100000 in
theorem open_four {H : Type} {enc : TypeId × Value → H} {w : World} {r : Reach} {b0 : Nat} {v : Value} {d : DataW H} {p : List MemPlace}
    (hv0 : Value.okWide Tryz.prog w r b0 74 v) (h : DataW.Trod enc Tryz.prog w 0 (fun _ => true) true 74 v d p) :
    ∃ (m : Mv) (a : LV) (b : NV) (c : CV) (l : L10.NP.Lf) (n : L11.IP.Inn), v = .agg #[.int .i64 m.p, .int .i64 m.pg, .int .i64 m.r, .int .i64 m.l, .int .i64 m.n, .int .i64 a.F, .int .i64 a.R, .string a.H, .slice a.A a.n a.ca, .int .i64 b.F, .int .i64 b.L, .int .i64 b.R, .string b.H, .slice b.A b.n b.ca, .slice b.C b.m b.cb, .int .i64 c.F, .int .i64 c.N, .string c.D] ∧ FourOk w a b l n := by
  obtain ⟨cs, rfl, hsz⟩ := okWide_struct Tryz.underlying74 hv0
  rw [Tryz.c4] at hsz
  obtain ⟨v0, v1, v2, v3, v4, v5, v6, v7, v8, v9, v10, v11, v12, v13, v14, v15, v16, v17, rfl⟩ : ∃ v0 v1 v2 v3 v4 v5 v6 v7 v8 v9 v10 v11 v12 v13 v14 v15 v16 v17, cs = #[v0, v1, v2, v3, v4, v5, v6, v7, v8, v9, v10, v11, v12, v13, v14, v15, v16, v17] := by
    match cs, hsz with
    | ⟨[v0, v1, v2, v3, v4, v5, v6, v7, v8, v9, v10, v11, v12, v13, v14, v15, v16, v17]⟩, _ => exact ⟨v0, v1, v2, v3, v4, v5, v6, v7, v8, v9, v10, v11, v12, v13, v14, v15, v16, v17, rfl⟩
  obtain ⟨fuel, hf⟩ := h
  obtain ⟨y0, y1, y2, y3, n, _, _, h0, h1, h2, h3⟩ := Go.Joins.trod_struct4 Tryz.underlying74 hf
  simp only [Tryz.cM, Tryz.cL, Tryz.cN, Tryz.cC] at h0 h1 h2 h3
  obtain ⟨m, rfl, rfl, rfl, rfl, rfl⟩ := meta_cells h0
  obtain ⟨a, l, ⟨rfl, rfl, rfl, rfl⟩, k1, k2, k3, k4⟩ := leaf_cells h1
  obtain ⟨b, q, ⟨rfl, rfl, rfl, rfl, rfl, rfl⟩, j1, j2, j3, j4, j5, j6⟩ := inner_cells h2
  obtain ⟨c, rfl, rfl, rfl⟩ := chain_cells h3
  exact ⟨m, a, b, c, l, q, rfl, ⟨k1, j1, k2, k3, k4, j2, j3, j4, j5, j6⟩⟩
end Go.Proofs.YtpeghilfldpgfaaGreatDoor
