/-
  How a page with a value and a number, that came in, is opened.
-/
import Derived.Test.YtahkigabapdleaaDoorCFrame
namespace Go.Proofs.YtahkigabapdleaaDoor
open Go Go.ChangeShapes Go.WideShapes Go.ChangeAt Go.RowKit
set_option linter.unusedVariables false
theorem Tryd.cellsPage : Tryd.prog.cellsOf 25 = 3 := by kernel_rfl
set_option maxRecDepth 100000 in
theorem open_page {H : Type} {enc : TypeId × Value → H} {w : World} {r : Reach} {b0 : Nat} {v : Value} {d : DataW H} {p : List MemPlace}
    (hv0 : Value.okWide Tryd.prog w r b0 25 v) (h : DataW.Trod enc Tryd.prog w 0 (fun _ => true) true 25 v d p) :
    ∃ (s k : ByteArray) (i : Int), v = .agg #[.string s, .string k, .int .i64 i] ∧ s.size ≤ maxLen ∧ k.size ≤ maxLen ∧ (Lit.int .i64 i).wf = true := by
  obtain ⟨cs, rfl, hsz⟩ := okWide_struct Tryd.underlying25 hv0
  rw [Tryd.cellsPage] at hsz
  obtain ⟨v0, v1, v2, rfl⟩ := Go.Joins.array3 hsz
  obtain ⟨fuel, hf⟩ := h
  obtain ⟨y0, y1, y2, n, _, _, h0, h1, h2⟩ := Go.Deep.trod_struct3 Tryd.underlying25 hf
  simp only [Tryd.cellsI1, Tryd.cellsS1] at h0 h1 h2
  obtain ⟨S, e0, _, k0⟩ := DataW.trod_string Tryd.underlying9 h0
  obtain ⟨K, e1, _, k1⟩ := DataW.trod_string Tryd.underlying9 h1
  obtain ⟨I, e2, _, k2⟩ := DataW.trod_int Tryd.underlying3 h2
  simp [Value.cells] at e0 e1 e2
  subst e0 e1 e2
  exact ⟨S, K, I, rfl, k0, k1, k2⟩
end Go.Proofs.YtahkigabapdleaaDoor
