/-
  How a place that came in (a string and an int) is opened.
-/
import Derived.Test.YtdcijbclafpkmaaDoorFrameS
namespace Go.Proofs.YtdcijbclafpkmaaDoor
open Go Go.ChangeShapes Go.WideShapes Go.ChangeAt Go.RowKit

theorem Tryd.cellsPlace : Tryd.prog.cellsOf 24 = 2 := by kernel_rfl
set_option maxRecDepth 100000 in
theorem open_place {H : Type} {enc : TypeId × Value → H} {w : World} {r : Reach} {b0 : Nat} {v : Value} {d : DataW H} {p : List MemPlace}
    (hv : Value.okWide Tryd.prog w r b0 24 v) (h : DataW.Trod enc Tryd.prog w 0 (fun _ => true) true 24 v d p) :
    ∃ (S : ByteArray) (a : Int), v = .agg #[.string S, .int .i64 a] ∧ S.size ≤ maxLen ∧ (Lit.int .i64 a).wf = true := by
  obtain ⟨v0, v1, y0, y1, n, rfl, _, _, h0, h1⟩ := Go.Joins.open_agg2 Tryd.underlying24 (by kernel_rfl) Tryd.cellsPlace hv h
  obtain ⟨S, e0, _, k0⟩ := DataW.trod_string Tryd.underlying9 h0
  obtain ⟨a, e1, _, k1⟩ := DataW.trod_int Tryd.underlying3 h1
  simp at e0 e1
  subst e0 e1
  exact ⟨S, a, rfl, k0, k1⟩
end Go.Proofs.YtdcijbclafpkmaaDoor
