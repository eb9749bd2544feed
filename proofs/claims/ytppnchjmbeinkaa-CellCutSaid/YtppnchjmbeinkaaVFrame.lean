/-
  How a value, bytes with a kid, a cutting, and two suffixes with two kids, that came in, are opened.
-/
import Derived.Test.YtppnchjmbeinkaaRows
import Derived.WalkKit
import Derived.ProofKit
import Derived.OpenShut
import Derived.ShutString
import Derived.ChangeOld
import Derived.Below
import Derived.Lib.SmallJoins
namespace Go.Proofs.Ytppnchjmbeinkaa
open Go Go.ChangeShapes Go.WideShapes Go.ChangeAt Go.RowKit
set_option linter.unusedVariables false

theorem Try.cellsValue : Try.prog.cellsOf 23 = 4 := by kernel_rfl
theorem Try.cellsBytes : Try.prog.cellsOf 25 = 2 := by kernel_rfl
theorem Try.cellsCutting : Try.prog.cellsOf 46 = 3 := by kernel_rfl
theorem Try.cellsTwo : Try.prog.cellsOf 52 = 4 := by kernel_rfl
theorem Try.cellsB1 : Try.prog.cellsOf 4 = 1 := by kernel_rfl
theorem Try.cellsS1 : Try.prog.cellsOf 9 = 1 := by kernel_rfl
theorem Try.cellsI1 : Try.prog.cellsOf 3 = 1 := by kernel_rfl
theorem Try.cells2S : Try.prog.cellsOf 49 = 2 := by kernel_rfl
theorem Try.cells2I : Try.prog.cellsOf 50 = 2 := by kernel_rfl
set_option maxRecDepth 100000 in
theorem open_value {H : Type} {enc : TypeId × Value → H} {w : World} {r : Reach} {b0 : Nat} {v : Value} {d : DataW H} {p : List MemPlace}
    (hv0 : Value.okWide Try.prog w r b0 23 v) (h : DataW.Trod enc Try.prog w 0 (fun _ => true) true 23 v d p) :
    ∃ (O : Bool) (S : ByteArray) (L P : Int), v = .agg #[.bool O, .string S, .int .i64 L, .int .i64 P] ∧ S.size ≤ maxLen := by
  obtain ⟨cs, rfl, hsz⟩ := okWide_struct Try.underlying23 hv0
  rw [Try.cellsValue] at hsz
  obtain ⟨v0, v1, v2, v3, rfl⟩ := Go.Joins.array4 hsz
  obtain ⟨fuel, hf⟩ := h
  obtain ⟨y0, y1, y2, y3, n, _, _, h0, h1, h2, h3⟩ := Go.Joins.trod_struct4 Try.underlying23 hf
  simp only [Try.cellsB1, Try.cellsS1, Try.cellsI1] at h0 h1 h2 h3
  obtain ⟨O, e0, _⟩ := DataW.trod_bool Try.underlying4 h0
  obtain ⟨S, e1, _, k1⟩ := DataW.trod_string Try.underlying9 h1
  obtain ⟨L, e2, _, _⟩ := DataW.trod_int Try.underlying3 h2
  obtain ⟨P, e3, _, _⟩ := DataW.trod_int Try.underlying3 h3
  simp [Value.cells] at e0 e1 e2 e3
  subst e0 e1 e2 e3
  exact ⟨O, S, L, P, rfl, k1⟩
set_option maxRecDepth 100000 in
theorem open_bytes {H : Type} {enc : TypeId × Value → H} {w : World} {r : Reach} {b0 : Nat} {v : Value} {d : DataW H} {p : List MemPlace}
    (hv0 : Value.okWide Try.prog w r b0 25 v) (h : DataW.Trod enc Try.prog w 0 (fun _ => true) true 25 v d p) :
    ∃ (S : ByteArray) (k : Int), v = .agg #[.string S, .int .i64 k] ∧ S.size ≤ maxLen := by
  obtain ⟨v0, v1, y0, y1, n, rfl, _, _, h0, h1⟩ := Go.Joins.open_agg2 Try.underlying25 (by kernel_rfl) Try.cellsBytes hv0 h
  obtain ⟨S, e0, _, k0⟩ := DataW.trod_string Try.underlying9 h0
  obtain ⟨k, e1, _, _⟩ := DataW.trod_int Try.underlying3 h1
  simp at e0 e1
  subst e0 e1
  exact ⟨S, k, rfl, k0⟩
set_option maxRecDepth 100000 in
theorem open_cutting {H : Type} {enc : TypeId × Value → H} {w : World} {r : Reach} {b0 : Nat} {v : Value} {d : DataW H} {p : List MemPlace}
    (hv0 : Value.okWide Try.prog w r b0 46 v) (h : DataW.Trod enc Try.prog w 0 (fun _ => true) true 46 v d p) :
    ∃ (a c k : Int), v = .agg #[.int .u16 a, .int .u8 c, .int .i64 k] ∧ (Lit.int .u16 a).wf = true ∧ (Lit.int .u8 c).wf = true := by
  obtain ⟨v0, v1, v2, y0, y1, y2, n, rfl, _, _, h0, h1, h2⟩ := Go.Joins.open_agg3 Try.underlying46 (by kernel_rfl) Try.cellsCutting hv0 h
  obtain ⟨a, e0, _, k0⟩ := DataW.trod_int Try.underlying44 h0
  obtain ⟨c, e1, _, k1⟩ := DataW.trod_int Try.underlying5 h1
  obtain ⟨k, e2, _, _⟩ := DataW.trod_int Try.underlying3 h2
  simp at e0 e1 e2
  subst e0 e1 e2
  exact ⟨a, c, k, rfl, k0, k1⟩
set_option maxRecDepth 100000 in
theorem open_two {H : Type} {enc : TypeId × Value → H} {w : World} {r : Reach} {b0 : Nat} {v : Value} {d : DataW H} {p : List MemPlace}
    (hv0 : Value.okWide Try.prog w r b0 52 v) (h : DataW.Trod enc Try.prog w 0 (fun _ => true) true 52 v d p) :
    ∃ (s t : ByteArray) (i j : Int), v = .agg #[.string s, .string t, .int .i64 i, .int .i64 j] ∧ s.size ≤ maxLen ∧ t.size ≤ maxLen := by
  obtain ⟨cs, rfl, hsz⟩ := okWide_struct Try.underlying52 hv0
  rw [Try.cellsTwo] at hsz
  obtain ⟨v0, v1, v2, v3, rfl⟩ := Go.Joins.array4 hsz
  obtain ⟨fuel, hf⟩ := h
  obtain ⟨y0, y1, n, _, _, h0, h1⟩ := trod_struct2 Try.underlying52 hf
  simp only [Try.cells2S, Try.cells2I] at h0 h1
  obtain ⟨xs, m, _, _, _, hn, hall⟩ := DataW.trod_array Try.underlying49 h0
  obtain ⟨zs, m', _, _, _, hn', hall'⟩ := DataW.trod_array Try.underlying50 h1
  have g0 := hall 0 (by omega)
  have g1 := hall 1 (by omega)
  have q0 := hall' 0 (by omega)
  have q1 := hall' 1 (by omega)
  rw [Try.cellsS1] at g0 g1
  rw [Try.cellsI1] at q0 q1
  obtain ⟨x0, x1, rfl⟩ : ∃ a b, xs = [a, b] := by
    match xs, hn with
    | [a, b], _ => exact ⟨a, b, rfl⟩
  obtain ⟨z0, z1, rfl⟩ : ∃ a b, zs = [a, b] := by
    match zs, hn' with
    | [a, b], _ => exact ⟨a, b, rfl⟩
  simp [Value.cells] at g0 g1 q0 q1
  obtain ⟨s, e0, _, k0⟩ := DataW.trod_string Try.underlying9 g0
  obtain ⟨t, e1, _, k1⟩ := DataW.trod_string Try.underlying9 g1
  obtain ⟨i, e2, _, _⟩ := DataW.trod_int Try.underlying3 q0
  obtain ⟨j, e3, _, _⟩ := DataW.trod_int Try.underlying3 q1
  simp at e0 e1 e2 e3
  subst e0 e1 e2 e3
  exact ⟨s, t, i, j, rfl, k0, k1⟩
end Go.Proofs.Ytppnchjmbeinkaa
