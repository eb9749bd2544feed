/-
  How two metas are compared.
-/
import Derived.Test.YtnjmkljnjngpkaaDoorMBox
import Derived.WalkKit
import Derived.Deep.RegionHeld3
namespace Go.Proofs.YtnjmkljnjngpkaaDoor
open Go.RowKit
set_option linter.unusedVariables false
set_option linter.unusedSimpArgs false
theorem eqM (P G R L C P' G' R' L' C' : Int) (W : World) : (binOp .eql 23 (mv P G R L C) (mv P' G' R' L' C')).run Tryd.prog W = .ok (.bool (P == P' && G == G' && R == R' && L == L' && C == C')) W := by
  rw [run_eql_struct]
  simp [go_sem, Tryd.underlying23]
  by_cases h1 : P = P'
  · by_cases h2 : G = G'
    · by_cases h3 : R = R'
      · by_cases h4 : L = L'
        · by_cases h5 : C = C'
          · simp [h1, h2, h3, h4, h5]
          · simp [h1, h2, h3, h4, h5]
        · simp [h1, h2, h3, h4]
      · simp [h1, h2, h3]
    · simp [h1, h2]
  · simp [h1]
theorem eqD (P G R L C P' G' R' L' C' : Int) (W : World) : (binOp .eql 29 (mv P G R L C) (mv P' G' R' L' C')).run Tryd.prog W = .ok (.bool (P == P' && G == G' && R == R' && L == L' && C == C')) W := by
  rw [run_eql_struct]
  simp [go_sem, Tryd.underlying29]
  by_cases h1 : P = P'
  · by_cases h2 : G = G'
    · by_cases h3 : R = R'
      · by_cases h4 : L = L'
        · by_cases h5 : C = C'
          · simp [h1, h2, h3, h4, h5]
          · simp [h1, h2, h3, h4, h5]
        · simp [h1, h2, h3, h4]
      · simp [h1, h2, h3]
    · simp [h1, h2]
  · simp [h1]
theorem neM (P G R L C P' G' R' L' C' : Int) (W : World) : (binOp .neq 23 (mv P G R L C) (mv P' G' R' L' C')).run Tryd.prog W = .ok (.bool !(P == P' && G == G' && R == R' && L == L' && C == C')) W := by
  rw [run_neq_struct]
  simp [go_sem, Tryd.underlying23]
  by_cases h1 : P = P'
  · by_cases h2 : G = G'
    · by_cases h3 : R = R'
      · by_cases h4 : L = L'
        · by_cases h5 : C = C'
          · simp [h1, h2, h3, h4, h5]
          · simp [h1, h2, h3, h4, h5]
        · simp [h1, h2, h3, h4]
      · simp [h1, h2, h3]
    · simp [h1, h2]
  · simp [h1]
/-- Two metas are alike. -/
def alike (P G R L C P' G' R' L' C' : Int) : Bool := P == P' && G == G' && R == R' && L == L' && C == C'
theorem alike_iff {P G R L C P' G' R' L' C' : Int} : alike P G R L C P' G' R' L' C' = true ↔ P = P' ∧ G = G' ∧ R = R' ∧ L = L' ∧ C = C' := by
  unfold alike
  simp [and_assoc]
end Go.Proofs.YtnjmkljnjngpkaaDoor
