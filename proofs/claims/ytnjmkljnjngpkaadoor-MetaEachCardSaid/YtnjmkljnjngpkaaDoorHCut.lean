/-
  What the laws of layer 7 share: cut texts, bodies filled up with bytes 0, heads compared.
-/
import Derived.Test.YtnjmkljnjngpkaaDoorHTells
namespace Go.Proofs.YtnjmkljnjngpkaaDoor.L7
open Go.RowKit
set_option linter.unusedVariables false
set_option linter.unusedSimpArgs false
/-- A full body's page. -/
theorem rest_full (A : ByteArray) (p : Nat) (h : A.size + 16 = p) : HP.rest A.data.toList p = A.data.toList := by
  unfold HP.rest
  rw [show p - 16 - A.data.toList.length = 0 by simp; omega]
  simp
end Go.Proofs.YtnjmkljnjngpkaaDoor.L7
