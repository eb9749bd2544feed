/-
  Walks of the laws' own Ref, of the document's Right.
-/
import Derived.Test.YtdcijbclafpkmaaDoorCCut
namespace Go.Proofs.YtdcijbclafpkmaaDoor
open Go.RowKit
set_option linter.unusedVariables false
set_option linter.unusedSimpArgs false

theorem ref_any (K I U : Int) (S : ByteArray) (w : World) : Calls Tryd.prog 25 #[.agg #[.int .i64 K, .int .i64 I, .int .u64 U, .string S]] w fun e w' => e = .returned (.agg #[.int .i64 K, .int .i64 I, .int .u64 U, .string S]) ∧ Below w.heap.size w w' := by
  go_enter Tryd.func25, Tryd.ntmps25
  go_wp2_with fail
  refine bodyPost_ret (v := .agg #[.int .i64 K, .int .i64 I, .int .u64 U, .string S]) (by simp [results, Tryd.results25, go_sem]) rfl ⟨rfl, below_alloc2 _ _ _⟩

set_option maxHeartbeats 2000000 in
theorem rright_any (K I U : Int) (S : ByteArray) (w : World) (h0 : 0 ≤ U) : Calls Tryd.prog 28 #[.agg #[.int .i64 K, .int .i64 I, .int .u64 U, .string S]] w fun e w' => e = .returned (.bool (rt K I U S)) ∧ Below w.heap.size w w' := by
  have hS : S.toList.isEmpty = decide (S.data.toList = []) := by rw [Lib.toList_data]; cases S.data.toList <;> rfl
  obtain ⟨r, HR⟩ : ∃ r, Hid (r = rt K I U S) := ⟨_, Lib.hid rfl⟩
  rw [← HR.out]
  go_enter Tryd.func28, Tryd.ntmps28
  go_wp2_with fail
  all_goals
    go_ret
    refine ⟨?_, below_alloc _ _⟩
    have hr := HR.out
    clear HR
    unfold rt CP.Right at hr
    simp only at hr
    subst hr
    show Ending.returned (.bool _) = Ending.returned (.bool _)
    simp_all <;> first | (intro h; omega) | (rw [Bool.eq_iff_iff]; simp)
end Go.Proofs.YtdcijbclafpkmaaDoor
