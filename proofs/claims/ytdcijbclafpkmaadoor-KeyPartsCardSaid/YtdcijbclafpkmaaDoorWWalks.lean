/-
  Walks of package word: functions that only compute.
-/
import Derived.Test.YtdcijbclafpkmaaDoorRows
import Derived.Test.YtdcijbclafpkmaaDoorWPlain
import Derived.Test.YtdcijbclafpkmaaDoorWLen
import Derived.WalkKit
import Derived.WalkSpells
import Derived.WalkLawsBesides
namespace Go.Proofs.YtdcijbclafpkmaaDoor
open Go.RowKit

set_option maxHeartbeats 400000 in
theorem follow_any (b : Int) (w : World) (h0 : 0 ≤ b) (h1 : b ≤ 255) :
    Calls Tryd.prog 84 #[.int .u8 b] w fun e w' => e = .returned (.int .i64 (WP.flw b)) ∧ w = w' := by
  go_enter Tryd.func84, Tryd.ntmps84
  go_wp2
  all_goals
    go_ret
    refine ⟨ret_int ?_, rfl⟩
    simp only [beq_iff_eq, beq_eq_false_iff_ne, ne_eq] at *
    unfold WP.flw
    split
    · omega
    · split <;> omega

set_option maxHeartbeats 400000 in
theorem byteLen_any (x : Int) (w : World) (h0 : 0 ≤ x) (h1 : x ≤ 18446744073709551615) :
    Calls Tryd.prog 79 #[.int .u64 x] w fun e w' => e = .returned (.int .i64 (WP.bl x.toNat)) ∧ w = w' := by
  have hb : Lib.bitLen x.toNat ≤ 64 := Lib.bitLen_le _ 64 (by omega) (by omega)
  go_enter Tryd.func79, Tryd.ntmps79
  go_wp2_with (go_at_call 82; refine (len64_any _ _ h0 h1).mono ?_; rintro e w' ⟨rfl, rfl⟩)
  go_ret
  refine ⟨ret_int ?_, rfl⟩
  have := WP.bl_of x.toNat (by omega)
  omega


end Go.Proofs.YtdcijbclafpkmaaDoor
