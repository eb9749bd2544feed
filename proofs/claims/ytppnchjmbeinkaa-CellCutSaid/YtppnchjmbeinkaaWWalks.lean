/-
  Walks of package word: functions that only compute.
-/
import Derived.Test.YtppnchjmbeinkaaChecked
import Derived.ProofKit
import Derived.Below
import Derived.Test.YtppnchjmbeinkaaWPlain
import Derived.Test.YtppnchjmbeinkaaWLen
import Derived.WalkKit
import Derived.WalkSpells
import Derived.WalkLawsBesides
namespace Go.Proofs.Ytppnchjmbeinkaa
open Go.RowKit

set_option maxHeartbeats 400000 in
theorem follow_any (b : Int) (w : World) (h0 : 0 ≤ b) (h1 : b ≤ 255) :
    Calls Try.prog 50 #[.int .u8 b] w fun e w' => e = .returned (.int .i64 (WP.flw b)) ∧ w = w' := by
  go_enter Try.func50, Try.ntmps50
  go_wp2
  all_goals
    go_ret
    refine ⟨ret_int ?_, rfl⟩
    simp only [beq_iff_eq, beq_eq_false_iff_ne, ne_eq] at *
    unfold WP.flw
    split
    · omega
    · split <;> omega

set_option maxHeartbeats 400000 in
theorem byteLen_any (x : Int) (w : World) (h0 : 0 ≤ x) (h1 : x ≤ 18446744073709551615) :
    Calls Try.prog 45 #[.int .u64 x] w fun e w' => e = .returned (.int .i64 (WP.bl x.toNat)) ∧ w = w' := by
  have hb : Lib.bitLen x.toNat ≤ 64 := Lib.bitLen_le _ 64 (by omega) (by omega)
  go_enter Try.func45, Try.ntmps45
  go_wp2_with (go_at_call 49; refine (len64_any _ _ h0 h1).mono ?_; rintro e w' ⟨rfl, rfl⟩)
  go_ret
  refine ⟨ret_int ?_, rfl⟩
  have := WP.bl_of x.toNat (by omega)
  omega

end Go.Proofs.Ytppnchjmbeinkaa
