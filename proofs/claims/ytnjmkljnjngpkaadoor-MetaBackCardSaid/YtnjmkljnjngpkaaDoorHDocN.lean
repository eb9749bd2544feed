/-
  The walk of the document's number: bytes, the lowest first.
-/
import Derived.Test.YtnjmkljnjngpkaaDoorHDocR
namespace Go.Proofs.YtnjmkljnjngpkaaDoor.L7
open Go.RowKit
set_option linter.unusedVariables false

set_option maxHeartbeats 400000 in
theorem refNumber_any (s : ByteArray) (w : World) (h4 : s.size ≤ 4) :
    Calls Tryd.prog 32 #[.string s] w fun e w' => e = .returned (.int .i64 (Lib.leNat s.data.toList : Nat)) ∧ w = w' := by
  go_enter Tryd.func32, Tryd.ntmps32
  go_wp2_with fail
  go_loop [3, 4] (fun n i => ∃ q : Int, -1 ≤ q ∧ q + 1 ≤ s.size ∧ i = .int .i64 q ∧ n = .int .i64 (Lib.leNat (s.data.toList.drop (q + 1).toNat) : Nat)) (fun _ i => (intOf i + 1).toNat)
  case atStart => exact ⟨(s.size : Int) - 1, by omega, by omega, rfl, by rw [show ((s.size : Int) - 1 + 1).toNat = s.size by omega, List.drop_of_length_le (by simp)]; rfl⟩
  case round =>
    obtain ⟨q, hq0, hq3, rfl, rfl⟩ := hrel
    by_cases hlt : 0 ≤ q
    · obtain ⟨j, rfl⟩ := Int.eq_ofNat_of_zero_le hlt
      rw [show ((j : Int) + 1).toNat = j + 1 by omega]
      have hb := WP.leNat_lt (s.data.toList.drop (j + 1))
      have hbp : 256 ^ (s.data.toList.drop (j + 1)).length ≤ 256 ^ 3 := Nat.pow_le_pow_right (by omega) (by simp; omega)
      have HE : Hid (Lib.leNat (s.data.toList.drop j) = (s[j]'(by omega)).toNat + 256 * Lib.leNat (s.data.toList.drop (j + 1))) :=
        Lib.hid (by rw [WP.drop_cons s j (by omega)]; simp only [Lib.leNat])
      have hv : Lib.leNat (s.data.toList.drop (j + 1)) < 16777216 := by omega
      have hby := (s[j]'(by omega)).toNat_lt
      clear hb hbp
      generalize Lib.leNat (s.data.toList.drop (j + 1)) = v at *
      go_wp2_with fail
      go_round
      case rel =>
        refine ⟨(j : Int) - 1, by omega, by omega, rfl, ?_⟩
        rw [show ((j : Int) - 1 + 1).toNat = j by omega, HE.out]
        go_num
      case measure => simp [intOf]
    · obtain rfl : q = -1 := by omega
      go_wp2_with fail
      go_ret
      exact ⟨rfl, rfl⟩
end Go.Proofs.YtnjmkljnjngpkaaDoor.L7
