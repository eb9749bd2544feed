/-
  The walk of the document's Read (layer 1), at places that lie in the text.
-/
import Derived.Test.YtnjmkljnjngpkaaDoorHRef
namespace Go.Proofs.YtnjmkljnjngpkaaDoor.L7
open Go.RowKit
set_option linter.unusedVariables false
set_option linter.unusedSimpArgs false

theorem drop_take_cons (s : ByteArray) (a k : Nat) (h : a < s.size) : (s.data.toList.drop a).take (k + 1) = s[a] :: (s.data.toList.drop (a + 1)).take k := by
  rw [WP.drop_cons s a h, List.take_succ_cons]

set_option maxHeartbeats 400000 in
theorem rread_any (s : ByteArray) (i : Int) (w : World) (h0 : 0 ≤ i) (h1 : i + 4 ≤ s.size) (h2 : s.size ≤ maxLen) :
    Calls Tryd.prog 21 #[.string s, .int .i64 i] w fun e w' => e = .returned (.tuple #[.int .u32 (Lib.leNat ((s.data.toList.drop i.toNat).take 4)), .int .i64 0]) ∧ w = w' := by
  obtain ⟨a, rfl⟩ := Int.eq_ofNat_of_zero_le h0
  rw [Int.toNat_natCast]
  unfold maxLen at h2
  have d1 : decide ((a : Int) < 0) = false := decide_eq_false (by omega)
  have d2 : decide (s.size < a) = false := decide_eq_false (by omega)
  have d3 : decide ((s.size : Int) < a + 4) = false := decide_eq_false (by omega)
  go_enter Tryd.func21, Tryd.ntmps21
  go_wp2_with fail
  go_loop [6, 7] (fun n i => ∃ q : Int, -1 ≤ q ∧ q ≤ 3 ∧ i = .int .i64 q ∧ n = .int .u32 (Lib.leNat ((s.data.toList.drop (a + (q + 1).toNat)).take (3 - q).toNat) : Nat)) (fun _ i => (intOf i + 1).toNat)
  case atStart => exact ⟨3, by omega, by omega, rfl, by simp [Lib.leNat]⟩
  case round =>
    obtain ⟨q, hq0, hq3, rfl, rfl⟩ := hrel
    by_cases hlt : 0 ≤ q
    · obtain ⟨j, rfl⟩ := Int.eq_ofNat_of_zero_le hlt
      rw [show ((j : Int) + 1).toNat = j + 1 by omega, show (3 - (j : Int)).toNat = 3 - j by omega]
      have hb := WP.leNat_lt ((s.data.toList.drop (a + (j + 1))).take (3 - j))
      have hbp : 256 ^ ((s.data.toList.drop (a + (j + 1))).take (3 - j)).length ≤ 256 ^ 3 := Nat.pow_le_pow_right (by omega) (by simp; omega)
      have HE : Hid (Lib.leNat ((s.data.toList.drop (a + j)).take (3 - j + 1)) = (s[a + j]'(by omega)).toNat + 256 * Lib.leNat ((s.data.toList.drop (a + (j + 1))).take (3 - j))) :=
        Lib.hid (by rw [drop_take_cons s (a + j) (3 - j) (by omega)]; simp only [Lib.leNat]; rw [Nat.add_assoc])
      have hv : Lib.leNat ((s.data.toList.drop (a + (j + 1))).take (3 - j)) < 16777216 := by omega
      have hby := (s[a + j]'(by omega)).toNat_lt
      clear hb hbp
      generalize Lib.leNat ((s.data.toList.drop (a + (j + 1))).take (3 - j)) = v at *
      go_wp2_with fail
      go_round
      case rel =>
        refine ⟨(j : Int) - 1, by omega, by omega, rfl, ?_⟩
        rw [show ((j : Int) - 1 + 1).toNat = j by omega, show (3 - ((j : Int) - 1)).toNat = 3 - j + 1 by omega, HE.out]
        go_num
      case measure => simp [intOf]
    · obtain rfl : q = -1 := by omega
      go_wp2_with fail
      go_ret2
      exact ⟨rfl, rfl⟩
end Go.Proofs.YtnjmkljnjngpkaaDoor.L7
