/-
  Walks of word.Put, word.told.
-/
import Derived.Test.YtppnchjmbeinkaaWWalks
import Derived.Test.YtppnchjmbeinkaaWHigh
namespace Go.Proofs.Ytppnchjmbeinkaa
open Go.RowKit

set_option maxHeartbeats 400000 in
theorem put_any (n : Int) (w : World) (h0 : 0 ≤ n) (h1 : n ≤ 18446744073709551615) :
    Calls Try.prog 37 #[.int .u64 n] w fun e w' => e = .returned (.string ⟨(WP.put n.toNat).toArray⟩) ∧ Below w.heap.size w w' := by
  rcases (show n ≤ 240 ∨ (240 < n ∧ n ≤ 2287) ∨ (2287 < n ∧ n ≤ 67823) ∨ 67823 < n by omega) with h | h | h | h
  · have Hp := Lib.hid (WP.put_1 n.toNat (by omega))
    go_enter Try.func37, Try.ntmps37
    go_wp2_with fail
    refine (highFirst_any _ _ _ (by omega) (by omega) (by omega) (by omega)).mono ?_
    rintro e w' ⟨rfl, hb⟩
    go_wp2_with fail
    go_ret
    exact ⟨by rw [Hp.out]; rfl, hb⟩
  · have Hp := Lib.hid (WP.put_2 n.toNat (by omega) (by omega))
    go_enter Try.func37, Try.ntmps37
    go_wp2_with fail
    refine (highFirst_any _ _ _ (by omega) (by omega) (by omega) (by omega)).mono ?_
    rintro e w' ⟨rfl, hb⟩
    go_wp2_with fail
    go_ret
    refine ⟨?_, hb⟩
    rw [Hp.out, show 61696 + (n.toNat - 240) = (61696 + (n - 240)).toNat by omega]
    rfl
  · have Hp := Lib.hid (WP.put_3 n.toNat (by omega) (by omega))
    go_enter Try.func37, Try.ntmps37
    go_wp2_with fail
    refine (highFirst_any _ _ _ (by omega) (by omega) (by omega) (by omega)).mono ?_
    rintro e w' ⟨rfl, hb⟩
    go_wp2_with fail
    go_ret
    refine ⟨?_, hb⟩
    rw [Hp.out, show 16318464 + (n.toNat - 2288) = (16318464 + (n - 2287 - 1)).toNat by omega]
    rfl
  · have Hp := Lib.hid (WP.put_4 n.toNat (by omega))
    have hb8 := WP.bl_le8 n.toNat
    have hb3 := WP.bl_ge3 n.toNat (by omega)
    go_enter Try.func37, Try.ntmps37
    go_wp2_with fail
    refine (byteLen_any _ _ (by omega) (by omega)).mono ?_
    rintro e w' ⟨rfl, rfl⟩
    go_wp2_with fail
    refine (highFirst_any _ _ _ (by omega) (by omega) (by omega) (by omega)).mono ?_
    rintro e w1 ⟨rfl, hb⟩
    go_wp2_with fail
    refine (highFirst_any _ _ _ (by omega) (by omega) (by omega) (by omega)).mono ?_
    rintro e w2 ⟨rfl, hb2⟩
    have hl : ¬ 9223372036854775807 < (Lib.beBytes 1 (247 + WP.bl n.toNat)).length + (Lib.beBytes (WP.bl n.toNat) n.toNat).length := by rw [Lib.beBytes_length, Lib.beBytes_length]; omega
    go_wp2_with fail
    go_ret
    refine ⟨?_, hb.trans (hb2.mono hb.size)⟩
    rw [Hp.out, ← WP.bytes_add]
    rfl

set_option maxHeartbeats 400000 in
theorem told_any (b : Int) (s : ByteArray) (w : World) (h0 : 0 ≤ b) (h1 : b ≤ 255) (hs : (s.size : Int) = WP.flw b) :
    Calls Try.prog 51 #[.int .u8 b, .string s] w fun e w' => e = .returned (.int .u64 (WP.told b.toNat s.data.toList)) ∧ w = w' := by
  have HS := Lib.hid hs
  clear hs
  have hs : s.size ≤ 8 := by have := HS.out; unfold WP.flw at this; split at this; omega; split at this <;> omega
  go_enter Try.func51, Try.ntmps51
  go_wp2
  go_loop [5, 9] (fun n i => ∃ k : Nat, k ≤ s.size ∧ i = .int .i64 k ∧ n = .int .u64 (Lib.beNat (s.data.toList.take k) : Nat)) (fun _ i => s.size - (intOf i).toNat)
  case atStart => exact ⟨0, Nat.zero_le _, rfl, rfl⟩
  case round =>
    obtain ⟨k, hk, rfl, rfl⟩ := hrel
    have hlt0 := WP.beNat_lt (s.data.toList.take k)
    have hl : (s.data.toList.take k).length = k := by simp; omega
    rw [hl] at hlt0
    by_cases hlt : k < s.size
    · have hp := WP.pow256 k (by omega)
      have HB := Lib.hid (WP.beNat_snoc (s.data.toList.take k) s[k])
      rw [← WP.take_snoc s k hlt] at HB
      have HO := Lib.hid (WP.or_hi (Lib.beNat (s.data.toList.take k) : Nat) s[k].toNat (by omega) (by omega) (by omega) (by have := s[k].toNat_lt; omega))
      have hby := s[k].toNat_lt
      clear hl
      generalize Lib.beNat (s.data.toList.take k) = v at *
      go_wp2
      go_round
      case rel =>
        refine ⟨k + 1, by omega, by go_num, ?_⟩
        rw [HB.out, HO.out]
        go_num
      case measure => simp [intOf]; omega
    · obtain rfl : k = s.size := by omega
      have ht : s.data.toList.take s.size = s.data.toList := List.take_of_length_le (by simp)
      rw [ht] at hlt0 ⊢
      have HV : Hid (∃ u, u = Lib.beNat s.data.toList) := Lib.hid ⟨_, rfl⟩
      have hf := HS.out
      clear ht hl
      unfold WP.flw at hf
      rcases (show b < 241 ∨ (241 ≤ b ∧ b < 249) ∨ b = 249 ∨ 249 < b by omega) with h | h | h | h
      · have H := Lib.hid (WP.told_1 b.toNat s.data.toList (by omega))
        clear hf
        generalize Lib.beNat s.data.toList = v at *
        go_wp2
        go_ret
        exact ⟨ret_int (by rw [H.out]; omega), rfl⟩
      · have H := Lib.hid (WP.told_2 b.toNat s.data.toList (by omega) (by omega))
        rw [if_neg (by omega), if_pos (by omega)] at hf
        obtain hf : s.size = 1 := by omega
        rw [hf] at hlt0
        clear hf
        generalize Lib.beNat s.data.toList = v at *
        go_wp2
        go_ret
        exact ⟨ret_int (by rw [H.out]; omega), rfl⟩
      · have H := Lib.hid (WP.told_3 b.toNat s.data.toList (by omega))
        rw [if_neg (by omega), if_neg (by omega)] at hf
        obtain hf : s.size = 2 := by omega
        rw [hf] at hlt0
        clear hf
        generalize Lib.beNat s.data.toList = v at *
        have hne : (b == 249) = true := beq_iff_eq.2 h
        have hge : 249 ≤ b := by omega
        clear h
        go_wp2
        go_ret
        exact ⟨ret_int (by rw [H.out]; omega), rfl⟩
      · have H := Lib.hid (WP.told_4 b.toNat s.data.toList (by omega))
        clear hf
        have hne : (b == 249) = false := beq_eq_false_iff_ne.2 (by omega)
        generalize Lib.beNat s.data.toList = v at *
        go_wp2
        go_ret
        exact ⟨ret_int (by rw [H.out]), rfl⟩

end Go.Proofs.Ytppnchjmbeinkaa
