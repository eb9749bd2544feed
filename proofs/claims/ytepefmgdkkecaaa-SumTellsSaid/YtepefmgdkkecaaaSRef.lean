/-
  Walks of the document's answers of layer 2: one, More, Sum, Join.
-/
import Derived.Test.YtepefmgdkkecaaaSLaws
namespace Go.Proofs.Ytepefmgdkkecaaa
open Go.RowKit

set_option maxHeartbeats 400000 in
theorem refOne_any (r : Nat) (c : UInt8) (w : World) (hr : r < 4294967296) :
    Calls Try.prog 21 #[.int .u32 r, .int .u8 c.toNat] w fun e w' => e = .returned (.int .u32 (SP.one r c : Nat)) ∧ w = w' := by
  have hx := xor32 r c.toNat hr (SP.u8_lt c)
  have hcl := c.toNat_lt
  have hq := SP.xor_lt r c.toNat hr (SP.u8_lt c)
  have HO := Lib.hid (show SP.one r c = SP.bits (r ^^^ c.toNat) 8 from rfl)
  rw [HO.out]
  generalize r ^^^ c.toNat = Q at hx hq
  go_enter Try.func21, Try.ntmps21
  go_wp2
  go_loop [0, 5] (fun g i => ∃ k : Nat, k ≤ 8 ∧ i = .int .i64 k ∧ g = .int .u32 (SP.bits Q k : Nat)) (fun _ i => 8 - (intOf i).toNat)
  case atStart => exact ⟨0, Nat.zero_le _, rfl, rfl⟩
  case round =>
    obtain ⟨k, hk, rfl, rfl⟩ := hrel
    clear hx
    have hlt := SP.bits_lt _ hq k
    have HB := Lib.hid (show SP.bits Q (k + 1) = SP.bit (SP.bits Q k) from rfl)
    by_cases h8 : k < 8
    · revert hlt HB
      generalize SP.bits Q k = R
      intro hlt HB
      by_cases h2 : R % 2 = 1
      · have H2 := Lib.hid h2
        have hd : ((R : Int) % 2 == 1) = true := by rw [beq_iff_eq]; omega
        clear h2
        have hx : bits .xor .u32 ((R : Int) / 2) 2197175160 = ((R / 2 ^^^ 2197175160 : Nat) : Int) := xor32 (R / 2) 2197175160 (by omega) (by omega)
        go_wp2
        go_round
        case rel =>
          refine ⟨k + 1, by omega, by go_num, ?_⟩
          rw [HB.out, show SP.bit R = R / 2 ^^^ 2197175160 by unfold SP.bit; rw [if_pos H2.out]]
        case measure => simp [intOf]; omega
      · have H0 : Hid (R % 2 = 0) := Lib.hid (by omega)
        have hd : ((R : Int) % 2 == 1) = false := by rw [beq_eq_false_iff_ne]; omega
        clear h2
        go_wp2
        go_round
        case rel =>
          refine ⟨k + 1, by omega, by go_num, ?_⟩
          rw [HB.out, show SP.bit R = R / 2 by unfold SP.bit; rw [if_neg (by rw [H0.out]; omega)]]
          go_num
        case measure => simp [intOf]; omega
    · obtain rfl : k = 8 := by omega
      go_wp2
      go_ret
      exact ⟨rfl, rfl⟩

theorem sub32 (c : Nat) (hc : c < 4294967296) : (4294967295 : Int) - c = (SP.inv c : Nat) := by rw [SP.inv_sub c hc]; omega

set_option maxHeartbeats 400000 in
theorem refMore_any (c : Nat) (s : ByteArray) (w : World) (hc : c < 4294967296) (hs : s.size ≤ maxLen) :
    Calls Try.prog 13 #[.int .u32 c, .string s] w fun e w' => e = .returned (.int .u32 (SP.more c s.data.toList : Nat)) ∧ w = w' := by
  unfold maxLen at hs
  have hx := sub32 c hc
  have hi := SP.inv_lt c hc
  have HM := Lib.hid (show SP.more c s.data.toList = SP.inv (SP.run (SP.inv c) s.data.toList) from rfl)
  rw [HM.out]
  generalize SP.inv c = r at hx hi
  clear HM
  go_enter Try.func13, Try.ntmps13
  go_wp2
  go_loop [5, 6] (fun g i => ∃ k : Nat, k ≤ s.size ∧ i = .int .i64 k ∧ g = .int .u32 (SP.run r (s.data.toList.take k) : Nat)) (fun _ i => s.size - (intOf i).toNat)
  case atStart => exact ⟨0, Nat.zero_le _, rfl, rfl⟩
  case round =>
    obtain ⟨k, hk, rfl, rfl⟩ := hrel
    clear hx
    have hlt := SP.run_lt (s.data.toList.take k) r hi
    by_cases h : k < s.size
    · have HN := Lib.hid (run_next r s k h)
      revert hlt HN
      generalize SP.run r (s.data.toList.take k) = R
      intro hlt HN
      go_wp2_with fail
      refine (refOne_any R s[k] w hlt).mono ?_
      rintro e w2 ⟨rfl, rfl⟩
      rw [HN.out]
      go_wp2_with fail
      go_round
      case rel => exact ⟨k + 1, by omega, by go_num, rfl⟩
      case measure => simp [intOf]; omega
    · obtain rfl : k = s.size := by omega
      have hx := sub32 _ hlt
      have hi' := SP.inv_lt _ hlt
      rw [take_all] at hx hi' ⊢
      go_wp2_with fail
      go_ret
      exact ⟨rfl, rfl⟩

theorem refSum_any (s : ByteArray) (w : World) (hs : s.size ≤ maxLen) :
    Calls Try.prog 9 #[.string s] w fun e w' => e = .returned (.int .u32 (SP.sum s.data.toList : Nat)) ∧ w = w' := by
  go_enter Try.func9, Try.ntmps9
  go_wp2_with fail
  refine (refMore_any 0 s _ (by omega) hs).mono ?_
  rintro e w1 ⟨rfl, rfl⟩
  go_wp2_with fail
  go_ret
  exact ⟨rfl, rfl⟩

def strLen : Value → Nat | .string s => s.size | _ => 0
theorem more_zeros (c d j : Nat) : SP.more (SP.more c (List.replicate d 0)) (List.replicate j 0) = SP.more c (List.replicate (d + j) 0) := by
  rw [SP.more_more, List.replicate_append_replicate]
theorem snoc_zero (Z : ByteArray) (j : Nat) (h : Z.data.toList = List.replicate j 0) : (Z ++ ⟨#[0]⟩).data.toList = List.replicate (j + 1) 0 := by
  rw [app_data, h]
  exact (List.replicate_succ' ).symm
theorem size_zeros (Z : ByteArray) (j : Nat) (h : Z.data.toList = List.replicate j 0) : Z.size = j := by
  have h := congrArg List.length h
  simpa using h

set_option maxHeartbeats 1000000 in
theorem refJoin_any (a b : Nat) (n : Int) (w : World) (ha : a < 4294967296) (hb : b < 4294967296) :
    Calls Try.prog 15 #[.int .u32 a, .int .u32 b, .int .i64 n] w fun e w' => e = .returned (.int .u32 (SP.join a b (clampN n) : Nat)) ∧ w = w' := by
  have hm := clampN_le n
  have e1 : max 0 (min n 100000) = (clampN n : Int) := by unfold clampN; omega
  generalize clampN n = m at hm e1
  go_enter Try.func15, Try.ntmps15
  go_wp2_with fail
  clear e1
  go_loop [8, 9, 10] (fun x y l => ∃ d left : Nat, d ≤ m ∧ left = m - d ∧ l = .int .i64 left ∧ x = .int .u32 (SP.more a (List.replicate d 0) : Nat) ∧ y = .int .u32 (SP.more 0 (List.replicate d 0) : Nat)) (fun _ _ l => (intOf l).toNat)
  case atStart => exact ⟨0, m, Nat.zero_le _, by omega, rfl, by rw [List.replicate_zero, SP.more_none], rfl⟩
  case round =>
    obtain ⟨d, left, hd, hl, rfl, rfl, rfl⟩ := hrel
    have HL := Lib.hid hl
    have hlm : left ≤ m := by omega
    clear hl
    have hx := SP.more_lt a (List.replicate d 0) ha
    have hy := SP.more_lt 0 (List.replicate d 0) (by omega)
    by_cases h0 : 0 < left
    · have HA := Lib.hid (more_zeros a d)
      have HB := Lib.hid (more_zeros 0 d)
      revert hx hy HA HB
      generalize SP.more a (List.replicate d 0) = X
      generalize SP.more 0 (List.replicate d 0) = Y
      intro hx hy HA HB
      go_wp2_with fail
      go_loop [7] (fun z => ∃ (Z : ByteArray) (j : Nat), z = .string Z ∧ Hid (Z.data.toList = List.replicate j 0) ∧ j ≤ left ∧ j ≤ 1000 ∧ Z.size ≤ j ∧ j ≤ Z.size) (fun z => 1000 - strLen z)
      case atStart => exact ⟨⟨#[]⟩, 0, rfl, Lib.hid rfl, Nat.zero_le _, Nat.zero_le _, Nat.le_refl _, Nat.le_refl _⟩
      case round =>
        obtain ⟨Z, j, rfl, hZ, h1, h2, h3, h4⟩ := hrel
        by_cases h5 : Z.size < left
        · have d5 : decide (Z.size < left) = true := by simpa using h5
          by_cases h6 : Z.size < 1000
          · have d6 : decide ((Z.size : Int) < 1000) = true := by simp; omega
            go_wp2_with fail
            go_round
            case rel => exact ⟨_, j + 1, rfl, Lib.hid (snoc_zero Z j hZ.out), by omega, by omega, Nat.le_of_eq (size_zeros _ _ (snoc_zero Z j hZ.out)), Nat.le_of_eq (size_zeros _ _ (snoc_zero Z j hZ.out)).symm⟩
            case measure => show 1000 - (Z ++ ⟨#[0]⟩).size < 1000 - Z.size; have := size_zeros _ _ (snoc_zero Z j hZ.out); omega
          · have d6 : decide ((Z.size : Int) < 1000) = false := by simp; omega
            obtain rfl : j = Z.size := by omega
            have hj0 : 0 < Z.size := by omega
            have hzl : Z.size ≤ maxLen := by unfold maxLen; omega
            go_wp2_with fail
            refine (refMore_any X Z _ hx hzl).mono ?_
            rintro e w1 ⟨rfl, rfl⟩
            go_wp2_with fail
            refine (refMore_any Y Z _ hy hzl).mono ?_
            rintro e w2 ⟨rfl, rfl⟩
            go_wp2_with fail
            go_round
            case rel =>
              have hL := HL.out
              refine ⟨d + Z.size, left - Z.size, by omega, by omega, congrArg (Value.int .i64) (by omega), ?_, ?_⟩
              · rw [hZ.out, HA.out]
              · rw [hZ.out, HB.out]
            case measure => simp [intOf]; omega
        · have d5 : decide (Z.size < left) = false := by simpa using h5
          obtain rfl : j = Z.size := by omega
          have hj0 : 0 < Z.size := by omega
          have hzl : Z.size ≤ maxLen := by unfold maxLen; omega
          go_wp2_with fail
          refine (refMore_any X Z _ hx hzl).mono ?_
          rintro e w1 ⟨rfl, rfl⟩
          go_wp2_with fail
          refine (refMore_any Y Z _ hy hzl).mono ?_
          rintro e w2 ⟨rfl, rfl⟩
          go_wp2_with fail
          go_round
          case rel =>
            have hL := HL.out
            refine ⟨d + Z.size, left - Z.size, by omega, by omega, congrArg (Value.int .i64) (by omega), ?_, ?_⟩
            · rw [hZ.out, HA.out]
            · rw [hZ.out, HB.out]
          case measure => simp [intOf]; omega
    · obtain rfl : left = 0 := by omega
      have hL := HL.out
      obtain rfl : d = m := by omega
      have HJ := Lib.hid (SP.join_made a b (List.replicate d 0))
      have hx1 := xor32 (SP.more a (List.replicate d 0)) b hx hb
      have hx2 := xor32 (SP.more a (List.replicate d 0) ^^^ b) (SP.more 0 (List.replicate d 0)) (SP.xor_lt _ _ hx hb) hy
      clear hL
      go_wp2_with fail
      go_ret
      refine ⟨?_, rfl⟩
      have h := HJ.out
      rw [List.length_replicate, Nat.xor_comm b] at h
      rw [← h]
      rfl

end Go.Proofs.Ytepefmgdkkecaaa
