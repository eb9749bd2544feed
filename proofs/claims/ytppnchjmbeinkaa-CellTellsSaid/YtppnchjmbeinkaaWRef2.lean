/-
  Walks of the document's own answers of layer 1: Put, Read, Get.
-/
import Derived.Test.YtppnchjmbeinkaaWRef
namespace Go.Proofs.Ytppnchjmbeinkaa
open Go.RowKit
set_option linter.unusedVariables false

theorem conv_own {P : Program} {w : World} {base : Nat} {t e s : TypeId} {g n cap : Nat} {l : List UInt8} (ht : P.underlying t = some (.slice e)) (he : P.underlying e = some (.int .u8)) (hs : P.underlying s = some .string)
    (h : w.ownsRow base e 1 (.slice (some ⟨g, 0, none⟩) n cap) n (byteCells l)) (hl : l.length = n) : (convert t s (.slice (some ⟨g, 0, none⟩) n cap)).run P w = .ok (.string ⟨l.toArray⟩) w := by
  subst hl
  refine run_convert_bytes_back w t s e _ cap l ht he hs (fun j hj => ?_)
  rw [addr_at, h.cellAt j (by omega)]
  simp [byteCells, hj]

set_option maxHeartbeats 400000 in
theorem rput_4 (n : Int) (w : World) (h0 : 67823 < n) (h1 : n ≤ 18446744073709551615) :
    Calls Try.prog 22 #[.int .u64 n] w fun e w' => e = .returned (.string ⟨(WP.put n.toNat).toArray⟩) ∧ Below w.heap.size w w' := by
  obtain ⟨v, rfl⟩ := Int.eq_ofNat_of_zero_le (show 0 ≤ n by omega)
  rw [Int.toNat_natCast]
  have h8 := WP.bl_le8 v
  have h3 := WP.bl_ge3 v (by omega)
  have Hp := Lib.hid (WP.put_4 v (by omega))
  go_enter Try.func22, Try.ntmps22
  go_wp2_with fail
  refine (digits_any v w (by omega) (by omega)).mono ?_
  rintro e w1 ⟨g, cap, rfl, hown, hb⟩
  have hc := conv_new w1 [247 + (WP.bl v : Int)] 47 5 9 Try.underlying47 Try.underlying5 Try.underlying9
  simp only [List.length_cons, List.length_nil, List.map_cons, List.map_nil, Nat.zero_add] at hc
  have hc2 := conv_own (w := w1.alloc (.cells #[.int .u8 (247 + (WP.bl v : Int))] 5)) (s := 9) (t := 47) Try.underlying47 Try.underlying5 Try.underlying9 (hown.alloc _) (Lib.beBytes_length _ _)
  have hl : ¬ 9223372036854775807 < (strOfNums [247 + (WP.bl v : Int)]).size + (Lib.beBytes (WP.bl v) v).length := by rw [strOfNums_size, Lib.beBytes_length]; simp; omega
  go_wp2_with fail
  go_ret
  refine ⟨?_, hb.alloc hb.size _⟩
  rw [Hp.out, ← WP.bytes_add, WP.be1]
  have e : strOfNums [247 + (WP.bl v : Int)] = ⟨[((247 + WP.bl v) % 256).toUInt8].toArray⟩ := by
    unfold strOfNums
    simp only [List.map_cons, List.map_nil]
    rw [u8n _ ((247 + WP.bl v) % 256) (by omega)]
  rw [← e]
  rfl

theorem rput_any (n : Int) (w : World) (h0 : 0 ≤ n) (h1 : n ≤ 18446744073709551615) :
    Calls Try.prog 22 #[.int .u64 n] w fun e w' => e = .returned (.string ⟨(WP.put n.toNat).toArray⟩) ∧ Below w.heap.size w w' := by
  rcases (show n ≤ 240 ∨ (240 < n ∧ n ≤ 2287) ∨ (2287 < n ∧ n ≤ 67823) ∨ 67823 < n by omega) with h | h | h | h
  · exact rput_1 n w h0 h
  · exact rput_2 n w h.1 h.2
  · exact rput_3 n w h.1 h.2
  · exact rput_4 n w h h1

theorem drop_take_cons (s : ByteArray) (a k : Nat) (h : a < s.size) : (s.data.toList.drop a).take (k + 1) = s[a] :: (s.data.toList.drop (a + 1)).take k := by
  rw [WP.drop_cons s a h, List.take_succ_cons]

set_option maxHeartbeats 400000 in
theorem rread_any (s : ByteArray) (i : Int) (w : World) (h0 : 0 ≤ i) (h1 : i + 4 ≤ s.size) (h2 : s.size ≤ maxLen) :
    Calls Try.prog 33 #[.string s, .int .i64 i] w fun e w' => e = .returned (.tuple #[.int .u32 (Lib.leNat ((s.data.toList.drop i.toNat).take 4)), .int .i64 0]) ∧ w = w' := by
  obtain ⟨a, rfl⟩ := Int.eq_ofNat_of_zero_le h0
  rw [Int.toNat_natCast]
  unfold maxLen at h2
  have d1 : decide ((a : Int) < 0) = false := decide_eq_false (by omega)
  have d2 : decide (s.size < a) = false := decide_eq_false (by omega)
  have d3 : decide ((s.size : Int) < a + 4) = false := decide_eq_false (by omega)
  go_enter Try.func33, Try.ntmps33
  go_wp2_with fail
  go_loop [6, 7] (fun n i => ∃ q : Int, -1 ≤ q ∧ q ≤ 3 ∧ i = .int .i64 q ∧ n = .int .u32 (Lib.leNat ((s.data.toList.drop (a + (q + 1).toNat)).take (3 - q).toNat) : Nat)) (fun _ i => (intOf i + 1).toNat)
  case atStart => exact ⟨3, by omega, by omega, rfl, by simp [Lib.leNat]⟩
  case round =>
    obtain ⟨q, hq0, hq3, rfl, rfl⟩ := hrel
    by_cases hlt : 0 ≤ q
    · obtain ⟨j, rfl⟩ := Int.eq_ofNat_of_zero_le hlt
      rw [show ((j : Int) + 1).toNat = j + 1 by omega, show (3 - (j : Int)).toNat = 3 - j by omega]
      have hb := WP.leNat_lt ((s.data.toList.drop (a + (j + 1))).take (3 - j))
      have hbp : 256 ^ ((s.data.toList.drop (a + (j + 1))).take (3 - j)).length ≤ 256 ^ 3 := Nat.pow_le_pow_right (by omega) (by simp; omega)
      have HE : Hid (Lib.leNat ((s.data.toList.drop (a + j)).take (3 - j + 1)) = (s[a + j]'(by omega)).toNat + 256 * Lib.leNat ((s.data.toList.drop (a + (j + 1))).take (3 - j))) :=
        Lib.hid (by rw [drop_take_cons s (a + j) (3 - j) (by omega)]; simp only [Lib.leNat]; rw [Nat.add_assoc])
      have hv : Lib.leNat ((s.data.toList.drop (a + (j + 1))).take (3 - j)) < 16777216 := by omega
      have hby := (s[a + j]'(by omega)).toNat_lt
      clear hb hbp
      generalize Lib.leNat ((s.data.toList.drop (a + (j + 1))).take (3 - j)) = v at *
      go_wp2_with fail
      go_round
      case rel =>
        refine ⟨(j : Int) - 1, by omega, by omega, rfl, ?_⟩
        rw [show ((j : Int) - 1 + 1).toNat = j by omega, show (3 - ((j : Int) - 1)).toNat = 3 - j + 1 by omega, HE.out]
        go_num
      case measure => simp [intOf]
    · obtain rfl : q = -1 := by omega
      go_wp2_with fail
      go_ret2
      exact ⟨rfl, rfl⟩

set_option maxHeartbeats 400000 in
theorem rread_arg (s : ByteArray) (i : Int) (w : World) (h1 : i < 0 ∨ (s.size : Int) < i) :
    Calls Try.prog 33 #[.string s, .int .i64 i] w fun e w' => e = .returned (.tuple #[.int .u32 0, .int .i64 4]) ∧ w = w' := by
  rcases h1 with h1 | h1
  all_goals
    go_enter Try.func33, Try.ntmps33
    go_wp2_with fail
    go_ret2
    exact ⟨rfl, rfl⟩

set_option maxHeartbeats 400000 in
theorem rread_short (s : ByteArray) (i : Int) (w : World) (h0 : 0 ≤ i) (h1 : i ≤ s.size) (h3 : (s.size : Int) < i + 4) (h2 : s.size ≤ 1000000) :
    Calls Try.prog 33 #[.string s, .int .i64 i] w fun e w' => e = .returned (.tuple #[.int .u32 0, .int .i64 7]) ∧ w = w' := by
  go_enter Try.func33, Try.ntmps33
  go_wp2_with fail
  go_ret2
  exact ⟨rfl, rfl⟩

end Go.Proofs.Ytppnchjmbeinkaa
