/-
  The walk of the law WordFour.
-/
import Derived.Test.YtbaihnjlplmldaaWFixed
import Derived.Test.YtbaihnjlplmldaaFrame
import Derived.Test.YtbaihnjlplmldaaWEdges
namespace Go.Proofs.Ytbaihnjlplmldaa
open Go.RowKit
set_option linter.unusedVariables false

theorem i64_bd {n : Int} (h : (Lit.int .i64 n).wf = true) : -9223372036854775808 ≤ n ∧ n ≤ 9223372036854775807 := by
  have := bounds_i64 h
  omega

theorem below_of_drew {w w2 : World} (h : Below w.drew.heap.size w.drew w2) : Below w.heap.size w w2 := ⟨h.os, h.tape, h.output, h.size, h.block⟩

theorem cut_min (s : ByteArray) (c : Int) (hc : 0 ≤ c) : ∃ m : Nat, min (s.size : Int) c = m ∧ (m : Int) ≤ c ∧ m ≤ s.size ∧ min m s.size = m ∧ (s.extract 0 m).size = m := by
  refine ⟨min s.size c.toNat, by omega, by omega, by omega, by omega, ?_⟩
  simp

set_option maxHeartbeats 1000000 in
theorem wordFour_walk (n : Int) (s : ByteArray) (a : Int) (w : World) (wn : (Lit.int .u32 n).wf = true) (ws : s.size ≤ maxLen) (wa : (Lit.int .u8 a).wf = true) :
    Calls Try.prog 7 #[.int .u32 n, .string s, .int .u8 a] w fun e w' => e = .returned (.bool true) ∧ Below w.heap.size w w' := by
  obtain ⟨hn0, hn1⟩ := bounds_u32 wn
  obtain ⟨ha0, ha1⟩ := bounds_u8 wa
  unfold maxLen at ws
  clear wn wa
  obtain ⟨m, hm, hm60, hms, hm2, hts⟩ := cut_min s 60 (by omega)
  obtain ⟨k, hk⟩ : ∃ k : Nat, a % ((m : Int) + 1) = k := ⟨(a % ((m : Int) + 1)).toNat, by have := Int.emod_nonneg a (show ((m : Int) + 1) ≠ 0 by omega); omega⟩
  have hkm : k ≤ m := by have := Int.emod_lt_of_pos a (show 0 < ((m : Int) + 1) by omega); omega
  have HTS := Lib.hid hts
  clear hts
  obtain ⟨B, HB⟩ : ∃ B : ByteArray, Hid (B = ⟨(Lib.leBytes 4 n.toNat).toArray⟩) := ⟨_, Lib.hid rfl⟩
  have HB4 : Hid (B.size = 4) := Lib.hid (by rw [HB.out]; simp [ByteArray.size, Lib.leBytes_length])
  have hB4 : B.size ≤ 4 := Nat.le_of_eq HB4.out
  have hB5 : ((B.size : Int) != 4) = false := by rw [HB4.out]; rfl
  have HF : Hid (∀ W, Calls Try.prog 17 #[.int .u32 n] W fun e w' => e = .returned (.string B) ∧ Below W.heap.size W w') := Lib.hid (by rw [HB.out]; exact fun W => four_any n W hn0 hn1)
  go_enter Try.func7, Try.ntmps7
  go_wp2_with fail
  rw [hk]
  clear hm hm2 hk
  generalize s.extract 0 m = t at *
  obtain rfl := HTS.out
  have q1 : (k : Int) ≤ t.size := by omega
  have HR : Hid (∀ W, Calls Try.prog 12 #[.string (t.extract 0 k ++ B ++ t.extract k t.size), .int .i64 k] W fun e w' => e = .returned (.tuple #[.int .u32 n, .int .i64 0]) ∧ W = w') :=
    Lib.hid (fun W => by
      have hl := WP.mid_size t B k (by omega) HB4.out
      have h := read_any (t.extract 0 k ++ B ++ t.extract k t.size) k W (by omega) (by omega) (by unfold maxLen; omega)
      rw [Int.toNat_natCast, WP.read_mid t B k n.toNat (by omega) (by omega) HB.out, Int.toNat_of_nonneg hn0] at h
      exact h)
  go_region_with (first | (go_at_call 17; refine (HF.out _).mono ?_; rintro e w2 ⟨rfl, hb2⟩) | (go_at_call 12; refine (HR.out _).mono ?_; rintro e w2 ⟨rfl, rfl⟩))
  clear HR
  go_wp2_with fail
  refine (HF.out _).mono ?_
  rintro e w3 ⟨rfl, hb3⟩
  go_wp2_with fail
  by_cases h4 : k + 4 ≤ t.size
  · obtain ⟨o, HO⟩ : ∃ o : Nat, Hid (o = Lib.leNat ((t.data.toList.drop k).take 4)) := ⟨_, Lib.hid rfl⟩
    have hol : o ≤ 4294967295 := by rw [HO.out]; exact WP.leNat_four _
    have hr := read_any t k w3 (by omega) (by omega) (by unfold maxLen; omega)
    rw [Int.toNat_natCast, ← HO.out] at hr
    refine hr.mono ?_
    rintro e w4 ⟨rfl, rfl⟩
    clear hr
    go_wp2_with fail
    have HF2 : Hid (∀ W, Calls Try.prog 17 #[.int .u32 o] W fun e w' => e = .returned (.string (t.extract k (k + 4))) ∧ Below W.heap.size W w') :=
      Lib.hid (fun W => by
        have h := four_any o W (by omega) (by omega)
        rw [Int.toNat_natCast, HO.out, WP.four_back t k h4, ← HO.out] at h
        exact h)
    have q2 : IntKind.i64.wrap ((k : Int) + 4) = (k : Int) + 4 := IntWalk.i64_in _ (by omega)
    have q3 : ((k : Int) + 4).toNat = k + 4 := by omega
    have q4 : (k : Int) + 4 ≤ t.size := by omega
    have q5 : (0 : Int) ≤ (k : Int) + 4 := by omega
    have q6 : (k : Int) ≤ (k : Int) + 4 := by omega
    go_region_with (first | (go_at_call 17; refine (HF2.out _).mono ?_; rintro e w5 ⟨rfl, hb5⟩) | (go_at_call 19; refine (fixed_any _).mono ?_; rintro e w6 ⟨rfl, hb6⟩))
    clear q2 q3 q4 q5 q6
    go_wp2_with fail
    go_ret
    exact ⟨rfl, (below_of_drew hb2).trans' (hb3.trans' ((below_of_drew hb5).trans' hb6))⟩
  · refine (read_short t k w3 (by omega) (by omega) (by omega)).mono ?_
    rintro e w4 ⟨rfl, rfl⟩
    go_wp2_with fail
    refine (fixed_any _).mono ?_
    rintro e w5 ⟨rfl, hb5⟩
    go_wp2_with fail
    go_ret
    exact ⟨rfl, (below_of_drew hb2).trans' (hb3.trans' hb5)⟩

end Go.Proofs.Ytbaihnjlplmldaa
