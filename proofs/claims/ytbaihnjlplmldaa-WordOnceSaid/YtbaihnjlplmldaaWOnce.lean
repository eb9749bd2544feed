/-
  The walk of the law WordOnce.
-/
import Derived.Test.YtbaihnjlplmldaaWLaws
import Derived.Deep.RegionHeld3
namespace Go.Proofs.Ytbaihnjlplmldaa
open Go.RowKit
set_option linter.unusedVariables false

set_option maxHeartbeats 1000000 in
theorem wordOnce_walk (s : ByteArray) (a : Int) (w : World) (ws : s.size ≤ maxLen) (wa : (Lit.int .i64 a).wf = true) :
    Calls Try.prog 6 #[.string s, .int .i64 a] w fun e w' => e = .returned (.bool true) ∧ Below w.heap.size w w' := by
  obtain ⟨ha0, ha1⟩ := i64_bd wa
  unfold maxLen at ws
  clear wa
  obtain ⟨m, hm, hm60, hms, hm2, hts⟩ := cut_min s 60 (by omega)
  have HTS := Lib.hid hts
  clear hts
  go_enter Try.func6, Try.ntmps6
  go_wp2_with fail
  clear hm hm2
  generalize s.extract 0 m = t at *
  obtain rfl := HTS.out
  clear HTS
  by_cases hr : a < 0 ∨ (t.size : Int) < a
  · refine (get_arg t a w hr).mono ?_
    rintro e w1 ⟨rfl, rfl⟩
    clear hr
    go_wp2_with fail
    refine (fixed_any _).mono ?_
    rintro e w2 ⟨rfl, hb2⟩
    go_wp2_with fail
    go_ret
    exact ⟨rfl, hb2⟩
  · obtain ⟨i, rfl⟩ := Int.eq_ofNat_of_zero_le (show 0 ≤ a by omega)
    have hit : i ≤ t.size := by omega
    clear hr
    have hg := get_any t i w (by omega) (by omega) (by unfold maxLen; omega)
    rw [Int.toNat_natCast] at hg
    rcases WP.get_spec t.data.toList i with h | h | ⟨n, to, h, h1, h2, h3, h4⟩
    · rw [h] at hg
      refine hg.mono ?_
      clear hg h
      rintro e w1 ⟨rfl, hb1⟩
      go_wp2_with fail
      refine (fixed_any _).mono ?_
      rintro e w2 ⟨rfl, hb2⟩
      go_wp2_with fail
      go_ret
      exact ⟨rfl, hb1.trans' hb2⟩
    · rw [h] at hg
      refine hg.mono ?_
      clear hg h
      rintro e w1 ⟨rfl, hb1⟩
      go_wp2_with fail
      refine (fixed_any _).mono ?_
      rintro e w2 ⟨rfl, hb2⟩
      go_wp2_with fail
      go_ret
      exact ⟨rfl, hb1.trans' hb2⟩
    · rw [h] at hg
      refine hg.mono ?_
      clear hg h
      have hto : to ≤ t.size := by simpa using h2
      have HP : Hid (∀ W, Calls Try.prog 14 #[.int .u64 n] W fun e w' => e = .returned (.string (t.extract i to)) ∧ Below W.heap.size W w') :=
        Lib.hid (fun W => by
          have h := put_any (n : Int) W (by omega) (by omega)
          rw [Int.toNat_natCast, h3] at h
          rw [show t.extract i to = ⟨((t.data.toList.drop i).take (to - i)).toArray⟩ from ByteArray.ext (Array.toList_inj.1 (by rw [Lib.extract_data]))]
          exact h)
      clear h3 h2
      rintro e w1 ⟨rfl, hb1⟩
      go_wp2_with fail
      have q1 : (i : Int) ≤ to := by omega
      have q2 : (to : Int) ≤ t.size := by omega
      have q3 : decide ((i : Int) < to) = true := decide_eq_true (by omega)
      have q4 : decide (to ≤ t.size) = true := decide_eq_true (by omega)
      have q5 : decide ((0 : Int) ≤ i) = true := decide_eq_true (by omega)
      have q6 : decide (i < to) = true := decide_eq_true (by omega)
      go_region_held3 (fun _ => True) (trivial) (first | (go_at_call 14; refine (HP.out _).mono ?_; rintro e w5 ⟨rfl, hb5⟩) | (go_at_call 19; refine (fixed_any _).mono ?_; rintro e w6 ⟨rfl, hb6⟩))
      clear q1 q2 q3 q4 q5 q6
      go_wp2_with fail
      go_ret
      exact ⟨rfl, hb1.trans' ((below_of_drew hb5).trans' hb6)⟩

end Go.Proofs.Ytbaihnjlplmldaa
