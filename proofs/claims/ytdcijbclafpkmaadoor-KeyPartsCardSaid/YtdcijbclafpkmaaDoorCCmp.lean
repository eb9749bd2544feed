/-
  Walks of cmp.Compare, col.Compare.
-/
import Derived.Test.YtdcijbclafpkmaaDoorCRight
namespace Go.Proofs.YtdcijbclafpkmaaDoor
open Go.RowKit
set_option linter.unusedVariables false

/-- By -1, 0 or 1. -/
def sgn (a b : Int) : Int := if a < b then -1 else if b < a then 1 else 0
def sgnS (a b : List UInt8) : Int := if Op.bytesLess a b then -1 else if Op.bytesLess b a then 1 else 0

theorem nanInt (a : Int) (w : World) : Calls Tryd.prog 53 #[.int .i64 a] w fun e w' => e = .returned (.bool false) ∧ w = w' := by
  go_enter Tryd.func53, Tryd.ntmps53
  go_wp2
  go_ret
  exact ⟨by simp, rfl⟩
theorem nanInt64 (a : Int) (w : World) : Calls Tryd.prog 54 #[.int .i64 a] w fun e w' => e = .returned (.bool false) ∧ w = w' := by
  go_enter Tryd.func54, Tryd.ntmps54
  go_wp2
  go_ret
  exact ⟨by simp, rfl⟩
theorem nanUint64 (a : Int) (w : World) : Calls Tryd.prog 55 #[.int .u64 a] w fun e w' => e = .returned (.bool false) ∧ w = w' := by
  go_enter Tryd.func55, Tryd.ntmps55
  go_wp2
  go_ret
  exact ⟨by simp, rfl⟩
theorem nanString (a : ByteArray) (w : World) : Calls Tryd.prog 56 #[.string a] w fun e w' => e = .returned (.bool false) ∧ w = w' := by
  go_enter Tryd.func56, Tryd.ntmps56
  go_wp2
  go_ret
  exact ⟨by simp, rfl⟩

theorem cmpInt (a b : Int) (w : World) : Calls Tryd.prog 40 #[.int .i64 a, .int .i64 b] w fun e w' => e = .returned (.int .i64 (sgn a b)) ∧ w = w' := by
  rcases (show a < b ∨ b < a ∨ a = b by omega) with h | h | h
  · have h' : ¬ b < a := by omega
    rw [show sgn a b = -1 by unfold sgn; rw [if_pos h]]
    go_enter Tryd.func40, Tryd.ntmps40
    go_wp2_with fail
    refine (nanInt _ _).mono ?_
    rintro e w1 ⟨rfl, rfl⟩
    go_wp2_with fail
    refine (nanInt _ _).mono ?_
    rintro e w1 ⟨rfl, rfl⟩
    go_wp2_with fail
    go_ret
    exact ⟨rfl, rfl⟩
  · have h' : ¬ a < b := by omega
    rw [show sgn a b = 1 by unfold sgn; rw [if_neg h', if_pos h]]
    go_enter Tryd.func40, Tryd.ntmps40
    go_wp2_with fail
    refine (nanInt _ _).mono ?_
    rintro e w1 ⟨rfl, rfl⟩
    go_wp2_with fail
    refine (nanInt _ _).mono ?_
    rintro e w1 ⟨rfl, rfl⟩
    go_wp2_with fail
    go_ret
    exact ⟨rfl, rfl⟩
  · subst h
    rw [show sgn a a = 0 by unfold sgn; rw [if_neg (by omega), if_neg (by omega)]]
    go_enter Tryd.func40, Tryd.ntmps40
    go_wp2_with fail
    refine (nanInt _ _).mono ?_
    rintro e w1 ⟨rfl, rfl⟩
    go_wp2_with fail
    refine (nanInt _ _).mono ?_
    rintro e w1 ⟨rfl, rfl⟩
    go_wp2_with fail
    go_ret
    exact ⟨rfl, rfl⟩
theorem cmpInt64 (a b : Int) (w : World) : Calls Tryd.prog 41 #[.int .i64 a, .int .i64 b] w fun e w' => e = .returned (.int .i64 (sgn a b)) ∧ w = w' := by
  rcases (show a < b ∨ b < a ∨ a = b by omega) with h | h | h
  · have h' : ¬ b < a := by omega
    rw [show sgn a b = -1 by unfold sgn; rw [if_pos h]]
    go_enter Tryd.func41, Tryd.ntmps41
    go_wp2_with fail
    refine (nanInt64 _ _).mono ?_
    rintro e w1 ⟨rfl, rfl⟩
    go_wp2_with fail
    refine (nanInt64 _ _).mono ?_
    rintro e w1 ⟨rfl, rfl⟩
    go_wp2_with fail
    go_ret
    exact ⟨rfl, rfl⟩
  · have h' : ¬ a < b := by omega
    rw [show sgn a b = 1 by unfold sgn; rw [if_neg h', if_pos h]]
    go_enter Tryd.func41, Tryd.ntmps41
    go_wp2_with fail
    refine (nanInt64 _ _).mono ?_
    rintro e w1 ⟨rfl, rfl⟩
    go_wp2_with fail
    refine (nanInt64 _ _).mono ?_
    rintro e w1 ⟨rfl, rfl⟩
    go_wp2_with fail
    go_ret
    exact ⟨rfl, rfl⟩
  · subst h
    rw [show sgn a a = 0 by unfold sgn; rw [if_neg (by omega), if_neg (by omega)]]
    go_enter Tryd.func41, Tryd.ntmps41
    go_wp2_with fail
    refine (nanInt64 _ _).mono ?_
    rintro e w1 ⟨rfl, rfl⟩
    go_wp2_with fail
    refine (nanInt64 _ _).mono ?_
    rintro e w1 ⟨rfl, rfl⟩
    go_wp2_with fail
    go_ret
    exact ⟨rfl, rfl⟩
theorem cmpUint64 (a b : Int) (w : World) : Calls Tryd.prog 42 #[.int .u64 a, .int .u64 b] w fun e w' => e = .returned (.int .i64 (sgn a b)) ∧ w = w' := by
  rcases (show a < b ∨ b < a ∨ a = b by omega) with h | h | h
  · have h' : ¬ b < a := by omega
    rw [show sgn a b = -1 by unfold sgn; rw [if_pos h]]
    go_enter Tryd.func42, Tryd.ntmps42
    go_wp2_with fail
    refine (nanUint64 _ _).mono ?_
    rintro e w1 ⟨rfl, rfl⟩
    go_wp2_with fail
    refine (nanUint64 _ _).mono ?_
    rintro e w1 ⟨rfl, rfl⟩
    go_wp2_with fail
    go_ret
    exact ⟨rfl, rfl⟩
  · have h' : ¬ a < b := by omega
    rw [show sgn a b = 1 by unfold sgn; rw [if_neg h', if_pos h]]
    go_enter Tryd.func42, Tryd.ntmps42
    go_wp2_with fail
    refine (nanUint64 _ _).mono ?_
    rintro e w1 ⟨rfl, rfl⟩
    go_wp2_with fail
    refine (nanUint64 _ _).mono ?_
    rintro e w1 ⟨rfl, rfl⟩
    go_wp2_with fail
    go_ret
    exact ⟨rfl, rfl⟩
  · subst h
    rw [show sgn a a = 0 by unfold sgn; rw [if_neg (by omega), if_neg (by omega)]]
    go_enter Tryd.func42, Tryd.ntmps42
    go_wp2_with fail
    refine (nanUint64 _ _).mono ?_
    rintro e w1 ⟨rfl, rfl⟩
    go_wp2_with fail
    refine (nanUint64 _ _).mono ?_
    rintro e w1 ⟨rfl, rfl⟩
    go_wp2_with fail
    go_ret
    exact ⟨rfl, rfl⟩
theorem bytes_of_list {a b : ByteArray} (h : a.data.toList = b.data.toList) : a = b := ByteArray.ext (Array.toList_inj.1 h)
theorem cmpString (a b : ByteArray) (w : World) : Calls Tryd.prog 43 #[.string a, .string b] w fun e w' => e = .returned (.int .i64 (sgnS a.data.toList b.data.toList)) ∧ w = w' := by
  rcases CP.texts a.data.toList b.data.toList with ⟨h, h1, h2⟩ | ⟨h1, h2, _⟩ | ⟨h1, h2, _⟩
  · obtain rfl := bytes_of_list h
    rw [show sgnS a.data.toList a.data.toList = 0 by unfold sgnS; rw [h1]; rfl]
    rw [← ByteArray.toList_eq] at h1
    clear h h2
    go_enter Tryd.func43, Tryd.ntmps43
    go_wp2_with fail
    refine (nanString _ _).mono ?_
    rintro e w1 ⟨rfl, rfl⟩
    go_wp2_with fail
    refine (nanString _ _).mono ?_
    rintro e w1 ⟨rfl, rfl⟩
    go_wp2_with fail
    go_ret
    exact ⟨rfl, rfl⟩
  · rw [show sgnS a.data.toList b.data.toList = -1 by unfold sgnS; rw [h1]; rfl]
    rw [← ByteArray.toList_eq, ← ByteArray.toList_eq] at h1 h2
    have h3 : (a.toList == b.toList) = false := by rw [beq_eq_false_iff_ne]; intro e; rw [e] at h1 h2; rw [h1] at h2; cases h2
    go_enter Tryd.func43, Tryd.ntmps43
    go_wp2_with fail
    refine (nanString _ _).mono ?_
    rintro e w1 ⟨rfl, rfl⟩
    go_wp2_with fail
    refine (nanString _ _).mono ?_
    rintro e w1 ⟨rfl, rfl⟩
    go_wp2_with fail
    go_ret
    exact ⟨rfl, rfl⟩
  · rw [show sgnS a.data.toList b.data.toList = 1 by unfold sgnS; rw [h1, h2]; rfl]
    rw [← ByteArray.toList_eq, ← ByteArray.toList_eq] at h1 h2
    have h3 : (a.toList == b.toList) = false := by rw [beq_eq_false_iff_ne]; intro e; rw [e] at h1 h2; rw [h1] at h2; cases h2
    go_enter Tryd.func43, Tryd.ntmps43
    go_wp2_with fail
    refine (nanString _ _).mono ?_
    rintro e w1 ⟨rfl, rfl⟩
    go_wp2_with fail
    refine (nanString _ _).mono ?_
    rintro e w1 ⟨rfl, rfl⟩
    go_wp2_with fail
    go_ret
    exact ⟨rfl, rfl⟩
set_option maxHeartbeats 1000000 in
theorem compare_any (K I U : Int) (S : ByteArray) (K' I' U' : Int) (S' : ByteArray) (w : World) :
    Calls Tryd.prog 30 #[.agg #[.int .i64 K, .int .i64 I, .int .u64 U, .string S], .agg #[.int .i64 K', .int .i64 I', .int .u64 U', .string S']] w
      fun e w' => e = .returned (.int .i64 (CP.cmp ⟨K, I, U, S.data.toList⟩ ⟨K', I', U', S'.data.toList⟩)) ∧ Below w.heap.size w w' := by
  unfold CP.cmp
  simp only
  by_cases hk : K = K'
  · rw [if_neg (by simpa using hk)]
    have q1 : (K == K') = true := beq_iff_eq.2 hk
    by_cases hi : I = I'
    · rw [if_neg (by simpa using hi)]
      have q2 : (I == I') = true := beq_iff_eq.2 hi
      by_cases hu : U = U'
      · rw [if_neg (by simpa using hu)]
        have q3 : (U == U') = true := beq_iff_eq.2 hu
        have hs : (if Op.bytesLess S.data.toList S'.data.toList = true then (-1 : Int) else if Op.bytesLess S'.data.toList S.data.toList = true then 1 else 0) = sgnS S.data.toList S'.data.toList := rfl
        rw [hs]
        clear hk hi hu hs
        go_enter Tryd.func30, Tryd.ntmps30
        go_wp2_with fail
        refine (cmpString _ _ _).mono ?_
        rintro e w1 ⟨rfl, rfl⟩
        go_wp2_with fail
        go_ret
        exact ⟨rfl, below_alloc2 _ _ _⟩
      · rw [if_pos hu]
        have q3 : (U == U') = false := beq_eq_false_iff_ne.2 hu
        have hs : sgn U U' = if U < U' then -1 else 1 := by unfold sgn; split; rfl; rw [if_pos (by omega)]
        rw [← hs]
        clear hk hi hu hs
        go_enter Tryd.func30, Tryd.ntmps30
        go_wp2_with fail
        refine (cmpUint64 _ _ _).mono ?_
        rintro e w1 ⟨rfl, rfl⟩
        go_wp2_with fail
        go_ret
        exact ⟨rfl, below_alloc2 _ _ _⟩
    · rw [if_pos hi]
      have q2 : (I == I') = false := beq_eq_false_iff_ne.2 hi
      have hs : sgn I I' = if I < I' then -1 else 1 := by unfold sgn; split; rfl; rw [if_pos (by omega)]
      rw [← hs]
      clear hk hi hs
      go_enter Tryd.func30, Tryd.ntmps30
      go_wp2_with fail
      refine (cmpInt64 _ _ _).mono ?_
      rintro e w1 ⟨rfl, rfl⟩
      go_wp2_with fail
      go_ret
      exact ⟨rfl, below_alloc2 _ _ _⟩
  · rw [if_pos hk]
    have q1 : (K == K') = false := beq_eq_false_iff_ne.2 hk
    have hs : sgn K K' = if K < K' then -1 else 1 := by unfold sgn; split; rfl; rw [if_pos (by omega)]
    rw [← hs]
    clear hk hs
    go_enter Tryd.func30, Tryd.ntmps30
    go_wp2_with fail
    refine (cmpInt _ _ _).mono ?_
    rintro e w1 ⟨rfl, rfl⟩
    go_wp2_with fail
    go_ret
    exact ⟨rfl, below_alloc2 _ _ _⟩
end Go.Proofs.YtdcijbclafpkmaaDoor
