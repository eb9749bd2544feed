/-
  Walk of word.Get.
-/
import Derived.Test.YtppnchjmbeinkaaWPut
import Derived.Deep.QuietTactic
import Derived.BigQuiet
import Derived.Deep.RegionWith
namespace Go.Proofs.Ytppnchjmbeinkaa
open Go.RowKit

theorem quiet_of_eq {P : Program} {f : FuncId} {args : Array Value} {w : World} {n : Nat} {v : Value}
    (h : Calls P f args (w.drewN n) fun e w' => e = .returned v ∧ w.drewN n = w') : Calls P f args (w.drewN n) fun e w'' => e = .returned v ∧ ∃ m, w'' = w.drewN m :=
  h.mono fun _ _ ⟨he, hm⟩ => ⟨he, n, hm.symm⟩

theorem below_of_drewN {w w2 : World} {n : Nat} (h : Below (w.drewN n).heap.size (w.drewN n) w2) : Below w.heap.size w w2 := ⟨h.os, h.tape, h.output, h.size, h.block⟩

set_option maxHeartbeats 400000 in
theorem get_arg (s : ByteArray) (i : Int) (w : World) (h1 : i < 0 ∨ (s.size : Int) < i) :
    Calls Try.prog 46 #[.string s, .int .i64 i] w fun e w' => e = .returned (.tuple #[.int .u64 0, .int .i64 0, .int .i64 4]) ∧ w = w' := by
  rcases h1 with h1 | h1
  all_goals
    go_enter Try.func46, Try.ntmps46
    go_wp2_with fail
    go_ret3
    exact ⟨rfl, rfl⟩

set_option maxHeartbeats 400000 in
theorem get_end (s : ByteArray) (i : Int) (w : World) (h1 : i = s.size) :
    Calls Try.prog 46 #[.string s, .int .i64 i] w fun e w' => e = .returned (.tuple #[.int .u64 0, .int .i64 0, .int .i64 7]) ∧ w = w' := by
  subst h1
  go_enter Try.func46, Try.ntmps46
  go_wp2_with fail
  go_ret3
  exact ⟨rfl, rfl⟩

set_option maxHeartbeats 400000 in
theorem get_short (s : ByteArray) (i : Nat) (w : World) (h1 : i < s.size) (h3 : (s.size : Int) - i ≤ WP.flw s[i].toNat) (h2 : s.size ≤ maxLen) :
    Calls Try.prog 46 #[.string s, .int .i64 i] w fun e w' => e = .returned (.tuple #[.int .u64 0, .int .i64 0, .int .i64 7]) ∧ w = w' := by
  unfold maxLen at h2
  have hne : ((i : Int) == s.size) = false := beq_eq_false_iff_ne.2 (by omega)
  have hby := s[i].toNat_lt
  go_enter Try.func46, Try.ntmps46
  go_wp2_with fail
  refine (follow_any _ _ (by omega) (by omega)).mono ?_
  rintro e w' ⟨rfl, rfl⟩
  go_wp2_with fail
  go_ret3
  exact ⟨rfl, rfl⟩

set_option maxHeartbeats 1000000 in
theorem get_go (s : ByteArray) (i : Nat) (w : World) (h1 : i < s.size) (f v : Nat) (hf : (f : Int) = WP.flw s[i].toNat) (h3 : i + f < s.size) (h2 : s.size ≤ maxLen)
    (hv : v = WP.told s[i].toNat (s.extract (i + 1) (i + 1 + f)).data.toList) (hvb : v ≤ 18446744073709551615) (q : Bool) (hq : (WP.put v == (s.extract i (i + 1 + f)).toList) = q) :
    Calls Try.prog 46 #[.string s, .int .i64 i] w fun e w' => e = .returned (bif q then .tuple #[.int .u64 v, .int .i64 (i + 1 + f : Nat), .int .i64 0] else .tuple #[.int .u64 0, .int .i64 0, .int .i64 3]) ∧ Below w.heap.size w w' := by
  unfold maxLen at h2
  have hne : ((i : Int) == s.size) = false := beq_eq_false_iff_ne.2 (by omega)
  have hby := s[i].toNat_lt
  have HF := Lib.hid hf
  have HT : Hid (∀ W, Calls Try.prog 51 #[.int .u8 s[i].toNat, .string (s.extract (i + 1) (i + 1 + f))] W fun e w' => e = .returned (.int .u64 v) ∧ W = w') :=
    Lib.hid (fun W => by
      have h := told_any (s[i].toNat : Int) (s.extract (i + 1) (i + 1 + f)) W (by omega) (by omega) (by rw [← hf]; simp; omega)
      rw [Int.toNat_natCast, ← hv] at h
      exact h)
  have HP : Hid (∀ W, Calls Try.prog 37 #[.int .u64 v] W fun e w' => e = .returned (.string ⟨(WP.put v).toArray⟩) ∧ Below W.heap.size W w') :=
    Lib.hid (fun W => by
      have h := put_any (v : Int) W (by omega) (by omega)
      rwa [Int.toNat_natCast] at h)
  clear hf hv
  have hlt : i + 1 + f ≤ s.size := by omega
  generalize WP.put v = pv at *
  cases q
  all_goals
    go_enter Try.func46, Try.ntmps46
    go_wp2_with fail
    refine (follow_any _ _ (by omega) (by omega)).mono ?_
    rintro e w' ⟨rfl, rfl⟩
    rw [← HF.out]
    go_wp2_with fail
    refine (follow_any _ _ (by omega) (by omega)).mono ?_
    rintro e w' ⟨rfl, rfl⟩
    rw [← HF.out]
    go_wp2_with fail
    have q1 : IntKind.i64.wrap ((i : Int) + 1) = (i : Int) + 1 := IntWalk.i64_in _ (by omega)
    have q2 : (0 : Int) ≤ (i : Int) + 1 := by omega
    have q3 : ((i : Int) + 1).toNat = i + 1 := by omega
    have q4 : ((i : Int) + 1 + f).toNat = i + 1 + f := by omega
    have q5 : (0 : Int) ≤ (i : Int) + 1 + f := by omega
    have q6 : (i : Int) + 1 + f ≤ s.size := by omega
    have q7 : (i : Int) + 1 ≤ (i : Int) + 1 + f := by omega
    go_quiet ((go_at_call 51; exact quiet_of_eq (HT.out _)))
    go_wp2_with fail
    go_region_with (go_at_call 37; refine (HP.out _).mono ?_; rintro e w2 ⟨rfl, hb2⟩)
    all_goals clear q1 q2 q3 q4 q5 q6 q7
    all_goals go_wp2_with fail
    all_goals go_ret3
    all_goals refine ⟨?_, ?_⟩
  all_goals first
    | exact rfl
    | exact below_of_drewN hb2

theorem get_any (s : ByteArray) (i : Int) (w : World) (h0 : 0 ≤ i) (h1 : i ≤ s.size) (h2 : s.size ≤ maxLen) :
    Calls Try.prog 46 #[.string s, .int .i64 i] w fun e w' => e = .returned (.tuple #[.int .u64 (WP.get s.data.toList i.toNat).1, .int .i64 (WP.get s.data.toList i.toNat).2.1, .int .i64 (WP.get s.data.toList i.toNat).2.2]) ∧ Below w.heap.size w w' := by
  obtain ⟨a, rfl⟩ := Int.eq_ofNat_of_zero_le h0
  rw [Int.toNat_natCast]
  by_cases he : a < s.size
  · have hn := WP.flw_nn s[a].toNat
    by_cases hs : (s.size : Int) - a ≤ WP.flw s[a].toNat
    · rw [WP.get_short s a he hs]
      exact (get_short s a w he hs h2).mono fun e w' ⟨h, h'⟩ => ⟨h, h' ▸ Below.refl _ _⟩
    · obtain ⟨f, hf⟩ := Int.eq_ofNat_of_zero_le hn
      have hl : (((s.extract (a + 1) (a + 1 + f)).data.toList.length : Nat) : Int) = WP.flw s[a].toNat := by rw [Lib.extract_data]; simp; omega
      have hvb := WP.told_le s[a].toNat _ (by have := s[a].toNat_lt; omega) hl
      rw [WP.get_rest s a f he hf.symm (by omega)]
      have H := get_go s a w he f _ hf.symm (by omega) h2 rfl hvb _ rfl
      by_cases hq : WP.put (WP.told s[a].toNat (s.extract (a + 1) (a + 1 + f)).data.toList) = (s.extract a (a + 1 + f)).toList
      · rw [if_pos hq]
        rw [beq_iff_eq.2 hq] at H
        exact H
      · rw [if_neg hq]
        rw [beq_eq_false_iff_ne.2 hq] at H
        exact H
  · rw [WP.get_end _ a (by simp; omega)]
    exact (get_end s a w (by omega)).mono fun e w' ⟨h, h'⟩ => ⟨h, h' ▸ Below.refl _ _⟩

end Go.Proofs.Ytppnchjmbeinkaa
