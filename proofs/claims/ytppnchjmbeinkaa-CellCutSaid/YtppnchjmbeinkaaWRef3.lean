/-
  Walk of the document's own answer of layer 1: Get.
-/
import Derived.Test.YtppnchjmbeinkaaWRef2
namespace Go.Proofs.Ytppnchjmbeinkaa
open Go.RowKit
set_option linter.unusedVariables false

set_option maxHeartbeats 400000 in
theorem rget_arg (s : ByteArray) (i : Int) (w : World) (h1 : i < 0 ∨ (s.size : Int) < i) :
    Calls Try.prog 32 #[.string s, .int .i64 i] w fun e w' => e = .returned (.tuple #[.int .u64 0, .int .i64 0, .int .i64 4]) ∧ w = w' := by
  rcases h1 with h1 | h1
  all_goals
    go_enter Try.func32, Try.ntmps32
    go_wp2_with fail
    go_ret3
    exact ⟨rfl, rfl⟩

set_option maxHeartbeats 400000 in
theorem rget_end (s : ByteArray) (i : Int) (w : World) (h1 : i = s.size) :
    Calls Try.prog 32 #[.string s, .int .i64 i] w fun e w' => e = .returned (.tuple #[.int .u64 0, .int .i64 0, .int .i64 7]) ∧ w = w' := by
  subst h1
  go_enter Try.func32, Try.ntmps32
  go_wp2_with fail
  go_ret3
  exact ⟨rfl, rfl⟩

set_option maxHeartbeats 400000 in
theorem rget_short (s : ByteArray) (i : Nat) (w : World) (h1 : i < s.size) (h3 : (s.size : Int) - i ≤ WP.flw s[i].toNat) (h2 : s.size ≤ 1000000) :
    Calls Try.prog 32 #[.string s, .int .i64 i] w fun e w' => e = .returned (.tuple #[.int .u64 0, .int .i64 0, .int .i64 7]) ∧ w = w' := by
  have hne : ((i : Int) == s.size) = false := beq_eq_false_iff_ne.2 (by omega)
  have hby := s[i].toNat_lt
  have hfl := WP.flw_le s[i].toNat (by omega)
  have hfn := WP.flw_nn s[i].toNat
  go_enter Try.func32, Try.ntmps32
  go_wp2_with fail
  refine (rfollow_any _ _ (by omega) (by omega)).mono ?_
  rintro e w' ⟨rfl, rfl⟩
  go_wp2_with fail
  go_ret3
  exact ⟨rfl, rfl⟩

theorem ret_got {X Y a b c : Int} (h : X = Y) (h2 : a = b) : Ending.returned (.tuple #[.int .u64 X, .int .i64 a, .int .i64 c]) = .returned (.tuple #[.int .u64 Y, .int .i64 b, .int .i64 c]) := by rw [h, h2]

theorem beNat_take_lt (s : ByteArray) (a k : Nat) (h : a + k ≤ s.size) : Lib.beNat ((s.data.toList.drop a).take k) < 256 ^ k := by
  have h1 := WP.beNat_lt ((s.data.toList.drop a).take k)
  have hl : ((s.data.toList.drop a).take k).length = k := by simp; omega
  rwa [hl] at h1

set_option maxHeartbeats 2000000 in
theorem rget_go (s : ByteArray) (i : Nat) (w : World) (h1 : i < s.size) (f v : Nat) (hf : (f : Int) = WP.flw s[i].toNat) (h3 : i + f < s.size) (h2 : s.size ≤ 1000000)
    (hv : v = WP.told s[i].toNat (s.extract (i + 1) (i + 1 + f)).data.toList) (hvb : v ≤ 18446744073709551615) (q : Bool) (hq : (WP.put v == (s.extract i (i + 1 + f)).toList) = q) :
    Calls Try.prog 32 #[.string s, .int .i64 i] w fun e w' => e = .returned (bif q then .tuple #[.int .u64 v, .int .i64 (i + 1 + f : Nat), .int .i64 0] else .tuple #[.int .u64 0, .int .i64 0, .int .i64 3]) ∧ Below w.heap.size w w' := by
  have hne : ((i : Int) == s.size) = false := beq_eq_false_iff_ne.2 (by omega)
  have hby := s[i].toNat_lt
  have hf8 := WP.flw_le s[i].toNat (by omega)
  rw [← hf] at hf8
  have HF := Lib.hid hf
  have HV : Hid (v = WP.told s[i].toNat ((s.data.toList.drop (i + 1)).take f)) := Lib.hid (by rw [hv, Lib.extract_data, show i + 1 + f - (i + 1) = f by omega])
  have HP : Hid (∀ (X : Int), X = v → ∀ W, Calls Try.prog 22 #[.int .u64 X] W fun e w' => e = .returned (.string ⟨(WP.put v).toArray⟩) ∧ Below W.heap.size W w') :=
    Lib.hid (fun X hX W => by
      subst hX
      have h := rput_any (v : Int) W (by omega) (by omega)
      rwa [Int.toNat_natCast] at h)
  clear hf hv
  have hlt : i + 1 + f ≤ s.size := by omega
  generalize WP.put v = pv at *
  have d0 : decide ((i : Int) < 0) = false := decide_eq_false (by omega)
  go_enter Try.func32, Try.ntmps32
  go_wp2_with fail
  refine (rfollow_any _ _ (by omega) (by omega)).mono ?_
  rintro e w' ⟨rfl, rfl⟩
  rw [← HF.out]
  have d1 : decide ((s.size : Int) < (i : Int) + 1 + f) = false := decide_eq_false (by omega)
  go_wp2_with fail
  refine (rfollow_any _ _ (by omega) (by omega)).mono ?_
  rintro e w' ⟨rfl, rfl⟩
  rw [← HF.out]
  go_wp2_with fail
  go_loop [8, 9] (fun n j => ∃ k : Nat, k ≤ f ∧ j = .int .i64 ((i : Int) + 1 + k) ∧ n = .int .u64 (Lib.beNat ((s.data.toList.drop (i + 1)).take k) : Nat)) (fun _ j => (i + 1 + f) - (intOf j).toNat)
  case atStart => exact ⟨0, Nat.zero_le _, by go_num, rfl⟩
  case round =>
    obtain ⟨k, hk, rfl, rfl⟩ := hrel
    have hlt0 := beNat_take_lt s (i + 1) k (by omega)
    by_cases hkf : k < f
    · have hp := WP.pow256 k (by omega)
      have hix : i + 1 + k < s.size := by omega
      have HB : Hid (Lib.beNat ((s.data.toList.drop (i + 1)).take (k + 1)) = Lib.beNat ((s.data.toList.drop (i + 1)).take k) * 256 + (s[i + 1 + k]'hix).toNat) :=
        Lib.hid (by rw [WP.drop_take_snoc s (i + 1) k (by omega), WP.beNat_snoc])
      have hby2 := (s[i + 1 + k]'hix).toNat_lt
      generalize Lib.beNat ((s.data.toList.drop (i + 1)).take k) = u at *
      go_wp2_with fail
      go_round
      case rel =>
        refine ⟨k + 1, by omega, by go_num, ?_⟩
        rw [HB.out]
        go_num
      case measure => simp [intOf]; omega
    · obtain rfl : k = f := by omega
      have hfe := HF.out
      unfold WP.flw at hfe
      have HVV := Lib.hid (show v = WP.told s[i].toNat ((s.data.toList.drop (i + 1)).take k) from HV.out)
      have hvi : (v : Int) ≤ 18446744073709551615 := by omega
      have q2 : (0 : Int) ≤ (i : Int) + 1 + k := by omega
      have q3 : ((i : Int) + 1 + k).toNat = i + 1 + k := by omega
      have q4 : (i : Int) + 1 + k ≤ s.size := by omega
      have q5 : (i : Int) ≤ (i : Int) + 1 + k := by omega
      rcases (show s[i].toNat < 241 ∨ (241 ≤ s[i].toNat ∧ s[i].toNat < 249) ∨ s[i].toNat = 249 ∨ 249 < s[i].toNat by omega) with h | h | h | h
      · have e := HVV.out
        rw [WP.told_1 _ _ h] at e
        have E := Lib.hid e
        clear hfe HVV HV e
        generalize Lib.beNat ((s.data.toList.drop (i + 1)).take k) = u at *
        cases q
        all_goals
          go_wp2_with fail
          go_region_held3 (fun _ => True) (trivial) ((go_at_call 22; refine (HP.out _ (by have := E.out; omega) _).mono ?_; rintro e w2 ⟨rfl, hb2⟩))
          all_goals clear q2 q3 q4 q5
          all_goals go_wp2_with fail
          all_goals go_ret3
          all_goals refine ⟨?_, below_of_drew hb2⟩
        all_goals first
          | exact rfl
          | exact ret_got (by have := E.out; omega) (by omega)
      · have e := HVV.out
        rw [WP.told_2 _ _ h.1 h.2] at e
        have E := Lib.hid e
        rw [if_neg (by omega), if_pos (by omega)] at hfe
        have hk1 : k = 1 := by omega
        have hlt1 : Lib.beNat ((s.data.toList.drop (i + 1)).take k) < 256 := by have := hlt0; rwa [show (256 : Nat) ^ k = 256 by rw [hk1]] at this
        clear hk1 hlt0
        clear hfe HVV HV e
        generalize Lib.beNat ((s.data.toList.drop (i + 1)).take k) = u at *
        cases q
        all_goals
          go_wp2_with fail
          go_region_held3 (fun _ => True) (trivial) ((go_at_call 22; refine (HP.out _ (by have := E.out; omega) _).mono ?_; rintro e w2 ⟨rfl, hb2⟩))
          all_goals clear q2 q3 q4 q5
          all_goals go_wp2_with fail
          all_goals go_ret3
          all_goals refine ⟨?_, below_of_drew hb2⟩
        all_goals first
          | exact rfl
          | exact ret_got (by have := E.out; omega) (by omega)
      · have e := HVV.out
        rw [WP.told_3 _ _ h] at e
        have E := Lib.hid e
        rw [if_neg (by omega), if_neg (by omega)] at hfe
        have hk1 : k = 2 := by omega
        have hlt1 : Lib.beNat ((s.data.toList.drop (i + 1)).take k) < 65536 := by have := hlt0; rwa [show (256 : Nat) ^ k = 65536 by rw [hk1]] at this
        clear hlt0
        have hne9 : ((s[i].toNat : Int) == 249) = true := beq_iff_eq.2 (by omega)
        have h' : 249 ≤ s[i].toNat := by omega
        clear hk1 h
        clear hfe HVV HV e
        generalize Lib.beNat ((s.data.toList.drop (i + 1)).take k) = u at *
        cases q
        all_goals
          go_wp2_with fail
          go_region_held3 (fun _ => True) (trivial) ((go_at_call 22; refine (HP.out _ (by have := E.out; omega) _).mono ?_; rintro e w2 ⟨rfl, hb2⟩))
          all_goals clear q2 q3 q4 q5
          all_goals go_wp2_with fail
          all_goals go_ret3
          all_goals refine ⟨?_, below_of_drew hb2⟩
        all_goals first
          | exact rfl
          | exact ret_got (by have := E.out; omega) (by omega)
      · have e := HVV.out
        rw [WP.told_4 _ _ h] at e
        have E := Lib.hid e
        have hne9 : ((s[i].toNat : Int) == 249) = false := beq_eq_false_iff_ne.2 (by omega)
        clear hfe HVV HV e
        generalize Lib.beNat ((s.data.toList.drop (i + 1)).take k) = u at *
        cases q
        all_goals
          go_wp2_with fail
          go_region_held3 (fun _ => True) (trivial) ((go_at_call 22; refine (HP.out _ (by have := E.out; omega) _).mono ?_; rintro e w2 ⟨rfl, hb2⟩))
          all_goals clear q2 q3 q4 q5
          all_goals go_wp2_with fail
          all_goals go_ret3
          all_goals refine ⟨?_, below_of_drew hb2⟩
        all_goals first
          | exact rfl
          | exact ret_got (by have := E.out; omega) (by omega)

theorem rget_any (s : ByteArray) (i : Int) (w : World) (h0 : 0 ≤ i) (h1 : i ≤ s.size) (h2 : s.size ≤ 1000000) :
    Calls Try.prog 32 #[.string s, .int .i64 i] w fun e w' => e = .returned (.tuple #[.int .u64 (WP.get s.data.toList i.toNat).1, .int .i64 (WP.get s.data.toList i.toNat).2.1, .int .i64 (WP.get s.data.toList i.toNat).2.2]) ∧ Below w.heap.size w w' := by
  obtain ⟨a, rfl⟩ := Int.eq_ofNat_of_zero_le h0
  rw [Int.toNat_natCast]
  by_cases he : a < s.size
  · have hn := WP.flw_nn s[a].toNat
    by_cases hs : (s.size : Int) - a ≤ WP.flw s[a].toNat
    · rw [WP.get_short s a he hs]
      exact (rget_short s a w he hs h2).mono fun e w' ⟨h, h'⟩ => ⟨h, h' ▸ Below.refl _ _⟩
    · obtain ⟨f, hf⟩ := Int.eq_ofNat_of_zero_le hn
      have hl : (((s.extract (a + 1) (a + 1 + f)).data.toList.length : Nat) : Int) = WP.flw s[a].toNat := by rw [Lib.extract_data]; simp; omega
      have hvb := WP.told_le s[a].toNat _ (by have := s[a].toNat_lt; omega) hl
      rw [WP.get_rest s a f he hf.symm (by omega)]
      have H := rget_go s a w he f _ hf.symm (by omega) h2 rfl hvb _ rfl
      by_cases hq : WP.put (WP.told s[a].toNat (s.extract (a + 1) (a + 1 + f)).data.toList) = (s.extract a (a + 1 + f)).toList
      · rw [if_pos hq]
        rw [beq_iff_eq.2 hq] at H
        exact H
      · rw [if_neg hq]
        rw [beq_eq_false_iff_ne.2 hq] at H
        exact H
  · rw [WP.get_end _ a (by simp; omega)]
    exact (rget_end s a w (by omega)).mono fun e w' ⟨h, h'⟩ => ⟨h, h' ▸ Below.refl _ _⟩

end Go.Proofs.Ytppnchjmbeinkaa
