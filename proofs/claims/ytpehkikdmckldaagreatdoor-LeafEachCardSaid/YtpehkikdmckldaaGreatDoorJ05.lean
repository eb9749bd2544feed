/-
  Walk of the document's own answer of layer 1: Get.
  The document's Right, PutValue, PutKid.
  The document's PutValue and PutKid.
  The document's PutKid, and a text at a place.
-/
import Derived.Test.YtpehkikdmckldaaGreatDoorJ04
namespace Go.Proofs.YtpehkikdmckldaaGreatDoor.L9
open Go.RowKit
set_option linter.unusedVariables false
set_option maxHeartbeats 400000 in
theorem rget_end (s : ByteArray) (i : Int) (w : World) (h1 : i = s.size) :
    Calls Tryz.prog 55 #[.string s, .int .i64 i] w fun e w' => e = .returned (.tuple #[.int .u64 0, .int .i64 0, .int .i64 7]) ∧ w = w' := by
  subst h1
  go_enter Tryz.func55, Tryz.ntmps55
  go_wp2_with fail
  go_ret3
  exact ⟨rfl, rfl⟩

set_option maxHeartbeats 400000 in
theorem rget_short (s : ByteArray) (i : Nat) (w : World) (h1 : i < s.size) (h3 : (s.size : Int) - i ≤ WP.flw s[i].toNat) (h2 : s.size ≤ 1000000) :
    Calls Tryz.prog 55 #[.string s, .int .i64 i] w fun e w' => e = .returned (.tuple #[.int .u64 0, .int .i64 0, .int .i64 7]) ∧ w = w' := by
  have hne : ((i : Int) == s.size) = false := beq_eq_false_iff_ne.2 (by omega)
  have hby := s[i].toNat_lt
  have hfl := WP.flw_le s[i].toNat (by omega)
  have hfn := WP.flw_nn s[i].toNat
  go_enter Tryz.func55, Tryz.ntmps55
  go_wp2_with fail
  refine (rfollow_any _ _ (by omega) (by omega)).mono ?_
  rintro e w' ⟨rfl, rfl⟩
  go_wp2_with fail
  go_ret3
  exact ⟨rfl, rfl⟩

theorem ret_got {X Y a b c : Int} (h : X = Y) (h2 : a = b) : Ending.returned (.tuple #[.int .u64 X, .int .i64 a, .int .i64 c]) = .returned (.tuple #[.int .u64 Y, .int .i64 b, .int .i64 c]) := by rw [h, h2]

theorem beNat_take_lt (s : ByteArray) (a k : Nat) (h : a + k ≤ s.size) : Lib.beNat ((s.data.toList.drop a).take k) < 256 ^ k := by
  have h1 := WP.beNat_lt ((s.data.toList.drop a).take k)
  have hl : ((s.data.toList.drop a).take k).length = k := by simp; omega
  rwa [hl] at h1

set_option maxHeartbeats 2000000 in
theorem rget_go (s : ByteArray) (i : Nat) (w : World) (h1 : i < s.size) (f v : Nat) (hf : (f : Int) = WP.flw s[i].toNat) (h3 : i + f < s.size) (h2 : s.size ≤ 1000000)
    (hv : v = WP.told s[i].toNat (s.extract (i + 1) (i + 1 + f)).data.toList) (hvb : v ≤ 18446744073709551615) (q : Bool) (hq : (WP.put v == (s.extract i (i + 1 + f)).toList) = q) :
    Calls Tryz.prog 55 #[.string s, .int .i64 i] w fun e w' => e = .returned (bif q then .tuple #[.int .u64 v, .int .i64 (i + 1 + f : Nat), .int .i64 0] else .tuple #[.int .u64 0, .int .i64 0, .int .i64 3]) ∧ Below w.heap.size w w' := by
  have hne : ((i : Int) == s.size) = false := beq_eq_false_iff_ne.2 (by omega)
  have hby := s[i].toNat_lt
  have hf8 := WP.flw_le s[i].toNat (by omega)
  rw [← hf] at hf8
  have HF := Lib.hid hf
  have HV : Hid (v = WP.told s[i].toNat ((s.data.toList.drop (i + 1)).take f)) := Lib.hid (by rw [hv, Lib.extract_data, show i + 1 + f - (i + 1) = f by omega])
  have HP : Hid (∀ (X : Int), X = v → ∀ W, Calls Tryz.prog 69 #[.int .u64 X] W fun e w' => e = .returned (.string ⟨(WP.put v).toArray⟩) ∧ Below W.heap.size W w') :=
    Lib.hid (fun X hX W => by
      subst hX
      have h := rput_any (v : Int) W (by omega) (by omega)
      rwa [Int.toNat_natCast] at h)
  clear hf hv
  have hlt : i + 1 + f ≤ s.size := by omega
  generalize WP.put v = pv at *
  have d0 : decide ((i : Int) < 0) = false := decide_eq_false (by omega)
  go_enter Tryz.func55, Tryz.ntmps55
  go_wp2_with fail
  refine (rfollow_any _ _ (by omega) (by omega)).mono ?_
  rintro e w' ⟨rfl, rfl⟩
  rw [← HF.out]
  have d1 : decide ((s.size : Int) < (i : Int) + 1 + f) = false := decide_eq_false (by omega)
  go_wp2_with fail
  refine (rfollow_any _ _ (by omega) (by omega)).mono ?_
  rintro e w' ⟨rfl, rfl⟩
  rw [← HF.out]
  go_wp2_with fail
  go_loop [8, 9] (fun n j => ∃ k : Nat, k ≤ f ∧ j = .int .i64 ((i : Int) + 1 + k) ∧ n = .int .u64 (Lib.beNat ((s.data.toList.drop (i + 1)).take k) : Nat)) (fun _ j => (i + 1 + f) - (intOf j).toNat)
  case atStart => exact ⟨0, Nat.zero_le _, by go_num, rfl⟩
  case round =>
    obtain ⟨k, hk, rfl, rfl⟩ := hrel
    have hlt0 := beNat_take_lt s (i + 1) k (by omega)
    by_cases hkf : k < f
    · have hp := WP.pow256 k (by omega)
      have hix : i + 1 + k < s.size := by omega
      have HB : Hid (Lib.beNat ((s.data.toList.drop (i + 1)).take (k + 1)) = Lib.beNat ((s.data.toList.drop (i + 1)).take k) * 256 + (s[i + 1 + k]'hix).toNat) :=
        Lib.hid (by rw [WP.drop_take_snoc s (i + 1) k (by omega), WP.beNat_snoc])
      have hby2 := (s[i + 1 + k]'hix).toNat_lt
      generalize Lib.beNat ((s.data.toList.drop (i + 1)).take k) = u at *
      go_wp2_with fail
      go_round
      case rel =>
        refine ⟨k + 1, by omega, by go_num, ?_⟩
        rw [HB.out]
        go_num
      case measure => simp [intOf]; omega
    · obtain rfl : k = f := by omega
      have hfe := HF.out
      unfold WP.flw at hfe
      have HVV := Lib.hid (show v = WP.told s[i].toNat ((s.data.toList.drop (i + 1)).take k) from HV.out)
      have hvi : (v : Int) ≤ 18446744073709551615 := by omega
      have q2 : (0 : Int) ≤ (i : Int) + 1 + k := by omega
      have q3 : ((i : Int) + 1 + k).toNat = i + 1 + k := by omega
      have q4 : (i : Int) + 1 + k ≤ s.size := by omega
      have q5 : (i : Int) ≤ (i : Int) + 1 + k := by omega
      rcases (show s[i].toNat < 241 ∨ (241 ≤ s[i].toNat ∧ s[i].toNat < 249) ∨ s[i].toNat = 249 ∨ 249 < s[i].toNat by omega) with h | h | h | h
      · have e := HVV.out
        rw [WP.told_1 _ _ h] at e
        have E := Lib.hid e
        clear hfe HVV HV e
        generalize Lib.beNat ((s.data.toList.drop (i + 1)).take k) = u at *
        cases q
        all_goals
          go_wp2_with fail
          go_region_held3 (fun _ => True) (trivial) ((go_at_call 69; refine (HP.out _ (by have := E.out; omega) _).mono ?_; rintro e w2 ⟨rfl, hb2⟩))
          all_goals clear q2 q3 q4 q5
          all_goals go_wp2_with fail
          all_goals go_ret3
          all_goals refine ⟨?_, below_of_drew hb2⟩
        all_goals first
          | exact rfl
          | exact ret_got (by have := E.out; omega) (by omega)
      · have e := HVV.out
        rw [WP.told_2 _ _ h.1 h.2] at e
        have E := Lib.hid e
        rw [if_neg (by omega), if_pos (by omega)] at hfe
        have hk1 : k = 1 := by omega
        have hlt1 : Lib.beNat ((s.data.toList.drop (i + 1)).take k) < 256 := by have := hlt0; rwa [show (256 : Nat) ^ k = 256 by rw [hk1]] at this
        clear hk1 hlt0
        clear hfe HVV HV e
        generalize Lib.beNat ((s.data.toList.drop (i + 1)).take k) = u at *
        cases q
        all_goals
          go_wp2_with fail
          go_region_held3 (fun _ => True) (trivial) ((go_at_call 69; refine (HP.out _ (by have := E.out; omega) _).mono ?_; rintro e w2 ⟨rfl, hb2⟩))
          all_goals clear q2 q3 q4 q5
          all_goals go_wp2_with fail
          all_goals go_ret3
          all_goals refine ⟨?_, below_of_drew hb2⟩
        all_goals first
          | exact rfl
          | exact ret_got (by have := E.out; omega) (by omega)
      · have e := HVV.out
        rw [WP.told_3 _ _ h] at e
        have E := Lib.hid e
        rw [if_neg (by omega), if_neg (by omega)] at hfe
        have hk1 : k = 2 := by omega
        have hlt1 : Lib.beNat ((s.data.toList.drop (i + 1)).take k) < 65536 := by have := hlt0; rwa [show (256 : Nat) ^ k = 65536 by rw [hk1]] at this
        clear hlt0
        have hne9 : ((s[i].toNat : Int) == 249) = true := beq_iff_eq.2 (by omega)
        have h' : 249 ≤ s[i].toNat := by omega
        clear hk1 h
        clear hfe HVV HV e
        generalize Lib.beNat ((s.data.toList.drop (i + 1)).take k) = u at *
        cases q
        all_goals
          go_wp2_with fail
          go_region_held3 (fun _ => True) (trivial) ((go_at_call 69; refine (HP.out _ (by have := E.out; omega) _).mono ?_; rintro e w2 ⟨rfl, hb2⟩))
          all_goals clear q2 q3 q4 q5
          all_goals go_wp2_with fail
          all_goals go_ret3
          all_goals refine ⟨?_, below_of_drew hb2⟩
        all_goals first
          | exact rfl
          | exact ret_got (by have := E.out; omega) (by omega)
      · have e := HVV.out
        rw [WP.told_4 _ _ h] at e
        have E := Lib.hid e
        have hne9 : ((s[i].toNat : Int) == 249) = false := beq_eq_false_iff_ne.2 (by omega)
        clear hfe HVV HV e
        generalize Lib.beNat ((s.data.toList.drop (i + 1)).take k) = u at *
        cases q
        all_goals
          go_wp2_with fail
          go_region_held3 (fun _ => True) (trivial) ((go_at_call 69; refine (HP.out _ (by have := E.out; omega) _).mono ?_; rintro e w2 ⟨rfl, hb2⟩))
          all_goals clear q2 q3 q4 q5
          all_goals go_wp2_with fail
          all_goals go_ret3
          all_goals refine ⟨?_, below_of_drew hb2⟩
        all_goals first
          | exact rfl
          | exact ret_got (by have := E.out; omega) (by omega)

theorem rget_any (s : ByteArray) (i : Int) (w : World) (h0 : 0 ≤ i) (h1 : i ≤ s.size) (h2 : s.size ≤ 1000000) :
    Calls Tryz.prog 55 #[.string s, .int .i64 i] w fun e w' => e = .returned (.tuple #[.int .u64 (WP.get s.data.toList i.toNat).1, .int .i64 (WP.get s.data.toList i.toNat).2.1, .int .i64 (WP.get s.data.toList i.toNat).2.2]) ∧ Below w.heap.size w w' := by
  obtain ⟨a, rfl⟩ := Int.eq_ofNat_of_zero_le h0
  rw [Int.toNat_natCast]
  by_cases he : a < s.size
  · have hn := WP.flw_nn s[a].toNat
    by_cases hs : (s.size : Int) - a ≤ WP.flw s[a].toNat
    · rw [WP.get_short s a he hs]
      exact (rget_short s a w he hs h2).mono fun e w' ⟨h, h'⟩ => ⟨h, h' ▸ Below.refl _ _⟩
    · obtain ⟨f, hf⟩ := Int.eq_ofNat_of_zero_le hn
      have hl : (((s.extract (a + 1) (a + 1 + f)).data.toList.length : Nat) : Int) = WP.flw s[a].toNat := by rw [Lib.extract_data]; simp; omega
      have hvb := WP.told_le s[a].toNat _ (by have := s[a].toNat_lt; omega) hl
      rw [WP.get_rest s a f he hf.symm (by omega)]
      have H := rget_go s a w he f _ hf.symm (by omega) h2 rfl hvb _ rfl
      by_cases hq : WP.put (WP.told s[a].toNat (s.extract (a + 1) (a + 1 + f)).data.toList) = (s.extract a (a + 1 + f)).toList
      · rw [if_pos hq]
        rw [beq_iff_eq.2 hq] at H
        exact H
      · rw [if_neg hq]
        rw [beq_eq_false_iff_ne.2 hq] at H
        exact H
  · rw [WP.get_end _ a (by simp; omega)]
    exact (rget_end s a w (by omega)).mono fun e w' ⟨h, h'⟩ => ⟨h, h' ▸ Below.refl _ _⟩

end Go.Proofs.YtpehkikdmckldaaGreatDoor.L9

namespace Go.Proofs.YtpehkikdmckldaaGreatDoor.L9
open Go.RowKit
set_option linter.unusedVariables false
set_option linter.unusedSimpArgs false

theorem right_over (S : ByteArray) (L P : Int) : VP.Right (pv true S L P) ↔ S = ⟨#[]⟩ ∧ 1 ≤ L ∧ L ≤ 4096 ∧ 1 ≤ P ∧ P ≤ 4095 := by
  constructor
  · rintro (⟨_, h1, h2⟩ | ⟨h, _⟩)
    · exact ⟨ByteArray.ext (Array.toList_inj.1 h1), h2⟩
    · cases h
  · rintro ⟨rfl, h2⟩
    exact .inl ⟨rfl, rfl, h2⟩
theorem right_text (S : ByteArray) (L P : Int) : VP.Right (pv false S L P) ↔ S.size ≤ 256 ∧ L = 0 ∧ P = 0 := by
  constructor
  · rintro (⟨h, _⟩ | ⟨_, h⟩)
    · cases h
    · exact h
  · exact fun h => .inr ⟨rfl, h⟩
theorem empty_eq (S : ByteArray) : (S.toList == []) = decide (S = ⟨#[]⟩) := by
  rw [Lib.toList_data]
  by_cases h : S = ⟨#[]⟩
  · subst h; rfl
  · rw [decide_eq_false h]
    exact beq_eq_false_iff_ne.2 fun e => h (ByteArray.ext (Array.toList_inj.1 e))

set_option maxHeartbeats 1000000 in
theorem rright_any (O : Bool) (S : ByteArray) (L P : Int) (w : World) :
    Calls Tryz.prog 49 #[vv O S L P] w fun e w' => e = .returned (.bool (decide (VP.Right (pv O S L P)))) ∧ Below w.heap.size w w' := by
  cases O with
  | true =>
    have he := empty_eq S
    have he2 : (S.toList == (⟨#[]⟩ : ByteArray).toList) = decide (S = ⟨#[]⟩) := by rw [Lib.toList_data ⟨#[]⟩]; exact he
    by_cases h0 : S = ⟨#[]⟩
    · rw [decide_eq_true h0] at he he2
      rcases (show L < 1 ∨ 4096 < L ∨ (1 ≤ L ∧ L ≤ 4096 ∧ P < 1) ∨ (1 ≤ L ∧ L ≤ 4096 ∧ 4095 < P) ∨ (1 ≤ L ∧ L ≤ 4096 ∧ 1 ≤ P ∧ P ≤ 4095) by omega) with h | h | h | h | h
      · have e : decide (VP.Right (pv true S L P)) = false := decide_eq_false (fun h' => by have := (right_over S L P).1 h'; omega)
        rw [e]
        go_enter Tryz.func49, Tryz.ntmps49
        go_wp2_with fail
        go_ret
        exact ⟨rfl, below_alloc _ _⟩
      · have e : decide (VP.Right (pv true S L P)) = false := decide_eq_false (fun h' => by have := (right_over S L P).1 h'; omega)
        rw [e]
        go_enter Tryz.func49, Tryz.ntmps49
        go_wp2_with fail
        go_ret
        exact ⟨rfl, below_alloc _ _⟩
      · have e : decide (VP.Right (pv true S L P)) = false := decide_eq_false (fun h' => by have := (right_over S L P).1 h'; omega)
        rw [e]
        obtain ⟨h1, h2, h3⟩ := h
        go_enter Tryz.func49, Tryz.ntmps49
        go_wp2_with fail
        go_ret
        exact ⟨rfl, below_alloc _ _⟩
      · have e : decide (VP.Right (pv true S L P)) = false := decide_eq_false (fun h' => by have := (right_over S L P).1 h'; omega)
        rw [e]
        obtain ⟨h1, h2, h3⟩ := h
        have d1 : decide (P ≤ 4095) = false := decide_eq_false (by omega)
        go_enter Tryz.func49, Tryz.ntmps49
        go_wp2_with fail
        go_ret
        exact ⟨rfl, below_alloc _ _⟩
      · have e : decide (VP.Right (pv true S L P)) = true := decide_eq_true ((right_over S L P).2 ⟨h0, h.1, h.2.1, h.2.2.1, h.2.2.2⟩)
        rw [e]
        obtain ⟨h1, h2, h3, h4⟩ := h
        go_enter Tryz.func49, Tryz.ntmps49
        go_wp2_with fail
        go_ret
        exact ⟨rfl, below_alloc _ _⟩
    · rw [decide_eq_false h0] at he he2
      have e : decide (VP.Right (pv true S L P)) = false := decide_eq_false (fun h' => h0 ((right_over S L P).1 h').1)
      rw [e]
      go_enter Tryz.func49, Tryz.ntmps49
      go_wp2_with fail
      go_ret
      exact ⟨rfl, below_alloc _ _⟩
  | false =>
    rcases (show 256 < S.size ∨ (S.size ≤ 256 ∧ L ≠ 0) ∨ (S.size ≤ 256 ∧ L = 0 ∧ P ≠ 0) ∨ (S.size ≤ 256 ∧ L = 0 ∧ P = 0) by omega) with h | h | h | h
    · have e : decide (VP.Right (pv false S L P)) = false := decide_eq_false (fun h' => by have := (right_text S L P).1 h'; omega)
      rw [e]
      have d1 : decide ((S.size : Int) ≤ 256) = false := decide_eq_false (by omega)
      have d2 : decide (S.size ≤ 256) = false := decide_eq_false (by omega)
      go_enter Tryz.func49, Tryz.ntmps49
      go_wp2_with fail
      go_ret
      exact ⟨rfl, below_alloc _ _⟩
    · have e : decide (VP.Right (pv false S L P)) = false := decide_eq_false (fun h' => by have := (right_text S L P).1 h'; omega)
      rw [e]
      have d1 : decide ((S.size : Int) ≤ 256) = true := decide_eq_true (by omega)
      have d2 : decide (S.size ≤ 256) = true := decide_eq_true (by omega)
      have d3 : (L == 0) = false := beq_eq_false_iff_ne.2 h.2
      go_enter Tryz.func49, Tryz.ntmps49
      go_wp2_with fail
      go_ret
      exact ⟨rfl, below_alloc _ _⟩
    · have e : decide (VP.Right (pv false S L P)) = false := decide_eq_false (fun h' => by have := (right_text S L P).1 h'; omega)
      rw [e]
      have d1 : decide ((S.size : Int) ≤ 256) = true := decide_eq_true (by omega)
      have d2 : decide (S.size ≤ 256) = true := decide_eq_true (by omega)
      obtain ⟨h1, rfl, h3⟩ := h
      have d3 : (P == 0) = false := beq_eq_false_iff_ne.2 h3
      go_enter Tryz.func49, Tryz.ntmps49
      go_wp2_with fail
      go_ret
      exact ⟨rfl, below_alloc _ _⟩
    · have e : decide (VP.Right (pv false S L P)) = true := decide_eq_true ((right_text S L P).2 h)
      rw [e]
      have d1 : decide ((S.size : Int) ≤ 256) = true := decide_eq_true (by omega)
      have d2 : decide (S.size ≤ 256) = true := decide_eq_true (by omega)
      obtain ⟨h1, rfl, rfl⟩ := h
      go_enter Tryz.func49, Tryz.ntmps49
      go_wp2_with fail
      go_ret
      exact ⟨rfl, below_alloc _ _⟩
end Go.Proofs.YtpehkikdmckldaaGreatDoor.L9

namespace Go.Proofs.YtpehkikdmckldaaGreatDoor.L9
open Go.RowKit
set_option linter.unusedVariables false
set_option linter.unusedSimpArgs false

/-- What PutValue and PutKid answer. -/
def cellS (t : ByteArray) (v : VP.V) : ByteArray := ⟨(VP.cellV t.data.toList v).toArray⟩
def putVV (t : ByteArray) (v : VP.V) : Value := if VP.OkV t.data.toList v then .tuple #[.string (cellS t v), .int .i64 0] else .tuple #[.string ⟨#[]⟩, .int .i64 3]
theorem bytes_size (l : List UInt8) : (⟨l.toArray⟩ : ByteArray).size = l.length := by simp [ByteArray.size]
theorem wput_size (n : Nat) (h : n ≤ 18446744073709551615) : (⟨(WP.put n).toArray⟩ : ByteArray).size ≤ 9 := by
  obtain ⟨_, _, _, _, _, h1⟩ := WP.put_form n h
  have := WP.size_bd n
  rw [bytes_size]
  omega
theorem four_size (n : Nat) : (⟨(Lib.leBytes 4 n).toArray⟩ : ByteArray).size = 4 := by rw [bytes_size, Lib.leBytes_length]
def textS (t : ByteArray) : ByteArray := ⟨(VP.text t.data.toList).toArray⟩
theorem textS_eq (t : ByteArray) (n : Nat) (h : t.size = n) : (⟨(WP.put n).toArray⟩ : ByteArray) ++ t = textS t := by
  subst h
  apply ByteArray.ext
  simp [textS, VP.text]
theorem cellS_over (t : ByteArray) (S : ByteArray) (l p : Nat) : textS t ++ ⟨#[1]⟩ ++ ⟨(WP.put l).toArray⟩ ++ ⟨(Lib.leBytes 4 p).toArray⟩ = cellS t (pv true S l p) := by
  apply ByteArray.ext
  simp [textS, cellS, VP.cellV, VP.tail, pv]
theorem cellS_text (t : ByteArray) (S : ByteArray) (L P : Int) (n : Nat) (h : S.size = n) : textS t ++ ⟨#[0]⟩ ++ ⟨(WP.put n).toArray⟩ ++ S = cellS t (pv false S L P) := by
  subst h
  apply ByteArray.ext
  simp [textS, cellS, VP.cellV, VP.tail, pv, VP.text]
theorem textS_size (t : ByteArray) (h : t.size ≤ 1000000) : (textS t).size ≤ 9 + t.size := by
  have h1 := textS_eq t _ rfl
  have h2 := wput_size t.size (by omega)
  rw [← h1, ByteArray.size_append]
  omega
theorem vbox_keep (t : TypeId) (g : Nat) (O : Bool) (S : ByteArray) (L P : Int) : Hid (∀ W W' : World, Below W.heap.size W W' → (Hid (Bx t g O S L P W) ∧ W.cell? ⟨g, 0, none⟩ = some (.bool O) ∧ W.cell? ⟨g, 1, none⟩ = some (.string S) ∧ W.cell? ⟨g, 2, none⟩ = some (.int .i64 L) ∧ W.cell? ⟨g, 3, none⟩ = some (.int .i64 P)) → Hid (Bx t g O S L P W') ∧ W'.cell? ⟨g, 0, none⟩ = some (.bool O) ∧ W'.cell? ⟨g, 1, none⟩ = some (.string S) ∧ W'.cell? ⟨g, 2, none⟩ = some (.int .i64 L) ∧ W'.cell? ⟨g, 3, none⟩ = some (.int .i64 P)) :=
  Lib.hid fun W W' hb h => HasBx.below (t := t) (g := g) (O := O) (S := S) (L := L) (P := P) h hb

set_option maxHeartbeats 1000000 in
set_option maxRecDepth 100000 in
theorem rputv_any (t : ByteArray) (O : Bool) (S : ByteArray) (L P : Int) (w : World) (ht : t.size ≤ 1000000) (hs : S.size ≤ 1000000) :
    Calls Tryz.prog 70 #[.string t, vv O S L P] w fun e w' => e = .returned (putVV t (pv O S L P)) ∧ Below w.heap.size w w' := by
  have hb0 := below_alloc w (.cells #[.bool O, .string S, .int .i64 L, .int .i64 P] 44)
  by_cases h1 : 128 < t.size
  · have e : putVV t (pv O S L P) = .tuple #[.string ⟨#[]⟩, .int .i64 3] := if_neg (fun h => by have := h.1; simp only [Array.length_toList, ByteArray.size_data] at this; omega)
    rw [e]
    have d1 : decide (128 < t.size) = true := decide_eq_true h1
    have d2 : decide ((128 : Int) < t.size) = true := decide_eq_true (by omega)
    go_enter Tryz.func70, Tryz.ntmps70
    go_wp2_with fail
    go_ret2
    exact ⟨rfl, hb0⟩
  have d1 : decide (128 < t.size) = false := decide_eq_false h1
  have d2 : decide ((128 : Int) < t.size) = false := decide_eq_false (by omega)
  have HR := Lib.hid (fun W => rright_any O S L P W)
  by_cases h2 : VP.Right (pv O S L P)
  · have e : putVV t (pv O S L P) = .tuple #[.string (cellS t (pv O S L P)), .int .i64 0] := if_pos ⟨by simp only [Array.length_toList, ByteArray.size_data]; omega, h2⟩
    rw [decide_eq_true h2] at HR
    rw [e]
    clear e
    have HT := Lib.hid (textS_eq t t.size rfl)
    have hts := textS_size t ht
    have HPT := Lib.hid (fun W => rput_any (t.size : Int) W (by omega) (by omega))
    have hDs := wput_size t.size (by omega)
    rw [Int.toNat_natCast] at HPT
    obtain ⟨D, hD⟩ : ∃ D : ByteArray, ⟨(WP.put t.size).toArray⟩ = D := ⟨_, rfl⟩
    rw [hD] at HT HPT hDs
    have a1 : IntKind.u64.wrap (t.size : Int) = t.size := Int.emod_eq_of_lt (by omega) (by show (t.size : Int) < 18446744073709551616; omega)
    have b1 : ¬ 9223372036854775807 < D.size + t.size := by omega
    have HK0 := Lib.hid (Bx.new 44 O S L P w)
    have HKeep := vbox_keep 44 w.heap.size O S L P
    clear hD
    cases O with
    | true =>
      obtain ⟨hS, hL1, hL2, hP1, hP2⟩ := (right_over S L P).1 h2
      obtain ⟨l, rfl⟩ := Int.eq_ofNat_of_zero_le (show 0 ≤ L by omega)
      obtain ⟨p, rfl⟩ := Int.eq_ofNat_of_zero_le (show 0 ≤ P by omega)
      have HPL := Lib.hid (fun W => rput_any (l : Int) W (by omega) (by omega))
      have HPF := Lib.hid (fun W => rfour_any (p : Int) W (by omega) (by omega))
      have hEs := wput_size l (by omega)
      have hGs := four_size p
      rw [Int.toNat_natCast] at HPL HPF
      have HC := cellS_over t S l p
      obtain ⟨E, hE⟩ : ∃ E : ByteArray, ⟨(WP.put l).toArray⟩ = E := ⟨_, rfl⟩
      obtain ⟨G, hG⟩ : ∃ G : ByteArray, ⟨(Lib.leBytes 4 p).toArray⟩ = G := ⟨_, rfl⟩
      rw [hE] at HPL hEs HC
      rw [hG] at HPF hGs HC
      rw [← HC]
      have HTE := HT.out
      generalize textS t = X at *
      have a2 : IntKind.u64.wrap (l : Int) = l := Int.emod_eq_of_lt (by omega) (by show (l : Int) < 18446744073709551616; omega)
      have a3 : IntKind.u32.wrap (p : Int) = p := Int.emod_eq_of_lt (by omega) (by show (p : Int) < 4294967296; omega)
      have o1 : (⟨#[1]⟩ : ByteArray).size = 1 := rfl
      have z1 : (X ++ (⟨#[1]⟩ : ByteArray)).size = X.size + 1 := by rw [ByteArray.size_append]; rfl
      obtain ⟨Y, hY⟩ : ∃ Y, X ++ (⟨#[1]⟩ : ByteArray) = Y := ⟨_, rfl⟩
      rw [hY] at z1 ⊢
      have z2 : (Y ++ E).size = Y.size + E.size := ByteArray.size_append
      obtain ⟨Z, hZ⟩ : ∃ Z, Y ++ E = Z := ⟨_, rfl⟩
      rw [hZ] at z2 ⊢
      have b2 : ¬ 9223372036854775807 < X.size + (⟨#[1]⟩ : ByteArray).size := by omega
      have b2' : ¬ 9223372036854775807 < X.size + 1 := by omega
      have b3 : ¬ 9223372036854775807 < Y.size + E.size := by omega
      have b4 : ¬ 9223372036854775807 < Z.size + G.size := by omega
      clear hE hG HC hS h2 o1 hEs hGs z1 z2 hts hDs hL1 hL2 hP1 hP2 HT
      go_enter Tryz.func70, Tryz.ntmps70
      go_wp2_with fail
      refine (HR.out _).mono ?_
      rintro e w1 ⟨rfl, hb1⟩
      go_wp2_with fail
      refine (HPT.out _).mono ?_
      rintro e w2 ⟨rfl, hb2⟩
      have hb12 := hb1.trans' hb2
      have S2 := HKeep.out _ _ hb12 ⟨HK0, HK0.out.cells⟩
      obtain ⟨K2, c0, c1, c2, c3⟩ := S2
      go_wp2_with fail
      go_region_held3 (fun W => Hid (Bx 44 w.heap.size true S (l : Int) (p : Int) W) ∧ W.cell? ⟨w.heap.size, 0, none⟩ = some (.bool true) ∧ W.cell? ⟨w.heap.size, 1, none⟩ = some (.string S) ∧ W.cell? ⟨w.heap.size, 2, none⟩ = some (.int .i64 (l : Int)) ∧ W.cell? ⟨w.heap.size, 3, none⟩ = some (.int .i64 (p : Int)))
        (first | assumption | exact ⟨K2, c0, c1, c2, c3⟩ | exact HKeep.out _ _ (by assumption) (by assumption))
        (first
          | (go_at_call 69; refine (HPL.out _).mono ?_; rintro e w3 ⟨rfl, hb3⟩)
          | (go_at_call 72; refine (HPF.out _).mono ?_; rintro e w4 ⟨rfl, hb4⟩)
          | fail "no arm")
      all_goals
        go_wp2_with fail
        go_ret2
        exact ⟨rfl, (((hb0.trans' hb12).trans' (below_of_drew hb3)).trans' hb4)⟩
    | false =>
      obtain ⟨hS, rfl, rfl⟩ := (right_text S L P).1 h2
      have HPL := Lib.hid (fun W => rput_any (S.size : Int) W (by omega) (by omega))
      have hEs := wput_size S.size (by omega)
      rw [Int.toNat_natCast] at HPL
      have HC := cellS_text t S 0 0 S.size rfl
      obtain ⟨E, hE⟩ : ∃ E : ByteArray, ⟨(WP.put S.size).toArray⟩ = E := ⟨_, rfl⟩
      rw [hE] at HPL hEs HC
      rw [← HC]
      have HTE := HT.out
      generalize textS t = X at *
      have a2 : IntKind.u64.wrap (S.size : Int) = S.size := Int.emod_eq_of_lt (by omega) (by show (S.size : Int) < 18446744073709551616; omega)
      have z1 : (X ++ (⟨#[0]⟩ : ByteArray)).size = X.size + 1 := by rw [ByteArray.size_append]; rfl
      obtain ⟨Y, hY⟩ : ∃ Y, X ++ (⟨#[0]⟩ : ByteArray) = Y := ⟨_, rfl⟩
      rw [hY] at z1 ⊢
      have z2 : (Y ++ E).size = Y.size + E.size := ByteArray.size_append
      obtain ⟨Z, hZ⟩ : ∃ Z, Y ++ E = Z := ⟨_, rfl⟩
      rw [hZ] at z2 ⊢
      have o1 : (⟨#[0]⟩ : ByteArray).size = 1 := rfl
      have b2 : ¬ 9223372036854775807 < X.size + (⟨#[0]⟩ : ByteArray).size := by omega
      have b2' : ¬ 9223372036854775807 < X.size + 1 := by omega
      have b3 : ¬ 9223372036854775807 < Y.size + E.size := by omega
      have b4 : ¬ 9223372036854775807 < Z.size + S.size := by omega
      clear hE HC hS h2 o1 hEs z1 z2 hts hDs HT
      go_enter Tryz.func70, Tryz.ntmps70
      go_wp2_with fail
      refine (HR.out _).mono ?_
      rintro e w1 ⟨rfl, hb1⟩
      go_wp2_with fail
      refine (HPT.out _).mono ?_
      rintro e w2 ⟨rfl, hb2⟩
      have hb12 := hb1.trans' hb2
      have S2 := HKeep.out _ _ hb12 ⟨HK0, HK0.out.cells⟩
      obtain ⟨K2, c0, c1, c2, c3⟩ := S2
      go_wp2_with fail
      go_region_held3 (fun W => Hid (Bx 44 w.heap.size false S 0 0 W) ∧ W.cell? ⟨w.heap.size, 0, none⟩ = some (.bool false) ∧ W.cell? ⟨w.heap.size, 1, none⟩ = some (.string S) ∧ W.cell? ⟨w.heap.size, 2, none⟩ = some (.int .i64 0) ∧ W.cell? ⟨w.heap.size, 3, none⟩ = some (.int .i64 0))
        (first | assumption | exact ⟨K2, c0, c1, c2, c3⟩ | exact HKeep.out _ _ (by assumption) (by assumption))
        (first
          | (go_at_call 69; refine (HPL.out _).mono ?_; rintro e w3 ⟨rfl, hb3⟩)
          | fail "no arm")
      all_goals
        go_wp2_with fail
        go_ret2
        exact ⟨rfl, (hb0.trans' hb12).trans' (below_of_drew hb3)⟩
  · have e : putVV t (pv O S L P) = .tuple #[.string ⟨#[]⟩, .int .i64 3] := if_neg (fun h => h2 h.2)
    rw [e]
    rw [decide_eq_false h2] at HR
    go_enter Tryz.func70, Tryz.ntmps70
    go_wp2_with fail
    refine (HR.out _).mono ?_
    rintro e w1 ⟨rfl, hb1⟩
    go_wp2_with fail
    go_ret2
    exact ⟨rfl, hb0.trans' hb1⟩
end Go.Proofs.YtpehkikdmckldaaGreatDoor.L9

namespace Go.Proofs.YtpehkikdmckldaaGreatDoor.L9
open Go.RowKit
set_option linter.unusedVariables false
set_option linter.unusedSimpArgs false
/-- A text with its length ahead, or that there is none. -/
def gotT : Option (List UInt8 × Nat) → Value
  | none => .tuple #[.string ⟨#[]⟩, .int .i64 (-1)]
  | some x => .tuple #[.string ⟨x.1.toArray⟩, .int .i64 (x.2 : Nat)]
theorem extract_list (s : ByteArray) (i n : Nat) : (⟨((s.data.toList.drop i).take n).toArray⟩ : ByteArray) = s.extract i (i + n) := by
  apply ByteArray.ext
  apply Array.toList_inj.1
  have h := Lib.extract_data s i (i + n)
  rw [h]
  simp
set_option maxHeartbeats 1000000 in
set_option maxRecDepth 100000 in
theorem rtext_any (s : ByteArray) (i : Nat) (w : World) (hi : i ≤ s.size) (hs : s.size ≤ 1000000) :
    Calls Tryz.prog 86 #[.string s, .int .i64 i] w fun e w' => e = .returned (gotT (VP.gtext s.data.toList i)) ∧ Below w.heap.size w w' := by
  have HG := Lib.hid (rget_any s (i : Int) w (by omega) (by omega) hs)
  rw [Int.toNat_natCast] at HG
  have hts : s.data.toList.length = s.size := by simp
  obtain ⟨n, to, er, hg⟩ : ∃ n to er, WP.get s.data.toList i = (n, to, er) := ⟨_, _, _, rfl⟩
  have hsp := WP.get_spec s.data.toList i
  rw [hg] at HG hsp
  simp only at HG
  have bad : er ≠ 0 ∨ s.size - to < n → VP.gtext s.data.toList i = none := fun h => by
    unfold VP.gtext
    rw [hg]
    simp only
    rw [if_neg]
    rintro ⟨h1, h2⟩
    rw [hts] at h2
    omega
  rcases hsp with h | h | ⟨n', to', h, h1, h2, _, h4⟩
  · simp only [Prod.mk.injEq] at h
    obtain ⟨rfl, rfl, rfl⟩ := h
    rw [bad (by omega)]
    clear bad hg hts
    go_enter Tryz.func86, Tryz.ntmps86
    go_wp2_with fail
    refine HG.out.mono ?_
    rintro e w1 ⟨rfl, hb1⟩
    go_wp2_with fail
    go_ret2
    exact ⟨rfl, hb1⟩
  · simp only [Prod.mk.injEq] at h
    obtain ⟨rfl, rfl, rfl⟩ := h
    rw [bad (by omega)]
    clear bad hg hts
    go_enter Tryz.func86, Tryz.ntmps86
    go_wp2_with fail
    refine HG.out.mono ?_
    rintro e w1 ⟨rfl, hb1⟩
    go_wp2_with fail
    go_ret2
    exact ⟨rfl, hb1⟩
  · simp only [Prod.mk.injEq] at h
    obtain ⟨rfl, rfl, rfl⟩ := h
    rw [hts] at h2
    have q1 : IntKind.i64.wrap ((s.size : Int) - to) = (s.size : Int) - to := IntWalk.i64_in _ (by omega)
    have q2 : IntKind.u64.wrap ((s.size : Int) - to) = (s.size : Int) - to := Int.emod_eq_of_lt (by omega) (by show (s.size : Int) - to < 18446744073709551616; omega)
    by_cases h5 : s.size - to < n
    · rw [bad (by omega)]
      have d1 : decide ((s.size : Int) - to < n) = true := decide_eq_true (by omega)
      clear bad hg hts
      go_enter Tryz.func86, Tryz.ntmps86
      go_wp2_with fail
      refine HG.out.mono ?_
      rintro e w1 ⟨rfl, hb1⟩
      go_wp2_with fail
      go_ret2
      exact ⟨rfl, hb1⟩
    · have hok : VP.gtext s.data.toList i = some ((s.data.toList.drop to).take n, to + n) := by
        unfold VP.gtext
        rw [hg]
        simp only
        rw [if_pos ⟨trivial, by rw [hts]; omega⟩]
      rw [hok]
      have he := extract_list s to n
      rw [gotT, he]
      have d1 : decide ((s.size : Int) - to < n) = false := decide_eq_false (by omega)
      have q3 : IntKind.i64.wrap (n : Int) = n := IntWalk.i64_in _ (by omega)
      have q4 : IntKind.i64.wrap ((to : Int) + n) = ((to + n : Nat) : Int) := by rw [show ((to : Int) + n) = ((to + n : Nat) : Int) by omega]; exact IntWalk.i64_in _ (by omega)
      have q5 : ((to : Int) + n) = ((to + n : Nat) : Int) := by omega
      obtain ⟨z, hz⟩ : ∃ z, to + n = z := ⟨_, rfl⟩
      rw [hz] at q4 q5 ⊢
      have j1 : (0 : Int) ≤ to := by omega
      have j2 : (to : Int) ≤ z := by omega
      have j3 : (z : Int) ≤ s.size := by omega
      have j4 : to ≤ z := by omega
      have j5 : z ≤ s.size := by omega
      clear bad hg hts hok he hz
      go_enter Tryz.func86, Tryz.ntmps86
      go_wp2_with fail
      refine HG.out.mono ?_
      rintro e w1 ⟨rfl, hb1⟩
      go_wp2_with fail
      go_ret2
      exact ⟨rfl, hb1⟩
end Go.Proofs.YtpehkikdmckldaaGreatDoor.L9
