import Derived.Test.YtpeghilfldpgfaaGreatDoorT04
import Derived.Laws.CopyOwn
import Derived.Lib.ItoaLen
import Derived.SliceStrings
set_option linter.unusedVariables false
set_option linter.unusedSimpArgs false
set_option maxHeartbeats 8000000
set_option maxRecDepth 100000
namespace Go.Proofs.YtpeghilfldpgfaaGreatDoor.L9
open Go.RowKit
theorem rget_end (s : ByteArray) (i : Int) (w : World) (h1 : i = s.size) :
  Calls Tryz.prog 133 #[.string s, .int .i64 i] w fun e w' => e = .returned (.tuple #[.int .u64 0, .int .i64 0, .int .i64 7]) ∧ w = w' := by
 subst h1; go_enter Tryz.func133, Tryz.ntmps133; go_wp2_with fail
 go_ret3
 exact ⟨rfl, rfl⟩
theorem rget_short (s : ByteArray) (i : Nat) (w : World) (h1 : i < s.size) (h3 : (s.size : Int) - i ≤ WP.flw s[i].toNat) (h2 : s.size ≤ 1000000) :
  Calls Tryz.prog 133 #[.string s, .int .i64 i] w fun e w' => e = .returned (.tuple #[.int .u64 0, .int .i64 0, .int .i64 7]) ∧ w = w' := by
 have hne : ((i : Int) == s.size) = false := beq_eq_false_iff_ne.2 (by omega); have hby := s[i].toNat_lt; have hfl := WP.flw_le s[i].toNat (by omega); have hfn := WP.flw_nn s[i].toNat; go_enter Tryz.func133, Tryz.ntmps133; go_wp2_with fail; refine (rfollow_any _ _ (by omega) (by omega)).mono ?_; rintro e w' ⟨rfl, rfl⟩; go_wp2_with fail
 go_ret3
 exact ⟨rfl, rfl⟩
theorem ret_got {X Y a b c : Int} (h : X = Y) (h2 : a = b) : Ending.returned (.tuple #[.int .u64 X, .int .i64 a, .int .i64 c]) = .returned (.tuple #[.int .u64 Y, .int .i64 b, .int .i64 c]) := by rw [h, h2]
theorem beNat_take_lt (s : ByteArray) (a k : Nat) (h : a + k ≤ s.size) : Lib.beNat ((s.data.toList.drop a).take k) < 256 ^ k := by
 have h1 := WP.beNat_lt ((s.data.toList.drop a).take k)
 have hl : ((s.data.toList.drop a).take k).length = k := by simp; omega
 rwa [hl] at h1
theorem rget_go (s : ByteArray) (i : Nat) (w : World) (h1 : i < s.size) (f v : Nat) (hf : (f : Int) = WP.flw s[i].toNat) (h3 : i + f < s.size) (h2 : s.size ≤ 1000000)
  (hv : v = WP.told s[i].toNat (s.extract (i + 1) (i + 1 + f)).data.toList) (hvb : v ≤ 18446744073709551615) (q : Bool) (hq : (WP.put v == (s.extract i (i + 1 + f)).toList) = q) :
  Calls Tryz.prog 133 #[.string s, .int .i64 i] w fun e w' => e = .returned (bif q then .tuple #[.int .u64 v, .int .i64 (i + 1 + f : Nat), .int .i64 0] else .tuple #[.int .u64 0, .int .i64 0, .int .i64 3]) ∧ Below w.heap.size w w' := by
 have hne : ((i : Int) == s.size) = false := beq_eq_false_iff_ne.2 (by omega); have hby := s[i].toNat_lt; have hf8 := WP.flw_le s[i].toNat (by omega); rw [← hf] at hf8; have HF := zj hf; have HV : Hid (v = WP.told s[i].toNat ((s.data.toList.drop (i + 1)).take f)) := zj (by rw [hv, Lib.extract_data, show i + 1 + f - (i + 1) = f by omega])
 have HP : Hid (∀ (X : Int), X = v → ∀ W, Calls Tryz.prog 183 #[.int .u64 X] W fun e w' => e = .returned (.string ⟨(WP.put v).toArray⟩) ∧ Below W.heap.size W w') :=
  zj (fun X hX W => by
   subst hX; have h := rput_any (v : Int) W (by omega) (by omega)
   rwa [Int.toNat_natCast] at h)
 clear hf hv
 have hlt : i + 1 + f ≤ s.size := by omega
 generalize WP.put v = pv at *; have d0 : decide ((i : Int) < 0) = false := dF (by omega); go_enter Tryz.func133, Tryz.ntmps133; go_wp2_with fail; refine (rfollow_any _ _ (by omega) (by omega)).mono ?_; rintro e w' ⟨rfl, rfl⟩; rw [← HF.out]; have d1 : decide ((s.size : Int) < (i : Int) + 1 + f) = false := dF (by omega); go_wp2_with fail; refine (rfollow_any _ _ (by omega) (by omega)).mono ?_; rintro e w' ⟨rfl, rfl⟩; rw [← HF.out]; go_wp2_with fail
 go_loop [8, 9] (fun n j => ∃ k : Nat, k ≤ f ∧ j = .int .i64 ((i : Int) + 1 + k) ∧ n = .int .u64 (Lib.beNat ((s.data.toList.drop (i + 1)).take k) : Nat)) (fun _ j => (i + 1 + f) - (intOf j).toNat)
 case atStart => exact ⟨0, Nat.zero_le _, by go_num, rfl⟩
 case round =>
  obtain ⟨k, hk, rfl, rfl⟩ := hrel; have hlt0 := beNat_take_lt s (i + 1) k (by omega); by_cases hkf : k < f
  ·have hp := WP.pow256 k (by omega)
   have hix : i + 1 + k < s.size := by omega
   have HB : Hid (Lib.beNat ((s.data.toList.drop (i + 1)).take (k + 1)) = Lib.beNat ((s.data.toList.drop (i + 1)).take k) * 256 + (s[i + 1 + k]'hix).toNat) :=
    zj (by rw [WP.drop_take_snoc s (i + 1) k (by omega), WP.beNat_snoc])
   have hby2 := (s[i + 1 + k]'hix).toNat_lt; generalize Lib.beNat ((s.data.toList.drop (i + 1)).take k) = u at *; go_wp2_with fail
   go_round
   case rel =>
    refine ⟨k + 1, by omega, by go_num, ?_⟩; rw [HB.out]
    go_num
   case measure => simp [intOf]; omega
  ·obtain rfl : k = f := by omega
   have hfe := HF.out; unfold WP.flw at hfe; have HVV := zj (show v = WP.told s[i].toNat ((s.data.toList.drop (i + 1)).take k) from HV.out)
   have hvi : (v : Int) ≤ 18446744073709551615 := by omega
   have q2 : (0 : Int) ≤ (i : Int) + 1 + k := by omega
   have q3 : ((i : Int) + 1 + k).toNat = i + 1 + k := by omega
   have q4 : (i : Int) + 1 + k ≤ s.size := by omega
   have q5 : (i : Int) ≤ (i : Int) + 1 + k := by omega
   rcases (show s[i].toNat < 241 ∨ (241 ≤ s[i].toNat ∧ s[i].toNat < 249) ∨ s[i].toNat = 249 ∨ 249 < s[i].toNat by omega) with h | h | h | h
   ·have e := HVV.out
    rw [WP.told_1 _ _ h] at e; have E := zj e; clear hfe HVV HV e; generalize Lib.beNat ((s.data.toList.drop (i + 1)).take k) = u at *; cases q
    all_goals
     go_wp2_with fail
     go_region_held3 (fun _ => True) (trivial) ((go_at_call 183; refine (HP.out _ (by have := E.out; omega) _).mono ?_; rintro e w2 ⟨rfl, hb2⟩))
     all_goals clear q2 q3 q4 q5
     all_goals go_wp2_with fail
     all_goals go_ret3
     all_goals refine ⟨?_, below_of_drew hb2⟩
    all_goals first
     | exact rfl
     | exact ret_got (by have := E.out; omega) (by omega)
   ·have e := HVV.out
    rw [WP.told_2 _ _ h.1 h.2] at e; have E := zj e; rw [if_neg (by omega), if_pos (by omega)] at hfe
    have hk1 : k = 1 := by omega
    have hlt1 : Lib.beNat ((s.data.toList.drop (i + 1)).take k) < 256 := by have := hlt0; rwa [show (256 : Nat) ^ k = 256 by rw [hk1]] at this
    clear hk1 hlt0; clear hfe HVV HV e; generalize Lib.beNat ((s.data.toList.drop (i + 1)).take k) = u at *; cases q
    all_goals
     go_wp2_with fail
     go_region_held3 (fun _ => True) (trivial) ((go_at_call 183; refine (HP.out _ (by have := E.out; omega) _).mono ?_; rintro e w2 ⟨rfl, hb2⟩))
     all_goals clear q2 q3 q4 q5
     all_goals go_wp2_with fail
     all_goals go_ret3
     all_goals refine ⟨?_, below_of_drew hb2⟩
    all_goals first
     | exact rfl
     | exact ret_got (by have := E.out; omega) (by omega)
   ·have e := HVV.out
    rw [WP.told_3 _ _ h] at e; have E := zj e; rw [if_neg (by omega), if_neg (by omega)] at hfe
    have hk1 : k = 2 := by omega
    have hlt1 : Lib.beNat ((s.data.toList.drop (i + 1)).take k) < 65536 := by have := hlt0; rwa [show (256 : Nat) ^ k = 65536 by rw [hk1]] at this
    clear hlt0; have hne9 : ((s[i].toNat : Int) == 249) = true := beq_iff_eq.2 (by omega)
    have h' : 249 ≤ s[i].toNat := by omega
    clear hk1 h; clear hfe HVV HV e; generalize Lib.beNat ((s.data.toList.drop (i + 1)).take k) = u at *; cases q
    all_goals
     go_wp2_with fail
     go_region_held3 (fun _ => True) (trivial) ((go_at_call 183; refine (HP.out _ (by have := E.out; omega) _).mono ?_; rintro e w2 ⟨rfl, hb2⟩))
     all_goals clear q2 q3 q4 q5
     all_goals go_wp2_with fail
     all_goals go_ret3
     all_goals refine ⟨?_, below_of_drew hb2⟩
    all_goals first
     | exact rfl
     | exact ret_got (by have := E.out; omega) (by omega)
   ·have e := HVV.out
    rw [WP.told_4 _ _ h] at e; have E := zj e; have hne9 : ((s[i].toNat : Int) == 249) = false := beq_eq_false_iff_ne.2 (by omega); clear hfe HVV HV e; generalize Lib.beNat ((s.data.toList.drop (i + 1)).take k) = u at *; cases q
    all_goals
     go_wp2_with fail
     go_region_held3 (fun _ => True) (trivial) ((go_at_call 183; refine (HP.out _ (by have := E.out; omega) _).mono ?_; rintro e w2 ⟨rfl, hb2⟩))
     all_goals clear q2 q3 q4 q5
     all_goals go_wp2_with fail
     all_goals go_ret3
     all_goals refine ⟨?_, below_of_drew hb2⟩
    all_goals first
     | exact rfl
     | exact ret_got (by have := E.out; omega) (by omega)
theorem rget_any (s : ByteArray) (i : Int) (w : World) (h0 : 0 ≤ i) (h1 : i ≤ s.size) (h2 : s.size ≤ 1000000) :
  Calls Tryz.prog 133 #[.string s, .int .i64 i] w fun e w' => e = .returned (.tuple #[.int .u64 (WP.get s.data.toList i.toNat).1, .int .i64 (WP.get s.data.toList i.toNat).2.1, .int .i64 (WP.get s.data.toList i.toNat).2.2]) ∧ Below w.heap.size w w' := by
 obtain ⟨a, rfl⟩ := Int.eq_ofNat_of_zero_le h0; rw [Int.toNat_natCast]; by_cases he : a < s.size
 ·have hn := WP.flw_nn s[a].toNat
  by_cases hs : (s.size : Int) - a ≤ WP.flw s[a].toNat
  ·rw [WP.get_short s a he hs]
   exact (rget_short s a w he hs h2).mono fun e w' ⟨h, h'⟩ => ⟨h, h' ▸ Below.refl _ _⟩
  ·obtain ⟨f, hf⟩ := Int.eq_ofNat_of_zero_le hn
   have hl : (((s.extract (a + 1) (a + 1 + f)).data.toList.length : Nat) : Int) = WP.flw s[a].toNat := by rw [Lib.extract_data]; simp; omega
   have hvb := WP.told_le s[a].toNat _ (by have := s[a].toNat_lt; omega) hl; rw [WP.get_rest s a f he hf.symm (by omega)]; have H := rget_go s a w he f _ hf.symm (by omega) h2 rfl hvb _ rfl; by_cases hq : WP.put (WP.told s[a].toNat (s.extract (a + 1) (a + 1 + f)).data.toList) = (s.extract a (a + 1 + f)).toList
   ·rw [if_pos hq]
    rw [beq_iff_eq.2 hq] at H; exact H
   ·rw [if_neg hq]
    rw [beq_eq_false_iff_ne.2 hq] at H; exact H
 ·rw [WP.get_end _ a (by simp; omega)]
  exact (rget_end s a w (by omega)).mono fun e w' ⟨h, h'⟩ => ⟨h, h' ▸ Below.refl _ _⟩
theorem right_over (S : ByteArray) (L P : Int) : VP.Right (pv true S L P) ↔ S = ⟨#[]⟩ ∧ 1 ≤ L ∧ L ≤ 4096 ∧ 1 ≤ P ∧ P ≤ 4095 := by
 constructor
 ·rintro (⟨_, h1, h2⟩ | ⟨h, _⟩)
  ·exact ⟨ByteArray.ext (Array.toList_inj.1 h1), h2⟩
  ·cases h
 ·rintro ⟨rfl, h2⟩
  exact .inl ⟨rfl, rfl, h2⟩
theorem right_text (S : ByteArray) (L P : Int) : VP.Right (pv false S L P) ↔ S.size ≤ 256 ∧ L = 0 ∧ P = 0 := by
 constructor
 ·rintro (⟨h, _⟩ | ⟨_, h⟩)
  ·cases h
  ·exact h
 ·exact fun h => .inr ⟨rfl, h⟩
theorem empty_eq (S : ByteArray) : (S.toList == []) = decide (S = ⟨#[]⟩) := by
 rw [Lib.toList_data]; by_cases h : S = ⟨#[]⟩
 ·subst h; rfl
 ·rw [dF h]
  exact beq_eq_false_iff_ne.2 fun e => h (ByteArray.ext (Array.toList_inj.1 e))
theorem rright_any (O : Bool) (S : ByteArray) (L P : Int) (w : World) :
  Calls Tryz.prog 186 #[vv O S L P] w fun e w' => e = .returned (.bool (decide (VP.Right (pv O S L P)))) ∧ Below w.heap.size w w' := by
 cases O with
 | true =>
  have he := empty_eq S
  have he2 : (S.toList == (⟨#[]⟩ : ByteArray).toList) = decide (S = ⟨#[]⟩) := by rw [Lib.toList_data ⟨#[]⟩]; exact he
  by_cases h0 : S = ⟨#[]⟩
  ·rw [dT h0] at he he2
   rcases (show L < 1 ∨ 4096 < L ∨ (1 ≤ L ∧ L ≤ 4096 ∧ P < 1) ∨ (1 ≤ L ∧ L ≤ 4096 ∧ 4095 < P) ∨ (1 ≤ L ∧ L ≤ 4096 ∧ 1 ≤ P ∧ P ≤ 4095) by omega) with h | h | h | h | h
   ·have e : decide (VP.Right (pv true S L P)) = false := dF (fun h' => by have := (right_over S L P).1 h'; omega)
    rw [e]; go_enter Tryz.func186, Tryz.ntmps186; go_wp2_with fail; go_ret; exact ⟨rfl, below_alloc _ _⟩
   ·have e : decide (VP.Right (pv true S L P)) = false := dF (fun h' => by have := (right_over S L P).1 h'; omega)
    rw [e]; go_enter Tryz.func186, Tryz.ntmps186; go_wp2_with fail; go_ret; exact ⟨rfl, below_alloc _ _⟩
   ·have e : decide (VP.Right (pv true S L P)) = false := dF (fun h' => by have := (right_over S L P).1 h'; omega)
    rw [e]; obtain ⟨h1, h2, h3⟩ := h; go_enter Tryz.func186, Tryz.ntmps186; go_wp2_with fail; go_ret; exact ⟨rfl, below_alloc _ _⟩
   ·have e : decide (VP.Right (pv true S L P)) = false := dF (fun h' => by have := (right_over S L P).1 h'; omega)
    rw [e]; obtain ⟨h1, h2, h3⟩ := h; have d1 : decide (P ≤ 4095) = false := dF (by omega); go_enter Tryz.func186, Tryz.ntmps186; go_wp2_with fail; go_ret; exact ⟨rfl, below_alloc _ _⟩
   ·have e : decide (VP.Right (pv true S L P)) = true := dT ((right_over S L P).2 ⟨h0, h.1, h.2.1, h.2.2.1, h.2.2.2⟩)
    rw [e]; obtain ⟨h1, h2, h3, h4⟩ := h; go_enter Tryz.func186, Tryz.ntmps186; go_wp2_with fail; go_ret; exact ⟨rfl, below_alloc _ _⟩
  ·rw [dF h0] at he he2
   have e : decide (VP.Right (pv true S L P)) = false := dF (fun h' => h0 ((right_over S L P).1 h').1); rw [e]; go_enter Tryz.func186, Tryz.ntmps186; go_wp2_with fail; go_ret; exact ⟨rfl, below_alloc _ _⟩
 | false =>
  rcases (show 256 < S.size ∨ (S.size ≤ 256 ∧ L ≠ 0) ∨ (S.size ≤ 256 ∧ L = 0 ∧ P ≠ 0) ∨ (S.size ≤ 256 ∧ L = 0 ∧ P = 0) by omega) with h | h | h | h
  ·have e : decide (VP.Right (pv false S L P)) = false := dF (fun h' => by have := (right_text S L P).1 h'; omega)
   rw [e]; have d1 : decide ((S.size : Int) ≤ 256) = false := dF (by omega); have d2 : decide (S.size ≤ 256) = false := dF (by omega); go_enter Tryz.func186, Tryz.ntmps186; go_wp2_with fail; go_ret; exact ⟨rfl, below_alloc _ _⟩
  ·have e : decide (VP.Right (pv false S L P)) = false := dF (fun h' => by have := (right_text S L P).1 h'; omega)
   rw [e]; have d1 : decide ((S.size : Int) ≤ 256) = true := dT (by omega); have d2 : decide (S.size ≤ 256) = true := dT (by omega); have d3 : (L == 0) = false := beq_eq_false_iff_ne.2 h.2; go_enter Tryz.func186, Tryz.ntmps186; go_wp2_with fail; go_ret; exact ⟨rfl, below_alloc _ _⟩
  ·have e : decide (VP.Right (pv false S L P)) = false := dF (fun h' => by have := (right_text S L P).1 h'; omega)
   rw [e]; have d1 : decide ((S.size : Int) ≤ 256) = true := dT (by omega); have d2 : decide (S.size ≤ 256) = true := dT (by omega); obtain ⟨h1, rfl, h3⟩ := h; have d3 : (P == 0) = false := beq_eq_false_iff_ne.2 h3; go_enter Tryz.func186, Tryz.ntmps186; go_wp2_with fail; go_ret; exact ⟨rfl, below_alloc _ _⟩
  ·have e : decide (VP.Right (pv false S L P)) = true := dT ((right_text S L P).2 h)
   rw [e]; have d1 : decide ((S.size : Int) ≤ 256) = true := dT (by omega); have d2 : decide (S.size ≤ 256) = true := dT (by omega); obtain ⟨h1, rfl, rfl⟩ := h; go_enter Tryz.func186, Tryz.ntmps186; go_wp2_with fail; go_ret; exact ⟨rfl, below_alloc _ _⟩
def cellS (t : ByteArray) (v : VP.V) : ByteArray := ⟨(VP.cellV t.data.toList v).toArray⟩
def putVV (t : ByteArray) (v : VP.V) : Value := if VP.OkV t.data.toList v then .tuple #[.string (cellS t v), .int .i64 0] else .tuple #[.string ⟨#[]⟩, .int .i64 3]
def kidS (k : Nat) (t : ByteArray) : ByteArray := ⟨(VP.cellK k t.data.toList).toArray⟩
def putKV (k : Int) (t : ByteArray) : Value := if VP.OkK k t.data.toList then .tuple #[.string (kidS k.toNat t), .int .i64 0] else .tuple #[.string ⟨#[]⟩, .int .i64 3]
theorem bytes_size (l : List UInt8) : (⟨l.toArray⟩ : ByteArray).size = l.length := by simp [ByteArray.size]
theorem wput_size (n : Nat) (h : n ≤ 18446744073709551615) : (⟨(WP.put n).toArray⟩ : ByteArray).size ≤ 9 := by
 obtain ⟨_, _, _, _, _, h1⟩ := WP.put_form n h; have := WP.size_bd n; rw [bytes_size]; omega
theorem four_size (n : Nat) : (⟨(Lib.leBytes 4 n).toArray⟩ : ByteArray).size = 4 := by rw [bytes_size, Lib.leBytes_length]
def textS (t : ByteArray) : ByteArray := ⟨(VP.text t.data.toList).toArray⟩
theorem textS_eq (t : ByteArray) (n : Nat) (h : t.size = n) : (⟨(WP.put n).toArray⟩ : ByteArray) ++ t = textS t := by
 subst h; apply ByteArray.ext; simp [textS, VP.text]
theorem cellS_over (t : ByteArray) (S : ByteArray) (l p : Nat) : textS t ++ ⟨#[1]⟩ ++ ⟨(WP.put l).toArray⟩ ++ ⟨(Lib.leBytes 4 p).toArray⟩ = cellS t (pv true S l p) := by
 apply ByteArray.ext; simp [textS, cellS, VP.cellV, VP.tail, pv]
theorem cellS_text (t : ByteArray) (S : ByteArray) (L P : Int) (n : Nat) (h : S.size = n) : textS t ++ ⟨#[0]⟩ ++ ⟨(WP.put n).toArray⟩ ++ S = cellS t (pv false S L P) := by
 subst h; apply ByteArray.ext; simp [textS, cellS, VP.cellV, VP.tail, pv, VP.text]
theorem textS_size (t : ByteArray) (h : t.size ≤ 1000000) : (textS t).size ≤ 9 + t.size := by
 have h1 := textS_eq t _ rfl; have h2 := wput_size t.size (by omega); rw [← h1, ByteArray.size_append]; omega
theorem vbox_keep (t : TypeId) (g : Nat) (O : Bool) (S : ByteArray) (L P : Int) : Hid (∀ W W' : World, Below W.heap.size W W' → (Hid (Bx t g O S L P W) ∧ W.cell? ⟨g, 0, none⟩ = some (.bool O) ∧ W.cell? ⟨g, 1, none⟩ = some (.string S) ∧ W.cell? ⟨g, 2, none⟩ = some (.int .i64 L) ∧ W.cell? ⟨g, 3, none⟩ = some (.int .i64 P)) → Hid (Bx t g O S L P W') ∧ W'.cell? ⟨g, 0, none⟩ = some (.bool O) ∧ W'.cell? ⟨g, 1, none⟩ = some (.string S) ∧ W'.cell? ⟨g, 2, none⟩ = some (.int .i64 L) ∧ W'.cell? ⟨g, 3, none⟩ = some (.int .i64 P)) :=
 zj fun W W' hb h => HasBx.below (t := t) (g := g) (O := O) (S := S) (L := L) (P := P) h hb
theorem rputv_any (t : ByteArray) (O : Bool) (S : ByteArray) (L P : Int) (w : World) (ht : t.size ≤ 1000000) (hs : S.size ≤ 1000000) :
  Calls Tryz.prog 137 #[.string t, vv O S L P] w fun e w' => e = .returned (putVV t (pv O S L P)) ∧ Below w.heap.size w w' := by
 have hb0 := below_alloc w (.cells #[.bool O, .string S, .int .i64 L, .int .i64 P] 143); by_cases h1 : 128 < t.size
 ·have e : putVV t (pv O S L P) = .tuple #[.string ⟨#[]⟩, .int .i64 3] := if_neg (fun h => by have := h.1; simp only [Array.length_toList, ByteArray.size_data] at this; omega)
  rw [e]; have d1 : decide (128 < t.size) = true := dT h1; have d2 : decide ((128 : Int) < t.size) = true := dT (by omega); go_enter Tryz.func137, Tryz.ntmps137; go_wp2_with fail
  go_ret2
  exact ⟨rfl, hb0⟩
 have d1 : decide (128 < t.size) = false := dF h1; have d2 : decide ((128 : Int) < t.size) = false := dF (by omega); have HR := zj (fun W => rright_any O S L P W); by_cases h2 : VP.Right (pv O S L P)
 ·have e : putVV t (pv O S L P) = .tuple #[.string (cellS t (pv O S L P)), .int .i64 0] := if_pos ⟨by simp only [Array.length_toList, ByteArray.size_data]; omega, h2⟩
  rw [dT h2] at HR; rw [e]; clear e; have HT := zj (textS_eq t t.size rfl); have hts := textS_size t ht; have HPT := zj (fun W => rput_any (t.size : Int) W (by omega) (by omega)); have hDs := wput_size t.size (by omega); rw [Int.toNat_natCast] at HPT; obtain ⟨D, hD⟩ : ∃ D : ByteArray, ⟨(WP.put t.size).toArray⟩ = D := ⟨_, rfl⟩; rw [hD] at HT HPT hDs; have a1 : IntKind.u64.wrap (t.size : Int) = t.size := Int.emod_eq_of_lt (by omega) (by show (t.size : Int) < 18446744073709551616; omega)
  have b1 : ¬ 9223372036854775807 < D.size + t.size := by omega
  have HK0 := zj (Bx.new 143 O S L P w); have HKeep := vbox_keep 143 w.heap.size O S L P; clear hD
  cases O with
  | true =>
   obtain ⟨hS, hL1, hL2, hP1, hP2⟩ := (right_over S L P).1 h2; obtain ⟨l, rfl⟩ := Int.eq_ofNat_of_zero_le (show 0 ≤ L by omega); obtain ⟨p, rfl⟩ := Int.eq_ofNat_of_zero_le (show 0 ≤ P by omega); have HPL := zj (fun W => rput_any (l : Int) W (by omega) (by omega)); have HPF := zj (fun W => rfour_any (p : Int) W (by omega) (by omega)); have hEs := wput_size l (by omega); have hGs := four_size p; rw [Int.toNat_natCast] at HPL HPF; have HC := cellS_over t S l p; obtain ⟨E, hE⟩ : ∃ E : ByteArray, ⟨(WP.put l).toArray⟩ = E := ⟨_, rfl⟩; obtain ⟨G, hG⟩ : ∃ G : ByteArray, ⟨(Lib.leBytes 4 p).toArray⟩ = G := ⟨_, rfl⟩; rw [hE] at HPL hEs HC; rw [hG] at HPF hGs HC; rw [← HC]; have HTE := HT.out; generalize textS t = X at *; have a2 : IntKind.u64.wrap (l : Int) = l := Int.emod_eq_of_lt (by omega) (by show (l : Int) < 18446744073709551616; omega); have a3 : IntKind.u32.wrap (p : Int) = p := Int.emod_eq_of_lt (by omega) (by show (p : Int) < 4294967296; omega); have o1 : (⟨#[1]⟩ : ByteArray).size = 1 := rfl
   have z1 : (X ++ (⟨#[1]⟩ : ByteArray)).size = X.size + 1 := by rw [ByteArray.size_append]; rfl
   obtain ⟨Y, hY⟩ : ∃ Y, X ++ (⟨#[1]⟩ : ByteArray) = Y := ⟨_, rfl⟩; rw [hY] at z1 ⊢; have z2 : (Y ++ E).size = Y.size + E.size := ByteArray.size_append; obtain ⟨Z, hZ⟩ : ∃ Z, Y ++ E = Z := ⟨_, rfl⟩; rw [hZ] at z2 ⊢
   have b2 : ¬ 9223372036854775807 < X.size + (⟨#[1]⟩ : ByteArray).size := by omega
   have b2' : ¬ 9223372036854775807 < X.size + 1 := by omega
   have b3 : ¬ 9223372036854775807 < Y.size + E.size := by omega
   have b4 : ¬ 9223372036854775807 < Z.size + G.size := by omega
   clear hE hG HC hS h2 o1 hEs hGs z1 z2 hts hDs hL1 hL2 hP1 hP2 HT; go_enter Tryz.func137, Tryz.ntmps137; go_wp2_with fail; refine (HR.out _).mono ?_; rintro e w1 ⟨rfl, hb1⟩; go_wp2_with fail; refine (HPT.out _).mono ?_; rintro e w2 ⟨rfl, hb2⟩; have hb12 := hb1.trans' hb2; have S2 := HKeep.out _ _ hb12 ⟨HK0, HK0.out.cells⟩; obtain ⟨K2, c0, c1, c2, c3⟩ := S2; go_wp2_with fail
   go_region_held3 (fun W => Hid (Bx 143 w.heap.size true S (l : Int) (p : Int) W) ∧ W.cell? ⟨w.heap.size, 0, none⟩ = some (.bool true) ∧ W.cell? ⟨w.heap.size, 1, none⟩ = some (.string S) ∧ W.cell? ⟨w.heap.size, 2, none⟩ = some (.int .i64 (l : Int)) ∧ W.cell? ⟨w.heap.size, 3, none⟩ = some (.int .i64 (p : Int)))
    (first | assumption | exact ⟨K2, c0, c1, c2, c3⟩ | exact HKeep.out _ _ (by assumption) (by assumption))
    (first
     | (go_at_call 183; refine (HPL.out _).mono ?_; rintro e w3 ⟨rfl, hb3⟩)
     | (go_at_call 147; refine (HPF.out _).mono ?_; rintro e w4 ⟨rfl, hb4⟩)
     | fail "no arm")
   all_goals
    go_wp2_with fail
    go_ret2
    exact ⟨rfl, (((hb0.trans' hb12).trans' (below_of_drew hb3)).trans' hb4)⟩
  | false =>
   obtain ⟨hS, rfl, rfl⟩ := (right_text S L P).1 h2; have HPL := zj (fun W => rput_any (S.size : Int) W (by omega) (by omega)); have hEs := wput_size S.size (by omega); rw [Int.toNat_natCast] at HPL; have HC := cellS_text t S 0 0 S.size rfl; obtain ⟨E, hE⟩ : ∃ E : ByteArray, ⟨(WP.put S.size).toArray⟩ = E := ⟨_, rfl⟩; rw [hE] at HPL hEs HC; rw [← HC]; have HTE := HT.out; generalize textS t = X at *; have a2 : IntKind.u64.wrap (S.size : Int) = S.size := Int.emod_eq_of_lt (by omega) (by show (S.size : Int) < 18446744073709551616; omega)
   have z1 : (X ++ (⟨#[0]⟩ : ByteArray)).size = X.size + 1 := by rw [ByteArray.size_append]; rfl
   obtain ⟨Y, hY⟩ : ∃ Y, X ++ (⟨#[0]⟩ : ByteArray) = Y := ⟨_, rfl⟩; rw [hY] at z1 ⊢; have z2 : (Y ++ E).size = Y.size + E.size := ByteArray.size_append; obtain ⟨Z, hZ⟩ : ∃ Z, Y ++ E = Z := ⟨_, rfl⟩; rw [hZ] at z2 ⊢; have o1 : (⟨#[0]⟩ : ByteArray).size = 1 := rfl
   have b2 : ¬ 9223372036854775807 < X.size + (⟨#[0]⟩ : ByteArray).size := by omega
   have b2' : ¬ 9223372036854775807 < X.size + 1 := by omega
   have b3 : ¬ 9223372036854775807 < Y.size + E.size := by omega
   have b4 : ¬ 9223372036854775807 < Z.size + S.size := by omega
   clear hE HC hS h2 o1 hEs z1 z2 hts hDs HT; go_enter Tryz.func137, Tryz.ntmps137; go_wp2_with fail; refine (HR.out _).mono ?_; rintro e w1 ⟨rfl, hb1⟩; go_wp2_with fail; refine (HPT.out _).mono ?_; rintro e w2 ⟨rfl, hb2⟩; have hb12 := hb1.trans' hb2; have S2 := HKeep.out _ _ hb12 ⟨HK0, HK0.out.cells⟩; obtain ⟨K2, c0, c1, c2, c3⟩ := S2; go_wp2_with fail
   go_region_held3 (fun W => Hid (Bx 143 w.heap.size false S 0 0 W) ∧ W.cell? ⟨w.heap.size, 0, none⟩ = some (.bool false) ∧ W.cell? ⟨w.heap.size, 1, none⟩ = some (.string S) ∧ W.cell? ⟨w.heap.size, 2, none⟩ = some (.int .i64 0) ∧ W.cell? ⟨w.heap.size, 3, none⟩ = some (.int .i64 0))
    (first | assumption | exact ⟨K2, c0, c1, c2, c3⟩ | exact HKeep.out _ _ (by assumption) (by assumption))
    (first
     | (go_at_call 183; refine (HPL.out _).mono ?_; rintro e w3 ⟨rfl, hb3⟩)
     | fail "no arm")
   all_goals
    go_wp2_with fail
    go_ret2
    exact ⟨rfl, (hb0.trans' hb12).trans' (below_of_drew hb3)⟩
 ·have e : putVV t (pv O S L P) = .tuple #[.string ⟨#[]⟩, .int .i64 3] := if_neg (fun h => h2 h.2)
  rw [e]; rw [dF h2] at HR; go_enter Tryz.func137, Tryz.ntmps137; go_wp2_with fail; refine (HR.out _).mono ?_; rintro e w1 ⟨rfl, hb1⟩; go_wp2_with fail
  go_ret2
  exact ⟨rfl, hb0.trans' hb1⟩
theorem kidS_eq (k : Nat) (t : ByteArray) : (⟨(Lib.leBytes 4 k).toArray⟩ : ByteArray) ++ ⟨(WP.put t.size).toArray⟩ ++ t = kidS k t := by
 apply ByteArray.ext; simp [kidS, VP.cellK, VP.text]
theorem rputk_any (k : Int) (t : ByteArray) (w : World) (ht : t.size ≤ 1000000) :
  Calls Tryz.prog 141 #[.int .i64 k, .string t] w fun e w' => e = .returned (putKV k t) ∧ Below w.heap.size w w' := by
 have hts : t.data.toList.length = t.size := by simp
 by_cases h1 : k < 1
 ·have e : putKV k t = .tuple #[.string ⟨#[]⟩, .int .i64 3] := if_neg (fun h => by have := h.1; omega)
  rw [e]; clear hts; have d1 : decide (k < 1) = true := dT h1; go_enter Tryz.func141, Tryz.ntmps141; go_wp2_with fail
  go_ret2
  exact ⟨rfl, Below.refl _ _⟩
 have d1 : decide (k < 1) = false := dF h1; by_cases h2 : 4095 < k
 ·have e : putKV k t = .tuple #[.string ⟨#[]⟩, .int .i64 3] := if_neg (fun h => by have := h.2.1; omega)
  rw [e]; clear hts; have d2 : decide (4095 < k) = true := dT h2; go_enter Tryz.func141, Tryz.ntmps141; go_wp2_with fail
  go_ret2
  exact ⟨rfl, Below.refl _ _⟩
 have d2 : decide (4095 < k) = false := dF h2; by_cases h3 : 128 < t.size
 ·have e : putKV k t = .tuple #[.string ⟨#[]⟩, .int .i64 3] := if_neg (fun h => by have := h.2.2; omega)
  rw [e]; clear hts; have d3 : decide (128 < t.size) = true := dT h3; have d4 : decide ((128 : Int) < t.size) = true := dT (by omega); go_enter Tryz.func141, Tryz.ntmps141; go_wp2_with fail
  go_ret2
  exact ⟨rfl, Below.refl _ _⟩
 have d3 : decide (128 < t.size) = false := dF h3; have d4 : decide ((128 : Int) < t.size) = false := dF (by omega); obtain ⟨k, rfl⟩ := Int.eq_ofNat_of_zero_le (show 0 ≤ k by omega); have e : putKV k t = .tuple #[.string (kidS k t), .int .i64 0] := if_pos ⟨by omega, by omega, by omega⟩; rw [e]; clear hts e; have HPF := zj (fun W => rfour_any (k : Int) W (by omega) (by omega)); have HPT := zj (fun W => rput_any (t.size : Int) W (by omega) (by omega)); have hDs := wput_size t.size (by omega); have hGs := four_size k; rw [Int.toNat_natCast] at HPF HPT; have HC := kidS_eq k t; obtain ⟨D, hD⟩ : ∃ D : ByteArray, ⟨(WP.put t.size).toArray⟩ = D := ⟨_, rfl⟩; obtain ⟨G, hG⟩ : ∃ G : ByteArray, ⟨(Lib.leBytes 4 k).toArray⟩ = G := ⟨_, rfl⟩; rw [hD] at HPT hDs HC; rw [hG] at HPF hGs HC; rw [← HC]; have a1 : IntKind.u64.wrap (t.size : Int) = t.size := Int.emod_eq_of_lt (by omega) (by show (t.size : Int) < 18446744073709551616; omega); have a3 : IntKind.u32.wrap (k : Int) = k := Int.emod_eq_of_lt (by omega) (by show (k : Int) < 4294967296; omega); have z1 : (G ++ D).size = G.size + D.size := ByteArray.size_append; obtain ⟨Y, hY⟩ : ∃ Y, G ++ D = Y := ⟨_, rfl⟩; rw [hY] at z1 ⊢
 have b2 : ¬ 9223372036854775807 < G.size + D.size := by omega
 have b3 : ¬ 9223372036854775807 < Y.size + t.size := by omega
 clear hD hG HC hDs hGs z1; go_enter Tryz.func141, Tryz.ntmps141; go_wp2_with fail; refine (HPF.out _).mono ?_; rintro e w1 ⟨rfl, hb1⟩; go_wp2_with fail; refine (HPT.out _).mono ?_; rintro e w2 ⟨rfl, hb2⟩; go_wp2_with fail
 go_ret2
 exact ⟨rfl, hb1.trans' hb2⟩
def gotT : Option (List UInt8 × Nat) → Value
 | none => .tuple #[.string ⟨#[]⟩, .int .i64 (-1)]
 | some x => .tuple #[.string ⟨x.1.toArray⟩, .int .i64 (x.2 : Nat)]
theorem extract_list (s : ByteArray) (i n : Nat) : (⟨((s.data.toList.drop i).take n).toArray⟩ : ByteArray) = s.extract i (i + n) := by
 apply ByteArray.ext; apply Array.toList_inj.1; have h := Lib.extract_data s i (i + n); rw [h]; simp
theorem rtext_any (s : ByteArray) (i : Nat) (w : World) (hi : i ≤ s.size) (hs : s.size ≤ 1000000) :
  Calls Tryz.prog 136 #[.string s, .int .i64 i] w fun e w' => e = .returned (gotT (VP.gtext s.data.toList i)) ∧ Below w.heap.size w w' := by
 have HG := zj (rget_any s (i : Int) w (by omega) (by omega) hs); rw [Int.toNat_natCast] at HG
 have hts : s.data.toList.length = s.size := by simp
 obtain ⟨n, tu, er, hg⟩ : ∃ n tu er, WP.get s.data.toList i = (n, tu, er) := ⟨_, _, _, rfl⟩; have hsp := WP.get_spec s.data.toList i; rw [hg] at HG hsp; simp only at HG
 have bad : er ≠ 0 ∨ s.size - tu < n → VP.gtext s.data.toList i = none := fun h => by
  unfold VP.gtext; rw [hg]; simp only; rw [if_neg]; rintro ⟨h1, h2⟩; rw [hts] at h2; omega
 rcases hsp with h | h | ⟨n', to', h, h1, h2, _, h4⟩
 ·simp only [Prod.mk.injEq] at h
  obtain ⟨rfl, rfl, rfl⟩ := h; rw [bad (by omega)]; clear bad hg hts; go_enter Tryz.func136, Tryz.ntmps136; go_wp2_with fail; refine HG.out.mono ?_; rintro e w1 ⟨rfl, hb1⟩; go_wp2_with fail
  go_ret2
  exact ⟨rfl, hb1⟩
 ·simp only [Prod.mk.injEq] at h
  obtain ⟨rfl, rfl, rfl⟩ := h; rw [bad (by omega)]; clear bad hg hts; go_enter Tryz.func136, Tryz.ntmps136; go_wp2_with fail; refine HG.out.mono ?_; rintro e w1 ⟨rfl, hb1⟩; go_wp2_with fail
  go_ret2
  exact ⟨rfl, hb1⟩
 ·simp only [Prod.mk.injEq] at h
  obtain ⟨rfl, rfl, rfl⟩ := h; rw [hts] at h2; have q1 : IntKind.i64.wrap ((s.size : Int) - tu) = (s.size : Int) - tu := IntWalk.i64_in _ (by omega); have q2 : IntKind.u64.wrap ((s.size : Int) - tu) = (s.size : Int) - tu := Int.emod_eq_of_lt (by omega) (by show (s.size : Int) - tu < 18446744073709551616; omega); by_cases h5 : s.size - tu < n
  ·rw [bad (by omega)]
   have d1 : decide ((s.size : Int) - tu < n) = true := dT (by omega); clear bad hg hts; go_enter Tryz.func136, Tryz.ntmps136; go_wp2_with fail; refine HG.out.mono ?_; rintro e w1 ⟨rfl, hb1⟩; go_wp2_with fail
   go_ret2
   exact ⟨rfl, hb1⟩
  ·have hok : VP.gtext s.data.toList i = some ((s.data.toList.drop tu).take n, tu + n) := by
    unfold VP.gtext; rw [hg]; simp only; rw [if_pos ⟨trivial, by rw [hts]; omega⟩]
   rw [hok]; have he := extract_list s tu n; rw [gotT, he]; have d1 : decide ((s.size : Int) - tu < n) = false := dF (by omega); have q3 : IntKind.i64.wrap (n : Int) = n := IntWalk.i64_in _ (by omega)
   have q4 : IntKind.i64.wrap ((tu : Int) + n) = ((tu + n : Nat) : Int) := by rw [show ((tu : Int) + n) = ((tu + n : Nat) : Int) by omega]; exact IntWalk.i64_in _ (by omega)
   have q5 : ((tu : Int) + n) = ((tu + n : Nat) : Int) := by omega
   obtain ⟨z, hz⟩ : ∃ z, tu + n = z := ⟨_, rfl⟩; rw [hz] at q4 q5 ⊢
   have j1 : (0 : Int) ≤ tu := by omega
   have j2 : (tu : Int) ≤ z := by omega
   have j3 : (z : Int) ≤ s.size := by omega
   have j4 : tu ≤ z := by omega
   have j5 : z ≤ s.size := by omega
   clear bad hg hts hok he hz; go_enter Tryz.func136, Tryz.ntmps136; go_wp2_with fail; refine HG.out.mono ?_; rintro e w1 ⟨rfl, hb1⟩; go_wp2_with fail
   go_ret2
   exact ⟨rfl, hb1⟩
end Go.Proofs.YtpeghilfldpgfaaGreatDoor.L9
namespace Go.Proofs.YtpeghilfldpgfaaGreatDoor.L8
open Go.Proofs.YtpeghilfldpgfaaGreatDoor.L5
open Go.RowKit
theorem sum_bs (l : List ByteArray) (h : ∀ s ∈ l, s.size ≤ 65535) : LP.sum (Bs l) ≤ 65535 * l.length := by
 induction l with
 | nil => simp [Bs, LP.sum]
 | cons c l ih =>
  have h1 := h c (by simp); have h2 := ih (fun s hs => h s (by simp [hs])); simp only [Bs, List.map_cons, LP.sum, List.length_cons] at h2 ⊢; have := b_size c; omega
theorem sum_take (l : List ByteArray) (k : Nat) (s : ByteArray) (h : l[k]? = some s) : LP.sum (Bs (l.take (k + 1))) = LP.sum (Bs (l.take k)) + s.size := by
 rw [bs_snoc l k s h, LP.sum_append]; simp [LP.sum, b_size]
theorem size8_any (f : ByteArray) (A : Option Addr) (l : List ByteArray) (ca : Nat) (w : World) (ha : Lies w w.heap.size A l) (hl : l.length ≤ 1000000) (hf : f.size ≤ 1000000) (hs : ∀ s ∈ l, s.size ≤ 65535) :
  Calls Tryz.prog 184 #[.string f, .slice A l.length ca] w fun e w' => e = .returned (.int .i64 (LP.need f.size (Bs l) : Nat)) ∧ w = w' := by
 have HA := zj ha; have HS := zj hs; obtain ⟨n, hn⟩ : ∃ n, n = l.length := ⟨_, rfl⟩; have HN := zj hn; rw [← hn] at hl ⊢; clear ha hs hn; go_enter Tryz.func184, Tryz.ntmps184; go_wp2_with fail
 go_loop [5, 6] (fun nv iv => ∃ k : Nat, k ≤ n ∧ iv = .int .i64 k ∧ nv = .int .i64 (f.size + 2 + LP.sum (Bs (l.take k)) + 2 * k : Nat)) (fun _ iv => n - (intOf iv).toNat)
 case atStart => exact ⟨0, Nat.zero_le _, rfl, by simp [Bs, LP.sum]⟩
 case round =>
  obtain ⟨k, hk, rfl, rfl⟩ := hrel; have hb : LP.sum (Bs (l.take k)) ≤ 65535 * n := Nat.le_trans (sum_bs _ (fun s hs => HS.out s (List.mem_of_mem_take hs))) (Nat.mul_le_mul_left _ (by rw [List.length_take]; omega)); by_cases hlt : k < n
  ·obtain ⟨c, hc⟩ : ∃ c, l[k]? = some c := ⟨_, List.getElem?_eq_getElem (by have := HN.out; omega)⟩
   obtain ⟨a, rfl, hab, hcell⟩ := HA.out k c hc; have hcs : c.size ≤ 65535 := HS.out c (List.mem_of_getElem? hc); have HT := zj (sum_take l k c hc); clear hc hab; generalize LP.sum (Bs (l.take k)) = q at *; go_wp2_with fail
   go_round
   case rel => exact ⟨k + 1, by omega, by go_num, by rw [HT.out]; go_num⟩
   case measure => simp [intOf]; omega
  ·obtain rfl : k = n := by omega
   have HE : Hid (f.size + 2 + LP.sum (Bs (l.take k)) + 2 * k = LP.need f.size (Bs l)) := zj (by
    rw [HN.out, List.take_length]; unfold LP.need
    rw [bs_length])
   rw [HE.out]; go_wp2_with fail; go_ret; exact ⟨rfl, rfl⟩
theorem addr_at (b j : Nat) : (⟨b, 0, none⟩ : Addr).add j = ⟨b, j, none⟩ := by
 unfold Addr.add
 split <;> simp_all
theorem conv_new (w : World) (xs : List Int) (t e s : TypeId) {P : Program} (ht : P.underlying t = some (.slice e)) (he : P.underlying e = some (.int .u8)) (hs : P.underlying s = some .string) :
  (convert t s (.slice (some ⟨w.heap.size, 0, none⟩) xs.length xs.length)).run P (w.alloc (.cells (xs.map (Value.int .u8)).toArray e)) = .ok (.string (strOfNums xs)) (w.alloc (.cells (xs.map (Value.int .u8)).toArray e)) := by
 refine run_convert_bytes_arg _ t e ht he _ 0 _ _ xs rfl (fun i hi => ?_) s hs; rw [Nat.zero_add, cell_of_row _ _ i _ _ _ (heap_alloc_new _ _)]; simp [hi]
def byteCells (l : List UInt8) : List Value := l.map fun b => .int .u8 b.toNat
theorem own_none {w : World} {base : Nat} {t : TypeId} (h : base ≤ w.heap.size) : (w.alloc (.cells #[] t)).ownsRow base t 1 (.slice (some ⟨w.heap.size, 0, none⟩) 0 0) 0 [] :=
 ⟨rfl, .inr ⟨w.heap.size, 0, #[], rfl, h, heap_alloc_new _ _, Nat.le_refl _, by unfold maxLen; omega, rfl, rfl⟩⟩
theorem conv_own {P : Program} {w : World} {base : Nat} {t e s : TypeId} {g n cap : Nat} {l : List UInt8} (ht : P.underlying t = some (.slice e)) (he : P.underlying e = some (.int .u8)) (hs : P.underlying s = some .string)
  (h : w.ownsRow base e 1 (.slice (some ⟨g, 0, none⟩) n cap) n (byteCells l)) (hl : l.length = n) : (convert t s (.slice (some ⟨g, 0, none⟩) n cap)).run P w = .ok (.string ⟨l.toArray⟩) w := by
 subst hl; refine run_convert_bytes_back w t s e _ cap l ht he hs (fun j hj => ?_); rw [addr_at, h.cellAt j (by omega)]; simp [byteCells, hj]
theorem Tryz.infoByte : (Tryz.prog.info? 5).map (fun i => (i.zero, i.size, i.bytes)) = some (some (.int .u8 0), 1, 1) := by kernel_rfl
theorem byteCells_snoc (l : List UInt8) (b : UInt8) : byteCells (l ++ [b]) = byteCells l ++ [.int .u8 b.toNat] := by simp [byteCells]
theorem refRepeat_any (c : UInt8) (n : Nat) (w : World) (hn : n ≤ 100000) :
  Calls Tryz.prog 38 #[.int .u8 c.toNat, .int .i64 n] w fun e w' => e = .returned (.string ⟨(List.replicate n c).toArray⟩) ∧ Below w.heap.size w w' := by
 obtain ⟨i0, hi, hz0, hz1, hz2⟩ := info_parts Tryz.infoByte; go_enter Tryz.func38, Tryz.ntmps38; go_wp2_with fail
 go_loopw [5, 6] (fun v i wr => ∃ (k g cap : Nat), k ≤ n ∧ i = .int .i64 k ∧ v = .slice (some ⟨g, 0, none⟩) k cap ∧ w.heap.size ≤ g ∧ wr.ownsRow w.heap.size 5 1 (.slice (some ⟨g, 0, none⟩) k cap) k (byteCells (List.replicate k c)) ∧ Below w.heap.size w wr) (fun _ i _ => n - (intOf i).toNat)
 case atStart => exact ⟨0, w.heap.size, 0, by omega, rfl, rfl, Nat.le_refl _, own_none (Nat.le_refl _), (Below.refl _ w).alloc (Nat.le_refl _) _⟩
 case round =>
  obtain ⟨k, g, cap, hk, rfl, rfl, hg, hown, hb⟩ := hrel; have hbs := hb.size; by_cases hlt : k < n
  ·go_wp2_with (at_builtin; refine wpList_append_lies _ rfl _ _ 86 rfl w.heap.size 5 i0 (.int .u8 0) 1 1 Tryz.underlying86 hi hz0 hz1 hz2 rfl (by decide) (.slice (some ⟨g, 0, none⟩) k cap) k _ rfl (hown.alloc _) ⟨wr.heap.size, 0, none⟩ 1 1 [.int .u8 c.toNat] rfl rfl (World.news_of_block (cs := #[.int .u8 c.toNat]) (t := 5) (fr := (0, 0)) (heap_alloc_new wr _)) (by simp [Value.oneCell']) (by omega) (by unfold maxLen; omega) (by omega) (by simp; omega) (wr.heap.size + 1) (by simp) ?_; intro g' cap' w1 hown1 hgrow hat hlt1)
   have hg' : w.heap.size ≤ g' := by rcases hat with h | h; (simp [Value.ownBlock] at h; omega); omega
   have hb' : Below w.heap.size w w1 := (hb.alloc hbs _).grown hgrow (by simp; omega) (fun j e => by simp [Value.ownBlock] at e; omega); clear hat hgrow hlt1
   go_roundw
   case rel => exact ⟨k + 1, g', cap', by omega, by go_num, rfl, hg', by rw [List.replicate_succ', byteCells_snoc]; exact hown1, hb'⟩
   case measure => simp [intOf]; omega
  ·obtain rfl : k = n := by omega
   have hcv := conv_own Tryz.underlying86 Tryz.underlying5 Tryz.underlying9 hown (by simp); go_wp2_with fail; go_ret; exact ⟨rfl, hb⟩
theorem repeat0_any (n : Nat) (w : World) (hn : n ≤ 100000) :
  Calls Tryz.prog 38 #[.int .u8 0, .int .i64 n] w fun e w' => e = .returned (.string ⟨(List.replicate n (0 : UInt8)).toArray⟩) ∧ Below w.heap.size w w' := refRepeat_any 0 n w hn
theorem two_text (n : Nat) (h : n < 65536) : strOfNums [((n % 256 : Nat) : Int), ((n / 256 : Nat) : Int)] = (⟨(LP.two n).toArray⟩ : ByteArray) := by
 apply ByteArray.ext; simp [strOfNums, LP.two, LP.u8]; exact ⟨congrArg _ (by omega), congrArg _ (by omega)⟩
theorem two_any (n : Nat) (w : World) (h : n < 65536) :
  Calls Tryz.prog 185 #[.int .i64 n] w fun e w' => e = .returned (.string ⟨(LP.two n).toArray⟩) ∧ Below w.heap.size w w' := by
 have hc := fun a b => conv_new w [a, b] 86 5 9 Tryz.underlying86 Tryz.underlying5 Tryz.underlying9; simp only [List.length_cons, List.length_nil, List.map_cons, List.map_nil, Nat.zero_add, Nat.reduceAdd] at hc; have HT := zj (two_text n h); obtain ⟨a, ha⟩ : ∃ a : Nat, a = n % 256 := ⟨_, rfl⟩; obtain ⟨b, hb⟩ : ∃ b : Nat, b = n / 256 := ⟨_, rfl⟩; rw [← ha, ← hb] at HT
 have q1 : (n : Int) % 256 = a := by omega
 have q2 : (n : Int).tmod 256 = a := by rw [Int.tmod_eq_emod_of_nonneg (by omega)]; exact q1
 have q3 : (n : Int) / 256 = b := by omega
 have q4 : (n : Int).tdiv 256 = b := by rw [Int.tdiv_eq_ediv_of_nonneg (by omega)]; exact q3
 have q5 : IntKind.i64.wrap (b : Int) = b := IntWalk.i64_in _ (by omega); have q6 : IntKind.u8.wrap (a : Int) = a := IntWalk.u8_in _ (by omega); have q7 : IntKind.u8.wrap (b : Int) = b := IntWalk.u8_in _ (by omega)
 have q8 : (a : Int) % 256 = a := by omega
 have q9 : (b : Int) % 256 = b := by omega
 clear ha hb; go_enter Tryz.func185, Tryz.ntmps185; go_wp2_with fail; go_ret; exact ⟨by rw [← HT.out]; rfl, (Below.refl _ w).alloc (Nat.le_refl _) _⟩
theorem getD_of (s : ByteArray) (i : Nat) (hi : i < s.size) : s.data.toList.getD i 0 = s[i] := by
 rw [List.getD_eq_getElem?_getD, List.getElem?_eq_getElem (by simpa using hi)]; rfl
theorem at_any (s : ByteArray) (i : Nat) (w : World) (h : 2 * i + 2 ≤ s.size) (hs : s.size ≤ 65535) :
  Calls Tryz.prog 134 #[.string s, .int .i64 i] w fun e w' => e = .returned (.int .i64 (LP.at_ (B s) i : Nat)) ∧ Below w.heap.size w w' := by
 obtain ⟨k, hk⟩ : ∃ k : Nat, k = s.size - 2 * i - 2 := ⟨_, rfl⟩
 have i0 : k < s.size := by omega
 have i1 : k + 1 < s.size := by omega
 obtain ⟨b0, hb0⟩ : ∃ c, s[k]'i0 = c := ⟨_, rfl⟩; obtain ⟨b1, hb1⟩ : ∃ c, s[k + 1]'i1 = c := ⟨_, rfl⟩
 have HV : Hid ((b0.toNat + 256 * b1.toNat : Nat) = LP.at_ (B s) i) := zj (by
  unfold LP.at_
  rw [show (B s).length = s.size from b_size s, ← hk, show s.size - 2 * i - 1 = k + 1 by omega, getD_of s k i0, getD_of s (k + 1) i1, hb0, hb1])
 rw [← HV.out]; have l0 : b0.toNat < 256 := b0.toNat_lt; have l1 : b1.toNat < 256 := b1.toNat_lt; have r1 : IntKind.i64.wrap (256 * (b1.toNat : Int)) = 256 * (b1.toNat : Int) := IntWalk.i64_in _ (by omega); have r2 : IntKind.i64.wrap ((b0.toNat : Int) + 256 * (b1.toNat : Int)) = (b0.toNat : Int) + 256 * (b1.toNat : Int) := IntWalk.i64_in _ (by omega); have r3 : IntKind.i64.wrap (b0.toNat : Int) = b0.toNat := IntWalk.i64_in _ (by omega); have r4 : IntKind.i64.wrap (b1.toNat : Int) = b1.toNat := IntWalk.i64_in _ (by omega); have q1 : IntKind.i64.wrap (2 * (i : Int)) = 2 * (i : Int) := IntWalk.i64_in _ (by omega); have q2 : IntKind.i64.wrap ((s.size : Int) - 2 * i) = (s.size : Int) - 2 * i := IntWalk.i64_in _ (by omega)
 have q3 : IntKind.i64.wrap ((s.size : Int) - 2 * i - 2) = (k : Int) := by rw [show (s.size : Int) - 2 * i - 2 = k by omega]; exact IntWalk.i64_in _ (by omega)
 have q4 : (s.size : Int) - 2 * i - 2 = k := by omega
 have q5 : IntKind.i64.wrap (k : Int) = k := IntWalk.i64_in _ (by omega); have q6 : IntKind.i64.wrap ((k : Int) + 1) = (k : Int) + 1 := IntWalk.i64_in _ (by omega)
 have j0 : (k : Int) < s.size := by omega
 have j1 : (k : Int) + 1 < s.size := by omega
 have q8 : ((k : Int) + 1).toNat = k + 1 := by omega
 have q9 : (0 : Int) ≤ (k : Int) + 1 := by omega
 clear hk h hs; go_enter Tryz.func134, Tryz.ntmps134; go_wp2_with fail
 go_quiet (fail)
 go_wp2_with fail; go_ret; exact ⟨by go_num, below_drewN (Below.refl _ _) nq⟩
theorem size_any (f : ByteArray) (A : Option Addr) (l : List ByteArray) (ca : Nat) (w : World) (ha : Lies w w.heap.size A l) (hl : l.length ≤ 1000000) (hf : f.size ≤ 1000000) (hs : ∀ s ∈ l, s.size ≤ 65535) :
  Calls Tryz.prog 120 #[.string f, .slice A l.length ca] w fun e w' => e = .returned (.int .i64 (LP.need f.size (Bs l) : Nat)) ∧ w = w' := by
 have HA := zj ha; have HS := zj hs; obtain ⟨n, hn⟩ : ∃ n, n = l.length := ⟨_, rfl⟩; have HN := zj hn; rw [← hn] at hl ⊢; clear ha hs hn; go_enter Tryz.func120, Tryz.ntmps120; go_wp2_with fail
 go_loop [5, 7, 17] (fun nv cv iv => ∃ k : Nat, k ≤ n ∧ iv = .int .i64 k ∧ nv = .int .i64 (f.size + 2 * (n + 1) + LP.sum (Bs (l.take k)) : Nat)) (fun _ _ iv => n - (intOf iv).toNat)
 case atStart => exact ⟨0, Nat.zero_le _, rfl, by simp [Bs, LP.sum]⟩
 case round =>
  obtain ⟨k, hk, rfl, rfl⟩ := hrel; have hb : LP.sum (Bs (l.take k)) ≤ 65535 * n := Nat.le_trans (sum_bs _ (fun s hs => HS.out s (List.mem_of_mem_take hs))) (Nat.mul_le_mul_left _ (by rw [List.length_take]; omega)); by_cases hlt : k < n
  ·obtain ⟨c, hc⟩ : ∃ c, l[k]? = some c := ⟨_, List.getElem?_eq_getElem (by have := HN.out; omega)⟩
   obtain ⟨a, rfl, hab, hcell⟩ := HA.out k c hc; have hcs : c.size ≤ 65535 := HS.out c (List.mem_of_getElem? hc); have HT := zj (sum_take l k c hc); clear hc hab; generalize LP.sum (Bs (l.take k)) = q at *; go_wp2_with fail
   go_round
   case rel => exact ⟨k + 1, by omega, by go_num, by rw [HT.out]; go_num⟩
   case measure => simp [intOf]; omega
  ·obtain rfl : k = n := by omega
   have HE : Hid (f.size + 2 * (k + 1) + LP.sum (Bs (l.take k)) = LP.need f.size (Bs l)) := zj (by
    rw [HN.out, List.take_length]; unfold LP.need; rw [bs_length]
    omega)
   rw [HE.out]; go_wp2_with fail; go_ret; exact ⟨rfl, rfl⟩
def Writ (w : World) (g : Nat) (L : List UInt8) (a : Nat) : Prop :=
 w.heap[g]? = some (.cells (byteCells L).toArray 5 (0, 0)) ∧ w.heap[g + 1]? = some (.cells #[.slice (some ⟨g, 0, none⟩) L.length L.length] 86 (0, 0)) ∧ w.heap[g + 2]? = some (.cells #[.int .i64 a] 3 (0, 0))
def tellL (L : List UInt8) (a c : Nat) : List UInt8 := (L.set a (LP.u8 (c % 256))).set (a + 1) (LP.u8 (c / 256))
theorem tellL_length (L : List UInt8) (a c : Nat) : (tellL L a c).length = L.length := by simp [tellL]
theorem byteCells_set (L : List UInt8) (i : Nat) (b : UInt8) : (byteCells L).toArray.setIfInBounds i (.int .u8 b.toNat) = (byteCells (L.set i b)).toArray := by
 simp [byteCells, List.map_set]
theorem byteCells_get (L : List UInt8) (i : Nat) (h : i < L.length) : (byteCells L).toArray[i]? = some (.int .u8 (L[i].toNat : Nat)) := by simp [byteCells, h]
theorem writ_set {w : World} {g x i : Nat} {L : List UInt8} {b : UInt8} (h : Writ w g L x) : Writ (w.setCell ⟨g, i, none⟩ (.int .u8 b.toNat)) g (L.set i b) x := by
 obtain ⟨h1, h2, h3⟩ := h; refine ⟨?_, ?_, ?_⟩
 ·rw [← byteCells_set]; exact heap_setCell_same _ _ _ _ _ _ h1
 ·rw [List.length_set]; exact (heap_setCell_other _ _ _ _ (by simp)).trans h2
 ·exact (heap_setCell_other _ _ _ _ (by simp)).trans h3
theorem writ_at {w : World} {g a x : Nat} {L : List UInt8} {n : Int} (h : Writ w g L x) (hn : n = a) : Writ (w.setCell ⟨g + 2, 0, none⟩ (.int .i64 n)) g L a := by
 subst hn; obtain ⟨h1, h2, h3⟩ := h; exact ⟨(heap_setCell_other _ _ _ _ (by simp)).trans h1, (heap_setCell_other _ _ _ _ (by simp)).trans h2, one_setCell h3⟩
theorem grown_setCell (w : World) (a : Addr) (u : Value) : w.grownBy (w.setCell a u) (some a.block) :=
 ⟨rfl, rfl, rfl, by simp, fun j _ hj => heap_setCell_other _ _ _ _ (fun e => hj (by rw [e]))⟩
theorem tell_any (g a c : Nat) (L : List UInt8) (w : World) (h : Hid (Writ w g L (a + 2))) (ha : a + 2 ≤ L.length) (hL : L.length ≤ 65535) (hc : c < 65536) :
  Calls Tryz.prog 175 #[.int .i64 c, .pointer (some ⟨g + 2, 0, none⟩), .pointer (some ⟨g + 1, 0, none⟩)] w fun e w' => e = .returned (.tuple #[]) ∧ Hid (Writ w' g (tellL L a c) a) ∧ Below g w w' := by
 have a1 := cell_of_one h.out.2.2; have f1 := free_of_one h.out.2.2
 have q1 : IntKind.i64.wrap (((a + 2 : Nat) : Int) - 2) = a := by rw [show ((a + 2 : Nat) : Int) - 2 = a by omega]; exact IntWalk.i64_in _ (by omega)
 have hw2 := zj (writ_at (n := (a : Int)) h.out rfl); have hb := Below.setCell (Below.refl g w) (p := ⟨g + 2, 0, none⟩) (by simp) (.int .i64 (a : Int)); have HB := zj hb; obtain ⟨lo, hlo⟩ : ∃ b : UInt8, b = LP.u8 (c % 256) := ⟨_, rfl⟩; obtain ⟨hi, hhi⟩ : ∃ b : UInt8, b = LP.u8 (c / 256) := ⟨_, rfl⟩; have HT : Hid (tellL L a c = (L.set a lo).set (a + 1) hi) := zj (by rw [hlo, hhi]; rfl)
 have elo : lo.toNat = c % 256 := by rw [hlo]; exact LP.u8_lt _ (by omega)
 have ehi : hi.toNat = c / 256 := by rw [hhi]; exact LP.u8_lt _ (by omega)
 have q2 : IntKind.u8.wrap (c : Int) = (lo.toNat : Int) := by rw [elo]; simp [IntKind.wrap, IntKind.signed, IntKind.bits]
 have q3 : IntKind.u8.wrap ((c : Int) / 256) = (hi.toNat : Int) := by rw [ehi]; simp [IntKind.wrap, IntKind.signed, IntKind.bits]; omega
 have q4 : (c : Int) % 256 = (lo.toNat : Int) := by omega
 have q5 : (c : Int) / 256 = (hi.toNat : Int) := by omega
 have q6 : (hi.toNat : Int) % 256 = hi.toNat := by omega
 rw [HT.out]; clear hlo hhi HT elo ehi hb h; go_enter Tryz.func175, Tryz.ntmps175; go_wp2_with fail; generalize w.setCell ⟨g + 2, 0, none⟩ (.int .i64 (a : Int)) = v at *; have b1 := cell_of_one hw2.out.2.1; have b2 := cell_of_one hw2.out.2.2
 have c1 : v.cell? ⟨g, a, none⟩ = some (.int .u8 (L[a].toNat : Nat)) := by rw [cell_of_row _ _ a _ _ _ hw2.out.1]; exact byteCells_get L a (by omega)
 have c2 : v.cell? ⟨g, a + 1, none⟩ = some (.int .u8 (L[a + 1].toNat : Nat)) := by rw [cell_of_row _ _ (a + 1) _ _ _ hw2.out.1]; exact byteCells_get L (a + 1) (by omega)
 have g1 := frozen_of_row _ _ a _ _ hw2.out.1; have g2 := frozen_of_row _ _ (a + 1) _ _ hw2.out.1; have r1 : IntKind.i64.wrap ((a : Int) + 1) = (a : Int) + 1 := IntWalk.i64_in _ (by omega)
 have r2 : ((a : Int) + 1).toNat = a + 1 := by omega
 have r3 : (0 : Int) ≤ (a : Int) + 1 := by omega
 have r4 : (a : Int) + 1 < L.length := by omega
 have r5 : (a : Int) < L.length := by omega
 have r6 : (0 : Int) ≤ (a : Int) := by omega
 clear a1 f1
 go_region
 all_goals
  go_wp2_with fail
  go_end0
  exact ⟨rfl, zj (writ_set (writ_set hw2.out)), ((HB.out.setCell (p := ⟨g, a, none⟩) (Nat.le_refl _) _).setCell (p := ⟨g, a + 1, none⟩) (Nat.le_refl _) _).drew⟩
theorem or_join (a b : Nat) (ha : a < 256) (hb : b < 256) : bits .or .i64 (a : Int) ((b : Int) * 256) = ((a + 256 * b : Nat) : Int) := by
 have h1 : (BitVec.ofInt 64 (a : Int)).toNat = a := by
  rw [BitVec.ofInt_natCast, BitVec.toNat_ofNat]; exact Nat.mod_eq_of_lt (by omega)
 have h2 : (BitVec.ofInt 64 ((256 * b : Nat) : Int)).toNat = 256 * b := by
  rw [BitVec.ofInt_natCast, BitVec.toNat_ofNat]; exact Nat.mod_eq_of_lt (by omega)
 have e : (b : Int) * 256 = ((256 * b : Nat) : Int) := by omega
 rw [e]; show IntKind.i64.wrap ((BitVec.ofInt 64 (a : Int) ||| BitVec.ofInt 64 ((256 * b : Nat) : Int)).toNat : Int) = _; rw [BitVec.toNat_or, h1, h2, Nat.or_comm, nat_join 8 (256 * b) a (by omega) (by omega), Nat.add_comm]; exact IntWalk.i64_in _ (by omega)
def Rd (w : World) (g : Nat) (L : List UInt8) (cap a : Nat) : Prop :=
 g + 2 < w.heap.size ∧ (∀ j c, L[j]? = some c → w.cell? ⟨g, j, none⟩ = some (.int .u8 (c.toNat : Nat))) ∧ w.heap[g + 1]? = some (.cells #[.slice (some ⟨g, 0, none⟩) L.length cap] 86 (0, 0)) ∧ w.heap[g + 2]? = some (.cells #[.int .i64 a] 3 (0, 0))
theorem rd_at {w : World} {g a x cap : Nat} {L : List UInt8} {n : Int} (h : Rd w g L cap x) (hn : n = a) : Rd (w.setCell ⟨g + 2, 0, none⟩ (.int .i64 n)) g L cap a := by
 subst hn; obtain ⟨h0, h1, h2, h3⟩ := h; exact ⟨by simpa using h0, fun j c hj => (World.cell?_of_block (heap_setCell_other _ _ _ _ (by simp))).trans (h1 j c hj), (heap_setCell_other _ _ _ _ (by simp)).trans h2, one_setCell h3⟩
theorem rd_drew {w : World} {g a cap : Nat} {L : List UInt8} (h : Rd w g L cap a) (n : Nat) : Rd (w.drewN n) g L cap a := h
theorem rd_grown {w w' : World} {g a cap : Nat} {L : List UInt8} {row : Option Nat} (h : Rd w g L cap a) (hg : w.grownBy w' row) (hr : ∀ k, row = some k → g + 2 < k) : Rd w' g L cap a := by
 obtain ⟨hs, h1, h2, h3⟩ := h
 have no : ∀ j, j ≤ g + 2 → some j ≠ row := fun j hj e => by have := hr j e.symm; omega
 exact ⟨Nat.lt_of_lt_of_le hs hg.size, fun j c hj => (World.cell?_of_block (hg.block _ (by show g < _; omega) (no _ (by show g ≤ _; omega)))).trans (h1 j c hj), (hg.block _ (by omega) (no _ (by omega))).trans h2, (hg.block _ (by omega) (no _ (by omega))).trans h3⟩
def num2 (L : List UInt8) (a : Nat) : Nat := (L.getD a 0).toNat + 256 * (L.getD (a + 1) 0).toNat
theorem next_any (g a cap : Nat) (L : List UInt8) (w : World) (h : Hid (Rd w g L cap (a + 2))) (ha : a + 2 ≤ L.length) (hL : L.length ≤ 65535) :
  Calls Tryz.prog 208 #[.pointer (some ⟨g + 2, 0, none⟩), .pointer (some ⟨g + 1, 0, none⟩)] w fun e w' => e = .returned (.int .i64 (num2 L a : Nat)) ∧ Hid (Rd w' g L cap a) ∧ Below g w w' ∧ w.grownBy w' (some (g + 2)) := by
 have a1 := cell_of_one h.out.2.2.2; have f1 := free_of_one h.out.2.2.2
 have q1 : IntKind.i64.wrap (((a + 2 : Nat) : Int) - 2) = a := by rw [show ((a + 2 : Nat) : Int) - 2 = a by omega]; exact IntWalk.i64_in _ (by omega)
 have hw2 := zj (rd_at (n := (a : Int)) h.out rfl); have hb := Below.setCell (Below.refl g w) (p := ⟨g + 2, 0, none⟩) (by simp) (.int .i64 (a : Int)); have HB := zj hb; have HGR := zj (grown_setCell w ⟨g + 2, 0, none⟩ (.int .i64 (a : Int))); obtain ⟨lo, hlo⟩ : ∃ b : UInt8, b = L[a] := ⟨_, rfl⟩; obtain ⟨hi, hhi⟩ : ∃ b : UInt8, b = L[a + 1] := ⟨_, rfl⟩; have HT : Hid (num2 L a = lo.toNat + 256 * hi.toNat) := zj (by unfold num2; rw [hlo, hhi]; simp only [List.getD_eq_getElem?_getD]; rw [List.getElem?_eq_getElem (by omega), List.getElem?_eq_getElem (by omega)]; rfl); have l0 : lo.toNat < 256 := lo.toNat_lt; have l1 : hi.toNat < 256 := hi.toNat_lt; have q3 : IntKind.i64.wrap (lo.toNat : Int) = lo.toNat := IntWalk.i64_in _ (by omega); have q4 : IntKind.i64.wrap (hi.toNat : Int) = hi.toNat := IntWalk.i64_in _ (by omega); have q5 : IntKind.i64.wrap ((hi.toNat : Int) * 256) = (hi.toNat : Int) * 256 := IntWalk.i64_in _ (by omega); rw [HT.out]; clear hb h; go_enter Tryz.func208, Tryz.ntmps208; go_wp2_with fail; generalize w.setCell ⟨g + 2, 0, none⟩ (.int .i64 (a : Int)) = v at *; have b1 := cell_of_one hw2.out.2.2.1; have b2 := cell_of_one hw2.out.2.2.2
 have c1 : v.cell? ⟨g, a, none⟩ = some (.int .u8 (lo.toNat : Nat)) := by rw [hlo]; exact hw2.out.2.1 a _ (List.getElem?_eq_getElem (by omega))
 have c2 : v.cell? ⟨g, a + 1, none⟩ = some (.int .u8 (hi.toNat : Nat)) := by rw [hhi]; exact hw2.out.2.1 (a + 1) _ (List.getElem?_eq_getElem (by omega))
 have r1 : IntKind.i64.wrap ((a : Int) + 1) = (a : Int) + 1 := IntWalk.i64_in _ (by omega)
 have r2 : ((a : Int) + 1).toNat = a + 1 := by omega
 have r3 : (0 : Int) ≤ (a : Int) + 1 := by omega
 have r4 : (a : Int) + 1 < L.length := by omega
 have r5 : (a : Int) < L.length := by omega
 have r6 : (0 : Int) ≤ (a : Int) := by omega
 clear a1 f1 hlo hhi
 go_quiet (fail)
 go_wp2_with fail; go_ret; exact ⟨by rw [← or_join lo.toNat hi.toNat l0 l1]; rfl, zj (rd_drew hw2.out nq), below_drewN HB.out nq, ⟨HGR.out.os, HGR.out.tape, HGR.out.output, HGR.out.size, HGR.out.block⟩⟩
theorem writ_new {w : World} {g : Nat} {L : List UInt8} (h : w.heap[g]? = some (.cells (byteCells L).toArray 5 (0, 0))) (hg : w.heap.size = g + 1) :
  Hid (Writ ((w.alloc (.cells #[.slice (some ⟨g, 0, none⟩) L.length L.length] 86)).alloc (.cells #[.int .i64 L.length] 3)) g L L.length) ∧ Below g w ((w.alloc (.cells #[.slice (some ⟨g, 0, none⟩) L.length L.length] 86)).alloc (.cells #[.int .i64 L.length] 3)) := by
 have b1 := below_alloc w (.cells #[.slice (some ⟨g, 0, none⟩) L.length L.length] 86); have n1 := heap_alloc_new w (.cells #[.slice (some ⟨g, 0, none⟩) L.length L.length] 86)
 have s1 : (w.alloc (.cells #[.slice (some ⟨g, 0, none⟩) L.length L.length] 86)).heap.size = g + 2 := by simp; omega
 generalize w.alloc (.cells #[.slice (some ⟨g, 0, none⟩) L.length L.length] 86) = v at *; have b2 := below_alloc v (.cells #[.int .i64 L.length] 3); have n2 := heap_alloc_new v (.cells #[.int .i64 L.length] 3); rw [s1] at n2; rw [hg] at n1; exact ⟨zj ⟨(b2.block _ (by omega)).trans ((b1.block _ (by omega)).trans h), (b2.block _ (by omega)).trans n1, n2⟩, (b1.trans' b2).mono (by omega)⟩
theorem writer_any (g : Nat) (L : List UInt8) (w : World) (h : w.heap[g]? = some (.cells (byteCells L).toArray 5 (0, 0))) (hg : w.heap.size = g + 1) :
  Calls Tryz.prog 121 #[.slice (some ⟨g, 0, none⟩) L.length L.length] w fun e w' => e = .returned (.func (.func 175) #[] #[.pointer (some ⟨g + 2, 0, none⟩), .pointer (some ⟨g + 1, 0, none⟩)]) ∧ Hid (Writ w' g L L.length) ∧ Below g w w' := by
 have hmf : ∀ (fn : Fn) (first cap : Array Value) (w : World), (Instr.makeFunc fn first cap).run Tryz.prog w = .ok (.func fn first cap) w := fun _ _ _ _ => rfl; go_enter Tryz.func121, Tryz.ntmps121; go_wp2_with fail; go_ret; exact ⟨rfl, writ_new h hg⟩
theorem rd_new {w : World} {g cap : Nat} {L : List UInt8} (h : ∀ j c, L[j]? = some c → w.cell? ⟨g, j, none⟩ = some (.int .u8 (c.toNat : Nat))) (hg : w.heap.size = g + 1) :
  Hid (Rd ((w.alloc (.cells #[.slice (some ⟨g, 0, none⟩) L.length cap] 86)).alloc (.cells #[.int .i64 L.length] 3)) g L cap L.length) ∧ Below w.heap.size w ((w.alloc (.cells #[.slice (some ⟨g, 0, none⟩) L.length cap] 86)).alloc (.cells #[.int .i64 L.length] 3)) := by
 have b1 := below_alloc w (.cells #[.slice (some ⟨g, 0, none⟩) L.length cap] 86); have n1 := heap_alloc_new w (.cells #[.slice (some ⟨g, 0, none⟩) L.length cap] 86)
 have s1 : (w.alloc (.cells #[.slice (some ⟨g, 0, none⟩) L.length cap] 86)).heap.size = g + 2 := by simp; omega
 generalize w.alloc (.cells #[.slice (some ⟨g, 0, none⟩) L.length cap] 86) = v at *; have b2 := below_alloc v (.cells #[.int .i64 L.length] 3); have n2 := heap_alloc_new v (.cells #[.int .i64 L.length] 3); rw [s1] at n2; rw [hg] at n1; exact ⟨zj ⟨by simp; omega, fun j c hj => (b2.cell (by show g < _; omega)).trans ((b1.cell (by show g < _; omega)).trans (h j c hj)), (b2.block _ (by omega)).trans n1, n2⟩, b1.trans' b2⟩
theorem reader_any (g cap : Nat) (L : List UInt8) (w : World) (h : ∀ j c, L[j]? = some c → w.cell? ⟨g, j, none⟩ = some (.int .u8 (c.toNat : Nat))) (hg : w.heap.size = g + 1) :
  Calls Tryz.prog 191 #[.slice (some ⟨g, 0, none⟩) L.length cap] w fun e w' => e = .returned (.func (.func 208) #[] #[.pointer (some ⟨g + 2, 0, none⟩), .pointer (some ⟨g + 1, 0, none⟩)]) ∧ Hid (Rd w' g L cap L.length) ∧ Below w.heap.size w w' := by
 have hmf : ∀ (fn : Fn) (first cap : Array Value) (w : World), (Instr.makeFunc fn first cap).run Tryz.prog w = .ok (.func fn first cap) w := fun _ _ _ _ => rfl; have HN := zj (rd_new (cap := cap) h hg); clear h; go_enter Tryz.func191, Tryz.ntmps191; go_wp2_with fail; go_ret; exact ⟨rfl, HN.out⟩
def packS (room : Nat) (f : ByteArray) (l : List ByteArray) : ByteArray := ⟨(LP.pack room (B f) (Bs l)).toArray⟩
def packV (room : Int) (f : ByteArray) (l : List ByteArray) : Value :=
 if room < 0 ∨ 65535 < room then .tuple #[.string ⟨#[]⟩, .int .i64 4] else if room < (LP.need f.size (Bs l) : Nat) then .tuple #[.string ⟨#[]⟩, .int .i64 8] else .tuple #[.string (packS room.toNat f l), .int .i64 0]
def headS (f : ByteArray) (l : List ByteArray) (k : Nat) : ByteArray := ⟨(B f ++ (Bs (l.take k)).flatten).toArray⟩
def endL : Nat → List (List UInt8) → List UInt8
 | _, [] => []
 | a, c :: l => endL (a + c.length) l ++ LP.two a
theorem endL_snoc : ∀ (l : List (List UInt8)) (a : Nat) (c : List UInt8), endL a (l ++ [c]) = LP.two (a + LP.sum l) ++ endL a l
 | [], a, c => by simp [endL, LP.sum]
 | d :: l, a, c => by
  simp only [List.cons_append, endL, endL_snoc l, LP.sum, List.append_assoc]; rw [Nat.add_assoc]
theorem endL_dir : ∀ (l : List (List UInt8)) (a : Nat), LP.two (a + LP.sum l) ++ endL a l = LP.dir a l
 | [], a => by simp [endL, LP.sum, LP.dir]
 | d :: l, a => by
  simp only [endL, LP.sum, LP.dir, ← endL_dir l, List.append_assoc]; rw [Nat.add_assoc]
theorem endL_length : ∀ (l : List (List UInt8)) (a : Nat), (endL a l).length = 2 * l.length
 | [], a => rfl
 | d :: l, a => by simp only [endL, List.length_append, endL_length l, LP.two_length, List.length_cons]; omega
def endS (f : ByteArray) (l : List ByteArray) (k : Nat) : ByteArray := ⟨(endL f.size (Bs (l.take k))).toArray⟩
theorem sizeOf (l : List UInt8) : (⟨l.toArray⟩ : ByteArray).size = l.length := by simp [ByteArray.size]
theorem headS_size (f : ByteArray) (l : List ByteArray) (k : Nat) : (headS f l k).size = f.size + LP.sum (Bs (l.take k)) := by
 unfold headS; rw [sizeOf, List.length_append, LP.flatten_length, b_size]
theorem endS_size (f : ByteArray) (l : List ByteArray) (k : Nat) : (endS f l k).size = 2 * (l.take k).length := by
 simp only [endS, ByteArray.size, List.size_toArray, endL_length, bs_length]
theorem headS_next (f : ByteArray) (l : List ByteArray) (k : Nat) (c : ByteArray) (h : l[k]? = some c) : headS f l k ++ c = headS f l (k + 1) := by
 unfold headS; rw [bs_snoc l k c h]; apply ByteArray.ext; simp
theorem endS_next (f : ByteArray) (l : List ByteArray) (k : Nat) (c : ByteArray) (h : l[k]? = some c) : (⟨(LP.two (headS f l k).size).toArray⟩ : ByteArray) ++ endS f l k = endS f l (k + 1) := by
 rw [headS_size]; unfold endS; rw [bs_snoc l k c h, endL_snoc]; apply ByteArray.ext; simp
theorem pack_text (f : ByteArray) (l : List ByteArray) (n room : Nat) (hn : n = l.length) : headS f l n ++ ⟨(List.replicate (room - LP.need f.size (Bs l)) (0 : UInt8)).toArray⟩ ++ ((⟨(LP.two (headS f l n).size).toArray⟩ : ByteArray) ++ endS f l n) = packS room f l := by
 subst hn; rw [headS_size]; unfold headS endS packS LP.pack; rw [List.take_length, ← b_size f, ← endL_dir]; apply ByteArray.ext; simp
theorem pack8_any (room : Int) (f : ByteArray) (A : Option Addr) (l : List ByteArray) (ca : Nat) (w : World) (ha : Lies w w.heap.size A l) (hl : l.length ≤ 1000000) (hf : f.size ≤ 1000000) (hs : ∀ s ∈ l, s.size ≤ 65535) :
  Calls Tryz.prog 135 #[.int .i64 room, .string f, .slice A l.length ca] w fun e w' => e = .returned (packV room f l) ∧ Below w.heap.size w w' := by
 have HSZ := zj (size8_any f A l ca w ha hl hf hs); by_cases h1 : room < 0
 ·have hv : packV room f l = .tuple #[.string ⟨#[]⟩, .int .i64 4] := by unfold packV; rw [if_pos (.inl h1)]
  rw [hv]; clear hv; go_enter Tryz.func135, Tryz.ntmps135; go_wp2_with fail
  go_ret2
  exact ⟨rfl, Below.refl _ _⟩
 by_cases h2 : 65535 < room
 ·have hv : packV room f l = .tuple #[.string ⟨#[]⟩, .int .i64 4] := by unfold packV; rw [if_pos (.inr h2)]
  rw [hv]; clear hv; go_enter Tryz.func135, Tryz.ntmps135; go_wp2_with fail
  go_ret2
  exact ⟨rfl, Below.refl _ _⟩
 by_cases h3 : room < (LP.need f.size (Bs l) : Nat)
 ·have hv : packV room f l = .tuple #[.string ⟨#[]⟩, .int .i64 8] := by unfold packV; rw [if_neg (by omega), if_pos h3]
  rw [hv]; clear hv; generalize LP.need f.size (Bs l) = q at *; go_enter Tryz.func135, Tryz.ntmps135; go_wp2_with fail; refine HSZ.out.mono ?_; rintro e w1 ⟨rfl, rfl⟩; go_wp2_with fail
  go_ret2
  exact ⟨rfl, Below.refl _ _⟩
 obtain ⟨m, rfl⟩ := Int.eq_ofNat_of_zero_le (show 0 ≤ room by omega)
 have hv : packV m f l = .tuple #[.string (packS m f l), .int .i64 0] := by unfold packV; rw [if_neg (by omega), if_neg h3, Int.toNat_natCast]
 rw [hv]; clear hv; obtain ⟨P, hP⟩ : ∃ P, packS m f l = P := ⟨_, rfl⟩; have HP := zj hP; rw [hP]; have HA := zj ha; obtain ⟨n, hn⟩ : ∃ n, n = l.length := ⟨_, rfl⟩; have HN := zj hn; have HNEED : Hid (LP.need f.size (Bs l) ≤ m) := zj (by omega)
 have HQ : Hid (∀ k, f.size + LP.sum (Bs (l.take k)) + 2 * n + 2 ≤ m) := zj (fun k => by
  have h5 := HNEED.out; unfold LP.need at h5; rw [bs_length, ← hn] at h5
  have h6 : Bs (l.take k) = (Bs l).take k := by simp [Bs]
  have h7 := LP.sum_take_le (Bs l) k; rw [h6]
  omega)
 rw [← hn] at HSZ hl ⊢; obtain ⟨q, hq⟩ : ∃ q, LP.need f.size (Bs l) = q := ⟨_, rfl⟩; rw [hq] at HSZ h3; have HQ2 := zj hq; have hd1 : decide (m < q) = false := dF (by omega); have hd2 : decide ((m : Int) < (q : Int)) = false := dF (by omega); clear ha hs hn hP hq; go_enter Tryz.func135, Tryz.ntmps135; go_wp2_with fail; refine HSZ.out.mono ?_; rintro e w1 ⟨rfl, rfl⟩; go_wp2_with fail
 go_loopw [8, 9, 10] (fun sv ev iv wr => ∃ k : Nat, k ≤ n ∧ iv = .int .i64 k ∧ sv = .string (headS f l k) ∧ ev = .string (endS f l k) ∧ Below w.heap.size w wr) (fun _ _ iv _ => n - (intOf iv).toNat)
 case atStart =>
  refine ⟨0, Nat.zero_le _, rfl, ?_, ?_, Below.refl _ _⟩
  ·simp [headS, Bs]
  ·simp [endS, Bs, endL]
 case round =>
  obtain ⟨k, hk, rfl, rfl, rfl, hbw⟩ := hrel; have hz := HQ.out k; have hH := headS_size f l k; have hE := endS_size f l k
  have hlt2 : (l.take k).length = k := by rw [List.length_take, ← HN.out]; omega
  rw [hlt2] at hE; have HTW := zj (fun W => two_any (headS f l k).size W (by omega)); obtain ⟨D, hD⟩ : ∃ D : ByteArray, ⟨(LP.two (headS f l k).size).toArray⟩ = D := ⟨_, rfl⟩
  have sD : D.size = 2 := by rw [← hD, sizeOf]; rfl
  rw [hD] at HTW; by_cases hlt : k < n
  ·obtain ⟨c, hc⟩ : ∃ c, l[k]? = some c := ⟨_, List.getElem?_eq_getElem (by have := HN.out; omega)⟩
   have hz2 := HQ.out (k + 1); rw [sum_take l k c hc] at hz2; have HH := zj (headS_next f l k c hc); have HE := zj (endS_next f l k c hc); rw [hD] at HE; clear hD; obtain ⟨a, rfl, hab, hcell⟩ := (HA.out.below hbw) k c hc; clear hc hlt2; obtain ⟨H, hHH⟩ : ∃ H, headS f l k = H := ⟨_, rfl⟩; obtain ⟨E, hEE⟩ : ∃ E, endS f l k = E := ⟨_, rfl⟩; rw [hHH] at HTW HH hH ⊢; rw [hEE] at HE hE ⊢
   have b1 : ¬ 9223372036854775807 < D.size + E.size := by omega
   have b2 : ¬ 9223372036854775807 < H.size + c.size := by omega
   obtain ⟨E', hE'⟩ : ∃ E', D ++ E = E' := ⟨_, rfl⟩; obtain ⟨H', hH'⟩ : ∃ H', H ++ c = H' := ⟨_, rfl⟩; rw [hE'] at HE; rw [hH'] at HH; have HCL : Hid (∀ V, Below wr.heap.size wr V → V.cell? (a.add k) = some (.string c)) := zj (fun V hb => (hb.cell (by rw [addr_block]; exact Nat.lt_of_lt_of_le hab hbw.size)).trans hcell); clear hHH hEE hH hE sD hz hz2 hab hcell; go_wp2_with fail; refine (HTW.out _).mono ?_; rintro e w1 ⟨rfl, hb1⟩; have hcell := HCL.out _ hb1; go_wp2_with fail
   go_roundw
   case rel => exact ⟨k + 1, by omega, by go_num, by rw [HH.out], by rw [HE.out], hbw.trans' hb1⟩
   case measure => simp [intOf]; omega
  ·obtain rfl : k = n := by omega
   have HPT := zj (pack_text f l k m HN.out); rw [HQ2.out, HP.out, hD] at HPT
   have hqe : q = f.size + 2 + LP.sum (Bs (l.take k)) + 2 * k := by
    rw [← HQ2.out, HN.out, List.take_length]; unfold LP.need; rw [bs_length]
   obtain ⟨z, hzz⟩ : ∃ z : Nat, z = m - q := ⟨_, rfl⟩; rw [← hzz] at HPT; have HRZ := zj (fun W => repeat0_any z W (by omega)); obtain ⟨Z, hZ⟩ : ∃ Z : ByteArray, ⟨(List.replicate z (0 : UInt8)).toArray⟩ = Z := ⟨_, rfl⟩; rw [hZ] at HRZ HPT
   have sZ : Z.size = z := by rw [← hZ, sizeOf]; simp
   clear hD hZ hlt2; obtain ⟨H, hHH⟩ : ∃ H, headS f l k = H := ⟨_, rfl⟩; obtain ⟨E, hEE⟩ : ∃ E, endS f l k = E := ⟨_, rfl⟩; rw [hHH] at HTW hH HPT ⊢; rw [hEE] at hE HPT ⊢; obtain ⟨E', hE'⟩ : ∃ E', D ++ E = E' := ⟨_, rfl⟩
   have sE' : E'.size = 2 + 2 * k := by rw [← hE', ByteArray.size_append]; omega
   obtain ⟨J, hJ⟩ : ∃ J, H ++ Z = J := ⟨_, rfl⟩
   have sJ : J.size = H.size + z := by rw [← hJ, ByteArray.size_append, sZ]
   rw [hE', hJ] at HPT
   have b1 : ¬ 9223372036854775807 < D.size + E.size := by omega
   have b2 : ¬ 9223372036854775807 < H.size + Z.size := by omega
   have b3 : ¬ 9223372036854775807 < J.size + E'.size := by omega
   have q1 : IntKind.i64.wrap ((m : Int) - H.size) = (m : Int) - H.size := IntWalk.i64_in _ (by omega)
   have q2 : IntKind.i64.wrap ((m : Int) - H.size - E'.size) = z := by rw [show (m : Int) - H.size - E'.size = z by omega]; exact IntWalk.i64_in _ (by omega)
   have q3 : (m : Int) - H.size - E'.size = z := by omega
   have q4 : IntKind.i64.wrap (z : Int) = z := IntWalk.i64_in _ (by omega); clear hHH hEE hH hE sD hz sE' sJ sZ hzz hqe h3; go_wp2_with fail; refine (HTW.out _).mono ?_; rintro e w1 ⟨rfl, hb1⟩; go_wp2_with fail; refine (HRZ.out _).mono ?_; rintro e w2 ⟨rfl, hb2⟩; have HPE := HPT.out; go_wp2_with fail
   go_ret2
   exact ⟨rfl, (hbw.trans' hb1).trans' hb2⟩
theorem rep_add (a b : Nat) (x : UInt8) : List.replicate (a + b) x = List.replicate a x ++ List.replicate b x := by simp
def packL (room : Nat) (F : List UInt8) (cs : List (List UInt8)) : List UInt8 := F ++ cs.flatten ++ List.replicate (room - (F.length + LP.sum cs + 2 * cs.length)) 0 ++ endL F.length cs
theorem packL_length (room : Nat) (F : List UInt8) (cs : List (List UInt8)) (h : F.length + LP.sum cs + 2 * cs.length ≤ room) : (packL room F cs).length = room := by
 have := endL_length cs F.length; have := LP.flatten_length cs; simp only [packL, List.length_append, List.length_replicate]; omega
theorem tellL_at (X E : List UInt8) (n c : Nat) : tellL (X ++ List.replicate (n + 2) 0 ++ E) (X.length + n) c = X ++ List.replicate n 0 ++ (LP.two c ++ E) := by
 have e : X ++ List.replicate (n + 2) (0 : UInt8) ++ E = (X ++ List.replicate n 0) ++ (0 :: 0 :: E) := by
  rw [rep_add]; simp [List.replicate]
 have hl : (X ++ List.replicate n (0 : UInt8)).length = X.length + n := by simp
 unfold tellL; rw [e, List.set_append_right _ _ (by omega), hl, Nat.sub_self, List.set_cons_zero, List.set_append_right _ _ (by omega), hl, show X.length + n + 1 - (X.length + n) = 1 by omega]; simp [LP.two]
theorem packL_tell (room : Nat) (F : List UInt8) (cs : List (List UInt8)) (h : F.length + LP.sum cs + 2 * cs.length + 2 ≤ room) :
  tellL (packL room F cs) (room - 2 * cs.length - 2) (F.length + LP.sum cs) = F ++ cs.flatten ++ List.replicate (room - (F.length + LP.sum cs + 2 * cs.length) - 2) 0 ++ (LP.two (F.length + LP.sum cs) ++ endL F.length cs) := by
 obtain ⟨n, hn⟩ : ∃ n, room = F.length + LP.sum cs + 2 * cs.length + 2 + n := ⟨room - (F.length + LP.sum cs + 2 * cs.length + 2), by omega⟩; have h1 := tellL_at (F ++ cs.flatten) (endL F.length cs) n (F.length + LP.sum cs)
 have hl : (F ++ cs.flatten).length = F.length + LP.sum cs := by rw [List.length_append, LP.flatten_length]
 rw [hl] at h1; unfold packL; rw [show room - (F.length + LP.sum cs + 2 * cs.length) = n + 2 by omega, show room - 2 * cs.length - 2 = F.length + LP.sum cs + n by omega, h1, show n + 2 - 2 = n by omega]
theorem packL_copy (room : Nat) (F : List UInt8) (cs : List (List UInt8)) (c T : List UInt8) (h : F.length + LP.sum cs + 2 * cs.length + 2 + c.length ≤ room) (hT : T = F ++ cs.flatten ++ List.replicate (room - (F.length + LP.sum cs + 2 * cs.length) - 2) 0 ++ (LP.two (F.length + LP.sum cs) ++ endL F.length cs)) :
  T.take (F.length + LP.sum cs) ++ c ++ T.drop (F.length + LP.sum cs + c.length) = packL room F (cs ++ [c]) := by
 obtain ⟨n, hn⟩ : ∃ n, room = F.length + LP.sum cs + 2 * cs.length + 2 + c.length + n := ⟨room - (F.length + LP.sum cs + 2 * cs.length + 2 + c.length), by omega⟩
 have hl : (F ++ cs.flatten).length = F.length + LP.sum cs := by rw [List.length_append, LP.flatten_length]
 subst hT; unfold packL
 rw [endL_snoc, LP.sum_append, show LP.sum [c] = c.length by simp [LP.sum], List.length_append, List.length_singleton, List.flatten_append, show [c].flatten = c by simp,
  show room - (F.length + LP.sum cs + 2 * cs.length) - 2 = c.length + n by omega, show room - (F.length + (LP.sum cs + c.length) + 2 * (cs.length + 1)) = n by omega, rep_add]
 rw [show F ++ cs.flatten ++ (List.replicate c.length (0 : UInt8) ++ List.replicate n 0) ++ (LP.two (F.length + LP.sum cs) ++ endL F.length cs) = (F ++ cs.flatten) ++ (List.replicate c.length (0 : UInt8) ++ (List.replicate n 0 ++ (LP.two (F.length + LP.sum cs) ++ endL F.length cs))) by simp only [List.append_assoc]]; rw [← hl, List.take_left, ← List.drop_drop, List.drop_left, List.drop_left' (by simp)]; simp only [List.append_assoc]
theorem packL_none (room : Nat) (F : List UInt8) : (List.replicate room (0 : UInt8)).take 0 ++ F ++ (List.replicate room (0 : UInt8)).drop (0 + F.length) = packL room F [] := by
 simp [packL, endL, LP.sum]
theorem packL_all (room : Nat) (F : List UInt8) (cs : List (List UInt8)) (h : LP.need F.length cs ≤ room) : tellL (packL room F cs) (room - 2 * cs.length - 2) (F.length + LP.sum cs) = LP.pack room F cs := by
 unfold LP.need at h; rw [packL_tell room F cs (by omega)]; unfold LP.pack LP.need; rw [endL_dir, show room - (F.length + LP.sum cs + 2 * cs.length) - 2 = room - (F.length + 2 + LP.sum cs + 2 * cs.length) by omega]
theorem conv_row {P : Program} {w : World} {t e s : TypeId} {g : Nat} {l : List UInt8} {o : TypeId} (ht : P.underlying t = some (.slice e)) (he : P.underlying e = some (.int .u8)) (hs : P.underlying s = some .string)
  (h : w.heap[g]? = some (.cells (byteCells l).toArray o (0, 0))) (cap : Nat) : (convert t s (.slice (some ⟨g, 0, none⟩) l.length cap)).run P w = .ok (.string ⟨l.toArray⟩) w := by
 refine run_convert_bytes_back w t s e _ cap l ht he hs (fun j hj => ?_); rw [addr_at, cell_of_row _ _ j _ _ _ h, byteCells_get l j hj]
end Go.Proofs.YtpeghilfldpgfaaGreatDoor.L8
namespace Go.Proofs.YtpeghilfldpgfaaGreatDoor.L10
open Go.RowKit Go.Sort NP
def Pow (w : World) : Prop := Lib.TabIs Tryz.prog w "internal/strconv.uint64pow10" .u64 Lib.pow10Tab
def ErrT (w : World) : Prop := w.cell? ⟨0, 0, none⟩ = some (.iface 253 (.agg #[.pointer (some ⟨6, 112, none⟩)]))
structure Glo (w : World) : Prop where
 sizes : L7.Sizes w
 pow : Pow w
 errT : ErrT w
theorem pow_named : Tryz.prog.globalNamed "internal/strconv.uint64pow10" = some 3 := by kernel_rfl
theorem Pow.lt {w : World} (h : Pow w) : 3 < w.heap.size := by
 refine Nat.lt_of_not_le fun hn => ?_; unfold Pow Lib.TabIs World.var? at h; rw [pow_named] at h; simp [Array.getElem?_eq_none hn] at h
theorem Pow.on {w w' : World} (h : Pow w) (k : Below w.heap.size w w') : Pow w' := by
 have hl := h.lt; unfold Pow Lib.TabIs World.var? at *; rw [pow_named] at *; simp only [Option.bind_some] at *; rw [k.block _ hl]; exact h
theorem ErrT.lt {w : World} (h : ErrT w) : 0 < w.heap.size := by
 refine Nat.lt_of_not_le fun hn => ?_; unfold ErrT at h; simp [World.cell?, Array.getElem?_eq_none hn] at h
theorem ErrT.on {w w' : World} (h : ErrT w) (k : Below w.heap.size w w') : ErrT w' := (k.cell (p := ⟨0, 0, none⟩) h.lt).trans h
theorem Glo.on {w w' : World} (h : Glo w) (k : Below w.heap.size w w') : Glo w' := ⟨h.sizes.below h.sizes.lt k, h.pow.on k, h.errT.on k⟩
theorem below_grow (w : World) (k : Nat) (os : Array Obj) : Below w.heap.size w (grow (w.drewN k) os) :=
 ⟨rfl, rfl, rfl, by simp [grow], fun i hi => by
  show (w.heap ++ os)[i]? = w.heap[i]?
  exact Array.getElem?_append_left hi⟩
theorem itoa_any (n : Nat) (hn : n ≤ 1000000) (w : World) (hp : Pow w) : Calls Tryz.prog 150 #[.int .i64 n] w fun e w' => (∃ Z : ByteArray, Z.size ≤ 21 ∧ e = .returned (.string Z)) ∧ Below w.heap.size w w' :=
 (Tryz.strconv_Itoa n (by omega) (by omega) w hp).mono fun e w' ⟨he, k, os, hw⟩ => by
  subst hw; refine ⟨⟨_, ?_, he⟩, below_grow w k os⟩; have h := Lib.itoa_length_le n (by omega) (by omega); show (Lib.itoa n).toArray.size ≤ 21
  simpa using h
end Go.Proofs.YtpeghilfldpgfaaGreatDoor.L10
namespace Go.Proofs.YtpeghilfldpgfaaGreatDoor.L7
open Go.RowKit
theorem refNumber_any (s : ByteArray) (w : World) (h4 : s.size ≤ 4) :
  Calls Tryz.prog 131 #[.string s] w fun e w' => e = .returned (.int .i64 (Lib.leNat s.data.toList : Nat)) ∧ w = w' := by
 go_enter Tryz.func131, Tryz.ntmps131; go_wp2_with fail
 go_loop [3, 4] (fun n i => ∃ q : Int, -1 ≤ q ∧ q + 1 ≤ s.size ∧ i = .int .i64 q ∧ n = .int .i64 (Lib.leNat (s.data.toList.drop (q + 1).toNat) : Nat)) (fun _ i => (intOf i + 1).toNat)
 case atStart => exact ⟨(s.size : Int) - 1, by omega, by omega, rfl, by rw [show ((s.size : Int) - 1 + 1).toNat = s.size by omega, List.drop_of_length_le (by simp)]; rfl⟩
 case round =>
  obtain ⟨q, hq0, hq3, rfl, rfl⟩ := hrel; by_cases hlt : 0 ≤ q
  ·obtain ⟨j, rfl⟩ := Int.eq_ofNat_of_zero_le hlt
   rw [show ((j : Int) + 1).toNat = j + 1 by omega]; have hb := WP.leNat_lt (s.data.toList.drop (j + 1)); have hbp : 256 ^ (s.data.toList.drop (j + 1)).length ≤ 256 ^ 3 := Nat.pow_le_pow_right (by omega) (by simp; omega)
   have HE : Hid (Lib.leNat (s.data.toList.drop j) = (s[j]'(by omega)).toNat + 256 * Lib.leNat (s.data.toList.drop (j + 1))) :=
    zj (by rw [WP.drop_cons s j (by omega)]; simp only [Lib.leNat])
   have hv : Lib.leNat (s.data.toList.drop (j + 1)) < 16777216 := by omega
   have hby := (s[j]'(by omega)).toNat_lt; clear hb hbp; generalize Lib.leNat (s.data.toList.drop (j + 1)) = v at *; go_wp2_with fail
   go_round
   case rel =>
    refine ⟨(j : Int) - 1, by omega, by omega, rfl, ?_⟩; rw [show ((j : Int) - 1 + 1).toNat = j by omega, HE.out]
    go_num
   case measure => simp [intOf]
  ·obtain rfl : q = -1 := by omega
   go_wp2_with fail; go_ret; exact ⟨rfl, rfl⟩
end Go.Proofs.YtpeghilfldpgfaaGreatDoor.L7
namespace Go.Proofs.YtpeghilfldpgfaaGreatDoor.L5
open Go.ChangeShapes Go.WideShapes Go.ChangeAt Go.RowKit
theorem open_texts {H : Type} {enc : TypeId × Value → H} {w : World} {a : Option Addr} {len cap : Nat} {d : DataW H} {p : List MemPlace}
  (h : DataW.Trod enc Tryz.prog w 0 (fun _ => true) true 22 (.slice a len cap) d p) :
  ∃ l : List ByteArray, len = l.length ∧ Lies w w.heap.size a l ∧ (∀ s ∈ l, s.size ≤ maxLen) ∧ l.length ≤ maxLen := by
 obtain ⟨fuel, hf⟩ := h; rcases open_strings Tryz.underlying22 Tryz.underlying9 (by kernel_rfl) hf with ⟨hcs, _⟩ | ⟨x, l, c, ss, hcs, _, hl, hm, hz, _, hcell, hsz⟩
 ·simp [Value.cells] at hcs
  obtain ⟨rfl, rfl, rfl⟩ := hcs; exact ⟨[], rfl, Lies.nil _ _ _, fun c h => by simp at h, by simp⟩
 ·simp [Value.cells] at hcs
  obtain ⟨rfl, rfl, rfl⟩ := hcs
  have hz' : ss.length = cap := by simpa using hz
  refine ⟨ss.take len, by simp; omega, fun i s hs => ?_, fun s hs => hsz s (List.mem_of_mem_take hs), by simp; omega⟩
  have hi : i < len := by
   have := (List.getElem?_eq_some_iff.1 hs).1; simp at this; omega
  rw [List.getElem?_take, if_pos hi] at hs; have hc := hcell i (by omega)
  have e : ss.getD i ByteArray.empty = s := by simp [List.getD, hs]
  rw [e] at hc; refine ⟨x, rfl, ?_, hc⟩; rcases Nat.lt_or_ge x.block w.heap.size with h1 | h1
  ·exact h1
  ·have h2 := addr_block x i
   simp [World.cell?, h2, Array.getElem?_eq_none h1] at hc
end Go.Proofs.YtpeghilfldpgfaaGreatDoor.L5
