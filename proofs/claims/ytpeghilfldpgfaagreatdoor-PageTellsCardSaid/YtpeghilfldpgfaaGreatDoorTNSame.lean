import Derived.Test.YtpeghilfldpgfaaGreatDoorT07
set_option linter.unusedVariables false
set_option linter.unusedSimpArgs false
set_option maxHeartbeats 8000000
set_option maxRecDepth 100000
namespace Go.Proofs.YtpeghilfldpgfaaGreatDoor.L10
open Go.RowKit NP
def sameI (a b : It) : Bool := (a.k.toList == b.k.toList) && ((a.o == b.o) && ((a.s.toList == b.s.toList) && ((a.l == b.l) && (a.p == b.p))))
theorem toList_inj {a b : ByteArray} : (a.toList == b.toList) = true ↔ a = b := by
 rw [Lib.toList_data, Lib.toList_data, beq_iff_eq]; exact ⟨fun h => ByteArray.ext (Array.toList_inj.1 h), fun h => by rw [h]⟩
theorem sameI_iff {a b : It} : sameI a b = true ↔ a = b := by
 obtain ⟨k, o, s, l, p⟩ := a; obtain ⟨k', o', s', l', p'⟩ := b; unfold sameI; rw [Bool.and_eq_true, Bool.and_eq_true, Bool.and_eq_true, Bool.and_eq_true, toList_inj, toList_inj]; simp
instance : DecidableEq It := fun a b => decidable_of_iff (sameI a b = true) sameI_iff
theorem sameI_yes {a b : It} (h : a = b) : sameI a b = true := sameI_iff.2 h
theorem sameI_no {a b : It} (h : a ≠ b) : sameI a b = false := by
 cases e : sameI a b with
 | false => rfl
 | true => exact absurd (sameI_iff.1 e) h
theorem neq_item (K : ByteArray) (O : Bool) (S : ByteArray) (L P : Int) (K' : ByteArray) (O' : Bool) (S' : ByteArray) (L' P' : Int) (w : World) :
  (binOp .neq 127 (.agg #[.string K, .bool O, .string S, .int .i64 L, .int .i64 P]) (.agg #[.string K', .bool O', .string S', .int .i64 L', .int .i64 P'])).run Tryz.prog w = .ok (.bool (!sameI ⟨K, O, S, L, P⟩ ⟨K', O', S', L', P'⟩)) w := by
 unfold sameI
 cases h1 : (K.toList == K'.toList) <;> cases h2 : (O == O') <;> cases h3 : (S.toList == S'.toList) <;> cases h4 : (L == L') <;> cases h5 : (P == P') <;> simp [go_sem, h1, h2, h3, h4, h5]
theorem neq_itemD (K : ByteArray) (O : Bool) (S : ByteArray) (L P : Int) (K' : ByteArray) (O' : Bool) (S' : ByteArray) (L' P' : Int) (w : World) :
  (binOp .neq 145 (.agg #[.string K, .bool O, .string S, .int .i64 L, .int .i64 P]) (.agg #[.string K', .bool O', .string S', .int .i64 L', .int .i64 P'])).run Tryz.prog w = .ok (.bool (!sameI ⟨K, O, S, L, P⟩ ⟨K', O', S', L', P'⟩)) w := by
 unfold sameI
 cases h1 : (K.toList == K'.toList) <;> cases h2 : (O == O') <;> cases h3 : (S.toList == S'.toList) <;> cases h4 : (L == L') <;> cases h5 : (P == P') <;> simp [go_sem, h1, h2, h3, h4, h5]
attribute [local go_sem high] neq_item neq_itemD
theorem take_same {l m : List It} {k : Nat} {s t : It} (hs : l[k]? = some s) (ht : m[k]? = some t) (h : l.take k = m.take k) (e : s = t) : l.take (k + 1) = m.take (k + 1) := by
 subst e; rw [List.take_add_one, List.take_add_one, hs, ht, h]
theorem equal_any (A C : Option Addr) (l m : List It) (ca cb : Nat) (w : World) (ha : Lies5 w w.heap.size A l) (hb : Lies5 w w.heap.size C m) (hl : l.length ≤ 1000000) (hm : m.length ≤ 1000000) :
  Calls Tryz.prog 57 #[.slice A l.length ca, .slice C m.length cb] w fun e w' => e = .returned (.bool (decide (l = m))) ∧ Below w.heap.size w w' := by
 by_cases hlen : l.length = m.length
 ·have HA := zj ha
  have HB := zj hb; obtain ⟨n, hn⟩ : ∃ n, n = l.length := ⟨_, rfl⟩; have HN := zj hn; have HM : Hid (n = m.length) := zj (by omega); obtain ⟨r, hr⟩ : ∃ r, decide (l = m) = r := ⟨_, rfl⟩; have HR := zj hr; rw [hr, ← hlen, ← hn]; rw [← hn] at hl; clear ha hb hn hlen hm hr
  have dn : ((n : Int) != (n : Int)) = false := by simp
  go_enter Tryz.func57, Tryz.ntmps57; go_wp2_with fail
  go_loopw [13] (fun iv wr => ∃ k : Nat, k ≤ n ∧ iv = .int .i64 k ∧ Hid (l.take k = m.take k) ∧ Below w.heap.size w wr) (fun iv _ => n - (intOf iv).toNat)
  case atStart => exact ⟨0, by omega, rfl, zj (by simp), Below.refl _ _⟩
  case round =>
   obtain ⟨k, hk, rfl, HT, hbw⟩ := hrel; by_cases hlt : k < n
   ·obtain ⟨⟨K, O, S, L, P⟩, hc⟩ : ∃ c, l[k]? = some c := ⟨_, List.getElem?_eq_getElem (by have := HN.out; omega)⟩
    obtain ⟨⟨K', O', S', L', P'⟩, hd⟩ : ∃ c, m[k]? = some c := ⟨_, List.getElem?_eq_getElem (by have := HM.out; omega)⟩; obtain ⟨a, rfl, hab, x0, x1, x2, x3, x4⟩ := (HA.out.below hbw).load hc; obtain ⟨b, rfl, hbb, y0, y1, y2, y3, y4⟩ := (HB.out.below hbw).load hd
    have h0 : (0 : Int) ≤ k := by omega
    have hkn : (k : Int) < n := by omega
    by_cases hst : (⟨K, O, S, L, P⟩ : It) = ⟨K', O', S', L', P'⟩
    ·have HST := zj (take_same hc hd HT.out hst)
     have hz := sameI_yes hst; clear hc hd hab hbb hst; go_wp2_with fail
     go_quiet (fail)
     go_wp2_with fail
     go_roundw
     case rel => exact ⟨k + 1, by omega, by simp, HST, L5.below_drewN hbw _⟩
     case measure => simp [intOf]; omega
    ·have HX : Hid (r = false) := zj (by
      rw [← HR.out]; refine dF fun h => hst ?_; subst h; rw [hc] at hd
      exact Option.some.inj hd)
     have hz := sameI_no hst; clear hc hd hab hbb hst; go_wp2_with fail
     go_quiet (fail)
     go_wp2_with fail; go_ret; exact ⟨by rw [HX.out]; rfl, L5.below_drewN hbw _⟩
   ·have HX : Hid (r = true) := zj (by
     rw [← HR.out]; refine dT ?_; have h := HT.out
     rwa [List.take_of_length_le (by have := HN.out; omega), List.take_of_length_le (by have := HM.out; omega)] at h)
    have hlt' : ¬ (k : Int) < n := by omega
    clear hk; go_wp2_with fail; go_ret; exact ⟨by rw [HX.out]; rfl, hbw⟩
 ·rw [dF (fun h => hlen (by rw [h]))]
  have dn : ((l.length : Int) != (m.length : Int)) = true := by simp; omega
  generalize l.length = n1 at *; generalize m.length = n2 at *; clear ha hb hlen; go_enter Tryz.func57, Tryz.ntmps57; go_wp2_with fail; go_ret; exact ⟨rfl, Below.refl _ _⟩
theorem text_yes {a b : ByteArray} (h : a = b) : (a.toList == b.toList) = true := toList_inj.2 h
theorem text_no {a b : ByteArray} (h : a ≠ b) : (a.toList == b.toList) = false := by
 cases e : (a.toList == b.toList) with
 | false => rfl
 | true => exact absurd (toList_inj.1 e) h
theorem same_any (F R F' R' : Int) (H H' : ByteArray) (A C : Option Addr) (l m : List It) (ca cb : Nat) (w : World) (ha : Lies5 w w.heap.size A l) (hb : Lies5 w w.heap.size C m) (hl : l.length ≤ 1000000) (hm : m.length ≤ 1000000) :
  Calls Tryz.prog 29 #[lv F R H A l.length ca, lv F' R' H' C m.length cb] w fun e w' => e = .returned (.bool (decide ((F = F' ∧ R = R' ∧ H = H') ∧ l = m))) ∧ Below w.heap.size w w' := by
 have hb1 := lbox_below 26 F R H A l.length ca w; have hb2 := hb1.trans' (lbox_below 26 F' R' H' C m.length cb _); have HE := zj (fun W (h1 : Lies5 W W.heap.size A l) (h2 : Lies5 W W.heap.size C m) => equal_any A C l m ca cb W h1 h2 hl hm); have HA := zj (ha.on hb2); have HC := zj (hb.on hb2); by_cases c1 : F = F'
 ·by_cases c2 : R = R'
  ·by_cases c3 : H = H'
   ·subst c1
    subst c2; subst c3
    have e : decide ((F = F ∧ R = R ∧ H = H) ∧ l = m) = decide (l = m) := by simp
    rw [e]; generalize decide (l = m) = q at *; generalize l.length = n1 at *; generalize m.length = n2 at *; have hz := text_yes (rfl : H = H); clear ha hb hl hm e; go_enter Tryz.func29, Tryz.ntmps29; go_wp2_with fail; refine (HE.out _ HA.out HC.out).mono ?_; rintro e w3 ⟨rfl, hb3⟩; go_wp2_with fail; go_ret; exact ⟨rfl, hb2.trans' hb3⟩
   ·rw [dF (fun h => c3 h.1.2.2)]
    subst c1; subst c2; have hz := text_no c3; generalize l.length = n1 at *; generalize m.length = n2 at *; clear ha hb hl hm c3 HE HA HC; go_enter Tryz.func29, Tryz.ntmps29; go_wp2_with fail; go_ret; exact ⟨rfl, hb2⟩
  ·rw [dF (fun h => c2 h.1.2.1)]
   subst c1; have hz : (R == R') = false := beq_eq_false_iff_ne.2 c2; generalize l.length = n1 at *; generalize m.length = n2 at *; clear ha hb hl hm c2 HE HA HC; go_enter Tryz.func29, Tryz.ntmps29; go_wp2_with fail; go_ret; exact ⟨rfl, hb2⟩
 ·rw [dF (fun h => c1 h.1.1)]
  have hz : (F == F') = false := beq_eq_false_iff_ne.2 c1; generalize l.length = n1 at *; generalize m.length = n2 at *; clear ha hb hl hm c1 HE HA HC; go_enter Tryz.func29, Tryz.ntmps29; go_wp2_with fail; go_ret; exact ⟨rfl, hb2⟩
def W2 (F R F' R' : Int) (H H' : ByteArray) (A C : Option Addr) (n1 n2 ca cb : Nat) (w : World) : World := lbox 41 F' R' H' C n2 cb (lbox 41 F R H A n1 ca w)
theorem W2_boxes (F R F' R' : Int) (H H' : ByteArray) (A C : Option Addr) (n1 n2 ca cb : Nat) (w : World) :
  LBx 41 w.heap.size F R H A n1 ca (W2 F R F' R' H H' A C n1 n2 ca cb w) ∧ LBx 41 (w.heap.size + 1) F' R' H' C n2 cb (W2 F R F' R' H H' A C n1 n2 ca cb w) ∧ Below w.heap.size w (W2 F R F' R' H H' A C n1 n2 ca cb w) := by
 have h1 := lbox_new 41 F R H A n1 ca w; have h2 := lbox_new 41 F' R' H' C n2 cb (lbox 41 F R H A n1 ca w); rw [lbox_size] at h2; exact ⟨h1.below (lbox_below _ _ _ _ _ _ _ _), h2, (lbox_below _ _ _ _ _ _ _ _).trans' (lbox_below _ _ _ _ _ _ _ _)⟩
theorem rsame_bad (F R F' R' : Int) (H H' : ByteArray) (A C : Option Addr) (n1 n2 : Nat) (ca cb : Nat) (w : World) (hne : ¬ (F = F' ∧ R = R' ∧ H = H' ∧ n1 = n2)) :
  Calls Tryz.prog 39 #[lv F R H A n1 ca, lv F' R' H' C n2 cb] w fun e w' => e = .returned (.bool false) ∧ Below w.heap.size w w' := by
 have hb2 := (W2_boxes F R F' R' H H' A C n1 n2 ca cb w).2.2; unfold W2 at hb2; by_cases c1 : F = F'
 ·by_cases c2 : R = R'
  ·by_cases c3 : H = H'
   ·have c4 : n1 ≠ n2 := fun h => hne ⟨c1, c2, c3, h⟩
    subst c1; subst c2; subst c3; have hz := text_yes (rfl : H = H); have hz2 : ((n1 : Int) == (n2 : Int)) = false := beq_eq_false_iff_ne.2 (by omega)
    have hz3 : ((n1 : Int) != (n2 : Int)) = true := by simp only [bne, hz2]; rfl
    have hz4 : (n1 == n2) = false := beq_eq_false_iff_ne.2 c4
    have hz5 : (n1 != n2) = true := by simp only [bne, hz4]; rfl
    clear hne c4; go_enter Tryz.func39, Tryz.ntmps39; go_wp2_with fail; go_ret; exact ⟨rfl, hb2⟩
   ·subst c1
    subst c2; have hz := text_no c3
    have hz2 : (H.toList != H'.toList) = true := by simp only [bne, hz]; rfl
    clear c3 hne; go_enter Tryz.func39, Tryz.ntmps39; go_wp2_with fail; go_ret; exact ⟨rfl, hb2⟩
  ·subst c1
   have hz : (R == R') = false := beq_eq_false_iff_ne.2 c2
   have hz2 : (R != R') = true := by simp only [bne, hz]; rfl
   clear c2 hne; go_enter Tryz.func39, Tryz.ntmps39; go_wp2_with fail; go_ret; exact ⟨rfl, hb2⟩
 ·have hz : (F == F') = false := beq_eq_false_iff_ne.2 c1
  have hz2 : (F != F') = true := by simp only [bne, hz]; rfl
  clear c1 hne; go_enter Tryz.func39, Tryz.ntmps39; go_wp2_with fail; go_ret; exact ⟨rfl, hb2⟩
theorem rsame_len (F R : Int) (H : ByteArray) (A C : Option Addr) (l m : List It) (ca cb : Nat) (w : World) (ha : Lies5 w w.heap.size A l) (hb : Lies5 w w.heap.size C m) (hl : l.length ≤ 1000000) (hlen : l.length = m.length) :
  Calls Tryz.prog 39 #[lv F R H A l.length ca, lv F R H C l.length cb] w fun e w' => e = .returned (.bool (decide (l = m))) ∧ Below w.heap.size w w' := by
 obtain ⟨B1, B2, hb0⟩ := W2_boxes F R F R H H A C l.length l.length ca cb w; have HA := zj (ha.below hb0); have HB := zj (hb.below hb0); obtain ⟨n, hn⟩ : ∃ n, n = l.length := ⟨_, rfl⟩; have HN := zj hn; have HM : Hid (n = m.length) := zj (by omega); obtain ⟨r, hr⟩ : ∃ r, decide (l = m) = r := ⟨_, rfl⟩; have HR := zj hr; rw [hr, ← hn]; rw [← hn] at hl B1 B2 hb0 HA HB; have H1 := zj B1; have H2 := zj B2; have HZ := zj hb0; have hz := text_yes (rfl : H = H); clear ha hb hn hlen hr B1 B2 hb0; go_enter Tryz.func39, Tryz.ntmps39; go_wp2_with fail
 go_loopw [5] (fun iv wr => ∃ k : Nat, k ≤ n ∧ iv = .int .i64 k ∧ Hid (l.take k = m.take k) ∧ Below (W2 F R F R H H A C n n ca cb w).heap.size (W2 F R F R H H A C n n ca cb w) wr) (fun iv _ => n - (intOf iv).toNat)
 case atStart => exact ⟨0, by omega, rfl, zj (by simp), Below.refl _ _⟩
 case round =>
  obtain ⟨k, hk, rfl, HT, hbw⟩ := hrel; obtain ⟨p0, p1, p2, p3⟩ := (H1.out.below hbw).cells; obtain ⟨q0, q1, q2, q3⟩ := (H2.out.below hbw).cells; by_cases hlt : k < n
  ·obtain ⟨⟨K, O, S, L, P⟩, hc⟩ : ∃ c, l[k]? = some c := ⟨_, List.getElem?_eq_getElem (by have := HN.out; omega)⟩
   obtain ⟨⟨K', O', S', L', P'⟩, hd⟩ : ∃ c, m[k]? = some c := ⟨_, List.getElem?_eq_getElem (by have := HM.out; omega)⟩; obtain ⟨a, rfl, hab, x0, x1, x2, x3, x4⟩ := (HA.out.below' hbw HZ.out.size).load hc; obtain ⟨b, rfl, hbb, y0, y1, y2, y3, y4⟩ := (HB.out.below' hbw HZ.out.size).load hd
   have h0 : (0 : Int) ≤ k := by omega
   have hkn : (k : Int) < n := by omega
   by_cases hst : (⟨K, O, S, L, P⟩ : It) = ⟨K', O', S', L', P'⟩
   ·have HST := zj (take_same hc hd HT.out hst)
    have hz := sameI_yes hst; clear hc hd hab hbb hst; go_wp2_with fail
    go_quiet (fail)
    go_wp2_with fail
    go_roundw
    case rel => exact ⟨k + 1, by omega, by simp, HST, L5.below_drewN hbw _⟩
    case measure => simp [intOf]; omega
   ·have HX : Hid (r = false) := zj (by
     rw [← HR.out]; refine dF fun h => hst ?_; subst h; rw [hc] at hd
     exact Option.some.inj hd)
    have hz := sameI_no hst; clear hc hd hab hbb hst; go_wp2_with fail
    go_quiet (fail)
    go_wp2_with fail; go_ret; exact ⟨by rw [HX.out]; rfl, HZ.out.trans' (L5.below_drewN hbw _)⟩
  ·have HX : Hid (r = true) := zj (by
    rw [← HR.out]; refine dT ?_; have h := HT.out
    rwa [List.take_of_length_le (by have := HN.out; omega), List.take_of_length_le (by have := HM.out; omega)] at h)
   have hlt' : ¬ (k : Int) < n := by omega
   clear hk; go_wp2_with fail; go_ret; exact ⟨by rw [HX.out]; rfl, HZ.out.trans' hbw⟩
theorem rsame_any (F R F' R' : Int) (H H' : ByteArray) (A C : Option Addr) (l m : List It) (ca cb : Nat) (w : World) (ha : Lies5 w w.heap.size A l) (hb : Lies5 w w.heap.size C m) (hl : l.length ≤ 1000000) :
  Calls Tryz.prog 39 #[lv F R H A l.length ca, lv F' R' H' C m.length cb] w fun e w' => e = .returned (.bool (decide ((F = F' ∧ R = R' ∧ H = H') ∧ l = m))) ∧ Below w.heap.size w w' := by
 by_cases c : F = F' ∧ R = R' ∧ H = H' ∧ l.length = m.length
 ·obtain ⟨rfl, rfl, rfl, h⟩ := c
  rw [← h]; refine (rsame_len F R H A C l m ca cb w ha hb hl h).mono fun e w' ⟨h1, h2⟩ => ⟨?_, h2⟩; rw [h1]
  congr 3
  simp
 ·rw [dF (fun h => c ⟨h.1.1, h.1.2.1, h.1.2.2, by rw [h.2]⟩)]
  exact rsame_bad F R F' R' H H' A C l.length m.length ca cb w c
end Go.Proofs.YtpeghilfldpgfaaGreatDoor.L10
