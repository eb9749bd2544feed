import Derived.Test.YtpeghilfldpgfaaGreatDoorT06
import Derived.Test.YtpeghilfldpgfaaGreatDoorT07
import Derived.Lib.MinMaxS
import Derived.ArgAppend
import Derived.Deep.RegionLaw
set_option linter.unusedVariables false
set_option linter.unusedSimpArgs false
set_option maxHeartbeats 8000000
set_option maxRecDepth 100000
namespace Go.Proofs.YtpeghilfldpgfaaGreatDoor.L10
open Go.RowKit NP
theorem okIt_iff {K : ByteArray} {O : Bool} {S : ByteArray} {L P : Int} {p : Int} (hk : (K.size : Int) ≤ p / 8) (hr : L9.VP.Right (L9.pv O S L P)) : OkIt ⟨K, O, S, L, P⟩ p ↔ O = decide (p / 4 < max L (S.size : Int)) := by
 have hs : S.data.toList.length = S.size := by simp
 rcases hr with ⟨h1, h2, h3, h4, h5, h6⟩ | ⟨h1, h2, h3, h4⟩
 ·simp only at h1 h2 h3 h4 h5 h6
  subst h1
  have hz : S.size = 0 := by rw [← hs, h2]; rfl
  have hm : max L (S.size : Int) = L := by omega
  rw [hm]; constructor
  ·intro h
   exact (dT (h.2.2.1 rfl)).symm
  ·intro h
   exact ⟨hk, .inl ⟨rfl, h2, h3, h4, h5, h6⟩, fun _ => of_decide_eq_true h.symm, fun h => (by cases h)⟩
 ·simp only at h1 h2 h3 h4
  subst h1
  have hm : max L (S.size : Int) = S.size := by omega
  rw [hm]; constructor
  ·intro h
   have := h.2.2.2 rfl; exact (dF (by simp only at this; omega)).symm
  ·intro h
   have := of_decide_eq_false h.symm; exact ⟨hk, .inr ⟨rfl, h2, h3, h4⟩, fun h => (by cases h), fun _ => (by show (S.size : Int) ≤ p / 4; omega)⟩
theorem all_next {l : List It} {k : Nat} {x : It} {p : Int} (hc : l[k]? = some x) (h : ∀ y ∈ l.take k, OkIt y p) (hx : OkIt x p) : ∀ y ∈ l.take (k + 1), OkIt y p := by
 rw [take_snoc hc]; intro y hy; rcases List.mem_append.1 hy with hy | hy
 ·exact h y hy
 ·obtain rfl := List.mem_singleton.1 hy
  exact hx
theorem not_all {l : List It} {k : Nat} {x : It} {p : Int} (hc : l[k]? = some x) (hx : ¬ OkIt x p) : decide (∀ y ∈ l, OkIt y p) = false := dF fun h => hx (h x (List.mem_of_getElem? hc))
theorem items_any (A : Option Addr) (l : List It) (ca p : Nat) (w : World) (ha : Lies5 w w.heap.size A l) (hl : l.length ≤ 1000000) (hp : p ≤ 1000000) :
  Calls Tryz.prog 113 #[.slice A l.length ca, .int .i64 p] w fun e w' => e = .returned (.bool (decide (∀ x ∈ l, OkIt x p))) ∧ Below w.heap.size w w' := by
 have HA := zj ha; obtain ⟨r, HR⟩ : ∃ r, Hid (r = decide (∀ x ∈ l, OkIt x p)) := ⟨_, zj rfl⟩; rw [← HR.out]; obtain ⟨n, hn⟩ : ∃ n, n = l.length := ⟨_, rfl⟩; have HN := zj hn; have hw8 : IntKind.i64.wrap ((p : Int) / 8) = (p : Int) / 8 := IntWalk.i64_in _ (by omega); have hw4 : IntKind.i64.wrap ((p : Int) / 4) = (p : Int) / 4 := IntWalk.i64_in _ (by omega); rw [← hn]; rw [← hn] at hl; clear ha hn; go_enter Tryz.func113, Tryz.ntmps113; go_wp2_with fail
 go_loopw [10] (fun iv wr => ∃ k : Nat, k ≤ n ∧ iv = .int .i64 k ∧ Hid (∀ x ∈ l.take k, OkIt x p) ∧ Below w.heap.size w wr) (fun iv _ => n - (intOf iv).toNat)
 case atStart => exact ⟨0, by omega, rfl, zj (by simp), Below.refl _ _⟩
 case round =>
  obtain ⟨k, hk, rfl, HK, hbw⟩ := hrel; by_cases hlt : k < n
  ·obtain ⟨⟨K, O, S, L, P⟩, hc⟩ : ∃ c, l[k]? = some c := ⟨_, List.getElem?_eq_getElem (by have := HN.out; omega)⟩
   obtain ⟨a, rfl, hab, x0, x1, x2, x3, x4⟩ := (HA.out.below hbw).load hc; have HB := zj (IBx.new 127 K O S L P wr); by_cases c1 : p / 8 < K.size
   ·have HX : Hid (r = false) := zj (by rw [HR.out]; exact not_all hc (fun h => by have := h.1; simp only at this; omega))
    have d1 : decide (p / 8 < K.size) = true := dT c1; have d2 : decide ((p : Int) / 8 < (K.size : Int)) = true := dT (by omega); clear hc hab; go_wp2_with fail; go_ret; exact ⟨by rw [HX.out]; rfl, hbw.trans' (L5.below_alloc _ _)⟩
   ·have d1 : decide (p / 8 < K.size) = false := dF c1
    have d2 : decide ((p : Int) / 8 < (K.size : Int)) = false := dF (by omega); have HG := zj (fun W => L9.right_any O S L P W); by_cases hr : L9.VP.Right (L9.pv O S L P)
    ·have hiff := okIt_iff (p := p) (K := K) (by omega) hr
     rw [dT hr] at HG; generalize hz : decide ((p : Int) / 4 < max L (S.size : Int)) = z at *
     have hz2 : decide (IntKind.i64.wrap ((p : Int) / 4) < max L (S.size : Int)) = z := by rw [hw4]; exact hz
     by_cases hoz : O = z
     ·have HX := zj (all_next hc HK.out (hiff.2 hoz))
      subst hoz; clear hc hab hiff hr c1; go_wp2_with fail; refine (HG.out _).mono ?_; rintro e w2 ⟨rfl, hb2⟩; obtain ⟨-, b1, -, -, -⟩ := (HB.out.below hb2).cells; have hb3 := (hbw.trans' (L5.below_alloc wr (.cells #[.string K, .bool O, .string S, .int .i64 L, .int .i64 P] 127))).trans' hb2; go_wp2_with fail
      go_roundw
      case rel => exact ⟨k + 1, by omega, by simp, HX, hb3⟩
      case measure => simp [intOf]; omega
     ·have HX : Hid (r = false) := zj (by rw [HR.out]; exact not_all hc (fun h => hoz (hiff.1 h)))
      have ho2 : (O == z) = false := by cases O <;> cases z <;> first | rfl | exact absurd rfl hoz
      clear hc hab hiff hr c1 hoz; go_wp2_with fail; refine (HG.out _).mono ?_; rintro e w2 ⟨rfl, hb2⟩; obtain ⟨-, b1, -, -, -⟩ := (HB.out.below hb2).cells; have hb3 := (hbw.trans' (L5.below_alloc wr (.cells #[.string K, .bool O, .string S, .int .i64 L, .int .i64 P] 127))).trans' hb2; go_wp2_with fail; go_ret; exact ⟨by rw [HX.out]; rfl, hb3⟩
    ·have HX : Hid (r = false) := zj (by rw [HR.out]; exact not_all hc (fun h => hr h.2.1))
     rw [dF hr] at HG; clear hc hab hr c1; go_wp2_with fail; refine (HG.out _).mono ?_; rintro e w2 ⟨rfl, hb2⟩; have hb3 := (hbw.trans' (L5.below_alloc wr (.cells #[.string K, .bool O, .string S, .int .i64 L, .int .i64 P] 127))).trans' hb2; go_wp2_with fail; go_ret; exact ⟨by rw [HX.out]; rfl, hb3⟩
  ·have HX : Hid (r = true) := zj (by
    rw [HR.out]; refine dT ?_; have h := HK.out
    rwa [List.take_of_length_le (by have := HN.out; omega)] at h)
   have hlt' : ¬ (k : Int) < n := by omega
   clear hk; go_wp2_with fail; go_ret; exact ⟨by rw [HX.out]; rfl, hbw⟩
theorem may_iff {F R : Int} {H : ByteArray} {l : List It} {p : Int} (hm : L7.mayBe p = true) : May ⟨F, R, H, l⟩ p ↔ (1 ≤ F ∧ F ≤ 4095 ∧ 0 ≤ R ∧ R ≤ 4095 ∧ R ≠ F) ∧ HighL R H l p ∧ Rise l ∧ ∀ x ∈ l, OkIt x p := by
 constructor
 ·intro ⟨_, h1, h2, h3, h4⟩
  exact ⟨h1, (high_last (F := F) h3).2 h2, h3, h4⟩
 ·intro ⟨h1, h2, h3, h4⟩
  exact ⟨hm, h1, (high_last (F := F) h3).1 h2, h3, h4⟩
theorem may_any (F R : Int) (H : ByteArray) (A : Option Addr) (l : List It) (ca : Nat) (p : Int) (w : World) (hs : L7.Sizes w) (ha : Lies5 w w.heap.size A l) (hl : l.length ≤ 1000000) (hh : H.size ≤ maxLen) :
  Calls Tryz.prog 65 #[lv F R H A l.length ca, .int .i64 p] w fun e w' => e = .returned (.bool (decide (May ⟨F, R, H, l⟩ p))) ∧ Below w.heap.size w w' := by
 have HSZ := zj (fun W (h : L7.Sizes W) => L7.size_any p W h); have HSS := zj hs; have hb0 : Below w.heap.size w (w.alloc (.cells #[.int .i64 F, .int .i64 R, .string H, .slice A l.length ca] 26)) := L5.below_alloc _ _; have hs0 := zj (hs.below hs.lt hb0); by_cases hm' : L7.mayBe p = false
 ·rw [dF (fun h => by rw [h.1] at hm'; cases hm')]
  rw [hm'] at HSZ; clear ha hm' hs; go_enter Tryz.func65, Tryz.ntmps65; go_wp2_with fail; refine (HSZ.out _ hs0.out).mono ?_; rintro e w2 ⟨rfl, rfl⟩; go_wp2_with fail; go_ret; exact ⟨rfl, hb0⟩
 have hm : L7.mayBe p = true := by simpa using hm'
 clear hm'; obtain ⟨q, rfl⟩ : ∃ q : Nat, p = q := Int.eq_ofNat_of_zero_le (by have := mayBe_le hm; omega)
 have hq : q ≤ 1000000 := by have := mayBe_le hm; omega
 obtain ⟨r, HR⟩ : ∃ r, Hid (r = decide (May ⟨F, R, H, l⟩ (q : Int))) := ⟨_, zj rfl⟩; have HM := zj (may_iff (F := F) (R := R) (H := H) (l := l) hm); rw [← HR.out]; rw [hm] at HSZ; have HN := zj (fun W => nums_any F R H A l.length ca W); have HH := zj (fun W (h : Lies5 W W.heap.size A l) => high_any F R H A l ca q W h hl hq hh); have HI := zj (fun W (h : Lies5 W W.heap.size A l) => rise_any A l ca W h hl); have HT := zj (fun W (h : Lies5 W W.heap.size A l) => items_any A l ca q W h hl hq); have HA := zj (ha.on hb0); have HB := zj (LBx.new 26 F R H A l.length ca w); generalize hn : l.length = n at *; clear ha hm hs hl hh hq hn; by_cases c1 : ¬ (1 ≤ F ∧ F ≤ 4095 ∧ 0 ≤ R ∧ R ≤ 4095 ∧ R ≠ F)
 ·rw [dF c1] at HN
  have HX : Hid (r = false) := zj (by rw [HR.out]; exact dF fun h => c1 (HM.out.1 h).1); clear c1 HH HI HT; go_enter Tryz.func65, Tryz.ntmps65; go_wp2_with fail; refine (HSZ.out _ hs0.out).mono ?_; rintro e w2 ⟨rfl, rfl⟩; go_wp2_with fail; refine (HN.out _).mono ?_; rintro e w3 ⟨rfl, hb3⟩; go_wp2_with fail; go_ret; exact ⟨by rw [HX.out]; rfl, hb0.trans' hb3⟩
 have c1' := Decidable.not_not.1 c1; rw [dT c1'] at HN; have HC1 := zj c1'; clear c1 c1'; go_enter Tryz.func65, Tryz.ntmps65; go_wp2_with fail; refine (HSZ.out _ hs0.out).mono ?_; rintro e w2 ⟨rfl, rfl⟩; go_wp2_with fail; refine (HN.out _).mono ?_; rintro e w3 ⟨rfl, hb3⟩; have HB3 := zj (HB.out.below hb3); obtain ⟨e0, e1, e2, e3⟩ := HB3.out.cells; have HA3 := zj (HA.out.on hb3); go_wp2_with fail; obtain ⟨b, hbi, hbc⟩ := HH.out _ HA3.out; refine hbc.mono ?_; rintro e w4 ⟨rfl, hb4⟩; have HB4 := zj (HB3.out.below hb4); have HA4 := zj (HA3.out.on hb4); have HBI := zj hbi; clear hbi hbc e0 e1 e2 e3; obtain ⟨e0, e1, e2, e3⟩ := HB4.out.cells
 cases b with
 | false =>
  have HX : Hid (r = false) := zj (by rw [HR.out]; exact dF fun h => by have := HBI.out.2 (HM.out.1 h).2.1; cases this); go_wp2_with fail; go_ret; exact ⟨by rw [HX.out]; rfl, (hb0.trans' hb3).trans' hb4⟩
 | true =>
  go_wp2_with fail; refine (HI.out _ HA4.out).mono ?_; rintro e w5 ⟨rfl, hb5⟩; have HB5 := zj (HB4.out.below hb5); have HA5 := zj (HA4.out.on hb5); clear e0 e1 e2 e3; obtain ⟨e0, e1, e2, e3⟩ := HB5.out.cells; have hb05 := ((hb0.trans' hb3).trans' hb4).trans' hb5; by_cases c3 : ¬ Rise l
  ·have HX : Hid (r = false) := zj (by rw [HR.out]; exact dF fun h => c3 (HM.out.1 h).2.2.1)
   rw [dF c3]; clear c3; go_wp2_with fail; go_ret; exact ⟨by rw [HX.out]; rfl, hb05⟩
  ·have c3' := Decidable.not_not.1 c3
   rw [dT c3']
   have HX : Hid (r = decide (∀ x ∈ l, OkIt x (q : Int))) := zj (by
    rw [HR.out]; by_cases hx : ∀ x ∈ l, OkIt x (q : Int)
    ·rw [dT hx, dT (HM.out.2 ⟨HC1.out, HBI.out.1 (by first | rfl | trivial), c3', hx⟩)]
    ·rw [dF hx, dF fun h => hx (HM.out.1 h).2.2.2])
   clear c3 c3'; go_wp2_with fail; refine (HT.out _ HA5.out).mono ?_; rintro e w6 ⟨rfl, hb6⟩; rw [← HX.out]; go_wp2_with fail; go_ret; exact ⟨rfl, hb05.trans' hb6⟩
end Go.Proofs.YtpeghilfldpgfaaGreatDoor.L10
namespace Go.Proofs.YtpeghilfldpgfaaGreatDoor.L9
open Go.RowKit
theorem vref_any (O : Bool) (S : ByteArray) (L P : Int) (w : World) :
  Calls Tryz.prog 74 #[vv O S L P] w fun e w' => e = .returned (vv O S L P) ∧ Below w.heap.size w w' := by
 go_enter Tryz.func74, Tryz.ntmps74; go_wp2_with fail; refine bodyPost_ret (v := vv O S L P) (by simp [results, Tryz.results74, go_sem]) rfl ⟨rfl, (below_alloc _ _).trans' (below_alloc _ _)⟩
end Go.Proofs.YtpeghilfldpgfaaGreatDoor.L9
namespace Go.Proofs.YtpeghilfldpgfaaGreatDoor.L11
open Go.RowKit IP
theorem npage_any (k : Int) (w : World) :
  Calls Tryz.prog 176 #[.int .i64 k] w fun e w' => e = .returned (.bool (decide (KidOk k))) ∧ w = w' := by
 rcases (show k < 1 ∨ (1 ≤ k ∧ k ≤ 4095) ∨ (1 ≤ k ∧ 4095 < k) by omega) with h | h | h
 ·have e : decide (KidOk k) = false := dF (by unfold KidOk; omega)
  have d1 : decide (1 ≤ k) = false := dF (by omega); rw [e]; clear h e; go_enter Tryz.func176, Tryz.ntmps176; go_wp2_with fail; go_ret; exact ⟨rfl, rfl⟩
 ·have e : decide (KidOk k) = true := dT h
  have d1 : decide (1 ≤ k) = true := dT (by omega); have d2 : decide (k ≤ 4095) = true := dT (by omega); rw [e]; clear h e; go_enter Tryz.func176, Tryz.ntmps176; go_wp2_with fail; go_ret; exact ⟨rfl, rfl⟩
 ·have e : decide (KidOk k) = false := dF (by unfold KidOk; omega)
  have d1 : decide (1 ≤ k) = true := dT (by omega); have d2 : decide (k ≤ 4095) = false := dF (by omega); rw [e]; clear h e; go_enter Tryz.func176, Tryz.ntmps176; go_wp2_with fail; go_ret; exact ⟨rfl, rfl⟩
def NumOk' (F L R : Int) : Prop := 1 ≤ F ∧ F ≤ 4095 ∧ 1 ≤ L ∧ L ≤ 255 ∧ 0 ≤ R ∧ R ≤ 4095 ∧ R ≠ F
instance (F L R : Int) : Decidable (NumOk' F L R) := by unfold NumOk'; infer_instance
theorem nums_any (F L R : Int) (H : ByteArray) (A : Option Addr) (n ca : Nat) (C : Option Addr) (m cb : Nat) (w : World) :
  Calls Tryz.prog 122 #[nv F L R H A n ca C m cb] w fun e w' => e = .returned (.bool (decide (NumOk' F L R))) ∧ Below w.heap.size w w' := by
 have HPF := zj (fun W => npage_any F W); have HPR := zj (fun W => npage_any R W); have hb := nbox_below 29 F L R H A n ca C m cb w; by_cases h1 : KidOk F
 ·rw [dT h1] at HPF
  by_cases h2 : 1 ≤ L
  ·have d1 : decide (1 ≤ L) = true := dT h2
   by_cases h3 : L ≤ 255
   ·have d2 : decide (L ≤ 255) = true := dT h3
    by_cases h4 : R = 0
    ·have e : decide (NumOk' F L R) = true := dT (by unfold NumOk'; unfold KidOk at h1; omega)
     have d4 : (R != F) = true := by unfold KidOk at h1; simp; omega
     rw [e]; subst h4; clear h1 h2 h3 e HPR; go_enter Tryz.func122, Tryz.ntmps122; go_wp2_with fail; refine (HPF.out _).mono ?_; rintro e w2 ⟨rfl, rfl⟩; go_wp2_with fail; go_ret; exact ⟨rfl, hb⟩
    ·have d3 : (R == 0) = false := beq_eq_false_iff_ne.2 h4
     by_cases h5 : KidOk R
     ·rw [dT h5] at HPR
      have e : (R != F) = decide (NumOk' F L R) := by
       unfold KidOk at h1 h5; by_cases hq : R = F
       ·rw [dF (by unfold NumOk'; omega)]; simp [hq]
       ·rw [dT (by unfold NumOk'; omega)]; simp [hq]
      generalize decide (NumOk' F L R) = q at *; clear h1 h2 h3 h4 h5; go_enter Tryz.func122, Tryz.ntmps122; go_wp2_with fail; refine (HPF.out _).mono ?_; rintro e w2 ⟨rfl, rfl⟩; go_wp2_with fail; refine (HPR.out _).mono ?_; rintro e w2 ⟨rfl, rfl⟩; go_wp2_with fail; go_ret; exact ⟨rfl, hb⟩
     ·rw [dF h5] at HPR
      have e : decide (NumOk' F L R) = false := dF (by unfold NumOk'; unfold KidOk at h5; omega); rw [e]; clear h1 h2 h3 h4 h5 e; go_enter Tryz.func122, Tryz.ntmps122; go_wp2_with fail; refine (HPF.out _).mono ?_; rintro e w2 ⟨rfl, rfl⟩; go_wp2_with fail; refine (HPR.out _).mono ?_; rintro e w2 ⟨rfl, rfl⟩; go_wp2_with fail; go_ret; exact ⟨rfl, hb⟩
   ·have d2 : decide (L ≤ 255) = false := dF h3
    have e : decide (NumOk' F L R) = false := dF (by unfold NumOk'; omega); rw [e]; clear h1 h2 h3 e HPR; go_enter Tryz.func122, Tryz.ntmps122; go_wp2_with fail; refine (HPF.out _).mono ?_; rintro e w2 ⟨rfl, rfl⟩; go_wp2_with fail; go_ret; exact ⟨rfl, hb⟩
  ·have d1 : decide (1 ≤ L) = false := dF h2
   have e : decide (NumOk' F L R) = false := dF (by unfold NumOk'; omega); rw [e]; clear h1 h2 e HPR; go_enter Tryz.func122, Tryz.ntmps122; go_wp2_with fail; refine (HPF.out _).mono ?_; rintro e w2 ⟨rfl, rfl⟩; go_wp2_with fail; go_ret; exact ⟨rfl, hb⟩
 ·rw [dF h1] at HPF
  have e : decide (NumOk' F L R) = false := dF (by unfold NumOk'; unfold KidOk at h1; omega); rw [e]; clear h1 e HPR; go_enter Tryz.func122, Tryz.ntmps122; go_wp2_with fail; refine (HPF.out _).mono ?_; rintro e w2 ⟨rfl, rfl⟩; go_wp2_with fail; go_ret; exact ⟨rfl, hb⟩
def KidsOk' (ks : List Int) (m : Nat) : Prop := ks.length = m + 1 ∧ ∀ k ∈ ks, KidOk k
instance (ks : List Int) (m : Nat) : Decidable (KidsOk' ks m) := by unfold KidsOk'; infer_instance
theorem all_nextK {l : List Int} {k : Nat} {x : Int} (hc : l[k]? = some x) (h : ∀ y ∈ l.take k, KidOk y) (hx : KidOk x) : ∀ y ∈ l.take (k + 1), KidOk y := by
 rw [List.take_add_one, hc]; intro y hy; rcases List.mem_append.1 hy with hy | hy
 ·exact h y hy
 ·obtain rfl := List.mem_singleton.1 hy
  exact hx
theorem kids_any (F L R : Int) (H : ByteArray) (A : Option Addr) (n ca : Nat) (C : Option Addr) (m cb : Nat) (ks : List Int) (w : World) (ha : LiesN w w.heap.size A ks) (hn : ks.length = n) (hl : n ≤ 1000000) (hm : m ≤ 1000000) :
  Calls Tryz.prog 123 #[nv F L R H A n ca C m cb] w fun e w' => e = .returned (.bool (decide (KidsOk' ks m))) ∧ Below w.heap.size w w' := by
 have hb := nbox_below 29 F L R H A n ca C m cb w; have HB := zj hb; have HK := zj (nbox_new 29 F L R H A n ca C m cb w); have HA := zj (ha.below' hb (Nat.le_refl _)); have HN := zj hn; obtain ⟨r, HR⟩ : ∃ r, Hid (r = decide (KidsOk' ks m)) := ⟨_, zj rfl⟩; rw [← HR.out]; have HPG := zj (fun k W => npage_any k W); clear ha hn hb; go_enter Tryz.func123, Tryz.ntmps123; go_wp2_with fail
 go_loopw [8] (fun iv wr => ∃ k : Nat, k ≤ n ∧ iv = .int .i64 k ∧ Hid (∀ x ∈ ks.take k, KidOk x) ∧ Hid (wr = nbox 29 F L R H A n ca C m cb w)) (fun iv _ => n - (intOf iv).toNat)
 case atStart => exact ⟨0, by omega, rfl, zj (by simp), zj rfl⟩
 case round =>
  obtain ⟨k, hk, rfl, HX, HW⟩ := hrel; obtain ⟨c0, c1, c2, c3, c4, c5⟩ := HK.out.cells; rw [← HW.out] at c4 c5; by_cases hlt : k < n
  ·obtain ⟨x, hc⟩ : ∃ c, ks[k]? = some c := ⟨_, List.getElem?_eq_getElem (by have := HN.out; omega)⟩
   obtain ⟨a, rfl, hab, x0⟩ := HA.out k x hc; rw [← HW.out] at x0
   have h0 : (0 : Int) ≤ k := by omega
   have hkn : (k : Int) < n := by omega
   have HP := zj (fun W => HPG.out x W); by_cases hx : KidOk x
   ·rw [dT hx] at HP
    have HX2 := zj (all_nextK hc HX.out hx); clear hc hab hx c0 c1 c2 c3 c4 c5; go_wp2_with fail; refine (HP.out _).mono ?_; rintro e w2 ⟨rfl, rfl⟩; go_wp2_with fail
    go_roundw
    case rel => exact ⟨k + 1, by omega, by simp, HX2, HW⟩
    case measure => simp [intOf]; omega
   ·rw [dF hx] at HP
    have HF : Hid (r = false) := zj (by rw [HR.out]; exact dF (fun h => hx (h.2 x (List.mem_of_getElem? hc)))); clear hc hab hx c0 c1 c2 c3 c4 c5; go_wp2_with fail; refine (HP.out _).mono ?_; rintro e w2 ⟨rfl, rfl⟩; go_wp2_with fail; go_ret; exact ⟨by rw [HF.out]; rfl, by rw [HW.out]; exact HB.out⟩
  ·have hlt' : ¬ (k : Int) < n := by omega
   have HF : Hid (((n : Int) == (m : Int) + 1) = r) := zj (by
    have h := HX.out; rw [List.take_of_length_le (by have := HN.out; omega)] at h; rw [HR.out]; by_cases hq : n = m + 1
    ·rw [dT ⟨HN.out.trans hq, h⟩]
     simp [hq]
    ·rw [dF (fun h => hq (HN.out.symm.trans h.1))]
     simp; omega)
   have hw : IntKind.i64.wrap ((m : Int) + 1) = (m : Int) + 1 := IntWalk.i64_in _ (by omega); clear hk; go_wp2_with fail; go_ret
   exact ⟨by first | (rw [HF.out] <;> rfl) | (rw [← HF.out]; rfl), by rw [HW.out]; exact HB.out⟩
theorem own_less {w : World} {base base' size n : Nat} {e : TypeId} {v : Value} {xs : List Value} (h : w.ownsRow base e size v n xs) (hb : base' ≤ base) : w.ownsRow base' e size v n xs :=
 ⟨h.1, h.2.imp id fun ⟨g, cap, cur, e1, hg, r⟩ => ⟨g, cap, cur, e1, Nat.le_trans hb hg, r⟩⟩
theorem run_append_full {P : Program} (w : World) (t ty e : TypeId) (i : TypeInfo) (z : Value) (bytes : Nat) (ht : P.underlying t = some (.slice e)) (hi : P.info? e = some i) (hz : i.zero = some z)
  (hsize : i.size = 1) (hby : i.bytes = bytes) (hzs : z.cells.size = 1) (A : Option Addr) (n : Nat) (olds : List Value) (hA : A = none → n = 0) (hlo : olds.length = n) (holds : ∀ a, A = some a → ∀ j u, olds[j]? = some u → w.cell? (a.add j) = some u)
  (ad : Addr) (m c : Nat) (news : List Value) (hl : news.length = m) (hnews : ∀ j u, news[j]? = some u → w.cell? (ad.add j) = some u) (h1 : ∀ u ∈ news, u.oneCell' = true)
  (hm : 0 < m) (h63 : n + m ≤ maxLen) (hbytes : (n + m) * bytes ≤ 140737488355328) :
  ∃ g cap w', (Builtin.append_ #[t, t] ty #[.slice A n n, .slice (some ad) m c]).run P w = .ok (.slice (some ⟨g, 0, none⟩) (n + m) cap) w' ∧
   w'.ownsRow w.heap.size e 1 (.slice (some ⟨g, 0, none⟩) (n + m) cap) (n + m) (olds ++ news) ∧ w.grownBy w' none := by
 cases A with
 | none =>
  obtain rfl := hA rfl; obtain rfl := List.eq_nil_of_length_eq_zero hlo; obtain ⟨g, cap, w', hr, h2, h3, _⟩ := run_append_lies (P := P) (w := w) t ty w.heap.size e i z 1 bytes ht hi hz hsize hby hzs (by omega) (.slice none 0 0) 0 [] ⟨by simp, .inl ⟨rfl, rfl⟩⟩ ad m c news (by omega) hnews h1 hm h63 hbytes (Nat.le_refl _) w.heap.size rfl; exact ⟨g, cap, w', hr, h2, h3⟩
 | some a =>
  obtain ⟨v', w', hr, h2, h3⟩ := run_append_arg_grows (P := P) w t ty e i z 1 bytes ht hi hz hsize hby hzs (by omega) a n n olds (by omega) (holds a rfl) ad m c news (by omega) hnews (by omega) h63 hbytes; obtain ⟨g, cap, rfl, _, _⟩ := h2.form (by omega); exact ⟨g, cap, w', hr, h2, h3⟩
theorem step_append_full {P : Program} (w : World) {ops : Array Oper} {o : Oper} {a : Act} {K : Act → World → Prop} {Q : Exit → Act → World → Prop} {E : Prop} (hgd : o.guard = none) (s x : Operand) (t : TypeId)
  (ho : o.op = .call { callee := .builtin .append, args := #[s, x], argTypes := #[t, t] })
  (e : TypeId) (i : TypeInfo) (z : Value) (bytes : Nat) (ht : P.underlying t = some (.slice e)) (hi : P.info? e = some i) (hz : i.zero = some z)
  (hsize : i.size = 1) (hby : i.bytes = bytes) (hzs : z.cells.size = 1) (A : Option Addr) (n : Nat) (olds : List Value) (hs : a.eval s = .slice A n n) (hA : A = none → n = 0) (hlo : olds.length = n) (holds : ∀ a, A = some a → ∀ j u, olds[j]? = some u → w.cell? (a.add j) = some u)
  (ad : Addr) (m c : Nat) (news : List Value) (hx : a.eval x = .slice (some ad) m c) (hl : news.length = m) (hnews : ∀ j u, news[j]? = some u → w.cell? (ad.add j) = some u) (h1 : ∀ u ∈ news, u.oneCell' = true)
  (hm : 0 < m) (h63 : n + m ≤ maxLen) (hbytes : (n + m) * bytes ≤ 140737488355328)
  (h : ∀ g cap w', w'.ownsRow w.heap.size e 1 (.slice (some ⟨g, 0, none⟩) (n + m) cap) (n + m) (olds ++ news) → w.grownBy w' none → K (a.put o.dst (.slice (some ⟨g, 0, none⟩) (n + m) cap)) w') :
  if Region.wanted o (yielded ops a.tmps) = true then Oper.wp P o a w K Q else E := by
 have hw : Region.wanted o (yielded ops a.tmps) = true := by simp [Region.wanted, hgd]
 rw [if_pos hw]; obtain ⟨g, cap, w', hr, h2, h3⟩ := run_append_full (P := P) w t o.type e i z bytes ht hi hz hsize hby hzs A n olds hA hlo holds ad m c news hl hnews h1 hm h63 hbytes; unfold Oper.wp execOp; simp only [ho, resolve, invoke, builtin, Sem.run_bind, Sem.run_pure, Result.andThen_ok, List.map_toArray, List.map_cons, List.map_nil, hs, hx, hr]; exact h g cap w' h2 h3
theorem highs_any (F L R : Int) (H : ByteArray) (A : Option Addr) (n ca : Nat) (C : Option Addr) (m cb : Nat) (ss : List ByteArray) (w : World) (hc : L5.Lies w w.heap.size C ss) (hC : C = none → m = 0) (hn : n = m + 1) (hm : ss.length = m) (hcb : m ≤ cb) (hl : m ≤ 1000000) :
  Calls Tryz.prog 178 #[nv F L R H A n ca C m cb] w fun e w' => ∃ g cap, e = .returned (.slice (some ⟨g, 0, none⟩) n cap) ∧ w'.ownsRow w.heap.size 9 1 (.slice (some ⟨g, 0, none⟩) n cap) n (L5.strCells (ss ++ [H])) ∧ Below w.heap.size w w' := by
 obtain ⟨i0, hi, hz0, hz1, hz2⟩ := info_parts L5.Tryz.infoStr; have hb := nbox_below 29 F L R H A n ca C m cb w; have HB := zj hb; have HK := zj (nbox_new 29 F L R H A n ca C m cb w); have HC := zj (lies_below' hc hb (Nat.le_refl _)); have HCN := zj hC; have HM := zj hm; have w1 : IntKind.i64.wrap ((n : Int) - 1) = m := (IntWalk.i64_in _ (by omega)).trans (by omega)
 have mn : min (m : Int) (m : Int) = m := by omega
 have hz : ((n : Int) == 0) = false := beq_eq_false_iff_ne.2 (by omega)
 have h0 : (0 : Int) ≤ m := by omega
 have hcb' : (m : Int) ≤ cb := by omega
 have HNM := zj hn; clear hc hC hm hb hn; go_enter Tryz.func178, Tryz.ntmps178; obtain ⟨c0, c1, c2, c3, c4, c5⟩ := HK.out.cells; have HS : Hid (∀ V, Below (w.heap.size + 1) (nbox 29 F L R H A n ca C m cb w) V → (V.cell? ⟨w.heap.size, 3, none⟩ = some (.string H) ∧ V.cell? ⟨w.heap.size, 5, none⟩ = some (.slice C m cb))) := zj (fun V hb => ⟨(hb.cell (p := ⟨w.heap.size, 3, none⟩) (Nat.lt_succ_self _)).trans HK.out.cells.2.2.2.1, (hb.cell (p := ⟨w.heap.size, 5, none⟩) (Nat.lt_succ_self _)).trans HK.out.cells.2.2.2.2.2⟩); have HZ : Hid ((nbox 29 F L R H A n ca C m cb w).heap.size = w.heap.size + 1) := zj (nbox_size _ _ _ _ _ _ _ _ _ _ _ _); have hS0 := HS.out _ (Below.refl _ _); have hS1 := HS.out _ (L5.below_drewN (Below.refl _ _) 1)
 have hBA : Below (w.heap.size + 1) (nbox 29 F L R H A n ca C m cb w) ((nbox 29 F L R H A n ca C m cb w).drew.alloc (.cells #[.string H] 9)) := by
  have h := L5.below_alloc (nbox 29 F L R H A n ca C m cb w).drew (.cells #[.string H] 9); rw [show (nbox 29 F L R H A n ca C m cb w).drew.heap.size = w.heap.size + 1 from HZ.out] at h; exact (L5.below_drewN (Below.refl _ _) 1).trans h
 have hblk : ((nbox 29 F L R H A n ca C m cb w).drew.alloc (.cells #[.string H] 9)).heap[w.heap.size + 1]? = some (.cells #[.string H] 9 (0, 0)) := by
  have h := heap_alloc_new (nbox 29 F L R H A n ca C m cb w).drew (.cells #[.string H] 9); rwa [show (nbox 29 F L R H A n ca C m cb w).drew.heap.size = w.heap.size + 1 from HZ.out] at h
 have HOL : Hid (∀ V, Below (w.heap.size + 1) (nbox 29 F L R H A n ca C m cb w) V → ∀ a, C = some a → ∀ j u, (L5.strCells ss)[j]? = some u → V.cell? (a.add j) = some u) := zj (fun V hV a ha j u hu => by
  unfold L5.strCells at hu; rw [List.getElem?_map] at hu; obtain ⟨s, hs, rfl⟩ := Option.map_eq_some_iff.1 hu; obtain ⟨a', e, hb, hx⟩ := HC.out j s hs; obtain rfl := Option.some.inj (ha.symm.trans e)
  exact (hV.cell (by rw [L5.addr_block]; omega)).trans hx)
 have HBA := zj hBA; have HBK := zj hblk; have HSZ : Hid (((nbox 29 F L R H A n ca C m cb w).drew.alloc (.cells #[.string H] 9)).heap.size = w.heap.size + 2) := zj (by simp)
 have HBG : Hid (∀ W', ((nbox 29 F L R H A n ca C m cb w).drew.alloc (.cells #[.string H] 9)).grownBy W' none → Below (w.heap.size + 1) (nbox 29 F L R H A n ca C m cb w) W') := zj (fun W' hg => by
  have h : Below ((nbox 29 F L R H A n ca C m cb w).drew.alloc (.cells #[.string H] 9)).heap.size ((nbox 29 F L R H A n ca C m cb w).drew.alloc (.cells #[.string H] 9)) W' := (Below.refl _ _).grown hg (Nat.le_refl _) (by simp)
  exact HBA.out.trans (h.mono (by rw [HSZ.out]; omega)))
 clear hBA hblk; have hSA := HS.out ((nbox 29 F L R H A n ca C m cb w).drew.alloc (.cells #[.string H] 9)) HBA.out; go_wp2_with fail
 go_region_held3 (fun V => V.cell? ⟨w.heap.size, 3, none⟩ = some (.string H) ∧ V.cell? ⟨w.heap.size, 5, none⟩ = some (.slice C m cb))
  (first | assumption)
  (first
   | (refine step_append_full _ (by rfl) _ _ _ (by rfl) 9 i0 (.string ⟨#[]⟩) 16 Tryz.underlying22 hi hz0 hz1 hz2 rfl C m (L5.strCells ss) (by rfl) HCN.out (by rw [L5.strCells_length, HM.out]) (HOL.out _ HBA.out) ⟨w.heap.size + 1, 0, none⟩ 1 1 [.string H] (by first | rfl | (simp; done)) rfl (World.news_of_block (cs := #[.string H]) (t := 9) (fr := (0, 0)) HBK.out) (L5.str_one _) (by omega) (by unfold maxLen; omega) (by omega) ?_; intro g' cap' w1 hown' hgrow; have hbG := HBG.out _ hgrow; have hSG := HS.out _ hbG)
   | fail "no arm")
 go_wp2_with fail; go_ret; have hown2 := own_less hown' (show w.heap.size ≤ _ by simp only [World.size_alloc, World.drew]; first | omega | (simp; omega) | simp)
 have e1 : L5.strCells ss ++ [Value.string H] = L5.strCells (ss ++ [H]) := by simp [L5.strCells]
 rw [e1] at hown2; obtain rfl := HNM.out; exact ⟨g', cap', rfl, hown2, HB.out.trans (hbG.mono (by omega))⟩
theorem text_any (s : ByteArray) (w : World) (hs : s.size ≤ 1000000) : Calls Tryz.prog 119 #[.string s] w fun e w' => e = .returned (.string (L9.textS s)) ∧ Below w.heap.size w w' := by
 have HT := zj (L9.textS_eq s s.size rfl); have HP := zj (fun W => L9.put_any (s.size : Int) W (by omega) (by omega)); have hsz := L9.wput_size s.size (by omega); obtain ⟨Z, hZ⟩ : ∃ Z : ByteArray, (⟨(L9.WP.put s.size).toArray⟩ : ByteArray) = Z := ⟨_, rfl⟩; rw [Int.toNat_natCast] at HP; rw [hZ] at HP HT hsz
 have hw : IntKind.u64.wrap (s.size : Int) = s.size := by rw [IntKind.wrap_u64]; omega
 have h9 : ¬ 9223372036854775807 < Z.size + s.size := by omega
 have h9' : ¬ (9223372036854775807 : Int) < (Z.size : Int) + (s.size : Int) := by omega
 clear hZ; go_enter Tryz.func119, Tryz.ntmps119; go_wp2_with fail; refine (HP.out _).mono ?_; rintro e w2 ⟨rfl, hb2⟩; go_wp2_with fail; go_ret; exact ⟨by rw [HT.out]; rfl, hb2⟩
theorem gt_case (s : ByteArray) (i : Nat) : ∃ m tq er, L9.WP.get s.data.toList i = (m, tq, er) ∧
  (((er = 7 ∨ er = 3) ∧ m = 0 ∧ tq = 0 ∧ L9.VP.gtext s.data.toList i = none) ∨ (er = 0 ∧ tq ≤ s.size ∧ s.size - tq < m ∧ m ≤ 18446744073709551615 ∧ L9.VP.gtext s.data.toList i = none) ∨
   (er = 0 ∧ tq + m ≤ s.size ∧ L9.VP.gtext s.data.toList i = some ((s.extract tq (tq + m)).data.toList, tq + m))) := by
 have hl : s.data.toList.length = s.size := by simp
 rcases L9.WP.get_spec s.data.toList i with e | e | ⟨n, tq, e, h1, h2, h3, h4⟩
 ·refine ⟨0, 0, 7, e, .inl ⟨.inl rfl, rfl, rfl, ?_⟩⟩
  unfold L9.VP.gtext; rw [e]; rfl
 ·refine ⟨0, 0, 3, e, .inl ⟨.inr rfl, rfl, rfl, ?_⟩⟩
  unfold L9.VP.gtext; rw [e]; rfl
 ·rw [hl] at h2
  by_cases hm : n ≤ s.size - tq
  ·refine ⟨n, tq, 0, e, .inr (.inr ⟨rfl, by omega, ?_⟩)⟩
   unfold L9.VP.gtext; simp only [e, hl]; rw [if_pos ⟨trivial, hm⟩, Lib.extract_data, Nat.add_sub_cancel_left]
  ·refine ⟨n, tq, 0, e, .inr (.inl ⟨rfl, h2, by omega, h4, ?_⟩)⟩
   unfold L9.VP.gtext; simp only [e, hl]; rw [if_neg (fun h => hm h.2)]
def GotText (g : Option (List UInt8 × Nat)) (e : Ending) : Prop :=
 (g = none ∧ ∃ x : Int, x ≠ 0 ∧ e = .returned (.tuple #[.string ⟨#[]⟩, .int .i64 0, .int .i64 x])) ∨ ∃ (T : ByteArray) (j : Nat), g = some (T.data.toList, j) ∧ e = .returned (.tuple #[.string T, .int .i64 j, .int .i64 0])
theorem textGet_any (s : ByteArray) (i : Nat) (w : World) (hi : i ≤ s.size) (hs : s.size ≤ 1000000) :
  Calls Tryz.prog 86 #[.string s, .int .i64 i] w fun e w' => GotText (L9.VP.gtext s.data.toList i) e ∧ Below w.heap.size w w' := by
 obtain ⟨m, tq, er, hg, hc⟩ := gt_case s i; have HG := zj (fun W => L9.get_any s (i : Int) W (by omega) (by omega) (by unfold maxLen; omega)); rw [Int.toNat_natCast] at HG; simp only [hg] at HG; clear hg; rcases hc with ⟨her, rfl, rfl, hn⟩ | ⟨rfl, h1, h2, h3, hn⟩ | ⟨rfl, h1, hn⟩
 ·rw [hn]
  have hz : ((er : Int) != 0) = true := by rcases her with rfl | rfl <;> rfl
  have hz2 : ((er : Int) == 0) = false := by rcases her with rfl | rfl <;> rfl
  have HNZ : Hid ((er : Int) ≠ 0) := zj (by rcases her with rfl | rfl <;> decide)
  clear her hn hi; go_enter Tryz.func86, Tryz.ntmps86; go_wp2_with fail; refine (HG.out _).mono ?_; rintro e w2 ⟨rfl, hb2⟩; go_wp2_with fail
  go_ret3
  exact ⟨.inl ⟨rfl, er, HNZ.out, rfl⟩, hb2⟩
 ·rw [hn]
  obtain ⟨d, hd⟩ : ∃ d, d = s.size - tq := ⟨_, rfl⟩
  have he : (s.size : Int) - (tq : Int) = (d : Int) := by omega
  have w1 : IntKind.i64.wrap (d : Int) = d := IntWalk.i64_in _ (by omega)
  have w2 : IntKind.u64.wrap (d : Int) = d := by rw [IntKind.wrap_u64]; omega
  have d1 : decide (d < m) = true := dT (by omega); have d2 : decide ((d : Int) < (m : Int)) = true := dT (by omega); clear hn hi hd h1 h2 h3; go_enter Tryz.func86, Tryz.ntmps86; go_wp2_with fail; refine (HG.out _).mono ?_; rintro e w2 ⟨rfl, hb2⟩; go_wp2_with fail
  go_ret3
  exact ⟨.inl ⟨rfl, 7, by decide, rfl⟩, hb2⟩
 ·rw [hn]
  obtain ⟨d, hd⟩ : ∃ d, d = s.size - tq := ⟨_, rfl⟩; obtain ⟨j, hj⟩ : ∃ j, j = tq + m := ⟨_, rfl⟩
  have he : (s.size : Int) - (tq : Int) = (d : Int) := by omega
  have he2 : (tq : Int) + (m : Int) = (j : Int) := by omega
  have w1 : IntKind.i64.wrap (d : Int) = d := IntWalk.i64_in _ (by omega)
  have w2 : IntKind.u64.wrap (d : Int) = d := by rw [IntKind.wrap_u64]; omega
  have w3 : IntKind.i64.wrap (m : Int) = m := IntWalk.i64_in _ (by omega); have w4 : IntKind.i64.wrap (j : Int) = j := IntWalk.i64_in _ (by omega); have d1 : decide (d < m) = false := dF (by omega); have d2 : decide ((d : Int) < (m : Int)) = false := dF (by omega)
  have hj1 : tq ≤ j := by omega
  have hj2 : j ≤ s.size := by omega
  rw [← hj]
  have hts : (s.extract tq j).size ≤ 1000000 := by simp; omega
  have HC := zj (fun W => L5.clone_any (s.extract tq j) W hts); obtain ⟨T, hT⟩ : ∃ T, T = s.extract tq j := ⟨_, rfl⟩; rw [← hT] at HC ⊢; have HT := zj hT; clear hn hi hd hj h1 hts; have hT2 := hT.symm; clear hT; go_enter Tryz.func86, Tryz.ntmps86; go_wp2_with fail; refine (HG.out _).mono ?_; rintro e w2 ⟨rfl, hb2⟩; go_wp2_with fail; refine (HC.out _).mono ?_; rintro e w3 ⟨rfl, hb3⟩; go_wp2_with fail
  go_ret3
  exact ⟨.inr ⟨T, j, rfl, rfl⟩, hb2.trans' hb3⟩
def TextV (g : Option (List UInt8 × Nat)) (e : Ending) : Prop :=
 (g = none ∧ e = .returned (.tuple #[.string ⟨#[]⟩, .int .i64 (-1)])) ∨ ∃ (T : ByteArray) (j : Nat), g = some (T.data.toList, j) ∧ e = .returned (.tuple #[.string T, .int .i64 j])
theorem rtext_neg (s : ByteArray) (i : Int) (w : World) (hi : i < 0) :
  Calls Tryz.prog 76 #[.string s, .int .i64 i] w fun e w' => e = .returned (.tuple #[.string ⟨#[]⟩, .int .i64 (-1)]) ∧ Below w.heap.size w w' := by
 go_enter Tryz.func76, Tryz.ntmps76; go_wp2_with fail
 go_ret2
 exact ⟨rfl, Below.refl _ _⟩
theorem rtext_any (s : ByteArray) (i : Nat) (w : World) (hi : i ≤ s.size) (hs : s.size ≤ 1000000) :
  Calls Tryz.prog 76 #[.string s, .int .i64 i] w fun e w' => TextV (L9.VP.gtext s.data.toList i) e ∧ Below w.heap.size w w' := by
 obtain ⟨m, tq, er, hg, hc⟩ := gt_case s i; have HG := zj (fun W => L9.rget_any s (i : Int) W (by omega) (by omega) (by omega)); rw [Int.toNat_natCast] at HG; simp only [hg] at HG; clear hg; rcases hc with ⟨her, rfl, rfl, hn⟩ | ⟨rfl, h1, h2, h3, hn⟩ | ⟨rfl, h1, hn⟩
 ·rw [hn]
  have hz : ((er : Int) != 0) = true := by rcases her with rfl | rfl <;> rfl
  have hz2 : ((er : Int) == 0) = false := by rcases her with rfl | rfl <;> rfl
  clear her hn hi; go_enter Tryz.func76, Tryz.ntmps76; go_wp2_with fail; refine (HG.out _).mono ?_; rintro e w2 ⟨rfl, hb2⟩; go_wp2_with fail
  go_ret2
  exact ⟨.inl ⟨rfl, rfl⟩, hb2⟩
 ·rw [hn]
  obtain ⟨d, hd⟩ : ∃ d, d = s.size - tq := ⟨_, rfl⟩
  have he : (s.size : Int) - (tq : Int) = (d : Int) := by omega
  have w1 : IntKind.i64.wrap (d : Int) = d := IntWalk.i64_in _ (by omega)
  have w2 : IntKind.u64.wrap (d : Int) = d := by rw [IntKind.wrap_u64]; omega
  have d1 : decide (d < m) = true := dT (by omega); have d2 : decide ((d : Int) < (m : Int)) = true := dT (by omega); clear hn hi hd h1 h2 h3; go_enter Tryz.func76, Tryz.ntmps76; go_wp2_with fail; refine (HG.out _).mono ?_; rintro e w2 ⟨rfl, hb2⟩; go_wp2_with fail
  go_ret2
  exact ⟨.inl ⟨rfl, rfl⟩, hb2⟩
 ·rw [hn]
  obtain ⟨d, hd⟩ : ∃ d, d = s.size - tq := ⟨_, rfl⟩; obtain ⟨j, hj⟩ : ∃ j, j = tq + m := ⟨_, rfl⟩
  have he : (s.size : Int) - (tq : Int) = (d : Int) := by omega
  have he2 : (tq : Int) + (m : Int) = (j : Int) := by omega
  have w1 : IntKind.i64.wrap (d : Int) = d := IntWalk.i64_in _ (by omega)
  have w2 : IntKind.u64.wrap (d : Int) = d := by rw [IntKind.wrap_u64]; omega
  have w3 : IntKind.i64.wrap (m : Int) = m := IntWalk.i64_in _ (by omega); have w4 : IntKind.i64.wrap (j : Int) = j := IntWalk.i64_in _ (by omega); have d1 : decide (d < m) = false := dF (by omega); have d2 : decide ((d : Int) < (m : Int)) = false := dF (by omega)
  have hj1 : tq ≤ j := by omega
  have hj2 : j ≤ s.size := by omega
  rw [← hj]; obtain ⟨T, hT⟩ : ∃ T, s.extract tq j = T := ⟨_, rfl⟩; rw [hT]; clear hn hi hd hj h1; go_enter Tryz.func76, Tryz.ntmps76; go_wp2_with fail; refine (HG.out _).mono ?_; rintro e w2 ⟨rfl, hb2⟩; go_wp2_with fail
  go_ret2
  exact ⟨.inr ⟨T, j, rfl, rfl⟩, hb2⟩
theorem Tryz.infoNum : (Tryz.prog.info? 3).map (fun i => (i.zero, i.size, i.bytes)) = some (some (.int .i64 0), 1, 8) := by kernel_rfl
theorem own1_block {w : World} {base e n g : Nat} {v : Value} {xs : List Value} (h : w.ownsRow base e 1 v n xs) (hv : v.ownBlock = some g) : base ≤ g ∧ ∃ cur fz, w.heap[g]? = some (.cells cur e fz) := by
 rcases h.2 with ⟨rfl, _⟩ | ⟨g', cap, cur, rfl, hg', hb, _⟩
 ·simp [Value.ownBlock] at hv
 ·simp [Value.ownBlock] at hv
  subst hv; exact ⟨hg', _, _, hb⟩
theorem own1_parts {w : World} {b1 b2 e1 e2 n1 n2 : Nat} {v1 v2 : Value} {xs1 xs2 : List Value} (h1 : w.ownsRow b1 e1 1 v1 n1 xs1) (h2 : w.ownsRow b2 e2 1 v2 n2 xs2) (he : e1 ≠ e2) : v1.ownBlock = none ∨ v1.ownBlock ≠ v2.ownBlock := by
 cases hv1 : v1.ownBlock with
 | none => exact .inl rfl
 | some g =>
  refine .inr fun h => he ?_; obtain ⟨_, c1, f1, hb1⟩ := own1_block h1 hv1; obtain ⟨_, c2, f2, hb2⟩ := own1_block h2 h.symm; rw [hb1] at hb2; injection hb2 with e; injection e
theorem own1_set {w : World} {base e n q o : Nat} {v : Value} {xs : List Value} {u : Value} (h : w.ownsRow base e 1 v n xs) (hq : q < base) : (w.setCell ⟨q, o, none⟩ u).ownsRow base e 1 v n xs := by
 refine h.kept (row := some q) ⟨rfl, rfl, rfl, by simp, fun i hi hr => Below.heap_setCell w ⟨q, o, none⟩ u i (fun e => hr (by simp [e]))⟩ ?_
 cases hv : v.ownBlock with
 | none => exact .inl rfl
 | some x => exact .inr (by have := (own1_block h hv).1; simp; omega)
structure NRows (t : TypeId) (q : Nat) (F L R : Int) (H : ByteArray) (A : Option Addr) (k ca : Nat) (C : Option Addr) (j cb : Nat) (ks : List Int) (ss : List ByteArray) (w : World) : Prop where
 box : NBx t q F L R H A k ca C j cb w
 kown : w.ownsRow (q + 1) 3 1 (.slice A k ca) k (numCells ks)
 sown : w.ownsRow (q + 1) 9 1 (.slice C j cb) j (L5.strCells ss)
section
variable {t : TypeId} {q : Nat} {F L R : Int} {H : ByteArray} {A : Option Addr} {k ca : Nat} {C : Option Addr} {j cb : Nat} {ks : List Int} {ss : List ByteArray} {w w' w3 : World}
theorem NRows.below (h : NRows t q F L R H A k ca C j cb ks ss w) (b : Below w.heap.size w w') : NRows t q F L R H A k ca C j cb ks ss w' := ⟨h.box.below b, L5.own_below h.kown b, L5.own_below h.sown b⟩
theorem NRows.ofNew (hw : w.heap.size = q) : NRows t q F L R H none 0 0 none 0 0 [] [] (nbox t F L R H none 0 0 none 0 0 w) := by
 subst hw; exact ⟨nbox_new _ _ _ _ _ _ _ _ _ _ _ _, World.ownsRow_nil _ _ _ _, World.ownsRow_nil _ _ _ _⟩
theorem NRows.klen (h : NRows t q F L R H A k ca C j cb ks ss w) : ks.length = k := by
 have := h.kown.1; rw [numCells_length] at this; omega
theorem NRows.slen (h : NRows t q F L R H A k ca C j cb ks ss w) : ss.length = j := by
 have := h.sown.1; rw [L5.strCells_length] at this; omega
theorem NRows.rows (h : NRows t q F L R H A k ca C j cb ks ss w) : Rows2 w A k ca C j cb ks ss :=
 ⟨liesN_own h.kown h.klen.symm, L5.lies_own h.sown h.slen.symm, h.klen, h.slen, L5.own_cap h.kown, L5.own_cap h.sown⟩
theorem NRows.kne (h : NRows t q F L R H A k ca C j cb ks ss w) : ∀ a, A = some a → q < a.block := fun a ha => by
 subst ha; exact (own1_block h.kown (g := a.block) rfl).1
theorem NRows.sne (h : NRows t q F L R H A k ca C j cb ks ss w) : ∀ a, C = some a → q < a.block := fun a ha => by
 subst ha; exact (own1_block h.sown (g := a.block) rfl).1
theorem NRows.growK (h : NRows t q F L R H A k ca C j cb ks ss w) {o : Obj} (hg : (w.alloc o).grownBy w3 (Value.slice A k ca).ownBlock) : NBx t q F L R H A k ca C j cb w3 ∧ w3.ownsRow (q + 1) 9 1 (.slice C j cb) j (L5.strCells ss) ∧ Below q w w3 := by
 have hb := L5.below_alloc w o; have hq := h.box.lt; have h2 := h.below hb; refine ⟨(hg.block q h2.box.lt (fun e => ?_)).trans h2.box, h2.sown.kept hg (own1_parts h2.sown h2.kown (by decide)), (hb.mono (by omega)).trans (L5.own_apart h2.kown hg (by omega) (by have := h2.box.lt; omega))⟩; have := (own1_block h.kown e.symm).1; omega
theorem NRows.growS (h : NRows t q F L R H A k ca C j cb ks ss w) {o : Obj} (hg : (w.alloc o).grownBy w3 (Value.slice C j cb).ownBlock) : NBx t q F L R H A k ca C j cb w3 ∧ w3.ownsRow (q + 1) 3 1 (.slice A k ca) k (numCells ks) ∧ Below q w w3 := by
 have hb := L5.below_alloc w o; have hq := h.box.lt; have h2 := h.below hb; refine ⟨(hg.block q h2.box.lt (fun e => ?_)).trans h2.box, h2.kown.kept hg (own1_parts h2.kown h2.sown (by decide)), (hb.mono (by omega)).trans (L5.own_apart h2.sown hg (by omega) (by have := h2.box.lt; omega))⟩; have := (own1_block h.sown e.symm).1; omega
theorem NRows.pushK (h : NRows t q F L R H A k ca C j cb ks ss w) {o : Obj} {g cap : Nat} {x : Int} (hg : (w.alloc o).grownBy w3 (Value.slice A k ca).ownBlock) (ho : w3.ownsRow (q + 1) 3 1 (.slice (some ⟨g, 0, none⟩) (k + 1) cap) (k + 1) (numCells ks ++ [.int .i64 x])) :
  NRows t q F L R H (some ⟨g, 0, none⟩) (k + 1) cap C j cb (ks ++ [x]) ss (w3.setCell ⟨q, 4, none⟩ (.slice (some ⟨g, 0, none⟩) (k + 1) cap)) ∧ Below q w (w3.setCell ⟨q, 4, none⟩ (.slice (some ⟨g, 0, none⟩) (k + 1) cap)) := by
 obtain ⟨h1, h2, h3⟩ := h.growK hg; refine ⟨⟨h1.set4 _ _ _, ?_, own1_set h2 (Nat.lt_succ_self _)⟩, h3.setCell (p := ⟨q, 4, none⟩) (Nat.le_refl _) _⟩; rw [numCells_snoc]; exact own1_set ho (Nat.lt_succ_self _)
theorem NRows.pushS (h : NRows t q F L R H A k ca C j cb ks ss w) {o : Obj} {g cap : Nat} {x : ByteArray} (hg : (w.alloc o).grownBy w3 (Value.slice C j cb).ownBlock) (ho : w3.ownsRow (q + 1) 9 1 (.slice (some ⟨g, 0, none⟩) (j + 1) cap) (j + 1) (L5.strCells ss ++ [.string x])) :
  NRows t q F L R H A k ca (some ⟨g, 0, none⟩) (j + 1) cap ks (ss ++ [x]) (w3.setCell ⟨q, 5, none⟩ (.slice (some ⟨g, 0, none⟩) (j + 1) cap)) ∧ Below q w (w3.setCell ⟨q, 5, none⟩ (.slice (some ⟨g, 0, none⟩) (j + 1) cap)) := by
 obtain ⟨h1, h2, h3⟩ := h.growS hg; refine ⟨⟨h1.set5 _ _ _, own1_set h2 (Nat.lt_succ_self _), ?_⟩, h3.setCell (p := ⟨q, 5, none⟩) (Nat.le_refl _) _⟩; rw [L5.strCells_snoc]; exact own1_set ho (Nat.lt_succ_self _)
theorem Rows2.stored {g : Nat} (h : Rows2 w A k ca C j cb ks ss) (hA : ∀ a, A = some a → a.block ≠ g) (hC : ∀ a, C = some a → a.block ≠ g) (F' L' R' : Int) (H' : ByteArray) (A' : Option Addr) (k' ca' : Nat) (C' : Option Addr) (j' cb' : Nat) : Rows2 (setN w g F' L' R' H' A' k' ca' C' j' cb') A k ca C j cb ks ss :=
 ⟨by rw [setN_size]; exact h.kids.apart hA (fun q hq => setN_other hq _ _ _ _ _ _ _ _ _ _), by rw [setN_size]; exact lies_apart h.seps hC (fun q hq => setN_other hq _ _ _ _ _ _ _ _ _ _), h.nk, h.nm, h.ck, h.cm⟩
end
theorem take_same {α : Type} {l m : List α} {k : Nat} {s t : α} (hs : l[k]? = some s) (ht : m[k]? = some t) (h : l.take k = m.take k) (e : s = t) : l.take (k + 1) = m.take (k + 1) := by
 subst e; rw [List.take_add_one, List.take_add_one, hs, ht, h]
theorem toList_inj {a b : ByteArray} : (a.toList == b.toList) = true ↔ a = b := by
 rw [Lib.toList_data, Lib.toList_data, beq_iff_eq]; exact ⟨fun h => ByteArray.ext (Array.toList_inj.1 h), fun h => by rw [h]⟩
theorem text_yes {a b : ByteArray} (h : a = b) : (a.toList == b.toList) = true := toList_inj.2 h
theorem text_no {a b : ByteArray} (h : a ≠ b) : (a.toList == b.toList) = false := by
 cases e : (a.toList == b.toList) with
 | false => rfl
 | true => exact absurd (toList_inj.1 e) h
instance : DecidableEq Inn := fun a b => decidable_of_iff (a.self = b.self ∧ a.level = b.level ∧ a.right = b.right ∧ a.high = b.high ∧ a.kids = b.kids ∧ a.seps = b.seps) (by
 cases a; cases b; simp)
theorem eqN_any (A C : Option Addr) (l m : List Int) (ca cb : Nat) (w : World) (ha : LiesN w w.heap.size A l) (hb : LiesN w w.heap.size C m) (hl : l.length ≤ 1000000) (hm : m.length ≤ 1000000) :
  Calls Tryz.prog 58 #[.slice A l.length ca, .slice C m.length cb] w fun e w' => e = .returned (.bool (decide (l = m))) ∧ Below w.heap.size w w' := by
 by_cases hlen : l.length = m.length
 ·have HA := zj ha
  have HB := zj hb; obtain ⟨n, hn⟩ : ∃ n, n = l.length := ⟨_, rfl⟩; have HN := zj hn; have HM : Hid (n = m.length) := zj (by omega); obtain ⟨r, hr⟩ : ∃ r, decide (l = m) = r := ⟨_, rfl⟩; have HR := zj hr; rw [hr, ← hlen, ← hn]; rw [← hn] at hl; clear ha hb hn hlen hm hr
  have dn : ((n : Int) != (n : Int)) = false := by simp
  go_enter Tryz.func58, Tryz.ntmps58; go_wp2_with fail
  go_loopw [13] (fun iv wr => ∃ k : Nat, k ≤ n ∧ iv = .int .i64 k ∧ Hid (l.take k = m.take k) ∧ Below w.heap.size w wr) (fun iv _ => n - (intOf iv).toNat)
  case atStart => exact ⟨0, by omega, rfl, zj (by simp), Below.refl _ _⟩
  case round =>
   obtain ⟨k, hk, rfl, HT, hbw⟩ := hrel; by_cases hlt : k < n
   ·obtain ⟨s, hc⟩ : ∃ c, l[k]? = some c := ⟨_, List.getElem?_eq_getElem (by have := HN.out; omega)⟩
    obtain ⟨t, hd⟩ : ∃ c, m[k]? = some c := ⟨_, List.getElem?_eq_getElem (by have := HM.out; omega)⟩; obtain ⟨a, rfl, hab, x0⟩ := (HA.out.below hbw) k s hc; obtain ⟨b, rfl, hbb, y0⟩ := (HB.out.below hbw) k t hd
    have h0 : (0 : Int) ≤ k := by omega
    have hkn : (k : Int) < n := by omega
    by_cases hst : s = t
    ·have HST := zj (take_same hc hd HT.out hst)
     have hz : (s != t) = false := by simp [hst]
     clear hc hd hab hbb hst; go_wp2_with fail
     go_quiet (fail)
     go_wp2_with fail
     go_roundw
     case rel => exact ⟨k + 1, by omega, by simp, HST, L5.below_drewN hbw _⟩
     case measure => simp [intOf]; omega
    ·have HX : Hid (r = false) := zj (by
      rw [← HR.out]; refine dF fun h => hst ?_; subst h; rw [hc] at hd
      exact Option.some.inj hd)
     have hz : (s != t) = true := by simp [hst]
     clear hc hd hab hbb hst; go_wp2_with fail
     go_quiet (fail)
     go_wp2_with fail; go_ret; exact ⟨by rw [HX.out]; rfl, L5.below_drewN hbw _⟩
   ·have HX : Hid (r = true) := zj (by
     rw [← HR.out]; refine dT ?_; have h := HT.out
     rwa [List.take_of_length_le (by have := HN.out; omega), List.take_of_length_le (by have := HM.out; omega)] at h)
    have hlt' : ¬ (k : Int) < n := by omega
    have hlt2 : decide ((k : Int) < (n : Int)) = false := dF hlt'; clear hk; go_wp2_with fail; go_ret; exact ⟨by rw [HX.out]; rfl, hbw⟩
 ·rw [dF (fun h => hlen (by rw [h]))]
  have dn : ((l.length : Int) != (m.length : Int)) = true := by simp; omega
  generalize l.length = n1 at *; generalize m.length = n2 at *; clear ha hb hlen; go_enter Tryz.func58, Tryz.ntmps58; go_wp2_with fail; go_ret; exact ⟨rfl, Below.refl _ _⟩
theorem eqS_any (A C : Option Addr) (l m : List ByteArray) (ca cb : Nat) (w : World) (ha : L5.Lies w w.heap.size A l) (hb : L5.Lies w w.heap.size C m) (hl : l.length ≤ 1000000) (hm : m.length ≤ 1000000) :
  Calls Tryz.prog 59 #[.slice A l.length ca, .slice C m.length cb] w fun e w' => e = .returned (.bool (decide (l = m))) ∧ Below w.heap.size w w' := by
 by_cases hlen : l.length = m.length
 ·have HA := zj ha
  have HB := zj hb; obtain ⟨n, hn⟩ : ∃ n, n = l.length := ⟨_, rfl⟩; have HN := zj hn; have HM : Hid (n = m.length) := zj (by omega); obtain ⟨r, hr⟩ : ∃ r, decide (l = m) = r := ⟨_, rfl⟩; have HR := zj hr; rw [hr, ← hlen, ← hn]; rw [← hn] at hl; clear ha hb hn hlen hm hr
  have dn : ((n : Int) != (n : Int)) = false := by simp
  go_enter Tryz.func59, Tryz.ntmps59; go_wp2_with fail
  go_loopw [13] (fun iv wr => ∃ k : Nat, k ≤ n ∧ iv = .int .i64 k ∧ Hid (l.take k = m.take k) ∧ Below w.heap.size w wr) (fun iv _ => n - (intOf iv).toNat)
  case atStart => exact ⟨0, by omega, rfl, zj (by simp), Below.refl _ _⟩
  case round =>
   obtain ⟨k, hk, rfl, HT, hbw⟩ := hrel; by_cases hlt : k < n
   ·obtain ⟨s, hc⟩ : ∃ c, l[k]? = some c := ⟨_, List.getElem?_eq_getElem (by have := HN.out; omega)⟩
    obtain ⟨t, hd⟩ : ∃ c, m[k]? = some c := ⟨_, List.getElem?_eq_getElem (by have := HM.out; omega)⟩; obtain ⟨a, rfl, hab, x0⟩ := (HA.out.below hbw) k s hc; obtain ⟨b, rfl, hbb, y0⟩ := (HB.out.below hbw) k t hd
    have h0 : (0 : Int) ≤ k := by omega
    have hkn : (k : Int) < n := by omega
    by_cases hst : s = t
    ·have HST := zj (take_same hc hd HT.out hst)
     have hz := text_yes hst
     have hz2 : (s.toList != t.toList) = false := by simp only [bne, hz]; rfl
     clear hc hd hab hbb hst; go_wp2_with fail
     go_quiet (fail)
     go_wp2_with fail
     go_roundw
     case rel => exact ⟨k + 1, by omega, by simp, HST, L5.below_drewN hbw _⟩
     case measure => simp [intOf]; omega
    ·have HX : Hid (r = false) := zj (by
      rw [← HR.out]; refine dF fun h => hst ?_; subst h; rw [hc] at hd
      exact Option.some.inj hd)
     have hz := text_no hst
     have hz2 : (s.toList != t.toList) = true := by simp only [bne, hz]; rfl
     clear hc hd hab hbb hst; go_wp2_with fail
     go_quiet (fail)
     go_wp2_with fail; go_ret; exact ⟨by rw [HX.out]; rfl, L5.below_drewN hbw _⟩
   ·have HX : Hid (r = true) := zj (by
     rw [← HR.out]; refine dT ?_; have h := HT.out
     rwa [List.take_of_length_le (by have := HN.out; omega), List.take_of_length_le (by have := HM.out; omega)] at h)
    have hlt' : ¬ (k : Int) < n := by omega
    have hlt2 : decide ((k : Int) < (n : Int)) = false := dF hlt'; clear hk; go_wp2_with fail; go_ret; exact ⟨by rw [HX.out]; rfl, hbw⟩
 ·rw [dF (fun h => hlen (by rw [h]))]
  have dn : ((l.length : Int) != (m.length : Int)) = true := by simp; omega
  generalize l.length = n1 at *; generalize m.length = n2 at *; clear ha hb hlen; go_enter Tryz.func59, Tryz.ntmps59; go_wp2_with fail; go_ret; exact ⟨rfl, Below.refl _ _⟩
theorem ints_any (A C : Option Addr) (l m : List Int) (ca cb : Nat) (w : World) (ha : LiesN w w.heap.size A l) (hb : LiesN w w.heap.size C m) (hl : l.length ≤ 1000000) (hm : m.length ≤ 1000000) :
  Calls Tryz.prog 14 #[.slice A l.length ca, .slice C m.length cb] w fun e w' => e = .returned (.bool (decide (l = m))) ∧ Below w.heap.size w w' := by
 by_cases hlen : l.length = m.length
 ·have HA := zj ha
  have HB := zj hb; obtain ⟨n, hn⟩ : ∃ n, n = l.length := ⟨_, rfl⟩; have HN := zj hn; have HM : Hid (n = m.length) := zj (by omega); obtain ⟨r, hr⟩ : ∃ r, decide (l = m) = r := ⟨_, rfl⟩; have HR := zj hr; rw [hr, ← hlen, ← hn]; rw [← hn] at hl; clear ha hb hn hlen hm hr
  have dn : ((n : Int) != (n : Int)) = false := by simp
  go_enter Tryz.func14, Tryz.ntmps14; go_wp2_with fail
  go_loopw [5] (fun iv wr => ∃ k : Nat, k ≤ n ∧ iv = .int .i64 k ∧ Hid (l.take k = m.take k) ∧ Below w.heap.size w wr) (fun iv _ => n - (intOf iv).toNat)
  case atStart => exact ⟨0, by omega, rfl, zj (by simp), Below.refl _ _⟩
  case round =>
   obtain ⟨k, hk, rfl, HT, hbw⟩ := hrel; by_cases hlt : k < n
   ·obtain ⟨s, hc⟩ : ∃ c, l[k]? = some c := ⟨_, List.getElem?_eq_getElem (by have := HN.out; omega)⟩
    obtain ⟨t, hd⟩ : ∃ c, m[k]? = some c := ⟨_, List.getElem?_eq_getElem (by have := HM.out; omega)⟩; obtain ⟨a, rfl, hab, x0⟩ := (HA.out.below hbw) k s hc; obtain ⟨b, rfl, hbb, y0⟩ := (HB.out.below hbw) k t hd
    have h0 : (0 : Int) ≤ k := by omega
    have hkn : (k : Int) < n := by omega
    by_cases hst : s = t
    ·have HST := zj (take_same hc hd HT.out hst)
     have hz : (s != t) = false := by simp [hst]
     clear hc hd hab hbb hst; go_wp2_with fail
     go_quiet (fail)
     go_wp2_with fail
     go_roundw
     case rel => exact ⟨k + 1, by omega, by simp, HST, L5.below_drewN hbw _⟩
     case measure => simp [intOf]; omega
    ·have HX : Hid (r = false) := zj (by
      rw [← HR.out]; refine dF fun h => hst ?_; subst h; rw [hc] at hd
      exact Option.some.inj hd)
     have hz : (s != t) = true := by simp [hst]
     clear hc hd hab hbb hst; go_wp2_with fail
     go_quiet (fail)
     go_wp2_with fail; go_ret; exact ⟨by rw [HX.out]; rfl, L5.below_drewN hbw _⟩
   ·have HX : Hid (r = true) := zj (by
     rw [← HR.out]; refine dT ?_; have h := HT.out
     rwa [List.take_of_length_le (by have := HN.out; omega), List.take_of_length_le (by have := HM.out; omega)] at h)
    have hlt' : ¬ (k : Int) < n := by omega
    have hlt2 : decide ((k : Int) < (n : Int)) = false := dF hlt'; clear hk; go_wp2_with fail; go_ret; exact ⟨by rw [HX.out]; rfl, hbw⟩
 ·rw [dF (fun h => hlen (by rw [h]))]
  have dn : ((l.length : Int) != (m.length : Int)) = true := by simp; omega
  generalize l.length = n1 at *; generalize m.length = n2 at *; clear ha hb hlen; go_enter Tryz.func14, Tryz.ntmps14; go_wp2_with fail; go_ret; exact ⟨rfl, Below.refl _ _⟩
theorem words_any (A C : Option Addr) (l m : List ByteArray) (ca cb : Nat) (w : World) (ha : L5.Lies w w.heap.size A l) (hb : L5.Lies w w.heap.size C m) (hl : l.length ≤ 1000000) (hm : m.length ≤ 1000000) :
  Calls Tryz.prog 73 #[.slice A l.length ca, .slice C m.length cb] w fun e w' => e = .returned (.bool (decide (l = m))) ∧ Below w.heap.size w w' := by
 by_cases hlen : l.length = m.length
 ·have HA := zj ha
  have HB := zj hb; obtain ⟨n, hn⟩ : ∃ n, n = l.length := ⟨_, rfl⟩; have HN := zj hn; have HM : Hid (n = m.length) := zj (by omega); obtain ⟨r, hr⟩ : ∃ r, decide (l = m) = r := ⟨_, rfl⟩; have HR := zj hr; rw [hr, ← hlen, ← hn]; rw [← hn] at hl; clear ha hb hn hlen hm hr
  have dn : ((n : Int) != (n : Int)) = false := by simp
  go_enter Tryz.func73, Tryz.ntmps73; go_wp2_with fail
  go_loopw [5] (fun iv wr => ∃ k : Nat, k ≤ n ∧ iv = .int .i64 k ∧ Hid (l.take k = m.take k) ∧ Below w.heap.size w wr) (fun iv _ => n - (intOf iv).toNat)
  case atStart => exact ⟨0, by omega, rfl, zj (by simp), Below.refl _ _⟩
  case round =>
   obtain ⟨k, hk, rfl, HT, hbw⟩ := hrel; by_cases hlt : k < n
   ·obtain ⟨s, hc⟩ : ∃ c, l[k]? = some c := ⟨_, List.getElem?_eq_getElem (by have := HN.out; omega)⟩
    obtain ⟨t, hd⟩ : ∃ c, m[k]? = some c := ⟨_, List.getElem?_eq_getElem (by have := HM.out; omega)⟩; obtain ⟨a, rfl, hab, x0⟩ := (HA.out.below hbw) k s hc; obtain ⟨b, rfl, hbb, y0⟩ := (HB.out.below hbw) k t hd
    have h0 : (0 : Int) ≤ k := by omega
    have hkn : (k : Int) < n := by omega
    by_cases hst : s = t
    ·have HST := zj (take_same hc hd HT.out hst)
     have hz := text_yes hst
     have hz2 : (s.toList != t.toList) = false := by simp only [bne, hz]; rfl
     clear hc hd hab hbb hst; go_wp2_with fail
     go_quiet (fail)
     go_wp2_with fail
     go_roundw
     case rel => exact ⟨k + 1, by omega, by simp, HST, L5.below_drewN hbw _⟩
     case measure => simp [intOf]; omega
    ·have HX : Hid (r = false) := zj (by
      rw [← HR.out]; refine dF fun h => hst ?_; subst h; rw [hc] at hd
      exact Option.some.inj hd)
     have hz := text_no hst
     have hz2 : (s.toList != t.toList) = true := by simp only [bne, hz]; rfl
     clear hc hd hab hbb hst; go_wp2_with fail
     go_quiet (fail)
     go_wp2_with fail; go_ret; exact ⟨by rw [HX.out]; rfl, L5.below_drewN hbw _⟩
   ·have HX : Hid (r = true) := zj (by
     rw [← HR.out]; refine dT ?_; have h := HT.out
     rwa [List.take_of_length_le (by have := HN.out; omega), List.take_of_length_le (by have := HM.out; omega)] at h)
    have hlt' : ¬ (k : Int) < n := by omega
    have hlt2 : decide ((k : Int) < (n : Int)) = false := dF hlt'; clear hk; go_wp2_with fail; go_ret; exact ⟨by rw [HX.out]; rfl, hbw⟩
 ·rw [dF (fun h => hlen (by rw [h]))]
  have dn : ((l.length : Int) != (m.length : Int)) = true := by simp; omega
  generalize l.length = n1 at *; generalize m.length = n2 at *; clear ha hb hlen; go_enter Tryz.func73, Tryz.ntmps73; go_wp2_with fail; go_ret; exact ⟨rfl, Below.refl _ _⟩
theorem same_any_boxes (F L R : Int) (H : ByteArray) (A : Option Addr) (n ca : Nat) (C : Option Addr) (m cb : Nat) (F' L' R' : Int) (H' : ByteArray) (A' : Option Addr) (n' ca' : Nat) (C' : Option Addr) (m' cb' : Nat) (w : World) :
  NBx 29 w.heap.size F L R H A n ca C m cb (nbox 29 F' L' R' H' A' n' ca' C' m' cb' (nbox 29 F L R H A n ca C m cb w)) ∧ NBx 29 (w.heap.size + 1) F' L' R' H' A' n' ca' C' m' cb' (nbox 29 F' L' R' H' A' n' ca' C' m' cb' (nbox 29 F L R H A n ca C m cb w)) ∧ Below w.heap.size w (nbox 29 F' L' R' H' A' n' ca' C' m' cb' (nbox 29 F L R H A n ca C m cb w)) := by
 have h2 := nbox_new 29 F' L' R' H' A' n' ca' C' m' cb' (nbox 29 F L R H A n ca C m cb w); rw [nbox_size] at h2; exact ⟨(nbox_new 29 F L R H A n ca C m cb w).below (nbox_below _ _ _ _ _ _ _ _ _ _ _ _), h2, (nbox_below _ _ _ _ _ _ _ _ _ _ _ _).trans' (nbox_below _ _ _ _ _ _ _ _ _ _ _ _)⟩
theorem same_any (F L R : Int) (H : ByteArray) (A : Option Addr) (n ca : Nat) (C : Option Addr) (m cb : Nat) (ks : List Int) (ss : List ByteArray) (F' L' R' : Int) (H' : ByteArray) (A' : Option Addr) (n' ca' : Nat) (C' : Option Addr) (m' cb' : Nat) (ks' : List Int) (ss' : List ByteArray) (w : World) (h1 : Rows2 w A n ca C m cb ks ss) (h2 : Rows2 w A' n' ca' C' m' cb' ks' ss') (hn : n ≤ 1000000) (hm : m ≤ 1000000) (hn' : n' ≤ 1000000) (hm' : m' ≤ 1000000) :
  Calls Tryz.prog 30 #[nv F L R H A n ca C m cb, nv F' L' R' H' A' n' ca' C' m' cb'] w fun e w' => e = .returned (.bool (decide ((⟨F, L, R, H, ks, ss⟩ : Inn) = ⟨F', L', R', H', ks', ss'⟩))) ∧ Below w.heap.size w w' := by
 obtain ⟨B1, B2, hb2⟩ := same_any_boxes F L R H A n ca C m cb F' L' R' H' A' n' ca' C' m' cb' w; have HE := zj (fun W (g1 : Rows2 W A n ca C m cb ks ss) (g2 : Rows2 W A' n' ca' C' m' cb' ks' ss') => eqN_any A A' ks ks' ca ca' W g1.kids g2.kids (by rw [g1.nk]; omega) (by rw [g2.nk]; omega)); have HF := zj (fun W (g1 : Rows2 W A n ca C m cb ks ss) (g2 : Rows2 W A' n' ca' C' m' cb' ks' ss') => eqS_any C C' ss ss' cb cb' W g1.seps g2.seps (by rw [g1.nm]; omega) (by rw [g2.nm]; omega)); rw [h1.nk, h2.nk] at HE; rw [h1.nm, h2.nm] at HF; have H1 := zj (h1.on hb2); have H2 := zj (h2.on hb2); have HB := zj hb2; have HX1 := zj B1; have HX2 := zj B2; clear h1 h2 hb2 B1 B2 hn hm hn' hm'; obtain ⟨x0, x1, x2, x3, x4, x5⟩ := HX1.out.cells; obtain ⟨y0, y1, y2, y3, y4, y5⟩ := HX2.out.cells; by_cases c0 : F = F'; rotate_left
 ·rw [dF (fun h => c0 (congrArg Inn.self h))]
  have z0 : (F == F') = false := beq_eq_false_iff_ne.2 c0; clear c0 HE HF H1 H2; go_enter Tryz.func30, Tryz.ntmps30; go_wp2_with fail; go_ret; exact ⟨rfl, HB.out⟩
 subst c0; by_cases c1 : L = L'; rotate_left
 ·rw [dF (fun h => c1 (congrArg Inn.level h))]
  have z1 : (L == L') = false := beq_eq_false_iff_ne.2 c1; clear c1 HE HF H1 H2; go_enter Tryz.func30, Tryz.ntmps30; go_wp2_with fail; go_ret; exact ⟨rfl, HB.out⟩
 subst c1; by_cases c2 : R = R'; rotate_left
 ·rw [dF (fun h => c2 (congrArg Inn.right h))]
  have z2 : (R == R') = false := beq_eq_false_iff_ne.2 c2; clear c2 HE HF H1 H2; go_enter Tryz.func30, Tryz.ntmps30; go_wp2_with fail; go_ret; exact ⟨rfl, HB.out⟩
 subst c2; by_cases c3 : H = H'; rotate_left
 ·rw [dF (fun h => c3 (congrArg Inn.high h))]
  have z3 := text_no c3; clear c3 HE HF H1 H2; go_enter Tryz.func30, Tryz.ntmps30; go_wp2_with fail; go_ret; exact ⟨rfl, HB.out⟩
 subst c3; have zh := text_yes (rfl : H = H); by_cases c4 : ks = ks'; rotate_left
 ·rw [dF (fun h => c4 (congrArg Inn.kids h))]
  rw [dF c4] at HE; clear c4 HF; go_enter Tryz.func30, Tryz.ntmps30; go_wp2_with fail; refine (HE.out _ H1.out H2.out).mono ?_; rintro e w3 ⟨rfl, hb3⟩; go_wp2_with fail; go_ret; exact ⟨rfl, HB.out.trans' hb3⟩
 rw [dT c4] at HE
 have e : decide (ss = ss') = decide ((⟨F, L, R, H, ks, ss⟩ : Inn) = ⟨F, L, R, H, ks', ss'⟩) := by
  by_cases hq : ss = ss'
  ·rw [dT hq, dT (by rw [c4, hq])]
  ·rw [dF hq, dF (fun h => hq (congrArg Inn.seps h))]
 rw [e] at HF; generalize decide ((⟨F, L, R, H, ks, ss⟩ : Inn) = ⟨F, L, R, H, ks', ss'⟩) = q at *; clear e c4; go_enter Tryz.func30, Tryz.ntmps30; go_wp2_with fail; refine (HE.out _ H1.out H2.out).mono ?_; rintro e w3 ⟨rfl, hb3⟩; clear x0 x1 x2 x3 x4 x5 y0 y1 y2 y3 y4 y5; obtain ⟨x0, x1, x2, x3, x4, x5⟩ := (HX1.out.below hb3).cells; obtain ⟨y0, y1, y2, y3, y4, y5⟩ := (HX2.out.below hb3).cells; go_wp2_with fail; refine (HF.out _ (H1.out.on hb3) (H2.out.on hb3)).mono ?_; rintro e w4 ⟨rfl, hb4⟩; go_wp2_with fail; go_ret; exact ⟨rfl, (HB.out.trans' hb3).trans' hb4⟩
theorem rsame_any_boxes (F L R : Int) (H : ByteArray) (A : Option Addr) (n ca : Nat) (C : Option Addr) (m cb : Nat) (F' L' R' : Int) (H' : ByteArray) (A' : Option Addr) (n' ca' : Nat) (C' : Option Addr) (m' cb' : Nat) (w : World) :
  NBx 42 w.heap.size F L R H A n ca C m cb (nbox 42 F' L' R' H' A' n' ca' C' m' cb' (nbox 42 F L R H A n ca C m cb w)) ∧ NBx 42 (w.heap.size + 1) F' L' R' H' A' n' ca' C' m' cb' (nbox 42 F' L' R' H' A' n' ca' C' m' cb' (nbox 42 F L R H A n ca C m cb w)) ∧ Below w.heap.size w (nbox 42 F' L' R' H' A' n' ca' C' m' cb' (nbox 42 F L R H A n ca C m cb w)) := by
 have h2 := nbox_new 42 F' L' R' H' A' n' ca' C' m' cb' (nbox 42 F L R H A n ca C m cb w); rw [nbox_size] at h2; exact ⟨(nbox_new 42 F L R H A n ca C m cb w).below (nbox_below _ _ _ _ _ _ _ _ _ _ _ _), h2, (nbox_below _ _ _ _ _ _ _ _ _ _ _ _).trans' (nbox_below _ _ _ _ _ _ _ _ _ _ _ _)⟩
theorem rsame_any (F L R : Int) (H : ByteArray) (A : Option Addr) (n ca : Nat) (C : Option Addr) (m cb : Nat) (ks : List Int) (ss : List ByteArray) (F' L' R' : Int) (H' : ByteArray) (A' : Option Addr) (n' ca' : Nat) (C' : Option Addr) (m' cb' : Nat) (ks' : List Int) (ss' : List ByteArray) (w : World) (h1 : Rows2 w A n ca C m cb ks ss) (h2 : Rows2 w A' n' ca' C' m' cb' ks' ss') (hn : n ≤ 1000000) (hm : m ≤ 1000000) (hn' : n' ≤ 1000000) (hm' : m' ≤ 1000000) :
  Calls Tryz.prog 40 #[nv F L R H A n ca C m cb, nv F' L' R' H' A' n' ca' C' m' cb'] w fun e w' => e = .returned (.bool (decide ((⟨F, L, R, H, ks, ss⟩ : Inn) = ⟨F', L', R', H', ks', ss'⟩))) ∧ Below w.heap.size w w' := by
 obtain ⟨B1, B2, hb2⟩ := rsame_any_boxes F L R H A n ca C m cb F' L' R' H' A' n' ca' C' m' cb' w; have HE := zj (fun W (g1 : Rows2 W A n ca C m cb ks ss) (g2 : Rows2 W A' n' ca' C' m' cb' ks' ss') => ints_any A A' ks ks' ca ca' W g1.kids g2.kids (by rw [g1.nk]; omega) (by rw [g2.nk]; omega)); have HF := zj (fun W (g1 : Rows2 W A n ca C m cb ks ss) (g2 : Rows2 W A' n' ca' C' m' cb' ks' ss') => words_any C C' ss ss' cb cb' W g1.seps g2.seps (by rw [g1.nm]; omega) (by rw [g2.nm]; omega)); rw [h1.nk, h2.nk] at HE; rw [h1.nm, h2.nm] at HF; have H1 := zj (h1.on hb2); have H2 := zj (h2.on hb2); have HB := zj hb2; have HX1 := zj B1; have HX2 := zj B2; clear h1 h2 hb2 B1 B2 hn hm hn' hm'; obtain ⟨x0, x1, x2, x3, x4, x5⟩ := HX1.out.cells; obtain ⟨y0, y1, y2, y3, y4, y5⟩ := HX2.out.cells; by_cases c0 : F = F'; rotate_left
 ·rw [dF (fun h => c0 (congrArg Inn.self h))]
  have z0 : (F == F') = false := beq_eq_false_iff_ne.2 c0; clear c0 HE HF H1 H2; go_enter Tryz.func40, Tryz.ntmps40; go_wp2_with fail; go_ret; exact ⟨rfl, HB.out⟩
 subst c0; by_cases c1 : L = L'; rotate_left
 ·rw [dF (fun h => c1 (congrArg Inn.level h))]
  have z1 : (L == L') = false := beq_eq_false_iff_ne.2 c1; clear c1 HE HF H1 H2; go_enter Tryz.func40, Tryz.ntmps40; go_wp2_with fail; go_ret; exact ⟨rfl, HB.out⟩
 subst c1; by_cases c2 : R = R'; rotate_left
 ·rw [dF (fun h => c2 (congrArg Inn.right h))]
  have z2 : (R == R') = false := beq_eq_false_iff_ne.2 c2; clear c2 HE HF H1 H2; go_enter Tryz.func40, Tryz.ntmps40; go_wp2_with fail; go_ret; exact ⟨rfl, HB.out⟩
 subst c2; by_cases c3 : H = H'; rotate_left
 ·rw [dF (fun h => c3 (congrArg Inn.high h))]
  have z3 := text_no c3; clear c3 HE HF H1 H2; go_enter Tryz.func40, Tryz.ntmps40; go_wp2_with fail; go_ret; exact ⟨rfl, HB.out⟩
 subst c3; have zh := text_yes (rfl : H = H); by_cases c4 : ks = ks'; rotate_left
 ·rw [dF (fun h => c4 (congrArg Inn.kids h))]
  rw [dF c4] at HE; clear c4 HF; go_enter Tryz.func40, Tryz.ntmps40; go_wp2_with fail; refine (HE.out _ H1.out H2.out).mono ?_; rintro e w3 ⟨rfl, hb3⟩; go_wp2_with fail; go_ret; exact ⟨rfl, HB.out.trans' hb3⟩
 rw [dT c4] at HE
 have e : decide (ss = ss') = decide ((⟨F, L, R, H, ks, ss⟩ : Inn) = ⟨F, L, R, H, ks', ss'⟩) := by
  by_cases hq : ss = ss'
  ·rw [dT hq, dT (by rw [c4, hq])]
  ·rw [dF hq, dF (fun h => hq (congrArg Inn.seps h))]
 rw [e] at HF; generalize decide ((⟨F, L, R, H, ks, ss⟩ : Inn) = ⟨F, L, R, H, ks', ss'⟩) = q at *; clear e c4; go_enter Tryz.func40, Tryz.ntmps40; go_wp2_with fail; refine (HE.out _ H1.out H2.out).mono ?_; rintro e w3 ⟨rfl, hb3⟩; clear x0 x1 x2 x3 x4 x5 y0 y1 y2 y3 y4 y5; obtain ⟨x0, x1, x2, x3, x4, x5⟩ := (HX1.out.below hb3).cells; obtain ⟨y0, y1, y2, y3, y4, y5⟩ := (HX2.out.below hb3).cells; go_wp2_with fail; refine (HF.out _ (H1.out.on hb3) (H2.out.on hb3)).mono ?_; rintro e w4 ⟨rfl, hb4⟩; go_wp2_with fail; go_ret; exact ⟨rfl, (HB.out.trans' hb3).trans' hb4⟩
end Go.Proofs.YtpeghilfldpgfaaGreatDoor.L11
namespace Go.Proofs.YtpeghilfldpgfaaGreatDoor.L12
open Go.RowKit CP
theorem ref_any (F N : Int) (D : ByteArray) (w : World) :
  Calls Tryz.prog 43 #[cv F N D] w fun e w' => e = .returned (cv F N D) ∧ Below w.heap.size w w' := by
 go_enter Tryz.func43, Tryz.ntmps43; go_wp2_with fail; refine bodyPost_ret (v := cv F N D) (by simp [results, Tryz.results43, go_sem]) rfl ⟨rfl, ?_⟩; exact (cbox_below 31 F N D w).trans' (L5.below_alloc _ _)
end Go.Proofs.YtpeghilfldpgfaaGreatDoor.L12
