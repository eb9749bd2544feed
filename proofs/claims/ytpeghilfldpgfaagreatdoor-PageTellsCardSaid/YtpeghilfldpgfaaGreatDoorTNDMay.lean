import Derived.Test.YtpeghilfldpgfaaGreatDoorT09
set_option linter.unusedVariables false
set_option linter.unusedSimpArgs false
set_option maxHeartbeats 8000000
set_option maxRecDepth 100000
namespace Go.Proofs.YtpeghilfldpgfaaGreatDoor.L10
open Go.RowKit NP
theorem leq_no {a b : ByteArray} (h : b.data.toList < a.data.toList) : Op.bytesLess a.toList b.toList = false ∧ (a.toList == b.toList) = false :=
 ⟨L5.less_no (fun k => L5.EP.lt_irrefl _ (L5.EP.lt_trans h k)), L5.same_no (fun k => by
  have h' : b.data.toList < b.data.toList := (show a.data.toList = b.data.toList from k) ▸ h
  exact L5.EP.lt_irrefl _ h')⟩
theorem leq_yes {a b : ByteArray} (h : ¬ b.data.toList < a.data.toList) : Op.bytesLess a.toList b.toList = true ∨ (Op.bytesLess a.toList b.toList = false ∧ (a.toList == b.toList) = true) := by
 rcases L5.EP.tri a.data.toList b.data.toList with k | k | k
 ·exact .inl (L5.less_yes k)
 ·exact .inr ⟨L5.less_no (fun h' => L5.EP.lt_irrefl b.data.toList (by have h2 : a.data.toList < b.data.toList := h'; rwa [k] at h2)), L5.same_yes k⟩
 ·exact absurd k h
def MayI (R : Int) (H : ByteArray) (p : Int) (l : List It) : Prop := (∀ x ∈ l, OkIt x p) ∧ Rise l ∧ (R ≠ 0 → ∀ x ∈ l, x.key < H.data.toList)
theorem may_next {R : Int} {H : ByteArray} {p : Int} {l : List It} {k : Nat} {x : It} (hc : l[k]? = some x) (h : MayI R H p (l.take k)) (hx : OkIt x p) (hr : ∀ j y, k = j + 1 → l[j]? = some y → y.key < x.key) (hh : R ≠ 0 → x.key < H.data.toList) : MayI R H p (l.take (k + 1)) := by
 obtain ⟨h1, h2, h3⟩ := h; refine ⟨?_, ?_, fun h0 => ?_⟩
 ·rw [take_snoc hc]
  intro y hy; rcases List.mem_append.1 hy with hy | hy
  ·exact h1 y hy
  ·obtain rfl := List.mem_singleton.1 hy
   exact hx
 ·cases k with
  | zero => exact rise_one l
  | succ j =>
   obtain ⟨y, hy⟩ : ∃ y, l[j]? = some y := ⟨_, List.getElem?_eq_getElem (by have := (List.getElem?_eq_some_iff.1 hc).1; omega)⟩; exact rise_next hy hc h2 (hr j y rfl hy)
 ·rw [take_snoc hc]
  intro y hy; rcases List.mem_append.1 hy with hy | hy
  ·exact h3 h0 y hy
  ·obtain rfl := List.mem_singleton.1 hy
   exact hh h0
theorem rmay_any (F R : Int) (H : ByteArray) (A : Option Addr) (l : List It) (ca : Nat) (p : Int) (w : World) (ha : Lies5 w w.heap.size A l) (hl : l.length ≤ 1000000) (hh : H.size ≤ maxLen) :
  Calls Tryz.prog 138 #[lv F R H A l.length ca, .int .i64 p] w fun e w' => e = .returned (.bool (decide (May ⟨F, R, H, l⟩ p))) ∧ Below w.heap.size w w' := by
 have hb0 := lbox_below 41 F R H A l.length ca w; have HB0 := zj hb0; have HA := zj (ha.on hb0); have HK := zj (lbox_new 41 F R H A l.length ca w); have HSZ : Hid (∀ W, Calls Tryz.prog 130 #[.int .i64 p] W fun e w' => e = .returned (.bool (L7.mayBe p)) ∧ W = w') := zj (fun W => L7.sizeRef_any p W); obtain ⟨r, HR⟩ : ∃ r, Hid (r = decide (May ⟨F, R, H, l⟩ p)) := ⟨_, zj rfl⟩; rw [← HR.out]; obtain ⟨n, hn⟩ : ∃ n, n = l.length := ⟨_, rfl⟩; have HN := zj hn; rw [← hn] at HK HB0 HA hl; rw [← hn]; simp only [lbox] at HK HB0 HA; unfold maxLen at hh; clear ha hn hb0; obtain ⟨c0, c1, c2, c3⟩ := HK.out.cells
 cases hm : L7.mayBe p with
 | false =>
  have HX : Hid (r = false) := zj (by rw [HR.out]; exact dF (fun h => by have := h.1; rw [hm] at this; cases this)); rw [hm] at HSZ; clear hm; go_enter Tryz.func138, Tryz.ntmps138; go_wp2_with fail; refine (HSZ.out _).mono ?_; rintro e w2 ⟨rfl, rfl⟩; go_wp2_with fail; go_ret; exact ⟨by rw [HX.out]; rfl, HB0.out⟩
 | true =>
  have hp := mayBe_le hm; obtain ⟨q, rfl⟩ : ∃ q : Nat, p = q := Int.eq_ofNat_of_zero_le (by omega); rw [hm] at HSZ
  have hq : q ≤ 1024 ∧ 128 ≤ q := by omega
  clear hp; rcases (show F < 1 ∨ (1 ≤ F ∧ 4095 < F) ∨ (1 ≤ F ∧ F ≤ 4095 ∧ R < 0) ∨ (1 ≤ F ∧ F ≤ 4095 ∧ 0 ≤ R ∧ 4095 < R) ∨ (1 ≤ F ∧ F ≤ 4095 ∧ 0 ≤ R ∧ R ≤ 4095 ∧ R = F) ∨ (1 ≤ F ∧ F ≤ 4095 ∧ 0 ≤ R ∧ R ≤ 4095 ∧ R ≠ F) by omega) with h | h | h | h | h | h
  ·have HX : Hid (r = false) := zj (by rw [HR.out]; exact dF (fun h => by have := h.2.1; unfold NumOk at this; simp only at this; omega))
   have d0 : decide (F < 1) = true := dT (by omega); clear h; go_enter Tryz.func138, Tryz.ntmps138; go_wp2_with fail; refine (HSZ.out _).mono ?_; rintro e w2 ⟨rfl, rfl⟩; go_wp2_with fail; go_ret; exact ⟨by rw [HX.out]; rfl, HB0.out⟩
  ·have HX : Hid (r = false) := zj (by rw [HR.out]; exact dF (fun h => by have := h.2.1; unfold NumOk at this; simp only at this; omega))
   have d0 : decide (F < 1) = false := dF (by omega); have d1 : decide (4095 < F) = true := dT (by omega); clear h; go_enter Tryz.func138, Tryz.ntmps138; go_wp2_with fail; refine (HSZ.out _).mono ?_; rintro e w2 ⟨rfl, rfl⟩; go_wp2_with fail; go_ret; exact ⟨by rw [HX.out]; rfl, HB0.out⟩
  ·have HX : Hid (r = false) := zj (by rw [HR.out]; exact dF (fun h => by have := h.2.1; unfold NumOk at this; simp only at this; omega))
   have d0 : decide (F < 1) = false := dF (by omega); have d1 : decide (4095 < F) = false := dF (by omega); have d2 : decide (R < 0) = true := dT (by omega); clear h; go_enter Tryz.func138, Tryz.ntmps138; go_wp2_with fail; refine (HSZ.out _).mono ?_; rintro e w2 ⟨rfl, rfl⟩; go_wp2_with fail; go_ret; exact ⟨by rw [HX.out]; rfl, HB0.out⟩
  ·have HX : Hid (r = false) := zj (by rw [HR.out]; exact dF (fun h => by have := h.2.1; unfold NumOk at this; simp only at this; omega))
   have d0 : decide (F < 1) = false := dF (by omega); have d1 : decide (4095 < F) = false := dF (by omega); have d2 : decide (R < 0) = false := dF (by omega); have d3 : decide (4095 < R) = true := dT (by omega); clear h; go_enter Tryz.func138, Tryz.ntmps138; go_wp2_with fail; refine (HSZ.out _).mono ?_; rintro e w2 ⟨rfl, rfl⟩; go_wp2_with fail; go_ret; exact ⟨by rw [HX.out]; rfl, HB0.out⟩
  ·have HX : Hid (r = false) := zj (by rw [HR.out]; exact dF (fun h => by have := h.2.1; unfold NumOk at this; simp only at this; omega))
   have d0 : decide (F < 1) = false := dF (by omega); have d1 : decide (4095 < F) = false := dF (by omega); have d2 : decide (R < 0) = false := dF (by omega); have d3 : decide (4095 < R) = false := dF (by omega); have d4 : (R == F) = true := beq_iff_eq.2 (by omega); clear h; go_enter Tryz.func138, Tryz.ntmps138; go_wp2_with fail; refine (HSZ.out _).mono ?_; rintro e w2 ⟨rfl, rfl⟩; go_wp2_with fail; go_ret; exact ⟨by rw [HX.out]; rfl, HB0.out⟩
  have hw8 : IntKind.i64.wrap ((q : Int) / 8) = (q : Int) / 8 := IntWalk.i64_in _ (by omega); have hw4 : IntKind.i64.wrap ((q : Int) / 4) = (q : Int) / 4 := IntWalk.i64_in _ (by omega); have d0 : decide (F < 1) = false := dF (by omega); have d1 : decide (4095 < F) = false := dF (by omega); have d2 : decide (R < 0) = false := dF (by omega); have d3 : decide (4095 < R) = false := dF (by omega); have d4 : (R == F) = false := beq_eq_false_iff_ne.2 (by omega); have he := empty_of H; have he' := empty_of' H; by_cases h7 : q / 8 < H.size
  ·have e7 : decide ((q : Int) / 8 < (H.size : Int)) = true := dT (by omega)
   have e7n : decide (q / 8 < H.size) = true := dT h7
   have HX : Hid (r = false) := zj (by rw [HR.out]; exact dF (fun hM => by
    have h1 := hM.2.2.1; by_cases h0 : R = 0
    ·have := h1.1 h0; simp only at this; omega
    ·have := (h1.2 h0).2.1; simp only at this; omega))
   clear h7 h he he'; go_enter Tryz.func138, Tryz.ntmps138; go_wp2_with fail; refine (HSZ.out _).mono ?_; rintro e w2 ⟨rfl, rfl⟩; go_wp2_with fail; go_ret; exact ⟨by rw [HX.out]; rfl, HB0.out⟩
  have e7 : decide ((q : Int) / 8 < (H.size : Int)) = false := dF (by omega); have e7n : decide (q / 8 < H.size) = false := dF h7; by_cases h8 : R = 0 ∧ H.size ≠ 0
  ·have HX : Hid (r = false) := zj (by rw [HR.out]; exact dF (fun hM => h8.2 (hM.2.2.1.1 h8.1)))
   have e8 : (R == 0) = true := beq_iff_eq.2 h8.1; rw [dF h8.2] at he he'; clear h7 h8 h; go_enter Tryz.func138, Tryz.ntmps138; go_wp2_with fail; refine (HSZ.out _).mono ?_; rintro e w2 ⟨rfl, rfl⟩; go_wp2_with fail; go_ret; exact ⟨by rw [HX.out]; rfl, HB0.out⟩
  by_cases h9 : R ≠ 0 ∧ H.size = 0
  ·have HX : Hid (r = false) := zj (by rw [HR.out]; exact dF (fun hM => (hM.2.2.1.2 h9.1).1 h9.2))
   have e8 : (R == 0) = false := beq_eq_false_iff_ne.2 h9.1; have e9 : decide (0 < R) = true := dT (by omega); rw [dT h9.2] at he he'; clear h7 h8 h9 h; go_enter Tryz.func138, Tryz.ntmps138; go_wp2_with fail; refine (HSZ.out _).mono ?_; rintro e w2 ⟨rfl, rfl⟩; go_wp2_with fail; go_ret; exact ⟨by rw [HX.out]; rfl, HB0.out⟩
  have hfirst : ∀ (X : Prop), ((R == 0) = true → decide (H.size = 0) = true → decide (0 < R) = false → X) → ((R == 0) = false → decide (H.size = 0) = false → decide (0 < R) = true → X) → X := fun X a b => by
   by_cases h0 : R = 0
   ·exact a (beq_iff_eq.2 h0) (dT (by have : ¬ H.size ≠ 0 := fun hh => h8 ⟨h0, hh⟩; omega)) (dF (by omega))
   ·exact b (beq_eq_false_iff_ne.2 h0) (dF (fun hh => h9 ⟨h0, hh⟩)) (dT (by omega))
  have HALL : Hid (MayI R H q l → r = true) := zj (fun hI => by
   rw [HR.out]; refine dT ⟨hm, ⟨h.1, h.2.1, h.2.2.1, h.2.2.2.1, h.2.2.2.2⟩, ⟨fun h0 => ?_, fun h0 => ⟨?_, ?_, hI.2.2 h0⟩⟩, hI.2.1, hI.1⟩
   ·have : ¬ H.size ≠ 0 := fun hh => h8 ⟨h0, hh⟩
    show H.size = 0; omega
   ·exact fun hh => h9 ⟨h0, hh⟩
   ·show (H.size : Int) ≤ (q : Int) / 8
    omega)
  have hRR : 0 ≤ R := h.2.2.1; clear h7 h8 h9 h; have HLOOP : True := trivial; refine hfirst _ (fun e8 e10 e9 => ?_) (fun e8 e10 e9 => ?_)
  ·rw [e10] at he he'
   clear hfirst e10; go_enter Tryz.func138, Tryz.ntmps138; go_wp2_with fail; refine (HSZ.out _).mono ?_; rintro e w2 ⟨rfl, rfl⟩; go_wp2_with fail
   go_loopw [5] (fun iv wr => ∃ k : Nat, k ≤ n ∧ iv = .int .i64 k ∧ Hid (MayI R H q (l.take k)) ∧ Below (w.alloc (.cells #[.int .i64 F, .int .i64 R, .string H, .slice A n ca] 41)).heap.size (w.alloc (.cells #[.int .i64 F, .int .i64 R, .string H, .slice A n ca] 41)) wr) (fun iv _ => n - (intOf iv).toNat)
   case atStart => exact ⟨0, by omega, rfl, zj ⟨by simp, List.Pairwise.nil, fun _ => by simp⟩, Below.refl _ _⟩
   case round =>
    obtain ⟨k, hk, rfl, HI, hbw⟩ := hrel; obtain ⟨p0, p1, p2, p3⟩ := (HK.out.below hbw).cells; by_cases hlt : k < n
    ·obtain ⟨⟨K, O, S, L, P⟩, hc⟩ : ∃ c, l[k]? = some c := ⟨_, List.getElem?_eq_getElem (by have := HN.out; omega)⟩
     obtain ⟨a, rfl, hab, x0, x1, x2, x3, x4⟩ := (HA.out.below hbw).load hc
     have h0 : (0 : Int) ≤ k := by omega
     have hkn : (k : Int) < n := by omega
     have HG := zj (fun W => L9.rright_any O S L P W); have HI1 := zj (IBx.new 145 K O S L P wr); have HB1 := zj (hbw.trans' (L5.below_alloc wr (.cells #[.string K, .bool O, .string S, .int .i64 L, .int .i64 P] 145))); have HL1 := zj (HK.out.below HB1.out); obtain ⟨y0, y1, y2, y3, y4⟩ := HI1.out.cells; have HBAD : Hid (¬ OkIt ⟨K, O, S, L, P⟩ q → r = false) := zj (fun hno => by rw [HR.out]; exact dF (fun h => hno (h.2.2.2.2 _ (List.mem_of_getElem? hc)))); by_cases a1 : q / 8 < K.size
     ·have HX := zj (HBAD.out (fun h => by have := h.1; simp only at this; omega))
      have g1 : decide (q / 8 < K.size) = true := dT a1; have g2 : decide ((q : Int) / 8 < (K.size : Int)) = true := dT (by omega); clear hc hab a1; go_wp2_with fail; go_ret; exact ⟨by rw [HX.out]; rfl, HB0.out.trans' HB1.out⟩
     have g1 : decide (q / 8 < K.size) = false := dF a1; have g2 : decide ((q : Int) / 8 < (K.size : Int)) = false := dF (by omega); by_cases a2 : L9.VP.Right (L9.pv O S L P); rotate_left
     ·have HX := zj (HBAD.out (fun h => a2 h.2.1))
      rw [dF a2] at HG; clear hc hab a1 a2; go_wp2_with fail; refine (HG.out _).mono ?_; rintro e w2 ⟨rfl, hb2⟩; replace HB1 := zj (HB1.out.trans' hb2); replace HI1 := zj (HI1.out.below hb2); replace HL1 := zj (HL1.out.below hb2); have HA1 := zj (HA.out.below HB1.out); clear y0 y1 y2 y3 y4 hb2; obtain ⟨y0, y1, y2, y3, y4⟩ := HI1.out.cells; obtain ⟨q0, q1, q2, q3⟩ := HL1.out.cells; go_wp2_with fail; go_ret; exact ⟨by rw [HX.out]; rfl, HB0.out.trans' HB1.out⟩
     rw [dT a2] at HG
     cases O with
     | true =>
      by_cases a3 : L ≤ (q : Int) / 4
      ·have HX := zj (HBAD.out (fun h => by have := h.2.2.1 rfl; simp only at this; omega))
       have g3 : decide (L ≤ (q : Int) / 4) = true := dT a3; clear hc hab a1 a2 a3; go_wp2_with fail; refine (HG.out _).mono ?_; rintro e w2 ⟨rfl, hb2⟩; replace HB1 := zj (HB1.out.trans' hb2); replace HI1 := zj (HI1.out.below hb2); replace HL1 := zj (HL1.out.below hb2); have HA1 := zj (HA.out.below HB1.out); clear y0 y1 y2 y3 y4 hb2; obtain ⟨y0, y1, y2, y3, y4⟩ := HI1.out.cells; obtain ⟨q0, q1, q2, q3⟩ := HL1.out.cells; go_wp2_with fail; go_ret; exact ⟨by rw [HX.out]; rfl, HB0.out.trans' HB1.out⟩
      ·have g3 : decide (L ≤ (q : Int) / 4) = false := dF a3
       have hok : OkIt ⟨K, true, S, L, P⟩ q := ⟨by show (K.size : Int) ≤ _; omega, a2, fun _ => by show (q : Int) / 4 < L; omega, fun h => (by cases h)⟩; clear hab; obtain ⟨k', hk'⟩ : ∃ k', k' = k + 1 := ⟨_, rfl⟩; go_wp2_with fail; refine (HG.out _).mono ?_; rintro e w2 ⟨rfl, hb2⟩; replace HB1 := zj (HB1.out.trans' hb2); replace HI1 := zj (HI1.out.below hb2); replace HL1 := zj (HL1.out.below hb2); have HA1 := zj (HA.out.below HB1.out); clear y0 y1 y2 y3 y4 hb2; obtain ⟨y0, y1, y2, y3, y4⟩ := HI1.out.cells; obtain ⟨q0, q1, q2, q3⟩ := HL1.out.cells; go_wp2_with fail
       cases k with
       | zero =>
        have HHH : R ≠ 0 → (⟨K, true, S, L, P⟩ : It).key < H.data.toList := fun h => absurd (beq_iff_eq.1 e8) h; have HX := zj (may_next hc HI.out hok (fun j y hj => by omega) HHH); rw [← hk'] at HX; clear hc HHH; go_wp2_with fail
        go_quiet (fail)
        go_wp2_with fail
        go_roundw
        case rel => exact ⟨k', by omega, by simp [hk'], HX, L5.below_drewN HB1.out _⟩
        case measure => simp [intOf]; omega
       | succ j =>
        obtain ⟨⟨KJ, OJ, SJ, LJ, PJ⟩, hcj⟩ : ∃ c, l[j]? = some c := ⟨_, List.getElem?_eq_getElem (by have := HN.out; omega)⟩; obtain ⟨a', hae, hab', z0, z1, z2, z3, z4⟩ := HA1.out.load hcj; obtain rfl := Option.some.inj hae; have hwj0 : IntKind.i64.wrap (j : Int) = (j : Int) := IntWalk.i64_in _ (by omega)
        have hwj : IntKind.i64.wrap (((j + 1 : Nat) : Int) - 1) = (j : Int) := by rw [show ((j + 1 : Nat) : Int) - 1 = j by omega]; exact hwj0
        have hwj' : IntKind.i64.wrap ((j : Int) + 1 - 1) = (j : Int) := by rw [show (j : Int) + 1 - 1 = j by omega]; exact hwj0
        have hj0 : decide ((0 : Int) < ((j + 1 : Nat) : Int)) = true := dT (by omega)
        have hjn : (j : Int) < n := by omega
        clear hae hab'; by_cases hlt2 : KJ.data.toList < K.data.toList
        ·obtain ⟨hz, hz'⟩ := leq_no hlt2
         have HHH : R ≠ 0 → (⟨K, true, S, L, P⟩ : It).key < H.data.toList := fun h => absurd (beq_iff_eq.1 e8) h; have HX := zj (may_next hc HI.out hok (fun j' y hj hy => by obtain rfl : j' = j := (by omega); rw [hcj] at hy; obtain rfl := Option.some.inj hy; exact hlt2) HHH); rw [← hk'] at HX; clear hc HHH; go_wp2_with fail
         go_quiet (fail)
         go_wp2_with fail
         go_roundw
         case rel => exact ⟨k', by omega, by simp [hk'], HX, L5.below_drewN HB1.out _⟩
         case measure => simp [intOf]; omega
        ·have HX : Hid (r = false) := zj (by rw [HR.out]; exact dF (fun h => rise_not hcj hc hlt2 h.2.2.2.1))
         rcases leq_yes hlt2 with hz | ⟨hz, hz'⟩
         ·clear hcj hc
          go_wp2_with fail
          go_quiet (fail)
          go_wp2_with fail; go_ret; exact ⟨by rw [HX.out]; rfl, HB0.out.trans' (L5.below_drewN HB1.out _)⟩
         ·clear hcj hc
          go_wp2_with fail
          go_quiet (fail)
          go_wp2_with fail; go_ret; exact ⟨by rw [HX.out]; rfl, HB0.out.trans' (L5.below_drewN HB1.out _)⟩
     | false =>
      by_cases a3 : q / 4 < S.size
      ·have HX := zj (HBAD.out (fun h => by have := h.2.2.2 rfl; simp only at this; omega))
       have g3 : decide (q / 4 < S.size) = true := dT a3; have g4 : decide ((q : Int) / 4 < (S.size : Int)) = true := dT (by omega); clear hc hab a1 a2 a3; go_wp2_with fail; refine (HG.out _).mono ?_; rintro e w2 ⟨rfl, hb2⟩; replace HB1 := zj (HB1.out.trans' hb2); replace HI1 := zj (HI1.out.below hb2); replace HL1 := zj (HL1.out.below hb2); have HA1 := zj (HA.out.below HB1.out); clear y0 y1 y2 y3 y4 hb2; obtain ⟨y0, y1, y2, y3, y4⟩ := HI1.out.cells; obtain ⟨q0, q1, q2, q3⟩ := HL1.out.cells; go_wp2_with fail; go_ret; exact ⟨by rw [HX.out]; rfl, HB0.out.trans' HB1.out⟩
      ·have g3 : decide (q / 4 < S.size) = false := dF a3
       have g4 : decide ((q : Int) / 4 < (S.size : Int)) = false := dF (by omega); have hok : OkIt ⟨K, false, S, L, P⟩ q := ⟨by show (K.size : Int) ≤ _; omega, a2, fun h => (by cases h), fun _ => by show (S.size : Int) ≤ (q : Int) / 4; omega⟩; clear hab; obtain ⟨k', hk'⟩ : ∃ k', k' = k + 1 := ⟨_, rfl⟩; go_wp2_with fail; refine (HG.out _).mono ?_; rintro e w2 ⟨rfl, hb2⟩; replace HB1 := zj (HB1.out.trans' hb2); replace HI1 := zj (HI1.out.below hb2); replace HL1 := zj (HL1.out.below hb2); have HA1 := zj (HA.out.below HB1.out); clear y0 y1 y2 y3 y4 hb2; obtain ⟨y0, y1, y2, y3, y4⟩ := HI1.out.cells; obtain ⟨q0, q1, q2, q3⟩ := HL1.out.cells; go_wp2_with fail
       cases k with
       | zero =>
        have HHH : R ≠ 0 → (⟨K, false, S, L, P⟩ : It).key < H.data.toList := fun h => absurd (beq_iff_eq.1 e8) h; have HX := zj (may_next hc HI.out hok (fun j y hj => by omega) HHH); rw [← hk'] at HX; clear hc HHH; go_wp2_with fail
        go_quiet (fail)
        go_wp2_with fail
        go_roundw
        case rel => exact ⟨k', by omega, by simp [hk'], HX, L5.below_drewN HB1.out _⟩
        case measure => simp [intOf]; omega
       | succ j =>
        obtain ⟨⟨KJ, OJ, SJ, LJ, PJ⟩, hcj⟩ : ∃ c, l[j]? = some c := ⟨_, List.getElem?_eq_getElem (by have := HN.out; omega)⟩; obtain ⟨a', hae, hab', z0, z1, z2, z3, z4⟩ := HA1.out.load hcj; obtain rfl := Option.some.inj hae; have hwj0 : IntKind.i64.wrap (j : Int) = (j : Int) := IntWalk.i64_in _ (by omega)
        have hwj : IntKind.i64.wrap (((j + 1 : Nat) : Int) - 1) = (j : Int) := by rw [show ((j + 1 : Nat) : Int) - 1 = j by omega]; exact hwj0
        have hwj' : IntKind.i64.wrap ((j : Int) + 1 - 1) = (j : Int) := by rw [show (j : Int) + 1 - 1 = j by omega]; exact hwj0
        have hj0 : decide ((0 : Int) < ((j + 1 : Nat) : Int)) = true := dT (by omega)
        have hjn : (j : Int) < n := by omega
        clear hae hab'; by_cases hlt2 : KJ.data.toList < K.data.toList
        ·obtain ⟨hz, hz'⟩ := leq_no hlt2
         have HHH : R ≠ 0 → (⟨K, false, S, L, P⟩ : It).key < H.data.toList := fun h => absurd (beq_iff_eq.1 e8) h; have HX := zj (may_next hc HI.out hok (fun j' y hj hy => by obtain rfl : j' = j := (by omega); rw [hcj] at hy; obtain rfl := Option.some.inj hy; exact hlt2) HHH); rw [← hk'] at HX; clear hc HHH; go_wp2_with fail
         go_quiet (fail)
         go_wp2_with fail
         go_roundw
         case rel => exact ⟨k', by omega, by simp [hk'], HX, L5.below_drewN HB1.out _⟩
         case measure => simp [intOf]; omega
        ·have HX : Hid (r = false) := zj (by rw [HR.out]; exact dF (fun h => rise_not hcj hc hlt2 h.2.2.2.1))
         rcases leq_yes hlt2 with hz | ⟨hz, hz'⟩
         ·clear hcj hc
          go_wp2_with fail
          go_quiet (fail)
          go_wp2_with fail; go_ret; exact ⟨by rw [HX.out]; rfl, HB0.out.trans' (L5.below_drewN HB1.out _)⟩
         ·clear hcj hc
          go_wp2_with fail
          go_quiet (fail)
          go_wp2_with fail; go_ret; exact ⟨by rw [HX.out]; rfl, HB0.out.trans' (L5.below_drewN HB1.out _)⟩
    ·have HX : Hid (r = true) := zj (HALL.out (by
      have h := HI.out
      rwa [List.take_of_length_le (by have := HN.out; omega)] at h))
     have hlt' : ¬ (k : Int) < n := by omega
     clear hk; go_wp2_with fail; go_ret; exact ⟨by rw [HX.out]; rfl, HB0.out.trans' hbw⟩
  ·rw [e10] at he he'
   clear hfirst e10; go_enter Tryz.func138, Tryz.ntmps138; go_wp2_with fail; refine (HSZ.out _).mono ?_; rintro e w2 ⟨rfl, rfl⟩; go_wp2_with fail
   go_loopw [5] (fun iv wr => ∃ k : Nat, k ≤ n ∧ iv = .int .i64 k ∧ Hid (MayI R H q (l.take k)) ∧ Below (w.alloc (.cells #[.int .i64 F, .int .i64 R, .string H, .slice A n ca] 41)).heap.size (w.alloc (.cells #[.int .i64 F, .int .i64 R, .string H, .slice A n ca] 41)) wr) (fun iv _ => n - (intOf iv).toNat)
   case atStart => exact ⟨0, by omega, rfl, zj ⟨by simp, List.Pairwise.nil, fun _ => by simp⟩, Below.refl _ _⟩
   case round =>
    obtain ⟨k, hk, rfl, HI, hbw⟩ := hrel; obtain ⟨p0, p1, p2, p3⟩ := (HK.out.below hbw).cells; by_cases hlt : k < n
    ·obtain ⟨⟨K, O, S, L, P⟩, hc⟩ : ∃ c, l[k]? = some c := ⟨_, List.getElem?_eq_getElem (by have := HN.out; omega)⟩
     obtain ⟨a, rfl, hab, x0, x1, x2, x3, x4⟩ := (HA.out.below hbw).load hc
     have h0 : (0 : Int) ≤ k := by omega
     have hkn : (k : Int) < n := by omega
     have HG := zj (fun W => L9.rright_any O S L P W); have HI1 := zj (IBx.new 145 K O S L P wr); have HB1 := zj (hbw.trans' (L5.below_alloc wr (.cells #[.string K, .bool O, .string S, .int .i64 L, .int .i64 P] 145))); have HL1 := zj (HK.out.below HB1.out); obtain ⟨y0, y1, y2, y3, y4⟩ := HI1.out.cells; have HBAD : Hid (¬ OkIt ⟨K, O, S, L, P⟩ q → r = false) := zj (fun hno => by rw [HR.out]; exact dF (fun h => hno (h.2.2.2.2 _ (List.mem_of_getElem? hc)))); by_cases a1 : q / 8 < K.size
     ·have HX := zj (HBAD.out (fun h => by have := h.1; simp only at this; omega))
      have g1 : decide (q / 8 < K.size) = true := dT a1; have g2 : decide ((q : Int) / 8 < (K.size : Int)) = true := dT (by omega); clear hc hab a1; go_wp2_with fail; go_ret; exact ⟨by rw [HX.out]; rfl, HB0.out.trans' HB1.out⟩
     have g1 : decide (q / 8 < K.size) = false := dF a1; have g2 : decide ((q : Int) / 8 < (K.size : Int)) = false := dF (by omega); by_cases a2 : L9.VP.Right (L9.pv O S L P); rotate_left
     ·have HX := zj (HBAD.out (fun h => a2 h.2.1))
      rw [dF a2] at HG; clear hc hab a1 a2; go_wp2_with fail; refine (HG.out _).mono ?_; rintro e w2 ⟨rfl, hb2⟩; replace HB1 := zj (HB1.out.trans' hb2); replace HI1 := zj (HI1.out.below hb2); replace HL1 := zj (HL1.out.below hb2); have HA1 := zj (HA.out.below HB1.out); clear y0 y1 y2 y3 y4 hb2; obtain ⟨y0, y1, y2, y3, y4⟩ := HI1.out.cells; obtain ⟨q0, q1, q2, q3⟩ := HL1.out.cells; go_wp2_with fail; go_ret; exact ⟨by rw [HX.out]; rfl, HB0.out.trans' HB1.out⟩
     rw [dT a2] at HG
     cases O with
     | true =>
      by_cases a3 : L ≤ (q : Int) / 4
      ·have HX := zj (HBAD.out (fun h => by have := h.2.2.1 rfl; simp only at this; omega))
       have g3 : decide (L ≤ (q : Int) / 4) = true := dT a3; clear hc hab a1 a2 a3; go_wp2_with fail; refine (HG.out _).mono ?_; rintro e w2 ⟨rfl, hb2⟩; replace HB1 := zj (HB1.out.trans' hb2); replace HI1 := zj (HI1.out.below hb2); replace HL1 := zj (HL1.out.below hb2); have HA1 := zj (HA.out.below HB1.out); clear y0 y1 y2 y3 y4 hb2; obtain ⟨y0, y1, y2, y3, y4⟩ := HI1.out.cells; obtain ⟨q0, q1, q2, q3⟩ := HL1.out.cells; go_wp2_with fail; go_ret; exact ⟨by rw [HX.out]; rfl, HB0.out.trans' HB1.out⟩
      ·have g3 : decide (L ≤ (q : Int) / 4) = false := dF a3
       have hok : OkIt ⟨K, true, S, L, P⟩ q := ⟨by show (K.size : Int) ≤ _; omega, a2, fun _ => by show (q : Int) / 4 < L; omega, fun h => (by cases h)⟩; clear hab; obtain ⟨k', hk'⟩ : ∃ k', k' = k + 1 := ⟨_, rfl⟩; go_wp2_with fail; refine (HG.out _).mono ?_; rintro e w2 ⟨rfl, hb2⟩; replace HB1 := zj (HB1.out.trans' hb2); replace HI1 := zj (HI1.out.below hb2); replace HL1 := zj (HL1.out.below hb2); have HA1 := zj (HA.out.below HB1.out); clear y0 y1 y2 y3 y4 hb2; obtain ⟨y0, y1, y2, y3, y4⟩ := HI1.out.cells; obtain ⟨q0, q1, q2, q3⟩ := HL1.out.cells; go_wp2_with fail
       cases k with
       | zero =>
        have hR0 : R ≠ 0 := beq_eq_false_iff_ne.1 e8; by_cases hH : K.data.toList < H.data.toList
        ·have HHH : R ≠ 0 → (⟨K, true, S, L, P⟩ : It).key < H.data.toList := fun _ => hH
         have HX := zj (may_next hc HI.out hok (fun j y hj => by omega) HHH); rw [← hk'] at HX; have hzh := L5.less_yes hH; clear hc hR0 HHH; go_wp2_with fail
         go_quiet (fail)
         go_wp2_with fail
         go_roundw
         case rel => exact ⟨k', by omega, by simp [hk'], HX, L5.below_drewN HB1.out _⟩
         case measure => simp [intOf]; omega
        ·have HX : Hid (r = false) := zj (by rw [HR.out]; exact dF (fun h => hH ((h.2.2.1.2 hR0).2.2 _ (List.mem_of_getElem? hc))))
         have hzh := L5.less_no hH; clear hc hR0; go_wp2_with fail
         go_quiet (fail)
         go_wp2_with fail; go_ret; exact ⟨by rw [HX.out]; rfl, HB0.out.trans' (L5.below_drewN HB1.out _)⟩
       | succ j =>
        obtain ⟨⟨KJ, OJ, SJ, LJ, PJ⟩, hcj⟩ : ∃ c, l[j]? = some c := ⟨_, List.getElem?_eq_getElem (by have := HN.out; omega)⟩; obtain ⟨a', hae, hab', z0, z1, z2, z3, z4⟩ := HA1.out.load hcj; obtain rfl := Option.some.inj hae; have hwj0 : IntKind.i64.wrap (j : Int) = (j : Int) := IntWalk.i64_in _ (by omega)
        have hwj : IntKind.i64.wrap (((j + 1 : Nat) : Int) - 1) = (j : Int) := by rw [show ((j + 1 : Nat) : Int) - 1 = j by omega]; exact hwj0
        have hwj' : IntKind.i64.wrap ((j : Int) + 1 - 1) = (j : Int) := by rw [show (j : Int) + 1 - 1 = j by omega]; exact hwj0
        have hj0 : decide ((0 : Int) < ((j + 1 : Nat) : Int)) = true := dT (by omega)
        have hjn : (j : Int) < n := by omega
        clear hae hab'; by_cases hlt2 : KJ.data.toList < K.data.toList
        ·obtain ⟨hz, hz'⟩ := leq_no hlt2
         have hR0 : R ≠ 0 := beq_eq_false_iff_ne.1 e8; by_cases hH : K.data.toList < H.data.toList
         ·have HHH : R ≠ 0 → (⟨K, true, S, L, P⟩ : It).key < H.data.toList := fun _ => hH
          have HX := zj (may_next hc HI.out hok (fun j' y hj hy => by obtain rfl : j' = j := (by omega); rw [hcj] at hy; obtain rfl := Option.some.inj hy; exact hlt2) HHH); rw [← hk'] at HX; have hzh := L5.less_yes hH; clear hc hR0 HHH; go_wp2_with fail
          go_quiet (fail)
          go_wp2_with fail
          go_roundw
          case rel => exact ⟨k', by omega, by simp [hk'], HX, L5.below_drewN HB1.out _⟩
          case measure => simp [intOf]; omega
         ·have HX : Hid (r = false) := zj (by rw [HR.out]; exact dF (fun h => hH ((h.2.2.1.2 hR0).2.2 _ (List.mem_of_getElem? hc))))
          have hzh := L5.less_no hH; clear hc hR0; go_wp2_with fail
          go_quiet (fail)
          go_wp2_with fail; go_ret; exact ⟨by rw [HX.out]; rfl, HB0.out.trans' (L5.below_drewN HB1.out _)⟩
        ·have HX : Hid (r = false) := zj (by rw [HR.out]; exact dF (fun h => rise_not hcj hc hlt2 h.2.2.2.1))
         rcases leq_yes hlt2 with hz | ⟨hz, hz'⟩
         ·clear hcj hc
          go_wp2_with fail
          go_quiet (fail)
          go_wp2_with fail; go_ret; exact ⟨by rw [HX.out]; rfl, HB0.out.trans' (L5.below_drewN HB1.out _)⟩
         ·clear hcj hc
          go_wp2_with fail
          go_quiet (fail)
          go_wp2_with fail; go_ret; exact ⟨by rw [HX.out]; rfl, HB0.out.trans' (L5.below_drewN HB1.out _)⟩
     | false =>
      by_cases a3 : q / 4 < S.size
      ·have HX := zj (HBAD.out (fun h => by have := h.2.2.2 rfl; simp only at this; omega))
       have g3 : decide (q / 4 < S.size) = true := dT a3; have g4 : decide ((q : Int) / 4 < (S.size : Int)) = true := dT (by omega); clear hc hab a1 a2 a3; go_wp2_with fail; refine (HG.out _).mono ?_; rintro e w2 ⟨rfl, hb2⟩; replace HB1 := zj (HB1.out.trans' hb2); replace HI1 := zj (HI1.out.below hb2); replace HL1 := zj (HL1.out.below hb2); have HA1 := zj (HA.out.below HB1.out); clear y0 y1 y2 y3 y4 hb2; obtain ⟨y0, y1, y2, y3, y4⟩ := HI1.out.cells; obtain ⟨q0, q1, q2, q3⟩ := HL1.out.cells; go_wp2_with fail; go_ret; exact ⟨by rw [HX.out]; rfl, HB0.out.trans' HB1.out⟩
      ·have g3 : decide (q / 4 < S.size) = false := dF a3
       have g4 : decide ((q : Int) / 4 < (S.size : Int)) = false := dF (by omega); have hok : OkIt ⟨K, false, S, L, P⟩ q := ⟨by show (K.size : Int) ≤ _; omega, a2, fun h => (by cases h), fun _ => by show (S.size : Int) ≤ (q : Int) / 4; omega⟩; clear hab; obtain ⟨k', hk'⟩ : ∃ k', k' = k + 1 := ⟨_, rfl⟩; go_wp2_with fail; refine (HG.out _).mono ?_; rintro e w2 ⟨rfl, hb2⟩; replace HB1 := zj (HB1.out.trans' hb2); replace HI1 := zj (HI1.out.below hb2); replace HL1 := zj (HL1.out.below hb2); have HA1 := zj (HA.out.below HB1.out); clear y0 y1 y2 y3 y4 hb2; obtain ⟨y0, y1, y2, y3, y4⟩ := HI1.out.cells; obtain ⟨q0, q1, q2, q3⟩ := HL1.out.cells; go_wp2_with fail
       cases k with
       | zero =>
        have hR0 : R ≠ 0 := beq_eq_false_iff_ne.1 e8; by_cases hH : K.data.toList < H.data.toList
        ·have HHH : R ≠ 0 → (⟨K, false, S, L, P⟩ : It).key < H.data.toList := fun _ => hH
         have HX := zj (may_next hc HI.out hok (fun j y hj => by omega) HHH); rw [← hk'] at HX; have hzh := L5.less_yes hH; clear hc hR0 HHH; go_wp2_with fail
         go_quiet (fail)
         go_wp2_with fail
         go_roundw
         case rel => exact ⟨k', by omega, by simp [hk'], HX, L5.below_drewN HB1.out _⟩
         case measure => simp [intOf]; omega
        ·have HX : Hid (r = false) := zj (by rw [HR.out]; exact dF (fun h => hH ((h.2.2.1.2 hR0).2.2 _ (List.mem_of_getElem? hc))))
         have hzh := L5.less_no hH; clear hc hR0; go_wp2_with fail
         go_quiet (fail)
         go_wp2_with fail; go_ret; exact ⟨by rw [HX.out]; rfl, HB0.out.trans' (L5.below_drewN HB1.out _)⟩
       | succ j =>
        obtain ⟨⟨KJ, OJ, SJ, LJ, PJ⟩, hcj⟩ : ∃ c, l[j]? = some c := ⟨_, List.getElem?_eq_getElem (by have := HN.out; omega)⟩; obtain ⟨a', hae, hab', z0, z1, z2, z3, z4⟩ := HA1.out.load hcj; obtain rfl := Option.some.inj hae; have hwj0 : IntKind.i64.wrap (j : Int) = (j : Int) := IntWalk.i64_in _ (by omega)
        have hwj : IntKind.i64.wrap (((j + 1 : Nat) : Int) - 1) = (j : Int) := by rw [show ((j + 1 : Nat) : Int) - 1 = j by omega]; exact hwj0
        have hwj' : IntKind.i64.wrap ((j : Int) + 1 - 1) = (j : Int) := by rw [show (j : Int) + 1 - 1 = j by omega]; exact hwj0
        have hj0 : decide ((0 : Int) < ((j + 1 : Nat) : Int)) = true := dT (by omega)
        have hjn : (j : Int) < n := by omega
        clear hae hab'; by_cases hlt2 : KJ.data.toList < K.data.toList
        ·obtain ⟨hz, hz'⟩ := leq_no hlt2
         have hR0 : R ≠ 0 := beq_eq_false_iff_ne.1 e8; by_cases hH : K.data.toList < H.data.toList
         ·have HHH : R ≠ 0 → (⟨K, false, S, L, P⟩ : It).key < H.data.toList := fun _ => hH
          have HX := zj (may_next hc HI.out hok (fun j' y hj hy => by obtain rfl : j' = j := (by omega); rw [hcj] at hy; obtain rfl := Option.some.inj hy; exact hlt2) HHH); rw [← hk'] at HX; have hzh := L5.less_yes hH; clear hc hR0 HHH; go_wp2_with fail
          go_quiet (fail)
          go_wp2_with fail
          go_roundw
          case rel => exact ⟨k', by omega, by simp [hk'], HX, L5.below_drewN HB1.out _⟩
          case measure => simp [intOf]; omega
         ·have HX : Hid (r = false) := zj (by rw [HR.out]; exact dF (fun h => hH ((h.2.2.1.2 hR0).2.2 _ (List.mem_of_getElem? hc))))
          have hzh := L5.less_no hH; clear hc hR0; go_wp2_with fail
          go_quiet (fail)
          go_wp2_with fail; go_ret; exact ⟨by rw [HX.out]; rfl, HB0.out.trans' (L5.below_drewN HB1.out _)⟩
        ·have HX : Hid (r = false) := zj (by rw [HR.out]; exact dF (fun h => rise_not hcj hc hlt2 h.2.2.2.1))
         rcases leq_yes hlt2 with hz | ⟨hz, hz'⟩
         ·clear hcj hc
          go_wp2_with fail
          go_quiet (fail)
          go_wp2_with fail; go_ret; exact ⟨by rw [HX.out]; rfl, HB0.out.trans' (L5.below_drewN HB1.out _)⟩
         ·clear hcj hc
          go_wp2_with fail
          go_quiet (fail)
          go_wp2_with fail; go_ret; exact ⟨by rw [HX.out]; rfl, HB0.out.trans' (L5.below_drewN HB1.out _)⟩
    ·have HX : Hid (r = true) := zj (HALL.out (by
      have h := HI.out
      rwa [List.take_of_length_le (by have := HN.out; omega)] at h))
     have hlt' : ¬ (k : Int) < n := by omega
     clear hk; go_wp2_with fail; go_ret; exact ⟨by rw [HX.out]; rfl, HB0.out.trans' hbw⟩
end Go.Proofs.YtpeghilfldpgfaaGreatDoor.L10
