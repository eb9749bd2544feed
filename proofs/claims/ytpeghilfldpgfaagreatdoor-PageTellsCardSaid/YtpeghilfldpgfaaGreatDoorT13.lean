import Derived.Test.YtpeghilfldpgfaaGreatDoorT10
import Derived.WalkMore
import Derived.RangeFuncOwn
import Derived.Deep.Slices
import Derived.Shelf.Vars
import Derived.SizedLaws
import Derived.Lib.SmallJoins
import Derived.LaidMore
import Derived.LaidSub
import Derived.LaidHandle
import Derived.Lay
import Derived.Stop.Joined
import Derived.Stop.LaidErr
set_option linter.unusedVariables false
set_option linter.unusedSimpArgs false
set_option maxHeartbeats 8000000
set_option maxRecDepth 100000
namespace Go.Proofs.YtpeghilfldpgfaaGreatDoor.L12
open Go.RowKit CP
theorem rdec_any (s : ByteArray) (w : World) (hz : L7.Sizes w) (hs : s.size ≤ maxLen) :
  Calls Tryz.prog 49 #[.string s] w fun e w' => e = .returned (decV s) ∧ Below w.heap.size w w' := by
 have hb0 := cbox_below 43 0 0 ⟨#[]⟩ w; have hsz0 := cbox_size 43 0 0 ⟨#[]⟩ w; have HB := zj hb0; have HK := zj (cbox_new 43 0 0 ⟨#[]⟩ w); have HG := zj (hz.below hz.lt hb0); have HO := zj (L7.refOpen_any s _ (hz.below hz.lt hb0)); have hcount := @opn_count s; have hbs := @opn_size s; have hbad := @dec_bad s; have hyes := @dec_yes s; have hno := @dec_no s; have hkind := @dec_kind s; unfold L7.opnV at HO; generalize L7.HP.opn s = x at *; obtain ⟨⟨k, l, c, r, f⟩, b, e⟩ := x; simp only [L7.hv] at HO; simp only at hcount hbs hbad hyes hno hkind; unfold maxLen at hs; clear hb0 hz; by_cases he : e = 0
 ·subst he
  have hc0 := hcount rfl; obtain ⟨n, rfl⟩ := Int.eq_ofNat_of_zero_le hc0; by_cases hk4 : k = 4
  ·subst hk4
   by_cases hn : n ≤ b.size
   ·have hd : decide ((b.size : Int) < (n : Int)) = false := dF (by omega)
    have h0n : (0 : Int) ≤ n := by omega
    have hnb : (n : Int) ≤ b.size := by omega
    obtain ⟨D, hD⟩ : ∃ D, b.extract 0 n = D := ⟨_, rfl⟩; rw [Int.toNat_natCast, hD] at hyes hno; have HE := zj (fun W (h : L7.Sizes W) => renc_any f r D s.size W h); obtain ⟨S2, c2, he⟩ : ∃ S2 c2, enc f r D s.size = (S2, c2) := ⟨_, _, rfl⟩; rw [encV, he] at HE; rw [he] at hyes hno; have HD : Hid (b.extract 0 n = D) := zj hD; have HYES := zj (hyes ⟨rfl, by omega⟩); have HNO := zj (hno ⟨rfl, by omega⟩); clear hcount hbs hbad hyes hno hkind he hc0 hn; go_enter Tryz.func49, Tryz.ntmps49; go_wp2_with fail; refine HO.out.mono ?_; rintro e V ⟨rfl, hb⟩; have HBV := zj (HB.out.trans' hb); have HKV := zj (HK.out.below hb); have hbh := L5.below_alloc V (.cells #[.int .i64 4, .int .i64 l, .int .i64 n, .int .i64 r, .int .i64 f] 153); have HBH := zj (HBV.out.trans' hbh); have HKH := zj (HKV.out.below hbh); have HHX := zj (show L7.Bx 153 V.heap.size ⟨4, l, n, r, f⟩ (V.alloc (.cells #[.int .i64 4, .int .i64 l, .int .i64 n, .int .i64 r, .int .i64 f] 153)) from heap_alloc_new _ _); have HGH := zj (HG.out.below HG.out.lt (hb.trans' hbh)); obtain ⟨y0, y1, y2, y3, y4⟩ := HHX.out.cells; clear hb hbh; go_wp2_with fail; generalize V.alloc (.cells #[.int .i64 4, .int .i64 l, .int .i64 n, .int .i64 r, .int .i64 f] 153) = W1 at *; have hb3 := cbox_below 43 0 0 ⟨#[]⟩ W1; obtain ⟨y0, y1, y2, y3, y4⟩ := (HHX.out.below hb3).cells; obtain ⟨x0, x1, x2⟩ := (cbox_new 43 0 0 ⟨#[]⟩ W1).cells; obtain ⟨f0, f1, f2⟩ := (cbox_new 43 0 0 ⟨#[]⟩ W1).free; simp only [cbox] at y0 y1 y2 y3 y4 x0 x1 x2 f0 f1 f2; clear hb3
    go_region
    have hb4 : Below W1.heap.size W1 (W1.alloc (.cells #[.int .i64 f, .int .i64 r, .string D] 43)).drew := L5.below_drewN (L5.below_alloc W1 _) 1; have HC : Hid (Cx 43 W1.heap.size f r D (W1.alloc (.cells #[.int .i64 f, .int .i64 r, .string D] 43)).drew) := zj (cbox_new 43 f r D W1); have HB2 := zj (HBH.out.trans' hb4); have HK2 := zj (HKH.out.below hb4); have HG2 := zj (HGH.out.below HGH.out.lt hb4); generalize (W1.alloc (.cells #[.int .i64 f, .int .i64 r, .string D] 43)).drew = W2 at *; clear hb4 y0 y1 y2 y3 y4 x0 x1 x2 f0 f1 f2 HBH HKH HGH HHX HBV HKV HB HK HG HO; obtain ⟨x0, x1, x2⟩ := HC.out.cells; generalize hq1 : W1.heap.size = gc at *; go_wp2_with fail; refine (HE.out _ HG2.out).mono ?_; rintro e V3 ⟨rfl, hb⟩; have HKQ := zj (HK2.out.below hb); have HBQ := zj (HB2.out.trans' hb); clear x0 x1 x2; obtain ⟨x0, x1, x2⟩ := (HC.out.below hb).cells; obtain ⟨u0, u1, u2⟩ := HKQ.out.cells; obtain ⟨f0, f1, f2⟩ := HKQ.out.free; clear hb; by_cases hc0 : c2 = 0
    ·subst hc0
     by_cases hS : S2 = s
     ·subst hS
      have hz := text_yes (rfl : S2 = S2)
      have hz2 : (S2.toList != S2.toList) = false := by simp
      have HX : Hid (decV S2 = .tuple #[cv f r D, .int .i64 0]) := zj (decV_some (HYES.out rfl)); go_wp2_with fail; obtain ⟨r0, r1, r2⟩ := (setC_box HKQ.out f r D).cells; unfold setC at r0 r1 r2; refine bodyPost_ret (v := .tuple #[cv f r D, .int .i64 0]) (by simp [results, Tryz.results49, go_sem, r0, r1, r2]) rfl ⟨by rw [HX.out], ?_⟩; exact setC_below HBQ.out (Nat.le_refl _) f r D
     ·have hz := text_no hS
      have hz2 : (S2.toList != s.toList) = true := by simp only [bne, hz]; rfl
      have HX : Hid (decV s = .tuple #[cv0, .int .i64 3]) := zj (decV_none (HNO.out (fun h => hS (congrArg Prod.fst h)))); clear hS; go_wp2_with fail; obtain ⟨r0, r1, r2⟩ := (setC_box HKQ.out 0 0 ⟨#[]⟩).cells; unfold setC at r0 r1 r2; refine bodyPost_ret (v := .tuple #[cv0, .int .i64 3]) (by simp [results, Tryz.results49, go_sem, r0, r1, r2]) rfl ⟨by rw [HX.out], ?_⟩; exact setC_below HBQ.out (Nat.le_refl _) 0 0 ⟨#[]⟩
    ·have hcn : (c2 != 0) = true := by simpa using hc0
     have hce : (c2 == 0) = false := by simpa using hc0
     have HX : Hid (decV s = .tuple #[cv0, .int .i64 3]) := zj (decV_none (HNO.out (fun h => hc0 (congrArg Prod.snd h)))); clear hc0; go_wp2_with fail; obtain ⟨r0, r1, r2⟩ := (setC_box HKQ.out 0 0 ⟨#[]⟩).cells; unfold setC at r0 r1 r2; refine bodyPost_ret (v := .tuple #[cv0, .int .i64 3]) (by simp [results, Tryz.results49, go_sem, r0, r1, r2]) rfl ⟨by rw [HX.out], ?_⟩; exact setC_below HBQ.out (Nat.le_refl _) 0 0 ⟨#[]⟩
   ·have hd : decide ((b.size : Int) < (n : Int)) = true := dT (by omega)
    have hd2 : decide (b.size < n) = true := dT (by omega); have HX : Hid (decV s = .tuple #[cv0, .int .i64 3]) := zj (decV_none (hbad (fun h => by have := h.2; omega))); clear hcount hbs hbad hyes hno hkind hc0 hn; go_enter Tryz.func49, Tryz.ntmps49; go_wp2_with fail; refine HO.out.mono ?_; rintro e V ⟨rfl, hb⟩; have hb := hb.trans' (L5.below_alloc V (.cells #[.int .i64 4, .int .i64 l, .int .i64 n, .int .i64 r, .int .i64 f] 153)); have HBQ := zj (HB.out.trans' hb); have HKQ := zj (HK.out.below hb); have HHX := zj (show L7.Bx 153 V.heap.size ⟨4, l, n, r, f⟩ (V.alloc (.cells #[.int .i64 4, .int .i64 l, .int .i64 n, .int .i64 r, .int .i64 f] 153)) from heap_alloc_new _ _); obtain ⟨y0, y1, y2, y3, y4⟩ := HHX.out.cells; obtain ⟨u0, u1, u2⟩ := HKQ.out.cells; obtain ⟨f0, f1, f2⟩ := HKQ.out.free; clear hb; go_wp2_with fail; obtain ⟨r0, r1, r2⟩ := (setC_box HKQ.out 0 0 ⟨#[]⟩).cells; unfold setC at r0 r1 r2; refine bodyPost_ret (v := .tuple #[cv0, .int .i64 3]) (by simp [results, Tryz.results49, go_sem, r0, r1, r2]) rfl ⟨by rw [HX.out], ?_⟩; exact setC_below HBQ.out (Nat.le_refl _) 0 0 ⟨#[]⟩
  ·have hkn : (k != 4) = true := by simpa using hk4
   have hke : (k == 4) = false := by simpa using hk4
   have HX : Hid (decV s = .tuple #[cv0, .int .i64 3]) := zj (decV_none (hkind hk4)); clear hcount hbs hbad hyes hno hkind hc0 hk4; go_enter Tryz.func49, Tryz.ntmps49; go_wp2_with fail; refine HO.out.mono ?_; rintro e V ⟨rfl, hb⟩; have hb := hb.trans' (L5.below_alloc V (.cells #[.int .i64 k, .int .i64 l, .int .i64 n, .int .i64 r, .int .i64 f] 153)); have HBQ := zj (HB.out.trans' hb); have HKQ := zj (HK.out.below hb); have HHX := zj (show L7.Bx 153 V.heap.size ⟨k, l, n, r, f⟩ (V.alloc (.cells #[.int .i64 k, .int .i64 l, .int .i64 n, .int .i64 r, .int .i64 f] 153)) from heap_alloc_new _ _); obtain ⟨y0, y1, y2, y3, y4⟩ := HHX.out.cells; obtain ⟨u0, u1, u2⟩ := HKQ.out.cells; obtain ⟨f0, f1, f2⟩ := HKQ.out.free; clear hb; go_wp2_with fail; obtain ⟨r0, r1, r2⟩ := (setC_box HKQ.out 0 0 ⟨#[]⟩).cells; unfold setC at r0 r1 r2; refine bodyPost_ret (v := .tuple #[cv0, .int .i64 3]) (by simp [results, Tryz.results49, go_sem, r0, r1, r2]) rfl ⟨by rw [HX.out], ?_⟩; exact setC_below HBQ.out (Nat.le_refl _) 0 0 ⟨#[]⟩
 ·have hcn : (e != 0) = true := by simpa using he
  have hce : (e == 0) = false := by simpa using he
  have HX : Hid (decV s = .tuple #[cv0, .int .i64 3]) := zj (decV_none (hbad (fun h => he h.1))); clear hcount hbs hbad hyes hno hkind he; go_enter Tryz.func49, Tryz.ntmps49; go_wp2_with fail; refine HO.out.mono ?_; rintro e V ⟨rfl, hb⟩; have hb := hb.trans' (L5.below_alloc V (.cells #[.int .i64 k, .int .i64 l, .int .i64 c, .int .i64 r, .int .i64 f] 153)); have HBQ := zj (HB.out.trans' hb); have HKQ := zj (HK.out.below hb); obtain ⟨u0, u1, u2⟩ := HKQ.out.cells; obtain ⟨f0, f1, f2⟩ := HKQ.out.free; clear hb; go_wp2_with fail; obtain ⟨r0, r1, r2⟩ := (setC_box HKQ.out 0 0 ⟨#[]⟩).cells; unfold setC at r0 r1 r2; refine bodyPost_ret (v := .tuple #[cv0, .int .i64 3]) (by simp [results, Tryz.results49, go_sem, r0, r1, r2]) rfl ⟨by rw [HX.out], ?_⟩; exact setC_below HBQ.out (Nat.le_refl _) 0 0 ⟨#[]⟩
end Go.Proofs.YtpeghilfldpgfaaGreatDoor.L12
namespace Go.Proofs.YtpeghilfldpgfaaGreatDoor.L13
open Go.RowKit MP
def bG (G : Int) : Int := min (max G 2) 4096
def bR (G R : Int) : Int := min (max R 1) (bG G - 1)
def bL (L : Int) : Int := min (max L 0) 255
def bC (C : Int) : Int := min (max C 0) 2147483647
theorem may_iff (P G R L C : Int) : May ⟨P, G, R, L, C⟩ ↔ L7.mayBe P = true ∧ G = bG G ∧ R = bR G R ∧ L = bL L ∧ C = bC C := by
 unfold May bR bG bL bC; simp only; constructor
 ·rintro ⟨h1, h2, h3, h4, h5, h6, h7, h8, h9⟩
  refine ⟨h1, ?_, ?_, ?_, ?_⟩ <;> omega
 ·rintro ⟨h1, h2, h3, h4, h5⟩
  refine ⟨h1, ?_, ?_, ?_, ?_, ?_, ?_, ?_, ?_⟩ <;> omega
theorem bounded_any (P G R L C : Int) (w : World) : Calls Tryz.prog 100 #[mv P G R L C] w fun e w' => e = .returned (mv P (bG G) (bR G R) (bL L) (bC C)) ∧ Below w.heap.size w w' := by
 obtain ⟨G', hG⟩ : ∃ G', min (max G 2) 4096 = G' := ⟨_, rfl⟩; obtain ⟨R', hR⟩ : ∃ R', min (max R 1) (G' - 1) = R' := ⟨_, rfl⟩; obtain ⟨L', hL⟩ : ∃ L', min (max L 0) 255 = L' := ⟨_, rfl⟩; obtain ⟨C', hC⟩ : ∃ C', min (max C 0) 2147483647 = C' := ⟨_, rfl⟩; have hw : IntKind.i64.wrap (G' - 1) = G' - 1 := IntWalk.i64_in _ (by omega); rw [show bC C = C' from hC, show bL L = L' from hL, show bR G R = R' by unfold bR bG; rw [hG, hR], show bG G = G' from hG]; have hb1 := mbox_below 33 P G R L C w; have hs1 := mbox_size 33 P G R L C w; have hb2 := mbox_below 33 0 0 0 0 0 (mbox 33 P G R L C w); have HX := zj ((mbox_new 33 P G R L C w).below hb2); have HY := zj (mbox_new 33 0 0 0 0 0 (mbox 33 P G R L C w)); have HB := zj (hb1.trans' hb2); clear hb1 hb2 hs1; obtain ⟨x0, x1, x2, x3, x4⟩ := HX.out.cells; obtain ⟨y0, y1, y2, y3, y4⟩ := HY.out.cells; obtain ⟨f0, f1, f2, f3, f4⟩ := HX.out.free; obtain ⟨g0, g1, g2, g3, g4⟩ := HY.out.free; simp only [mbox] at x0 x1 x2 x3 x4 y0 y1 y2 y3 y4 f0 f1 f2 f3 f4 g0 g1 g2 g3 g4; go_enter Tryz.func100, Tryz.ntmps100; go_wp2_with fail; have hr := mbox_new 33 P G' R' L' C' (mbox 33 P G' R' L' C' w); rw [mbox_size] at hr; obtain ⟨r0, r1, r2, r3, r4⟩ := hr.cells; refine bodyPost_ret (v := mv P G' R' L' C') (by simp [results, Tryz.results100, go_sem, r0, r1, r2, r3, r4]) rfl ⟨rfl, ?_⟩; exact (mbox_below _ _ _ _ _ _ w).trans' (mbox_below _ _ _ _ _ _ _)
theorem tSize (p : Int) {b : Bool} (h : L7.mayBe p = b) : Hid (L7.Tells 64 #[.int .i64 p] (.bool b)) := zj fun W hW => (L7.size_any p W hW).mono fun e w' ⟨h1, h2⟩ => ⟨by rw [h1, h], by subst h2; exact Below.refl _ _⟩
theorem tBounded (P G R L C : Int) : Hid (L7.Tells 100 #[mv P G R L C] (mv P (bG G) (bR G R) (bL L) (bC C))) := zj fun W _ => bounded_any P G R L C W
theorem may_any (P G R L C : Int) (w : World) (hs : L7.Sizes w) :
  Calls Tryz.prog 60 #[mv P G R L C] w fun e w' => e = .returned (.bool (decide (May ⟨P, G, R, L, C⟩))) ∧ Below w.heap.size w w' := by
 have hb := mbox_below 33 P G R L C w; have HB := zj hb; have HK := zj (mbox_new 33 P G R L C w); have HS := zj (hs.below hs.lt hb); have HBD := tBounded P G R L C; have hiff := may_iff P G R L C; obtain ⟨r, HRS⟩ : ∃ r, Hid (r = decide (May ⟨P, G, R, L, C⟩)) := ⟨_, zj rfl⟩; rw [← HRS.out]; clear hb hs; generalize hw0 : mbox 33 P G R L C w = W0 at *; have hw1 : w.alloc (.cells #[.int .i64 P, .int .i64 G, .int .i64 R, .int .i64 L, .int .i64 C] 33) = W0 := hw0; clear hw0; have HSA : Hid (∀ V, Below W0.heap.size W0 V → (fun V => Hid (Below W0.heap.size W0 V) ∧ V.cell? ⟨w.heap.size, 0, none⟩ = some (.int .i64 P) ∧ V.cell? ⟨w.heap.size, 1, none⟩ = some (.int .i64 G) ∧ V.cell? ⟨w.heap.size, 2, none⟩ = some (.int .i64 R) ∧ V.cell? ⟨w.heap.size, 3, none⟩ = some (.int .i64 L) ∧ V.cell? ⟨w.heap.size, 4, none⟩ = some (.int .i64 C)) V) := zj (fun V hb => ⟨zj hb, (HK.out.below hb).cells⟩); have hSA := HSA.out _ (Below.refl _ _); have hSd := HSA.out _ (L5.below_drewN (Below.refl _ W0) 1)
 cases hm : L7.mayBe P with
 | false =>
  have HX : Hid (r = false) := zj (by rw [HRS.out]; exact dF (fun h => by have := (hiff.1 h).1; rw [hm] at this; cases this)); have HSZ := tSize P hm; clear hm hiff; go_enter Tryz.func60, Tryz.ntmps60; go_wp2_with fail
  go_region_with (first
   | (go_at_call 64; refine (L7.Tells.at HSZ HS hSd.1.out).mono ?_; rintro e V5 ⟨rfl, hb⟩)
   | fail "no arm")
  all_goals (go_wp2_with fail)
  all_goals (go_ret; exact ⟨by rw [HX.out] <;> rfl, HB.out.trans' hb⟩)
 | true =>
  have HSZ := tSize P hm; obtain ⟨G', hG⟩ : ∃ G', bG G = G' := ⟨_, rfl⟩; obtain ⟨R', hR⟩ : ∃ R', bR G R = R' := ⟨_, rfl⟩; obtain ⟨L', hL⟩ : ∃ L', bL L = L' := ⟨_, rfl⟩; obtain ⟨C', hC⟩ : ∃ C', bC C = C' := ⟨_, rfl⟩; rw [hG, hR, hL, hC] at hiff HBD
  have hX : r = (P == P && G == G' && R == R' && L == L' && C == C') := by
   rw [HRS.out]; by_cases h : May ⟨P, G, R, L, C⟩
   ·rw [dT h]
    obtain ⟨_, h1, h2, h3, h4⟩ := hiff.1 h; rw [← h1, ← h2, ← h3, ← h4]; simp
   ·rw [dF h]
    symm
    rw [Bool.eq_false_iff]; intro hh; simp at hh; exact h (hiff.2 ⟨hm, hh.1.1.1, hh.1.1.2, hh.1.2, hh.2⟩)
  have HX := zj hX; have heq := fun W => eqM P G R L C P G' R' L' C' W; obtain ⟨q, hq⟩ : ∃ q, (P == P && G == G' && R == R' && L == L' && C == C') = q := ⟨_, rfl⟩; rw [hq] at HX; simp only [hq] at heq; clear hm hiff hG hR hL hC hX HRS hq; go_enter Tryz.func60, Tryz.ntmps60; go_wp2_with fail
  go_region_held3 (fun V => Hid (Below W0.heap.size W0 V) ∧ V.cell? ⟨w.heap.size, 0, none⟩ = some (.int .i64 P) ∧ V.cell? ⟨w.heap.size, 1, none⟩ = some (.int .i64 G) ∧ V.cell? ⟨w.heap.size, 2, none⟩ = some (.int .i64 R) ∧ V.cell? ⟨w.heap.size, 3, none⟩ = some (.int .i64 L) ∧ V.cell? ⟨w.heap.size, 4, none⟩ = some (.int .i64 C)) (first | assumption | exact hSd)
   (first
    | (go_at_call 64; refine (L7.Tells.held HSZ HS (by assumption)).mono ?_; rintro e V5 ⟨rfl, hb⟩; have hSn := HSA.out _ hb)
    | (go_at_call 100; refine (L7.Tells.held HBD HS (by assumption)).mono ?_; rintro e V5 ⟨rfl, hb⟩; have hSn := HSA.out _ hb)
    | fail "no arm")
  go_wp2_with fail; go_ret
  exact ⟨by rw [HX.out] <;> rfl, HB.out.trans' hb⟩
def encV (P G R L C : Int) : Value := .tuple #[.string (enc ⟨P, G, R, L, C⟩).1, .int .i64 (enc ⟨P, G, R, L, C⟩).2]
def U32 (n : Int) : Prop := 0 ≤ n ∧ n ≤ 4294967295
abbrev four (n : Int) : ByteArray := ⟨(Lib.leBytes 4 n.toNat).toArray⟩
theorem four_size (n : Int) : (four n).size = 4 := L7.le4_size _
theorem enc_parts {P G R L C : Int} (h : May ⟨P, G, R, L, C⟩) : ∃ n : Nat, P = n + 34 ∧ n ≤ 990 ∧
  (⟨#[119, 105, 116, 104, 121]⟩ ++ four P ++ four G ++ four C : ByteArray).size = 17 ∧
  (⟨#[119, 105, 116, 104, 121]⟩ ++ four P ++ four G ++ four C ++ rep 0 n ++ ⟨#[87]⟩ : ByteArray) = ⟨(body ⟨P, G, R, L, C⟩).toArray⟩ ∧ (body ⟨P, G, R, L, C⟩).length = n + 18 := by
 have hp := mayBe_le h.1; simp only at hp; obtain ⟨n, hn⟩ := Int.eq_ofNat_of_zero_le (show 0 ≤ P - 34 by omega); refine ⟨n, by omega, by omega, ?_, ?_, ?_⟩
 ·simp only [ByteArray.size_append, four_size]
  rfl
 ·have e : P.toNat - 34 = n := by omega
  apply ByteArray.ext; simp [body, front, rep, e]
 ·rw [body_length _ (by simp only; omega)]
  simp only; omega
theorem enc_sizes {P G C : Int} (n : Nat) {X1 X2 X3 X4 X5 : ByteArray} (h1 : ⟨#[119, 105, 116, 104, 121]⟩ ++ four P = X1) (h2 : X1 ++ four G = X2) (h3 : X2 ++ four C = X3) (h4 : X3 ++ rep 0 n = X4) (h5 : X4 ++ ⟨#[87]⟩ = X5) : X1.size = 9 ∧ X2.size = 13 ∧ X3.size = 17 ∧ X4.size = 17 + n ∧ X5.size = 18 + n := by
 subst h1 h2 h3 h4 h5; simp only [ByteArray.size_append, four_size, rep_size]; refine ⟨rfl, rfl, rfl, ?_, ?_⟩
 ·show 5 + 4 + 4 + 4 + n = _
  omega
 ·show 5 + 4 + 4 + 4 + n + 1 = _
  omega
theorem held4 {c : Prop} {f : FuncId} {F4 : Int → ByteArray} {n : Int} {W0 W : World} (t : Hid (∀ n W, U32 n → Calls Tryz.prog f #[.int .u32 n] W fun e w' => e = .returned (.string (F4 n)) ∧ Below W.heap.size W w')) (u : U32 n) (b : Hid (Below W0.heap.size W0 W) ∧ c) : Calls Tryz.prog f #[.int .u32 n] W fun e w' => e = .returned (.string (F4 n)) ∧ Below W0.heap.size W0 w' :=
 (t.out n W u).mono fun e w' ⟨h1, h2⟩ => ⟨h1, b.1.out.trans' h2⟩
theorem enc_any (P G R L C : Int) (w : World) (hs : L7.Sizes w) :
  Calls Tryz.prog 31 #[mv P G R L C] w fun e w' => e = .returned (encV P G R L C) ∧ Below w.heap.size w w' := by
 have hb0 := mbox_below 33 P G R L C w; have HB0 := zj hb0; have HS0 := zj (hs.below hs.lt hb0); have HK := zj (mbox_new 33 P G R L C w); have HM := zj (fun W (h : L7.Sizes W) => may_any P G R L C W h); obtain ⟨r, HRS⟩ : ∃ r, Hid (r = encV P G R L C) := ⟨_, zj rfl⟩; rw [← HRS.out]; by_cases hmay : May ⟨P, G, R, L, C⟩
 ·obtain ⟨n, hn, hn2, _, hbody, hbl⟩ := enc_parts hmay
  have hp : 128 ≤ P ∧ P ≤ 1024 := mayBe_le hmay.1; have HX : Hid (r = .tuple #[.string ⟨(page ⟨P, G, R, L, C⟩).toArray⟩, .int .i64 0]) := zj (by rw [HRS.out, encV, enc_good hmay]); obtain ⟨X1, h1⟩ : ∃ X1 : ByteArray, ⟨#[119, 105, 116, 104, 121]⟩ ++ four P = X1 := ⟨_, rfl⟩; obtain ⟨X2, h2⟩ : ∃ X2, X1 ++ four G = X2 := ⟨_, rfl⟩; obtain ⟨X3, h3⟩ : ∃ X3, X2 ++ four C = X3 := ⟨_, rfl⟩; obtain ⟨X4, h4⟩ : ∃ X4, X3 ++ rep 0 n = X4 := ⟨_, rfl⟩; obtain ⟨X5, h5⟩ : ∃ X5 : ByteArray, X4 ++ ⟨#[87]⟩ = X5 := ⟨_, rfl⟩; obtain ⟨s1, s2, s3, s4, s5⟩ := enc_sizes n h1 h2 h3 h4 h5
  have hX5 : X5 = ⟨(body ⟨P, G, R, L, C⟩).toArray⟩ := by rw [← h5, ← h4, ← h3, ← h2, ← h1]; exact hbody
  have hg2 : 2 ≤ G ∧ G ≤ 4096 ∧ 0 ≤ C ∧ C ≤ 2147483647 ∧ 0 ≤ L ∧ L ≤ 255 ∧ 1 ≤ R ∧ R < G := by
   obtain ⟨_, h2, h3, h4, h5, h6, h7, h8, h9⟩ := hmay; exact ⟨h2, h3, h8, h9, h6, h7, h4, h5⟩
  have H4 : Hid (∀ n W, U32 n → Calls Tryz.prog 61 #[.int .u32 n] W fun e w' => e = .returned (.string (four n)) ∧ Below W.heap.size W w') := zj (fun n W h => L7.four_any n W h.1 h.2); have v1 : U32 P := ⟨by omega, by omega⟩; have v2 : U32 G := ⟨by omega, by omega⟩; have v3 : U32 C := ⟨by omega, by omega⟩; have HREP : Hid (∀ W, Calls Tryz.prog 62 #[.string ⟨#[0]⟩, .int .i64 n] W fun e w' => e = .returned (.string (rep 0 n)) ∧ Below W.heap.size W w') := zj (fun W => L7.repeat_zeros n W (by omega)); have HSE := zj (fun W (h : L7.Sizes W) => L7.seal_any (hd ⟨P, G, R, L, C⟩) X5 P W h (by simp [Lit.wf, IntKind.min, IntKind.max, IntKind.signed, IntKind.bits]; omega) (by unfold maxLen; omega)); have hsv := seal_ok hmay; simp only at hsv; rw [hX5, hsv, ← hX5] at HSE; rw [show L7.hv (hd ⟨P, G, R, L, C⟩) = .agg #[.int .i64 1, .int .i64 L, .int .i64 0, .int .i64 R, .int .i64 0] by rfl] at HSE; generalize (⟨(page ⟨P, G, R, L, C⟩).toArray⟩ : ByteArray) = PG at *; rw [dT hmay] at HM; have Z1 : Hid (¬ 9223372036854775807 < 5 + (four P).size) := zj (by rw [four_size]; decide); have Z2 : Hid (¬ 9223372036854775807 < X1.size + (four G).size) := zj (by rw [four_size]; omega); have Z3 : Hid (¬ 9223372036854775807 < X2.size + (four C).size) := zj (by rw [four_size]; omega); have Z4 : Hid (¬ 9223372036854775807 < X3.size + (rep 0 n).size) := zj (by rw [rep_size]; omega); have Z5 : Hid (¬ 9223372036854775807 < X4.size + (⟨#[87]⟩ : ByteArray).size) := zj (by show ¬ _ < X4.size + 1; omega); have U1 : Hid (IntKind.u32.wrap P = P) := zj (by rw [IntKind.wrap_u32]; omega); have U2 : Hid (IntKind.u32.wrap G = G) := zj (by rw [IntKind.wrap_u32]; omega); have U3 : Hid (IntKind.u32.wrap C = C) := zj (by rw [IntKind.wrap_u32]; omega); have I1 : Hid (IntKind.i64.wrap (P - 16) = P - 16) := zj (IntWalk.i64_in _ (by omega)); have I2 : Hid (IntKind.i64.wrap (P - 16 - (X3.size : Int)) = P - 16 - X3.size) := zj (IntWalk.i64_in _ (by omega)); have I3 : Hid (IntKind.i64.wrap (P - 16 - (X3.size : Int) - 1) = n) := zj (by rw [IntWalk.i64_in _ (by omega)]; omega); clear hmay hs hb0 hbody hbl hX5 hsv s1 s2 s3 s4 s5 hp hg2 hn2 hn; generalize four = F4 at *; generalize rep 0 n = Z at *; obtain ⟨c0, c1, c2, c3, c4⟩ := HK.out.cells; go_enter Tryz.func31, Tryz.ntmps31; go_wp2_with fail; refine (HM.out _ HS0.out).mono ?_; rintro e w2 ⟨rfl, hb2⟩; clear c0 c1 c2 c3 c4; have HS2 := zj (HS0.out.below HS0.out.lt hb2); have HB2 := zj (HB0.out.trans' hb2); have HK2 := zj (HK.out.below hb2); clear hb2 HB0 HS0 HK; have HSA : Hid (∀ V, Below w2.heap.size w2 V → (fun V => Hid (Below w2.heap.size w2 V) ∧ V.cell? ⟨w.heap.size, 0, none⟩ = some (.int .i64 P) ∧ V.cell? ⟨w.heap.size, 1, none⟩ = some (.int .i64 G) ∧ V.cell? ⟨w.heap.size, 4, none⟩ = some (.int .i64 C)) V) := zj (fun V hb => ⟨zj hb, (HK2.out.below hb).cells.1, (HK2.out.below hb).cells.2.1, (HK2.out.below hb).cells.2.2.2.2⟩)
  have hSA := HSA.out _ (Below.refl _ _); have hSd := HSA.out _ (L5.below_drewN (Below.refl _ w2) 1); go_wp2_with fail; have z1 := Z1.out; have z2 := Z2.out; have z3 := Z3.out; have u1 := U1.out; have u2 := U2.out; have u3 := U3.out
  go_region_held3 (fun V => Hid (Below w2.heap.size w2 V) ∧ V.cell? ⟨w.heap.size, 0, none⟩ = some (.int .i64 P) ∧ V.cell? ⟨w.heap.size, 1, none⟩ = some (.int .i64 G) ∧ V.cell? ⟨w.heap.size, 4, none⟩ = some (.int .i64 C)) (first | assumption | exact hSd)
   (first
    | (go_at_call 61; refine (held4 H4 (by assumption) (by assumption)).mono ?_; rintro e V5 ⟨rfl, hb⟩; have hSn := HSA.out _ hb)
    | fail "no arm")
  have HS5 := zj (HS2.out.below HS2.out.lt hb); have HB5 := zj (HB2.out.trans' hb); have HK5 := zj (HK2.out.below hb); clear hb hSA hSd hSn HSA u1 u2 u3 U1 U2 U3 z1 z2 z3 Z1 Z2 Z3 HS2 HB2 HK2; obtain ⟨c0, c1, c2, c3, c4⟩ := HK5.out.cells; have i1 := I1.out; have i2 := I2.out; have i3 := I3.out; go_wp2_with fail; refine (HREP.out _).mono ?_; rintro e V6 ⟨rfl, hb⟩; have HS6 := zj (HS5.out.below HS5.out.lt hb); have HB6 := zj (HB5.out.trans' hb); have HK6 := zj (HK5.out.below hb); clear hb c0 c1 c2 c3 c4 i1 i2 i3 HS5 HB5 HK5; obtain ⟨c0, c1, c2, c3, c4⟩ := HK6.out.cells; have z4 := Z4.out; have z5 := Z5.out; go_wp2_with fail; refine (HSE.out _ HS6.out).mono ?_; rintro e V7 ⟨rfl, hb⟩; go_wp2_with fail
  go_ret2
  exact ⟨by rw [HX.out] <;> rfl, HB6.out.trans' hb⟩
 ·have HX : Hid (r = .tuple #[.string ⟨#[]⟩, .int .i64 3]) := zj (by rw [HRS.out, encV, enc_form hmay])
  rw [dF hmay] at HM; clear hmay hs hb0; obtain ⟨c0, c1, c2, c3, c4⟩ := HK.out.cells; go_enter Tryz.func31, Tryz.ntmps31; go_wp2_with fail; refine (HM.out _ HS0.out).mono ?_; rintro e w2 ⟨rfl, hb2⟩; go_wp2_with fail
  go_ret2
  exact ⟨by rw [HX.out] <;> rfl, HB0.out.trans' hb2⟩
def decV (s : ByteArray) : Value := match dec s with
 | some m => .tuple #[mv m.p m.pg m.r m.l m.n, .int .i64 0]
 | none => .tuple #[mv 0 0 0 0 0, .int .i64 3]
theorem decV_some {s : ByteArray} {m : Mt} (h : dec s = some m) : decV s = .tuple #[mv m.p m.pg m.r m.l m.n, .int .i64 0] := by unfold decV; rw [h]
theorem decV_none {s : ByteArray} (h : dec s = none) : decV s = .tuple #[mv 0 0 0 0 0, .int .i64 3] := by unfold decV; rw [h]
theorem num_bd (b : ByteArray) (i : Nat) : 0 ≤ num b i ∧ num b i < 4294967296 := by
 have h := L7.WP.leNat_lt ((b.data.toList.drop i).take 4)
 have hl : ((b.data.toList.drop i).take 4).length ≤ 4 := by rw [List.length_take]; omega
 have h2 : 256 ^ ((b.data.toList.drop i).take 4).length ≤ 256 ^ 4 := Nat.pow_le_pow_right (by omega) hl
 have h3 : (256 : Nat) ^ 4 = 4294967296 := by decide
 unfold num; omega
theorem opn_room {s : ByteArray} (h : (L7.HP.opn s).2.2 = 0) : 112 ≤ (L7.HP.opn s).2.1.size ∧ (L7.HP.opn s).2.1.size ≤ 1008 := by
 by_cases hg : L7.mayBe s.size = true ∧ L7.HP.good s.data.toList
 ·rw [L7.HP.opn_good hg.1 hg.2]
  have hp := mayBe_le hg.1; show 112 ≤ (s.extract 16 s.size).size ∧ (s.extract 16 s.size).size ≤ 1008; rw [ByteArray.size_extract]; omega
 ·rw [L7.HP.opn_bad hg] at h
  cases h
def readV (s : ByteArray) : Value :=
 if (L7.HP.opn s).2.2 = 0 then .tuple #[mv (num (L7.HP.opn s).2.1 5) (num (L7.HP.opn s).2.1 9) (L7.HP.opn s).1.r (L7.HP.opn s).1.l (num (L7.HP.opn s).2.1 13), .int .i64 0]
 else .tuple #[mv 0 0 0 0 0, .int .i64 (L7.HP.opn s).2.2]
theorem read_any (s : ByteArray) (w : World) (hz : L7.Sizes w) (hs : s.size ≤ maxLen) :
  Calls Tryz.prog 56 #[.string s] w fun e w' => e = .returned (readV s) ∧ Below w.heap.size w w' := by
 have hb0 := mbox_below 33 0 0 0 0 0 w; have HB := zj hb0; have HK := zj (mbox_new 33 0 0 0 0 0 w); have HO := zj (L7.open_any s _ (hz.below hz.lt hb0) hs); have hroom := @opn_room s; obtain ⟨rv, HRS⟩ : ∃ rv, Hid (rv = readV s) := ⟨_, zj rfl⟩; rw [← HRS.out]; have hrv := HRS.out; unfold readV at hrv; unfold L7.opnV at HO; generalize L7.HP.opn s = x at *; obtain ⟨⟨k, l, c, r, f⟩, b, e⟩ := x; simp only [L7.hv] at HO; simp only at hroom hrv; clear hb0 hz HRS; by_cases he : e = 0
 ·subst he
  obtain ⟨hr1, hr2⟩ := hroom rfl; rw [if_pos rfl] at hrv; have r5 := zj (fun W => L7.read_any b 5 W (by omega) (by omega) (by unfold maxLen; omega)); have r9 := zj (fun W => L7.read_any b 9 W (by omega) (by omega) (by unfold maxLen; omega)); have r13 := zj (fun W => L7.read_any b 13 W (by omega) (by omega) (by unfold maxLen; omega)); have R5 : Hid (∀ W, Calls Tryz.prog 99 #[.string b, .int .i64 5] W fun e w' => e = .returned (.tuple #[.int .u32 (num b 5), .int .i64 0]) ∧ W = w') := r5; have R9 : Hid (∀ W, Calls Tryz.prog 99 #[.string b, .int .i64 9] W fun e w' => e = .returned (.tuple #[.int .u32 (num b 9), .int .i64 0]) ∧ W = w') := r9; have R13 : Hid (∀ W, Calls Tryz.prog 99 #[.string b, .int .i64 13] W fun e w' => e = .returned (.tuple #[.int .u32 (num b 13), .int .i64 0]) ∧ W = w') := r13; have b5 := num_bd b 5; have b9 := num_bd b 9; have b13 := num_bd b 13; generalize num b 5 = n5 at *; generalize num b 9 = n9 at *; generalize num b 13 = n13 at *; have w5 : IntKind.i64.wrap n5 = n5 := IntWalk.i64_in _ (by omega); have w9 : IntKind.i64.wrap n9 = n9 := IntWalk.i64_in _ (by omega); have w13 : IntKind.i64.wrap n13 = n13 := IntWalk.i64_in _ (by omega); have HX := zj hrv; clear hroom hrv r5 r9 r13 b5 b9 b13 hr1 hr2; go_enter Tryz.func56, Tryz.ntmps56; go_wp2_with fail
  go_step3
  go_wp2_with fail; refine HO.out.mono ?_; rintro e V ⟨rfl, hb⟩; have HBV := zj (HB.out.trans' hb); have HKV := zj (HK.out.below hb); have HVS : Hid (w.heap.size < V.heap.size + 1) := zj (by have := HBV.out.size; omega); have hbh := L5.below_alloc V (.cells #[.int .i64 k, .int .i64 l, .int .i64 c, .int .i64 r, .int .i64 f] 120); have HHX := zj (show L7.Bx 120 V.heap.size ⟨k, l, c, r, f⟩ (V.alloc (.cells #[.int .i64 k, .int .i64 l, .int .i64 c, .int .i64 r, .int .i64 f] 120)) from heap_alloc_new _ _); have HBH := zj (HBV.out.trans' hbh); have HKH := zj (HKV.out.below hbh); obtain ⟨y0, y1, y2, y3, y4⟩ := HHX.out.cells; clear hb hbh HBV HKV HB HK HO; go_wp2_with fail; clear y0 y1 y2 y3 y4
  have HG : Hid (Mx 33 (V.heap.size + 1) 0 0 r l 0 (mbox 33 0 0 r l 0 (V.alloc (.cells #[.int .i64 k, .int .i64 l, .int .i64 c, .int .i64 r, .int .i64 f] 120)))) := zj (by
   have h := mbox_new 33 0 0 r l 0 (V.alloc (.cells #[.int .i64 k, .int .i64 l, .int .i64 c, .int .i64 r, .int .i64 f] 120))
   simpa using h)
  have hb := mbox_below 33 0 0 r l 0 (V.alloc (.cells #[.int .i64 k, .int .i64 l, .int .i64 c, .int .i64 r, .int .i64 f] 120)); have HB1 := zj (HBH.out.trans' hb); have HK1 := zj (HKH.out.below hb); clear hb HBH HKH HHX; simp only [mbox] at HG HB1 HK1; generalize (V.alloc (.cells #[.int .i64 k, .int .i64 l, .int .i64 c, .int .i64 r, .int .i64 f] 120)).alloc (.cells #[.int .i64 0, .int .i64 0, .int .i64 r, .int .i64 l, .int .i64 0] 33) = W1 at *; generalize V.heap.size + 1 = gm at *
  go_step3
  go_wp2_with fail
  go_loopw [8] (fun iv wr => ∃ j : Nat, j ≤ 2 ∧ iv = .int .i64 (5 + 4 * j) ∧ Hid (Mx 33 gm (if j = 0 then 0 else n5) (if j = 2 then n9 else 0) r l 0 wr) ∧ Hid (Mx 33 w.heap.size 0 0 0 0 0 wr) ∧ Hid (Below w.heap.size w wr)) (fun iv _ => 20 - (intOf iv).toNat)
  case atStart => exact ⟨0, by omega, rfl, HG, HK1, HB1⟩
  case round =>
   obtain ⟨j, hj, rfl, HG, HK, HB⟩ := hrel; rcases (show j = 0 ∨ j = 1 ∨ j = 2 by omega) with rfl | rfl | rfl
   ·have HG := zj (show Mx 33 gm 0 0 r l 0 wr from HG.out)
    obtain ⟨c0, c1, c2, c3, c4⟩ := HG.out.cells; obtain ⟨f0, f1, f2, f3, f4⟩ := HG.out.free; go_wp2_with fail; refine (R5.out _).mono ?_; rintro e w2 ⟨rfl, rfl⟩; go_wp2_with fail
    go_roundw
    case rel => exact ⟨1, by omega, by go_num, zj (HG.out.set0 n5), zj (HK.out.other (by have := HVS.out; omega) _), zj (HB.out.setCell (show w.heap.size ≤ gm by have := HVS.out; omega) _)⟩
    case measure => simp [intOf]
   ·have HG := zj (show Mx 33 gm n5 0 r l 0 wr from HG.out)
    obtain ⟨c0, c1, c2, c3, c4⟩ := HG.out.cells; obtain ⟨f0, f1, f2, f3, f4⟩ := HG.out.free; go_wp2_with fail; refine (R9.out _).mono ?_; rintro e w2 ⟨rfl, rfl⟩; go_wp2_with fail
    go_roundw
    case rel => exact ⟨2, by omega, by go_num, zj (HG.out.set1 n9), zj (HK.out.other (by have := HVS.out; omega) _), zj (HB.out.setCell (show w.heap.size ≤ gm by have := HVS.out; omega) _)⟩
    case measure => simp [intOf]
   ·have HG := zj (show Mx 33 gm n5 n9 r l 0 wr from HG.out)
    obtain ⟨c0, c1, c2, c3, c4⟩ := HG.out.cells; obtain ⟨f0, f1, f2, f3, f4⟩ := HG.out.free; have HG2 := zj (HG.out.set4 n13); have HK2 := zj (show Mx 33 w.heap.size 0 0 0 0 0 (wr.setCell ⟨gm, 4, none⟩ (.int .i64 n13)) from HK.out.other (by have := HVS.out; omega) _); have HB2 := zj (show Below w.heap.size w (wr.setCell ⟨gm, 4, none⟩ (.int .i64 n13)) from HB.out.setCell (show w.heap.size ≤ gm by have := HVS.out; omega) _); obtain ⟨d0, d1, d2, d3, d4⟩ := HG2.out.cells; obtain ⟨k0, k1, k2, k3, k4⟩ := HK2.out.cells; obtain ⟨q0, q1, q2, q3, q4⟩ := HK2.out.free; go_wp2_with fail; refine (R13.out _).mono ?_; rintro e w2 ⟨rfl, rfl⟩; go_wp2_with fail; rw [Exit.noGoto_ret]; obtain ⟨r0, r1, r2, r3, r4⟩ := (setM_box HK2.out n5 n9 r l n13).cells; unfold setM at r0 r1 r2 r3 r4; refine bodyPost_ret (v := .tuple #[mv n5 n9 r l n13, .int .i64 0]) (by simp [results, Tryz.results56, go_sem, r0, r1, r2, r3, r4]) rfl ⟨by rw [HX.out], ?_⟩; exact setM_below HB2.out (Nat.le_refl _) n5 n9 r l n13
 ·have hcn : (e != 0) = true := by simpa using he
  have hce : (e == 0) = false := by simpa using he
  rw [if_neg he] at hrv; have HX := zj hrv; clear hroom hrv he; go_enter Tryz.func56, Tryz.ntmps56; go_wp2_with fail
  go_step3
  go_wp2_with fail; refine HO.out.mono ?_; rintro e' V ⟨rfl, hb⟩; have hb := hb.trans' (L5.below_alloc V (.cells #[.int .i64 k, .int .i64 l, .int .i64 c, .int .i64 r, .int .i64 f] 120)); have HBQ := zj (HB.out.trans' hb); have HKQ := zj (HK.out.below hb); obtain ⟨u0, u1, u2, u3, u4⟩ := HKQ.out.cells; obtain ⟨f0, f1, f2, f3, f4⟩ := HKQ.out.free; clear hb; go_wp2_with fail; rw [Exit.noGoto_ret]; obtain ⟨r0, r1, r2, r3, r4⟩ := (setM_box HKQ.out 0 0 0 0 0).cells; unfold setM at r0 r1 r2 r3 r4; refine bodyPost_ret (v := .tuple #[mv 0 0 0 0 0, .int .i64 e]) (by simp [results, Tryz.results56, go_sem, r0, r1, r2, r3, r4]) rfl ⟨by rw [HX.out], ?_⟩; exact setM_below HBQ.out (Nat.le_refl _) 0 0 0 0 0
theorem text_yes {a b : ByteArray} (h : a = b) : (a.toList == b.toList) = true := L5.same_yes (by rw [h])
theorem text_no {a b : ByteArray} (h : a ≠ b) : (a.toList == b.toList) = false := L5.same_no (fun e => h (ByteArray.ext (Array.toList_inj.1 e)))
theorem dec_any (s : ByteArray) (w : World) (hz : L7.Sizes w) (hs : s.size ≤ maxLen) :
  Calls Tryz.prog 28 #[.string s] w fun e w' => e = .returned (decV s) ∧ Below w.heap.size w w' := by
 have hb0 := mbox_below 33 0 0 0 0 0 w; have HB := zj hb0; have HK := zj (mbox_new 33 0 0 0 0 0 w); have HG := zj (hz.below hz.lt hb0); have HO := zj (read_any s _ (hz.below hz.lt hb0) hs); have hbad := @dec_bad s; have hyes := @dec_yes s; have hno := @dec_no s; unfold readV at HO; generalize L7.HP.opn s = x at *; obtain ⟨⟨k, l, c, r, f⟩, b, e⟩ := x; simp only at HO hbad hyes hno; unfold told at hyes hno; simp only at hyes hno; clear hb0 hz; by_cases he : e = 0
 ·subst he
  rw [if_pos rfl] at HO; generalize num b 5 = n5 at *; generalize num b 9 = n9 at *; generalize num b 13 = n13 at *; have HE := zj (fun W (h : L7.Sizes W) => enc_any n5 n9 r l n13 W h); obtain ⟨S2, c2, he⟩ : ∃ S2 c2, enc ⟨n5, n9, r, l, n13⟩ = (S2, c2) := ⟨_, _, rfl⟩; rw [encV, he] at HE; rw [he] at hyes hno; have HYES := zj (hyes rfl); have HNO := zj (hno rfl); clear hbad hyes hno he; go_enter Tryz.func28, Tryz.ntmps28; go_wp2_with fail; refine HO.out.mono ?_; rintro e V ⟨rfl, hb⟩; have hbh := mbox_below 33 n5 n9 r l n13 V; have HC := zj (mbox_new 33 n5 n9 r l n13 V); have HB2 := zj (HB.out.trans' (hb.trans' hbh)); have HK2 := zj (HK.out.below (hb.trans' hbh)); have HG2 := zj (HG.out.below HG.out.lt (hb.trans' hbh)); obtain ⟨x0, x1, x2, x3, x4⟩ := HC.out.cells; simp only [mbox] at x0 x1 x2 x3 x4; clear hb hbh HB HK HG HO; go_wp2_with fail; clear x0 x1 x2 x3 x4; refine (HE.out _ HG2.out).mono ?_; rintro e V3 ⟨rfl, hb⟩; have HKQ := zj (HK2.out.below hb); have HBQ := zj (HB2.out.trans' hb); obtain ⟨x0, x1, x2, x3, x4⟩ := (HC.out.below hb).cells; obtain ⟨u0, u1, u2, u3, u4⟩ := HKQ.out.cells; obtain ⟨f0, f1, f2, f3, f4⟩ := HKQ.out.free; clear hb HK2 HB2 HG2 HC; by_cases hc0 : c2 = 0
  ·subst hc0
   by_cases hS : S2 = s
   ·subst hS
    have hz := text_yes (rfl : S2 = S2)
    have hz2 : (S2.toList != S2.toList) = false := by simp
    have HX : Hid (decV S2 = .tuple #[mv n5 n9 r l n13, .int .i64 0]) := zj (decV_some (HYES.out rfl)); go_wp2_with fail; obtain ⟨r0, r1, r2, r3, r4⟩ := (setM_box HKQ.out n5 n9 r l n13).cells; unfold setM at r0 r1 r2 r3 r4; refine bodyPost_ret (v := .tuple #[mv n5 n9 r l n13, .int .i64 0]) (by simp [results, Tryz.results28, go_sem, r0, r1, r2, r3, r4]) rfl ⟨by rw [HX.out], ?_⟩; exact setM_below HBQ.out (Nat.le_refl _) n5 n9 r l n13
   ·have hz := text_no hS
    have hz2 : (S2.toList != s.toList) = true := by simp only [bne, hz]; rfl
    have HX : Hid (decV s = .tuple #[mv 0 0 0 0 0, .int .i64 3]) := zj (decV_none (HNO.out (fun h => hS (congrArg Prod.fst h)))); clear hS; go_wp2_with fail; obtain ⟨r0, r1, r2, r3, r4⟩ := (setM_box HKQ.out 0 0 0 0 0).cells; unfold setM at r0 r1 r2 r3 r4; refine bodyPost_ret (v := .tuple #[mv 0 0 0 0 0, .int .i64 3]) (by simp [results, Tryz.results28, go_sem, r0, r1, r2, r3, r4]) rfl ⟨by rw [HX.out], ?_⟩; exact setM_below HBQ.out (Nat.le_refl _) 0 0 0 0 0
  ·have hcn : (c2 != 0) = true := by simpa using hc0
   have hce : (c2 == 0) = false := by simpa using hc0
   have HX : Hid (decV s = .tuple #[mv 0 0 0 0 0, .int .i64 3]) := zj (decV_none (HNO.out (fun h => hc0 (congrArg Prod.snd h)))); clear hc0; go_wp2_with fail; obtain ⟨r0, r1, r2, r3, r4⟩ := (setM_box HKQ.out 0 0 0 0 0).cells; unfold setM at r0 r1 r2 r3 r4; refine bodyPost_ret (v := .tuple #[mv 0 0 0 0 0, .int .i64 3]) (by simp [results, Tryz.results28, go_sem, r0, r1, r2, r3, r4]) rfl ⟨by rw [HX.out], ?_⟩; exact setM_below HBQ.out (Nat.le_refl _) 0 0 0 0 0
 ·have hcn : (e != 0) = true := by simpa using he
  have hce : (e == 0) = false := by simpa using he
  rw [if_neg he] at HO; have HX : Hid (decV s = .tuple #[mv 0 0 0 0 0, .int .i64 3]) := zj (decV_none (hbad he)); clear hbad hyes hno he; go_enter Tryz.func28, Tryz.ntmps28; go_wp2_with fail; refine HO.out.mono ?_; rintro e' V ⟨rfl, hb⟩; have hb := hb.trans' (mbox_below 33 0 0 0 0 0 V); have HBQ := zj (HB.out.trans' hb); have HKQ := zj (HK.out.below hb); obtain ⟨u0, u1, u2, u3, u4⟩ := HKQ.out.cells; obtain ⟨f0, f1, f2, f3, f4⟩ := HKQ.out.free; simp only [mbox] at u0 u1 u2 u3 u4 f0 f1 f2 f3 f4; clear hb; go_wp2_with fail; obtain ⟨r0, r1, r2, r3, r4⟩ := (setM_box HKQ.out 0 0 0 0 0).cells; unfold setM at r0 r1 r2 r3 r4; refine bodyPost_ret (v := .tuple #[mv 0 0 0 0 0, .int .i64 3]) (by simp [results, Tryz.results28, go_sem, r0, r1, r2, r3, r4]) rfl ⟨by rw [HX.out], ?_⟩; exact setM_below HBQ.out (Nat.le_refl _) 0 0 0 0 0
end Go.Proofs.YtpeghilfldpgfaaGreatDoor.L13
namespace Go.Proofs.YtpeghilfldpgfaaGreatDoor.L10
open Go Go.ChangeShapes Go.WideShapes Go.ChangeAt Go.RowKit NP
theorem Glo.of_heap {w w' : World} (h : Glo w) (e : w'.heap = w.heap) : Glo w' := by
 have hc : ∀ p : Addr, w'.cell? p = w.cell? p := fun p => World.cell?_of_block (by rw [e]); obtain ⟨⟨s0, s1, s2, s3⟩, hp, ht⟩ := h; refine ⟨⟨(hc _).trans s0, (hc _).trans s1, (hc _).trans s2, (hc _).trans s3⟩, ?_, (hc _).trans ht⟩; unfold Pow Lib.TabIs World.var? at *; rw [pow_named] at *; simp only [Option.bind_some] at *; rw [e]; exact hp
theorem lift_laid {H : Type} {enc : TypeId × Value → H} {a : Assume} {C : Checked} {os : Os} {f : FuncId} {fn : Func} {s : ChangeSpec} {conds : List PathCond} {X : World → Array Value → Prop}
  (own : ownKnob C.prog.godebug = none) (started : os.Started) (noInit : C.prog.inits.idxOf? f = none) (hfn : C.prog.funcs[f]? = some fn) (hX : ∀ w args, X w args → Glo w)
  (witness : ∃ (w : World) (tape : Tape) (i : Input), w.os = os ∧ (w.forCall tape i).Shaped C.prog ∧ i.vars = [] ∧ Input.okWide C.prog (w.forCall tape i) .any w.heap.size f i ∧
   ((s.pre enc C.prog fn conds false (w.forCall tape i).memory i.args ∧ X (w.forCall tape i).memory i.args) ∧ sizedMet enc C.prog fn (OpenSpec.ofChange s) false (w.forCall tape i).memory i.args) ∧ a.holds C.prog (lone (Frame.enter C.prog f i.args .normal) [] (w.forCall tape i)))
  (walk : ∀ (W : World) (base : Nat) (args : Array Value) (ds gs : List (DataW H)) (before : List MemPlace),
   (∀ (j : Nat) t v, fn.params[j]? = some t → args[j]? = some v → Value.okWide C.prog W .any base t v) →
   DataW.Whole enc C.prog fn.params.toList s.vars false W args.toList ds gs before → Glo W →
   Calls C.prog f args W fun e W' => ∃ v, e = .returned v ∧ s.post enc C.prog fn false true false false W args v W') :
  ReturnsInHanded a C os f .any (fun w args => (s.pre enc C.prog fn conds false w args ∧ X w args) ∧ sizedMet enc C.prog fn (OpenSpec.ofChange s) false w args) (s.post enc C.prog fn false true false false) := by
 refine returnsInHanded_of_calls own started noInit witness ?_; intro w tape i _ hsh _ hok hpre _; obtain ⟨_, _, _, fn', hfn', _, _, _, _, hval⟩ := hok; obtain rfl : fn' = fn := Option.some.inj (hfn'.symm.trans hfn); obtain ⟨⟨⟨ds, gs, before, hw, _⟩, hx⟩, _⟩ := hpre; refine (walk (w.forCall tape i) w.heap.size i.args ds gs before hval (DataW.Whole.of_heap (by rfl) hw) ((hX _ _ hx).of_heap (by rfl))).mono fun e W' ⟨v, he, hp⟩ => ?_; subst he; exact ChangeSpec.post_blind hp
def plainLaid : List (String × DataW Unit) := [("math/bits.deBruijn32tab", Rows.laid_math_bits_deBruijn32tab), ("math/bits.deBruijn64tab", Rows.laid_math_bits_deBruijn64tab), ("internal/strconv.uint64pow10", Rows.laid_internal_strconv_uint64pow10), ("withy/disk.sizes", Rows.laid_withy_disk_sizes)]
def allLaid : List (String × DataW Unit) := [("math/bits.deBruijn32tab", Rows.laid_math_bits_deBruijn32tab), ("math/bits.deBruijn64tab", Rows.laid_math_bits_deBruijn64tab), ("internal/strconv.uint64pow10", Rows.laid_internal_strconv_uint64pow10), ("errors.errorType", Rows.laid_errors_errorType), ("withy/disk.sizes", Rows.laid_withy_disk_sizes)]
theorem Tryz.et : Tryz.prog.globalNamed "errors.errorType" = some 0 := by kernel_rfl
theorem Tryz.rt : (Tryz.prog.cutTypes.find? (·.1 == "internal/reflectlite.rtype")).map (·.2) = some 253 := by kernel_rfl
theorem Tryz.oneRow : ((List.range Tryz.prog.types.size).filter fun t => Tryz.prog.rowNamed t [101, 114, 114, 111, 114]) = [112] := by kernel_rfl
theorem Tryz.errHandle : typeHandle Tryz.prog 112 = .pointer (some ⟨6, 112, none⟩) := by kernel_rfl
theorem glo_of {W : World} (h : laidMetH Tryz.prog allLaid W) : Glo W := by
 have h' : laidMet Tryz.prog plainLaid W ∧ handlesMet Tryz.prog [("errors.errorType", Rows.laid_errors_errorType)] W := h; obtain ⟨h1, h2⟩ := h'; unfold plainLaid at h1; have h3 := h1.tail.tail; refine ⟨L7.sizes_of h3.tail, ?_, ?_⟩
 ·exact Lib.tabIs_of_head (g := 3) (t := 320) (e := 230) (n := 20) (rest := [("withy/disk.sizes", Rows.laid_withy_disk_sizes)]) (by kernel_rfl) (by kernel_rfl) Tryz.underlying320 Tryz.underlying230 (by kernel_rfl) (by kernel_rfl) h3
 ·obtain ⟨name, u, ty, e1, e2, e3, e4, e5⟩ := h2 _ (List.mem_singleton.2 rfl)
  have en : name = [101, 114, 114, 111, 114] := (Option.some.inj e1).symm; subst en; obtain rfl := Option.some.inj (Tryz.rt.symm.trans e2); have hm : ty ∈ (List.range Tryz.prog.types.size).filter fun t => Tryz.prog.rowNamed t [101, 114, 114, 111, 114] := List.mem_filter.2 ⟨List.mem_range.2 e3, e4⟩; rw [Tryz.oneRow] at hm; obtain rfl := List.mem_singleton.1 hm; rw [Tryz.errHandle] at e5; unfold ErrT
  simpa using World.var?_cell Tryz.et e5 0
noncomputable def laidW0 (os : Os) : World :=
 let w0 := World.holding Tryz.prog os ⟨#[], #[], []⟩
 { w0 with heap := w0.heap.modify 0 fun
   | .cells _ t frozen => .cells #[.iface 253 (.agg #[.pointer (some ⟨6, 112, none⟩)])] t frozen
   | o => o }
noncomputable def laidW (os : Os) : World := (laidW0 os).layVars Tryz.prog plainLaid
theorem laidW_os (os : Os) : (laidW os).os = os := World.layVars_os _ _ _
theorem laidMet_layAll {P : Program} {w0 : World} {laid : List (String × DataW Unit)} (args : Array Value)
  (hf : w0.layFits P laid [] = true) (hi : w0.layIfaces P laid (w0.layVars P laid) = true) :
  laidMet P laid ((w0.layVars P laid).forCall (fun _ _ => 0) ⟨#[], args, []⟩).memory := by
 have e1 : (laid.filter fun x => (laid.map (·.1)).contains x.1) = laid := List.filter_eq_self.2 fun x hx => List.contains_iff_mem.2 (List.mem_map.2 ⟨x, hx, rfl⟩)
 have e2 : (laid.filter fun x => !(laid.map (·.1)).contains x.1) = [] := List.filter_eq_nil_iff.2 fun x hx => by rw [List.contains_iff_mem.2 (List.mem_map.2 ⟨x, hx, rfl⟩)]; simp
 have h : laidMet P laid (w0.layVars P laid) := laidMet_layVars (w0 := w0) (laid.map (·.1)) [] (by rw [e1]) (by rw [e1]; exact hf) (by rw [e1]; exact hi) (by rw [e2]; exact LaidIn.none); exact h.of_heap (by simp [World.memory, World.forCall, Input.heap])
theorem laidW_met (os : Os) (args : Array Value) : laidMetH Tryz.prog allLaid ((laidW os).forCall (fun _ _ => 0) ⟨#[], args, []⟩).memory :=
 laidMetH_of_parts (laidMet_layAll args (by kernel_rfl) (by kernel_rfl)) (by kernel_rfl)
end Go.Proofs.YtpeghilfldpgfaaGreatDoor.L10
