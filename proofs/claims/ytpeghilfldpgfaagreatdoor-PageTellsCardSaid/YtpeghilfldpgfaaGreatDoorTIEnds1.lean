import Derived.Test.YtpeghilfldpgfaaGreatDoorT10
set_option linter.unusedVariables false
set_option linter.unusedSimpArgs false
set_option maxHeartbeats 8000000
set_option maxRecDepth 100000
namespace Go.Proofs.YtpeghilfldpgfaaGreatDoor.L11
open Go.RowKit IP
attribute [local go_sem] Oper.semAt_some
theorem no_row {X : Nat} {t : TypeId} {b : Bool} {W : World} (h : Boxed W X t (.bool b)) : ∀ k, ¬ RowAt X W k := fun k ⟨a, n, c, h1, _⟩ => by
 rw [h.cell] at h1; cases h1
theorem boxed_cells {X : Nat} {t : TypeId} {v : Value} {W : World} (h : Boxed W X t v) : IsCells W X := ⟨_, _, _, h⟩
def AllOk (R : Int) (H : ByteArray) (ss : List ByteArray) (p : Nat) {n : Nat} (l : List (Pl n)) : Prop := ∀ x ∈ l, OkAt R H ss p x.1
def SomeBad (R : Int) (H : ByteArray) (ss : List ByteArray) (p : Nat) {n : Nat} (l : List (Pl n)) : Prop := ∃ x ∈ l, ¬ OkAt R H ss p x.1
theorem rightEnds_z (F L R : Int) (H : ByteArray) (A : Option Addr) (n ca : Nat) (C : Option Addr) (m cb : Nat) (ss : List ByteArray) (p : Nat) (w : World) (hc : L5.Lies w w.heap.size C ss) (hC : C = none → m = 0) (hn : n = m + 1) (hm : ss.length = m) (hcb : m ≤ cb) (hl : m ≤ 100000) (hp : p ≤ 1000000) (hR : R = 0) (hH0 : H.size = 0) :
  Calls Tryz.prog 124 #[nv F L R H A n ca C m cb, .int .i64 p] w fun e w' => e = .returned (.bool (decide (EndsQ R H ss p))) ∧ Below w.heap.size w w' := by
 subst hR
 have hE : H.toList.isEmpty = true := by
  have h2 : H.data.toList.length = H.size := by simp
  rw [Lib.toList_data, List.eq_nil_of_length_eq_zero (by omega : H.data.toList.length = 0)]; rfl
 have h0R : (0 : Int) = 0 → H.size = 0 := fun _ => hH0; obtain ⟨r, HR⟩ : ∃ r, Hid (r = decide (EndsQ 0 H ss p)) := ⟨_, zj rfl⟩; rw [← HR.out]; have HYES : Hid ((∀ i, i < n → OkAt 0 H ss p i) → r = true) := zj (fun h => by rw [HR.out]; exact dT (ends_iff.1 ⟨h0R, fun i hi => h i (by omega)⟩)); have HNO : Hid (∀ i, i < n → ¬ OkAt 0 H ss p i → r = false) := zj (fun i hi h => by rw [HR.out]; exact dF (fun hq => h ((ends_iff.2 hq).2 i (by omega)))); have HSL : Hid (ss.length = m) := zj hm; have hw8 : IntKind.i64.wrap ((p : Int) / 8) = (p : Int) / 8 := IntWalk.i64_in _ (by omega); refine (callsIn_wide (n := 5)).1 ?_; refine callsIn_of_wp_marks Tryz.func124 rfl trivial ?_ rfl; simp only [Tryz.ntmps124, List.size_toArray, List.length_cons, List.length_nil, Nat.reduceAdd, Nat.reduceSub, Array.replicate_succ, Array.replicate_zero, List.push_toArray, List.append_toArray, List.nil_append, List.cons_append]; have HC := zj hc; have HCN := zj hC; have HN := zj hn; clear hc hC hn hm h0R
 gi_wp2_with fail
 refine ⟨trivial, ?_⟩; refine (callsIn_wide.2 (spans_any F L 0 H A n ca C m cb ⟨#[]⟩ _)).mono ?_; rintro e w1 ⟨rfl, rfl⟩; have hk1 := nbox_new 29 F L 0 H A n ca C m cb w; have b1 := (((Boxed.new (nbox 29 F L 0 H A n ca C m cb w) 3 (.int .i64 p)).alloc (.cells #[.bool false] 4)).alloc (.cells #[.int .i64 F, .int .i64 L, .int .i64 0, .string H, .slice A n ca, .slice C m cb] 29)).alloc (.cells #[.string ⟨#[]⟩] 9); have b2 := ((Boxed.new ((nbox 29 F L 0 H A n ca C m cb w).alloc (.cells #[.int .i64 p] 3)) 4 (.bool false)).alloc (.cells #[.int .i64 F, .int .i64 L, .int .i64 0, .string H, .slice A n ca, .slice C m cb] 29)).alloc (.cells #[.string ⟨#[]⟩] 9); have b3 := (nbox_new 29 F L 0 H A n ca C m cb (((nbox 29 F L 0 H A n ca C m cb w).alloc (.cells #[.int .i64 p] 3)).alloc (.cells #[.bool false] 4))).below (L5.below_alloc _ (.cells #[.string ⟨#[]⟩] 9)); have b4 := Boxed.new (nbox 29 F L 0 H A n ca C m cb (((nbox 29 F L 0 H A n ca C m cb w).alloc (.cells #[.int .i64 p] 3)).alloc (.cells #[.bool false] 4))) 9 (.string ⟨#[]⟩)
 have hB0 : Below w.heap.size w ((nbox 29 F L 0 H A n ca C m cb (((nbox 29 F L 0 H A n ca C m cb w).alloc (.cells #[.int .i64 p] 3)).alloc (.cells #[.bool false] 4))).alloc (.cells #[.string ⟨#[]⟩] 9)) :=
  ((((nbox_below 29 F L 0 H A n ca C m cb w).trans' (L5.below_alloc _ _)).trans' (L5.below_alloc _ _)).trans' (L5.below_alloc _ _)).trans' (L5.below_alloc _ _)
 have hsz : ((nbox 29 F L 0 H A n ca C m cb (((nbox 29 F L 0 H A n ca C m cb w).alloc (.cells #[.int .i64 p] 3)).alloc (.cells #[.bool false] 4))).alloc (.cells #[.string ⟨#[]⟩] 9)).heap.size = w.heap.size + 5 := by simp
 have HSZ := zj hsz
 gi_wp2_with fail
 simp only [World.size_alloc, nbox] at b1 b2 b3 b4 hB0 ⊢; clear hk1 hsz; obtain ⟨W0, hW0⟩ : ∃ W0, ((((w.alloc (.cells #[.int .i64 F, .int .i64 L, .int .i64 0, .string H, .slice A n ca, .slice C m cb] 29)).alloc (.cells #[.int .i64 p] 3)).alloc (.cells #[.bool false] 4)).alloc (.cells #[.int .i64 F, .int .i64 L, .int .i64 0, .string H, .slice A n ca, .slice C m cb] 29)).alloc (.cells #[.string ⟨#[]⟩] 9) = W0 := ⟨_, rfl⟩; simp only [nbox] at HSZ; rw [hW0] at b1 b2 b3 b4 hB0 HSZ ⊢; clear hW0; have hsz := HSZ.out
 refine wpIn_rangeFunc_ownH rfl (by omega) (gf := 177) (lb := #[.pointer (some ⟨w.heap.size + 1 + 1 + 1, 0, none⟩), .pointer (some ⟨w.heap.size + 1 + 1 + 1 + 1, 0, none⟩)]) rfl trivial (enters_of Tryz.func177 (by kernel_rfl) rfl)
  (spans_stops _ (by omega) (w.heap.size + 1 + 1 + 1) (w.heap.size + 1 + 1 + 1 + 1) (w.heap.size + 1 + 1) F L 0 H A n ca C m cb ss ⟨#[]⟩ HCN.out HN.out HSL.out hcb hl W0 b3 b4 (HC.out.on hB0) (boxed_cells b2) (no_row b2) (by omega)) (fun h k => h.trans k) (kpR_b _) (Below.refl _ _) (fun x => rfl)
  (fun pre W => AllOk 0 H ss p pre ∧ Boxed W (w.heap.size + 1) 3 (.int .i64 p) ∧ Boxed W (w.heap.size + 1 + 1) 4 (.bool false) ∧ Below w.heap.size w W)
  (fun c pre W => (c = .ret ∧ SomeBad 0 H ss p pre) ∧ Boxed W (w.heap.size + 1 + 1) 4 (.bool false) ∧ Below w.heap.size w W)
  (OwnFrom.and (fun x X Y row hs hg hr => hs) (OwnFrom.and (Own.from (boxed_own _ _ _) _) (OwnFrom.and (Own.from (boxed_own _ _ _) _) (ownFrom_below (Nat.le_refl _) (by omega)))))
  (fun c => OwnFrom.and (fun x X Y row hs hg hr => hs) (OwnFrom.and (Own.from (boxed_own _ _ _) _) (ownFrom_below (Nat.le_refl _) (by omega))))
  ⟨fun x hx => by simp at hx, b1, b2, hB0⟩
  (fun x a' W => ∃ Bx, SBx Bx (loAt ⟨#[]⟩ ss x.1) (hiAt ss H x.1) (doesAt m 0 x.1) W ∧ a' = { tmps := #[nv F L 0 H A n ca C m cb, .int .i64 p, .pointer (some ⟨w.heap.size, 0, none⟩), .pointer (some ⟨w.heap.size + 1, 0, none⟩), .pointer (some ⟨w.heap.size + 1 + 1, 0, none⟩), undef, .pointer (some ⟨Bx, 0, none⟩), .pointer (some ⟨w.heap.size, 2, none⟩), .int .i64 0, .bool true, .bool true, .pointer (some ⟨w.heap.size, 3, none⟩), .string H, .bool false, .bool false, .agg #[.int .i64 F, .int .i64 L, .int .i64 0, .string H, .slice A n ca, .slice C m cb], .func (.func 177) #[] #[.pointer (some ⟨w.heap.size + 1 + 1 + 1, 0, none⟩), .pointer (some ⟨w.heap.size + 1 + 1 + 1 + 1, 0, none⟩)], .int .i64 x.1, .agg #[.string (loAt ⟨#[]⟩ ss x.1), .string (hiAt ss H x.1), .bool (doesAt m 0 x.1)], undef, undef, undef, undef, undef, undef, undef, undef, undef, undef, undef, undef, undef, undef, undef, undef, undef], defers := [] })
  (fun x a' _ X Y row hs hg hr => by
   obtain ⟨Bx, h2, h3⟩ := hs
   exact ⟨Bx, h2.own hg (fun r e => (hr r e).2), h3⟩)
  ?assign ?body ?done ?stop
 case assign =>
  rintro l pre x W K ⟨hok, hb1, hb2, hB⟩ hK; simp only [spVals]
  gi_wp2
  exact hK _ _ ((KeepsOthers.alloc _ _).from _) (KpR.of_below (L5.below_alloc _ _)) ⟨hok, hb1.alloc _, hb2.alloc _, hB.alloc hB.size _⟩ ⟨W.heap.size, SBx.new _ _ _ W, rfl⟩
 case body =>
  rintro l pre x a' W hl ⟨rr, hr⟩ ⟨hok, hb1, hb2, hB⟩ ⟨Bx, bX, rfl⟩ hlt; obtain ⟨c0, c1, c2⟩ := bX.cells; have cp := hb1.cell; have HOK := zj hok; have HB := zj hB; have HB1 := zj hb1; have HB2 := zj hb2; have HQ : Hid (OkAt 0 H ss p x.1 ↔ (doesAt m 0 x.1 = true → L5.B (loAt ⟨#[]⟩ ss x.1) < L5.B (hiAt ss H x.1) ∧ (hiAt ss H x.1).size ≤ p / 8)) := zj (by unfold OkAt; rw [HSL.out])
  have HALL : Hid (OkAt 0 H ss p x.1 → AllOk 0 H ss p (pre ++ [x])) := zj (fun h y hy => by
   rcases List.mem_append.1 hy with hy | hy
   ·exact HOK.out y hy
   ·obtain rfl := List.mem_singleton.1 hy
    exact h)
  have HMEM : Hid (¬ OkAt 0 H ss p x.1 → SomeBad 0 H ss p (pre ++ [x])) := zj (fun h => ⟨x, by simp, h⟩); have cr := hb2.cell; have fr := hb2.frozen; obtain ⟨i, hi⟩ := x; simp only at c0 c1 c2 HQ HALL HMEM ⊢; generalize loAt ⟨#[]⟩ ss i = lo at *; generalize hiAt ss H i = hh at *; generalize doesAt m 0 i = d at *; clear hok hB hb1 hb2 bX hlt
  cases d with
  | false =>
   have HG := zj (HALL.out (HQ.out.2 (fun h => by cases h)))
   gi_wp2_with fail
   all_goals (first | exact ⟨KeepsFrom.refl _ _, KpR.refl _ _, HG.out, HB1.out, HB2.out, HB.out⟩ | (rename_i e1 e2; exact absurd (Option.some.inj e1) (by simp [undef])) | (rename_i e1; exact absurd (Option.some.inj e1) (by simp [undef])))
  | true =>
   by_cases hlt : L5.B lo < L5.B hh
   ·have z1 : Op.bytesLess hh.toList lo.toList = false := L5.less_no (fun h => L5.EP.lt_irrefl _ (L5.EP.lt_trans h hlt))
    have z2 : (hh.toList == lo.toList) = false := L5.same_no (fun h => by rw [h] at hlt; exact L5.EP.lt_irrefl _ hlt); by_cases hsz8 : hh.size ≤ p / 8
    ·have d1 : decide ((p : Int) / 8 < (hh.size : Int)) = false := dF (by omega)
     have d2 : decide (p / 8 < hh.size) = false := dF (by omega); have HG := zj (HALL.out (HQ.out.2 (fun _ => ⟨hlt, hsz8⟩))); clear hlt hsz8
     gi_wp2_with fail
     exact ⟨KeepsFrom.refl _ _, KpR.refl _ _, HG.out, HB1.out, HB2.out, HB.out⟩
    ·have d1 : decide ((p : Int) / 8 < (hh.size : Int)) = true := dT (by omega)
     have d2 : decide (p / 8 < hh.size) = true := dT (by omega); have HG : Hid (¬ OkAt 0 H ss p i) := zj (fun h => hsz8 (HQ.out.1 h rfl).2); clear hlt hsz8
     gi_wp2_with fail
     exact ⟨(KeepsOthers.setCell _ _ _).from _, ⟨rfl, HMEM.out HG.out⟩, HB2.out.set _, HB.out.setCell (p := ⟨w.heap.size + 1 + 1, 0, none⟩) (by show w.heap.size ≤ w.heap.size + 1 + 1; omega) _⟩
   ·have zz : (Op.bytesLess hh.toList lo.toList || (hh.toList == lo.toList)) = true := by
     rcases L5.EP.tri (L5.B lo) (L5.B hh) with h | h | h
     ·exact absurd h hlt
     ·rw [L5.same_yes h.symm, Bool.or_true]
     ·rw [L5.less_yes h, Bool.true_or]
    have HG : Hid (¬ OkAt 0 H ss p i) := zj (fun h => hlt (HQ.out.1 h rfl).1); clear hlt
    gi_wp2_with fail
    exact ⟨(KeepsOthers.setCell _ _ _).from _, ⟨rfl, HMEM.out HG.out⟩, HB2.out.set _, HB.out.setCell (p := ⟨w.heap.size + 1 + 1, 0, none⟩) (by show w.heap.size ≤ w.heap.size + 1 + 1; omega) _⟩
 case done =>
  rintro D xs W hD hall ⟨hok, hb1, hb2, hB⟩ hK
  have HX : Hid (r = true) := zj (HYES.out (fun i hi => by
   have hm : i ∈ xs.map (·.1) := by rw [hall]; exact List.mem_range.2 hi
   obtain ⟨x, hx, rfl⟩ := List.mem_map.1 hm
   exact hok x hx))
  clear hok hall; have cr := hb2.cell; have fr := hb2.frozen
  gi_wp2
  have d2 := hb2.set (.bool true); have hK' := (KeepsOthers.setCell W ⟨w.heap.size + 1 + 1, 0, none⟩ (.bool true)).same D _ hK rfl; refine ⟨by simp, .inl ⟨_, _, rfl, run_takeDeferred hK', ?_⟩⟩; have k0 := cell_kept d2.cell (grownBy_putObj' _ D (.deferred none)) (fun r e => by cases e; exact ⟨_, hK', rfl⟩); refine ⟨.bool true, by simp [results, Tryz.results124, go_sem, k0], by rw [HX.out], ?_⟩; exact (hB.setCell (p := ⟨w.heap.size + 1 + 1, 0, none⟩) (by show w.heap.size ≤ w.heap.size + 1 + 1; omega) _).trans (belowK_b (w := w) (Nat.le_refl _) _ D _ _ (by omega) hK' rfl rfl)
 case stop =>
  rintro D c pre W hD _ ⟨⟨rfl, hbad⟩, hb2, hB⟩ hK; obtain ⟨x, hx, hno⟩ := hbad; have HX : Hid (r = false) := zj (HNO.out x.1 x.2 hno); clear hx hno
  gi_wp2
  refine ⟨by simp, .inl ⟨_, _, rfl, run_takeDeferred hK, ?_⟩⟩; have k0 := cell_kept hb2.cell (grownBy_putObj' _ D (.deferred none)) (fun r e => by cases e; exact ⟨_, hK, rfl⟩); refine ⟨.bool false, by simp [results, Tryz.results124, go_sem, k0], by rw [HX.out], ?_⟩; exact hB.trans (belowK_b (w := w) (Nat.le_refl _) W D _ _ (by omega) hK rfl rfl)
theorem rightEnds_n (F L R : Int) (H : ByteArray) (A : Option Addr) (n ca : Nat) (C : Option Addr) (m cb : Nat) (ss : List ByteArray) (p : Nat) (w : World) (hc : L5.Lies w w.heap.size C ss) (hC : C = none → m = 0) (hn : n = m + 1) (hm : ss.length = m) (hcb : m ≤ cb) (hl : m ≤ 100000) (hp : p ≤ 1000000) (hR : R ≠ 0) :
  Calls Tryz.prog 124 #[nv F L R H A n ca C m cb, .int .i64 p] w fun e w' => e = .returned (.bool (decide (EndsQ R H ss p))) ∧ Below w.heap.size w w' := by
 have hz : (R == 0) = false := beq_eq_false_iff_ne.2 hR; have h0R : R = 0 → H.size = 0 := fun h => absurd h hR; obtain ⟨r, HR⟩ : ∃ r, Hid (r = decide (EndsQ R H ss p)) := ⟨_, zj rfl⟩; rw [← HR.out]; have HYES : Hid ((∀ i, i < n → OkAt R H ss p i) → r = true) := zj (fun h => by rw [HR.out]; exact dT (ends_iff.1 ⟨h0R, fun i hi => h i (by omega)⟩)); have HNO : Hid (∀ i, i < n → ¬ OkAt R H ss p i → r = false) := zj (fun i hi h => by rw [HR.out]; exact dF (fun hq => h ((ends_iff.2 hq).2 i (by omega)))); have HSL : Hid (ss.length = m) := zj hm; have hw8 : IntKind.i64.wrap ((p : Int) / 8) = (p : Int) / 8 := IntWalk.i64_in _ (by omega); refine (callsIn_wide (n := 5)).1 ?_; refine callsIn_of_wp_marks Tryz.func124 rfl trivial ?_ rfl; simp only [Tryz.ntmps124, List.size_toArray, List.length_cons, List.length_nil, Nat.reduceAdd, Nat.reduceSub, Array.replicate_succ, Array.replicate_zero, List.push_toArray, List.append_toArray, List.nil_append, List.cons_append]; have HC := zj hc; have HCN := zj hC; have HN := zj hn; clear hc hC hn hm h0R
 gi_wp2_with fail
 refine ⟨trivial, ?_⟩; refine (callsIn_wide.2 (spans_any F L R H A n ca C m cb ⟨#[]⟩ _)).mono ?_; rintro e w1 ⟨rfl, rfl⟩; have hk1 := nbox_new 29 F L R H A n ca C m cb w; have b1 := (((Boxed.new (nbox 29 F L R H A n ca C m cb w) 3 (.int .i64 p)).alloc (.cells #[.bool false] 4)).alloc (.cells #[.int .i64 F, .int .i64 L, .int .i64 R, .string H, .slice A n ca, .slice C m cb] 29)).alloc (.cells #[.string ⟨#[]⟩] 9); have b2 := ((Boxed.new ((nbox 29 F L R H A n ca C m cb w).alloc (.cells #[.int .i64 p] 3)) 4 (.bool false)).alloc (.cells #[.int .i64 F, .int .i64 L, .int .i64 R, .string H, .slice A n ca, .slice C m cb] 29)).alloc (.cells #[.string ⟨#[]⟩] 9); have b3 := (nbox_new 29 F L R H A n ca C m cb (((nbox 29 F L R H A n ca C m cb w).alloc (.cells #[.int .i64 p] 3)).alloc (.cells #[.bool false] 4))).below (L5.below_alloc _ (.cells #[.string ⟨#[]⟩] 9)); have b4 := Boxed.new (nbox 29 F L R H A n ca C m cb (((nbox 29 F L R H A n ca C m cb w).alloc (.cells #[.int .i64 p] 3)).alloc (.cells #[.bool false] 4))) 9 (.string ⟨#[]⟩)
 have hB0 : Below w.heap.size w ((nbox 29 F L R H A n ca C m cb (((nbox 29 F L R H A n ca C m cb w).alloc (.cells #[.int .i64 p] 3)).alloc (.cells #[.bool false] 4))).alloc (.cells #[.string ⟨#[]⟩] 9)) :=
  ((((nbox_below 29 F L R H A n ca C m cb w).trans' (L5.below_alloc _ _)).trans' (L5.below_alloc _ _)).trans' (L5.below_alloc _ _)).trans' (L5.below_alloc _ _)
 have hsz : ((nbox 29 F L R H A n ca C m cb (((nbox 29 F L R H A n ca C m cb w).alloc (.cells #[.int .i64 p] 3)).alloc (.cells #[.bool false] 4))).alloc (.cells #[.string ⟨#[]⟩] 9)).heap.size = w.heap.size + 5 := by simp
 have HSZ := zj hsz
 gi_wp2_with fail
 simp only [World.size_alloc, nbox] at b1 b2 b3 b4 hB0 ⊢; clear hk1 hsz; obtain ⟨W0, hW0⟩ : ∃ W0, ((((w.alloc (.cells #[.int .i64 F, .int .i64 L, .int .i64 R, .string H, .slice A n ca, .slice C m cb] 29)).alloc (.cells #[.int .i64 p] 3)).alloc (.cells #[.bool false] 4)).alloc (.cells #[.int .i64 F, .int .i64 L, .int .i64 R, .string H, .slice A n ca, .slice C m cb] 29)).alloc (.cells #[.string ⟨#[]⟩] 9) = W0 := ⟨_, rfl⟩; simp only [nbox] at HSZ; rw [hW0] at b1 b2 b3 b4 hB0 HSZ ⊢; clear hW0; have hsz := HSZ.out
 refine wpIn_rangeFunc_ownH rfl (by omega) (gf := 177) (lb := #[.pointer (some ⟨w.heap.size + 1 + 1 + 1, 0, none⟩), .pointer (some ⟨w.heap.size + 1 + 1 + 1 + 1, 0, none⟩)]) rfl trivial (enters_of Tryz.func177 (by kernel_rfl) rfl)
  (spans_stops _ (by omega) (w.heap.size + 1 + 1 + 1) (w.heap.size + 1 + 1 + 1 + 1) (w.heap.size + 1 + 1) F L R H A n ca C m cb ss ⟨#[]⟩ HCN.out HN.out HSL.out hcb hl W0 b3 b4 (HC.out.on hB0) (boxed_cells b2) (no_row b2) (by omega)) (fun h k => h.trans k) (kpR_b _) (Below.refl _ _) (fun x => rfl)
  (fun pre W => AllOk R H ss p pre ∧ Boxed W (w.heap.size + 1) 3 (.int .i64 p) ∧ Boxed W (w.heap.size + 1 + 1) 4 (.bool false) ∧ Below w.heap.size w W)
  (fun c pre W => (c = .ret ∧ SomeBad R H ss p pre) ∧ Boxed W (w.heap.size + 1 + 1) 4 (.bool false) ∧ Below w.heap.size w W)
  (OwnFrom.and (fun x X Y row hs hg hr => hs) (OwnFrom.and (Own.from (boxed_own _ _ _) _) (OwnFrom.and (Own.from (boxed_own _ _ _) _) (ownFrom_below (Nat.le_refl _) (by omega)))))
  (fun c => OwnFrom.and (fun x X Y row hs hg hr => hs) (OwnFrom.and (Own.from (boxed_own _ _ _) _) (ownFrom_below (Nat.le_refl _) (by omega))))
  ⟨fun x hx => by simp at hx, b1, b2, hB0⟩
  (fun x a' W => ∃ Bx, SBx Bx (loAt ⟨#[]⟩ ss x.1) (hiAt ss H x.1) (doesAt m R x.1) W ∧ a' = { tmps := #[nv F L R H A n ca C m cb, .int .i64 p, .pointer (some ⟨w.heap.size, 0, none⟩), .pointer (some ⟨w.heap.size + 1, 0, none⟩), .pointer (some ⟨w.heap.size + 1 + 1, 0, none⟩), undef, .pointer (some ⟨Bx, 0, none⟩), .pointer (some ⟨w.heap.size, 2, none⟩), .int .i64 R, .bool false, .bool false, undef, undef, undef, .bool false, .agg #[.int .i64 F, .int .i64 L, .int .i64 R, .string H, .slice A n ca, .slice C m cb], .func (.func 177) #[] #[.pointer (some ⟨w.heap.size + 1 + 1 + 1, 0, none⟩), .pointer (some ⟨w.heap.size + 1 + 1 + 1 + 1, 0, none⟩)], .int .i64 x.1, .agg #[.string (loAt ⟨#[]⟩ ss x.1), .string (hiAt ss H x.1), .bool (doesAt m R x.1)], undef, undef, undef, undef, undef, undef, undef, undef, undef, undef, undef, undef, undef, undef, undef, undef, undef], defers := [] })
  (fun x a' _ X Y row hs hg hr => by
   obtain ⟨Bx, h2, h3⟩ := hs
   exact ⟨Bx, h2.own hg (fun r e => (hr r e).2), h3⟩)
  ?assign ?body ?done ?stop
 case assign =>
  rintro l pre x W K ⟨hok, hb1, hb2, hB⟩ hK; simp only [spVals]
  gi_wp2
  exact hK _ _ ((KeepsOthers.alloc _ _).from _) (KpR.of_below (L5.below_alloc _ _)) ⟨hok, hb1.alloc _, hb2.alloc _, hB.alloc hB.size _⟩ ⟨W.heap.size, SBx.new _ _ _ W, rfl⟩
 case body =>
  rintro l pre x a' W hl ⟨rr, hr⟩ ⟨hok, hb1, hb2, hB⟩ ⟨Bx, bX, rfl⟩ hlt; obtain ⟨c0, c1, c2⟩ := bX.cells; have cp := hb1.cell; have HOK := zj hok; have HB := zj hB; have HB1 := zj hb1; have HB2 := zj hb2; have HQ : Hid (OkAt R H ss p x.1 ↔ (doesAt m R x.1 = true → L5.B (loAt ⟨#[]⟩ ss x.1) < L5.B (hiAt ss H x.1) ∧ (hiAt ss H x.1).size ≤ p / 8)) := zj (by unfold OkAt; rw [HSL.out])
  have HALL : Hid (OkAt R H ss p x.1 → AllOk R H ss p (pre ++ [x])) := zj (fun h y hy => by
   rcases List.mem_append.1 hy with hy | hy
   ·exact HOK.out y hy
   ·obtain rfl := List.mem_singleton.1 hy
    exact h)
  have HMEM : Hid (¬ OkAt R H ss p x.1 → SomeBad R H ss p (pre ++ [x])) := zj (fun h => ⟨x, by simp, h⟩); have cr := hb2.cell; have fr := hb2.frozen; obtain ⟨i, hi⟩ := x; simp only at c0 c1 c2 HQ HALL HMEM ⊢; generalize loAt ⟨#[]⟩ ss i = lo at *; generalize hiAt ss H i = hh at *; generalize doesAt m R i = d at *; clear hok hB hb1 hb2 bX hlt
  cases d with
  | false =>
   have HG := zj (HALL.out (HQ.out.2 (fun h => by cases h)))
   gi_wp2_with fail
   all_goals (first | exact ⟨KeepsFrom.refl _ _, KpR.refl _ _, HG.out, HB1.out, HB2.out, HB.out⟩ | (rename_i e1 e2; exact absurd (Option.some.inj e1) (by simp [undef])) | (rename_i e1; exact absurd (Option.some.inj e1) (by simp [undef])))
  | true =>
   by_cases hlt : L5.B lo < L5.B hh
   ·have z1 : Op.bytesLess hh.toList lo.toList = false := L5.less_no (fun h => L5.EP.lt_irrefl _ (L5.EP.lt_trans h hlt))
    have z2 : (hh.toList == lo.toList) = false := L5.same_no (fun h => by rw [h] at hlt; exact L5.EP.lt_irrefl _ hlt); by_cases hsz8 : hh.size ≤ p / 8
    ·have d1 : decide ((p : Int) / 8 < (hh.size : Int)) = false := dF (by omega)
     have d2 : decide (p / 8 < hh.size) = false := dF (by omega); have HG := zj (HALL.out (HQ.out.2 (fun _ => ⟨hlt, hsz8⟩))); clear hlt hsz8
     gi_wp2_with fail
     exact ⟨KeepsFrom.refl _ _, KpR.refl _ _, HG.out, HB1.out, HB2.out, HB.out⟩
    ·have d1 : decide ((p : Int) / 8 < (hh.size : Int)) = true := dT (by omega)
     have d2 : decide (p / 8 < hh.size) = true := dT (by omega); have HG : Hid (¬ OkAt R H ss p i) := zj (fun h => hsz8 (HQ.out.1 h rfl).2); clear hlt hsz8
     gi_wp2_with fail
     exact ⟨(KeepsOthers.setCell _ _ _).from _, ⟨rfl, HMEM.out HG.out⟩, HB2.out.set _, HB.out.setCell (p := ⟨w.heap.size + 1 + 1, 0, none⟩) (by show w.heap.size ≤ w.heap.size + 1 + 1; omega) _⟩
   ·have zz : (Op.bytesLess hh.toList lo.toList || (hh.toList == lo.toList)) = true := by
     rcases L5.EP.tri (L5.B lo) (L5.B hh) with h | h | h
     ·exact absurd h hlt
     ·rw [L5.same_yes h.symm, Bool.or_true]
     ·rw [L5.less_yes h, Bool.true_or]
    have HG : Hid (¬ OkAt R H ss p i) := zj (fun h => hlt (HQ.out.1 h rfl).1); clear hlt
    gi_wp2_with fail
    exact ⟨(KeepsOthers.setCell _ _ _).from _, ⟨rfl, HMEM.out HG.out⟩, HB2.out.set _, HB.out.setCell (p := ⟨w.heap.size + 1 + 1, 0, none⟩) (by show w.heap.size ≤ w.heap.size + 1 + 1; omega) _⟩
 case done =>
  rintro D xs W hD hall ⟨hok, hb1, hb2, hB⟩ hK
  have HX : Hid (r = true) := zj (HYES.out (fun i hi => by
   have hm : i ∈ xs.map (·.1) := by rw [hall]; exact List.mem_range.2 hi
   obtain ⟨x, hx, rfl⟩ := List.mem_map.1 hm
   exact hok x hx))
  clear hok hall; have cr := hb2.cell; have fr := hb2.frozen
  gi_wp2
  have d2 := hb2.set (.bool true); have hK' := (KeepsOthers.setCell W ⟨w.heap.size + 1 + 1, 0, none⟩ (.bool true)).same D _ hK rfl; refine ⟨by simp, .inl ⟨_, _, rfl, run_takeDeferred hK', ?_⟩⟩; have k0 := cell_kept d2.cell (grownBy_putObj' _ D (.deferred none)) (fun r e => by cases e; exact ⟨_, hK', rfl⟩); refine ⟨.bool true, by simp [results, Tryz.results124, go_sem, k0], by rw [HX.out], ?_⟩; exact (hB.setCell (p := ⟨w.heap.size + 1 + 1, 0, none⟩) (by show w.heap.size ≤ w.heap.size + 1 + 1; omega) _).trans (belowK_b (w := w) (Nat.le_refl _) _ D _ _ (by omega) hK' rfl rfl)
 case stop =>
  rintro D c pre W hD _ ⟨⟨rfl, hbad⟩, hb2, hB⟩ hK; obtain ⟨x, hx, hno⟩ := hbad; have HX : Hid (r = false) := zj (HNO.out x.1 x.2 hno); clear hx hno
  gi_wp2
  refine ⟨by simp, .inl ⟨_, _, rfl, run_takeDeferred hK, ?_⟩⟩; have k0 := cell_kept hb2.cell (grownBy_putObj' _ D (.deferred none)) (fun r e => by cases e; exact ⟨_, hK, rfl⟩); refine ⟨.bool false, by simp [results, Tryz.results124, go_sem, k0], by rw [HX.out], ?_⟩; exact hB.trans (belowK_b (w := w) (Nat.le_refl _) W D _ _ (by omega) hK rfl rfl)
theorem rightEnds_any (F L R : Int) (H : ByteArray) (A : Option Addr) (n ca : Nat) (C : Option Addr) (m cb : Nat) (ss : List ByteArray) (p : Nat) (w : World) (hc : L5.Lies w w.heap.size C ss) (hn : n = m + 1) (hm : ss.length = m) (hcb : m ≤ cb) (hl : m ≤ 100000) (hp : p ≤ 1000000) :
  Calls Tryz.prog 124 #[nv F L R H A n ca C m cb, .int .i64 p] w fun e w' => e = .returned (.bool (decide (EndsQ R H ss p))) ∧ Below w.heap.size w w' := by
 have hC : C = none → m = 0 := fun h => by
  subst h
  cases ss with
  | nil => rw [← hm]; rfl
  | cons s l =>
   obtain ⟨a, e, _⟩ := hc 0 s rfl; cases e
 by_cases hR : R = 0
 ·by_cases hH : H.size = 0
  ·exact rightEnds_z F L R H A n ca C m cb ss p w hc hC hn hm hcb hl hp hR hH
  ·rw [dF (fun h : EndsQ R H ss p => hH (h.1.1 hR))]
   subst hR
   have hE : H.toList.isEmpty = false := by
    rw [Lib.toList_data]
    have h2 : H.data.toList.length = H.size := by simp
    cases hd : H.data.toList with
    | nil => rw [hd] at h2; exact absurd h2.symm hH
    | cons _ _ => rfl
   have hb1 := nbox_below 29 F L 0 H A n ca C m cb w; have hB := (hb1.trans' (L5.below_alloc _ (.cells #[.int .i64 p] 3))).trans' (L5.below_alloc _ (.cells #[.bool false] 4)); have hbx := Boxed.new ((nbox 29 F L 0 H A n ca C m cb w).alloc (.cells #[.int .i64 p] 3)) 4 (.bool false); clear hc hC hn hm hb1; have hc0 := hbx.cell; simp only [World.size_alloc, nbox] at hc0 hB; clear hbx; go_enter Tryz.func124, Tryz.ntmps124; go_wp2_with fail; exact bodyPost_ret (v := .bool false) (by simp [results, Tryz.results124, go_sem, hc0]) rfl ⟨rfl, hB⟩
 ·exact rightEnds_n F L R H A n ca C m cb ss p w hc hC hn hm hcb hl hp hR
end Go.Proofs.YtpeghilfldpgfaaGreatDoor.L11
