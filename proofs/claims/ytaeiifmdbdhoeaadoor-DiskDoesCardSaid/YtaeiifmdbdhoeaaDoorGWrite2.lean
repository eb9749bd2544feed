/-
  The walk of the program's Write.
-/
import Derived.Test.YtaeiifmdbdhoeaaDoorGWrite
namespace Go.Proofs.YtaeiifmdbdhoeaaDoor
open Go.RowKit
open Go.ChangeShapes
open DP (W D)
set_option linter.unusedVariables false
set_option linter.unusedSimpArgs false
variable {Fb : Nat → Prop}

theorem st_drew (w : World) : St w w.drew := fun _ _ _ _ _ _ => rfl
theorem chain_ptr {w : World} : ∀ {q : List W} {v : Value}, Chain w v q → ∃ P, v = .pointer P
  | [], _, h => ⟨none, h⟩
  | _ :: _, _, ⟨g, _, e, _⟩ => ⟨_, e⟩
theorem write_left (b : Nat) (d : D) (i : Int) (s : ByteArray) (h : d.left = some 0) : d.write i s = (d, 9) := by unfold D.write; rw [if_pos h]
theorem write_arg (d : D) (i : Int) (s : ByteArray) (h : d.left ≠ some 0) (k : i < 0 ∨ s.size ≠ d.p) : d.write i s = (d, 4) := by unfold D.write; rw [if_neg h, if_pos k]
theorem write_full (d : D) (i : Int) (s : ByteArray) (h : d.left ≠ some 0) (k : 0 ≤ i) (k' : s.size = d.p) (hi : (d.room : Int) ≤ i) : d.write i s = (d, 2) := by unfold D.write; rw [if_neg h, if_neg (by omega), if_pos hi]
theorem write_yes (d : D) (i : Int) (s : ByteArray) (h : d.left ≠ some 0) (k : 0 ≤ i) (k' : s.size = d.p) (hi : i < (d.room : Int)) : d.write i s = ({ d with q := d.q ++ [⟨i.toNat, s⟩], left := d.less }, 0) := by unfold D.write; rw [if_neg h, if_neg (by omega), if_neg (by omega)]

set_option maxHeartbeats 1000000 in
set_option maxRecDepth 100000 in
theorem write_anyX (b : Nat) (d : D) (i : Int) (s : ByteArray) (w : World) (hFb : ∀ k, Fb k → k < w.heap.size) (h : HasX Fb w b d) (hi : (Lit.int .i64 i).wf = true) (hs : s.size ≤ maxLen) :
    Calls Tryd.prog 25 #[.pointer (some ⟨b, 0, none⟩), .int .i64 i, .string s] w fun e w' => e = .returned (.int .i64 (d.write i s).2) ∧ HasX Fb w' b (d.write i s).1 ∧ Chg (fun j => j = b) w w' := by
  have hib := bounds_i64 hi
  unfold maxLen at hs
  have HS := Lib.hid (stopped_any b d w h)
  have HPG := Lib.hid (page'_any b d w h)
  have HH := Lib.hid h
  obtain ⟨p, hp⟩ : ∃ p, p = d.p := ⟨_, rfl⟩
  rw [← hp] at HPG
  by_cases hl : d.left = some 0
  · rw [write_left b d i s hl]
    rw [decide_eq_true hl] at HS
    clear hl h hp
    go_enter Tryd.func25, Tryd.ntmps25
    go_wp2_with fail
    refine HS.out.mono ?_
    rintro e w1 ⟨rfl, rfl⟩
    go_wp2_with fail
    go_ret
    exact ⟨rfl, HH.out, Chg.refl _ _⟩
  rw [decide_eq_false hl] at HS
  by_cases h1 : i < 0
  · rw [write_arg d i s hl (.inl h1)]
    have d1 : decide (i < 0) = true := by simpa using h1
    clear hl h hp h1
    go_enter Tryd.func25, Tryd.ntmps25
    go_wp2_with fail
    refine HS.out.mono ?_
    rintro e w1 ⟨rfl, rfl⟩
    go_wp2_with fail
    go_ret
    exact ⟨rfl, HH.out, Chg.refl _ _⟩
  have d1 : decide (i < 0) = false := by simpa using h1
  by_cases h2 : s.size = d.p
  rotate_left
  · rw [write_arg d i s hl (.inr h2)]
    have d2 : ((s.size : Int) != (p : Int)) = true := by rw [bne_iff_ne]; omega
    have d2e : ((s.size : Int) == (p : Int)) = false := by rw [beq_eq_false_iff_ne]; omega
    clear hl h h2 hp
    go_enter Tryd.func25, Tryd.ntmps25
    go_wp2_with fail
    refine HS.out.mono ?_
    rintro e w1 ⟨rfl, rfl⟩
    go_wp2_with fail
    refine HPG.out.mono ?_
    rintro e w1 ⟨rfl, rfl⟩
    go_wp2_with fail
    go_ret
    exact ⟨rfl, HH.out, Chg.refl _ _⟩
  have hsp : s.size = p := by omega
  have d2 : ((p : Int) != (p : Int)) = false := by simp
  obtain ⟨A1, c1, L1, A2, c2, L2, nw, lim, lf, o1, o2, o3, o4, o5⟩ := h.parts
  obtain ⟨np, rfl⟩ := chain_ptr o4
  have y0 := o1.at 0 _ rfl
  by_cases h3 : (d.room : Int) ≤ i
  · rw [write_full d i s hl (by omega) h2 h3]
    have d3 : decide ((d.room : Int) ≤ i) = true := by simpa using h3
    clear hl h h2 hp o1 o2 o3 o4 o5 h3
    go_enter Tryd.func25, Tryd.ntmps25
    go_wp2_with fail
    refine HS.out.mono ?_
    rintro e w1 ⟨rfl, rfl⟩
    go_wp2_with fail
    refine HPG.out.mono ?_
    rintro e w1 ⟨rfl, rfl⟩
    go_wp2_with fail
    go_ret
    exact ⟨rfl, HH.out, Chg.refl _ _⟩
  have HOK : Hid (d.write i s).1.Ok := Lib.hid (h.ok.write i s)
  rw [write_yes d i s hl (by omega) h2 (by omega)] at HOK ⊢
  obtain ⟨j, rfl⟩ := Int.eq_ofNat_of_zero_le (show 0 ≤ i by omega)
  rw [Int.toNat_natCast] at HOK ⊢
  have d3 : decide ((d.room : Int) ≤ (j : Int)) = false := by simpa using h3
  have d3n : decide (d.room ≤ j) = false := by simp; omega
  have hsm := h.small
  have HP := Lib.hid (And.intro o2 (And.intro o3 (And.intro o4 hsm)))
  have HLF := Lib.hid (show LeftIs lim (wrap64 (lf - 1)) d.less by rw [← IntWalk.i64_left]; exact o5.less hl)
  have HALL : Hid (D.all { d with q := d.q ++ [(⟨j, s⟩ : W)], left := d.less } = DP.put (DP.zero d.p) d.all ⟨j, s⟩) := Lib.hid (DP.all_snoc _ _ _ _)
  have hlen : d.all.length ≤ 4096 := by have := h.ok.len; have := d.all_length; omega
  have HREV : Hid ((d.q ++ [(⟨j, s⟩ : W)]).reverse = ⟨j, s⟩ :: d.q.reverse) := Lib.hid (by simp)
  have HCL : Hid (∀ W, Calls Tryd.prog 31 #[.string s] W fun e w' => e = .returned (.string s) ∧ Below W.heap.size W w') := Lib.hid (fun W => clone_any s W (by omega))
  have HFB := Lib.hid hFb
  have HW : Hid (∀ W, w.heap.size ≤ W.heap.size → Blocks Fb W A1 c1 L1 → Calls Tryd.prog 30 #[.agg #[.int .i64 p, .int .i64 d.all.length, .slice A1 L1.length c1], .int .i64 j, .string s] W fun e w' => ∃ A' c' L', e = .returned (.agg #[.int .i64 p, .int .i64 (DP.put (DP.zero p) d.all ⟨j, s⟩).length, .slice A' L'.length c']) ∧ Blocks Fb w' A' c' L' ∧ Rep p L' (DP.put (DP.zero p) d.all ⟨j, s⟩) ∧ Below W.heap.size W w') := Lib.hid (fun W hsz hW => with_any p A1 c1 L1 d.all j s W hW (by rw [hp]; exact o2.rep) (by omega) hsp (by omega) hlen (fun k hk => Nat.lt_of_lt_of_le (HFB.out k hk) hsz))
  have HO1 := Lib.hid o1
  have y8 := o1.at 8 _ rfl
  obtain ⟨al, hal⟩ : ∃ al, al = d.all.length := ⟨_, rfl⟩
  obtain ⟨kl, hkl⟩ : ∃ kl, kl = d.kept.length := ⟨_, rfl⟩
  rw [← hp] at HO1
  rw [← hal] at HO1 HW
  rw [← hkl] at HO1
  have HPE := Lib.hid hp
  have HAL := Lib.hid hal
  have HKL := Lib.hid hkl
  have HKeep : Hid (∀ W W' : World, Below W.heap.size W W' → (Hid (Obd W b p d.room d.reads al (.slice A1 L1.length c1) kl (.slice A2 L2.length c2) (.pointer np) lim lf) ∧ W.cell? ⟨b, 8, none⟩ = some (.pointer np)) → (Hid (Obd W' b p d.room d.reads al (.slice A1 L1.length c1) kl (.slice A2 L2.length c2) (.pointer np) lim lf) ∧ W'.cell? ⟨b, 8, none⟩ = some (.pointer np))) := Lib.hid (fun W W' k hh => ⟨Lib.hid (hh.1.out.below k), (hh.1.out.below k).at 8 _ rfl⟩)
  rw [hsp] at hs
  clear hl h h2 hp o1 o2 o3 o4 o5 h3 h1 hal hkl hib hi
  go_enter Tryd.func25, Tryd.ntmps25
  go_wp2_with fail
  refine HS.out.mono ?_
  rintro e w1 ⟨rfl, rfl⟩
  go_wp2_with fail
  refine HPG.out.mono ?_
  rintro e w1 ⟨rfl, rfl⟩
  go_wp2_with fail
  go_region_law (first
      | (go_simp; go_at_call 31; refine (HCL.out _).mono ?_; rintro e w1 ⟨rfl, hb1⟩;
         have HB1 := Lib.hid (below_of_drew hb1);
         have HO2 := Lib.hid ((HO1.out.below (below_of_drew hb1)).below (below_alloc w1 (.cells #[.int .i64 (j : Int), .string s, .pointer np] 83)));
         have e0 := (HO1.out.below (below_of_drew hb1)).at 8 _ rfl;
         have e8 := HO2.out.at 8 _ rfl;
         have g8 := HO2.out.free 8; clear hb1))
  all_goals
    have HH1 : Hid ((w1.alloc (.cells #[.int .i64 (j : Int), .string s, .pointer np] 83)).heap[w1.heap.size]? = some (.cells #[.int .i64 (j : Int), .string s, .pointer np] 83 (0, 0))) := Lib.hid (heap_alloc_new _ _)
    have HLT : Hid (b < w1.heap.size) := Lib.hid (HO1.out.below HB1.out).lt
    have HC2 : Hid (Chg (fun j => j = b) w ((w1.alloc (.cells #[.int .i64 (j : Int), .string s, .pointer np] 83)).setCell ⟨b, 8, none⟩ (.pointer (some ⟨w1.heap.size, 0, none⟩)))) := Lib.hid (((Chg.of_below (F := fun j => j = b) HB1.out).alloc _).set (b := b) rfl 8 _)
    have HO3 := Lib.hid (HO2.out.set8 (.pointer (some ⟨w1.heap.size, 0, none⟩)))
    have HH2 : Hid (((w1.alloc (.cells #[.int .i64 (j : Int), .string s, .pointer np] 83)).setCell ⟨b, 8, none⟩ (.pointer (some ⟨w1.heap.size, 0, none⟩))).heap[w1.heap.size]? = some (.cells #[.int .i64 (j : Int), .string s, .pointer np] 83 (0, 0))) := Lib.hid ((heap_setCell_other _ _ _ _ (by have := HLT.out; show w1.heap.size ≠ b; omega)).trans HH1.out)
    generalize hw2 : (w1.alloc (.cells #[.int .i64 (j : Int), .string s, .pointer np] 83)).setCell ⟨b, 8, none⟩ (.pointer (some ⟨w1.heap.size, 0, none⟩)) = w2 at *
    generalize hg : w1.heap.size = g at *
    have HBK := Lib.hid (HP.out.1.blocks.st (HO1.out.st HC2.out))
    have z2 := HO3.out.at 2 _ rfl
    have z3 := HO3.out.at 3 _ rfl
    have z4 := HO3.out.at 4 _ rfl
    have z8 := HO3.out.at 8 _ rfl
    obtain ⟨_, x1, _⟩ := tri_cells HH2.out
    clear e0 e8 g8 hw2 hg HO2 HB1 HH1 y0 y8
    go_wp2_with fail
    go_region_law (first
      | (go_simp; go_at_call 30; refine (HW.out _ (by exact HC2.out.size) (HBK.out.st (st_drew _))).mono ?_; rintro e w3 ⟨A3, c3, L3, rfl, hB3, hR3, hb3⟩;
         have HB3 := Lib.hid hB3; have HR3 := Lib.hid hR3; have HBE := Lib.hid (below_of_drew hb3);
         have HO4 := Lib.hid (HO3.out.below (below_of_drew hb3));
         have u2 := HO4.out.at 2 _ rfl; have u3 := HO4.out.at 3 _ rfl; have u4 := HO4.out.at 4 _ rfl;
         have v2 := HO4.out.free 2; have v3 := HO4.out.free 3; have v4 := HO4.out.free 4; clear hB3 hR3 hb3))
    all_goals
      have HO5 := Lib.hid (HO4.out.setNow ((DP.put (DP.zero p) d.all ⟨j, s⟩).length : Nat) (.slice A3 L3.length c3))
      have HC3 : Hid (Chg (fun k => k = b) w3 (((w3.setCell ⟨b, 2, none⟩ (.int .i64 (p : Int))).setCell ⟨b, 3, none⟩ (.int .i64 ((DP.put (DP.zero p) d.all ⟨j, s⟩).length : Nat))).setCell ⟨b, 4, none⟩ (.slice A3 L3.length c3))) := Lib.hid ((((Chg.refl (fun k => k = b) w3).set (b := b) rfl 2 _).set (b := b) rfl 3 _).set (b := b) rfl 4 _)
      generalize hw5 : ((w3.setCell ⟨b, 2, none⟩ (.int .i64 (p : Int))).setCell ⟨b, 3, none⟩ (.int .i64 ((DP.put (DP.zero p) d.all ⟨j, s⟩).length : Nat))).setCell ⟨b, 4, none⟩ (.slice A3 L3.length c3) = w5 at *
      have t10 := HO5.out.at 10 _ rfl
      have f10 := HO5.out.free 10
      clear u2 u3 u4 v2 v3 v4 z2 z3 z4 z8 x1 hw5
      go_wp2_with fail
      go_ret
      have k36 := HC3.out.set (b := b) rfl 10 (.int .i64 (wrap64 (lf - 1)))
      have k26 := (Chg.of_below HBE.out).trans' k36
      have k06 := HC2.out.trans' k26
      refine ⟨rfl, ⟨⟨A3, c3, L3, A2, c2, L2, .pointer (some ⟨g, 0, none⟩), lim, wrap64 (lf - 1), ?_, ⟨HB3.out.st (HO4.out.st k36), ?_⟩, HP.out.2.1.st (HO1.out.st k06), ?_, HLF.out⟩, HOK.out, HP.out.2.2.2⟩, k06⟩
      · have h9 := HO5.out.set10 (wrap64 (lf - 1))
        show Obd _ b d.p d.room d.reads (D.all { d with q := d.q ++ [(⟨j, s⟩ : W)], left := d.less }).length _ d.kept.length _ _ _ _
        rw [HALL.out, ← HPE.out, ← HKL.out]
        exact h9
      · show Rep d.p L3 (D.all { d with q := d.q ++ [(⟨j, s⟩ : W)], left := d.less })
        rw [HALL.out, ← HPE.out]
        exact HR3.out
      · show Chain _ _ (d.q ++ [(⟨j, s⟩ : W)]).reverse
        rw [HREV.out]
        exact ⟨g, .pointer np, rfl, ((HO3.out.st k26) g _ _ _ HH2.out (.inr (.inr rfl))).trans HH2.out, HP.out.2.2.1.st (HO1.out.st k06)⟩
end Go.Proofs.YtaeiifmdbdhoeaaDoor
