import Derived.Test.YtpeghilfldpgfaaGreatDoorQT
import Derived.Test.YtpeghilfldpgfaaGreatDoorTHDocS
set_option linter.unusedVariables false
set_option linter.unusedSimpArgs false
set_option maxHeartbeats 8000000
set_option maxRecDepth 100000
namespace Go.Proofs.YtpeghilfldpgfaaGreatDoor.L7
open Go.RowKit
theorem refSeal_any (h : HP.H) (b : ByteArray) (p : Int) (w : World) (hp : (Lit.int .i64 p).wf = true) (hb : b.size ≤ maxLen) :
  Calls Tryz.prog 132 #[hv h, .string b, .int .i64 p] w fun e w' => e = .returned (seaV h b p) ∧ Below w.heap.size w w' := by
 cases hm : mayBe p with
 | false => exact refSeal_bad h b p w hp hb (.inl hm)
 | true =>
  cases hr : HP.right h with
  | false => exact refSeal_bad h b p w hp hb (.inr (.inl hr))
  | true =>
   by_cases hg : p - 16 < (b.size : Int)
   ·exact refSeal_bad h b p w hp hb (.inr (.inr hg))
   ·have hpb := HP.mayBe_bd hm
    obtain ⟨q, rfl⟩ := Int.eq_ofNat_of_zero_le (show 0 ≤ p by omega); unfold seaV; rw [HP.seal_good hm hr hg, Int.toNat_natCast]; exact refSeal_good h b q w hm (HP.right_iff.1 hr) (by omega)
theorem tSealD (h : HP.H) (b : ByteArray) (p : Int) (hp : (Lit.int .i64 p).wf = true) (hb : b.size ≤ maxLen) : Hid (Tells 132 #[hv h, .string b, .int .i64 p] (seaV h b p)) := zj fun W _ => refSeal_any h b p W hp hb
-- the document's Open
theorem headOf_bytes (s : ByteArray) (h : 16 ≤ s.size) :
  (∀ i0 : 0 < s.size, ((s[0]'i0).toNat : Int) = (HP.headOf s.data.toList).k) ∧ (∀ i1 : 1 < s.size, ((s[1]'i1).toNat : Int) = (HP.headOf s.data.toList).l) ∧
  ((Lib.leNat (s.extract 2 4).data.toList : Nat) : Int) = (HP.headOf s.data.toList).c ∧ ((Lib.leNat (s.extract 4 8).data.toList : Nat) : Int) = (HP.headOf s.data.toList).r ∧ ((Lib.leNat (s.extract 8 12).data.toList : Nat) : Int) = (HP.headOf s.data.toList).s := by
 have gd : ∀ (i : Nat) (hi : i < s.size), s.data.toList.getD i 0 = s[i] := fun i hi => by
  rw [List.getD_eq_getElem?_getD, List.getElem?_eq_getElem (by simpa using hi)]; rfl
 refine ⟨fun i0 => ?_, fun i1 => ?_, ?_, ?_, ?_⟩
 ·unfold HP.headOf; rw [gd 0 i0]
 ·unfold HP.headOf; rw [gd 1 i1]
 ·unfold HP.headOf
  rw [gd 2 (by omega), gd 3 (by omega), Lib.extract_data]
  have e : (s.data.toList.drop 2).take (4 - 2) = [s[2], s[3]] := by
   rw [WP.drop_cons s 2 (by omega), WP.drop_cons s 3 (by omega)]; rfl
  rw [e]; simp [Lib.leNat]
 ·unfold HP.headOf; rw [Lib.extract_data]
 ·unfold HP.headOf; rw [Lib.extract_data]
theorem refOpen_size (s : ByteArray) (w : World) (hs : Sizes w) (hm : mayBe s.size = true) :
  Calls Tryz.prog 75 #[.string s] w fun e w' => e = .returned (opnV s) ∧ Below w.heap.size w w' := by
 have HZ2 := zj (sizeRef_any (s.size : Int) (w.alloc (.cells #[.int .i64 0, .int .i64 0, .int .i64 0, .int .i64 0, .int .i64 0] 153))); rw [show decide ((s.size : Int) = 128 ∨ (s.size : Int) = 256 ∨ (s.size : Int) = 512 ∨ (s.size : Int) = 1024) = true from hm] at HZ2; have HB0 := zj (below_alloc w (.cells #[.int .i64 0, .int .i64 0, .int .i64 0, .int .i64 0, .int .i64 0] 153)); have HS1 := zj (hs.alloc (.cells #[.int .i64 0, .int .i64 0, .int .i64 0, .int .i64 0, .int .i64 0] 153)); have HRX := zj (show Zx 153 w.heap.size (w.alloc (.cells #[.int .i64 0, .int .i64 0, .int .i64 0, .int .i64 0, .int .i64 0] 153)) from heap_alloc_new _ _); have hpb := HP.mayBe_bd hm; have hcase := sea_open s hm; obtain ⟨T, hT⟩ : ∃ T, s.extract 16 s.size = T := ⟨_, rfl⟩
 have sT : T.size = s.size - 16 := by rw [← hT]; simp
 have hho := headOf_bytes s (by omega); obtain ⟨hd, hhd⟩ : ∃ hd, HP.headOf s.data.toList = hd := ⟨_, rfl⟩; rw [hhd, hT] at hcase; rw [hhd] at hho; obtain ⟨hk, hl, hc, hr, hs5⟩ := hd; simp only at hho; obtain ⟨g0, g1, g2, g3, g4⟩ := hho; have TSD := tSealD ⟨hk, hl, hc, hr, hs5⟩ T s.size (by simp [Lit.wf, IntKind.min, IntKind.max, IntKind.signed, IntKind.bits]; omega) (by unfold maxLen; omega); obtain ⟨P1, hP1⟩ : ∃ x, (HP.sea ⟨hk, hl, hc, hr, hs5⟩ T s.size).1 = x := ⟨_, rfl⟩; obtain ⟨e1, he1⟩ : ∃ x, (HP.sea ⟨hk, hl, hc, hr, hs5⟩ T s.size).2 = x := ⟨_, rfl⟩
 have HCASE : Hid ((P1 = s ∧ e1 = 0 ∧ HP.opn s = (⟨hk, hl, hc, hr, hs5⟩, T, 0)) ∨ (P1 = ⟨#[]⟩ ∧ e1 = 3 ∧ HP.opn s = (HP.H0, ⟨#[]⟩, 3)) ∨ (P1 ≠ s ∧ e1 = 0 ∧ HP.opn s = (HP.H0, ⟨#[]⟩, 3))) := zj (by
  rw [← hP1, ← he1]; rcases hcase with ⟨h1, h2⟩ | ⟨h1, h2⟩ | ⟨U, h0, h1, h2⟩
  ·exact .inl ⟨by rw [h1], by rw [h1], h2⟩
  ·exact .inr (.inl ⟨by rw [h1], by rw [h1], h2⟩)
  ·exact .inr (.inr ⟨by rw [h1]; exact h0, by rw [h1], h2⟩))
 unfold seaV at TSD; rw [hP1, he1] at TSD; clear hP1 he1 hcase; unfold hv at TSD; obtain ⟨U2, hU2⟩ : ∃ U, s.extract 2 4 = U := ⟨_, rfl⟩; obtain ⟨U4, hU4⟩ : ∃ U, s.extract 4 8 = U := ⟨_, rfl⟩; obtain ⟨U8, hU8⟩ : ∃ U, s.extract 8 12 = U := ⟨_, rfl⟩; rw [hU2] at g2; rw [hU4] at g3; rw [hU8] at g4
 have s2 : U2.size ≤ 4 := by rw [← hU2]; simp; omega
 have s4 : U4.size ≤ 4 := by rw [← hU4]; simp; omega
 have s8 : U8.size ≤ 4 := by rw [← hU8]; simp; omega
 have NN : Hid (∀ (U : ByteArray) (W : World), U.size ≤ 4 → Calls Tryz.prog 131 #[.string U] W fun e w' => e = .returned (.int .i64 (Lib.leNat U.data.toList : Nat)) ∧ W = w') := zj (fun U W h => refNumber_any U W h)
 have i0 : 0 < s.size := by omega
 have i1 : 1 < s.size := by omega
 obtain ⟨b0, hb0⟩ : ∃ c, s[0]'i0 = c := ⟨_, rfl⟩; obtain ⟨b1, hb1⟩ : ∃ c, s[1]'i1 = c := ⟨_, rfl⟩
 have k0 : (b0.toNat : Int) = hk := by rw [← hb0]; exact g0 i0
 have k1 : (b1.toNat : Int) = hl := by rw [← hb1]; exact g1 i1
 have l0 := b0.toNat_lt; have l1 := b1.toNat_lt; have q0 : IntKind.i64.wrap hk = hk := IntWalk.i64_in _ (by omega); have q1 : IntKind.i64.wrap hl = hl := IntWalk.i64_in _ (by omega)
 have j1 : (0 : Int) < s.size ∧ (1 : Int) < s.size ∧ (4 : Int) ≤ s.size ∧ (8 : Int) ≤ s.size ∧ (12 : Int) ≤ s.size ∧ (16 : Int) ≤ s.size := by omega
 clear hs hm hhd g0 g1 sT l0 l1; generalize hw0 : w.alloc (.cells #[.int .i64 0, .int .i64 0, .int .i64 0, .int .i64 0, .int .i64 0] 153) = W0 at *; go_enter Tryz.func75, Tryz.ntmps75; go_wp2_with fail; refine HZ2.out.mono ?_; rintro e w1 ⟨rfl, rfl⟩; clear hw0 HZ2; go_wp2_with fail; have HD0 := zj ((Below.refl W0.heap.size W0).drew); refine wp_region_held_drew (S := fun V => True) (by kernel_rfl) trivial (fun hHeld => ?_); generalize hD : W0.drew = D at *; clear hD; refine tk 0 (some 13) ?_ rfl rfl ?_ ?_; rotate_left
 ·intro W h; (try dsimp only at h); go_simp; (try with_reducible rfl)
 try simp only [Act.put, jA, jZ, jS]
 refine tk 1 (some 14) ?_ rfl rfl ?_ ?_; rotate_left
 ·intro W h; (try dsimp only at h); go_simp; (try with_reducible rfl)
 try simp only [Act.put, jA, jZ, jS]
 refine tk 2 (some 15) ?_ rfl rfl ?_ ?_; rotate_left
 ·intro W h; (try dsimp only at h); go_simp; (try with_reducible rfl)
 try simp only [Act.put, jA, jZ, jS]
 refine tk 3 (some 16) ?_ rfl rfl ?_ ?_; rotate_left
 ·intro W h; (try dsimp only at h); go_simp; (try with_reducible rfl)
 try simp only [Act.put, jA, jZ, jS]
 refine tk 4 (some 17) ?_ rfl rfl ?_ ?_; rotate_left
 ·intro W h; (try dsimp only at h); go_simp; (try with_reducible rfl)
 try simp only [Act.put, jA, jZ, jS]
 refine tk 5 (some 18) ?_ rfl rfl ?_ ?_; rotate_left
 ·intro W h; (try dsimp only at h); go_simp; (try with_reducible rfl)
 try simp only [Act.put, jA, jZ, jS]
 refine tk 6 (some 19) ?_ rfl rfl ?_ ?_; rotate_left
 ·intro W h; (try dsimp only at h); go_simp; (try with_reducible rfl)
 try simp only [Act.put, jA, jZ, jS]
 refine tk 7 (some 20) ?_ rfl rfl ?_ ?_; rotate_left
 ·intro W h; (try dsimp only at h); go_simp; (try with_reducible rfl)
 try simp only [Act.put, jA, jZ, jS]
 refine tk 9 (some 22) ?_ rfl rfl ?_ ?_; rotate_left
 ·intro W h; (try dsimp only at h); go_simp; (try with_reducible rfl)
 try simp only [Act.put, jA, jZ, jS]
 refine tk 10 (some 23) ?_ rfl rfl ?_ ?_; rotate_left
 ·intro W h; (try dsimp only at h); go_simp; (try with_reducible rfl)
 try simp only [Act.put, jA, jZ, jS]
 refine tk 12 (some 25) ?_ rfl rfl ?_ ?_; rotate_left
 ·intro W h; (try dsimp only at h); go_simp; (try with_reducible rfl)
 try simp only [Act.put, jA, jZ, jS]
 refine tk 13 (some 26) ?_ rfl rfl ?_ ?_; rotate_left
 ·intro W h; (try dsimp only at h); go_simp; (try with_reducible rfl)
 try simp only [Act.put, jA, jZ, jS]
 clear hb0 hb1 k0 k1 q0 q1 hU2 hU4 hU8; refine wpAnyH_ready (rs := [8, 16]) (by kernel_rfl) (by simp) (AllReadyH.cons rfl (fun KK hK => ?_) (AllReadyH.cons rfl (fun KK hK => ?_) AllReadyH.nil))
 ·go_simp
  refine (NN.out _ _ (by assumption)).mono ?_; rintro e V ⟨rfl, rfl⟩; rw [g2]; go_wp2_with fail; refine hK.out _ _ trivial (fun _ => ?_); clear hK; try simp only [Act.put, jA, jZ, jS]
  refine wpAnyH_ready (rs := [11, 16]) (by kernel_rfl) (by simp) (AllReadyH.cons rfl (fun KK hK => ?_) (AllReadyH.cons rfl (fun KK hK => ?_) AllReadyH.nil))
  ·go_simp
   refine (NN.out _ _ (by assumption)).mono ?_; rintro e V ⟨rfl, rfl⟩; rw [g3]; go_wp2_with fail; refine hK.out _ _ trivial (fun _ => ?_); clear hK; try simp only [Act.put, jA, jZ, jS]
   refine wpAnyH_ready (rs := [14, 16]) (by kernel_rfl) (by simp) (AllReadyH.cons rfl (fun KK hK => ?_) (AllReadyH.cons rfl (fun KK hK => ?_) AllReadyH.nil))
   ·go_simp
    refine (NN.out _ _ (by assumption)).mono ?_; rintro e V ⟨rfl, rfl⟩; rw [g4]; go_wp2_with fail; refine hK.out _ _ trivial (fun _ => ?_); clear hK; try simp only [Act.put, jA, jZ, jS]
    refine tk 15 (some 28) ?_ rfl rfl ?_ ?_; rotate_left
    ·intro W h; (try dsimp only at h); go_simp; (try with_reducible rfl)
    try simp only [Act.put, jA, jZ, jS]
    refine rd1 16 rfl (fun KK hK => ?_); go_simp; refine hK.out _ _ trivial (fun _ => ?_); clear hK; try simp only [Act.put, jA, jZ, jS]
    refine rd1 17 rfl (fun KK hK => ?_); go_simp; refine hK.out _ _ trivial (fun _ => ?_); clear hK; try simp only [Act.put, jA, jZ, jS]
    refine wpAnyH_done (by kernel_rfl) ?_ _; have hA : Bx 153 (World.heap D).size ⟨hk, hl, hc, hr, hs5⟩ (D.alloc (.cells #[.int .i64 hk, .int .i64 hl, .int .i64 hc, .int .i64 hr, .int .i64 hs5] 153)) ∧ Below W0.heap.size W0 (D.alloc (.cells #[.int .i64 hk, .int .i64 hl, .int .i64 hc, .int .i64 hr, .int .i64 hs5] 153)) := ⟨heap_alloc_new _ _, HD0.out.trans' (below_alloc _ _)⟩; generalize D.alloc (.cells #[.int .i64 hk, .int .i64 hl, .int .i64 hc, .int .i64 hr, .int .i64 hs5] 153) = W4 at *; generalize D.heap.size = g at *; obtain ⟨hbx, hb4⟩ := hA; have HB4 := zj (HB0.out.trans' hb4); have HZX := zj (HRX.out.below hb4); have HS4 := zj (HS1.out.kept hb4); have HBX := zj hbx; clear hb4 hbx HD0; have HSV : Hid (∀ V, Below W4.heap.size W4 V → Hid (Below W4.heap.size W4 V) ∧ V.cell? ⟨g, 0, none⟩ = some (.int .i64 hk) ∧ V.cell? ⟨g, 1, none⟩ = some (.int .i64 hl) ∧ V.cell? ⟨g, 2, none⟩ = some (.int .i64 hc) ∧ V.cell? ⟨g, 3, none⟩ = some (.int .i64 hr) ∧ V.cell? ⟨g, 4, none⟩ = some (.int .i64 hs5)) := zj (fun V hb => ⟨zj hb, (HBX.out.below hb).cells⟩); have hSd := HSV.out _ (Below.refl W4.heap.size W4).drew; go_wp2_with fail
    go_region_held3 (fun V => Hid (Below W4.heap.size W4 V) ∧ V.cell? ⟨g, 0, none⟩ = some (.int .i64 hk) ∧ V.cell? ⟨g, 1, none⟩ = some (.int .i64 hl) ∧ V.cell? ⟨g, 2, none⟩ = some (.int .i64 hc) ∧ V.cell? ⟨g, 3, none⟩ = some (.int .i64 hr) ∧ V.cell? ⟨g, 4, none⟩ = some (.int .i64 hs5))
     (first | assumption | exact hSd)
     (first
      | (go_at_call 132; refine (Tells.held TSD HS4 (by assumption)).mono ?_; rintro e W5 ⟨rfl, hb5⟩; have hSn := HSV.out _ hb5; have HW5 := zj hb5; clear hb5)
      | fail "no arm")
    clear hSd hSn; have HB5 := zj (HB4.out.trans' HW5.out); have HZ5 := zj (HZX.out.below HW5.out); obtain ⟨v0, v1, v2, v3, v4⟩ := HZ5.out.cells; obtain ⟨f0, f1, f2, f3, f4⟩ := HZ5.out.frozen; obtain ⟨c0, c1, c2, c3, c4⟩ := (HBX.out.below HW5.out).cells; simp only at c0 c1 c2 c3 c4; rcases HCASE.out with ⟨hP, rfl, hop⟩ | ⟨rfl, rfl, hop⟩ | ⟨hU, rfl, hop⟩
    ·have HO := zj hop
     have hss : (P1.toList == s.toList) = true := by rw [hP]; exact beq_self_eq_true _
     clear hop hP; go_wp2_with fail
     go_region
     all_goals
      go_wp2_with fail; obtain ⟨r0, r1, r2, r3, r4⟩ := (set5_box HZ5.out.bx ⟨hk, hl, hc, hr, hs5⟩).cells; unfold set5 at r0 r1 r2 r3 r4; simp only [HP.H0] at r0 r1 r2 r3 r4; refine bodyPost_ret (v := .tuple #[.agg #[.int .i64 hk, .int .i64 hl, .int .i64 hc, .int .i64 hr, .int .i64 hs5], .string T, .int .i64 0]) (by simp [results, Tryz.results75, go_sem, r0, r1, r2, r3, r4]) rfl ⟨?_, ?_⟩
      ·unfold opnV
       rw [HO.out]; rfl
      ·first | exact set5_below HB5.out (Nat.le_refl _) ⟨hk, hl, hc, hr, hs5⟩ | exact (set5_below HB5.out (Nat.le_refl _) ⟨hk, hl, hc, hr, hs5⟩).drew
    ·have HO := zj hop
     clear hop; go_wp2_with fail; obtain ⟨r0, r1, r2, r3, r4⟩ := (set5_box HZ5.out.bx HP.H0).cells; unfold set5 at r0 r1 r2 r3 r4; simp only [HP.H0] at r0 r1 r2 r3 r4; refine bodyPost_ret (v := .tuple #[.agg #[.int .i64 0, .int .i64 0, .int .i64 0, .int .i64 0, .int .i64 0], .string ⟨#[]⟩, .int .i64 3]) (by simp [results, Tryz.results75, go_sem, r0, r1, r2, r3, r4]) rfl ⟨?_, ?_⟩
     ·unfold opnV
      rw [HO.out]; rfl
     ·first | exact set5_below HB5.out (Nat.le_refl _) HP.H0 | exact (set5_below HB5.out (Nat.le_refl _) HP.H0).drew
    ·have HO := zj hop
     have hne : (P1.toList == s.toList) = false := by
      rw [Lib.toList_data, Lib.toList_data]; exact beq_eq_false_iff_ne.2 fun e => hU (ByteArray.ext (Array.toList_inj.1 e))
     clear hop hU; go_wp2_with fail; obtain ⟨r0, r1, r2, r3, r4⟩ := (set5_box HZ5.out.bx HP.H0).cells; unfold set5 at r0 r1 r2 r3 r4; simp only [HP.H0] at r0 r1 r2 r3 r4; refine bodyPost_ret (v := .tuple #[.agg #[.int .i64 0, .int .i64 0, .int .i64 0, .int .i64 0, .int .i64 0], .string ⟨#[]⟩, .int .i64 3]) (by simp [results, Tryz.results75, go_sem, r0, r1, r2, r3, r4]) rfl ⟨?_, ?_⟩
     ·unfold opnV
      rw [HO.out]; rfl
     ·first | exact set5_below HB5.out (Nat.le_refl _) HP.H0 | exact (set5_below HB5.out (Nat.le_refl _) HP.H0).drew
   ·go_simp
    refine hK.out _ _ trivial (fun _ => ?_); clear hK; try simp only [Act.put, jA, jZ, jS]
    refine rd1 14 rfl (fun KK hK => ?_); go_simp; refine (NN.out _ _ (by assumption)).mono ?_; rintro e V ⟨rfl, rfl⟩; rw [g4]; go_wp2_with fail; refine hK.out _ _ trivial (fun _ => ?_); clear hK; try simp only [Act.put, jA, jZ, jS]
    refine tk 15 (some 28) ?_ rfl rfl ?_ ?_; rotate_left
    ·intro W h; (try dsimp only at h); go_simp; (try with_reducible rfl)
    try simp only [Act.put, jA, jZ, jS]
    refine rd1 17 rfl (fun KK hK => ?_); go_simp; refine hK.out _ _ trivial (fun _ => ?_); clear hK; try simp only [Act.put, jA, jZ, jS]
    refine wpAnyH_done (by kernel_rfl) ?_ _; have hA : Bx 153 (World.heap D).size ⟨hk, hl, hc, hr, hs5⟩ (D.alloc (.cells #[.int .i64 hk, .int .i64 hl, .int .i64 hc, .int .i64 hr, .int .i64 hs5] 153)) ∧ Below W0.heap.size W0 (D.alloc (.cells #[.int .i64 hk, .int .i64 hl, .int .i64 hc, .int .i64 hr, .int .i64 hs5] 153)) := ⟨heap_alloc_new _ _, HD0.out.trans' (below_alloc _ _)⟩; generalize D.alloc (.cells #[.int .i64 hk, .int .i64 hl, .int .i64 hc, .int .i64 hr, .int .i64 hs5] 153) = W4 at *; generalize D.heap.size = g at *; obtain ⟨hbx, hb4⟩ := hA; have HB4 := zj (HB0.out.trans' hb4); have HZX := zj (HRX.out.below hb4); have HS4 := zj (HS1.out.kept hb4); have HBX := zj hbx; clear hb4 hbx HD0; have HSV : Hid (∀ V, Below W4.heap.size W4 V → Hid (Below W4.heap.size W4 V) ∧ V.cell? ⟨g, 0, none⟩ = some (.int .i64 hk) ∧ V.cell? ⟨g, 1, none⟩ = some (.int .i64 hl) ∧ V.cell? ⟨g, 2, none⟩ = some (.int .i64 hc) ∧ V.cell? ⟨g, 3, none⟩ = some (.int .i64 hr) ∧ V.cell? ⟨g, 4, none⟩ = some (.int .i64 hs5)) := zj (fun V hb => ⟨zj hb, (HBX.out.below hb).cells⟩); have hSd := HSV.out _ (Below.refl W4.heap.size W4).drew; go_wp2_with fail
    go_region_held3 (fun V => Hid (Below W4.heap.size W4 V) ∧ V.cell? ⟨g, 0, none⟩ = some (.int .i64 hk) ∧ V.cell? ⟨g, 1, none⟩ = some (.int .i64 hl) ∧ V.cell? ⟨g, 2, none⟩ = some (.int .i64 hc) ∧ V.cell? ⟨g, 3, none⟩ = some (.int .i64 hr) ∧ V.cell? ⟨g, 4, none⟩ = some (.int .i64 hs5))
     (first | assumption | exact hSd)
     (first
      | (go_at_call 132; refine (Tells.held TSD HS4 (by assumption)).mono ?_; rintro e W5 ⟨rfl, hb5⟩; have hSn := HSV.out _ hb5; have HW5 := zj hb5; clear hb5)
      | fail "no arm")
    clear hSd hSn; have HB5 := zj (HB4.out.trans' HW5.out); have HZ5 := zj (HZX.out.below HW5.out); obtain ⟨v0, v1, v2, v3, v4⟩ := HZ5.out.cells; obtain ⟨f0, f1, f2, f3, f4⟩ := HZ5.out.frozen; obtain ⟨c0, c1, c2, c3, c4⟩ := (HBX.out.below HW5.out).cells; simp only at c0 c1 c2 c3 c4; rcases HCASE.out with ⟨hP, rfl, hop⟩ | ⟨rfl, rfl, hop⟩ | ⟨hU, rfl, hop⟩
    ·have HO := zj hop
     have hss : (P1.toList == s.toList) = true := by rw [hP]; exact beq_self_eq_true _
     clear hop hP; go_wp2_with fail
     go_region
     all_goals
      go_wp2_with fail; obtain ⟨r0, r1, r2, r3, r4⟩ := (set5_box HZ5.out.bx ⟨hk, hl, hc, hr, hs5⟩).cells; unfold set5 at r0 r1 r2 r3 r4; simp only [HP.H0] at r0 r1 r2 r3 r4; refine bodyPost_ret (v := .tuple #[.agg #[.int .i64 hk, .int .i64 hl, .int .i64 hc, .int .i64 hr, .int .i64 hs5], .string T, .int .i64 0]) (by simp [results, Tryz.results75, go_sem, r0, r1, r2, r3, r4]) rfl ⟨?_, ?_⟩
      ·unfold opnV
       rw [HO.out]; rfl
      ·first | exact set5_below HB5.out (Nat.le_refl _) ⟨hk, hl, hc, hr, hs5⟩ | exact (set5_below HB5.out (Nat.le_refl _) ⟨hk, hl, hc, hr, hs5⟩).drew
    ·have HO := zj hop
     clear hop; go_wp2_with fail; obtain ⟨r0, r1, r2, r3, r4⟩ := (set5_box HZ5.out.bx HP.H0).cells; unfold set5 at r0 r1 r2 r3 r4; simp only [HP.H0] at r0 r1 r2 r3 r4; refine bodyPost_ret (v := .tuple #[.agg #[.int .i64 0, .int .i64 0, .int .i64 0, .int .i64 0, .int .i64 0], .string ⟨#[]⟩, .int .i64 3]) (by simp [results, Tryz.results75, go_sem, r0, r1, r2, r3, r4]) rfl ⟨?_, ?_⟩
     ·unfold opnV
      rw [HO.out]; rfl
     ·first | exact set5_below HB5.out (Nat.le_refl _) HP.H0 | exact (set5_below HB5.out (Nat.le_refl _) HP.H0).drew
    ·have HO := zj hop
     have hne : (P1.toList == s.toList) = false := by
      rw [Lib.toList_data, Lib.toList_data]; exact beq_eq_false_iff_ne.2 fun e => hU (ByteArray.ext (Array.toList_inj.1 e))
     clear hop hU; go_wp2_with fail; obtain ⟨r0, r1, r2, r3, r4⟩ := (set5_box HZ5.out.bx HP.H0).cells; unfold set5 at r0 r1 r2 r3 r4; simp only [HP.H0] at r0 r1 r2 r3 r4; refine bodyPost_ret (v := .tuple #[.agg #[.int .i64 0, .int .i64 0, .int .i64 0, .int .i64 0, .int .i64 0], .string ⟨#[]⟩, .int .i64 3]) (by simp [results, Tryz.results75, go_sem, r0, r1, r2, r3, r4]) rfl ⟨?_, ?_⟩
     ·unfold opnV
      rw [HO.out]; rfl
     ·first | exact set5_below HB5.out (Nat.le_refl _) HP.H0 | exact (set5_below HB5.out (Nat.le_refl _) HP.H0).drew
  ·go_simp
   refine hK.out _ _ trivial (fun _ => ?_); clear hK; try simp only [Act.put, jA, jZ, jS]
   refine rd1 11 rfl (fun KK hK => ?_); go_simp; refine (NN.out _ _ (by assumption)).mono ?_; rintro e V ⟨rfl, rfl⟩; rw [g3]; go_wp2_with fail; refine hK.out _ _ trivial (fun _ => ?_); clear hK; try simp only [Act.put, jA, jZ, jS]
   refine rd1 14 rfl (fun KK hK => ?_); go_simp; refine (NN.out _ _ (by assumption)).mono ?_; rintro e V ⟨rfl, rfl⟩; rw [g4]; go_wp2_with fail; refine hK.out _ _ trivial (fun _ => ?_); clear hK; try simp only [Act.put, jA, jZ, jS]
   refine tk 15 (some 28) ?_ rfl rfl ?_ ?_; rotate_left
   ·intro W h; (try dsimp only at h); go_simp; (try with_reducible rfl)
   try simp only [Act.put, jA, jZ, jS]
   refine rd1 17 rfl (fun KK hK => ?_); go_simp; refine hK.out _ _ trivial (fun _ => ?_); clear hK; try simp only [Act.put, jA, jZ, jS]
   refine wpAnyH_done (by kernel_rfl) ?_ _; have hA : Bx 153 (World.heap D).size ⟨hk, hl, hc, hr, hs5⟩ (D.alloc (.cells #[.int .i64 hk, .int .i64 hl, .int .i64 hc, .int .i64 hr, .int .i64 hs5] 153)) ∧ Below W0.heap.size W0 (D.alloc (.cells #[.int .i64 hk, .int .i64 hl, .int .i64 hc, .int .i64 hr, .int .i64 hs5] 153)) := ⟨heap_alloc_new _ _, HD0.out.trans' (below_alloc _ _)⟩; generalize D.alloc (.cells #[.int .i64 hk, .int .i64 hl, .int .i64 hc, .int .i64 hr, .int .i64 hs5] 153) = W4 at *; generalize D.heap.size = g at *; obtain ⟨hbx, hb4⟩ := hA; have HB4 := zj (HB0.out.trans' hb4); have HZX := zj (HRX.out.below hb4); have HS4 := zj (HS1.out.kept hb4); have HBX := zj hbx; clear hb4 hbx HD0; have HSV : Hid (∀ V, Below W4.heap.size W4 V → Hid (Below W4.heap.size W4 V) ∧ V.cell? ⟨g, 0, none⟩ = some (.int .i64 hk) ∧ V.cell? ⟨g, 1, none⟩ = some (.int .i64 hl) ∧ V.cell? ⟨g, 2, none⟩ = some (.int .i64 hc) ∧ V.cell? ⟨g, 3, none⟩ = some (.int .i64 hr) ∧ V.cell? ⟨g, 4, none⟩ = some (.int .i64 hs5)) := zj (fun V hb => ⟨zj hb, (HBX.out.below hb).cells⟩); have hSd := HSV.out _ (Below.refl W4.heap.size W4).drew; go_wp2_with fail
   go_region_held3 (fun V => Hid (Below W4.heap.size W4 V) ∧ V.cell? ⟨g, 0, none⟩ = some (.int .i64 hk) ∧ V.cell? ⟨g, 1, none⟩ = some (.int .i64 hl) ∧ V.cell? ⟨g, 2, none⟩ = some (.int .i64 hc) ∧ V.cell? ⟨g, 3, none⟩ = some (.int .i64 hr) ∧ V.cell? ⟨g, 4, none⟩ = some (.int .i64 hs5))
    (first | assumption | exact hSd)
    (first
     | (go_at_call 132; refine (Tells.held TSD HS4 (by assumption)).mono ?_; rintro e W5 ⟨rfl, hb5⟩; have hSn := HSV.out _ hb5; have HW5 := zj hb5; clear hb5)
     | fail "no arm")
   clear hSd hSn; have HB5 := zj (HB4.out.trans' HW5.out); have HZ5 := zj (HZX.out.below HW5.out); obtain ⟨v0, v1, v2, v3, v4⟩ := HZ5.out.cells; obtain ⟨f0, f1, f2, f3, f4⟩ := HZ5.out.frozen; obtain ⟨c0, c1, c2, c3, c4⟩ := (HBX.out.below HW5.out).cells; simp only at c0 c1 c2 c3 c4; rcases HCASE.out with ⟨hP, rfl, hop⟩ | ⟨rfl, rfl, hop⟩ | ⟨hU, rfl, hop⟩
   ·have HO := zj hop
    have hss : (P1.toList == s.toList) = true := by rw [hP]; exact beq_self_eq_true _
    clear hop hP; go_wp2_with fail
    go_region
    all_goals
     go_wp2_with fail; obtain ⟨r0, r1, r2, r3, r4⟩ := (set5_box HZ5.out.bx ⟨hk, hl, hc, hr, hs5⟩).cells; unfold set5 at r0 r1 r2 r3 r4; simp only [HP.H0] at r0 r1 r2 r3 r4; refine bodyPost_ret (v := .tuple #[.agg #[.int .i64 hk, .int .i64 hl, .int .i64 hc, .int .i64 hr, .int .i64 hs5], .string T, .int .i64 0]) (by simp [results, Tryz.results75, go_sem, r0, r1, r2, r3, r4]) rfl ⟨?_, ?_⟩
     ·unfold opnV
      rw [HO.out]; rfl
     ·first | exact set5_below HB5.out (Nat.le_refl _) ⟨hk, hl, hc, hr, hs5⟩ | exact (set5_below HB5.out (Nat.le_refl _) ⟨hk, hl, hc, hr, hs5⟩).drew
   ·have HO := zj hop
    clear hop; go_wp2_with fail; obtain ⟨r0, r1, r2, r3, r4⟩ := (set5_box HZ5.out.bx HP.H0).cells; unfold set5 at r0 r1 r2 r3 r4; simp only [HP.H0] at r0 r1 r2 r3 r4; refine bodyPost_ret (v := .tuple #[.agg #[.int .i64 0, .int .i64 0, .int .i64 0, .int .i64 0, .int .i64 0], .string ⟨#[]⟩, .int .i64 3]) (by simp [results, Tryz.results75, go_sem, r0, r1, r2, r3, r4]) rfl ⟨?_, ?_⟩
    ·unfold opnV
     rw [HO.out]; rfl
    ·first | exact set5_below HB5.out (Nat.le_refl _) HP.H0 | exact (set5_below HB5.out (Nat.le_refl _) HP.H0).drew
   ·have HO := zj hop
    have hne : (P1.toList == s.toList) = false := by
     rw [Lib.toList_data, Lib.toList_data]; exact beq_eq_false_iff_ne.2 fun e => hU (ByteArray.ext (Array.toList_inj.1 e))
    clear hop hU; go_wp2_with fail; obtain ⟨r0, r1, r2, r3, r4⟩ := (set5_box HZ5.out.bx HP.H0).cells; unfold set5 at r0 r1 r2 r3 r4; simp only [HP.H0] at r0 r1 r2 r3 r4; refine bodyPost_ret (v := .tuple #[.agg #[.int .i64 0, .int .i64 0, .int .i64 0, .int .i64 0, .int .i64 0], .string ⟨#[]⟩, .int .i64 3]) (by simp [results, Tryz.results75, go_sem, r0, r1, r2, r3, r4]) rfl ⟨?_, ?_⟩
    ·unfold opnV
     rw [HO.out]; rfl
    ·first | exact set5_below HB5.out (Nat.le_refl _) HP.H0 | exact (set5_below HB5.out (Nat.le_refl _) HP.H0).drew
 ·go_simp
  refine hK.out _ _ trivial (fun _ => ?_); clear hK; try simp only [Act.put, jA, jZ, jS]
  refine rd1 8 rfl (fun KK hK => ?_); go_simp; refine (NN.out _ _ (by assumption)).mono ?_; rintro e V ⟨rfl, rfl⟩; rw [g2]; go_wp2_with fail; refine hK.out _ _ trivial (fun _ => ?_); clear hK; try simp only [Act.put, jA, jZ, jS]
  refine rd1 11 rfl (fun KK hK => ?_); go_simp; refine (NN.out _ _ (by assumption)).mono ?_; rintro e V ⟨rfl, rfl⟩; rw [g3]; go_wp2_with fail; refine hK.out _ _ trivial (fun _ => ?_); clear hK; try simp only [Act.put, jA, jZ, jS]
  refine rd1 14 rfl (fun KK hK => ?_); go_simp; refine (NN.out _ _ (by assumption)).mono ?_; rintro e V ⟨rfl, rfl⟩; rw [g4]; go_wp2_with fail; refine hK.out _ _ trivial (fun _ => ?_); clear hK; try simp only [Act.put, jA, jZ, jS]
  refine tk 15 (some 28) ?_ rfl rfl ?_ ?_; rotate_left
  ·intro W h; (try dsimp only at h); go_simp; (try with_reducible rfl)
  try simp only [Act.put, jA, jZ, jS]
  refine rd1 17 rfl (fun KK hK => ?_); go_simp; refine hK.out _ _ trivial (fun _ => ?_); clear hK; try simp only [Act.put, jA, jZ, jS]
  refine wpAnyH_done (by kernel_rfl) ?_ _; have hA : Bx 153 (World.heap D).size ⟨hk, hl, hc, hr, hs5⟩ (D.alloc (.cells #[.int .i64 hk, .int .i64 hl, .int .i64 hc, .int .i64 hr, .int .i64 hs5] 153)) ∧ Below W0.heap.size W0 (D.alloc (.cells #[.int .i64 hk, .int .i64 hl, .int .i64 hc, .int .i64 hr, .int .i64 hs5] 153)) := ⟨heap_alloc_new _ _, HD0.out.trans' (below_alloc _ _)⟩; generalize D.alloc (.cells #[.int .i64 hk, .int .i64 hl, .int .i64 hc, .int .i64 hr, .int .i64 hs5] 153) = W4 at *; generalize D.heap.size = g at *; obtain ⟨hbx, hb4⟩ := hA; have HB4 := zj (HB0.out.trans' hb4); have HZX := zj (HRX.out.below hb4); have HS4 := zj (HS1.out.kept hb4); have HBX := zj hbx; clear hb4 hbx HD0; have HSV : Hid (∀ V, Below W4.heap.size W4 V → Hid (Below W4.heap.size W4 V) ∧ V.cell? ⟨g, 0, none⟩ = some (.int .i64 hk) ∧ V.cell? ⟨g, 1, none⟩ = some (.int .i64 hl) ∧ V.cell? ⟨g, 2, none⟩ = some (.int .i64 hc) ∧ V.cell? ⟨g, 3, none⟩ = some (.int .i64 hr) ∧ V.cell? ⟨g, 4, none⟩ = some (.int .i64 hs5)) := zj (fun V hb => ⟨zj hb, (HBX.out.below hb).cells⟩); have hSd := HSV.out _ (Below.refl W4.heap.size W4).drew; go_wp2_with fail
  go_region_held3 (fun V => Hid (Below W4.heap.size W4 V) ∧ V.cell? ⟨g, 0, none⟩ = some (.int .i64 hk) ∧ V.cell? ⟨g, 1, none⟩ = some (.int .i64 hl) ∧ V.cell? ⟨g, 2, none⟩ = some (.int .i64 hc) ∧ V.cell? ⟨g, 3, none⟩ = some (.int .i64 hr) ∧ V.cell? ⟨g, 4, none⟩ = some (.int .i64 hs5))
   (first | assumption | exact hSd)
   (first
    | (go_at_call 132; refine (Tells.held TSD HS4 (by assumption)).mono ?_; rintro e W5 ⟨rfl, hb5⟩; have hSn := HSV.out _ hb5; have HW5 := zj hb5; clear hb5)
    | fail "no arm")
  clear hSd hSn; have HB5 := zj (HB4.out.trans' HW5.out); have HZ5 := zj (HZX.out.below HW5.out); obtain ⟨v0, v1, v2, v3, v4⟩ := HZ5.out.cells; obtain ⟨f0, f1, f2, f3, f4⟩ := HZ5.out.frozen; obtain ⟨c0, c1, c2, c3, c4⟩ := (HBX.out.below HW5.out).cells; simp only at c0 c1 c2 c3 c4; rcases HCASE.out with ⟨hP, rfl, hop⟩ | ⟨rfl, rfl, hop⟩ | ⟨hU, rfl, hop⟩
  ·have HO := zj hop
   have hss : (P1.toList == s.toList) = true := by rw [hP]; exact beq_self_eq_true _
   clear hop hP; go_wp2_with fail
   go_region
   all_goals
    go_wp2_with fail; obtain ⟨r0, r1, r2, r3, r4⟩ := (set5_box HZ5.out.bx ⟨hk, hl, hc, hr, hs5⟩).cells; unfold set5 at r0 r1 r2 r3 r4; simp only [HP.H0] at r0 r1 r2 r3 r4; refine bodyPost_ret (v := .tuple #[.agg #[.int .i64 hk, .int .i64 hl, .int .i64 hc, .int .i64 hr, .int .i64 hs5], .string T, .int .i64 0]) (by simp [results, Tryz.results75, go_sem, r0, r1, r2, r3, r4]) rfl ⟨?_, ?_⟩
    ·unfold opnV
     rw [HO.out]; rfl
    ·first | exact set5_below HB5.out (Nat.le_refl _) ⟨hk, hl, hc, hr, hs5⟩ | exact (set5_below HB5.out (Nat.le_refl _) ⟨hk, hl, hc, hr, hs5⟩).drew
  ·have HO := zj hop
   clear hop; go_wp2_with fail; obtain ⟨r0, r1, r2, r3, r4⟩ := (set5_box HZ5.out.bx HP.H0).cells; unfold set5 at r0 r1 r2 r3 r4; simp only [HP.H0] at r0 r1 r2 r3 r4; refine bodyPost_ret (v := .tuple #[.agg #[.int .i64 0, .int .i64 0, .int .i64 0, .int .i64 0, .int .i64 0], .string ⟨#[]⟩, .int .i64 3]) (by simp [results, Tryz.results75, go_sem, r0, r1, r2, r3, r4]) rfl ⟨?_, ?_⟩
   ·unfold opnV
    rw [HO.out]; rfl
   ·first | exact set5_below HB5.out (Nat.le_refl _) HP.H0 | exact (set5_below HB5.out (Nat.le_refl _) HP.H0).drew
  ·have HO := zj hop
   have hne : (P1.toList == s.toList) = false := by
    rw [Lib.toList_data, Lib.toList_data]; exact beq_eq_false_iff_ne.2 fun e => hU (ByteArray.ext (Array.toList_inj.1 e))
   clear hop hU; go_wp2_with fail; obtain ⟨r0, r1, r2, r3, r4⟩ := (set5_box HZ5.out.bx HP.H0).cells; unfold set5 at r0 r1 r2 r3 r4; simp only [HP.H0] at r0 r1 r2 r3 r4; refine bodyPost_ret (v := .tuple #[.agg #[.int .i64 0, .int .i64 0, .int .i64 0, .int .i64 0, .int .i64 0], .string ⟨#[]⟩, .int .i64 3]) (by simp [results, Tryz.results75, go_sem, r0, r1, r2, r3, r4]) rfl ⟨?_, ?_⟩
   ·unfold opnV
    rw [HO.out]; rfl
   ·first | exact set5_below HB5.out (Nat.le_refl _) HP.H0 | exact (set5_below HB5.out (Nat.le_refl _) HP.H0).drew
theorem refOpen_any (s : ByteArray) (w : World) (hs : Sizes w) :
  Calls Tryz.prog 75 #[.string s] w fun e w' => e = .returned (opnV s) ∧ Below w.heap.size w w' := by
 cases hm : mayBe s.size with
 | true => exact refOpen_size s w hs hm
 | false =>
  have HZ2 := zj (sizeRef_any (s.size : Int) (w.alloc (.cells #[.int .i64 0, .int .i64 0, .int .i64 0, .int .i64 0, .int .i64 0] 153))); rw [show decide ((s.size : Int) = 128 ∨ (s.size : Int) = 256 ∨ (s.size : Int) = 512 ∨ (s.size : Int) = 1024) = false from hm] at HZ2; have HB0 := zj (below_alloc w (.cells #[.int .i64 0, .int .i64 0, .int .i64 0, .int .i64 0, .int .i64 0] 153))
  have hv0 : opnV s = .tuple #[.agg #[.int .i64 0, .int .i64 0, .int .i64 0, .int .i64 0, .int .i64 0], .string ⟨#[]⟩, .int .i64 3] := by
   unfold opnV; rw [HP.opn_bad (s := s) (by rw [hm]; simp)]; rfl
  rw [hv0]; clear hm hs hv0; go_enter Tryz.func75, Tryz.ntmps75; go_wp2_with fail; refine HZ2.out.mono ?_; rintro e w1 ⟨rfl, rfl⟩; go_wp2_with fail; refine bodyPost_ret (v := .tuple #[.agg #[.int .i64 0, .int .i64 0, .int .i64 0, .int .i64 0, .int .i64 0], .string ⟨#[]⟩, .int .i64 3]) (by simp [results, Tryz.results75, go_sem]) rfl ⟨rfl, HB0.out⟩
end Go.Proofs.YtpeghilfldpgfaaGreatDoor.L7
