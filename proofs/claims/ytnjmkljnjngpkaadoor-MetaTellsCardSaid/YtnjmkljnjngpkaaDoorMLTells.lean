/-
  The walk of MetaTells. Written by wip/gen_mtells.py.
-/
import Derived.Test.YtnjmkljnjngpkaaDoorMFixed
import Derived.Test.YtnjmkljnjngpkaaDoorMDDec
import Derived.Test.YtnjmkljnjngpkaaDoorMLTorn
import Derived.Test.YtnjmkljnjngpkaaDoorMLBack
import Derived.Deep.RegionHeld3
namespace Go.Proofs.YtnjmkljnjngpkaaDoor
open Go.RowKit MP
set_option linter.unusedVariables false
set_option linter.unusedSimpArgs false

set_option maxHeartbeats 1000000 in
theorem ref_any (P G R L C : Int) (w : World) : Calls Tryd.prog 11 #[mv P G R L C] w fun e w' => e = .returned (mv P G R L C) ∧ Below w.heap.size w w' := by
  have hb1 := mbox_below 23 P G R L C w
  have hb2 := mbox_below 29 0 0 0 0 0 (mbox 23 P G R L C w)
  have HX := Lib.hid ((mbox_new 23 P G R L C w).below hb2)
  have HY := Lib.hid (mbox_new 29 0 0 0 0 0 (mbox 23 P G R L C w))
  clear hb1 hb2
  obtain ⟨x0, x1, x2, x3, x4⟩ := HX.out.cells
  obtain ⟨y0, y1, y2, y3, y4⟩ := HY.out.cells
  obtain ⟨g0, g1, g2, g3, g4⟩ := HY.out.free
  simp only [mbox] at x0 x1 x2 x3 x4 y0 y1 y2 y3 y4 g0 g1 g2 g3 g4
  go_enter Tryd.func11, Tryd.ntmps11
  go_wp2_with fail
  have hr := mbox_new 29 P G R L C (mbox 23 P G R L C w)
  rw [mbox_size] at hr
  obtain ⟨r0, r1, r2, r3, r4⟩ := hr.cells
  refine bodyPost_ret (v := mv P G R L C) (by simp [results, Tryd.results11, go_sem, r0, r1, r2, r3, r4]) rfl ⟨rfl, ?_⟩
  exact (mbox_below _ _ _ _ _ _ w).trans' (mbox_below _ _ _ _ _ _ _)
/-- Two texts in a box. -/
def Sx (g : Nat) (s t : ByteArray) (w : World) : Prop := w.heap[g]? = some (.cells #[.string s, .string t] 24 (0, 0))
theorem Sx.cells {g : Nat} {s t : ByteArray} {w : World} (k : Sx g s t w) : w.cell? ⟨g, 0, none⟩ = some (.string s) ∧ w.cell? ⟨g, 1, none⟩ = some (.string t) := by
  unfold Sx at k
  refine ⟨?_, ?_⟩ <;> simp [World.cell?, k]

set_option maxHeartbeats 8000000 in
set_option maxRecDepth 100000 in
theorem metaTells_any (hfx : Fixes) (P G R L C : Int) (x y : ByteArray) (i : Int) (w : World) (hg : L7.Sizes w) (hx : x.size ≤ maxLen) (hy : y.size ≤ maxLen) (hi : (Lit.int .i64 i).wf = true) :
    Calls Tryd.prog 3 #[mv P G R L C, .agg #[.string x, .string y], .int .i64 i] w fun e w' => e = .returned (.bool true) ∧ Below w.heap.size w w' := by
  have hb0 := mbox_below 23 P G R L C w
  have hb1 := L5.below_alloc (mbox 23 P G R L C w) (.cells #[.string x, .string y] 24)
  have HB := Lib.hid (hb0.trans' hb1)
  have HC := Lib.hid ((mbox_new 23 P G R L C w).below hb1)
  have HS : Hid (Sx (w.heap.size + 1) x y ((mbox 23 P G R L C w).alloc (.cells #[.string x, .string y] 24))) := Lib.hid (by
    have h := heap_alloc_new (mbox 23 P G R L C w) (.cells #[.string x, .string y] 24)
    rw [mbox_size] at h
    exact h)
  have HG0 := Lib.hid hg
  have HG := Lib.hid (hg.below hg.lt HB.out)
  have HFX : Hid (L7.Tells 18 #[] (.bool true)) := Lib.hid hfx
  simp only [mbox] at HB HC HG HS
  clear hb0 hb1 hfx hg
  obtain ⟨m, hm1, hm2, hm3⟩ := cut_1100 x
  obtain ⟨S, hS⟩ : ∃ S, x.extract 0 m = S := ⟨_, rfl⟩
  have hS2 : S.size ≤ 1100 := by rw [← hS, ByteArray.size_extract]; omega
  obtain ⟨k, hk1, hk2, hk3⟩ := cut_1100 y
  obtain ⟨T, hT⟩ : ∃ T, y.extract 0 k = T := ⟨_, rfl⟩
  have hT2 : T.size ≤ 1100 := by rw [← hT, ByteArray.size_extract]; omega
  have q1 : (0 : Int) ≤ m := by omega
  have q2 : (m : Int) ≤ x.size := by omega
  have q3 : (0 : Int) ≤ k := by omega
  have q4 : (k : Int) ≤ y.size := by omega
  clear hm2 hm3 hk2 hk3 hx hy
  obtain ⟨U, c, he⟩ : ∃ U c, enc ⟨P, G, R, L, C⟩ = (U, c) := ⟨_, _, rfl⟩
  have HE := tEnc P G R L C he
  have HRE : Hid (L7.Tells 10 #[mv P G R L C] (.tuple #[.string U, .int .i64 c])) := Lib.hid fun W hW => by
    have h1 := renc_any P G R L C W hW
    rw [encV, he] at h1
    exact h1
  obtain ⟨b, hb⟩ : ∃ b, decide (May ⟨P, G, R, L, C⟩) = b := ⟨_, rfl⟩
  have HM := tMay P G R L C hb
  have HRM : Hid (L7.Tells 15 #[mv P G R L C] (.bool b)) := Lib.hid fun W hW => by
    have h1 := rmay_any P G R L C W
    rw [hb] at h1
    exact h1
  obtain ⟨P2, G2, R2, L2, C2, e2, hv⟩ := decV_form S
  have HD := tDec S hv (by unfold maxLen; omega)
  have HRD : Hid (L7.Tells 13 #[.string S] (.tuple #[mv P2 G2 R2 L2 C2, .int .i64 e2])) := Lib.hid fun W hW => by
    have h1 := rdec_any S W hW (by unfold maxLen; omega)
    rw [hv] at h1
    exact h1
  obtain ⟨A, hA⟩ : ∃ A, tear S T i = A := ⟨_, rfl⟩
  have HTE := tTear S T i hA (by omega) (by unfold maxLen; omega) hi
  have HRT : Hid (L7.Tells 17 #[.string S, .string T, .int .i64 i] (.string A)) := Lib.hid fun W hW => by
    have h1 := rtear_any S T i W (by omega) (by unfold maxLen; omega)
    rw [hA] at h1
    exact h1
  have HREF := Lib.hid (fun P G R L C => (show Hid (L7.Tells 11 #[mv P G R L C] (mv P G R L C)) from Lib.hid fun W _ => ref_any P G R L C W))
  have heq : ∀ W, (binOp .eql 29 (mv P2 G2 R2 L2 C2) (mv P2 G2 R2 L2 C2)).run Tryd.prog W = .ok (.bool true) W := fun W => by rw [eqD]; simp
  clear he hb hv hA hi hS2 hT2
  obtain ⟨c0, c1, c2, c3, c4⟩ := HC.out.cells
  obtain ⟨s0, s1⟩ := HS.out.cells
  generalize hw0 : (w.alloc (.cells #[.int .i64 P, .int .i64 G, .int .i64 R, .int .i64 L, .int .i64 C] 23)).alloc (.cells #[.string x, .string y] 24) = W0 at *
  go_enter Tryd.func3, Tryd.ntmps3
  go_wp2_with fail
  go_region
  have hbd : Below W0.heap.size W0 W0.drew := L5.below_drewN (Below.refl _ W0) 1
  replace HB := Lib.hid (HB.out.trans' hbd)
  replace HG := Lib.hid (HG0.out.below HG0.out.lt HB.out)
  replace HC := Lib.hid (HC.out.below hbd)
  clear hbd c0 c1 c2 c3 c4 s0 s1 hw0 HS
  generalize W0.drew = W1 at *
  obtain ⟨c0, c1, c2, c3, c4⟩ := HC.out.cells
  go_wp2_with fail
  refine (HE.out _ HG.out).mono ?_
  rintro e V ⟨rfl, hb⟩
  replace HB := Lib.hid (HB.out.trans' hb)
  replace HG := Lib.hid (HG0.out.below HG0.out.lt HB.out)
  replace HC := Lib.hid (HC.out.below hb)
  clear hb
  clear c0 c1 c2 c3 c4
  obtain ⟨c0, c1, c2, c3, c4⟩ := HC.out.cells
  go_wp2_with fail
  refine ((HREF.out P G R L C).out _ HG.out).mono ?_
  rintro e V ⟨rfl, hb⟩
  replace HB := Lib.hid (HB.out.trans' hb)
  replace HG := Lib.hid (HG0.out.below HG0.out.lt HB.out)
  replace HC := Lib.hid (HC.out.below hb)
  clear hb
  clear c0 c1 c2 c3 c4
  go_wp2_with fail
  refine (HRE.out _ HG.out).mono ?_
  rintro e V ⟨rfl, hb⟩
  replace HB := Lib.hid (HB.out.trans' hb)
  replace HG := Lib.hid (HG0.out.below HG0.out.lt HB.out)
  replace HC := Lib.hid (HC.out.below hb)
  clear hb
  go_wp2_with fail
  refine (HD.out _ HG.out).mono ?_
  rintro e V ⟨rfl, hb⟩
  have HY := Lib.hid (mbox_new 23 P2 G2 R2 L2 C2 V)
  have hb := hb.trans' (mbox_below 23 P2 G2 R2 L2 C2 V)
  replace HB := Lib.hid (HB.out.trans' hb)
  replace HG := Lib.hid (HG0.out.below HG0.out.lt HB.out)
  replace HC := Lib.hid (HC.out.below hb)
  simp only [mbox] at HB HG HY HC
  clear hb
  obtain ⟨x0, x1, x2, x3, x4⟩ := HY.out.cells
  go_wp2_with fail
  clear x0 x1 x2 x3 x4
  generalize V.alloc (.cells #[.int .i64 P2, .int .i64 G2, .int .i64 R2, .int .i64 L2, .int .i64 C2] 23) = V' at *
  generalize V.heap.size = gy at *
  refine (HRD.out _ HG.out).mono ?_
  rintro e V ⟨rfl, hb⟩
  have HZ := Lib.hid (mbox_new 29 P2 G2 R2 L2 C2 V)
  have hb := hb.trans' (mbox_below 29 P2 G2 R2 L2 C2 V)
  replace HB := Lib.hid (HB.out.trans' hb)
  replace HG := Lib.hid (HG0.out.below HG0.out.lt HB.out)
  replace HC := Lib.hid (HC.out.below hb)
  replace HY := Lib.hid (HY.out.below hb)
  simp only [mbox] at HB HG HZ HC HY
  clear hb
  obtain ⟨x0, x1, x2, x3, x4⟩ := HZ.out.cells
  go_wp2_with fail
  clear x0 x1 x2 x3 x4
  generalize V.alloc (.cells #[.int .i64 P2, .int .i64 G2, .int .i64 R2, .int .i64 L2, .int .i64 C2] 29) = W4 at *
  generalize V.heap.size = gz at *
  have HSA : Hid (∀ V, Below W4.heap.size W4 V → (fun V => Hid (Below W4.heap.size W4 V) ∧ (V.cell? ⟨w.heap.size, 0, none⟩ = some (.int .i64 P) ∧ V.cell? ⟨w.heap.size, 1, none⟩ = some (.int .i64 G) ∧ V.cell? ⟨w.heap.size, 2, none⟩ = some (.int .i64 R) ∧ V.cell? ⟨w.heap.size, 3, none⟩ = some (.int .i64 L) ∧ V.cell? ⟨w.heap.size, 4, none⟩ = some (.int .i64 C)) ∧ (V.cell? ⟨gy, 0, none⟩ = some (.int .i64 P2) ∧ V.cell? ⟨gy, 1, none⟩ = some (.int .i64 G2) ∧ V.cell? ⟨gy, 2, none⟩ = some (.int .i64 R2) ∧ V.cell? ⟨gy, 3, none⟩ = some (.int .i64 L2) ∧ V.cell? ⟨gy, 4, none⟩ = some (.int .i64 C2)) ∧ (V.cell? ⟨gz, 0, none⟩ = some (.int .i64 P2) ∧ V.cell? ⟨gz, 1, none⟩ = some (.int .i64 G2) ∧ V.cell? ⟨gz, 2, none⟩ = some (.int .i64 R2) ∧ V.cell? ⟨gz, 3, none⟩ = some (.int .i64 L2) ∧ V.cell? ⟨gz, 4, none⟩ = some (.int .i64 C2))) V) := Lib.hid (fun V hb => ⟨Lib.hid hb, (HC.out.below hb).cells, (HY.out.below hb).cells, (HZ.out.below hb).cells⟩)
  have hSA := HSA.out _ (Below.refl _ _)
  have hSd := HSA.out _ (L5.below_drewN (Below.refl _ W4) 1)
  go_wp2_with fail
  go_region_held3 (fun V => Hid (Below W4.heap.size W4 V) ∧ (V.cell? ⟨w.heap.size, 0, none⟩ = some (.int .i64 P) ∧ V.cell? ⟨w.heap.size, 1, none⟩ = some (.int .i64 G) ∧ V.cell? ⟨w.heap.size, 2, none⟩ = some (.int .i64 R) ∧ V.cell? ⟨w.heap.size, 3, none⟩ = some (.int .i64 L) ∧ V.cell? ⟨w.heap.size, 4, none⟩ = some (.int .i64 C)) ∧ (V.cell? ⟨gy, 0, none⟩ = some (.int .i64 P2) ∧ V.cell? ⟨gy, 1, none⟩ = some (.int .i64 G2) ∧ V.cell? ⟨gy, 2, none⟩ = some (.int .i64 R2) ∧ V.cell? ⟨gy, 3, none⟩ = some (.int .i64 L2) ∧ V.cell? ⟨gy, 4, none⟩ = some (.int .i64 C2)) ∧ (V.cell? ⟨gz, 0, none⟩ = some (.int .i64 P2) ∧ V.cell? ⟨gz, 1, none⟩ = some (.int .i64 G2) ∧ V.cell? ⟨gz, 2, none⟩ = some (.int .i64 R2) ∧ V.cell? ⟨gz, 3, none⟩ = some (.int .i64 L2) ∧ V.cell? ⟨gz, 4, none⟩ = some (.int .i64 C2))) (first | assumption | exact hSd)
    (first
      | (go_at_call 14; refine (L7.Tells.held HM HG (by assumption)).mono ?_; rintro e V5 ⟨rfl, hb⟩; have hSn := HSA.out _ hb)
      | (go_at_call 11; refine (L7.Tells.held (HREF.out _ _ _ _ _) HG (by assumption)).mono ?_; rintro e V5 ⟨rfl, hb⟩; have hSn := HSA.out _ hb)
      | (go_at_call 15; refine (L7.Tells.held HRM HG (by assumption)).mono ?_; rintro e V5 ⟨rfl, hb⟩; have hSn := HSA.out _ hb)
      | (go_at_call 16; refine (L7.Tells.held HTE HG (by assumption)).mono ?_; rintro e V5 ⟨rfl, hb⟩; have hSn := HSA.out _ hb)
      | (go_at_call 17; refine (L7.Tells.held HRT HG (by assumption)).mono ?_; rintro e V5 ⟨rfl, hb⟩; have hSn := HSA.out _ hb)
      | (go_at_call 18; refine (L7.Tells.held HFX HG (by assumption)).mono ?_; rintro e V5 ⟨rfl, hb⟩; have hSn := HSA.out _ hb)
      | fail "no arm")
  all_goals (go_wp2_with fail)
  all_goals (go_ret; exact ⟨rfl, HB.out.trans' hb⟩)
theorem metaTells_walk (P G R L C : Int) (x y : ByteArray) (i : Int) (w : World) (hg : L7.Sizes w) (h0 : (Lit.int .i64 P).wf = true) (h1 : (Lit.int .i64 G).wf = true) (h2 : (Lit.int .i64 R).wf = true) (h3 : (Lit.int .i64 L).wf = true) (h4 : (Lit.int .i64 C).wf = true) (hx : x.size ≤ maxLen) (hy : y.size ≤ maxLen) (hi : (Lit.int .i64 i).wf = true) :
    Calls Tryd.prog 3 #[mv P G R L C, .agg #[.string x, .string y], .int .i64 i] w fun e w' => e = .returned (.bool true) ∧ Below w.heap.size w w' := metaTells_any fixed_any P G R L C x y i w hg hx hy hi
end Go.Proofs.YtnjmkljnjngpkaaDoor
