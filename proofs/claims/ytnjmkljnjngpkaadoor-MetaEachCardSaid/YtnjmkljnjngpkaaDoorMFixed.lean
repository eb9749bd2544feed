/-
  The walk of the laws' own fixed. Written by wip/gen_mfixed.py.
-/
import Derived.Test.YtnjmkljnjngpkaaDoorMFixM
import Derived.Deep.RegionHeld3
namespace Go.Proofs.YtnjmkljnjngpkaaDoor
open Go.RowKit MP
set_option linter.unusedVariables false
set_option linter.unusedSimpArgs false

set_option maxHeartbeats 4000000 in
set_option maxRecDepth 100000 in
theorem fixed_any : Fixes := fun w hw => by
  obtain ⟨S, hS1, hS2, hS3, hS4, hS5, hS6, hS7⟩ := m0_enc
  have s0 : S[0]'(by omega) = 1 := getE_of hS5 (by omega)
  have s4 : S[4]'(by omega) = 1 := getE_of hS6 (by omega)
  have s127 : S[127]'(by omega) = 87 := getE_of hS7 (by omega)
  have hzs : (rep 0 128).size = S.size := by rw [rep_size, hS2]
  have ht1 := torn_none (i := 127) hS1 hzs (rep_last 0 128 (by omega)) (by decide) (by omega)
  have ht2 : tear S (rep 0 128) 128 = S := tear_all hzs.symm (by rw [rep_size]; omega)
  have hts : (tear S (rep 0 128) 127).size = 128 := by rw [tear_size hzs.symm, rep_size]
  have A1 : Hid (L7.Tells 9 #[mv 128 2 1 0 0] (.tuple #[.string S, .int .i64 0])) := tEnc 128 2 1 0 0 hS1
  have A2 : Hid (L7.Tells 9 #[mv 128 2 2 0 0] (.tuple #[.string ⟨#[]⟩, .int .i64 3])) := tEnc 128 2 2 0 0 m1_form
  have A3 : Hid (L7.Tells 9 #[mv 0 0 0 0 0] (.tuple #[.string ⟨#[]⟩, .int .i64 3])) := tEnc 0 0 0 0 0 z_form
  have D1 : Hid (L7.Tells 12 #[.string S] (.tuple #[mv 128 2 1 0 0, .int .i64 0])) := tDec S (decV_some hS4) (by rw [hS2]; decide)
  have D2 := tDec (rep 0 128) (decV_none (zeros_none 128)) (by rw [rep_size]; decide)
  have D3 := tDec _ (decV_none ht1) (by rw [hts]; decide)
  have R1 : Hid (L7.Tells 19 #[.int .u8 0, .int .i64 128] (.string (rep 0 128))) := tRep 0 128 (by omega)
  have T1 := tTear S (rep 0 128) 127 rfl (by omega) (by rw [rep_size]; decide) (by decide)
  have T2 := tTear S (rep 0 128) 128 ht2 (by omega) (by rw [rep_size]; decide) (by decide)
  have T3 : Hid (L7.Tells 16 #[.string ⟨#[97, 98, 99]⟩, .string ⟨#[120, 121, 122]⟩, .int .i64 1] (.string ⟨#[97, 121, 122]⟩)) := tTear _ _ 1 (by kernel_rfl) (by decide) (by decide) (by decide)
  have T4 : Hid (L7.Tells 16 #[.string ⟨#[97, 98, 99]⟩, .string ⟨#[120, 121, 122]⟩, .int .i64 (-1)] (.string ⟨#[120, 121, 122]⟩)) := tTear _ _ (-1) (by kernel_rfl) (by decide) (by decide) (by decide)
  have T5 : Hid (L7.Tells 16 #[.string ⟨#[97, 98, 99]⟩, .string ⟨#[120, 121, 122]⟩, .int .i64 9] (.string ⟨#[97, 98, 99]⟩)) := tTear _ _ 9 (by kernel_rfl) (by decide) (by decide) (by decide)
  have T6 : Hid (L7.Tells 16 #[.string ⟨#[97]⟩, .string ⟨#[]⟩, .int .i64 1] (.string ⟨#[]⟩)) := tTear _ _ 1 (by kernel_rfl) (by decide) (by decide) (by decide)
  have M1 : Hid (L7.Tells 14 #[mv 128 2 1 0 0] (.bool true)) := tMay 128 2 1 0 0 (decide_eq_true m0_may)
  have M2 : Hid (L7.Tells 14 #[mv 100 2 1 0 0] (.bool false)) := tMay 100 2 1 0 0 (by kernel_rfl)
  generalize tear S (rep 0 128) 127 = TT at *
  generalize rep 0 128 = Z0 at *
  have hb0 := mbox_below 23 128 2 1 0 0 w
  have HB := Lib.hid hb0
  have HC := Lib.hid (mbox_new 23 128 2 1 0 0 w)
  have HG0 := Lib.hid hw
  have HG := Lib.hid (hw.below hw.lt hb0)
  clear hw hS1 hS4 hS5 hS6 hS7 hb0 hzs ht1 ht2 hts
  go_enter Tryd.func18, Tryd.ntmps18
  obtain ⟨c0, c1, c2, c3, c4⟩ := HC.out.cells
  simp only [mbox] at HB HG HC c0 c1 c2 c3 c4
  go_wp2_with fail
  refine (A1.out _ HG.out).mono ?_
  rintro e V ⟨rfl, hb⟩
  replace HB := Lib.hid (HB.out.trans' hb)
  replace HG := Lib.hid (HG0.out.below HG0.out.lt HB.out)
  replace HC := Lib.hid (HC.out.below hb)
  clear hb
  clear c0 c1 c2 c3 c4
  go_wp2_with fail
  refine (A2.out _ HG.out).mono ?_
  rintro e V ⟨rfl, hb⟩
  replace HB := Lib.hid (HB.out.trans' hb)
  replace HG := Lib.hid (HG0.out.below HG0.out.lt HB.out)
  replace HC := Lib.hid (HC.out.below hb)
  clear hb
  go_wp2_with fail
  refine (A3.out _ HG.out).mono ?_
  rintro e V ⟨rfl, hb⟩
  replace HB := Lib.hid (HB.out.trans' hb)
  replace HG := Lib.hid (HG0.out.below HG0.out.lt HB.out)
  replace HC := Lib.hid (HC.out.below hb)
  clear hb
  go_wp2_with fail
  refine (D1.out _ HG.out).mono ?_
  rintro e V ⟨rfl, hb⟩
  have HX := Lib.hid (mbox_new 23 128 2 1 0 0 V)
  have hb := hb.trans' (mbox_below 23 128 2 1 0 0 V)
  replace HB := Lib.hid (HB.out.trans' hb)
  replace HG := Lib.hid (HG0.out.below HG0.out.lt HB.out)
  replace HC := Lib.hid (HC.out.below hb)
  clear hb
  obtain ⟨x0, x1, x2, x3, x4⟩ := HX.out.cells
  simp only [mbox] at HB HG HC HX x0 x1 x2 x3 x4
  go_wp2_with fail
  clear x0 x1 x2 x3 x4
  generalize V.alloc (.cells #[.int .i64 128, .int .i64 2, .int .i64 1, .int .i64 0, .int .i64 0] 23) = V' at *
  generalize V.heap.size = gx at *
  refine (R1.out _ HG.out).mono ?_
  rintro e V ⟨rfl, hb⟩
  replace HB := Lib.hid (HB.out.trans' hb)
  replace HG := Lib.hid (HG0.out.below HG0.out.lt HB.out)
  replace HC := Lib.hid (HC.out.below hb)
  replace HX := Lib.hid (HX.out.below hb)
  clear hb
  go_wp2_with fail
  refine (D2.out _ HG.out).mono ?_
  rintro e V ⟨rfl, hb⟩
  have HY := Lib.hid (mbox_new 23 0 0 0 0 0 V)
  have hb := hb.trans' (mbox_below 23 0 0 0 0 0 V)
  replace HB := Lib.hid (HB.out.trans' hb)
  replace HG := Lib.hid (HG0.out.below HG0.out.lt HB.out)
  replace HC := Lib.hid (HC.out.below hb)
  replace HX := Lib.hid (HX.out.below hb)
  clear hb
  obtain ⟨y0, y1, y2, y3, y4⟩ := HY.out.cells
  simp only [mbox] at HB HG HC HX y0 y1 y2 y3 y4
  go_wp2_with fail
  clear y0 y1 y2 y3 y4
  clear HY
  generalize V.alloc (.cells #[.int .i64 0, .int .i64 0, .int .i64 0, .int .i64 0, .int .i64 0] 23) = V' at *
  refine (R1.out _ HG.out).mono ?_
  rintro e V ⟨rfl, hb⟩
  replace HB := Lib.hid (HB.out.trans' hb)
  replace HG := Lib.hid (HG0.out.below HG0.out.lt HB.out)
  replace HC := Lib.hid (HC.out.below hb)
  replace HX := Lib.hid (HX.out.below hb)
  clear hb
  go_wp2_with fail
  refine (T1.out _ HG.out).mono ?_
  rintro e V ⟨rfl, hb⟩
  replace HB := Lib.hid (HB.out.trans' hb)
  replace HG := Lib.hid (HG0.out.below HG0.out.lt HB.out)
  replace HC := Lib.hid (HC.out.below hb)
  replace HX := Lib.hid (HX.out.below hb)
  clear hb
  go_wp2_with fail
  refine (D3.out _ HG.out).mono ?_
  rintro e V ⟨rfl, hb⟩
  have HY := Lib.hid (mbox_new 23 0 0 0 0 0 V)
  have hb := hb.trans' (mbox_below 23 0 0 0 0 0 V)
  replace HB := Lib.hid (HB.out.trans' hb)
  replace HG := Lib.hid (HG0.out.below HG0.out.lt HB.out)
  replace HC := Lib.hid (HC.out.below hb)
  replace HX := Lib.hid (HX.out.below hb)
  clear hb
  obtain ⟨y0, y1, y2, y3, y4⟩ := HY.out.cells
  simp only [mbox] at HB HG HC HX y0 y1 y2 y3 y4
  go_wp2_with fail
  clear y0 y1 y2 y3 y4
  clear HY
  generalize V.alloc (.cells #[.int .i64 0, .int .i64 0, .int .i64 0, .int .i64 0, .int .i64 0] 23) = V' at *
  refine (R1.out _ HG.out).mono ?_
  rintro e V ⟨rfl, hb⟩
  replace HB := Lib.hid (HB.out.trans' hb)
  replace HG := Lib.hid (HG0.out.below HG0.out.lt HB.out)
  replace HC := Lib.hid (HC.out.below hb)
  replace HX := Lib.hid (HX.out.below hb)
  clear hb
  go_wp2_with fail
  refine (T2.out _ HG.out).mono ?_
  rintro e V ⟨rfl, hb⟩
  replace HB := Lib.hid (HB.out.trans' hb)
  replace HG := Lib.hid (HG0.out.below HG0.out.lt HB.out)
  replace HC := Lib.hid (HC.out.below hb)
  replace HX := Lib.hid (HX.out.below hb)
  clear hb
  go_wp2_with fail
  refine (D1.out _ HG.out).mono ?_
  rintro e V ⟨rfl, hb⟩
  have HY := Lib.hid (mbox_new 23 128 2 1 0 0 V)
  have hb := hb.trans' (mbox_below 23 128 2 1 0 0 V)
  replace HB := Lib.hid (HB.out.trans' hb)
  replace HG := Lib.hid (HG0.out.below HG0.out.lt HB.out)
  replace HC := Lib.hid (HC.out.below hb)
  replace HX := Lib.hid (HX.out.below hb)
  clear hb
  obtain ⟨c0, c1, c2, c3, c4⟩ := HC.out.cells
  obtain ⟨x0, x1, x2, x3, x4⟩ := HX.out.cells
  obtain ⟨y0, y1, y2, y3, y4⟩ := HY.out.cells
  simp only [mbox] at HB HG HC HX c0 c1 c2 c3 c4 x0 x1 x2 x3 x4 y0 y1 y2 y3 y4
  go_wp2_with fail
  refine (T3.out _ HG.out).mono ?_
  rintro e V ⟨rfl, hb⟩
  replace HB := Lib.hid (HB.out.trans' hb)
  replace HG := Lib.hid (HG0.out.below HG0.out.lt HB.out)
  replace HC := Lib.hid (HC.out.below hb)
  clear hb
  clear c0 c1 c2 c3 c4 x0 x1 x2 x3 x4 y0 y1 y2 y3 y4
  clear HX HY
  go_wp2_with fail
  refine (T4.out _ HG.out).mono ?_
  rintro e V ⟨rfl, hb⟩
  replace HB := Lib.hid (HB.out.trans' hb)
  replace HG := Lib.hid (HG0.out.below HG0.out.lt HB.out)
  replace HC := Lib.hid (HC.out.below hb)
  clear hb
  go_wp2_with fail
  refine (T5.out _ HG.out).mono ?_
  rintro e V ⟨rfl, hb⟩
  replace HB := Lib.hid (HB.out.trans' hb)
  replace HG := Lib.hid (HG0.out.below HG0.out.lt HB.out)
  replace HC := Lib.hid (HC.out.below hb)
  clear hb
  go_wp2_with fail
  refine (T6.out _ HG.out).mono ?_
  rintro e V ⟨rfl, hb⟩
  replace HB := Lib.hid (HB.out.trans' hb)
  replace HG := Lib.hid (HG0.out.below HG0.out.lt HB.out)
  replace HC := Lib.hid (HC.out.below hb)
  clear hb
  obtain ⟨c0, c1, c2, c3, c4⟩ := HC.out.cells
  go_wp2_with fail
  refine (M1.out _ HG.out).mono ?_
  rintro e V ⟨rfl, hb⟩
  replace HB := Lib.hid (HB.out.trans' hb)
  replace HG := Lib.hid (HG0.out.below HG0.out.lt HB.out)
  clear hb
  clear c0 c1 c2 c3 c4
  go_wp2_with fail
  refine (M2.out _ HG.out).mono ?_
  rintro e V ⟨rfl, hb⟩
  replace HB := Lib.hid (HB.out.trans' hb)
  replace HG := Lib.hid (HG0.out.below HG0.out.lt HB.out)
  clear hb
  go_wp2_with fail
  go_ret
  exact ⟨rfl, HB.out⟩
end Go.Proofs.YtnjmkljnjngpkaaDoor
