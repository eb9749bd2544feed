/-
  The walk of the laws' own fixed.
-/
import Derived.Test.YtahkigabapdleaaDoorCFixM
import Derived.Deep.RegionHeld3
namespace Go.Proofs.YtahkigabapdleaaDoor
open Go.RowKit CP
set_option linter.unusedVariables false
set_option linter.unusedSimpArgs false

theorem getE_of {s : ByteArray} {i : Nat} {c : UInt8} (h : s.data[i]? = some c) (hi : i < s.size) : s[i] = c := by
  have h2 := Array.getElem?_eq_some_iff.1 h
  obtain ⟨h3, h4⟩ := h2
  rw [← h4]
  rfl
/-- Two parts of a value of 113 bytes. -/
theorem two_parts : ∃ pa pb : ByteArray, cuts (rep 1 113) 112 = [pa, pb] ∧ pa.size = 112 ∧ pb.size = 1 := by
  have h : pages (rep 1 113).size 112 = 2 := by rw [rep_size]; decide
  refine ⟨CP.part (rep 1 113) 112 0, CP.part (rep 1 113) 112 1, ?_, ?_, ?_⟩
  · unfold cuts
    rw [h]
    rfl
  · rw [part_size, rep_size] <;> rfl
  · rw [part_size, rep_size] <;> rfl
theorem parts_two {pa pb : ByteArray} (h : cuts (rep 1 113) 112 = [pa, pb]) (W : World) (hs : L7.Sizes W) : Calls Tryd.prog 20 #[.string (rep 1 113), .int .i64 128] W fun e w' => ∃ G cap, e = .returned (.slice G 2 cap) ∧ L5.Lies w' w'.heap.size G [pa, pb] ∧ Below W.heap.size W w' := by
  have h1 := parts_any (rep 1 113) 128 112 W (by decide) rfl (by rw [rep_size]; decide) hs
  rw [h, rep_size, pages_113] at h1
  exact h1
theorem parts_none (W : World) (hs : L7.Sizes W) : Calls Tryd.prog 20 #[.string ⟨#[]⟩, .int .i64 128] W fun e w' => ∃ G cap, e = .returned (.slice G 0 cap) ∧ Below W.heap.size W w' := by
  refine (parts_any ⟨#[]⟩ 128 112 W (by decide) rfl (by decide) hs).mono fun e w' ⟨G, cap, h1, _, h2⟩ => ⟨G, cap, ?_, h2⟩
  rw [h1]
  rfl

set_option maxHeartbeats 4000000 in
set_option maxRecDepth 100000 in
theorem fixed_any : Fixes := fun w hw => by
  obtain ⟨S, hS1, hS2, hS3, hS4, hS5, hS6⟩ := abc_enc
  obtain ⟨T, hT1, hT2, hT3⟩ := full_enc
  obtain ⟨pa, pb, hp1, hp2, hp3⟩ := two_parts
  have s0 : S[0]'(by omega) = 4 := getE_of hS5 (by omega)
  have s2 : S[2]'(by omega) = 3 := getE_of hS6 (by omega)
  have A1 : Hid (L7.Tells 10 #[cv 5 0 ⟨#[97, 98, 99]⟩, .int .i64 128] (.tuple #[.string S, .int .i64 0])) := tEnc 5 0 abc 128 hS1
  have A2 : Hid (L7.Tells 10 #[cv 5 0 ⟨#[97, 98, 99]⟩, .int .i64 64] (.tuple #[.string ⟨#[]⟩, .int .i64 4])) := tEnc 5 0 abc 64 abc_arg
  have A3 : Hid (L7.Tells 10 #[cv 5 0 ⟨#[]⟩, .int .i64 128] (.tuple #[.string ⟨#[]⟩, .int .i64 3])) := tEnc 5 0 ⟨#[]⟩ 128 none_form
  have A4 : Hid (L7.Tells 10 #[cv 5 6 ⟨#[97, 98, 99]⟩, .int .i64 128] (.tuple #[.string ⟨#[]⟩, .int .i64 3])) := tEnc 5 6 abc 128 less_form
  have A5 := tEnc 5 6 (rep 7 112) 128 hT1
  have D1 : Hid (L7.Tells 13 #[.string S] (.tuple #[cv 5 0 ⟨#[97, 98, 99]⟩, .int .i64 0])) := tDec S (decV_some hS4) (by rw [hS2]; decide)
  have D2 := tDec T (decV_some hT3) (by rw [hT2]; decide)
  have D3 := tDec (rep 0 128) (decV_none zeros_dec) (by rw [rep_size]; decide)
  have R1 : Hid (L7.Tells 24 #[.int .u8 7, .int .i64 112] (.string (rep 7 112))) := tRep 7 112 (by omega)
  have R2 : Hid (L7.Tells 24 #[.int .u8 0, .int .i64 128] (.string (rep 0 128))) := tRep 0 128 (by omega)
  have R3 : Hid (L7.Tells 24 #[.int .u8 1, .int .i64 113] (.string (rep 1 113))) := tRep 1 113 (by omega)
  have M1 : Hid (L7.Tells 15 #[cv 5 0 ⟨#[97, 98, 99]⟩, .int .i64 128] (.bool true)) := tMay 5 0 abc 128 (decide_eq_true abc_may)
  have M2 : Hid (L7.Tells 15 #[cv 0 0 ⟨#[]⟩, .int .i64 128] (.bool false)) := tMay 0 0 ⟨#[]⟩ 128 (by kernel_rfl)
  have G1 : Hid (L7.Tells 22 #[.int .i64 113, .int .i64 128] (.int .i64 2)) := tPages 113 128 112 (by decide) rfl (by decide) (by decide)
  have G2 : Hid (L7.Tells 22 #[.int .i64 112, .int .i64 128] (.int .i64 1)) := tPages 112 128 112 (by decide) rfl (by decide) (by decide)
  have G3 : Hid (L7.Tells 22 #[.int .i64 0, .int .i64 128] (.int .i64 0)) := tPages 0 128 112 (by decide) rfl (by decide) (by decide)
  have P1 := Lib.hid (fun W (h : L7.Sizes W) => parts_two hp1 W h)
  have P2 := Lib.hid (fun W (h : L7.Sizes W) => parts_none W h)
  have k7 := rep_size 7 112
  generalize rep 7 112 = K7 at *
  generalize rep 0 128 = Z0 at *
  generalize rep 1 113 = O1 at *
  have HB0 := Lib.hid (cbox_below 23 5 0 ⟨#[97, 98, 99]⟩ w)
  have HC0 := Lib.hid (cbox_new 23 5 0 ⟨#[97, 98, 99]⟩ w)
  have HG0 := Lib.hid (hw.below hw.lt HB0.out)
  clear hw hS1 hS4 hS5 hS6 hT1 hT3 hT2 hp1
  go_enter Tryd.func18, Tryd.ntmps18
  obtain ⟨c0, c1, c2⟩ := HC0.out.cells
  go_wp2_with fail
  refine (A1.out _ HG0.out).mono ?_
  rintro e W1 ⟨rfl, hb1⟩
  have HB1 := Lib.hid (HB0.out.trans' hb1)
  have HC1 := Lib.hid (HC0.out.below hb1)
  have HG1 := Lib.hid (HG0.out.below HG0.out.lt hb1)
  clear hb1 c0 c1 c2 HB0 HC0 HG0
  obtain ⟨c0, c1, c2⟩ := HC1.out.cells
  go_wp2_with fail
  refine (A2.out _ HG1.out).mono ?_
  rintro e W2 ⟨rfl, hb⟩
  have HB2 := Lib.hid (HB1.out.trans' hb)
  have HC2 := Lib.hid (HC1.out.below hb)
  have HG2 := Lib.hid (HG1.out.below HG1.out.lt hb)
  clear hb c0 c1 c2 HB1 HC1 HG1
  go_wp2_with fail
  refine (A3.out _ HG2.out).mono ?_
  rintro e W3 ⟨rfl, hb⟩
  have HB3 := Lib.hid (HB2.out.trans' hb)
  have HC3 := Lib.hid (HC2.out.below hb)
  have HG3 := Lib.hid (HG2.out.below HG2.out.lt hb)
  clear hb HB2 HC2 HG2
  go_wp2_with fail
  refine (A4.out _ HG3.out).mono ?_
  rintro e W4 ⟨rfl, hb⟩
  have HB4 := Lib.hid (HB3.out.trans' hb)
  have HC4 := Lib.hid (HC3.out.below hb)
  have HG4 := Lib.hid (HG3.out.below HG3.out.lt hb)
  clear hb HB3 HC3 HG3
  go_wp2_with fail
  refine (R1.out _ HG4.out).mono ?_
  rintro e W5 ⟨rfl, hb⟩
  have HB5 := Lib.hid (HB4.out.trans' hb)
  have HC5 := Lib.hid (HC4.out.below hb)
  have HG5 := Lib.hid (HG4.out.below HG4.out.lt hb)
  clear hb HB4 HC4 HG4
  go_wp2_with fail
  refine (A5.out _ HG5.out).mono ?_
  rintro e W6 ⟨rfl, hb⟩
  have HB6 := Lib.hid (HB5.out.trans' hb)
  have HC6 := Lib.hid (HC5.out.below hb)
  have HG6 := Lib.hid (HG5.out.below HG5.out.lt hb)
  clear hb HB5 HC5 HG5
  go_wp2_with fail
  refine (D1.out _ HG6.out).mono ?_
  rintro e V7 ⟨rfl, hb⟩
  have hb := hb.trans' (cbox_below 23 5 0 ⟨#[97, 98, 99]⟩ V7)
  have HX7 := Lib.hid (cbox_new 23 5 0 ⟨#[97, 98, 99]⟩ V7)
  have HB7 := Lib.hid (HB6.out.trans' hb)
  have HC7 := Lib.hid (HC6.out.below hb)
  have HG7 := Lib.hid (HG6.out.below HG6.out.lt hb)
  clear hb HB6 HC6 HG6
  go_wp2_with fail
  refine (D2.out _ HG7.out).mono ?_
  rintro e V8 ⟨rfl, hb⟩
  have hb := hb.trans' (cbox_below 23 5 6 K7 V8)
  have HX8 := Lib.hid (HX7.out.below hb)
  have HY8 := Lib.hid (cbox_new 23 5 6 K7 V8)
  have HB8 := Lib.hid (HB7.out.trans' hb)
  have HC8 := Lib.hid (HC7.out.below hb)
  have HG8 := Lib.hid (HG7.out.below HG7.out.lt hb)
  clear hb HB7 HC7 HG7 HX7
  go_wp2_with fail
  refine (R2.out _ HG8.out).mono ?_
  rintro e W9 ⟨rfl, hb⟩
  have HX9 := Lib.hid (HX8.out.below hb)
  have HY9 := Lib.hid (HY8.out.below hb)
  have HB9 := Lib.hid (HB8.out.trans' hb)
  have HC9 := Lib.hid (HC8.out.below hb)
  have HG9 := Lib.hid (HG8.out.below HG8.out.lt hb)
  clear hb HB8 HC8 HG8 HX8 HY8
  go_wp2_with fail
  refine (D3.out _ HG9.out).mono ?_
  rintro e V10 ⟨rfl, hb⟩
  have hb := hb.trans' (cbox_below 23 0 0 ⟨#[]⟩ V10)
  have HX10 := Lib.hid (HX9.out.below hb)
  have HY10 := Lib.hid (HY9.out.below hb)
  have HB10 := Lib.hid (HB9.out.trans' hb)
  have HC10 := Lib.hid (HC9.out.below hb)
  have HG10 := Lib.hid (HG9.out.below HG9.out.lt hb)
  clear hb HB9 HC9 HG9 HX9 HY9
  go_wp2_with fail
  refine (R3.out _ HG10.out).mono ?_
  rintro e W11 ⟨rfl, hb⟩
  have HX11 := Lib.hid (HX10.out.below hb)
  have HY11 := Lib.hid (HY10.out.below hb)
  have HB11 := Lib.hid (HB10.out.trans' hb)
  have HC11 := Lib.hid (HC10.out.below hb)
  have HG11 := Lib.hid (HG10.out.below HG10.out.lt hb)
  clear hb HB10 HC10 HG10 HX10 HY10
  go_wp2_with fail
  refine (P1.out _ HG11.out).mono ?_
  rintro e W12 ⟨G, gc, rfl, hL, hb⟩
  have HX := Lib.hid (HX11.out.below hb)
  have HY := Lib.hid (HY11.out.below hb)
  have HB := Lib.hid (HB11.out.trans' hb)
  have HC := Lib.hid (HC11.out.below hb)
  have HG := Lib.hid (HG11.out.below HG11.out.lt hb)
  have HL := Lib.hid hL
  clear hb hL HB11 HC11 HG11 HX11 HY11
  generalize V7.heap.size = bx at *
  generalize V8.heap.size = by' at *
  obtain ⟨a, rfl, hab, hl0⟩ := HL.out 0 pa rfl
  obtain ⟨a', ha', _, hl1⟩ := HL.out 1 pb rfl
  obtain rfl := Option.some.inj ha'
  obtain ⟨c0, c1, c2⟩ := HC.out.cells
  obtain ⟨x0, x1, x2⟩ := HX.out.cells
  obtain ⟨y0, y1, y2⟩ := HY.out.cells
  have hl2 : W12.cell? a = some (.string pa) := by
    have h4 : a.add 0 = a := by cases a; simp [Addr.add]
    rw [h4] at hl0
    exact hl0
  have hl3 : W12.cell? ⟨a.block, a.off + 1, none⟩ = some (.string pb) := by
    have h4 : a.add 1 = ⟨a.block, a.off + 1, none⟩ := by cases a; simp [Addr.add]
    rw [h4] at hl1
    exact hl1
  clear ha' HX HY HL
  go_wp2_with fail
  refine (G1.out _ HG.out).mono ?_
  rintro e W13 ⟨rfl, hb⟩
  have HB13 := Lib.hid (HB.out.trans' hb)
  have HG13 := Lib.hid (HG.out.below HG.out.lt hb)
  have HC13 := Lib.hid (HC.out.below hb)
  clear hb HB HG HC
  clear c0 c1 c2 x0 x1 x2 y0 y1 y2 hl0 hl1 hl2 hl3
  go_wp2_with fail
  refine (G2.out _ HG13.out).mono ?_
  rintro e W14 ⟨rfl, hb⟩
  have HB14 := Lib.hid (HB13.out.trans' hb)
  have HG14 := Lib.hid (HG13.out.below HG13.out.lt hb)
  have HC14 := Lib.hid (HC13.out.below hb)
  clear hb HB13 HG13 HC13
  go_wp2_with fail
  refine (G3.out _ HG14.out).mono ?_
  rintro e W15 ⟨rfl, hb⟩
  have HB15 := Lib.hid (HB14.out.trans' hb)
  have HG15 := Lib.hid (HG14.out.below HG14.out.lt hb)
  have HC15 := Lib.hid (HC14.out.below hb)
  clear hb HB14 HG14 HC14
  go_wp2_with fail
  refine (P2.out _ HG15.out).mono ?_
  rintro e W16 ⟨G', gc', rfl, hb⟩
  have HB16 := Lib.hid (HB15.out.trans' hb)
  have HG16 := Lib.hid (HG15.out.below HG15.out.lt hb)
  have HC16 := Lib.hid (HC15.out.below hb)
  clear hb HB15 HG15 HC15
  obtain ⟨c0, c1, c2⟩ := HC16.out.cells
  go_wp2_with fail
  refine (M1.out _ HG16.out).mono ?_
  rintro e W17 ⟨rfl, hb⟩
  have HB17 := Lib.hid (HB16.out.trans' hb)
  have HG17 := Lib.hid (HG16.out.below HG16.out.lt hb)
  have HC17 := Lib.hid (HC16.out.below hb)
  clear hb HB16 HG16 HC16
  go_wp2_with fail
  refine (M2.out _ HG17.out).mono ?_
  rintro e W18 ⟨rfl, hb⟩
  have HB18 := Lib.hid (HB17.out.trans' hb)
  have HG18 := Lib.hid (HG17.out.below HG17.out.lt hb)
  have HC18 := Lib.hid (HC17.out.below hb)
  clear hb HB17 HG17 HC17
  go_wp2_with fail
  go_ret
  exact ⟨rfl, HB18.out⟩
end Go.Proofs.YtahkigabapdleaaDoor
