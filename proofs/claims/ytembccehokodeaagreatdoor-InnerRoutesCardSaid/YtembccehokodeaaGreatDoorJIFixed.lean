/-
  The walk of the laws' own fixed. Written by wip/gen_ifixed2.py.
-/
import Derived.Test.YtembccehokodeaaGreatDoorJIFixF
namespace Go.Proofs.YtembccehokodeaaGreatDoor
open Go.RowKit IP
set_option linter.unusedVariables false
set_option linter.unusedSimpArgs false

theorem ends_1 : endsV ⟨#[99]⟩ ms ⟨#[]⟩ 2 1 0 0 = .tuple #[.string ⟨#[99]⟩, .string ⟨#[109]⟩, .bool true] := by kernel_rfl
theorem ends_2 : endsV ⟨#[99]⟩ ms ⟨#[]⟩ 2 1 0 1 = .tuple #[.string ⟨#[109]⟩, .string ⟨#[]⟩, .bool false] := by kernel_rfl
theorem ends_3 : endsV ⟨#[99]⟩ ms ⟨#[110]⟩ 2 1 2 1 = .tuple #[.string ⟨#[109]⟩, .string ⟨#[110]⟩, .bool true] := by kernel_rfl
theorem ends_4 : endsV ⟨#[99]⟩ ms ⟨#[110]⟩ 2 1 2 2 = .tuple #[.string ⟨#[]⟩, .string ⟨#[]⟩, .bool false] := by kernel_rfl
set_option maxHeartbeats 8000000 in
set_option maxRecDepth 100000 in
theorem fixed_any : Fixes := by
  intro w hg
  have HG0 := Lib.hid hg
  obtain ⟨S, hS, hS2, hS3, hS4, hS5, hS6⟩ := two_enc
  obtain ⟨T, hT, hT2, hT3⟩ := twoH_enc
  have E1 := Lib.hid (fun A ca C cb W (h : L7.Sizes W) (hr : Rows2 W A 2 ca C 1 cb [4, 5] ms) => encT 9 1 0 ⟨#[]⟩ A 2 ca C 1 cb [4, 5] ms 128 S 0 hS (by omega) (by omega) W h hr)
  have E2 := Lib.hid (fun A ca C cb W (h : L7.Sizes W) (hr : Rows2 W A 2 ca C 1 cb [4, 5] ms) => encT 9 1 0 ⟨#[]⟩ A 2 ca C 1 cb [4, 5] ms 100 ⟨#[]⟩ 4 (enc_arg _ (by decide)) (by omega) (by omega) W h hr)
  have E3 := Lib.hid (fun A ca C cb W (h : L7.Sizes W) (hr : Rows2 W A 2 ca C 1 cb [4, 5] ms) => encT 9 1 2 ⟨#[]⟩ A 2 ca C 1 cb [4, 5] ms 128 ⟨#[]⟩ 3 (enc_form (by decide) two2_not) (by omega) (by omega) W h hr)
  have E4 := Lib.hid (fun A ca C cb W (h : L7.Sizes W) (hr : Rows2 W A 2 ca C 1 cb [4, 5] ms) => encT 9 1 2 ⟨#[110]⟩ A 2 ca C 1 cb [4, 5] ms 128 T 0 hT (by omega) (by omega) W h hr)
  have D1 : Hid (∀ W, L7.Sizes W → Calls Tryz.prog 13 #[.string S] W fun e w' => ∃ A ca C cb, e = .returned (.tuple #[nv 9 1 0 ⟨#[]⟩ A 2 ca C 1 cb, .int .i64 0]) ∧ Rows2 w' A 2 ca C 1 cb [4, 5] ms ∧ Below W.heap.size W w') := Lib.hid (fun W (h : L7.Sizes W) => decT S 9 1 0 ⟨#[]⟩ [4, 5] ms hS4 W h (by omega))
  have D2 : Hid (∀ W, L7.Sizes W → Calls Tryz.prog 13 #[.string T] W fun e w' => ∃ A ca C cb, e = .returned (.tuple #[nv 9 1 2 ⟨#[110]⟩ A 2 ca C 1 cb, .int .i64 0]) ∧ Rows2 w' A 2 ca C 1 cb [4, 5] ms ∧ Below W.heap.size W w') := Lib.hid (fun W (h : L7.Sizes W) => decT T 9 1 2 ⟨#[110]⟩ [4, 5] ms hT3 W h (by omega))
  have RP := Lib.hid (fun W => L7.refRepeat_any 0 128 W (by omega))
  have hzz : (⟨(List.replicate 128 (0 : UInt8)).toArray⟩ : ByteArray).size ≤ 1000000 := by show (List.replicate 128 (0 : UInt8)).toArray.size ≤ _; rw [List.size_toArray, List.length_replicate]; decide
  have D3 := Lib.hid (fun W (h : L7.Sizes W) => decN _ zeros_dec W h hzz)
  obtain ⟨Z, hZ⟩ : ∃ Z : ByteArray, (⟨(List.replicate 128 (0 : UInt8)).toArray⟩ : ByteArray) = Z := ⟨_, rfl⟩
  rw [hZ] at D3 RP
  clear hzz hZ
  have N1 := Lib.hid (fun A ca dd cb W (hr : Rows2 W A 2 ca (some dd) 1 cb [4, 5] ms) => endsC_any 9 1 0 ⟨#[]⟩ A 2 ca (some dd) 1 cb ms ⟨#[99]⟩ 0 W hr.seps (fun h => nomatch h) (by omega) rfl hr.cm (by omega) (by decide) (by decide) (by decide))
  have N2 := Lib.hid (fun A ca dd cb W (hr : Rows2 W A 2 ca (some dd) 1 cb [4, 5] ms) => endsC_any 9 1 0 ⟨#[]⟩ A 2 ca (some dd) 1 cb ms ⟨#[99]⟩ 1 W hr.seps (fun h => nomatch h) (by omega) rfl hr.cm (by omega) (by decide) (by decide) (by decide))
  have N3 := Lib.hid (fun A ca dd cb W (hr : Rows2 W A 2 ca (some dd) 1 cb [4, 5] ms) => endsC_any 9 1 2 ⟨#[110]⟩ A 2 ca (some dd) 1 cb ms ⟨#[99]⟩ 1 W hr.seps (fun h => nomatch h) (by omega) rfl hr.cm (by omega) (by decide) (by decide) (by decide))
  have N4 := Lib.hid (fun A ca dd cb W (hr : Rows2 W A 2 ca (some dd) 1 cb [4, 5] ms) => endsC_any 9 1 2 ⟨#[110]⟩ A 2 ca (some dd) 1 cb ms ⟨#[99]⟩ 2 W hr.seps (fun h => nomatch h) (by omega) rfl hr.cm (by omega) (by decide) (by decide) (by decide))
  rw [ends_1] at N1
  rw [ends_2] at N2
  rw [ends_3] at N3
  rw [ends_4] at N4
  clear hS4 hT3 hS hT
  go_enter Tryz.func19, Tryz.ntmps19
  have HB := Lib.hid (Below.refl w.heap.size w)
  have HG := HG0
  go_wp2_with fail
  refine (two_any _).mono ?_
  rintro e V1 ⟨q1, d1, rfl, hq1, hd1, hr1, hb⟩
  have H1 := Lib.hid (NR.new (t := 25) (F := 9) (L := 1) (R := 0) (H := ⟨#[]⟩) hr1)
  have hb := hb.trans' (nbox_below 25 9 1 0 ⟨#[]⟩ (some ⟨q1,0,none⟩) 2 2 (some ⟨d1,0,none⟩) 1 1 V1)
  replace HB := Lib.hid (HB.out.trans' hb)
  replace HG := Lib.hid (HG0.out.below HG0.out.lt HB.out)
  clear hb
  simp only [nbox] at HB HG H1 
  clear hr1
  obtain ⟨c0, c1, c2, c3, c4, c5⟩ := H1.out.box.cells
  go_wp2_with fail
  refine (E1.out _ _ _ _ _ HG.out H1.out.rows).mono ?_
  rintro e V ⟨rfl, hb⟩
  replace HB := Lib.hid (HB.out.trans' hb)
  replace HG := Lib.hid (HG0.out.below HG0.out.lt HB.out)
  replace H1 := Lib.hid (H1.out.on hb)
  clear hb
  clear c0 c1 c2 c3 c4 c5
  obtain ⟨c0, c1, c2, c3, c4, c5⟩ := H1.out.box.cells
  go_wp2_with fail
  refine (E2.out _ _ _ _ _ HG.out H1.out.rows).mono ?_
  rintro e V ⟨rfl, hb⟩
  replace HB := Lib.hid (HB.out.trans' hb)
  replace HG := Lib.hid (HG0.out.below HG0.out.lt HB.out)
  replace H1 := Lib.hid (H1.out.on hb)
  clear hb
  clear c0 c1 c2 c3 c4 c5
  go_wp2_with fail
  refine (two_any _).mono ?_
  rintro e V3 ⟨q2, d2, rfl, hq2, hd2, hr2, hb⟩
  replace HB := Lib.hid (HB.out.trans' hb)
  replace HG := Lib.hid (HG0.out.below HG0.out.lt HB.out)
  replace H1 := Lib.hid (H1.out.on hb)
  clear hb
  have hlt1 := H1.out.box.lt
  have hw3 := HB.out.size
  have hb := Below.refl V3.heap.size V3
  have H2 := Lib.hid (NR.new (t := 25) (F := 9) (L := 1) (R := 2) (H := ⟨#[]⟩) hr2)
  have hb := hb.trans' (nbox_below 25 9 1 2 ⟨#[]⟩ (some ⟨q2,0,none⟩) 2 2 (some ⟨d2,0,none⟩) 1 1 V3)
  replace HB := Lib.hid (HB.out.trans' hb)
  replace HG := Lib.hid (HG0.out.below HG0.out.lt HB.out)
  replace H1 := Lib.hid (H1.out.on hb)
  clear hb
  simp only [nbox] at HB HG H2 H1
  have hn1 : ∀ a, some (⟨q2, 0, none⟩ : Addr) = some a → a.block ≠ V3.heap.size := fun a e => by
    obtain rfl := Option.some.inj e
    show q2 ≠ _
    omega
  have hn2 : ∀ a, some (⟨d2, 0, none⟩ : Addr) = some a → a.block ≠ V3.heap.size := fun a e => by
    obtain rfl := Option.some.inj e
    show d2 ≠ _
    omega
  have hn3 : ∀ a, some (⟨q1, 0, none⟩ : Addr) = some a → a.block ≠ V3.heap.size := fun a e => by
    obtain rfl := Option.some.inj e
    show q1 ≠ _
    omega
  have hn4 : ∀ a, some (⟨d1, 0, none⟩ : Addr) = some a → a.block ≠ V3.heap.size := fun a e => by
    obtain rfl := Option.some.inj e
    show d1 ≠ _
    omega
  have hn5 : V1.heap.size ≠ V3.heap.size := by omega
  clear hr2 hq2 hd2 hq1 hd1 hlt1
  obtain ⟨c0, c1, c2, c3, c4, c5⟩ := H2.out.box.cells
  go_wp2_with fail
  refine (E3.out _ _ _ _ _ HG.out H2.out.rows).mono ?_
  rintro e V ⟨rfl, hb⟩
  replace HB := Lib.hid (HB.out.trans' hb)
  replace HG := Lib.hid (HG0.out.below HG0.out.lt HB.out)
  replace H1 := Lib.hid (H1.out.on hb)
  replace H2 := Lib.hid (H2.out.on hb)
  clear hb
  clear c0 c1 c2 c3 c4 c5
  obtain ⟨c0, c1, c2, c3, c4, c5⟩ := H2.out.box.cells
  obtain ⟨f0, f1, f2, f3, f4, f5⟩ := H2.out.box.free
  replace HB := Lib.hid (HB.out.setCell (p := ⟨V3.heap.size, 3, none⟩) hw3 (.string ⟨#[110]⟩))
  replace HG := Lib.hid (HG0.out.below HG0.out.lt HB.out)
  have H2' := Lib.hid (show NR 25 V3.heap.size 9 1 2 ⟨#[110]⟩ (some ⟨q2,0,none⟩) 2 2 (some ⟨d2,0,none⟩) 1 1 [4, 5] ms (V.setCell ⟨V3.heap.size, 3, none⟩ (.string ⟨#[110]⟩)) from ⟨H2.out.box.set3 _, H2.out.rows.other hn1 hn2 _⟩)
  replace H1 := Lib.hid (show NR 25 V1.heap.size 9 1 0 ⟨#[]⟩ (some ⟨q1,0,none⟩) 2 2 (some ⟨d1,0,none⟩) 1 1 [4, 5] ms (V.setCell ⟨V3.heap.size, 3, none⟩ (.string ⟨#[110]⟩)) from ⟨H1.out.box.other hn5 _, H1.out.rows.other hn3 hn4 _⟩)
  clear H2 hn1 hn2 hn3 hn4 hn5
  have H2 := H2'
  clear H2'
  obtain ⟨r0, r1, r2, r3, r4, r5⟩ := H2.out.box.cells
  go_wp2_with fail
  clear c0 c1 c2 c3 c4 c5 f0 f1 f2 f3 f4 f5 r0 r1 r2 r3 r4 r5 hw3
  generalize V3.heap.size = b2 at *
  generalize V1.heap.size = b1 at *
  refine (E4.out _ _ _ _ _ HG.out H2.out.rows).mono ?_
  rintro e V ⟨rfl, hb⟩
  replace HB := Lib.hid (HB.out.trans' hb)
  replace HG := Lib.hid (HG0.out.below HG0.out.lt HB.out)
  replace H1 := Lib.hid (H1.out.on hb)
  replace H2 := Lib.hid (H2.out.on hb)
  clear hb E1 E2 E3 E4
  go_wp2_with fail
  refine (D1.out _ HG.out).mono ?_
  rintro e V ⟨AH3, caH3, CH3, cbH3, rfl, hrH3, hb⟩
  have H3 := Lib.hid (NR.new (t := 25) (F := 9) (L := 1) (R := 0) (H := ⟨#[]⟩) hrH3)
  have hb := hb.trans' (nbox_below 25 9 1 0 ⟨#[]⟩ AH3 2 caH3 CH3 1 cbH3 V)
  replace HB := Lib.hid (HB.out.trans' hb)
  replace HG := Lib.hid (HG0.out.below HG0.out.lt HB.out)
  replace H1 := Lib.hid (H1.out.on hb)
  replace H2 := Lib.hid (H2.out.on hb)
  clear hb
  simp only [nbox] at HB HG H3 H1 H2
  clear hrH3
  go_wp2_with fail
  generalize V.alloc (.cells #[.int .i64 9, .int .i64 1, .int .i64 0, .string ⟨#[]⟩, .slice AH3 2 caH3, .slice CH3 1 cbH3] 25) = V' at *
  generalize V.heap.size = b3 at *
  refine (D2.out _ HG.out).mono ?_
  rintro e V ⟨AH4, caH4, CH4, cbH4, rfl, hrH4, hb⟩
  have H4 := Lib.hid (NR.new (t := 25) (F := 9) (L := 1) (R := 2) (H := ⟨#[110]⟩) hrH4)
  have hb := hb.trans' (nbox_below 25 9 1 2 ⟨#[110]⟩ AH4 2 caH4 CH4 1 cbH4 V)
  replace HB := Lib.hid (HB.out.trans' hb)
  replace HG := Lib.hid (HG0.out.below HG0.out.lt HB.out)
  replace H1 := Lib.hid (H1.out.on hb)
  replace H2 := Lib.hid (H2.out.on hb)
  replace H3 := Lib.hid (H3.out.on hb)
  clear hb
  simp only [nbox] at HB HG H4 H1 H2 H3
  clear hrH4
  go_wp2_with fail
  generalize V.alloc (.cells #[.int .i64 9, .int .i64 1, .int .i64 2, .string ⟨#[110]⟩, .slice AH4 2 caH4, .slice CH4 1 cbH4] 25) = V' at *
  generalize V.heap.size = b4 at *
  refine (RP.out _).mono ?_
  rintro e V ⟨rfl, hb⟩
  replace HB := Lib.hid (HB.out.trans' hb)
  replace HG := Lib.hid (HG0.out.below HG0.out.lt HB.out)
  replace H1 := Lib.hid (H1.out.on hb)
  replace H2 := Lib.hid (H2.out.on hb)
  replace H3 := Lib.hid (H3.out.on hb)
  replace H4 := Lib.hid (H4.out.on hb)
  clear hb
  go_wp2_with fail
  refine (D3.out _ HG.out).mono ?_
  rintro e V ⟨rfl, hb⟩
  replace hb := hb.trans' (nbox_below 25 0 0 0 ⟨#[]⟩ none 0 0 none 0 0 V)
  replace HB := Lib.hid (HB.out.trans' hb)
  replace HG := Lib.hid (HG0.out.below HG0.out.lt HB.out)
  replace H1 := Lib.hid (H1.out.on hb)
  replace H2 := Lib.hid (H2.out.on hb)
  replace H3 := Lib.hid (H3.out.on hb)
  replace H4 := Lib.hid (H4.out.on hb)
  clear hb
  simp only [nbox] at HB HG H1 H2 H3 H4
  obtain ⟨c0, c1, c2, c3, c4, c5⟩ := H1.out.box.cells
  obtain ⟨d0, d1, d2, d3, d4, d5⟩ := H2.out.box.cells
  go_wp2_with fail
  generalize V.alloc (.cells #[.int .i64 0, .int .i64 0, .int .i64 0, .string ⟨#[]⟩, .slice none 0 0, .slice none 0 0] 25) = V' at *
  clear D1 D2 D3 RP
  refine (N1.out _ _ _ _ _ H1.out.rows).mono ?_
  rintro e V ⟨rfl, hb⟩
  replace HB := Lib.hid (HB.out.trans' hb)
  replace HG := Lib.hid (HG0.out.below HG0.out.lt HB.out)
  replace H1 := Lib.hid (H1.out.on hb)
  replace H2 := Lib.hid (H2.out.on hb)
  replace H3 := Lib.hid (H3.out.on hb)
  replace H4 := Lib.hid (H4.out.on hb)
  clear hb
  clear c0 c1 c2 c3 c4 c5 d0 d1 d2 d3 d4 d5
  obtain ⟨c0, c1, c2, c3, c4, c5⟩ := H1.out.box.cells
  obtain ⟨d0, d1, d2, d3, d4, d5⟩ := H2.out.box.cells
  go_wp2_with fail
  refine (N2.out _ _ _ _ _ H1.out.rows).mono ?_
  rintro e V ⟨rfl, hb⟩
  replace HB := Lib.hid (HB.out.trans' hb)
  replace HG := Lib.hid (HG0.out.below HG0.out.lt HB.out)
  replace H1 := Lib.hid (H1.out.on hb)
  replace H2 := Lib.hid (H2.out.on hb)
  replace H3 := Lib.hid (H3.out.on hb)
  replace H4 := Lib.hid (H4.out.on hb)
  clear hb
  clear c0 c1 c2 c3 c4 c5 d0 d1 d2 d3 d4 d5
  obtain ⟨c0, c1, c2, c3, c4, c5⟩ := H1.out.box.cells
  obtain ⟨d0, d1, d2, d3, d4, d5⟩ := H2.out.box.cells
  go_wp2_with fail
  refine (N3.out _ _ _ _ _ H2.out.rows).mono ?_
  rintro e V ⟨rfl, hb⟩
  replace HB := Lib.hid (HB.out.trans' hb)
  replace HG := Lib.hid (HG0.out.below HG0.out.lt HB.out)
  replace H1 := Lib.hid (H1.out.on hb)
  replace H2 := Lib.hid (H2.out.on hb)
  replace H3 := Lib.hid (H3.out.on hb)
  replace H4 := Lib.hid (H4.out.on hb)
  clear hb
  clear c0 c1 c2 c3 c4 c5 d0 d1 d2 d3 d4 d5
  obtain ⟨c0, c1, c2, c3, c4, c5⟩ := H1.out.box.cells
  obtain ⟨d0, d1, d2, d3, d4, d5⟩ := H2.out.box.cells
  go_wp2_with fail
  refine (N4.out _ _ _ _ _ H2.out.rows).mono ?_
  rintro e V ⟨rfl, hb⟩
  replace HB := Lib.hid (HB.out.trans' hb)
  replace HG := Lib.hid (HG0.out.below HG0.out.lt HB.out)
  replace H1 := Lib.hid (H1.out.on hb)
  replace H2 := Lib.hid (H2.out.on hb)
  replace H3 := Lib.hid (H3.out.on hb)
  replace H4 := Lib.hid (H4.out.on hb)
  clear hb
  clear c0 c1 c2 c3 c4 c5 d0 d1 d2 d3 d4 d5
  go_wp2_with fail
  refine fixed_fin w _ S b1 b2 b3 b4 q1 d1 q2 d2 AH3 caH3 CH3 cbH3 AH4 caH4 CH4 cbH4 hS2 hS3 hS5 hS6 HG H1 H2 H3 H4 HB _ _ _ _ _ _ _ _ _ _ _ _ _ _ _ _ _ _ _ _ _ _ _ _ _ _ _ _ _ _ _ _ _ _ _ _ _ _ _ _ _ _ _ _ _ _ _ _ _ _ _ _ _ _ _ _ _ _ _ _ _ _ _ _ _ _ _ _ _ _ _ _ _ _ _ _ _ _ _ ?_ ?_
  · kernel_rfl
  · assumption
end Go.Proofs.YtembccehokodeaaGreatDoor
