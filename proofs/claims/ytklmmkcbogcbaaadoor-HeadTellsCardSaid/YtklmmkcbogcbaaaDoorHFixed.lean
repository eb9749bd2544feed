/-
  The walk of the laws' own fixed.
-/
import Derived.Test.YtklmmkcbogcbaaaDoorHTells
import Derived.Deep.RegionHeld3
namespace Go.Proofs.YtklmmkcbogcbaaaDoor
open Go.RowKit
set_option linter.unusedVariables false
set_option linter.unusedSimpArgs false

theorem getE_of {s : ByteArray} {i : Nat} {c : UInt8} (h : s.data.toList[i]? = some c) (hi : i < s.size) : s[i] = c := by
  have h2 := List.getElem?_eq_some_iff.1 h
  obtain ⟨h3, h4⟩ := h2
  rw [← h4]
  rfl
theorem zeros_none (n : Nat) (h : 16 ≤ n) (hn : n ≤ 1024) : HP.opn ⟨(List.replicate n (0 : UInt8)).toArray⟩ = (HP.H0, ⟨#[]⟩, 3) := by
  refine HP.opn_bad fun hg => ?_
  have h1 := hg.2.1.1
  rw [toBytes] at h1
  unfold HP.headOf at h1
  obtain ⟨m, rfl⟩ : ∃ m, n = m + 1 := ⟨n - 1, by omega⟩
  rw [List.replicate_succ] at h1
  simp at h1

set_option maxHeartbeats 4000000 in
set_option maxRecDepth 100000 in
theorem fixed_any (w : World) (hs : Sizes w) : Calls Tryd.prog 16 #[] w fun e w' => e = .returned (.bool true) ∧ Below w.heap.size w w' := by
  obtain ⟨P, hP, sP, hPx, hp0, hp8, hop⟩ := example_page
  have p0 : P[0]'(by omega) = 2 := getE_of hp0 (by omega)
  have p8 : P[8]'(by omega) = 3 := getE_of hp8 (by omega)
  have hRs : (⟨(List.replicate 113 (1 : UInt8)).toArray⟩ : ByteArray).size = 113 := by rw [sizeOf]; simp
  have A1 := Tells.as (tSeal h23 ⟨#[]⟩ 128 (by decide) (by decide)) (show _ = .tuple #[.string P, .int .i64 0] by unfold seaV; rw [hP])
  have A2 := Tells.as (tSeal h23 ⟨#[]⟩ 100 (by decide) (by decide)) (show _ = .tuple #[.string ⟨#[]⟩, .int .i64 4] by unfold seaV; rw [HP.seal_arg _ _ (by decide)])
  have A3 := Tells.as (tSeal HP.H0 ⟨#[]⟩ 128 (by decide) (by decide)) (show _ = .tuple #[.string ⟨#[]⟩, .int .i64 3] by unfold seaV; rw [HP.seal_form _ (by decide) (by decide)])
  have A4 := Tells.as (tSeal h23 ⟨(List.replicate 113 (1 : UInt8)).toArray⟩ 128 (by decide) (by rw [hRs]; decide)) (show _ = .tuple #[.string ⟨#[]⟩, .int .i64 8] by unfold seaV; rw [HP.seal_big (by decide) (by decide) (by rw [hRs]; decide)])
  have A5 := Tells.as (tSeal HP.H0 ⟨(List.replicate 113 (1 : UInt8)).toArray⟩ 128 (by decide) (by rw [hRs]; decide)) (show _ = .tuple #[.string ⟨#[]⟩, .int .i64 3] by unfold seaV; rw [HP.seal_form _ (by decide) (by decide)])
  have A6 := Tells.as (tOpen P (by unfold maxLen; omega)) (show _ = .tuple #[.agg #[.int .i64 2, .int .i64 0, .int .i64 0, .int .i64 0, .int .i64 3], .string ⟨(List.replicate 112 (0 : UInt8)).toArray⟩, .int .i64 0] by unfold opnV; rw [hop]; rfl)
  have A7 := Tells.as (tOpen ⟨#[]⟩ (by decide)) (show _ = .tuple #[.agg #[.int .i64 0, .int .i64 0, .int .i64 0, .int .i64 0, .int .i64 0], .string ⟨#[]⟩, .int .i64 3] by unfold opnV; rw [HP.opn_bad (fun h => absurd h.1 (by decide))]; rfl)
  have A8 := Tells.as (tOpen ⟨(List.replicate 128 (0 : UInt8)).toArray⟩ (by rw [sizeOf]; simp; decide)) (show _ = .tuple #[.agg #[.int .i64 0, .int .i64 0, .int .i64 0, .int .i64 0, .int .i64 0], .string ⟨#[]⟩, .int .i64 3] by unfold opnV; rw [zeros_none 128 (by omega) (by omega)]; rfl)
  have A9 := Tells.as (tRight h23) (show _ = .bool true by rw [show HP.right h23 = true by decide])
  have A10 := Tells.as (tRight ⟨5, 0, 0, 0, 0⟩) (show _ = .bool false by rw [show HP.right ⟨5, 0, 0, 0, 0⟩ = false by decide])
  have R1 := tRepeat 1 113 (by omega)
  have R2 := tRepeat 0 112 (by omega)
  have R3 := tRepeat 0 128 (by omega)
  obtain ⟨Y, hY⟩ : ∃ Y : ByteArray, ⟨(List.replicate 113 (1 : UInt8)).toArray⟩ = Y := ⟨_, rfl⟩
  obtain ⟨Z, hZ⟩ : ∃ Z : ByteArray, ⟨(List.replicate 112 (0 : UInt8)).toArray⟩ = Z := ⟨_, rfl⟩
  obtain ⟨V, hV⟩ : ∃ V : ByteArray, ⟨(List.replicate 128 (0 : UInt8)).toArray⟩ = V := ⟨_, rfl⟩
  rw [hY] at A4 A5 R1
  rw [hZ] at A6 R2 hPx
  rw [hV] at A8 R3
  clear hY hZ hV hRs hP hp0 hp8 hop
  simp only [hv, h23, HP.H0] at A1 A2 A3 A4 A5 A9 A10
  obtain ⟨bo, hbo⟩ : ∃ bo : Obj, bo = .cells #[.int .i64 2, .int .i64 0, .int .i64 0, .int .i64 0, .int .i64 3] 23 := ⟨_, rfl⟩
  have HBX := Lib.hid (show Bx 23 w.heap.size h23 (w.alloc (.cells #[.int .i64 2, .int .i64 0, .int .i64 0, .int .i64 0, .int .i64 3] 23)) from heap_alloc_new _ _)
  have HB0 := Lib.hid (below_alloc w (.cells #[.int .i64 2, .int .i64 0, .int .i64 0, .int .i64 0, .int .i64 3] 23))
  have HS := Lib.hid (hs.alloc (.cells #[.int .i64 2, .int .i64 0, .int .i64 0, .int .i64 0, .int .i64 3] 23))
  clear hbo hs
  generalize hw0 : w.alloc (.cells #[.int .i64 2, .int .i64 0, .int .i64 0, .int .i64 0, .int .i64 3] 23) = W0 at *
  go_enter Tryd.func16, Tryd.ntmps16
  obtain ⟨x0, x1, x2, x3, x4⟩ := HBX.out.cells
  simp only [h23] at x0 x1 x2 x3 x4
  go_wp2_with fail
  refine (Tells.at A1 HS (Below.refl _ _)).mono ?_
  rintro e W1 ⟨rfl, hb1⟩
  have HB1 := Lib.hid hb1
  clear x0 x1 x2 x3 x4 hb1
  obtain ⟨x0, x1, x2, x3, x4⟩ := (HBX.out.below HB1.out).cells
  simp only [h23] at x0 x1 x2 x3 x4
  go_wp2_with fail
  refine (Tells.at A2 HS HB1.out).mono ?_
  rintro e W2 ⟨rfl, hb2⟩
  have HB2 := Lib.hid hb2
  clear x0 x1 x2 x3 x4 hb2 HB1
  go_wp2_with fail
  refine (Tells.at A3 HS HB2.out).mono ?_
  rintro e W3 ⟨rfl, hb3⟩
  have HB3 := Lib.hid hb3
  clear hb3 HB2
  obtain ⟨x0, x1, x2, x3, x4⟩ := (HBX.out.below HB3.out).cells
  simp only [h23] at x0 x1 x2 x3 x4
  have HSB : Hid (∀ V, Below W0.heap.size W0 V → Hid (Below W0.heap.size W0 V) ∧ V.cell? ⟨w.heap.size, 0, none⟩ = some (.int .i64 2) ∧ V.cell? ⟨w.heap.size, 1, none⟩ = some (.int .i64 0) ∧ V.cell? ⟨w.heap.size, 2, none⟩ = some (.int .i64 0) ∧ V.cell? ⟨w.heap.size, 3, none⟩ = some (.int .i64 0) ∧ V.cell? ⟨w.heap.size, 4, none⟩ = some (.int .i64 3)) := Lib.hid (fun V hb => ⟨Lib.hid hb, (HBX.out.below hb).cells⟩)
  have hSV := HSB.out _ HB3.out
  have hSd := HSB.out _ (below_drewN HB3.out 1)
  have HD3 := Lib.hid (below_drewN HB3.out 1)
  go_wp2_with fail
  go_region_held3 (fun V => Hid (Below W0.heap.size W0 V) ∧ V.cell? ⟨w.heap.size, 0, none⟩ = some (.int .i64 2) ∧ V.cell? ⟨w.heap.size, 1, none⟩ = some (.int .i64 0) ∧ V.cell? ⟨w.heap.size, 2, none⟩ = some (.int .i64 0) ∧ V.cell? ⟨w.heap.size, 3, none⟩ = some (.int .i64 0) ∧ V.cell? ⟨w.heap.size, 4, none⟩ = some (.int .i64 3))
    (first | assumption | exact hSd)
    (first
      | (go_at_call 17; refine (Tells.at R1 HS HD3.out).mono ?_; rintro e V4 ⟨rfl, hb4⟩; have HB4 := Lib.hid hb4; have hSV4 := HSB.out _ hb4; clear hb4)
      | (go_at_call 9; refine (Tells.at A4 HS HB4.out).mono ?_; rintro e V5 ⟨rfl, hb5⟩; have HB5 := Lib.hid hb5; have hSV5 := HSB.out _ hb5; clear hb5)
      | fail "no arm")
  clear HD3 HB4 hSV hSd hSV4 HB3
  go_wp2_with fail
  refine (Tells.at R1 HS HB5.out).mono ?_
  rintro e W6 ⟨rfl, hb6⟩
  have HB6 := Lib.hid hb6
  clear hb6
  go_wp2_with fail
  refine (Tells.at A5 HS HB6.out).mono ?_
  rintro e W7 ⟨rfl, hb7⟩
  have HB7 := Lib.hid hb7
  clear hb7
  go_wp2_with fail
  refine (Tells.at A6 HS HB7.out).mono ?_
  rintro e W8 ⟨rfl, hb8⟩
  -- the head that was opened has a box, too
  have HBY := Lib.hid (show Bx 23 W8.heap.size h23 (W8.alloc (.cells #[.int .i64 2, .int .i64 0, .int .i64 0, .int .i64 0, .int .i64 3] 23)) from heap_alloc_new _ _)
  have HB8 := Lib.hid (hb8.trans' (below_alloc W8 (.cells #[.int .i64 2, .int .i64 0, .int .i64 0, .int .i64 0, .int .i64 3] 23)))
  have HS8 := Lib.hid (HS.out.kept HB8.out)
  have HBX8 := Lib.hid (HBX.out.below HB8.out)
  have HBW := Lib.hid (HB0.out.trans' HB8.out)
  clear hb8 HBX HS HB8 HB0 HB6 HB7 HB5
  generalize hw8 : W8.alloc (.cells #[.int .i64 2, .int .i64 0, .int .i64 0, .int .i64 0, .int .i64 3] 23) = W9 at *
  go_wp2_with fail
  refine (Tells.at A7 HS8 (Below.refl _ _)).mono ?_
  rintro e W10 ⟨rfl, hb10⟩
  have HB10 := Lib.hid (hb10.trans' (below_alloc W10 (.cells #[.int .i64 0, .int .i64 0, .int .i64 0, .int .i64 0, .int .i64 0] 23)))
  clear hb10
  go_wp2_with fail
  refine (Tells.at R3 HS8 HB10.out).mono ?_
  rintro e W11 ⟨rfl, hb11⟩
  have HB11 := Lib.hid hb11
  clear hb11
  go_wp2_with fail
  refine (Tells.at A8 HS8 HB11.out).mono ?_
  rintro e W12 ⟨rfl, hb12⟩
  have HB12 := Lib.hid (hb12.trans' (below_alloc W12 (.cells #[.int .i64 0, .int .i64 0, .int .i64 0, .int .i64 0, .int .i64 0] 23)))
  clear hb12
  have HSC : Hid (∀ V, Below W9.heap.size W9 V → Hid (Below W9.heap.size W9 V) ∧ V.cell? ⟨w.heap.size, 0, none⟩ = some (.int .i64 2) ∧ V.cell? ⟨w.heap.size, 1, none⟩ = some (.int .i64 0) ∧ V.cell? ⟨w.heap.size, 2, none⟩ = some (.int .i64 0) ∧ V.cell? ⟨w.heap.size, 3, none⟩ = some (.int .i64 0) ∧ V.cell? ⟨w.heap.size, 4, none⟩ = some (.int .i64 3) ∧ V.cell? ⟨W8.heap.size, 0, none⟩ = some (.int .i64 2) ∧ V.cell? ⟨W8.heap.size, 1, none⟩ = some (.int .i64 0) ∧ V.cell? ⟨W8.heap.size, 2, none⟩ = some (.int .i64 0) ∧ V.cell? ⟨W8.heap.size, 3, none⟩ = some (.int .i64 0) ∧ V.cell? ⟨W8.heap.size, 4, none⟩ = some (.int .i64 3)) := Lib.hid (fun V hb => by
    obtain ⟨x0, x1, x2, x3, x4⟩ := (HBX8.out.below hb).cells
    obtain ⟨y0, y1, y2, y3, y4⟩ := (HBY.out.below hb).cells
    exact ⟨Lib.hid hb, x0, x1, x2, x3, x4, y0, y1, y2, y3, y4⟩)
  have hSV := HSC.out _ HB12.out
  have hSd := HSC.out _ (below_drewN HB12.out 1)
  clear A1 A2 A3 A4 A5 A6 A7 A8 R1 R3 HSB HB10 HB11 HB12 HBX8 HBY
  have sP0 : (0 : Int) < P.size ∧ (8 : Int) < P.size ∧ (0 : Int) ≤ 16 ∧ (16 : Int) ≤ P.size := by omega
  go_wp2_with fail
  simp only [List.append]
  go_region_held3 (fun V => Hid (Below W9.heap.size W9 V) ∧ V.cell? ⟨w.heap.size, 0, none⟩ = some (.int .i64 2) ∧ V.cell? ⟨w.heap.size, 1, none⟩ = some (.int .i64 0) ∧ V.cell? ⟨w.heap.size, 2, none⟩ = some (.int .i64 0) ∧ V.cell? ⟨w.heap.size, 3, none⟩ = some (.int .i64 0) ∧ V.cell? ⟨w.heap.size, 4, none⟩ = some (.int .i64 3) ∧ V.cell? ⟨W8.heap.size, 0, none⟩ = some (.int .i64 2) ∧ V.cell? ⟨W8.heap.size, 1, none⟩ = some (.int .i64 0) ∧ V.cell? ⟨W8.heap.size, 2, none⟩ = some (.int .i64 0) ∧ V.cell? ⟨W8.heap.size, 3, none⟩ = some (.int .i64 0) ∧ V.cell? ⟨W8.heap.size, 4, none⟩ = some (.int .i64 3))
    (first | assumption | exact hSd)
    (first
      | (go_at_call 17; refine (Tells.held R2 HS8 (by assumption)).mono ?_; rintro e V ⟨rfl, hb⟩; have hSn := HSC.out _ hb)
      | (go_at_call 14; refine (Tells.held A9 HS8 (by assumption)).mono ?_; rintro e V ⟨rfl, hb⟩; have hSn := HSC.out _ hb)
      | (go_at_call 14; refine (Tells.held A10 HS8 (by assumption)).mono ?_; rintro e V ⟨rfl, hb⟩; have hSn := HSC.out _ hb; have HBZ := Lib.hid hb)
      | fail "no arm")
  go_wp2_with fail
  go_ret
  exact ⟨rfl, HBW.out.trans' HBZ.out⟩
end Go.Proofs.YtklmmkcbogcbaaaDoor
