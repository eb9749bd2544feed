/-
  The fixed calls of the statements of layer 9.
-/
import Derived.Test.YtppnchjmbeinkaaVSays
namespace Go.Proofs.Ytppnchjmbeinkaa
open Go.RowKit
set_option linter.unusedVariables false
set_option linter.unusedSimpArgs false

def ones129 : ByteArray := ⟨(List.replicate 129 (1 : UInt8)).toArray⟩
theorem fx1 : putVV ⟨#[97]⟩ (pv false ⟨#[98, 99]⟩ 0 0) = .tuple #[.string ⟨#[1, 97, 0, 2, 98, 99]⟩, .int .i64 0] := by kernel_rfl
theorem fx2 : putKV 5 ⟨#[]⟩ = .tuple #[.string ⟨#[5, 0, 0, 0, 0]⟩, .int .i64 0] := by kernel_rfl
theorem fx3 : putVV ⟨#[]⟩ (pv true ⟨#[]⟩ 241 258) = .tuple #[.string ⟨#[0, 1, 241, 1, 2, 1, 0, 0]⟩, .int .i64 0] := by kernel_rfl
theorem fx4 : putVV ones129 (pv false ⟨#[]⟩ 0 0) = .tuple #[.string ⟨#[]⟩, .int .i64 3] := by kernel_rfl
theorem fx5 : putKV 0 ⟨#[]⟩ = .tuple #[.string ⟨#[]⟩, .int .i64 3] := by kernel_rfl
theorem fx6 : gotV (VP.getV (⟨#[0, 1, 241, 1, 2, 1, 0, 0]⟩ : ByteArray).data.toList) = .tuple #[.string ⟨#[]⟩, vv true ⟨#[]⟩ 241 258, .int .i64 0] := by kernel_rfl
theorem fx7 : gotV (VP.getV (⟨#[1, 97, 0, 2, 98, 99]⟩ : ByteArray).data.toList) = .tuple #[.string ⟨#[97]⟩, vv false ⟨#[98, 99]⟩ 0 0, .int .i64 0] := by kernel_rfl
theorem fx8 : gotK (VP.getK (⟨#[5, 0, 0, 0, 1, 120]⟩ : ByteArray).data.toList) = .tuple #[.int .i64 5, .string ⟨#[120]⟩, .int .i64 0] := by kernel_rfl
theorem fx9 : gotK (VP.getK (⟨#[5, 0, 0, 0, 1]⟩ : ByteArray).data.toList) = .tuple #[.int .i64 0, .string ⟨#[]⟩, .int .i64 3] := by kernel_rfl
theorem fx10 : gotV (VP.getV (⟨#[0, 2, 0]⟩ : ByteArray).data.toList) = .tuple #[.string ⟨#[]⟩, vv false ⟨#[]⟩ 0 0, .int .i64 3] := by kernel_rfl
theorem fx11 : gotV (VP.getV (⟨#[]⟩ : ByteArray).data.toList) = .tuple #[.string ⟨#[]⟩, vv false ⟨#[]⟩ 0 0, .int .i64 3] := by kernel_rfl
theorem fr1 : decide (VP.Right (pv true ⟨#[]⟩ 241 258)) = true := by kernel_rfl
theorem fr2 : decide (VP.Right (pv true ⟨#[]⟩ 0 0)) = false := by kernel_rfl
theorem fr3 : decide (VP.Right (pv false ⟨#[]⟩ 1 0)) = false := by kernel_rfl

set_option maxHeartbeats 8000000 in
set_option maxRecDepth 100000 in
theorem fixed_any (H : Says) (w : World) : Calls Try.prog 21 #[] w fun e w' => e = .returned (.bool true) ∧ Below w.heap.size w w' := by
  have A1 := Lib.hid (by have h := H.putV ⟨#[97]⟩ false ⟨#[98, 99]⟩ 0 0 (by decide) (by decide); rwa [fx1] at h)
  have A2 := Lib.hid (by have h := H.putK 5 ⟨#[]⟩ (by decide); rwa [fx2] at h)
  have A3 := Lib.hid (by have h := H.putV ⟨#[]⟩ true ⟨#[]⟩ 241 258 (by decide) (by decide); rwa [fx3] at h)
  have A4 := Lib.hid (by have h := H.putV ones129 false ⟨#[]⟩ 0 0 (by decide) (by decide); rwa [fx4] at h)
  have A5 := Lib.hid (by have h := H.putK 0 ⟨#[]⟩ (by decide); rwa [fx5] at h)
  have A6 := Lib.hid (by have h := H.getV ⟨#[0, 1, 241, 1, 2, 1, 0, 0]⟩ (by decide); rwa [fx6] at h)
  have A7 := Lib.hid (by have h := H.getV ⟨#[1, 97, 0, 2, 98, 99]⟩ (by decide); rwa [fx7] at h)
  have A8 := Lib.hid (by have h := H.getK ⟨#[5, 0, 0, 0, 1, 120]⟩ (by decide); rwa [fx8] at h)
  have A9 := Lib.hid (by have h := H.getK ⟨#[5, 0, 0, 0, 1]⟩ (by decide); rwa [fx9] at h)
  have A10 := Lib.hid (by have h := H.getV ⟨#[0, 2, 0]⟩ (by decide); rwa [fx10] at h)
  have A11 := Lib.hid (by have h := H.getV ⟨#[]⟩ (by decide); rwa [fx11] at h)
  have R1 := Lib.hid (by have h := H.right true ⟨#[]⟩ 241 258; rwa [fr1] at h)
  have R2 := Lib.hid (by have h := H.right true ⟨#[]⟩ 0 0; rwa [fr2] at h)
  have R3 := Lib.hid (by have h := H.right false ⟨#[]⟩ 1 0; rwa [fr3] at h)
  have RP : Hid (∀ W, Calls Try.prog 35 #[.int .u8 1, .int .i64 129] W fun e w' => e = .returned (.string ones129) ∧ Below W.heap.size W w') := Lib.hid (fun W => refRepeat_any 1 129 W (by decide))
  clear H
  go_enter Try.func21, Try.ntmps21
  go_wp2_with fail
  refine (Tells.at A1.out (Below.refl _ _)).mono ?_
  rintro e W1 ⟨rfl, hb⟩
  have HB1 := Lib.hid hb
  clear hb A1
  go_wp2_with fail
  refine (Tells.at A2.out HB1.out).mono ?_
  rintro e W2 ⟨rfl, hb⟩
  have HB2 := Lib.hid hb
  clear hb A2 HB1
  go_wp2_with fail
  refine (Tells.at A3.out HB2.out).mono ?_
  rintro e W3 ⟨rfl, hb⟩
  have HB3 := Lib.hid hb
  clear hb A3 HB2
  go_wp2_with fail
  refine (Tells.at RP.out HB3.out).mono ?_
  rintro e W4 ⟨rfl, hb⟩
  have HB4 := Lib.hid hb
  clear hb RP HB3
  go_wp2_with fail
  refine (Tells.at A4.out HB4.out).mono ?_
  rintro e W5 ⟨rfl, hb⟩
  have HB5 := Lib.hid hb
  clear hb A4 HB4
  go_wp2_with fail
  refine (Tells.at A5.out HB5.out).mono ?_
  rintro e W6 ⟨rfl, hb⟩
  have HB6 := Lib.hid hb
  clear hb A5 HB5
  go_wp2_with fail
  refine (Tells.at A6.out HB6.out).mono ?_
  rintro e W7 ⟨rfl, hb⟩
  have HX := Lib.hid (Bx.new 23 true ⟨#[]⟩ 241 258 W7)
  have HB7 := Lib.hid (hb.trans' (below_alloc W7 (.cells #[.bool true, .string ⟨#[]⟩, .int .i64 241, .int .i64 258] 23)))
  clear hb A6 HB6
  go_wp2_with fail
  generalize W7.alloc (.cells #[.bool true, .string ⟨#[]⟩, .int .i64 241, .int .i64 258] 23) = V7 at *
  refine (A7.out _).mono ?_
  rintro e W8 ⟨rfl, hb⟩
  have HY := Lib.hid (Bx.new 23 false ⟨#[98, 99]⟩ 0 0 W8)
  have hb8 := hb.trans' (below_alloc W8 (.cells #[.bool false, .string ⟨#[98, 99]⟩, .int .i64 0, .int .i64 0] 23))
  have HX8 := Lib.hid (HX.out.below hb8)
  have HB8 := Lib.hid (HB7.out.trans' hb8)
  clear hb hb8 A7 HB7 HX
  go_wp2_with fail
  generalize W8.alloc (.cells #[.bool false, .string ⟨#[98, 99]⟩, .int .i64 0, .int .i64 0] 23) = V8 at *
  refine (Tells.at A8.out (Below.refl V8.heap.size V8)).mono ?_
  rintro e W9 ⟨rfl, hb⟩
  have HC9 := Lib.hid hb
  clear hb A8
  go_wp2_with fail
  refine (Tells.at A9.out HC9.out).mono ?_
  rintro e W10 ⟨rfl, hb⟩
  have HC10 := Lib.hid hb
  clear hb A9 HC9
  go_wp2_with fail
  refine (Tells.at A10.out HC10.out).mono ?_
  rintro e W11 ⟨rfl, hb⟩
  have HC11 := Lib.hid (hb.trans' (below_alloc W11 (.cells #[.bool false, .string ⟨#[]⟩, .int .i64 0, .int .i64 0] 23)))
  clear hb A10 HC10
  go_wp2_with fail
  refine (Tells.at A11.out HC11.out).mono ?_
  rintro e W12 ⟨rfl, hb⟩
  have HC12 := Lib.hid (hb.trans' (below_alloc W12 (.cells #[.bool false, .string ⟨#[]⟩, .int .i64 0, .int .i64 0] 23)))
  clear hb A11 HC11
  have HSC : Hid (∀ V, Below V8.heap.size V8 V → Hid (Below V8.heap.size V8 V) ∧ V.cell? ⟨W7.heap.size, 0, none⟩ = some (.bool true) ∧ V.cell? ⟨W7.heap.size, 1, none⟩ = some (.string ⟨#[]⟩) ∧ V.cell? ⟨W7.heap.size, 2, none⟩ = some (.int .i64 241) ∧ V.cell? ⟨W7.heap.size, 3, none⟩ = some (.int .i64 258) ∧ V.cell? ⟨W8.heap.size, 0, none⟩ = some (.bool false) ∧ V.cell? ⟨W8.heap.size, 1, none⟩ = some (.string ⟨#[98, 99]⟩)) := Lib.hid (fun V hb => by
    obtain ⟨x0, x1, x2, x3⟩ := (HX8.out.below hb).cells
    obtain ⟨y0, y1, _, _⟩ := (HY.out.below hb).cells
    exact ⟨Lib.hid hb, x0, x1, x2, x3, y0, y1⟩)
  obtain ⟨_, x0, x1, x2, x3, y0, y1⟩ := HSC.out _ HC12.out
  clear HX8 HY
  go_wp2_with fail
  refine (Tells.at R1.out HC12.out).mono ?_
  rintro e X1 ⟨rfl, hb⟩
  have HX1 := Lib.hid hb
  clear hb
  go_wp2_with fail
  refine (Tells.at R2.out HX1.out).mono ?_
  rintro e X2 ⟨rfl, hb⟩
  have HX2 := Lib.hid hb
  clear hb
  go_wp2_with fail
  refine (Tells.at R3.out HX2.out).mono ?_
  rintro e X3 ⟨rfl, hb⟩
  go_wp2_with fail
  go_ret
  exact ⟨rfl, HB8.out.trans' hb⟩
end Go.Proofs.Ytppnchjmbeinkaa
