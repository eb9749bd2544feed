/-
  The fixed calls of the statements of layer 2.
-/
import Derived.Test.YtepefmgdkkecaaaSJoin
namespace Go.Proofs.Ytepefmgdkkecaaa
open Go.RowKit

theorem fx0 (W : World) : Calls Try.prog 10 #[.string ⟨#[49, 50, 51, 52]⟩] W fun e w' => e = .returned (.int .u32 4131058926) ∧ Below W.heap.size W w' := by
  have h := bits_any ⟨#[49, 50, 51, 52]⟩ W (by decide +kernel)
  rw [show SP.sum (ByteArray.mk #[49, 50, 51, 52]).data.toList = 4131058926 by decide +kernel] at h
  exact h
theorem fx1 (W : World) : Calls Try.prog 10 #[.string ⟨#[53, 54, 55, 56, 57]⟩] W fun e w' => e = .returned (.int .u32 2209703384) ∧ Below W.heap.size W w' := by
  have h := bits_any ⟨#[53, 54, 55, 56, 57]⟩ W (by decide +kernel)
  rw [show SP.sum (ByteArray.mk #[53, 54, 55, 56, 57]).data.toList = 2209703384 by decide +kernel] at h
  exact h
theorem fx2 (W : World) : Calls Try.prog 10 #[.string ⟨#[49, 50, 51, 52, 53, 54, 55, 56, 57]⟩] W fun e w' => e = .returned (.int .u32 3808858755) ∧ Below W.heap.size W w' := by
  have h := bits_any ⟨#[49, 50, 51, 52, 53, 54, 55, 56, 57]⟩ W (by decide +kernel)
  rw [show SP.sum (ByteArray.mk #[49, 50, 51, 52, 53, 54, 55, 56, 57]).data.toList = 3808858755 by decide +kernel] at h
  exact h
theorem fx3 (W : World) : Calls Try.prog 11 #[.string ⟨#[49, 50, 51, 52, 53, 54, 55, 56, 57]⟩] W fun e w' => e = .returned (.int .u32 3808858755) ∧ Below W.heap.size W w' := by
  have h := table_any ⟨#[49, 50, 51, 52, 53, 54, 55, 56, 57]⟩ W (by decide +kernel)
  rw [show SP.sum (ByteArray.mk #[49, 50, 51, 52, 53, 54, 55, 56, 57]).data.toList = 3808858755 by decide +kernel] at h
  exact h
theorem fx4 (W : World) : Calls Try.prog 10 #[.string ⟨#[]⟩] W fun e w' => e = .returned (.int .u32 0) ∧ Below W.heap.size W w' := by
  have h := bits_any ⟨#[]⟩ W (by decide +kernel)
  rw [show SP.sum (ByteArray.mk #[]).data.toList = 0 by decide +kernel] at h
  exact h
theorem fx5 (W : World) : Calls Try.prog 12 #[.int .u32 4131058926, .string ⟨#[53, 54, 55, 56, 57]⟩] W fun e w' => e = .returned (.int .u32 3808858755) ∧ Below W.heap.size W w' := by
  have h := more_any 4131058926 ⟨#[53, 54, 55, 56, 57]⟩ W (by decide) (by decide +kernel)
  rw [show SP.more 4131058926 (ByteArray.mk #[53, 54, 55, 56, 57]).data.toList = 3808858755 by decide +kernel] at h
  exact h
theorem fx6 (W : World) : Calls Try.prog 14 #[.int .u32 4131058926, .int .u32 2209703384, .int .i64 5] W fun e w' => e = .returned (.int .u32 3808858755) ∧ Below W.heap.size W w' := by
  have h := join_any 4131058926 2209703384 5 W (by decide) (by decide)
  rw [show SP.join 4131058926 2209703384 (clampN 5) = 3808858755 by decide +kernel] at h
  exact h
theorem fx7 (W : World) : Calls Try.prog 14 #[.int .u32 4131058926, .int .u32 0, .int .i64 0] W fun e w' => e = .returned (.int .u32 4131058926) ∧ Below W.heap.size W w' := by
  have h := join_any 4131058926 0 0 W (by decide) (by decide)
  rw [show SP.join 4131058926 0 (clampN 0) = 4131058926 by decide +kernel] at h
  exact h
theorem fx8 (W : World) : Calls Try.prog 14 #[.int .u32 4131058926, .int .u32 2209703384, .int .i64 (-3)] W fun e w' => e = .returned (.int .u32 1972343094) ∧ Below W.heap.size W w' := by
  have h := join_any 4131058926 2209703384 (-3) W (by decide) (by decide)
  rw [show SP.join 4131058926 2209703384 (clampN (-3)) = 1972343094 by decide +kernel] at h
  exact h

set_option maxHeartbeats 1000000 in
set_option maxRecDepth 100000 in
theorem fixed_any (w : World) : Calls Try.prog 16 #[] w fun e w' => e = .returned (.bool true) ∧ Below w.heap.size w w' := by
  have hx : bits .xor .u32 4131058926 2209703384 = 1972343094 := by decide +kernel
  go_enter Try.func16, Try.ntmps16
  go_wp2_with fail
  refine (fx0 _).mono ?_
  rintro e w1 ⟨rfl, hb1⟩
  go_wp2_with fail
  refine (fx1 _).mono ?_
  rintro e w2 ⟨rfl, hb2⟩
  go_wp2_with fail
  refine (fx2 _).mono ?_
  rintro e w3 ⟨rfl, hb3⟩
  go_wp2_with fail
  refine (fx3 _).mono ?_
  rintro e w4 ⟨rfl, hb4⟩
  go_wp2_with fail
  refine (fx4 _).mono ?_
  rintro e w5 ⟨rfl, hb5⟩
  go_wp2_with fail
  refine (fx5 _).mono ?_
  rintro e w6 ⟨rfl, hb6⟩
  go_wp2_with fail
  refine (fx6 _).mono ?_
  rintro e w7 ⟨rfl, hb7⟩
  go_wp2_with fail
  refine (fx7 _).mono ?_
  rintro e w8 ⟨rfl, hb8⟩
  go_wp2_with fail
  refine (fx8 _).mono ?_
  rintro e w9 ⟨rfl, hb9⟩
  go_wp2_with fail
  go_ret
  exact ⟨rfl, ((((((((hb1.trans' hb2).trans' hb3).trans' hb4).trans' hb5).trans' hb6).trans' hb7).trans' hb8).trans' hb9)⟩

end Go.Proofs.Ytepefmgdkkecaaa
