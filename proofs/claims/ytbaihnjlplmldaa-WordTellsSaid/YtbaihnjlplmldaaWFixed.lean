/-
  The fixed calls of the statements of layer 1: each answers as the document fixes it, so the conjunction is true.
-/
import Derived.Test.YtbaihnjlplmldaaWGet
import Derived.Test.YtbaihnjlplmldaaWFour
namespace Go.Proofs.Ytbaihnjlplmldaa
open Go.RowKit

theorem _root_.Go.RowKit.Below.trans' {w a b : World} (h : Below w.heap.size w a) (k : Below a.heap.size a b) : Below w.heap.size w b := h.trans (k.mono h.size)

theorem fx0 (W : World) : Calls Try.prog 10 #[.string ⟨#[120, 241, 1, 121]⟩, .int .i64 1] W fun e w' => e = .returned (.tuple #[.int .u64 241, .int .i64 3, .int .i64 0]) ∧ Below W.heap.size W w' := by
  have h := get_any ⟨#[120, 241, 1, 121]⟩ 1 W (by decide) (by decide +kernel) (by decide +kernel)
  rw [show WP.get (⟨#[120, 241, 1, 121]⟩ : ByteArray).data.toList (Int.toNat 1) = (241, 3, 0) by decide +kernel] at h
  exact h
theorem fx1 (W : World) : Calls Try.prog 10 #[.string ⟨#[250, 0, 0, 1]⟩, .int .i64 0] W fun e w' => e = .returned (.tuple #[.int .u64 0, .int .i64 0, .int .i64 3]) ∧ Below W.heap.size W w' := by
  have h := get_any ⟨#[250, 0, 0, 1]⟩ 0 W (by decide) (by decide +kernel) (by decide +kernel)
  rw [show WP.get (⟨#[250, 0, 0, 1]⟩ : ByteArray).data.toList (Int.toNat 0) = (0, 0, 3) by decide +kernel] at h
  exact h
theorem fx2 (W : World) : Calls Try.prog 10 #[.string ⟨#[250, 0]⟩, .int .i64 0] W fun e w' => e = .returned (.tuple #[.int .u64 0, .int .i64 0, .int .i64 7]) ∧ Below W.heap.size W w' := by
  have h := get_any ⟨#[250, 0]⟩ 0 W (by decide) (by decide +kernel) (by decide +kernel)
  rw [show WP.get (⟨#[250, 0]⟩ : ByteArray).data.toList (Int.toNat 0) = (0, 0, 7) by decide +kernel] at h
  exact h
theorem fx3 (W : World) : Calls Try.prog 10 #[.string ⟨#[]⟩, .int .i64 0] W fun e w' => e = .returned (.tuple #[.int .u64 0, .int .i64 0, .int .i64 7]) ∧ Below W.heap.size W w' := by
  have h := get_any ⟨#[]⟩ 0 W (by decide) (by decide +kernel) (by decide +kernel)
  rw [show WP.get (⟨#[]⟩ : ByteArray).data.toList (Int.toNat 0) = (0, 0, 7) by decide +kernel] at h
  exact h
theorem fx4 (W : World) : Calls Try.prog 10 #[.string ⟨#[97]⟩, .int .i64 2] W fun e w' => e = .returned (.tuple #[.int .u64 0, .int .i64 0, .int .i64 4]) ∧ Below W.heap.size W w' := by
  exact (get_arg ⟨#[97]⟩ 2 W (by decide +kernel)).mono fun e w' ⟨h, h'⟩ => ⟨h, h' ▸ Below.refl _ _⟩
theorem fx5 (W : World) : Calls Try.prog 10 #[.string ⟨#[255, 255, 255, 255, 255, 255, 255, 255, 255]⟩, .int .i64 0] W fun e w' => e = .returned (.tuple #[.int .u64 18446744073709551615, .int .i64 9, .int .i64 0]) ∧ Below W.heap.size W w' := by
  have h := get_any ⟨#[255, 255, 255, 255, 255, 255, 255, 255, 255]⟩ 0 W (by decide) (by decide +kernel) (by decide +kernel)
  rw [show WP.get (⟨#[255, 255, 255, 255, 255, 255, 255, 255, 255]⟩ : ByteArray).data.toList (Int.toNat 0) = (18446744073709551615, 9, 0) by decide +kernel] at h
  exact h
theorem fx6 (W : World) : Calls Try.prog 10 #[.string ⟨#[251, 0, 1, 8, 240]⟩, .int .i64 0] W fun e w' => e = .returned (.tuple #[.int .u64 0, .int .i64 0, .int .i64 3]) ∧ Below W.heap.size W w' := by
  have h := get_any ⟨#[251, 0, 1, 8, 240]⟩ 0 W (by decide) (by decide +kernel) (by decide +kernel)
  rw [show WP.get (⟨#[251, 0, 1, 8, 240]⟩ : ByteArray).data.toList (Int.toNat 0) = (0, 0, 3) by decide +kernel] at h
  exact h
theorem fx7 (W : World) : Calls Try.prog 12 #[.string ⟨#[120, 1, 2, 0, 0]⟩, .int .i64 1] W fun e w' => e = .returned (.tuple #[.int .u32 513, .int .i64 0]) ∧ Below W.heap.size W w' := by
  have h := read_any ⟨#[120, 1, 2, 0, 0]⟩ 1 W (by decide) (by decide +kernel) (by decide +kernel)
  rw [show Lib.leNat (((⟨#[120, 1, 2, 0, 0]⟩ : ByteArray).data.toList.drop (Int.toNat 1)).take 4) = 513 by decide +kernel] at h
  exact h.mono fun e w' ⟨h, h'⟩ => ⟨h, h' ▸ Below.refl _ _⟩
theorem fx8 (W : World) : Calls Try.prog 12 #[.string ⟨#[97, 98, 99]⟩, .int .i64 0] W fun e w' => e = .returned (.tuple #[.int .u32 0, .int .i64 7]) ∧ Below W.heap.size W w' := by
  exact (read_short ⟨#[97, 98, 99]⟩ 0 W (by decide) (by decide +kernel) (by decide +kernel)).mono fun e w' ⟨h, h'⟩ => ⟨h, h' ▸ Below.refl _ _⟩
theorem fx9 (W : World) : Calls Try.prog 12 #[.string ⟨#[97, 98, 99]⟩, .int .i64 (-1)] W fun e w' => e = .returned (.tuple #[.int .u32 0, .int .i64 4]) ∧ Below W.heap.size W w' := by
  exact (read_arg ⟨#[97, 98, 99]⟩ (-1) W (by decide +kernel) (by decide +kernel)).mono fun e w' ⟨h, h'⟩ => ⟨h, h' ▸ Below.refl _ _⟩
theorem fx10 (W : World) : Calls Try.prog 14 #[.int .u64 240] W fun e w' => e = .returned (.string ⟨#[240]⟩) ∧ Below W.heap.size W w' := by
  have h := put_any 240 W (by decide) (by decide)
  rw [show WP.put (Int.toNat 240) = [240] by decide +kernel] at h
  exact h
theorem fx11 (W : World) : Calls Try.prog 14 #[.int .u64 241] W fun e w' => e = .returned (.string ⟨#[241, 1]⟩) ∧ Below W.heap.size W w' := by
  have h := put_any 241 W (by decide) (by decide)
  rw [show WP.put (Int.toNat 241) = [241, 1] by decide +kernel] at h
  exact h
theorem fx12 (W : World) : Calls Try.prog 14 #[.int .u64 2287] W fun e w' => e = .returned (.string ⟨#[248, 255]⟩) ∧ Below W.heap.size W w' := by
  have h := put_any 2287 W (by decide) (by decide)
  rw [show WP.put (Int.toNat 2287) = [248, 255] by decide +kernel] at h
  exact h
theorem fx13 (W : World) : Calls Try.prog 14 #[.int .u64 2288] W fun e w' => e = .returned (.string ⟨#[249, 0, 0]⟩) ∧ Below W.heap.size W w' := by
  have h := put_any 2288 W (by decide) (by decide)
  rw [show WP.put (Int.toNat 2288) = [249, 0, 0] by decide +kernel] at h
  exact h
theorem fx14 (W : World) : Calls Try.prog 14 #[.int .u64 67823] W fun e w' => e = .returned (.string ⟨#[249, 255, 255]⟩) ∧ Below W.heap.size W w' := by
  have h := put_any 67823 W (by decide) (by decide)
  rw [show WP.put (Int.toNat 67823) = [249, 255, 255] by decide +kernel] at h
  exact h
theorem fx15 (W : World) : Calls Try.prog 14 #[.int .u64 67824] W fun e w' => e = .returned (.string ⟨#[250, 1, 8, 240]⟩) ∧ Below W.heap.size W w' := by
  have h := put_any 67824 W (by decide) (by decide)
  rw [show WP.put (Int.toNat 67824) = [250, 1, 8, 240] by decide +kernel] at h
  exact h
theorem fx16 (W : World) : Calls Try.prog 17 #[.int .u32 513] W fun e w' => e = .returned (.string ⟨#[1, 2, 0, 0]⟩) ∧ Below W.heap.size W w' := by
  have h := four_any 513 W (by decide) (by decide)
  rw [show Lib.leBytes 4 (Int.toNat 513) = [1, 2, 0, 0] by decide +kernel] at h
  exact h
theorem fx17 (W : World) : Calls Try.prog 16 #[.int .u64 67824] W fun e w' => e = .returned (.int .i64 4) ∧ Below W.heap.size W w' := by
  have h := size_any 67824 W (by decide) (by decide)
  rw [show WP.size (Int.toNat 67824) = 4 by decide +kernel] at h
  exact h.mono fun e w' ⟨h, h'⟩ => ⟨h, h' ▸ Below.refl _ _⟩

set_option maxHeartbeats 1000000 in
set_option maxRecDepth 100000 in
theorem fixed_any (w : World) : Calls Try.prog 19 #[] w fun e w' => e = .returned (.bool true) ∧ Below w.heap.size w w' := by
  go_enter Try.func19, Try.ntmps19
  go_wp2_with fail
  refine (fx0 _).mono ?_
  rintro e w1 ⟨rfl, hb1⟩
  go_wp2_with fail
  refine (fx1 _).mono ?_
  rintro e w2 ⟨rfl, hb2⟩
  go_wp2_with fail
  refine (fx2 _).mono ?_
  rintro e w3 ⟨rfl, hb3⟩
  go_wp2_with fail
  refine (fx3 _).mono ?_
  rintro e w4 ⟨rfl, hb4⟩
  go_wp2_with fail
  refine (fx4 _).mono ?_
  rintro e w5 ⟨rfl, hb5⟩
  go_wp2_with fail
  refine (fx5 _).mono ?_
  rintro e w6 ⟨rfl, hb6⟩
  go_wp2_with fail
  refine (fx6 _).mono ?_
  rintro e w7 ⟨rfl, hb7⟩
  go_wp2_with fail
  refine (fx7 _).mono ?_
  rintro e w8 ⟨rfl, hb8⟩
  go_wp2_with fail
  refine (fx8 _).mono ?_
  rintro e w9 ⟨rfl, hb9⟩
  go_wp2_with fail
  refine (fx9 _).mono ?_
  rintro e w10 ⟨rfl, hb10⟩
  go_wp2_with fail
  refine (fx10 _).mono ?_
  rintro e w11 ⟨rfl, hb11⟩
  go_wp2_with fail
  refine (fx11 _).mono ?_
  rintro e w12 ⟨rfl, hb12⟩
  go_wp2_with fail
  refine (fx12 _).mono ?_
  rintro e w13 ⟨rfl, hb13⟩
  go_wp2_with fail
  refine (fx13 _).mono ?_
  rintro e w14 ⟨rfl, hb14⟩
  go_wp2_with fail
  refine (fx14 _).mono ?_
  rintro e w15 ⟨rfl, hb15⟩
  go_wp2_with fail
  refine (fx15 _).mono ?_
  rintro e w16 ⟨rfl, hb16⟩
  go_wp2_with fail
  refine (fx16 _).mono ?_
  rintro e w17 ⟨rfl, hb17⟩
  go_wp2_with fail
  refine (fx17 _).mono ?_
  rintro e w18 ⟨rfl, hb18⟩
  go_wp2_with fail
  go_ret
  refine ⟨rfl, ?_⟩
  exact (((((((((((((((((hb1.trans' hb2).trans' hb3).trans' hb4).trans' hb5).trans' hb6).trans' hb7).trans' hb8).trans' hb9).trans' hb10).trans' hb11).trans' hb12).trans' hb13).trans' hb14).trans' hb15).trans' hb16).trans' hb17).trans' hb18)

end Go.Proofs.Ytbaihnjlplmldaa
