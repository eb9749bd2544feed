import Derived.Test.YtpeghilfldpgfaaGreatDoorChecked
import Derived.ProofKit
import Derived.Below
import Derived.Lib.Walk
import Derived.Lib.BitFns
set_option linter.unusedVariables false
set_option linter.unusedSimpArgs false
set_option maxHeartbeats 8000000
set_option maxRecDepth 100000
namespace Go.Proofs.YtpeghilfldpgfaaGreatDoor.L9
theorem ret_int {k : IntKind} {a b : Int} (h : a = b) : Ending.returned (.int k a) = .returned (.int k b) := by rw [h]
theorem len_way (k : Nat) (x y : Int) (h0 : 0 ≤ x) (hk : k ≤ 7) (hlt : x < 2 ^ (8 * k + 8)) (hge : k = 0 ∨ 2 ^ (8 * k) ≤ x) (hy : y = x / 2 ^ (8 * k)) : Lib.len8 y + 8 * k = (Lib.bitLen x.toNat : Int) ∧ 0 ≤ Lib.len8 y ∧ Lib.len8 y ≤ 8 := by
 obtain ⟨n, rfl⟩ := Int.eq_ofNat_of_zero_le h0
 have hn : n < 2 ^ (8 * k + 8) := by exact_mod_cast hlt
 have hy' : y = ((n / 2 ^ (8 * k) : Nat) : Int) := by rw [hy]; push_cast; rfl
 have hb : n / 2 ^ (8 * k) < 256 := Nat.div_lt_of_lt_mul (by rw [Nat.pow_add] at hn; exact hn); have h64 : n < 2 ^ 64 := Nat.lt_of_lt_of_le hn (Nat.pow_le_pow_right (by omega) (by omega)); have h8 := Lib.bitLen_le8 ⟨n / 2 ^ (8 * k), hb⟩; have hl := Lib.len8_of ((n / 2 ^ (8 * k) : Nat) : Int) (Int.natCast_nonneg _) (by omega); rw [Int.toNat_natCast] at hl; rw [hy', hl, Int.toNat_natCast]; refine ⟨?_, Int.natCast_nonneg _, by exact_mod_cast h8⟩; rcases hge with rfl | hge
 ·simp
 ·have hge' : 2 ^ (8 * k) ≤ n := by exact_mod_cast hge
  rw [Lib.bitLen_shift (8 * k) n hge' h64]; omega
theorem len64_any (x : Int) (w : World) (h0 : 0 ≤ x) (h1 : x ≤ 18446744073709551615) :
  Calls Tryz.prog 212 #[.int .u64 x] w fun e w' => e = .returned (.int .i64 (Lib.bitLen x.toNat)) ∧ w = w' := by
 go_enter Tryz.func212, Tryz.ntmps212
 go_wp2
 all_goals (go_ret; refine ⟨ret_int ?_, rfl⟩)
 all_goals first
  | (have l := len_way 7 x (x / 4294967296 / 65536 / 256 % 256) h0 (by omega) (by omega) (by omega) (by omega); omega)
  | (have l := len_way 6 x (x / 4294967296 / 65536 % 256) h0 (by omega) (by omega) (by omega) (by omega); omega)
  | (have l := len_way 5 x (x / 4294967296 / 256 % 256) h0 (by omega) (by omega) (by omega) (by omega); omega)
  | (have l := len_way 4 x (x / 4294967296 % 256) h0 (by omega) (by omega) (by omega) (by omega); omega)
  | (have l := len_way 3 x (x / 65536 / 256 % 256) h0 (by omega) (by omega) (by omega) (by omega); omega)
  | (have l := len_way 2 x (x / 65536 % 256) h0 (by omega) (by omega) (by omega) (by omega); omega)
  | (have l := len_way 1 x (x / 256 % 256) h0 (by omega) (by omega) (by omega) (by omega); omega)
  | (have l := len_way 0 x (x % 256) h0 (by omega) (by omega) (by omega) (by omega); omega)
end Go.Proofs.YtpeghilfldpgfaaGreatDoor.L9
