/-
  Walks of the program's read, of strings.Clone.
-/
import Derived.Test.YtnjmkljnjngpkaaDoorHSeal
import Derived.Lib.BitFns
import Derived.Laws.BitsAllLaws
namespace Go.Proofs.YtnjmkljnjngpkaaDoor.L7
open Go.RowKit
set_option linter.unusedVariables false
set_option linter.unusedSimpArgs false

theorem mask32 (v : Nat) (h : v < 4294967296) : bits .and .u32 (v : Int) 255 = ((v % 256 : Nat) : Int) := by
  have e := u32_and_nat v 255 h (by omega)
  rw [show (255 : Int) = ((255 : Nat) : Int) from rfl, e, show (255 : Nat) = 2 ^ 8 - 1 from rfl, Nat.and_two_pow_sub_one_eq_mod]
theorem headOf_num (s : List UInt8) (hs : 12 ≤ s.length) : HP.headOf s = ⟨((Lib.leNat (s.take 4) % 256 : Nat) : Int), ((Lib.leNat (s.take 4) / 256 % 256 : Nat) : Int), ((Lib.leNat (s.take 4) / 65536 : Nat) : Int), ((Lib.leNat ((s.drop 4).take 4) : Nat) : Int), ((Lib.leNat ((s.drop 8).take 4) : Nat) : Int)⟩ := by
  obtain ⟨a, b, c, d, t, rfl⟩ : ∃ a b c d t, s = a :: b :: c :: d :: t := by
    match s, hs with
    | a :: b :: c :: d :: t, _ => exact ⟨a, b, c, d, t, rfl⟩
  have e0 : Lib.leNat ((a :: b :: c :: d :: t).take 4) = a.toNat + 256 * (b.toNat + 256 * (c.toNat + 256 * d.toNat)) := by
    simp [Lib.leNat]
  have ha := a.toNat_lt
  have hb := b.toNat_lt
  have hc := c.toNat_lt
  have hd := d.toNat_lt
  unfold HP.headOf
  rw [e0]
  simp only [List.getD_cons_zero, List.getD_cons_succ]
  congr 1 <;> omega

set_option maxHeartbeats 2000000 in
set_option maxRecDepth 100000 in
theorem headRead_any (s : ByteArray) (w : World) (h1 : 128 ≤ s.size) (h2 : s.size ≤ 1024) :
    Calls Tryd.prog 59 #[.string s] w fun e w' => e = .returned (hv (HP.headOf s.data.toList)) ∧ Below w.heap.size w w' := by
  rw [headOf_num s.data.toList (by simp; omega)]
  have HR0 := Lib.hid (fun W => read_any s 0 W (by omega) (by omega) (by unfold maxLen; omega))
  have HR4 := Lib.hid (fun W => read_any s 4 W (by omega) (by omega) (by unfold maxLen; omega))
  have HR8 := Lib.hid (fun W => read_any s 8 W (by omega) (by omega) (by unfold maxLen; omega))
  rw [show ((0 : Int)).toNat = 0 from rfl, List.drop_zero] at HR0
  rw [show ((4 : Int)).toNat = 4 from rfl] at HR4
  rw [show ((8 : Int)).toNat = 8 from rfl] at HR8
  have b0 : Lib.leNat (s.data.toList.take 4) < 4294967296 := Nat.lt_of_lt_of_le (WP.leNat_lt _) (by rw [show (4294967296 : Nat) = 256 ^ 4 from rfl]; exact Nat.pow_le_pow_right (by omega) (by simp; omega))
  have b4 : Lib.leNat ((s.data.toList.drop 4).take 4) < 4294967296 := Nat.lt_of_lt_of_le (WP.leNat_lt _) (by rw [show (4294967296 : Nat) = 256 ^ 4 from rfl]; exact Nat.pow_le_pow_right (by omega) (by simp; omega))
  have b8 : Lib.leNat ((s.data.toList.drop 8).take 4) < 4294967296 := Nat.lt_of_lt_of_le (WP.leNat_lt _) (by rw [show (4294967296 : Nat) = 256 ^ 4 from rfl]; exact Nat.pow_le_pow_right (by omega) (by simp; omega))
  generalize Lib.leNat (s.data.toList.take 4) = n at *
  generalize Lib.leNat ((s.data.toList.drop 4).take 4) = r at *
  generalize Lib.leNat ((s.data.toList.drop 8).take 4) = f at *
  have m0 : bits .and .u32 (n : Int) 255 = (n : Int) % 256 := by rw [mask32 n b0]; omega
  have m1 : bits .and .u32 ((n : Int) / 256) 255 = (n : Int) / 256 % 256 := by
    have e := mask32 (n / 256) (by omega)
    rw [show ((n / 256 : Nat) : Int) = (n : Int) / 256 by omega] at e
    rw [e]
    omega
  have m2 : bits .and .u32 ((n : Int) / 256 % 4294967296) 255 = (n : Int) / 256 % 256 := by
    rw [Int.emod_eq_of_lt (by omega) (by omega)]; exact m1
  unfold hv
  go_enter Tryd.func59, Tryd.ntmps59
  go_wp2_with fail
  refine (HR0.out _).mono ?_
  rintro e w1 ⟨rfl, rfl⟩
  go_wp2_with fail
  refine (HR4.out _).mono ?_
  rintro e w1 ⟨rfl, rfl⟩
  go_wp2_with fail
  refine (HR8.out _).mono ?_
  rintro e w1 ⟨rfl, rfl⟩
  go_wp2_with fail
  refine bodyPost_ret (v := .agg #[.int .i64 ((n : Int) % 256), .int .i64 ((n : Int) / 256 % 256), .int .i64 ((n : Int) / 65536), .int .i64 r, .int .i64 f]) (by simp [results, Tryd.results59, go_sem]) rfl ⟨?_, ?_⟩
  · rw [show ((n % 256 : Nat) : Int) = (n : Int) % 256 by omega, show ((n / 256 % 256 : Nat) : Int) = (n : Int) / 256 % 256 by omega, show ((n / 65536 : Nat) : Int) = (n : Int) / 65536 by omega]
  · exact below_alloc _ _
end Go.Proofs.YtnjmkljnjngpkaaDoor.L7
