/-
  Walk of sum.Join.
-/
import Derived.Test.YtepefmgdkkecaaaSRuns
import Derived.Test.YtepefmgdkkecaaaShelf
import Derived.Lib.Repeat
namespace Go.Proofs.Ytepefmgdkkecaaa
open Go.RowKit

theorem _root_.Go.RowKit.Below.trans' {w a b : World} (h : Below w.heap.size w a) (k : Below a.heap.size a b) : Below w.heap.size w b := h.trans (k.mono h.size)
theorem zeros_repeat (m : Nat) : Lib.repeatL [0] m = List.replicate m 0 := by
  have h := Lib.repeatL_replicate 0 1 m
  rw [Nat.mul_one] at h
  exact h

/-- How many bytes 0 Join takes. -/
def clampN (n : Int) : Nat := (min (max n 0) 100000).toNat
theorem clampN_le (n : Int) : clampN n ≤ 100000 := by unfold clampN; omega
theorem clampN_of (n : Nat) (h : n ≤ 100000) : clampN n = n := by unfold clampN; omega

/-- n bytes 0, as a string that is not looked into. -/
def Zeros (m : Nat) (w : World) (e : Ending) (w' : World) : Prop := ∃ Z : ByteArray, Z.data.toList = List.replicate m 0 ∧ e = .returned (.string Z) ∧ Below w.heap.size w w'
theorem repeat_zeros (m : Nat) (w : World) (hm : m ≤ 100000) :
    Calls Try.prog 22 #[.string ⟨#[0]⟩, .int .i64 m] w (Zeros m w) :=
  (Try.strings_Repeat ⟨#[0]⟩ m w (by omega) (by show 1 * m ≤ _; omega)).mono fun e w' ⟨he, hw⟩ => ⟨_, by show (Lib.repeatL [0] m) = _; exact zeros_repeat m, he, hw⟩

set_option maxHeartbeats 400000 in
theorem join_any (a b : Nat) (n : Int) (w : World) (ha : a < 4294967296) (hb : b < 4294967296) :
    Calls Try.prog 14 #[.int .u32 a, .int .u32 b, .int .i64 n] w fun e w' => e = .returned (.int .u32 (SP.join a b (clampN n) : Nat)) ∧ Below w.heap.size w w' := by
  have hm := clampN_le n
  have e1 : min (max n 0) 100000 = (clampN n : Int) := by unfold clampN; omega
  generalize clampN n = m at hm e1
  go_enter Try.func14, Try.ntmps14
  go_wp2_with fail
  refine (repeat_zeros m _ hm).mono ?_
  rintro e w1 ⟨Z, hZ, rfl, hb1⟩
  have hzs : Z.size = m := by have h := congrArg List.length hZ; simpa using h
  have hzl : Z.size ≤ maxLen := by unfold maxLen; omega
  have HJ := Lib.hid (SP.join_made a b Z.data.toList)
  have HZ := Lib.hid hZ
  have hx1 := xor32 b (SP.more a Z.data.toList) hb (SP.more_lt _ _ ha)
  have hx2 := xor32 (b ^^^ SP.more a Z.data.toList) (SP.sum Z.data.toList) (SP.xor_lt _ _ hb (SP.more_lt _ _ ha)) (SP.sum_lt _)
  clear hZ hzs e1
  go_wp2_with fail
  refine (more_any a Z _ ha hzl).mono ?_
  rintro e w2 ⟨rfl, hb2⟩
  go_wp2_with fail
  refine (table_any Z _ hzl).mono ?_
  rintro e w3 ⟨rfl, hb3⟩
  go_wp2_with fail
  go_ret
  refine ⟨?_, (hb1.trans' hb2).trans' hb3⟩
  have h := HJ.out
  rw [HZ.out, List.length_replicate] at h
  rw [← h, ← HZ.out]
  rfl

end Go.Proofs.Ytepefmgdkkecaaa
