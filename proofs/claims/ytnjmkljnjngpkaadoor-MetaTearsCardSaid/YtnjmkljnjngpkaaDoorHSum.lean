/-
  Walks of package sum: sumBehind by the table; Table.
-/
import Derived.Test.YtnjmkljnjngpkaaDoorSTab
namespace Go.Proofs.YtnjmkljnjngpkaaDoor.L7
open Go.RowKit

theorem inv32 (c : Nat) (hc : c < 4294967296) : bits .xor .u32 IntKind.u32.max (c : Int) = (SP.inv c : Nat) := xor32 4294967295 c (by omega) hc

theorem take_snoc (s : ByteArray) (k : Nat) (h : k < s.size) : s.data.toList.take (k + 1) = s.data.toList.take k ++ [s[k]] := by
  rw [List.take_succ_eq_append_getElem (by simpa using h)]; rfl

theorem run_next (r : Nat) (s : ByteArray) (k : Nat) (h : k < s.size) : SP.one (SP.run r (s.data.toList.take k)) s[k] = SP.run r (s.data.toList.take (k + 1)) := by
  rw [take_snoc s k h, SP.run_snoc]

theorem take_all (s : ByteArray) : s.data.toList.take s.size = s.data.toList := List.take_of_length_le (by simp)

set_option maxHeartbeats 400000 in
theorem sumBehind_tab (c : Nat) (s : ByteArray) (w : World) (hc : c < 4294967296) (hs : s.size ≤ maxLen) :
    Calls Tryd.prog 62 #[.int .u32 c, .string s, .func (.func 63) #[] #[]] w fun e w' => e = .returned (.int .u32 (SP.more c s.data.toList : Nat)) ∧ Below w.heap.size w w' := by
  unfold maxLen at hs
  have hx := inv32 c hc
  have hi := SP.inv_lt c hc
  have HM := Lib.hid (show SP.more c s.data.toList = SP.inv (SP.run (SP.inv c) s.data.toList) from rfl)
  rw [HM.out]
  generalize SP.inv c = r at hx hi
  clear HM
  go_enter Tryd.func62, Tryd.ntmps62
  go_wp2_with fail
  refine (byTable_any r _).mono ?_
  rintro e w1 ⟨q, hq, rfl, h0, h1, hb1⟩
  have H0 := Lib.hid h0
  have H1 := Lib.hid h1
  clear h0 h1
  go_wp2_with fail
  go_loopw [7, 17] (fun g i wr => ∃ k : Nat, k ≤ s.size ∧ i = .int .i64 k ∧ g = .int .u32 (SP.run r (s.data.toList.take k) : Nat) ∧ Hid (wr.heap[w.heap.size]? = some (.cells #[.int .u32 (SP.run r (s.data.toList.take k) : Nat)] 48 (0, 0))) ∧ Hid (wr.heap[q]? = some (.cells (tab 256) 127 (0, 0))) ∧ Below w.heap.size w wr) (fun _ i _ => s.size - (intOf i).toNat)
  case atStart => exact ⟨0, Nat.zero_le _, rfl, rfl, H0, H1, hb1⟩
  case round =>
    obtain ⟨k, hk, rfl, rfl, hh, hqq, hb⟩ := hrel
    clear hx
    have hlt := SP.run_lt (s.data.toList.take k) r hi
    by_cases h : k < s.size
    · have HN := Lib.hid (run_next r s k h)
      revert hh hlt HN
      generalize SP.run r (s.data.toList.take k) = R
      intro hh hlt HN
      go_wp2_with fail
      refine (takeTab s[k] R w.heap.size q wr hlt hh hqq).mono ?_
      rintro e w2 ⟨rfl, hh2, hw2⟩
      rw [HN.out] at hh2 ⊢
      go_wp2_with fail
      go_roundw
      case rel => exact ⟨k + 1, by omega, by go_num, rfl, hh2, Lib.hid ((hw2.block q (lt_of_block hqq.out) (by simp; omega)).trans hqq.out), hb.trans (hw2.below (Nat.le_refl _) hb.size)⟩
      case measure => simp [intOf]; omega
    · obtain rfl : k = s.size := by omega
      have hx := inv32 _ hlt
      rw [take_all] at hx ⊢
      go_wp2_with fail
      go_ret
      exact ⟨rfl, hb⟩

theorem table_any (s : ByteArray) (w : World) (hs : s.size ≤ maxLen) :
    Calls Tryd.prog 57 #[.string s] w fun e w' => e = .returned (.int .u32 (SP.sum s.data.toList : Nat)) ∧ Below w.heap.size w w' := by
  go_enter Tryd.func57, Tryd.ntmps57
  go_wp2_with fail
  refine (sumBehind_tab 0 s _ (by omega) hs).mono ?_
  rintro e w1 ⟨rfl, hb⟩
  go_wp2_with fail
  go_ret
  exact ⟨rfl, hb⟩

end Go.Proofs.YtnjmkljnjngpkaaDoor.L7
