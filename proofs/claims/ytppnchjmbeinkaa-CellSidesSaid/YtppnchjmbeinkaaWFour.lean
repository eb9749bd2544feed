/-
  Walks of word.Four, word.Read.
-/
import Derived.Test.YtppnchjmbeinkaaWHigh
namespace Go.Proofs.Ytppnchjmbeinkaa
open Go.RowKit

set_option maxHeartbeats 400000 in
theorem four_any (n : Int) (w : World) (h0 : 0 ≤ n) (h1 : n ≤ 4294967295) :
    Calls Try.prog 26 #[.int .u32 n] w fun e w' => e = .returned (.string ⟨(Lib.leBytes 4 n.toNat).toArray⟩) ∧ Below w.heap.size w w' := by
  go_enter Try.func26, Try.ntmps26
  go_wp2
  go_loopw [5] (fun i wr => ∃ k : Nat, k ≤ 4 ∧ i = .int .i64 k ∧ Hid (wr.heap[w.heap.size]? = some (.cells (WP.fourAt n k) 77 (0, 0))) ∧ Below w.heap.size w wr) (fun i _ => 4 - (intOf i).toNat)
  case atStart =>
    exact ⟨0, Nat.zero_le _, rfl, Lib.hid (heap_alloc_new _ _), (Below.refl _ w).alloc (Nat.le_refl _) _⟩
  case round =>
    obtain ⟨k, hk, rfl, hh, hb⟩ := hrel
    by_cases hlt : k < 4
    · have hcell : wr.cell? ⟨w.heap.size, k, none⟩ = some (.int .u8 0) := by
        rw [cell_of_row _ _ k _ _ _ hh.out]
        exact WP.fourAt_get n k k (Nat.le_refl _) hlt
      have hfr := frozen_of_row _ _ k _ _ hh.out
      go_wp2
      go_roundw
      case rel =>
        refine ⟨k + 1, by omega, by go_num, ?_, ?_⟩
        · have h := heap_setCell_same wr _ k _ _ (.int .u8 (n / 2 ^ (8 * k) % 256)) hh.out
          rw [WP.fourAt_succ] at h
          exact Lib.hid h
        · exact hb.setCell (Nat.le_refl _) _
      case measure => simp [intOf]; omega
    · obtain rfl : k = 4 := by omega
      obtain ⟨v, rfl⟩ := Int.eq_ofNat_of_zero_le h0
      have hcv : ∀ c, (convert 47 9 (.slice (some ⟨w.heap.size, 0, none⟩) 4 c)).run Try.prog wr = .ok (.string ⟨(Lib.leBytes 4 v).toArray⟩) wr := fun c =>
        run_convert_bytes_back (P := Try.prog) wr 47 9 5 ⟨w.heap.size, 0, none⟩ c (Lib.leBytes 4 v) Try.underlying47 Try.underlying5 Try.underlying9 (fun j hj => by
          have e := cell_of_row _ _ j _ _ _ hh.out
          rw [WP.fourAt_full v j hj] at e
          rwa [addr_at])
      go_wp2
      go_ret
      exact ⟨by simp, hb⟩

theorem Try.retTuple2 {a b c d : Value} (h : a = c) (h2 : b = d) : Ending.returned (.tuple #[a, b]) = .returned (.tuple #[c, d]) := by rw [h, h2]

set_option maxHeartbeats 400000 in
theorem read_any (s : ByteArray) (i : Int) (w : World) (h0 : 0 ≤ i) (h1 : i + 4 ≤ s.size) (h2 : s.size ≤ maxLen) :
    Calls Try.prog 47 #[.string s, .int .i64 i] w fun e w' => e = .returned (.tuple #[.int .u32 (Lib.leNat ((s.data.toList.drop i.toNat).take 4)), .int .i64 0]) ∧ w = w' := by
  obtain ⟨a, rfl⟩ := Int.eq_ofNat_of_zero_le h0
  unfold maxLen at h2
  have d1 : decide ((a : Int) < 0) = false := decide_eq_false (by omega)
  have d2 : decide (s.size < a) = false := decide_eq_false (by omega)
  have d3 : decide ((s.size : Int) - a < 4) = false := decide_eq_false (by omega)
  go_enter Try.func47, Try.ntmps47
  go_wp2
  go_loop [6, 21] (fun n i => ∃ k : Nat, k ≤ 4 ∧ i = .int .i64 k ∧ n = .int .u32 (Lib.leNat ((s.data.toList.drop a).take k) : Nat)) (fun _ i => 4 - (intOf i).toNat)
  case atStart => exact ⟨0, Nat.zero_le _, rfl, rfl⟩
  case round =>
    obtain ⟨k, hk, rfl, rfl⟩ := hrel
    by_cases hlt : k < 4
    · have HO := Lib.hid (WP.rd_step s a k (by omega) hlt)
      go_wp2
      go_round
      case rel =>
        refine ⟨k + 1, by omega, by go_num, ?_⟩
        rw [← HO.out]
      case measure => simp [intOf]; omega
    · obtain rfl : k = 4 := by omega
      go_wp2
      go_ret2
      exact ⟨rfl, rfl⟩

set_option maxHeartbeats 400000 in
theorem read_arg (s : ByteArray) (i : Int) (w : World) (h1 : i < 0 ∨ (s.size : Int) < i) (h2 : s.size ≤ maxLen) :
    Calls Try.prog 47 #[.string s, .int .i64 i] w fun e w' => e = .returned (.tuple #[.int .u32 0, .int .i64 4]) ∧ w = w' := by
  unfold maxLen at h2
  rcases h1 with h1 | h1
  all_goals
    go_enter Try.func47, Try.ntmps47
    go_wp2
    go_ret2
    exact ⟨rfl, rfl⟩

set_option maxHeartbeats 400000 in
theorem read_short (s : ByteArray) (i : Int) (w : World) (h0 : 0 ≤ i) (h1 : i ≤ s.size) (h3 : (s.size : Int) < i + 4) :
    Calls Try.prog 47 #[.string s, .int .i64 i] w fun e w' => e = .returned (.tuple #[.int .u32 0, .int .i64 7]) ∧ w = w' := by
  go_enter Try.func47, Try.ntmps47
  go_wp2
  go_ret2
  exact ⟨rfl, rfl⟩

end Go.Proofs.Ytppnchjmbeinkaa
