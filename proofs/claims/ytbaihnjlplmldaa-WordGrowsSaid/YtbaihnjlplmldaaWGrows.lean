/-
  The walk of the law WordGrows.
-/
import Derived.Test.YtbaihnjlplmldaaWFixed
import Derived.Test.YtbaihnjlplmldaaWEdges
import Derived.Test.YtbaihnjlplmldaaFrame
namespace Go.Proofs.Ytbaihnjlplmldaa
open Go.RowKit

set_option maxHeartbeats 1000000 in
theorem wordGrows_walk (a b : Int) (w : World) (wa : (Lit.int .u64 a).wf = true) (wb : (Lit.int .u64 b).wf = true) :
    Calls Try.prog 8 #[.int .u64 a, .int .u64 b] w fun e w' => e = .returned (.bool true) ∧ Below w.heap.size w w' := by
  obtain ⟨ha0, ha1⟩ := u64_bd wa
  obtain ⟨hb0, hb1⟩ := u64_bd wb
  clear wa wb
  go_enter Try.func8, Try.ntmps8
  go_wp2_with fail
  refine (size_any _ _ (by omega) (by omega)).mono ?_
  rintro e w' ⟨rfl, rfl⟩
  go_wp2_with fail
  refine (size_any _ _ (by omega) (by omega)).mono ?_
  rintro e w' ⟨rfl, rfl⟩
  have hm : ¬ ((WP.size (max a b).toNat : Int) < WP.size (min a b).toNat) := by
    have := WP.size_mono (min a b).toNat (max a b).toNat (by omega)
    omega
  have hm2 : ¬ (WP.size (max a b).toNat < WP.size (min a b).toNat) := by omega
  have hd : decide (WP.size (max a b).toNat < WP.size (min a b).toNat) = false := decide_eq_false hm2
  go_wp2_with fail
  generalize hW : World.alloc w _ = W1
  have hb1 : Below w.heap.size w W1 := hW ▸ (Below.refl _ w).alloc (Nat.le_refl _) _
  have HC : Hid (∀ k, k < 8 → W1.cell? ⟨w.heap.size, k, none⟩ = some (.int .u64 (WP.edge k))) := by
    refine Lib.hid fun k hk => ?_
    rw [← hW, cell_of_row _ _ k _ _ _ (heap_alloc_new _ _)]
    rcases (show k = 0 ∨ k = 1 ∨ k = 2 ∨ k = 3 ∨ k = 4 ∨ k = 5 ∨ k = 6 ∨ k = 7 by omega) with rfl | rfl | rfl | rfl | rfl | rfl | rfl | rfl <;> rfl
  clear hW hm hm2 hd
  go_loop [6, 7] (fun n i => ∃ k : Nat, k ≤ 8 ∧ i = .int .i64 k ∧ n = .int .i64 (WP.upTo a k : Nat)) (fun _ i => 8 - (intOf i).toNat)
  case atStart => exact ⟨0, Nat.zero_le _, rfl, rfl⟩
  case round =>
    obtain ⟨k, hk, rfl, rfl⟩ := hrel
    by_cases hlt : k < 8
    · obtain ⟨e1, e2, e3, e4⟩ := WP.edge_cases k hlt
      have hcell := HC.out k hlt
      have E3 := Lib.hid e3
      have E4 := Lib.hid e4
      have HU := Lib.hid (show WP.upTo a (k + 1) = if WP.edge k ≤ a then k + 2 else WP.upTo a k from rfl)
      clear e3 e4
      generalize WP.edge k = x at *
      go_wp2_with fail
      refine (size_any _ _ (by omega) (by omega)).mono ?_
      rintro e w' ⟨rfl, rfl⟩
      rw [E3.out]
      go_wp2_with fail
      refine (size_any _ _ (by omega) (by omega)).mono ?_
      rintro e w' ⟨rfl, rfl⟩
      rw [E4.out]
      go_wp2_with fail
      all_goals
        go_round
        case rel => exact ⟨k + 1, by omega, by go_num, by rw [HU.out]; first | (rw [if_pos (by assumption)]; go_num) | (rw [if_neg (by omega)])⟩
        case measure => simp [intOf]; omega
    · obtain rfl : k = 8 := by omega
      rw [WP.size_upTo a ha0]
      go_wp2_with fail
      refine (size_any _ _ (by omega) (by omega)).mono ?_
      rintro e w' ⟨rfl, rfl⟩
      go_wp2_with fail
      refine (fixed_any _).mono ?_
      rintro e w2 ⟨rfl, hb2⟩
      go_wp2_with fail
      go_ret
      exact ⟨rfl, hb1.trans' hb2⟩

end Go.Proofs.Ytbaihnjlplmldaa
