/-
  Walk of word.highFirst.
-/
import Derived.Test.YtppnchjmbeinkaaChecked
import Derived.ProofKit
import Derived.Below
import Derived.Test.YtppnchjmbeinkaaWPlain
import Derived.WalkKit
import Derived.WalkSpells
import Derived.WalkLawsBesides
import Derived.Laws.BytesArg
import Derived.Laws.IdiomStrings
import Derived.Lib.Hide
namespace Go.Proofs.Ytppnchjmbeinkaa
open Go.RowKit

theorem Try.infoU8 : (Try.prog.info? 5).map (fun i => (i.zero, i.size, i.bytes)) = some (some (.int .u8 0), 1, 1) := by kernel_rfl

theorem addr_at (b j : Nat) : (⟨b, 0, none⟩ : Addr).add j = ⟨b, j, none⟩ := by
  unfold Addr.add
  split <;> simp_all
theorem made_zeros (m : Nat) : (madeCells (Value.int .u8 0).cells (m * 1)).toList = List.replicate m (.int .u8 0) := by
  apply List.ext_getElem
  · simp [madeCells]
  · intro i h1 h2
    simp [madeCells, Value.cells, Nat.mod_one]

set_option maxHeartbeats 400000 in
theorem highFirst_any (n c : Int) (w : World) (h0 : 0 ≤ n) (h1 : n ≤ 18446744073709551615) (hc0 : 1 ≤ c) (hc1 : c ≤ 8) :
    Calls Try.prog 44 #[.int .u64 n, .int .i64 c] w fun e w' => e = .returned (.string ⟨(Lib.beBytes c.toNat n.toNat).toArray⟩) ∧ Below w.heap.size w w' := by
  obtain ⟨m, rfl⟩ := Int.eq_ofNat_of_zero_le (show 0 ≤ c by omega)
  obtain ⟨i0, hi, hz0, hz1, hz2⟩ := info_parts Try.infoU8
  go_enter Try.func44, Try.ntmps44
  go_wp2_with (at_make; refine wpList_make_full _ rfl _ _ 47 rfl w.heap.size 5 i0 (.int .u8 0) 1 Try.underlying47 hi hz0 hz1 _ _ _ _ m rfl rfl rfl rfl (by rw [hz2]; omega) (by unfold maxLen; omega) (Nat.le_refl _) ?_; intro w1 hown1 hg1)
  go_loopw [10] (fun i wr => ∃ k : Nat, k ≤ m ∧ i = .int .i64 k ∧ wr.ownsRow w.heap.size 5 1 (.slice (some ⟨w.heap.size, 0, none⟩) m m) m (WP.cellsAt n m k) ∧ Below w.heap.size w wr) (fun i _ => m - (intOf i).toNat)
  case atStart =>
    refine ⟨0, Nat.zero_le _, rfl, ?_, (Below.refl _ w).grown hg1 (Nat.le_refl _) (by simp)⟩
    rw [WP.cellsAt_zero]
    rwa [made_zeros] at hown1
  case round =>
    obtain ⟨k, hk, rfl, hown, hb⟩ := hrel
    by_cases hlt : k < m
    · have hcell : wr.cell? ⟨w.heap.size, k, none⟩ = some (.int .u8 0) := by
        rw [hown.cellAt k (by omega)]
        simp [WP.cellsAt, hlt]
      have hfr := hown.frozenAt k
      go_wp2
      go_roundw
      case rel =>
        refine ⟨k + 1, by omega, by go_num, ?_, ?_⟩
        · have h := (hown.stored k (.int .u8 (n / 2 ^ (8 * (m - 1 - k)) % 256))).1
          rwa [WP.cellsAt_succ] at h
        · exact hb.setCell (Nat.le_refl _) _
      case measure => simp [intOf]; omega
    · obtain rfl : k = m := by omega
      obtain ⟨v, rfl⟩ := Int.eq_ofNat_of_zero_le h0
      have hcv : (convert 47 9 (.slice (some ⟨w.heap.size, 0, none⟩) k k)).run Try.prog wr = .ok (.string ⟨(Lib.beBytes k v).toArray⟩) wr := by
        have h := run_convert_bytes_back (P := Try.prog) wr 47 9 5 ⟨w.heap.size, 0, none⟩ k (Lib.beBytes k v) Try.underlying47 Try.underlying5 Try.underlying9 (fun j hj => by
          have hj' : j < k := by simpa [Lib.beBytes_length] using hj
          have e := hown.cellAt j (by omega)
          rw [WP.cellsAt_full v k j hj] at e
          rwa [addr_at])
        rwa [Lib.beBytes_length] at h
      go_wp2
      go_ret
      exact ⟨by simp, hb⟩

end Go.Proofs.Ytppnchjmbeinkaa
