/-
  Walks of word.Four, word.Read.
-/
import Derived.Test.YtnjmkljnjngpkaaDoorRows
import Derived.WalkKit
import Derived.WalkSpells
import Derived.WalkLawsBesides
import Derived.Lib.BitFns
import Derived.Lib.Endian
import Derived.Lib.EndianBits
import Derived.Lib.Strings
import Derived.Laws.BytesArg
import Derived.Laws.IdiomStrings
import Derived.Lib.Hide
namespace Go.Proofs.YtnjmkljnjngpkaaDoor.L7
open Go.RowKit
set_option linter.unusedVariables false
namespace WP
theorem leBytes_get : ∀ (k v j : Nat) (h : j < (Lib.leBytes k v).length), (Lib.leBytes k v)[j].toNat = v / 256 ^ j % 256
  | 0, v, j, h => by simp [Lib.leBytes] at h
  | k + 1, v, 0, h => by
    simp [Lib.leBytes]
  | k + 1, v, j + 1, h => by
    have h' : j < (Lib.leBytes k (v / 256)).length := by simpa [Lib.leBytes] using h
    have := leBytes_get k (v / 256) j h'
    simp only [Lib.leBytes, List.getElem_cons_succ]
    rw [this, Nat.div_div_eq_div_mul, Nat.pow_succ, Nat.mul_comm]
theorem pow_cell (v e : Nat) : ((v / 256 ^ e % 256 : Nat) : Int) = (v : Int) / 2 ^ (8 * e) % 256 := by
  rw [Int.pow_mul, Int.natCast_emod, Int.natCast_ediv, Int.natCast_pow]
  rfl
theorem take_snoc (s : ByteArray) (k : Nat) (h : k < s.size) : s.data.toList.take (k + 1) = s.data.toList.take k ++ [s[k]] := by
  rw [List.take_succ_eq_append_getElem (by simpa using h)]; rfl
/-- the four cells after k rounds -/
def fourAt (n : Int) (k : Nat) : Array Value := ((List.range 4).map fun i => if i < k then Value.int .u8 (n / 2 ^ (8 * i) % 256) else .int .u8 0).toArray
theorem fourAt_succ (n : Int) (k : Nat) : (fourAt n k).setIfInBounds k (.int .u8 (n / 2 ^ (8 * k) % 256)) = fourAt n (k + 1) := by
  unfold fourAt
  rw [List.setIfInBounds_toArray]
  congr 1
  apply List.ext_getElem
  · simp
  · intro i h1 h2
    simp only [List.getElem_set, List.getElem_map, List.getElem_range]
    by_cases h : k = i
    · subst h; simp
    · rw [if_neg h]
      by_cases h3 : i < k
      · rw [if_pos h3, if_pos (by omega)]
      · rw [if_neg h3, if_neg (by omega)]
theorem fourAt_get (n : Int) (k j : Nat) (h : k ≤ j) (hj : j < 4) : (fourAt n k)[j]? = some (.int .u8 0) := by
  unfold fourAt
  simp [hj, Nat.not_lt.2 h]
theorem fourAt_full (v j : Nat) (h : j < (Lib.leBytes 4 v).length) : (fourAt (v : Int) 4)[j]? = some (.int .u8 ((Lib.leBytes 4 v)[j].toNat : Int)) := by
  have hj : j < 4 := by simpa [Lib.leBytes_length] using h
  unfold fourAt
  simp only [List.getElem?_toArray, List.getElem?_map, List.getElem?_range hj, Option.map_some, if_pos hj]
  rw [leBytes_get, pow_cell]
theorem leNat_snoc : ∀ (l : List UInt8) (c : UInt8), Lib.leNat (l ++ [c]) = Lib.leNat l + c.toNat * 256 ^ l.length
  | [], c => by simp [Lib.leNat]
  | x :: l, c => by
    simp only [List.cons_append, Lib.leNat, leNat_snoc l c, List.length_cons, Nat.pow_succ, Nat.mul_add]
    have : 256 * (c.toNat * 256 ^ l.length) = c.toNat * (256 ^ l.length * 256) := by rw [Nat.mul_comm, Nat.mul_assoc]
    omega
theorem leNat_lt : ∀ (l : List UInt8), Lib.leNat l < 256 ^ l.length
  | [] => by simp [Lib.leNat]
  | x :: l => by
    have h := leNat_lt l
    have := x.toNat_lt
    simp only [Lib.leNat, List.length_cons, Nat.pow_succ]
    omega
theorem or_lo (v c k : Nat) (hk : k < 4) (hv : v < 256 ^ k) (hc : c < 256) : bits .or .u32 (v : Int) (IntKind.u32.wrap ((c : Int) * 2 ^ (8 * k))) = ((v + c * 256 ^ k : Nat) : Int) := by
  rcases (show k = 0 ∨ k = 1 ∨ k = 2 ∨ k = 3 by omega) with rfl | rfl | rfl | rfl
  · obtain rfl : v = 0 := by omega
    have := bits_join_low .u32 32 (by decide) (fun n a b => wraps_u32 n a b) 0 0 (c : Int) (by omega) (by omega) (by omega) (by omega) (by omega) (by omega)
    simp only [Nat.mul_zero, Int.pow_zero, Int.mul_one] at *
    rw [wraps_u32 _ (by omega) (by omega)]
    push_cast
    simpa using this
  · rw [wraps_u32 _ (by omega) (by omega), u32_or8 (v : Int) _ (by omega) (by omega) (by omega) (by omega) (by omega)]; omega
  · rw [wraps_u32 _ (by omega) (by omega), u32_or16 (v : Int) _ (by omega) (by omega) (by omega) (by omega) (by omega)]; omega
  · rw [wraps_u32 _ (by omega) (by omega), u32_or24 (v : Int) _ (by omega) (by omega) (by omega) (by omega) (by omega)]; omega
theorem drop_take_snoc (s : ByteArray) (a k : Nat) (h : a + k < s.size) : (s.data.toList.drop a).take (k + 1) = (s.data.toList.drop a).take k ++ [s[a + k]] := by
  rw [List.take_succ_eq_append_getElem (by simp; omega)]
  simp
  rfl
theorem rd_step (s : ByteArray) (a k : Nat) (h : a + k < s.size) (hk : k < 4) :
    bits .or .u32 ((Lib.leNat ((s.data.toList.drop a).take k) : Nat) : Int) ((s[a + k].toNat : Int) % 4294967296 * 2 ^ (8 * k) % 4294967296) = ((Lib.leNat ((s.data.toList.drop a).take (k + 1)) : Nat) : Int) := by
  have hb := leNat_lt ((s.data.toList.drop a).take k)
  have hl : ((s.data.toList.drop a).take k).length = k := by simp; omega
  rw [hl] at hb
  have hc := s[a + k].toNat_lt
  rw [drop_take_snoc s a k h, leNat_snoc, hl, show (s[a + k].toNat : Int) % 4294967296 = s[a + k].toNat by omega, ← IntKind.wrap_u32]
  exact or_lo _ _ k hk hb hc
end WP
theorem addr_at (b j : Nat) : (⟨b, 0, none⟩ : Addr).add j = ⟨b, j, none⟩ := by
  unfold Addr.add
  split <;> simp_all
set_option maxHeartbeats 400000 in
theorem four_any (n : Int) (w : World) (h0 : 0 ≤ n) (h1 : n ≤ 4294967295) :
    Calls Tryd.prog 23 #[.int .u32 n] w fun e w' => e = .returned (.string ⟨(Lib.leBytes 4 n.toNat).toArray⟩) ∧ Below w.heap.size w w' := by
  go_enter Tryd.func23, Tryd.ntmps23
  go_wp2
  go_loopw [5] (fun i wr => ∃ k : Nat, k ≤ 4 ∧ i = .int .i64 k ∧ Hid (wr.heap[w.heap.size]? = some (.cells (WP.fourAt n k) 65 (0, 0))) ∧ Below w.heap.size w wr) (fun i _ => 4 - (intOf i).toNat)
  case atStart =>
    exact ⟨0, Nat.zero_le _, rfl, Lib.hid (heap_alloc_new _ _), (Below.refl _ w).alloc (Nat.le_refl _) _⟩
  case round =>
    obtain ⟨k, hk, rfl, hh, hb⟩ := hrel
    by_cases hlt : k < 4
    · have hcell : wr.cell? ⟨w.heap.size, k, none⟩ = some (.int .u8 0) := by
        rw [cell_of_row _ _ k _ _ _ hh.out]
        exact WP.fourAt_get n k k (Nat.le_refl _) hlt
      have hfr := frozen_of_row _ _ k _ _ hh.out
      go_wp2
      go_roundw
      case rel =>
        refine ⟨k + 1, by omega, by go_num, ?_, ?_⟩
        · have h := heap_setCell_same wr _ k _ _ (.int .u8 (n / 2 ^ (8 * k) % 256)) hh.out
          rw [WP.fourAt_succ] at h
          exact Lib.hid h
        · exact hb.setCell (Nat.le_refl _) _
      case measure => simp [intOf]; omega
    · obtain rfl : k = 4 := by omega
      obtain ⟨v, rfl⟩ := Int.eq_ofNat_of_zero_le h0
      have hcv : ∀ c, (convert 63 9 (.slice (some ⟨w.heap.size, 0, none⟩) 4 c)).run Tryd.prog wr = .ok (.string ⟨(Lib.leBytes 4 v).toArray⟩) wr := fun c =>
        run_convert_bytes_back (P := Tryd.prog) wr 63 9 5 ⟨w.heap.size, 0, none⟩ c (Lib.leBytes 4 v) Tryd.underlying63 Tryd.underlying5 Tryd.underlying9 (fun j hj => by
          have e := cell_of_row _ _ j _ _ _ hh.out
          rw [WP.fourAt_full v j hj] at e
          rwa [addr_at])
      go_wp2
      go_ret
      exact ⟨by simp, hb⟩

set_option maxHeartbeats 400000 in
theorem read_any (s : ByteArray) (i : Int) (w : World) (h0 : 0 ≤ i) (h1 : i + 4 ≤ s.size) (h2 : s.size ≤ maxLen) :
    Calls Tryd.prog 45 #[.string s, .int .i64 i] w fun e w' => e = .returned (.tuple #[.int .u32 (Lib.leNat ((s.data.toList.drop i.toNat).take 4)), .int .i64 0]) ∧ w = w' := by
  obtain ⟨a, rfl⟩ := Int.eq_ofNat_of_zero_le h0
  unfold maxLen at h2
  have d1 : decide ((a : Int) < 0) = false := decide_eq_false (by omega)
  have d2 : decide (s.size < a) = false := decide_eq_false (by omega)
  have d3 : decide ((s.size : Int) - a < 4) = false := decide_eq_false (by omega)
  go_enter Tryd.func45, Tryd.ntmps45
  go_wp2
  go_loop [6, 21] (fun n i => ∃ k : Nat, k ≤ 4 ∧ i = .int .i64 k ∧ n = .int .u32 (Lib.leNat ((s.data.toList.drop a).take k) : Nat)) (fun _ i => 4 - (intOf i).toNat)
  case atStart => exact ⟨0, Nat.zero_le _, rfl, rfl⟩
  case round =>
    obtain ⟨k, hk, rfl, rfl⟩ := hrel
    by_cases hlt : k < 4
    · have HO := Lib.hid (WP.rd_step s a k (by omega) hlt)
      go_wp2
      go_round
      case rel =>
        refine ⟨k + 1, by omega, by go_num, ?_⟩
        rw [← HO.out]
      case measure => simp [intOf]; omega
    · obtain rfl : k = 4 := by omega
      go_wp2
      go_ret2
      exact ⟨rfl, rfl⟩

end Go.Proofs.YtnjmkljnjngpkaaDoor.L7
