/-
  Walks of package sum: the closure that takes a byte bit by bit, and the function that makes it.
-/
import Derived.Test.YtnjmkljnjngpkaaDoorRows
import Derived.Test.YtnjmkljnjngpkaaDoorSPlain
import Derived.WalkKit
import Derived.WalkSpells
import Derived.WalkLawsBesides
import Derived.Laws.BitsAllLaws
import Derived.OneCell
import Derived.Laws.Rows
import Derived.Laws.Tables
import Derived.Great.BuildSlice
import Derived.OwnWalk
import Derived.Lib.Hide
import Derived.Outline
namespace Go.Proofs.YtnjmkljnjngpkaaDoor.L7
open Go.RowKit

theorem xor32 (a b : Nat) (ha : a < 4294967296) (hb : b < 4294967296) : bits .xor .u32 (a : Int) (b : Int) = ((a ^^^ b : Nat) : Int) := u32_xor_nat a b ha hb
theorem low32 (a : Nat) (ha : a < 4294967296) : bits .and .u32 (a : Int) 1 = ((a % 2 : Nat) : Int) := by
  have h := u32_and_nat a 1 ha (by omega)
  rw [Nat.and_one_is_mod] at h
  exact h

/-- Block p has been written, and nothing else that was there. -/
def Wrote (p : Nat) (w w' : World) : Prop := w.grownBy w' (some p)

theorem Wrote.refl (p : Nat) (w : World) : Wrote p w w := World.grownBy.refl w _
theorem wrote_set {p : Nat} {w w' : World} (h : Wrote p w w') (v : Value) : Wrote p w (w'.setCell ⟨p, 0, none⟩ v) := by
  obtain ⟨a, b, c, d, e⟩ := h
  refine ⟨a, b, c, by simpa using d, fun k hk hne => ?_⟩
  rw [Below.heap_setCell _ _ _ _ (fun e' => hne (by rw [e']))]
  exact e k hk hne
theorem Wrote.drew {p : Nat} {w w' : World} (h : Wrote p w w') : Wrote p w w'.drew := ⟨h.1, h.2, h.3, h.4, h.5⟩
theorem Wrote.trans {p : Nat} {w a b : World} (h : Wrote p w a) (k : Wrote p a b) : Wrote p w b :=
  ⟨k.os.trans h.os, k.tape.trans h.tape, k.output.trans h.output, Nat.le_trans h.size k.size, fun i hi hne => (k.block i (Nat.lt_of_lt_of_le hi h.size) hne).trans (h.block i hi hne)⟩
theorem Wrote.below {p B : Nat} {w w' : World} (h : Wrote p w w') (hB : B ≤ p) (hp : B ≤ w.heap.size) : Below B w w' := (Below.refl B w).grown h hp (fun k e => by cases e; exact hB)

set_option maxHeartbeats 400000 in
theorem takeBits (c : UInt8) (r p : Nat) (w : World) (hr : r < 4294967296) (hh : Hid (w.heap[p]? = some (.cells #[.int .u32 r] 48 (0, 0)))) :
    Calls Tryd.prog 68 #[.int .u8 c.toNat, .pointer (some ⟨p, 0, none⟩)] w fun e w' => e = .returned (.int .u32 (SP.one r c)) ∧ Hid (w'.heap[p]? = some (.cells #[.int .u32 (SP.one r c)] 48 (0, 0))) ∧ Wrote p w w' := by
  have hc := cell_of_one hh.out
  have hf := free_of_one hh.out
  have hx := xor32 r c.toNat hr (SP.u8_lt c)
  have hcl := c.toNat_lt
  go_enter Tryd.func68, Tryd.ntmps68
  go_wp2
  go_loopw [9] (fun i wr => ∃ k : Nat, k ≤ 8 ∧ i = .int .i64 k ∧ Hid (wr.heap[p]? = some (.cells #[.int .u32 (SP.bits (r ^^^ c.toNat) k : Nat)] 48 (0, 0))) ∧ Wrote p w wr) (fun i _ => 8 - (intOf i).toNat)
  case atStart => exact ⟨0, Nat.zero_le _, rfl, Lib.hid (one_setCell hh.out), wrote_set (Wrote.refl p w) _⟩
  case round =>
    obtain ⟨k, hk, rfl, hh', hw⟩ := hrel
    clear hc hf hx
    have hlt := SP.bits_lt _ (SP.xor_lt r c.toNat hr (SP.u8_lt c)) k
    have HB := Lib.hid (show SP.bits (r ^^^ c.toNat) (k + 1) = SP.bit (SP.bits (r ^^^ c.toNat) k) from rfl)
    by_cases h8 : k < 8
    · revert hlt hh' HB
      generalize SP.bits (r ^^^ c.toNat) k = R
      intro hh' hlt HB
      have hc' := cell_of_one hh'.out
      have hf' := free_of_one hh'.out
      have ha := low32 R hlt
      by_cases h2 : R % 2 = 1
      · have H2 := Lib.hid h2
        rw [h2] at ha
        clear h2
        have hx : bits .xor .u32 ((R : Int) / 2) 2197175160 = ((R / 2 ^^^ 2197175160 : Nat) : Int) := xor32 (R / 2) 2197175160 (by omega) (by omega)
        go_wp2
        go_roundw
        case rel =>
          refine ⟨k + 1, by omega, by go_num, ?_, ?_⟩
          · rw [HB.out, show SP.bit R = R / 2 ^^^ 2197175160 by unfold SP.bit; rw [if_pos H2.out]]
            exact Lib.hid (one_setCell (one_setCell hh'.out))
          · exact wrote_set (wrote_set hw _) _
        case measure => simp [intOf]; omega
      · have h0 : R % 2 = 0 := by omega
        have H0 := Lib.hid h0
        rw [h0] at ha
        clear h0 h2
        go_wp2
        go_roundw
        case rel =>
          refine ⟨k + 1, by omega, by go_num, ?_, ?_⟩
          · rw [HB.out, show SP.bit R = R / 2 by unfold SP.bit; rw [if_neg (by rw [H0.out]; omega)]]
            exact Lib.hid (one_setCell hh'.out)
          · exact wrote_set hw _
        case measure => simp [intOf]; omega
    · obtain rfl : k = 8 := by omega
      have hc' := cell_of_one hh'.out
      go_wp2
      go_ret
      exact ⟨rfl, hh', hw⟩

theorem below_setRow (w : World) (g : Nat) (cs : Array Value) : Below g w (w.setRow g cs) := by
  refine ⟨rfl, rfl, rfl, by simp, fun k hk => ?_⟩
  simp only [World.setRow, Array.getElem?_modify]
  rw [if_neg (by omega)]

/-- The function that makes such a closure. -/
theorem byBits_any (r : Nat) (w : World) :
    Calls Tryd.prog 67 #[.int .u32 r] w fun e w' => e = .returned (.func (.func 68) #[] #[.pointer (some ⟨w.heap.size, 0, none⟩)]) ∧ w' = w.alloc (.cells #[.int .u32 r] 48) := by
  have hmf : ∀ (fn : Fn) (first cap : Array Value) (w : World), (Instr.makeFunc fn first cap).run Tryd.prog w = .ok (.func fn first cap) w := fun _ _ _ _ => rfl
  go_enter Tryd.func67, Tryd.ntmps67
  go_wp2
  go_ret
  exact ⟨rfl, rfl⟩

theorem byBits_zero (w : World) :
    Calls Tryd.prog 67 #[.int .u32 0] w fun e w' => e = .returned (.func (.func 68) #[] #[.pointer (some ⟨w.heap.size, 0, none⟩)]) ∧ w' = w.alloc (.cells #[.int .u32 0] 48) := byBits_any 0 w

/-- The table. -/
def tab (k : Nat) : Array Value := ((List.range 256).map fun j => Value.int .u32 (if j < k then (SP.bits j 8 : Nat) else 0)).toArray

theorem Tryd.zeroTab (w : World) : (zeroValue 127).run Tryd.prog w = .ok (.agg (tab 0)) w := by kernel_rfl
theorem Tryd.sizeTab : (Tryd.prog.info? 127).map (·.size) = some 256 := by kernel_rfl
theorem tab_size (k : Nat) : (tab k).size = 256 := by simp [tab]
theorem tab_get (k j : Nat) (hj : j < 256) : (tab k)[j]? = some (.int .u32 (if j < k then (SP.bits j 8 : Nat) else 0)) := by simp [tab, hj]
theorem tab_one : (tab 256).all (·.oneCell') = true := by
  simp [tab, Value.oneCell']
theorem tab_set (k : Nat) (hk : k < 256) : (tab k).setIfInBounds k (.int .u32 (SP.bits k 8 : Nat)) = tab (k + 1) := by
  apply Array.ext_getElem?
  intro j
  rw [Array.getElem?_setIfInBounds]
  by_cases hj : j < 256
  · rw [tab_get _ _ hj, tab_get _ _ hj]
    by_cases e : k = j
    · subst e; simp [tab_size, hk]
    · rw [if_neg e]
      by_cases h : j < k
      · rw [if_pos h, if_pos (by omega)]
      · rw [if_neg h, if_neg (by omega)]
  · have h1 : (tab k)[j]? = none := by rw [Array.getElem?_eq_none]; rw [tab_size]; omega
    have h2 : (tab (k + 1))[j]? = none := by rw [Array.getElem?_eq_none]; rw [tab_size]; omega
    rw [h1, h2, if_neg (by omega)]
theorem toNat_ofNat8 (k : Nat) (h : k < 256) : (UInt8.ofNat k).toNat = k := by simp; omega

theorem takeBits_fresh (k : Nat) (hk : k < 256) (w : World) :
    Calls Tryd.prog 68 #[.int .u8 k, .pointer (some ⟨w.heap.size, 0, none⟩)] (w.alloc (.cells #[.int .u32 0] 48)) fun e w' => e = .returned (.int .u32 (SP.bits k 8 : Nat)) ∧ Below w.heap.size w w' := by
  have h := takeBits (UInt8.ofNat k) 0 w.heap.size (w.alloc (.cells #[.int .u32 0] 48)) (by omega) (Lib.hid (heap_alloc_new _ _))
  have e1 : SP.one 0 (UInt8.ofNat k) = SP.bits k 8 := by unfold SP.one; rw [Nat.zero_xor, toNat_ofNat8 k hk]
  rw [e1, toNat_ofNat8 k hk] at h
  refine h.mono ?_
  rintro e w' ⟨he, _, hw⟩
  exact ⟨he, ((Below.refl _ w).alloc (Nat.le_refl _) _).trans (hw.below (Nat.le_refl _) (by simp))⟩

set_option maxRecDepth 100000 in
set_option maxHeartbeats 400000 in
theorem lowBytes_any (w : World) :
    Calls Tryd.prog 65 #[] w fun e w' => e = .returned (.agg (tab 256)) ∧ Below w.heap.size w w' := by
  have hz := Tryd.zeroTab
  go_enter Tryd.func65, Tryd.ntmps65
  go_wp2
  go_loopw [3] (fun i wr => ∃ k : Nat, k ≤ 256 ∧ i = .int .i64 k ∧ Hid (wr.heap[w.heap.size + 1]? = some (.cells (tab k) 127 (0, 0))) ∧ Hid (wr.heap[w.heap.size]? = some (.cells (tab 0) 127 (0, 0))) ∧ Below w.heap.size w wr) (fun i _ => 256 - (intOf i).toNat)
  case atStart => exact ⟨0, Nat.zero_le _, rfl, Lib.hid (heap_alloc2_new _ _ _), Lib.hid (heap_alloc2_old _ _ _), ((Below.refl _ w).alloc (Nat.le_refl _) _).alloc (by simp) _⟩
  case round =>
    obtain ⟨k, hk, rfl, h1, h0, hb⟩ := hrel
    by_cases hlt : k < 256
    · go_wp2_with fail
      refine (byBits_zero _).mono ?_
      rintro e w1 ⟨rfl, rfl⟩
      go_wp2_with fail
      refine (takeBits_fresh k hlt wr).mono ?_
      rintro e w2 ⟨rfl, hb2⟩
      have h1' := Lib.hid ((hb2.block _ (lt_of_block h1.out)).trans h1.out)
      have h0' := Lib.hid ((hb2.block _ (lt_of_block h0.out)).trans h0.out)
      have hb' : Below w.heap.size w w2 := hb.trans (hb2.mono hb.size)
      clear h1 h0 hb hb2
      have hcell : w2.cell? ⟨w.heap.size + 1, k, none⟩ = some (.int .u32 0) := by
        rw [cell_of_row _ _ k _ _ _ h1'.out, tab_get k k hlt, if_neg (by omega)]
      have hfr := frozen_of_row _ _ k _ _ h1'.out
      go_wp2_with fail
      go_roundw
      case rel =>
        refine ⟨k + 1, by omega, by go_num, ?_, ?_, ?_⟩
        · have h := heap_setCell_same w2 _ k _ _ (.int .u32 (SP.bits k 8 : Nat)) h1'.out
          rw [tab_set k hlt] at h
          exact Lib.hid h
        · have h := heap_setCell_other w2 ⟨w.heap.size + 1, k, none⟩ w.heap.size (.int .u32 (SP.bits k 8 : Nat)) (by simp)
          exact Lib.hid (h.trans h0'.out)
        · exact hb'.setCell (by simp) _
      case measure => simp [intOf]; omega
    · obtain rfl : k = 256 := by omega
      go_wp2_with (first
        | (with_reducible refine wpList_load_row rfl _ _ rfl (w.heap.size + 1) rfl _ _ _ _ h1.out Tryd.underlying127 rfl (by rw [tab_size]; exact Tryd.sizeTab) ?_)
        | (with_reducible refine wpList_store_rowTo rfl _ _ _ rfl rfl w.heap.size (tab 256) rfl rfl _ _ h0.out (by rw [tab_size]; exact Tryd.sizeTab) (by rw [tab_size, tab_size]) tab_one ?_))
      refine bodyPost_ret (v := .agg (tab 256)) (results_cell_row Tryd.results65 _ _ w.heap.size _ _ _ _ rfl (setRow_heap wr _ _ _ _ _ h0.out) Tryd.underlying127 rfl (by rw [tab_size]; exact Tryd.sizeTab)) rfl ⟨rfl, ?_⟩
      exact hb.trans (below_setRow _ _ _)

end Go.Proofs.YtnjmkljnjngpkaaDoor.L7
