/-
  Walks of package sum: the closure that takes a byte by a table, and the function that makes it.
-/
import Derived.Test.YtnjmkljnjngpkaaDoorSBits
import Derived.RegionTactic
import Derived.BigRegion
namespace Go.Proofs.YtnjmkljnjngpkaaDoor.L7
open Go.RowKit

set_option maxHeartbeats 400000 in
theorem takeTab (c : UInt8) (r p q : Nat) (w : World) (hr : r < 4294967296) (hh : Hid (w.heap[p]? = some (.cells #[.int .u32 r] 48 (0, 0)))) (hq : Hid (w.heap[q]? = some (.cells (tab 256) 127 (0, 0)))) :
    Calls Tryd.prog 66 #[.int .u8 c.toNat, .pointer (some ⟨p, 0, none⟩), .pointer (some ⟨q, 0, none⟩)] w fun e w' => e = .returned (.int .u32 (SP.one r c)) ∧ Hid (w'.heap[p]? = some (.cells #[.int .u32 (SP.one r c)] 48 (0, 0))) ∧ Wrote p w w' := by
  have hcl := c.toNat_lt
  have hJ : r % 256 ^^^ c.toNat < 256 := Nat.xor_lt_two_pow (n := 8) (by omega) (by omega)
  have hx8 : bits .xor .u8 ((r : Int) % 256) (c.toNat : Int) = ((r % 256 ^^^ c.toNat : Nat) : Int) := u8_xor_nat (r % 256) c.toNat (by omega) (by omega)
  have HO := Lib.hid (SP.one_table r c)
  revert hJ hx8 HO
  generalize r % 256 ^^^ c.toNat = J
  intro hJ hx8 HO
  have hT := SP.bits_lt J (by omega) 8
  have hx : bits .xor .u32 ((r : Int) / 256) (SP.bits J 8 : Nat) = ((r / 256 ^^^ SP.bits J 8 : Nat) : Int) := xor32 (r / 256) (SP.bits J 8) (by omega) hT
  rw [HO.out]
  have hc := cell_of_one hh.out
  have hf := free_of_one hh.out
  have hcj : w.cell? ⟨q, J, none⟩ = some (.int .u32 (SP.bits J 8 : Nat)) := by
    rw [cell_of_row _ _ J _ _ _ hq.out, tab_get 256 J hJ, if_pos hJ]
  have hfj := frozen_of_row _ _ J _ _ hq.out
  generalize r / 256 ^^^ SP.bits J 8 = V at hx ⊢
  generalize SP.bits J 8 = T at hx hcj
  go_enter Tryd.func66, Tryd.ntmps66
  go_wp2
  go_region
  go_wp2
  go_ret
  exact ⟨rfl, Lib.hid (one_setCell hh.out), (wrote_set (Wrote.refl p w) _).drew⟩

/-- What the function that makes such a closure leaves. -/
def TabMade (r : Nat) (w : World) (e : Ending) (w' : World) : Prop :=
  ∃ q : Nat, w.heap.size < q ∧ e = .returned (.func (.func 66) #[] #[.pointer (some ⟨w.heap.size, 0, none⟩), .pointer (some ⟨q, 0, none⟩)]) ∧ w'.heap[w.heap.size]? = some (.cells #[.int .u32 r] 48 (0, 0)) ∧ w'.heap[q]? = some (.cells (tab 256) 127 (0, 0)) ∧ Below w.heap.size w w'

set_option maxRecDepth 100000 in
set_option maxHeartbeats 400000 in
theorem byTable_any (r : Nat) (w : World) : Calls Tryd.prog 63 #[.int .u32 r] w (TabMade r w) := by
  have hmf : ∀ (fn : Fn) (first cap : Array Value) (w : World), (Instr.makeFunc fn first cap).run Tryd.prog w = .ok (.func fn first cap) w := fun _ _ _ _ => rfl
  have hz := Tryd.zeroTab
  go_enter Tryd.func63, Tryd.ntmps63
  go_wp2_with fail
  refine (lowBytes_any _).mono ?_
  rintro e w1 ⟨rfl, hb⟩
  have h0 : Hid (w1.heap[w.heap.size]? = some (.cells #[.int .u32 r] 48 (0, 0))) := Lib.hid ((hb.block _ (by simp)).trans (heap_alloc_new _ _))
  have hs : w.heap.size + 1 ≤ w1.heap.size := by have := hb.size; simpa using this
  have hb' : Below w.heap.size w w1 := ((Below.refl _ w).alloc (Nat.le_refl _) _).trans (hb.mono (by simp))
  clear hb
  have hnew := Lib.hid (heap_alloc_new w1 (.cells (tab 0) 127))
  go_wp2_with (with_reducible refine wpList_store_rowTo rfl _ _ _ rfl rfl w1.heap.size (tab 256) rfl rfl _ _ hnew.out (by rw [tab_size]; exact Tryd.sizeTab) (by rw [tab_size, tab_size]) tab_one ?_)
  go_ret
  refine ⟨w1.heap.size, by omega, rfl, ?_, setRow_heap _ _ _ _ _ _ hnew.out, ?_⟩
  · rw [setRow_other _ _ _ _ (by omega), Below.heap_alloc _ _ _ (by omega)]
    exact h0.out
  · exact (hb'.alloc (by omega) _).trans ((below_setRow _ _ _).mono (by omega))

end Go.Proofs.YtnjmkljnjngpkaaDoor.L7
