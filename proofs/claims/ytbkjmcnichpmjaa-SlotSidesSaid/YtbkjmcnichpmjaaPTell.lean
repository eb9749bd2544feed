/-
  Walks of the closures that write and read a body's directory.
-/
import Derived.Test.YtbkjmcnichpmjaaPSize
import Derived.WalkSpells
import Derived.Laws.BitsAllLaws
import Derived.OneCell
namespace Go.Proofs.Ytbkjmcnichpmjaa
open Go.RowKit
set_option linter.unusedVariables false
set_option linter.unusedSimpArgs false

/-- A body of bytes that is under way, in a block; the box of its slice, and the box of a place of its directory, in the next two. -/
def Writ (w : World) (g : Nat) (L : List UInt8) (a : Nat) : Prop :=
  w.heap[g]? = some (.cells (byteCells L).toArray 5 (0, 0)) ∧ w.heap[g + 1]? = some (.cells #[.slice (some ⟨g, 0, none⟩) L.length L.length] 41 (0, 0)) ∧ w.heap[g + 2]? = some (.cells #[.int .i64 a] 3 (0, 0))
/-- The bytes behind a place that has been told. -/
def tellL (L : List UInt8) (a c : Nat) : List UInt8 := (L.set a (LP.u8 (c % 256))).set (a + 1) (LP.u8 (c / 256))
theorem tellL_length (L : List UInt8) (a c : Nat) : (tellL L a c).length = L.length := by simp [tellL]
theorem byteCells_set (L : List UInt8) (i : Nat) (b : UInt8) : (byteCells L).toArray.setIfInBounds i (.int .u8 b.toNat) = (byteCells (L.set i b)).toArray := by
  simp [byteCells, List.map_set]
theorem byteCells_get (L : List UInt8) (i : Nat) (h : i < L.length) : (byteCells L).toArray[i]? = some (.int .u8 (L[i].toNat : Nat)) := by simp [byteCells, h]

theorem writ_set {w : World} {g x i : Nat} {L : List UInt8} {b : UInt8} (h : Writ w g L x) : Writ (w.setCell ⟨g, i, none⟩ (.int .u8 b.toNat)) g (L.set i b) x := by
  obtain ⟨h1, h2, h3⟩ := h
  refine ⟨?_, ?_, ?_⟩
  · rw [← byteCells_set]; exact heap_setCell_same _ _ _ _ _ _ h1
  · rw [List.length_set]; exact (heap_setCell_other _ _ _ _ (by simp)).trans h2
  · exact (heap_setCell_other _ _ _ _ (by simp)).trans h3
theorem writ_at {w : World} {g a x : Nat} {L : List UInt8} {n : Int} (h : Writ w g L x) (hn : n = a) : Writ (w.setCell ⟨g + 2, 0, none⟩ (.int .i64 n)) g L a := by
  subst hn
  obtain ⟨h1, h2, h3⟩ := h
  exact ⟨(heap_setCell_other _ _ _ _ (by simp)).trans h1, (heap_setCell_other _ _ _ _ (by simp)).trans h2, one_setCell h3⟩
theorem grown_setCell (w : World) (a : Addr) (u : Value) : w.grownBy (w.setCell a u) (some a.block) :=
  ⟨rfl, rfl, rfl, by simp, fun j _ hj => heap_setCell_other _ _ _ _ (fun e => hj (by rw [e]))⟩
theorem writ_size {w : World} {g a : Nat} {L : List UInt8} (h : Writ w g L a) : g + 2 < w.heap.size := (Array.getElem?_eq_some_iff.1 h.2.2).1
theorem writ_grown {w w' : World} {g a : Nat} {L : List UInt8} {row : Option Nat} (h : Writ w g L a) (hg : w.grownBy w' row) (hr : ∀ k, row = some k → g + 2 < k) : Writ w' g L a := by
  have hs := writ_size h
  obtain ⟨h1, h2, h3⟩ := h
  have no : ∀ j, j ≤ g + 2 → some j ≠ row := fun j hj e => by have := hr j e.symm; omega
  exact ⟨(hg.block _ (by omega) (no _ (by omega))).trans h1, (hg.block _ (by omega) (no _ (by omega))).trans h2, (hg.block _ (by omega) (no _ (by omega))).trans h3⟩
theorem writ_drew {w : World} {g a : Nat} {L : List UInt8} (h : Writ w g L a) (n : Nat) : Writ (w.drewN n) g L a := h

set_option maxHeartbeats 1000000 in
set_option maxRecDepth 100000 in
theorem tell_any (g a c : Nat) (L : List UInt8) (w : World) (h : Hid (Writ w g L (a + 2))) (ha : a + 2 ≤ L.length) (hL : L.length ≤ 65535) (hc : c < 65536) :
    Calls Try.prog 22 #[.int .i64 c, .pointer (some ⟨g + 2, 0, none⟩), .pointer (some ⟨g + 1, 0, none⟩)] w fun e w' => e = .returned (.tuple #[]) ∧ Hid (Writ w' g (tellL L a c) a) ∧ Below g w w' := by
  have a1 := cell_of_one h.out.2.2
  have f1 := free_of_one h.out.2.2
  have q1 : IntKind.i64.wrap (((a + 2 : Nat) : Int) - 2) = a := by rw [show ((a + 2 : Nat) : Int) - 2 = a by omega]; exact IntWalk.i64_in _ (by omega)
  have hw2 := Lib.hid (writ_at (n := (a : Int)) h.out rfl)
  have hb := Below.setCell (Below.refl g w) (p := ⟨g + 2, 0, none⟩) (by simp) (.int .i64 (a : Int))
  have HB := Lib.hid hb
  obtain ⟨lo, hlo⟩ : ∃ b : UInt8, b = LP.u8 (c % 256) := ⟨_, rfl⟩
  obtain ⟨hi, hhi⟩ : ∃ b : UInt8, b = LP.u8 (c / 256) := ⟨_, rfl⟩
  have HT : Hid (tellL L a c = (L.set a lo).set (a + 1) hi) := Lib.hid (by rw [hlo, hhi]; rfl)
  have elo : lo.toNat = c % 256 := by rw [hlo]; exact LP.u8_lt _ (by omega)
  have ehi : hi.toNat = c / 256 := by rw [hhi]; exact LP.u8_lt _ (by omega)
  have q2 : IntKind.u8.wrap (c : Int) = (lo.toNat : Int) := by rw [elo]; simp [IntKind.wrap, IntKind.signed, IntKind.bits]
  have q3 : IntKind.u8.wrap ((c : Int) / 256) = (hi.toNat : Int) := by rw [ehi]; simp [IntKind.wrap, IntKind.signed, IntKind.bits]; omega
  have q4 : (c : Int) % 256 = (lo.toNat : Int) := by omega
  have q5 : (c : Int) / 256 = (hi.toNat : Int) := by omega
  have q6 : (hi.toNat : Int) % 256 = hi.toNat := by omega
  rw [HT.out]
  clear hlo hhi HT elo ehi hb h
  go_enter Try.func22, Try.ntmps22
  go_wp2_with fail
  generalize w.setCell ⟨g + 2, 0, none⟩ (.int .i64 (a : Int)) = v at *
  have b1 := cell_of_one hw2.out.2.1
  have b2 := cell_of_one hw2.out.2.2
  have c1 : v.cell? ⟨g, a, none⟩ = some (.int .u8 (L[a].toNat : Nat)) := by rw [cell_of_row _ _ a _ _ _ hw2.out.1]; exact byteCells_get L a (by omega)
  have c2 : v.cell? ⟨g, a + 1, none⟩ = some (.int .u8 (L[a + 1].toNat : Nat)) := by rw [cell_of_row _ _ (a + 1) _ _ _ hw2.out.1]; exact byteCells_get L (a + 1) (by omega)
  have g1 := frozen_of_row _ _ a _ _ hw2.out.1
  have g2 := frozen_of_row _ _ (a + 1) _ _ hw2.out.1
  have r1 : IntKind.i64.wrap ((a : Int) + 1) = (a : Int) + 1 := IntWalk.i64_in _ (by omega)
  have r2 : ((a : Int) + 1).toNat = a + 1 := by omega
  have r3 : (0 : Int) ≤ (a : Int) + 1 := by omega
  have r4 : (a : Int) + 1 < L.length := by omega
  have r5 : (a : Int) < L.length := by omega
  have r6 : (0 : Int) ≤ (a : Int) := by omega
  clear a1 f1
  go_region
  all_goals
    go_wp2_with fail
    go_end0
    exact ⟨rfl, Lib.hid (writ_set (writ_set hw2.out)), ((HB.out.setCell (p := ⟨g, a, none⟩) (Nat.le_refl _) _).setCell (p := ⟨g, a + 1, none⟩) (Nat.le_refl _) _).drew⟩

theorem or_join (a b : Nat) (ha : a < 256) (hb : b < 256) : bits .or .i64 (a : Int) ((b : Int) * 256) = ((a + 256 * b : Nat) : Int) := by
  have h1 : (BitVec.ofInt 64 (a : Int)).toNat = a := by
    rw [BitVec.ofInt_natCast, BitVec.toNat_ofNat]; exact Nat.mod_eq_of_lt (by omega)
  have h2 : (BitVec.ofInt 64 ((256 * b : Nat) : Int)).toNat = 256 * b := by
    rw [BitVec.ofInt_natCast, BitVec.toNat_ofNat]; exact Nat.mod_eq_of_lt (by omega)
  have e : (b : Int) * 256 = ((256 * b : Nat) : Int) := by omega
  rw [e]
  show IntKind.i64.wrap ((BitVec.ofInt 64 (a : Int) ||| BitVec.ofInt 64 ((256 * b : Nat) : Int)).toNat : Int) = _
  rw [BitVec.toNat_or, h1, h2, Nat.or_comm, nat_join 8 (256 * b) a (by omega) (by omega), Nat.add_comm]
  exact IntWalk.i64_in _ (by omega)
/-- A body of bytes that is read, in a block (with room behind it); the box of its slice, and the box of a place of its directory, in the next two. -/
def Rd (w : World) (g : Nat) (L : List UInt8) (cap a : Nat) : Prop :=
  g + 2 < w.heap.size ∧ (∀ j c, L[j]? = some c → w.cell? ⟨g, j, none⟩ = some (.int .u8 (c.toNat : Nat))) ∧ w.heap[g + 1]? = some (.cells #[.slice (some ⟨g, 0, none⟩) L.length cap] 41 (0, 0)) ∧ w.heap[g + 2]? = some (.cells #[.int .i64 a] 3 (0, 0))
theorem rd_at {w : World} {g a x cap : Nat} {L : List UInt8} {n : Int} (h : Rd w g L cap x) (hn : n = a) : Rd (w.setCell ⟨g + 2, 0, none⟩ (.int .i64 n)) g L cap a := by
  subst hn
  obtain ⟨h0, h1, h2, h3⟩ := h
  exact ⟨by simpa using h0, fun j c hj => (World.cell?_of_block (heap_setCell_other _ _ _ _ (by simp))).trans (h1 j c hj), (heap_setCell_other _ _ _ _ (by simp)).trans h2, one_setCell h3⟩
theorem rd_drew {w : World} {g a cap : Nat} {L : List UInt8} (h : Rd w g L cap a) (n : Nat) : Rd (w.drewN n) g L cap a := h
theorem rd_grown {w w' : World} {g a cap : Nat} {L : List UInt8} {row : Option Nat} (h : Rd w g L cap a) (hg : w.grownBy w' row) (hr : ∀ k, row = some k → g + 2 < k) : Rd w' g L cap a := by
  obtain ⟨hs, h1, h2, h3⟩ := h
  have no : ∀ j, j ≤ g + 2 → some j ≠ row := fun j hj e => by have := hr j e.symm; omega
  exact ⟨Nat.lt_of_lt_of_le hs hg.size, fun j c hj => (World.cell?_of_block (hg.block _ (by show g < _; omega) (no _ (by show g ≤ _; omega)))).trans (h1 j c hj), (hg.block _ (by omega) (no _ (by omega))).trans h2, (hg.block _ (by omega) (no _ (by omega))).trans h3⟩
/-- A number of two bytes. -/
def num2 (L : List UInt8) (a : Nat) : Nat := (L.getD a 0).toNat + 256 * (L.getD (a + 1) 0).toNat
theorem num2_lt (L : List UInt8) (a : Nat) : num2 L a < 65536 := by
  have h1 := (L.getD a 0).toNat_lt
  have h2 := (L.getD (a + 1) 0).toNat_lt
  unfold num2
  omega
set_option maxHeartbeats 1000000 in
set_option maxRecDepth 100000 in
theorem next_any (g a cap : Nat) (L : List UInt8) (w : World) (h : Hid (Rd w g L cap (a + 2))) (ha : a + 2 ≤ L.length) (hL : L.length ≤ 65535) :
    Calls Try.prog 24 #[.pointer (some ⟨g + 2, 0, none⟩), .pointer (some ⟨g + 1, 0, none⟩)] w fun e w' => e = .returned (.int .i64 (num2 L a : Nat)) ∧ Hid (Rd w' g L cap a) ∧ Below g w w' ∧ w.grownBy w' (some (g + 2)) := by
  have a1 := cell_of_one h.out.2.2.2
  have f1 := free_of_one h.out.2.2.2
  have q1 : IntKind.i64.wrap (((a + 2 : Nat) : Int) - 2) = a := by rw [show ((a + 2 : Nat) : Int) - 2 = a by omega]; exact IntWalk.i64_in _ (by omega)
  have hw2 := Lib.hid (rd_at (n := (a : Int)) h.out rfl)
  have hb := Below.setCell (Below.refl g w) (p := ⟨g + 2, 0, none⟩) (by simp) (.int .i64 (a : Int))
  have HB := Lib.hid hb
  have HGR := Lib.hid (grown_setCell w ⟨g + 2, 0, none⟩ (.int .i64 (a : Int)))
  obtain ⟨lo, hlo⟩ : ∃ b : UInt8, b = L[a] := ⟨_, rfl⟩
  obtain ⟨hi, hhi⟩ : ∃ b : UInt8, b = L[a + 1] := ⟨_, rfl⟩
  have HT : Hid (num2 L a = lo.toNat + 256 * hi.toNat) := Lib.hid (by unfold num2; rw [hlo, hhi]; simp only [List.getD_eq_getElem?_getD]; rw [List.getElem?_eq_getElem (by omega), List.getElem?_eq_getElem (by omega)]; rfl)
  have l0 : lo.toNat < 256 := lo.toNat_lt
  have l1 : hi.toNat < 256 := hi.toNat_lt
  have q3 : IntKind.i64.wrap (lo.toNat : Int) = lo.toNat := IntWalk.i64_in _ (by omega)
  have q4 : IntKind.i64.wrap (hi.toNat : Int) = hi.toNat := IntWalk.i64_in _ (by omega)
  have q5 : IntKind.i64.wrap ((hi.toNat : Int) * 256) = (hi.toNat : Int) * 256 := IntWalk.i64_in _ (by omega)
  rw [HT.out]
  clear hb h
  go_enter Try.func24, Try.ntmps24
  go_wp2_with fail
  generalize w.setCell ⟨g + 2, 0, none⟩ (.int .i64 (a : Int)) = v at *
  have b1 := cell_of_one hw2.out.2.2.1
  have b2 := cell_of_one hw2.out.2.2.2
  have c1 : v.cell? ⟨g, a, none⟩ = some (.int .u8 (lo.toNat : Nat)) := by rw [hlo]; exact hw2.out.2.1 a _ (List.getElem?_eq_getElem (by omega))
  have c2 : v.cell? ⟨g, a + 1, none⟩ = some (.int .u8 (hi.toNat : Nat)) := by rw [hhi]; exact hw2.out.2.1 (a + 1) _ (List.getElem?_eq_getElem (by omega))
  have r1 : IntKind.i64.wrap ((a : Int) + 1) = (a : Int) + 1 := IntWalk.i64_in _ (by omega)
  have r2 : ((a : Int) + 1).toNat = a + 1 := by omega
  have r3 : (0 : Int) ≤ (a : Int) + 1 := by omega
  have r4 : (a : Int) + 1 < L.length := by omega
  have r5 : (a : Int) < L.length := by omega
  have r6 : (0 : Int) ≤ (a : Int) := by omega
  clear a1 f1 hlo hhi
  go_quiet (fail)
  go_wp2_with fail
  go_ret
  exact ⟨by rw [← or_join lo.toNat hi.toNat l0 l1]; rfl, Lib.hid (rd_drew hw2.out nq), below_drewN HB.out nq, ⟨HGR.out.os, HGR.out.tape, HGR.out.output, HGR.out.size, HGR.out.block⟩⟩

theorem writ_new {w : World} {g : Nat} {L : List UInt8} (h : w.heap[g]? = some (.cells (byteCells L).toArray 5 (0, 0))) (hg : w.heap.size = g + 1) :
    Hid (Writ ((w.alloc (.cells #[.slice (some ⟨g, 0, none⟩) L.length L.length] 41)).alloc (.cells #[.int .i64 L.length] 3)) g L L.length) ∧ Below g w ((w.alloc (.cells #[.slice (some ⟨g, 0, none⟩) L.length L.length] 41)).alloc (.cells #[.int .i64 L.length] 3)) := by
  have b1 := below_alloc w (.cells #[.slice (some ⟨g, 0, none⟩) L.length L.length] 41)
  have n1 := heap_alloc_new w (.cells #[.slice (some ⟨g, 0, none⟩) L.length L.length] 41)
  have s1 : (w.alloc (.cells #[.slice (some ⟨g, 0, none⟩) L.length L.length] 41)).heap.size = g + 2 := by simp; omega
  generalize w.alloc (.cells #[.slice (some ⟨g, 0, none⟩) L.length L.length] 41) = v at *
  have b2 := below_alloc v (.cells #[.int .i64 L.length] 3)
  have n2 := heap_alloc_new v (.cells #[.int .i64 L.length] 3)
  rw [s1] at n2
  rw [hg] at n1
  exact ⟨Lib.hid ⟨(b2.block _ (by omega)).trans ((b1.block _ (by omega)).trans h), (b2.block _ (by omega)).trans n1, n2⟩, (b1.trans' b2).mono (by omega)⟩
/-- The function that makes such a closure, of a body that lies in the newest block. -/
theorem writer_any (g : Nat) (L : List UInt8) (w : World) (h : w.heap[g]? = some (.cells (byteCells L).toArray 5 (0, 0))) (hg : w.heap.size = g + 1) :
    Calls Try.prog 17 #[.slice (some ⟨g, 0, none⟩) L.length L.length] w fun e w' => e = .returned (.func (.func 22) #[] #[.pointer (some ⟨g + 2, 0, none⟩), .pointer (some ⟨g + 1, 0, none⟩)]) ∧ Hid (Writ w' g L L.length) ∧ Below g w w' := by
  have hmf : ∀ (fn : Fn) (first cap : Array Value) (w : World), (Instr.makeFunc fn first cap).run Try.prog w = .ok (.func fn first cap) w := fun _ _ _ _ => rfl
  go_enter Try.func17, Try.ntmps17
  go_wp2_with fail
  go_ret
  exact ⟨rfl, writ_new h hg⟩
theorem rd_new {w : World} {g cap : Nat} {L : List UInt8} (h : ∀ j c, L[j]? = some c → w.cell? ⟨g, j, none⟩ = some (.int .u8 (c.toNat : Nat))) (hg : w.heap.size = g + 1) :
    Hid (Rd ((w.alloc (.cells #[.slice (some ⟨g, 0, none⟩) L.length cap] 41)).alloc (.cells #[.int .i64 L.length] 3)) g L cap L.length) ∧ Below w.heap.size w ((w.alloc (.cells #[.slice (some ⟨g, 0, none⟩) L.length cap] 41)).alloc (.cells #[.int .i64 L.length] 3)) := by
  have b1 := below_alloc w (.cells #[.slice (some ⟨g, 0, none⟩) L.length cap] 41)
  have n1 := heap_alloc_new w (.cells #[.slice (some ⟨g, 0, none⟩) L.length cap] 41)
  have s1 : (w.alloc (.cells #[.slice (some ⟨g, 0, none⟩) L.length cap] 41)).heap.size = g + 2 := by simp; omega
  generalize w.alloc (.cells #[.slice (some ⟨g, 0, none⟩) L.length cap] 41) = v at *
  have b2 := below_alloc v (.cells #[.int .i64 L.length] 3)
  have n2 := heap_alloc_new v (.cells #[.int .i64 L.length] 3)
  rw [s1] at n2
  rw [hg] at n1
  exact ⟨Lib.hid ⟨by simp; omega, fun j c hj => (b2.cell (by show g < _; omega)).trans ((b1.cell (by show g < _; omega)).trans (h j c hj)), (b2.block _ (by omega)).trans n1, n2⟩, b1.trans' b2⟩
theorem reader_any (g cap : Nat) (L : List UInt8) (w : World) (h : ∀ j c, L[j]? = some c → w.cell? ⟨g, j, none⟩ = some (.int .u8 (c.toNat : Nat))) (hg : w.heap.size = g + 1) :
    Calls Try.prog 23 #[.slice (some ⟨g, 0, none⟩) L.length cap] w fun e w' => e = .returned (.func (.func 24) #[] #[.pointer (some ⟨g + 2, 0, none⟩), .pointer (some ⟨g + 1, 0, none⟩)]) ∧ Hid (Rd w' g L cap L.length) ∧ Below w.heap.size w w' := by
  have hmf : ∀ (fn : Fn) (first cap : Array Value) (w : World), (Instr.makeFunc fn first cap).run Try.prog w = .ok (.func fn first cap) w := fun _ _ _ _ => rfl
  have HN := Lib.hid (rd_new (cap := cap) h hg)
  clear h
  go_enter Try.func23, Try.ntmps23
  go_wp2_with fail
  go_ret
  exact ⟨rfl, HN.out⟩
end Go.Proofs.Ytbkjmcnichpmjaa
