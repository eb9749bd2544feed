/-
  Walks of col.reader and of the closure that it makes; col.kindOf.
-/
import Derived.Test.YtdcijbclafpkmaaDoorCRight
import Derived.Laws.BitsAllLaws
namespace Go.Proofs.YtdcijbclafpkmaaDoor
open Go.RowKit
set_option linter.unusedVariables false

/-- Block p has been written, and nothing else that was there. -/
def Wrote (p : Nat) (w w' : World) : Prop := w.grownBy w' (some p)
theorem Wrote.refl (p : Nat) (w : World) : Wrote p w w := World.grownBy.refl w _
theorem wrote_set {p : Nat} {w w' : World} (h : Wrote p w w') (v : Value) : Wrote p w (w'.setCell ⟨p, 0, none⟩ v) := by
  obtain ⟨a, b, c, d, e⟩ := h
  refine ⟨a, b, c, by simpa using d, fun k hk hne => ?_⟩
  rw [Below.heap_setCell _ _ _ _ (fun e' => hne (by rw [e']))]
  exact e k hk hne
theorem Wrote.drew {p : Nat} {w w' : World} (h : Wrote p w w') : Wrote p w w'.drew := ⟨h.1, h.2, h.3, h.4, h.5⟩
theorem Wrote.drewN {p : Nat} {w w' : World} (h : Wrote p w w') (n : Nat) : Wrote p w (w'.drewN n) := ⟨h.1, h.2, h.3, h.4, h.5⟩
theorem Wrote.trans {p : Nat} {w a b : World} (h : Wrote p w a) (k : Wrote p a b) : Wrote p w b :=
  ⟨k.os.trans h.os, k.tape.trans h.tape, k.output.trans h.output, Nat.le_trans h.size k.size, fun i hi hne => (k.block i (Nat.lt_of_lt_of_le hi h.size) hne).trans (h.block i hi hne)⟩
theorem Wrote.below {p B : Nat} {w w' : World} (h : Wrote p w w') (hB : B ≤ p) (hp : B ≤ w.heap.size) : Below B w w' := (Below.refl B w).grown h hp (fun k e => by cases e; exact hB)

/-- Block p holds one value. -/
def OneAt (p : Nat) (v : Value) (t : TypeId) (w : World) : Prop := w.heap[p]? = some (.cells #[v] t (0, 0))

theorem reader_any (s : ByteArray) (i : Int) (w : World) :
    Calls Tryd.prog 49 #[.string s, .int .i64 i] w fun e w' => e = .returned (.func (.func 67) #[] #[.pointer (some ⟨w.heap.size + 1, 0, none⟩), .pointer (some ⟨w.heap.size, 0, none⟩)]) ∧ w' = (w.alloc (.cells #[.string s] 9)).alloc (.cells #[.int .i64 i] 3) := by
  have hmf : ∀ (fn : Fn) (first cap : Array Value) (w : World), (Instr.makeFunc fn first cap).run Tryd.prog w = .ok (.func fn first cap) w := fun _ _ _ _ => rfl
  go_enter Tryd.func49, Tryd.ntmps49
  go_wp2
  go_ret
  exact ⟨rfl, rfl⟩

theorem next_end (p q : Nat) (s : ByteArray) (i : Int) (w : World) (hp : Hid (OneAt p (.int .i64 i) 3 w)) (hq : Hid (OneAt q (.string s) 9 w)) (h : (s.size : Int) ≤ i) :
    Calls Tryd.prog 67 #[.pointer (some ⟨p, 0, none⟩), .pointer (some ⟨q, 0, none⟩)] w fun e w' => e = .returned (.tuple #[.int .u8 0, .int .i64 0, .bool false]) ∧ w = w' := by
  have c1 := cell_of_one hp.out
  have c2 := cell_of_one hq.out
  go_enter Tryd.func67, Tryd.ntmps67
  go_wp2
  go_ret3
  exact ⟨rfl, rfl⟩

set_option maxHeartbeats 400000 in
theorem next_go (p q : Nat) (s : ByteArray) (i : Nat) (w : World) (hp : Hid (OneAt p (.int .i64 i) 3 w)) (hq : Hid (OneAt q (.string s) 9 w)) (hpq : q ≠ p) (h : i < s.size) (hs : s.size ≤ maxLen) :
    Calls Tryd.prog 67 #[.pointer (some ⟨p, 0, none⟩), .pointer (some ⟨q, 0, none⟩)] w fun e w' => e = .returned (.tuple #[.int .u8 s[i].toNat, .int .i64 (i + 1 : Nat), .bool true]) ∧ Hid (OneAt p (.int .i64 (i + 1 : Nat)) 3 w') ∧ Hid (OneAt q (.string s) 9 w') ∧ Wrote p w w' := by
  unfold maxLen at hs
  have c1 := cell_of_one hp.out
  have c2 := cell_of_one hq.out
  have f1 := free_of_one hp.out
  go_enter Tryd.func67, Tryd.ntmps67
  go_wp2_with fail
  go_quiet (fail)
  go_wp2_with fail
  go_ret3
  refine ⟨rfl, Lib.hid (one_setCell (u := .int .i64 (i + 1 : Nat)) hp.out), ?_, ?_⟩
  · refine Lib.hid ?_
    have h1 := Below.heap_setCell w ⟨p, 0, none⟩ (.int .i64 (i + 1 : Nat)) q (fun e' => hpq (by first | exact e' | exact e'.symm))
    exact h1.trans hq.out
  · exact Wrote.drewN (wrote_set (Wrote.refl p w) _) _

theorem kindOf_any (b : UInt8) (w : World) : Calls Tryd.prog 50 #[.int .u8 b.toNat] w fun e w' => e = .returned (.tuple (if b = 16 then #[.int .i64 0, .bool true] else if b = 32 ∨ b = 33 then #[.int .i64 1, .bool true] else if b = 48 then #[.int .i64 2, .bool true] else if b = 64 then #[.int .i64 3, .bool true] else if b = 80 then #[.int .i64 4, .bool true] else #[.int .i64 0, .bool false])) ∧ w = w' := by
  have hb := b.toNat_lt
  have e16 : ((b.toNat : Int) == 16) = decide (b = 16) := by rw [Bool.eq_iff_iff]; simp [← UInt8.toNat_inj]; omega
  have e32 : ((b.toNat : Int) == 32) = decide (b = 32) := by rw [Bool.eq_iff_iff]; simp [← UInt8.toNat_inj]; omega
  have e33 : ((b.toNat : Int) == 33) = decide (b = 33) := by rw [Bool.eq_iff_iff]; simp [← UInt8.toNat_inj]; omega
  have e48 : ((b.toNat : Int) == 48) = decide (b = 48) := by rw [Bool.eq_iff_iff]; simp [← UInt8.toNat_inj]; omega
  have e64 : ((b.toNat : Int) == 64) = decide (b = 64) := by rw [Bool.eq_iff_iff]; simp [← UInt8.toNat_inj]; omega
  have e80 : ((b.toNat : Int) == 80) = decide (b = 80) := by rw [Bool.eq_iff_iff]; simp [← UInt8.toNat_inj]; omega
  by_cases h16 : b = 16
  · subst h16; go_enter Tryd.func50, Tryd.ntmps50
    go_wp2_with fail
    go_ret2
    exact ⟨rfl, rfl⟩
  by_cases h32 : b = 32
  · subst h32; go_enter Tryd.func50, Tryd.ntmps50
    go_wp2_with fail
    go_ret2
    exact ⟨rfl, rfl⟩
  by_cases h33 : b = 33
  · subst h33; go_enter Tryd.func50, Tryd.ntmps50
    go_wp2_with fail
    go_ret2
    exact ⟨rfl, rfl⟩
  by_cases h48 : b = 48
  · subst h48; go_enter Tryd.func50, Tryd.ntmps50
    go_wp2_with fail
    go_ret2
    exact ⟨rfl, rfl⟩
  by_cases h64 : b = 64
  · subst h64; go_enter Tryd.func50, Tryd.ntmps50
    go_wp2_with fail
    go_ret2
    exact ⟨rfl, rfl⟩
  by_cases h80 : b = 80
  · subst h80; go_enter Tryd.func50, Tryd.ntmps50
    go_wp2_with fail
    go_ret2
    exact ⟨rfl, rfl⟩
  rw [if_neg h16, if_neg (by simp [h32, h33]), if_neg h48, if_neg h64, if_neg h80]
  rw [decide_eq_false h16] at e16
  rw [decide_eq_false h32] at e32
  rw [decide_eq_false h33] at e33
  rw [decide_eq_false h48] at e48
  rw [decide_eq_false h64] at e64
  rw [decide_eq_false h80] at e80
  go_enter Tryd.func50, Tryd.ntmps50
  go_wp2_with fail
  go_ret2
  exact ⟨rfl, rfl⟩
end Go.Proofs.YtdcijbclafpkmaaDoor
