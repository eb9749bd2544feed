/-
  A meta's box.
-/
import Derived.Test.YtnjmkljnjngpkaaDoorHTells
import Derived.Test.YtnjmkljnjngpkaaDoorMTearP
import Derived.Test.YtnjmkljnjngpkaaDoorERow
import Derived.Lib.Walk
import Derived.RangeFuncBox
namespace Go.Proofs.YtnjmkljnjngpkaaDoor
open Go.RowKit
set_option linter.unusedVariables false

/-- A meta as a value, the program's or the document's. -/
abbrev mv (P G R L C : Int) : Value := .agg #[.int .i64 P, .int .i64 G, .int .i64 R, .int .i64 L, .int .i64 C]
/-- Its box. -/
def Mx (t : TypeId) (g : Nat) (P G R L C : Int) (w : World) : Prop := w.heap[g]? = some (.cells #[.int .i64 P, .int .i64 G, .int .i64 R, .int .i64 L, .int .i64 C] t (0, 0))
section
variable {t : TypeId} {g : Nat} {P G R L C : Int} {w w' : World}
theorem Mx.cells (k : Mx t g P G R L C w) : w.cell? ⟨g, 0, none⟩ = some (.int .i64 P) ∧ w.cell? ⟨g, 1, none⟩ = some (.int .i64 G) ∧ w.cell? ⟨g, 2, none⟩ = some (.int .i64 R) ∧ w.cell? ⟨g, 3, none⟩ = some (.int .i64 L) ∧ w.cell? ⟨g, 4, none⟩ = some (.int .i64 C) := by
  unfold Mx at k
  refine ⟨?_, ?_, ?_, ?_, ?_⟩ <;> simp [World.cell?, k]
theorem Mx.free (k : Mx t g P G R L C w) : w.frozen? ⟨g, 0, none⟩ = false ∧ w.frozen? ⟨g, 1, none⟩ = false ∧ w.frozen? ⟨g, 2, none⟩ = false ∧ w.frozen? ⟨g, 3, none⟩ = false ∧ w.frozen? ⟨g, 4, none⟩ = false := by
  unfold Mx at k
  refine ⟨?_, ?_, ?_, ?_, ?_⟩ <;> simp [World.frozen?, k]
theorem Mx.lt (k : Mx t g P G R L C w) : g < w.heap.size := (Array.getElem?_eq_some_iff.1 k).1
theorem Mx.below (k : Mx t g P G R L C w) (b : Below w.heap.size w w') : Mx t g P G R L C w' := (b.block g k.lt).trans k
theorem Mx.on {c : Nat} (k : Mx t g P G R L C w) (b : Below c w w') (hg : g < c) : Mx t g P G R L C w' := (b.block g hg).trans k
theorem Mx.set0 (k : Mx t g P G R L C w) (v : Int) : Mx t g v G R L C (w.setCell ⟨g, 0, none⟩ (.int .i64 v)) := by
  unfold Mx at *
  exact heap_setCell_same w g 0 _ _ (.int .i64 v) k
theorem Mx.set1 (k : Mx t g P G R L C w) (v : Int) : Mx t g P v R L C (w.setCell ⟨g, 1, none⟩ (.int .i64 v)) := by
  unfold Mx at *
  exact heap_setCell_same w g 1 _ _ (.int .i64 v) k
theorem Mx.set2 (k : Mx t g P G R L C w) (v : Int) : Mx t g P G v L C (w.setCell ⟨g, 2, none⟩ (.int .i64 v)) := by
  unfold Mx at *
  exact heap_setCell_same w g 2 _ _ (.int .i64 v) k
theorem Mx.set3 (k : Mx t g P G R L C w) (v : Int) : Mx t g P G R v C (w.setCell ⟨g, 3, none⟩ (.int .i64 v)) := by
  unfold Mx at *
  exact heap_setCell_same w g 3 _ _ (.int .i64 v) k
theorem Mx.set4 (k : Mx t g P G R L C w) (v : Int) : Mx t g P G R L v (w.setCell ⟨g, 4, none⟩ (.int .i64 v)) := by
  unfold Mx at *
  exact heap_setCell_same w g 4 _ _ (.int .i64 v) k
theorem Mx.other {q o : Nat} (k : Mx t g P G R L C w) (hq : g ≠ q) (v : Value) : Mx t g P G R L C (w.setCell ⟨q, o, none⟩ v) := by
  unfold Mx at *
  rw [Below.heap_setCell w ⟨q, o, none⟩ v g hq]
  exact k
end
/-- The world in which a meta has been boxed. -/
abbrev mbox (t : TypeId) (P G R L C : Int) (w : World) : World := w.alloc (.cells #[.int .i64 P, .int .i64 G, .int .i64 R, .int .i64 L, .int .i64 C] t)
theorem mbox_size (t : TypeId) (P G R L C : Int) (w : World) : (mbox t P G R L C w).heap.size = w.heap.size + 1 := by simp [mbox]
theorem mbox_below (t : TypeId) (P G R L C : Int) (w : World) : Below w.heap.size w (mbox t P G R L C w) := (Below.refl _ w).alloc (Nat.le_refl _) _
theorem mbox_new (t : TypeId) (P G R L C : Int) (w : World) : Mx t w.heap.size P G R L C (mbox t P G R L C w) := heap_alloc_new _ _
/-- A meta is stored into its box. -/
def setM (w : World) (g : Nat) (P G R L C : Int) : World := ((((w.setCell ⟨g, 0, none⟩ (.int .i64 P)).setCell ⟨g, 1, none⟩ (.int .i64 G)).setCell ⟨g, 2, none⟩ (.int .i64 R)).setCell ⟨g, 3, none⟩ (.int .i64 L)).setCell ⟨g, 4, none⟩ (.int .i64 C)
theorem setM_box {t : TypeId} {w : World} {g : Nat} {P G R L C : Int} (k : Mx t g P G R L C w) (P' G' R' L' C' : Int) : Mx t g P' G' R' L' C' (setM w g P' G' R' L' C') := ((((k.set0 P').set1 G').set2 R').set3 L').set4 C'
theorem setM_size (w : World) (g : Nat) (P G R L C : Int) : (setM w g P G R L C).heap.size = w.heap.size := by
  unfold setM
  simp
theorem setM_below {w W : World} {c g : Nat} (h : Below c w W) (hg : c ≤ g) (P G R L C : Int) : Below c w (setM W g P G R L C) :=
  ((((h.setCell (p := ⟨g, 0, none⟩) hg _).setCell (p := ⟨g, 1, none⟩) hg _).setCell (p := ⟨g, 2, none⟩) hg _).setCell (p := ⟨g, 3, none⟩) hg _).setCell (p := ⟨g, 4, none⟩) hg _
theorem Mx.setM {t : TypeId} {g q : Nat} {P G R L C : Int} {w : World} (k : Mx t q P G R L C w) (hq : q ≠ g) (P' G' R' L' C' : Int) : Mx t q P G R L C (Go.Proofs.YtnjmkljnjngpkaaDoor.setM w g P' G' R' L' C') :=
  ((((k.other hq _).other hq _).other hq _).other hq _).other hq _
end Go.Proofs.YtnjmkljnjngpkaaDoor
