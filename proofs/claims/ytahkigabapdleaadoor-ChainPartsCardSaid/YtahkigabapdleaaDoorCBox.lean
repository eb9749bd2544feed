/-
  A chain page's box.
-/
import Derived.Test.YtahkigabapdleaaDoorCPlain
import Derived.Test.YtahkigabapdleaaDoorERow
import Derived.Lib.Walk
import Derived.RangeFuncBox
namespace Go.Proofs.YtahkigabapdleaaDoor
open Go.RowKit CP
set_option linter.unusedVariables false

/-- A chain page as a value, the program's or the document's. -/
abbrev cv (F N : Int) (D : ByteArray) : Value := .agg #[.int .i64 F, .int .i64 N, .string D]
abbrev cv0 : Value := .agg #[.int .i64 0, .int .i64 0, .string ⟨#[]⟩]
/-- Its box. -/
def Cx (t : TypeId) (g : Nat) (F N : Int) (D : ByteArray) (w : World) : Prop := w.heap[g]? = some (.cells #[.int .i64 F, .int .i64 N, .string D] t (0, 0))
section
variable {t : TypeId} {g : Nat} {F N : Int} {D : ByteArray} {w w' : World}
theorem Cx.cells (k : Cx t g F N D w) : w.cell? ⟨g, 0, none⟩ = some (.int .i64 F) ∧ w.cell? ⟨g, 1, none⟩ = some (.int .i64 N) ∧ w.cell? ⟨g, 2, none⟩ = some (.string D) := by
  unfold Cx at k
  refine ⟨?_, ?_, ?_⟩ <;> simp [World.cell?, k]
theorem Cx.free (k : Cx t g F N D w) : w.frozen? ⟨g, 0, none⟩ = false ∧ w.frozen? ⟨g, 1, none⟩ = false ∧ w.frozen? ⟨g, 2, none⟩ = false := by
  unfold Cx at k
  refine ⟨?_, ?_, ?_⟩ <;> simp [World.frozen?, k]
theorem Cx.lt (k : Cx t g F N D w) : g < w.heap.size := (Array.getElem?_eq_some_iff.1 k).1
theorem Cx.below (k : Cx t g F N D w) (b : Below w.heap.size w w') : Cx t g F N D w' := (b.block g k.lt).trans k
theorem Cx.on {c : Nat} (k : Cx t g F N D w) (b : Below c w w') (hg : g < c) : Cx t g F N D w' := (b.block g hg).trans k
theorem Cx.set0 (k : Cx t g F N D w) (F' : Int) : Cx t g F' N D (w.setCell ⟨g, 0, none⟩ (.int .i64 F')) := by
  unfold Cx at *
  exact heap_setCell_same w g 0 _ _ (.int .i64 F') k
theorem Cx.set1 (k : Cx t g F N D w) (N' : Int) : Cx t g F N' D (w.setCell ⟨g, 1, none⟩ (.int .i64 N')) := by
  unfold Cx at *
  exact heap_setCell_same w g 1 _ _ (.int .i64 N') k
theorem Cx.set2 (k : Cx t g F N D w) (D' : ByteArray) : Cx t g F N D' (w.setCell ⟨g, 2, none⟩ (.string D')) := by
  unfold Cx at *
  exact heap_setCell_same w g 2 _ _ (.string D') k
theorem Cx.other {q o : Nat} (k : Cx t g F N D w) (hq : g ≠ q) (v : Value) : Cx t g F N D (w.setCell ⟨q, o, none⟩ v) := by
  unfold Cx at *
  rw [Below.heap_setCell w ⟨q, o, none⟩ v g hq]
  exact k
/-- What a region holds of it. -/
def HasC (t : TypeId) (g : Nat) (F N : Int) (D : ByteArray) (w : World) : Prop := Hid (Cx t g F N D w) ∧ w.cell? ⟨g, 0, none⟩ = some (.int .i64 F) ∧ w.cell? ⟨g, 1, none⟩ = some (.int .i64 N) ∧ w.cell? ⟨g, 2, none⟩ = some (.string D)
theorem hasC (k : Cx t g F N D w) : HasC t g F N D w := ⟨Lib.hid k, k.cells⟩
theorem HasC.below (k : HasC t g F N D w) (b : Below w.heap.size w w') : HasC t g F N D w' := hasC (k.1.out.below b)
end
/-- The world in which a chain page has been boxed. -/
abbrev cbox (t : TypeId) (F N : Int) (D : ByteArray) (w : World) : World := w.alloc (.cells #[.int .i64 F, .int .i64 N, .string D] t)
theorem cbox_size (t : TypeId) (F N : Int) (D : ByteArray) (w : World) : (cbox t F N D w).heap.size = w.heap.size + 1 := by simp [cbox]
theorem cbox_below (t : TypeId) (F N : Int) (D : ByteArray) (w : World) : Below w.heap.size w (cbox t F N D w) := L5.below_alloc _ _
theorem cbox_new (t : TypeId) (F N : Int) (D : ByteArray) (w : World) : Cx t w.heap.size F N D (cbox t F N D w) := heap_alloc_new _ _
/-- A chain page is stored into its box. -/
def setC (w : World) (g : Nat) (F N : Int) (D : ByteArray) : World := ((w.setCell ⟨g, 0, none⟩ (.int .i64 F)).setCell ⟨g, 1, none⟩ (.int .i64 N)).setCell ⟨g, 2, none⟩ (.string D)
theorem setC_box {t : TypeId} {w : World} {g : Nat} {F N : Int} {D : ByteArray} (k : Cx t g F N D w) (F' N' : Int) (D' : ByteArray) : Cx t g F' N' D' (setC w g F' N' D') := ((k.set0 F').set1 N').set2 D'
theorem setC_size (w : World) (g : Nat) (F N : Int) (D : ByteArray) : (setC w g F N D).heap.size = w.heap.size := by
  unfold setC
  simp
theorem setC_below {w W : World} {c g : Nat} (h : Below c w W) (hg : c ≤ g) (F N : Int) (D : ByteArray) : Below c w (setC W g F N D) :=
  ((h.setCell (p := ⟨g, 0, none⟩) hg _).setCell (p := ⟨g, 1, none⟩) hg _).setCell (p := ⟨g, 2, none⟩) hg _
theorem Cx.setC {t : TypeId} {g q : Nat} {F N : Int} {D : ByteArray} {w : World} (k : Cx t q F N D w) (hq : q ≠ g) (F' N' : Int) (D' : ByteArray) : Cx t q F N D (Go.Proofs.YtahkigabapdleaaDoor.setC w g F' N' D') :=
  ((k.other hq _).other hq _).other hq _
theorem cell_otherblock {w w' : World} {p : Addr} (h : w'.heap[p.block]? = w.heap[p.block]?) : w'.cell? p = w.cell? p := by
  unfold World.cell?
  rw [h]
end Go.Proofs.YtahkigabapdleaaDoor
