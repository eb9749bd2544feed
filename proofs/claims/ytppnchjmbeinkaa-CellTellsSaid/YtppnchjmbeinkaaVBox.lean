/-
  A value's box.
-/
import Derived.Test.YtppnchjmbeinkaaVBase
import Derived.Test.YtppnchjmbeinkaaVPlain
import Derived.Deep.RegionHeld3
import Derived.WalkSpells
namespace Go.Proofs.Ytppnchjmbeinkaa
open Go.RowKit
set_option linter.unusedVariables false

/-- A value. -/
abbrev vv (O : Bool) (S : ByteArray) (L P : Int) : Value := .agg #[.bool O, .string S, .int .i64 L, .int .i64 P]
abbrev pv (O : Bool) (S : ByteArray) (L P : Int) : VP.V := ⟨O, S.data.toList, L, P⟩
/-- Its box. -/
def Bx (t : TypeId) (g : Nat) (O : Bool) (S : ByteArray) (L P : Int) (w : World) : Prop := w.heap[g]? = some (.cells #[.bool O, .string S, .int .i64 L, .int .i64 P] t (0, 0))
section
variable {t : TypeId} {g : Nat} {O : Bool} {S : ByteArray} {L P : Int} {w w' : World}
theorem Bx.cells (k : Bx t g O S L P w) : w.cell? ⟨g, 0, none⟩ = some (.bool O) ∧ w.cell? ⟨g, 1, none⟩ = some (.string S) ∧ w.cell? ⟨g, 2, none⟩ = some (.int .i64 L) ∧ w.cell? ⟨g, 3, none⟩ = some (.int .i64 P) := by
  unfold Bx at k
  refine ⟨?_, ?_, ?_, ?_⟩ <;> simp [World.cell?, k]
theorem Bx.free (k : Bx t g O S L P w) : w.frozen? ⟨g, 0, none⟩ = false ∧ w.frozen? ⟨g, 1, none⟩ = false ∧ w.frozen? ⟨g, 2, none⟩ = false ∧ w.frozen? ⟨g, 3, none⟩ = false := by
  unfold Bx at k
  refine ⟨?_, ?_, ?_, ?_⟩ <;> simp [World.frozen?, k]
theorem Bx.lt (k : Bx t g O S L P w) : g < w.heap.size := (Array.getElem?_eq_some_iff.1 k).1
theorem Bx.below (k : Bx t g O S L P w) (b : Below w.heap.size w w') : Bx t g O S L P w' := (b.block g k.lt).trans k
/-- What a region holds of it. -/
def HasBx (t : TypeId) (g : Nat) (O : Bool) (S : ByteArray) (L P : Int) (w : World) : Prop := Hid (Bx t g O S L P w) ∧ w.cell? ⟨g, 0, none⟩ = some (.bool O) ∧ w.cell? ⟨g, 1, none⟩ = some (.string S) ∧ w.cell? ⟨g, 2, none⟩ = some (.int .i64 L) ∧ w.cell? ⟨g, 3, none⟩ = some (.int .i64 P)
theorem hasBx (k : Bx t g O S L P w) : HasBx t g O S L P w := ⟨Lib.hid k, k.cells⟩
theorem HasBx.below (k : HasBx t g O S L P w) (b : Below w.heap.size w w') : HasBx t g O S L P w' := hasBx (k.1.out.below b)
end
theorem Bx.new (t : TypeId) (O : Bool) (S : ByteArray) (L P : Int) (w : World) : Bx t w.heap.size O S L P (w.alloc (.cells #[.bool O, .string S, .int .i64 L, .int .i64 P] t)) := heap_alloc_new _ _
/-- A value is stored into its box. -/
def set4 (w : World) (g : Nat) (O : Bool) (S : ByteArray) (L P : Int) : World := (((w.setCell ⟨g, 0, none⟩ (.bool O)).setCell ⟨g, 1, none⟩ (.string S)).setCell ⟨g, 2, none⟩ (.int .i64 L)).setCell ⟨g, 3, none⟩ (.int .i64 P)
theorem set4_box {t : TypeId} {w : World} {g : Nat} {O : Bool} {S : ByteArray} {L P : Int} (k : Bx t g O S L P w) (O' : Bool) (S' : ByteArray) (L' P' : Int) : Bx t g O' S' L' P' (set4 w g O' S' L' P') := by
  unfold Bx at *
  unfold set4
  have h0 := heap_setCell_same w g 0 _ _ (.bool O') k
  have h1 := heap_setCell_same _ g 1 _ _ (.string S') h0
  have h2 := heap_setCell_same _ g 2 _ _ (.int .i64 L') h1
  have h3 := heap_setCell_same _ g 3 _ _ (.int .i64 P') h2
  exact h3
theorem set4_other {w : World} {g q : Nat} (h : q ≠ g) (O : Bool) (S : ByteArray) (L P : Int) : (set4 w g O S L P).heap[q]? = w.heap[q]? := by
  unfold set4
  have hh : ∀ (W : World) (o : Nat) (v : Value), (W.setCell ⟨g, o, none⟩ v).heap[q]? = W.heap[q]? := fun W o v => Below.heap_setCell W ⟨g, o, none⟩ v q (fun e' => h (by first | exact e' | exact e'.symm))
  rw [hh, hh, hh, hh]
theorem set4_size (w : World) (g : Nat) (O : Bool) (S : ByteArray) (L P : Int) : (set4 w g O S L P).heap.size = w.heap.size := by
  unfold set4
  simp
theorem set4_below {w W : World} {c g : Nat} (h : Below c w W) (hg : c ≤ g) (O : Bool) (S : ByteArray) (L P : Int) : Below c w (set4 W g O S L P) :=
  (((h.setCell (p := ⟨g, 0, none⟩) hg _).setCell (p := ⟨g, 1, none⟩) hg _).setCell (p := ⟨g, 2, none⟩) hg _).setCell (p := ⟨g, 3, none⟩) hg _
end Go.Proofs.Ytppnchjmbeinkaa
