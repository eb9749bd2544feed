/-
  A head's box.
-/
import Derived.Test.YtnjmkljnjngpkaaDoorHDocR
namespace Go.Proofs.YtnjmkljnjngpkaaDoor.L7
open Go.RowKit
set_option linter.unusedVariables false

theorem le4_size (v : Nat) : (⟨(Lib.leBytes 4 v).toArray⟩ : ByteArray).size = 4 := by simp [ByteArray.size, Lib.leBytes_length]
/-- A head's box. -/
def Bx (t : TypeId) (g : Nat) (h : HP.H) (w : World) : Prop := w.heap[g]? = some (.cells #[.int .i64 h.k, .int .i64 h.l, .int .i64 h.c, .int .i64 h.r, .int .i64 h.s] t (0, 0))
theorem Bx.cells {t : TypeId} {g : Nat} {h : HP.H} {w : World} (k : Bx t g h w) : w.cell? ⟨g, 0, none⟩ = some (.int .i64 h.k) ∧ w.cell? ⟨g, 1, none⟩ = some (.int .i64 h.l) ∧ w.cell? ⟨g, 2, none⟩ = some (.int .i64 h.c) ∧ w.cell? ⟨g, 3, none⟩ = some (.int .i64 h.r) ∧ w.cell? ⟨g, 4, none⟩ = some (.int .i64 h.s) := by
  unfold Bx at k
  refine ⟨?_, ?_, ?_, ?_, ?_⟩ <;> simp [World.cell?, k]
theorem Bx.lt {t : TypeId} {g : Nat} {h : HP.H} {w : World} (k : Bx t g h w) : g < w.heap.size := (Array.getElem?_eq_some_iff.1 k).1
theorem Bx.below {t : TypeId} {g : Nat} {h : HP.H} {w w' : World} (k : Bx t g h w) (b : Below w.heap.size w w') : Bx t g h w' := (b.block g k.lt).trans k
/-- What a region holds of a head's box. -/
def HasBx (t : TypeId) (g : Nat) (h : HP.H) (w : World) : Prop := Hid (Bx t g h w) ∧ w.cell? ⟨g, 0, none⟩ = some (.int .i64 h.k) ∧ w.cell? ⟨g, 1, none⟩ = some (.int .i64 h.l) ∧ w.cell? ⟨g, 2, none⟩ = some (.int .i64 h.c) ∧ w.cell? ⟨g, 3, none⟩ = some (.int .i64 h.r) ∧ w.cell? ⟨g, 4, none⟩ = some (.int .i64 h.s)
theorem hasBx {t : TypeId} {g : Nat} {h : HP.H} {w : World} (k : Bx t g h w) : HasBx t g h w := ⟨Lib.hid k, k.cells⟩
theorem HasBx.below {t : TypeId} {g : Nat} {h : HP.H} {w w' : World} (k : HasBx t g h w) (b : Below w.heap.size w w') : HasBx t g h w' := hasBx (k.1.out.below b)
theorem HasBx.alloc {t : TypeId} {g : Nat} {h : HP.H} {w : World} (k : HasBx t g h w) (o : Obj) : HasBx t g h (w.alloc o) := k.below ((Below.refl _ w).alloc (Nat.le_refl _) _)
/-- A head is stored into its box. -/
def set5 (w : World) (g : Nat) (h : HP.H) : World := ((((w.setCell ⟨g, 0, none⟩ (.int .i64 h.k)).setCell ⟨g, 1, none⟩ (.int .i64 h.l)).setCell ⟨g, 2, none⟩ (.int .i64 h.c)).setCell ⟨g, 3, none⟩ (.int .i64 h.r)).setCell ⟨g, 4, none⟩ (.int .i64 h.s)
theorem set5_box {t : TypeId} {w : World} {g : Nat} {h : HP.H} (k : Bx t g h w) (h' : HP.H) : Bx t g h' (set5 w g h') := by
  unfold Bx at *
  unfold set5
  have h0 := heap_setCell_same w g 0 _ _ (.int .i64 h'.k) k
  have h1 := heap_setCell_same _ g 1 _ _ (.int .i64 h'.l) h0
  have h2 := heap_setCell_same _ g 2 _ _ (.int .i64 h'.c) h1
  have h3 := heap_setCell_same _ g 3 _ _ (.int .i64 h'.r) h2
  have h4 := heap_setCell_same _ g 4 _ _ (.int .i64 h'.s) h3
  exact h4
theorem set5_other {w : World} {g q : Nat} (h : q ≠ g) (h' : HP.H) : (set5 w g h').heap[q]? = w.heap[q]? := by
  unfold set5
  have hh : ∀ (W : World) (o : Nat) (v : Value), (W.setCell ⟨g, o, none⟩ v).heap[q]? = W.heap[q]? := fun W o v => Below.heap_setCell W ⟨g, o, none⟩ v q (fun e' => h (by first | exact e' | exact e'.symm))
  rw [hh, hh, hh, hh, hh]
theorem set5_below {w W : World} {g : Nat} (h : Below w.heap.size w W) (hg : w.heap.size ≤ g) (h' : HP.H) : Below w.heap.size w (set5 W g h') :=
  ((((h.setCell hg _).setCell hg _).setCell hg _).setCell hg _).setCell hg _
theorem Bx.set5 {t : TypeId} {w : World} {g q : Nat} {h : HP.H} (k : Bx t q h w) (hq : q ≠ g) (h' : HP.H) : Bx t q h (Go.Proofs.YtnjmkljnjngpkaaDoor.L7.set5 w g h') := by
  unfold Bx at *
  rw [set5_other hq]
  exact k
theorem Bx.frozen {t : TypeId} {g : Nat} {h : HP.H} {w : World} (k : Bx t g h w) : w.frozen? ⟨g, 0, none⟩ = false ∧ w.frozen? ⟨g, 1, none⟩ = false ∧ w.frozen? ⟨g, 2, none⟩ = false ∧ w.frozen? ⟨g, 3, none⟩ = false ∧ w.frozen? ⟨g, 4, none⟩ = false := by
  unfold Bx at k
  refine ⟨?_, ?_, ?_, ?_, ?_⟩ <;> simp [World.frozen?, k]
end Go.Proofs.YtnjmkljnjngpkaaDoor.L7
