/-
  What the laws that take a head and a body share: their boxes.
-/
import Derived.Test.YtklmmkcbogcbaaaDoorHCut
namespace Go.Proofs.YtklmmkcbogcbaaaDoor
open Go.RowKit
set_option linter.unusedVariables false

/-- A body's box. -/
def By (g : Nat) (S : ByteArray) (p : Int) (w : World) : Prop := w.heap[g]? = some (.cells #[.string S, .int .i64 p] 25 (0, 0))
theorem By.cells {g : Nat} {S : ByteArray} {p : Int} {w : World} (k : By g S p w) : w.cell? ⟨g, 0, none⟩ = some (.string S) ∧ w.cell? ⟨g, 1, none⟩ = some (.int .i64 p) := by
  unfold By at k
  refine ⟨?_, ?_⟩ <;> simp [World.cell?, k]
theorem By.lt {g : Nat} {S : ByteArray} {p : Int} {w : World} (k : By g S p w) : g < w.heap.size := (Array.getElem?_eq_some_iff.1 k).1
theorem By.below {g : Nat} {S : ByteArray} {p : Int} {w w' : World} (k : By g S p w) (b : Below w.heap.size w w') : By g S p w' := (b.block g k.lt).trans k
/-- A head's box, and a body's. -/
theorem body_boxes (h : HP.H) (S : ByteArray) (p : Int) (w : World) (hs : Sizes w) : ∃ W0,
    (w.alloc (.cells #[.int .i64 h.k, .int .i64 h.l, .int .i64 h.c, .int .i64 h.r, .int .i64 h.s] 23)).alloc (.cells #[.string S, .int .i64 p] 25) = W0 ∧
    Hid (Below w.heap.size w W0) ∧ Hid (Sizes W0) ∧ Hid (Bx 23 w.heap.size h W0) ∧ Hid (By (w.heap.size + 1) S p W0) := by
  refine ⟨_, rfl, Lib.hid ((below_alloc _ _).trans' (below_alloc _ _)), Lib.hid ((hs.alloc _).alloc _), Lib.hid ?_, Lib.hid ?_⟩
  · exact (show Bx 23 w.heap.size h (w.alloc _) from heap_alloc_new _ _).below (below_alloc _ _)
  · have k := heap_alloc_new (w.alloc (.cells #[.int .i64 h.k, .int .i64 h.l, .int .i64 h.c, .int .i64 h.r, .int .i64 h.s] 23)) (.cells #[.string S, .int .i64 p] 25)
    unfold By
    simpa using k
/-- What is sealed: nothing, or a page. -/
theorem sea_parts (h : HP.H) (b : ByteArray) (p : Int) : ((HP.sea h b p).1 = ⟨#[]⟩ ∧ ((HP.sea h b p).2 == 0) = false) ∨
    (∃ q : Nat, p = q ∧ mayBe p = true ∧ HP.Ok h ∧ b.size + 16 ≤ q ∧ 128 ≤ q ∧ q ≤ 1024 ∧ HP.sea h b p = (⟨(HP.page (HP.front h) (HP.rest b.data.toList q)).toArray⟩, 0)) := by
  rcases HP.seal_cases h b p with (e | e | e) | ⟨hm, hr, hb, e⟩
  · exact .inl (by rw [e]; exact ⟨rfl, by decide⟩)
  · exact .inl (by rw [e]; exact ⟨rfl, by decide⟩)
  · exact .inl (by rw [e]; exact ⟨rfl, by decide⟩)
  · have hpb := HP.mayBe_bd hm
    obtain ⟨q, rfl⟩ := Int.eq_ofNat_of_zero_le (show 0 ≤ p by omega)
    exact .inr ⟨q, rfl, hm, hr, by omega, by omega, by omega, by rw [e, Int.toNat_natCast]⟩
end Go.Proofs.YtklmmkcbogcbaaaDoor
