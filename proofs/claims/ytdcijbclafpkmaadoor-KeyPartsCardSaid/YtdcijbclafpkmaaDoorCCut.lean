/-
  Walk of the laws' own Cut.
-/
import Derived.Test.YtdcijbclafpkmaaDoorCFixed
namespace Go.Proofs.YtdcijbclafpkmaaDoor
open Go.RowKit
set_option linter.unusedVariables false
set_option linter.unusedSimpArgs false

theorem gotV_eq (K I U : Int) (S : List UInt8) (to e : Nat) : gotV (⟨K, I, U, S⟩, to, e) = .tuple #[.agg #[.int .i64 K, .int .i64 I, .int .u64 U, .string ⟨S.toArray⟩], .int .i64 to, .int .i64 e] := rfl

theorem cut_any (K I U : Int) (S : ByteArray) (hS : S.size ≤ maxLen) : ∃ T : ByteArray, T.size ≤ 60 ∧ ∀ w, Calls Tryd.prog 22 #[.agg #[.int .i64 K, .int .i64 I, .int .u64 U, .string S]] w fun e w' => e = .returned (.agg #[.int .i64 K, .int .i64 I, .int .u64 U, .string T]) ∧ Below w.heap.size w w' := by
  unfold maxLen at hS
  obtain ⟨m, hm, hm1, hms, hm2, hts⟩ := cut_min S 60 (by omega)
  refine ⟨S.extract 0 m, by omega, fun w => ?_⟩
  clear hts
  go_enter Tryd.func22, Tryd.ntmps22
  go_wp2_with fail
  refine bodyPost_ret (v := .agg #[.int .i64 K, .int .i64 I, .int .u64 U, .string (S.extract 0 m)]) (by simp [results, Tryd.results22, go_sem]) rfl ⟨rfl, ?_⟩
  first | exact below_alloc2 _ _ _ | exact ((below_alloc2 _ _ _).setCell (by simp) _)

/-- A column is stored into its box. -/
def set4 (w : World) (g : Nat) (K I U : Int) (T : ByteArray) : World := (((w.setCell ⟨g, 0, none⟩ (.int .i64 K)).setCell ⟨g, 1, none⟩ (.int .i64 I)).setCell ⟨g, 2, none⟩ (.int .u64 U)).setCell ⟨g, 3, none⟩ (.string T)
theorem set4_box {w : World} {g : Nat} {K I U : Int} {S : ByteArray} (h : Box g K I U S w) (K' I' U' : Int) (T : ByteArray) : Box g K' I' U' T (set4 w g K' I' U' T) := by
  unfold Box at *
  unfold set4
  have h0 := heap_setCell_same w g 0 _ _ (.int .i64 K') h
  have h1 := heap_setCell_same _ g 1 _ _ (.int .i64 I') h0
  have h2 := heap_setCell_same _ g 2 _ _ (.int .u64 U') h1
  have h3 := heap_setCell_same _ g 3 _ _ (.string T) h2
  exact h3
theorem set4_other {w : World} {g q : Nat} (h : q ≠ g) (K I U : Int) (T : ByteArray) : (set4 w g K I U T).heap[q]? = w.heap[q]? := by
  unfold set4
  have hh : ∀ (W : World) (o : Nat) (v : Value), (W.setCell ⟨g, o, none⟩ v).heap[q]? = W.heap[q]? := fun W o v => Below.heap_setCell W ⟨g, o, none⟩ v q (fun e' => h (by first | exact e' | exact e'.symm))
  rw [hh, hh, hh, hh]
theorem set4_below {w W : World} {g : Nat} (h : Below w.heap.size w W) (hg : w.heap.size ≤ g) (K I U : Int) (T : ByteArray) : Below w.heap.size w (set4 W g K I U T) :=
  (((h.setCell hg _).setCell hg _).setCell hg _).setCell hg _
theorem Box.set4 {w : World} {g q : Nat} {K I U : Int} {S : ByteArray} (h : Box q K I U S w) (hq : q ≠ g) (K' I' U' : Int) (T : ByteArray) : Box q K I U S (Go.Proofs.YtdcijbclafpkmaaDoor.set4 w g K' I' U' T) := by
  unfold Box at *
  rw [set4_other hq]
  exact h
/-- A block that holds two texts. -/
def Pair (g : Nat) (x y : ByteArray) (w : World) : Prop := w.heap[g]? = some (.cells #[.string x, .string y] 43 (0, 0))
theorem Pair.below {g : Nat} {x y : ByteArray} {w w' : World} (h : Pair g x y w) (b : Below w.heap.size w w') : Pair g x y w' := by
  unfold Pair at *
  rw [b.block g (lt_of_heap h)]
  exact h
theorem Pair.cells {g : Nat} {x y : ByteArray} {w : World} (h : Pair g x y w) : w.cell? ⟨g, 0, none⟩ = some (.string x) ∧ w.cell? ⟨g, 1, none⟩ = some (.string y) := by
  unfold Pair at h
  refine ⟨?_, ?_⟩ <;> simp [World.cell?, h]
theorem Pair.set4 {w : World} {g q : Nat} {x y : ByteArray} (h : Pair q x y w) (hq : q ≠ g) (K' I' U' : Int) (T : ByteArray) : Pair q x y (Go.Proofs.YtdcijbclafpkmaaDoor.set4 w g K' I' U' T) := by
  unfold Pair at *
  rw [set4_other hq]
  exact h
end Go.Proofs.YtdcijbclafpkmaaDoor
