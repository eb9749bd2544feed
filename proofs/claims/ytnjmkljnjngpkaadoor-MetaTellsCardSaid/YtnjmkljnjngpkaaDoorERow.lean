/-
  Slices of texts, read.
-/
import Derived.WalkKit
import Derived.ProofKit
import Derived.Below
import Derived.Test.YtnjmkljnjngpkaaDoorChecked
import Derived.Test.YtnjmkljnjngpkaaDoorEPlain
import Derived.Lib.Strings
import Derived.Lib.Hide
import Derived.Laws.OwnMore
import Derived.Deep.AppendLies
import Derived.Deep.QuietTactic
namespace Go.Proofs.YtnjmkljnjngpkaaDoor.L5
open Go.RowKit
set_option linter.unusedVariables false
theorem below_alloc (w : World) (o : Obj) : Below w.heap.size w (w.alloc o) := (Below.refl _ w).alloc (Nat.le_refl _) o
theorem below_drewN {c : Nat} {w v : World} (h : Below c w v) (n : Nat) : Below c w (v.drewN n) := ⟨h.os, h.tape, h.output, h.size, h.block⟩
theorem below_of_drew {w v : World} (h : Below w.drew.heap.size w.drew v) : Below w.heap.size w v := ⟨h.os, h.tape, h.output, h.size, h.block⟩
/-- A text's bytes. -/
abbrev B (s : ByteArray) : List UInt8 := s.data.toList
theorem b_size (s : ByteArray) : (B s).length = s.size := by simp [B]
theorem addr_block (a : Addr) (n : Nat) : (a.add n).block = a.block := by unfold Addr.add; split <;> rfl
theorem addr_add (a : Addr) (i j : Nat) : (a.add i).add j = a.add (i + j) := by
  unfold Addr.add
  by_cases hi : i = 0 <;> by_cases hj : j = 0 <;> simp [hi, hj, Nat.add_assoc]

/-- Behind an address below block b stand these texts. -/
def Lies (w : World) (b : Nat) (A : Option Addr) (l : List ByteArray) : Prop :=
  ∀ i s, l[i]? = some s → ∃ a, A = some a ∧ a.block < b ∧ w.cell? (a.add i) = some (.string s)
section
variable {w w' : World} {b b' : Nat} {A : Option Addr} {l : List ByteArray}
theorem Lies.nil (w : World) (b : Nat) (A : Option Addr) : Lies w b A [] := fun i c h => by simp at h
theorem Lies.keep (h : Lies w b A l) (hk : ∀ p : Addr, p.block < b → w'.cell? p = w.cell? p) : Lies w' b A l := fun i c hc => by
  obtain ⟨a, e, hb, hx⟩ := h i c hc
  exact ⟨a, e, hb, (hk _ (by rw [addr_block]; exact hb)).trans hx⟩
theorem Lies.more (h : Lies w b A l) (hB : b ≤ b') : Lies w b' A l := fun i c hc => by
  obtain ⟨a, e, hb, hx⟩ := h i c hc
  exact ⟨a, e, by omega, hx⟩
theorem Lies.below (h : Lies w b A l) (k : Below b w w') : Lies w' b A l := h.keep fun _ hp => k.cell hp
/-- The same slice, in a later world. -/
theorem Lies.on (h : Lies w w.heap.size A l) (k : Below w.heap.size w w') : Lies w' w'.heap.size A l := (h.below k).more k.size
theorem Lies.tail {s : ByteArray} {a : Addr} (h : Lies w b (some a) (s :: l)) : Lies w b (some (a.add 1)) l := fun i c hc => by
  obtain ⟨a', e, hb, hx⟩ := h (i + 1) c (by simpa using hc)
  obtain rfl := Option.some.inj e
  exact ⟨_, rfl, by rw [addr_block]; exact hb, by rw [addr_add, Nat.add_comm]; exact hx⟩
end
/-- The cells of texts. -/
def strCells (l : List ByteArray) : List Value := l.map Value.string
theorem strCells_length (l : List ByteArray) : (strCells l).length = l.length := by simp [strCells]
theorem strCells_snoc (l : List ByteArray) (s : ByteArray) : strCells (l ++ [s]) = strCells l ++ [.string s] := by simp [strCells]
/-- A block that is just these texts. -/
theorem lies_new (w : World) (t : TypeId) (l : List ByteArray) : Lies (w.alloc (.cells (strCells l).toArray t)) (w.alloc (.cells (strCells l).toArray t)).heap.size (some ⟨w.heap.size, 0, none⟩) l := fun i c hc =>
  ⟨_, rfl, by simp, World.news_of_block (heap_alloc_new w _) _ _ (by simp [strCells, hc])⟩
/-- A row that the call owns, read. -/
theorem lies_own {w : World} {base e : Nat} {A : Option Addr} {n cap : Nat} {l : List ByteArray} (h : w.ownsRow base e 1 (.slice A n cap) n (strCells l)) (hn : n = l.length) : Lies w w.heap.size A l := fun i c hc => by
  have hi : i < l.length := (List.getElem?_eq_some_iff.1 hc).1
  obtain ⟨g, cap', hv, _, hlt⟩ := h.form (by omega)
  have hA : A = some ⟨g, 0, none⟩ := by injection hv
  subst hA
  exact ⟨_, rfl, hlt, h.cells (g := g) rfl _ _ (by simp [strCells, hc])⟩
end Go.Proofs.YtnjmkljnjngpkaaDoor.L5
