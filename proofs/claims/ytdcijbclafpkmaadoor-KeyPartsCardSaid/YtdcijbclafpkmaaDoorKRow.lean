/-
  Rows of columns: a slice whose elements are columns, read and owned.
-/
import Derived.Test.YtdcijbclafpkmaaDoorCGetT
import Derived.Test.YtdcijbclafpkmaaDoorKPlain
import Derived.Laws.OwnMore
import Derived.Deep.AppendLies
namespace Go.Proofs.YtdcijbclafpkmaaDoor
open Go.RowKit
set_option linter.unusedVariables false

/-- A column whose text is given as bytes. -/
structure QC where
  k : Int
  i : Int
  u : Int
  s : ByteArray
def QC.val (c : QC) : Value := .agg #[.int .i64 c.k, .int .i64 c.i, .int .u64 c.u, .string c.s]
def QC.four (c : QC) : List Value := [.int .i64 c.k, .int .i64 c.i, .int .u64 c.u, .string c.s]
def QC.col (c : QC) : CP.Col := ⟨c.k, c.i, c.u, c.s.data.toList⟩
def cols (l : List QC) : List CP.Col := l.map QC.col
def fours (l : List QC) : List Value := l.flatMap QC.four
theorem cols_length (l : List QC) : (cols l).length = l.length := by simp [cols]
theorem cols_append (l m : List QC) : cols (l ++ m) = cols l ++ cols m := by simp [cols]
theorem cols_take (l : List QC) (k : Nat) : cols (l.take k) = (cols l).take k := by simp [cols]
theorem fours_append (l m : List QC) : fours (l ++ m) = fours l ++ fours m := by simp [fours]
theorem fours_one (c : QC) : fours [c] = c.four := by simp [fours]
theorem fours_length : ∀ (l : List QC), (fours l).length = l.length * 4
  | [] => rfl
  | c :: l => by
    have := fours_length l
    simp only [fours, List.flatMap_cons, List.length_append, List.length_cons] at *
    rw [this]
    simp [QC.four]
    omega
theorem fours_get : ∀ (l : List QC) (i j : Nat) (c : QC) (v : Value), l[i]? = some c → c.four[j]? = some v → (fours l)[i * 4 + j]? = some v
  | [], i, j, c, v, h, _ => by simp at h
  | d :: l, 0, j, c, v, h, hv => by
    simp at h
    subst h
    have hj : j < d.four.length := (List.getElem?_eq_some_iff.1 hv).1
    rw [fours, List.flatMap_cons, List.getElem?_append_left (by simpa using hj)]
    simpa using hv
  | d :: l, i + 1, j, c, v, h, hv => by
    have := fours_get l i j c v (by simpa using h) hv
    rw [fours, List.flatMap_cons, List.getElem?_append_right (by simp [QC.four]; omega)]
    rw [show (i + 1) * 4 + j - d.four.length = i * 4 + j by simp [QC.four]; omega]
    exact this
/-- A column of plain numbers and bytes, from the plain one. -/
def qc (c : CP.Col) : QC := ⟨c.k, c.i, c.u, ⟨c.s.toArray⟩⟩
theorem qc_col (c : CP.Col) : (qc c).col = c := rfl
theorem cols_qc (l : List CP.Col) : cols (l.map qc) = l := by
  unfold cols
  rw [List.map_map]
  conv => rhs; rw [← List.map_id l]
  exact List.map_congr_left fun c _ => qc_col c

theorem addr_block (a : Addr) (n : Nat) : (a.add n).block = a.block := by unfold Addr.add; split <;> rfl
theorem addr_add (a : Addr) (i j : Nat) : (a.add i).add j = a.add (i + j) := by
  unfold Addr.add
  by_cases hi : i = 0 <;> by_cases hj : j = 0 <;> simp [hi, hj, Nat.add_assoc]

/-- Behind an address below block B stand these columns. -/
def Lies (w : World) (B : Nat) (A : Option Addr) (l : List QC) : Prop :=
  ∀ i c, l[i]? = some c → ∃ a, A = some a ∧ a.block < B ∧ ∀ j v, c.four[j]? = some v → w.cell? ((a.add (i * 4)).add j) = some v
section
variable {w w' : World} {B B' : Nat} {A : Option Addr} {l : List QC}
theorem Lies.nil (w : World) (B : Nat) (A : Option Addr) : Lies w B A [] := fun i c h => by simp at h
theorem Lies.keep (h : Lies w B A l) (hk : ∀ p : Addr, p.block < B → w'.cell? p = w.cell? p) : Lies w' B A l := fun i c hc => by
  obtain ⟨a, e, hb, hx⟩ := h i c hc
  exact ⟨a, e, hb, fun j v hv => (hk _ (by rw [addr_block, addr_block]; exact hb)).trans (hx j v hv)⟩
theorem Lies.more (h : Lies w B A l) (hB : B ≤ B') : Lies w B' A l := fun i c hc => by
  obtain ⟨a, e, hb, hx⟩ := h i c hc
  exact ⟨a, e, by omega, hx⟩
theorem Lies.below (h : Lies w B A l) (b : Below B w w') : Lies w' B A l := h.keep fun _ hp => b.cell hp
theorem Lies.below' {C : Nat} (h : Lies w B A l) (b : Below C w w') (hC : B ≤ C) : Lies w' B A l := h.keep fun _ hp => b.cell (by omega)
theorem Lies.take (h : Lies w B A l) (k : Nat) : Lies w B A (l.take k) := fun i c hc => by
  refine h i c ?_
  rw [List.getElem?_take] at hc
  split at hc
  · exact hc
  · simp at hc
/-- The cells of one column, as the walk asks for them. -/
def At (w : World) (a : Addr) (K I U : Int) (S : ByteArray) : Prop :=
  w.cell? a = some (.int .i64 K) ∧ w.cell? ⟨a.block, a.off + 1, none⟩ = some (.int .i64 I) ∧ w.cell? ⟨a.block, a.off + 2, none⟩ = some (.int .u64 U) ∧ w.cell? ⟨a.block, a.off + 3, none⟩ = some (.string S)
theorem Lies.load (h : Lies w B A l) {i : Nat} {K I U : Int} {S : ByteArray} (hc : l[i]? = some ⟨K, I, U, S⟩) : ∃ a, A = some a ∧ a.block < B ∧ At w (a.add (i * 4)) K I U S := by
  obtain ⟨a, e, hb, hx⟩ := h i _ hc
  exact ⟨a, e, hb, hx 0 _ rfl, hx 1 _ rfl, hx 2 _ rfl, hx 3 _ rfl⟩
end
/-- A row that the call owns, read. -/
theorem lies_own {w : World} {base e : Nat} {A : Option Addr} {n cap : Nat} {l : List QC} (h : w.ownsRow base e 4 (.slice A n cap) n (fours l)) (hn : n = l.length) : Lies w w.heap.size A l := fun i c hc => by
  have hi : i < l.length := (List.getElem?_eq_some_iff.1 hc).1
  obtain ⟨g, cap', hv, _, hlt⟩ := h.form (by omega)
  have hA : A = some ⟨g, 0, none⟩ := by injection hv
  subst hA
  refine ⟨_, rfl, hlt, fun j v hv => ?_⟩
  rw [addr_add]
  exact h.cells (g := g) rfl _ _ (fours_get l i j c v hc hv)
end Go.Proofs.YtdcijbclafpkmaaDoor
