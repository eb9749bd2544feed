/-
  What the laws of layer 7 share: cut texts, bodies filled up with bytes 0, heads compared.
-/
import Derived.Test.YtklmmkcbogcbaaaDoorHTells
namespace Go.Proofs.YtklmmkcbogcbaaaDoor
open Go.RowKit
set_option linter.unusedVariables false
set_option linter.unusedSimpArgs false

theorem cut_min (s : ByteArray) (c : Int) (hc : 0 ≤ c) : ∃ m : Nat, min (s.size : Int) c = m ∧ (m : Int) ≤ c ∧ m ≤ s.size ∧ min m s.size = m ∧ (s.extract 0 m).size = m := by
  refine ⟨min s.size c.toNat, by omega, by omega, by omega, by omega, ?_⟩
  simp
/-- Are two heads the same? (not looked into by a walk) -/
def sameH (g h : HP.H) : Bool := g.k == h.k && (g.l == h.l && (g.c == h.c && (g.r == h.r && g.s == h.s)))
theorem sameH_iff {g h : HP.H} : sameH g h = true ↔ g = h := by
  obtain ⟨a, b, c, d, e⟩ := g
  obtain ⟨a', b', c', d', e'⟩ := h
  simp [sameH]
theorem eql_head (g h : HP.H) (w : World) :
    (binOp .eql 23 (.agg #[.int .i64 g.k, .int .i64 g.l, .int .i64 g.c, .int .i64 g.r, .int .i64 g.s]) (.agg #[.int .i64 h.k, .int .i64 h.l, .int .i64 h.c, .int .i64 h.r, .int .i64 h.s])).run Tryd.prog w = .ok (.bool (sameH g h)) w := by
  unfold sameH
  cases h1 : (g.k == h.k) <;> cases h2 : (g.l == h.l) <;> cases h3 : (g.c == h.c) <;> cases h4 : (g.r == h.r) <;> cases h5 : (g.s == h.s) <;> simp [go_sem, h1, h2, h3, h4, h5]
/-- A body filled up with bytes 0. -/
theorem filled (X : ByteArray) (c : Nat) (hX : X.size ≤ c) (hc : c ≤ 100000) : ∃ (n : Nat) (Z A : ByteArray), (n : Int) = c - (X.size : Int) ∧
    Hid (Tells 17 #[.int .u8 0, .int .i64 n] (.string Z)) ∧ X ++ Z = A ∧ A.size = c ∧ ¬ 9223372036854775807 < X.size + Z.size ∧ ¬ (9223372036854775807 : Int) < (X.size : Int) + (Z.size : Int) ∧
    A.data.toList = X.data.toList ++ List.replicate n 0 := by
  obtain ⟨n, hn⟩ : ∃ n : Nat, n = c - X.size := ⟨_, rfl⟩
  have hz := sizeOf (List.replicate n (0 : UInt8))
  rw [List.length_replicate] at hz
  refine ⟨n, ⟨(List.replicate n (0 : UInt8)).toArray⟩, _, by omega, tRepeat 0 n (by omega), rfl, ?_, by omega, by omega, ?_⟩
  · rw [ByteArray.size_append]; omega
  · simp
/-- A full body's page. -/
theorem rest_full (A : ByteArray) (p : Nat) (h : A.size + 16 = p) : HP.rest A.data.toList p = A.data.toList := by
  unfold HP.rest
  rw [show p - 16 - A.data.toList.length = 0 by simp; omega]
  simp
theorem same_list (S T : ByteArray) : (S.toList == T.toList) = decide (S = T) := by
  rw [Lib.toList_data, Lib.toList_data]
  by_cases h : S = T
  · subst h; simp
  · rw [decide_eq_false h]
    exact beq_eq_false_iff_ne.2 fun e => h (ByteArray.ext (Array.toList_inj.1 e))
end Go.Proofs.YtklmmkcbogcbaaaDoor
