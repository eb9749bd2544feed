/-
  Plain facts about how many bytes a number has.
-/
import Derived.Test.YtbaihnjlplmldaaWPlain
namespace Go.Proofs.Ytbaihnjlplmldaa
namespace WP
/-- where the numbers' bytes become one more -/
def edges : List Int := [241, 2288, 67824, 16777216, 4294967296, 1099511627776, 281474976710656, 72057594037927936]
def edge (k : Nat) : Int := edges.getD k 0
theorem edge_cases (k : Nat) (h : k < 8) : 1 ≤ edge k ∧ edge k ≤ 72057594037927936 ∧ size (edge k).toNat = k + 2 ∧ size (edge k - 1).toNat = k + 1 := by
  rcases (show k = 0 ∨ k = 1 ∨ k = 2 ∨ k = 3 ∨ k = 4 ∨ k = 5 ∨ k = 6 ∨ k = 7 by omega) with rfl | rfl | rfl | rfl | rfl | rfl | rfl | rfl <;> decide +kernel
/-- the size that a number has by the edges below k -/
def upTo (a : Int) : Nat → Nat
  | 0 => 1
  | k + 1 => if edge k ≤ a then k + 2 else upTo a k
theorem size_cases (n : Nat) : (n < 241 ∧ size n = 1) ∨ (241 ≤ n ∧ n < 2288 ∧ size n = 2) ∨ (2288 ≤ n ∧ n < 67824 ∧ size n = 3) ∨ (67824 ≤ n ∧ n < 16777216 ∧ size n = 4) ∨ (16777216 ≤ n ∧ n < 4294967296 ∧ size n = 5) ∨ (4294967296 ≤ n ∧ n < 1099511627776 ∧ size n = 6) ∨ (1099511627776 ≤ n ∧ n < 281474976710656 ∧ size n = 7) ∨ (281474976710656 ≤ n ∧ n < 72057594037927936 ∧ size n = 8) ∨ (72057594037927936 ≤ n ∧ size n = 9) := by
  unfold size
  split
  · omega
  split
  · omega
  split
  · omega
  unfold bl
  rw [if_neg (by omega), if_neg (by omega), if_neg (by omega)]
  split
  · omega
  split
  · omega
  split
  · omega
  split
  · omega
  split <;> omega
theorem size_mono (a b : Nat) (h : a ≤ b) : size a ≤ size b := by
  have hb := size_cases b
  rcases size_cases a with h | h | h | h | h | h | h | h | h <;> omega
theorem size_upTo (a : Int) (h0 : 0 ≤ a) : upTo a 8 = size a.toNat := by
  have hc := size_cases a.toNat
  simp only [upTo, edge, edges, List.getD_cons_zero, List.getD_cons_succ]
  rcases hc with h | h | h | h | h | h | h | h | h
  all_goals
    (repeat rw [if_neg (by omega)])
    first | omega | (rw [if_pos (by omega)]; omega)
theorem upTo_le (a : Int) (k : Nat) : upTo a k ≤ k + 1 := by
  cases k with
  | zero => simp [upTo]
  | succ k =>
    induction k with
    | zero => simp only [upTo]; split <;> omega
    | succ k ih => simp only [upTo] at *; split <;> omega
end WP
end Go.Proofs.Ytbaihnjlplmldaa
