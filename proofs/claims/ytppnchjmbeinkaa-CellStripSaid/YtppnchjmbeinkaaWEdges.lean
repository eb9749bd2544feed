/-
  Plain facts about how many bytes a number has.
-/
import Derived.Test.YtppnchjmbeinkaaWPlain
namespace Go.Proofs.Ytppnchjmbeinkaa
namespace WP
/-- where the numbers' bytes become one more -/
def edges : List Int := [241, 2288, 67824, 16777216, 4294967296, 1099511627776, 281474976710656, 72057594037927936]
def edge (k : Nat) : Int := edges.getD k 0
theorem edge_cases (k : Nat) (h : k < 8) : 1 ≤ edge k ∧ edge k ≤ 72057594037927936 ∧ size (edge k).toNat = k + 2 ∧ size (edge k - 1).toNat = k + 1 := by
  rcases (show k = 0 ∨ k = 1 ∨ k = 2 ∨ k = 3 ∨ k = 4 ∨ k = 5 ∨ k = 6 ∨ k = 7 by omega) with rfl | rfl | rfl | rfl | rfl | rfl | rfl | rfl <;> decide +kernel
/-- the size that a number has by the edges below k -/
def upTo (a : Int) : Nat → Nat
  | 0 => 1
  | k + 1 => if edge k ≤ a then k + 2 else upTo a k
theorem size_cases (n : Nat) : (n < 241 ∧ size n = 1) ∨ (241 ≤ n ∧ n < 2288 ∧ size n = 2) ∨ (2288 ≤ n ∧ n < 67824 ∧ size n = 3) ∨ (67824 ≤ n ∧ n < 16777216 ∧ size n = 4) ∨ (16777216 ≤ n ∧ n < 4294967296 ∧ size n = 5) ∨ (4294967296 ≤ n ∧ n < 1099511627776 ∧ size n = 6) ∨ (1099511627776 ≤ n ∧ n < 281474976710656 ∧ size n = 7) ∨ (281474976710656 ≤ n ∧ n < 72057594037927936 ∧ size n = 8) ∨ (72057594037927936 ≤ n ∧ size n = 9) := by
  unfold size
  split
  · omega
  split
  · omega
  split
  · omega
  unfold bl
  rw [if_neg (by omega), if_neg (by omega), if_neg (by omega)]
  split
  · omega
  split
  · omega
  split
  · omega
  split
  · omega
  split <;> omega
theorem size_mono (a b : Nat) (h : a ≤ b) : size a ≤ size b := by
  have hb := size_cases b
  rcases size_cases a with h | h | h | h | h | h | h | h | h <;> omega
theorem size_upTo (a : Int) (h0 : 0 ≤ a) : upTo a 8 = size a.toNat := by
  have hc := size_cases a.toNat
  simp only [upTo, edge, edges, List.getD_cons_zero, List.getD_cons_succ]
  rcases hc with h | h | h | h | h | h | h | h | h
  all_goals
    (repeat rw [if_neg (by omega)])
    first | omega | (rw [if_pos (by omega)]; omega)
theorem upTo_le (a : Int) (k : Nat) : upTo a k ≤ k + 1 := by
  cases k with
  | zero => simp [upTo]
  | succ k =>
    induction k with
    | zero => simp only [upTo]; split <;> omega
    | succ k ih => simp only [upTo] at *; split <;> omega
theorem read_mid (t B : ByteArray) (k v : Nat) (hk : k ≤ t.size) (hv : v < 4294967296) (hB : B = ⟨(Lib.leBytes 4 v).toArray⟩) :
    Lib.leNat (((t.extract 0 k ++ B ++ t.extract k t.size).data.toList.drop k).take 4) = v := by
  have h1 : (t.extract 0 k ++ B ++ t.extract k t.size).data.toList = t.data.toList.take k ++ (Lib.leBytes 4 v ++ t.data.toList.drop k) := by
    rw [hB]
    simp [ByteArray.data_append, Array.toList_append]
    rw [List.take_of_length_le (by simp)]
  rw [h1, List.drop_append_of_le_length (by simp; omega), List.drop_eq_nil_of_le (by simp; omega), List.nil_append]
  rw [List.take_append_of_le_length (by simp [Lib.leBytes_length]), List.take_of_length_le (by simp [Lib.leBytes_length])]
  exact Lib.leNat_leBytes 4 v (by omega)
theorem mid_size (t B : ByteArray) (k : Nat) (hk : k ≤ t.size) (hB : B.size = 4) : (t.extract 0 k ++ B ++ t.extract k t.size).size = t.size + 4 := by
  rw [ByteArray.size_append, ByteArray.size_append, ByteArray.size_extract, ByteArray.size_extract, hB]
  omega
theorem leBytes_leNat : ∀ (l : List UInt8), Lib.leBytes l.length (Lib.leNat l) = l
  | [] => rfl
  | x :: l => by
    have hx := x.toNat_lt
    simp only [List.length_cons, Lib.leNat, Lib.leBytes]
    rw [show (x.toNat + 256 * Lib.leNat l) / 256 = Lib.leNat l by omega, leBytes_leNat l, show (x.toNat + 256 * Lib.leNat l) % 256 = x.toNat by omega]
    simp
theorem four_back (t : ByteArray) (k : Nat) (h : k + 4 ≤ t.size) : (⟨(Lib.leBytes 4 (Lib.leNat ((t.data.toList.drop k).take 4))).toArray⟩ : ByteArray) = t.extract k (k + 4) := by
  have hl : ((t.data.toList.drop k).take 4).length = 4 := by simp; omega
  have := leBytes_leNat ((t.data.toList.drop k).take 4)
  rw [hl] at this
  rw [this]
  apply ByteArray.ext
  apply Array.toList_inj.1
  rw [Lib.extract_data, show k + 4 - k = 4 by omega]
theorem leNat_four (l : List UInt8) : Lib.leNat (l.take 4) ≤ 4294967295 := by
  have h := leNat_lt (l.take 4)
  have h2 : 256 ^ (l.take 4).length ≤ 256 ^ 4 := Nat.pow_le_pow_right (by omega) (by simp; omega)
  omega
theorem get_spec (l : List UInt8) (i : Nat) : get l i = (0, 0, 7) ∨ get l i = (0, 0, 3) ∨
    ∃ n to, get l i = (n, to, 0) ∧ i < to ∧ to ≤ l.length ∧ put n = (l.drop i).take (to - i) ∧ n ≤ 18446744073709551615 := by
  unfold get
  split
  · exact .inl rfl
  · next b r hd =>
    have hfn := flw_nn b.toNat
    have hlen : l.length = i + 1 + r.length := by
      have : (l.drop i).length = (b :: r).length := by rw [hd]
      have h2 : i < l.length := by
        rcases Nat.lt_or_ge i l.length with h | h
        · exact h
        · rw [List.drop_eq_nil_of_le h] at hd; simp at hd
      simp only [List.length_drop, List.length_cons] at this
      omega
    simp only
    split
    · exact .inl rfl
    split
    · next h1 h2 =>
      refine .inr (.inr ⟨_, _, rfl, by omega, by omega, ?_, ?_⟩)
      · rw [h2, hd, show i + 1 + (flw b.toNat).toNat - i = (flw b.toNat).toNat + 1 by omega, List.take_succ_cons]
      · apply told_le
        · have := b.toNat_lt; omega
        · simp; omega
    · exact .inr (.inl rfl)
end WP
end Go.Proofs.Ytppnchjmbeinkaa
