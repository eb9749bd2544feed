/-
  Plain mathematics of package sum: bytes of which at most four, one behind the other, are other ones.
-/
import Derived.Test.YtklmmkcbogcbaaaDoorSPlain
namespace Go.Proofs.YtklmmkcbogcbaaaDoor.SP

theorem split256 (r : Nat) : r = 256 * (r / 256) ^^^ r % 256 := by
  apply Nat.eq_of_testBit_eq
  intro i
  have hlt : r % 256 < 2 ^ 8 := Nat.mod_lt _ (by decide)
  have e9 : r = 2 ^ 8 * (r / 256) + r % 256 := by omega
  have t1 : r.testBit i = (2 ^ 8 * (r / 256) + r % 256).testBit i := by rw [← e9]
  have t2 : (256 * (r / 256)).testBit i = (2 ^ 8 * (r / 256) + 0).testBit i := by rw [Nat.add_zero]
  rw [Nat.testBit_xor, t1, t2, Nat.testBit_two_pow_mul_add _ hlt, Nat.testBit_two_pow_mul_add _ (by decide : 0 < 2 ^ 8)]
  by_cases hi : i < 8
  · simp [hi]
  · have : (r % 256).testBit i = false := Nat.testBit_lt_two_pow (Nat.lt_of_lt_of_le hlt (Nat.pow_le_pow_right (by omega) (Nat.le_of_not_lt hi)))
    simp [hi, this]
theorem split_add (m c : Nat) (hc : c < 256) : 256 * m ^^^ c = 256 * m + c := by
  have h := split256 (256 * m + c)
  rw [show (256 * m + c) / 256 = m by omega, show (256 * m + c) % 256 = c by omega] at h
  exact h.symm

def le : List UInt8 → Nat
  | [] => 0
  | c :: l => 256 * le l + c.toNat
theorem le_lt : ∀ l : List UInt8, le l < 256 ^ l.length
  | [] => by simp [le]
  | c :: l => by
    have h := le_lt l
    have hc := c.toNat_lt
    simp only [le, List.length_cons, Nat.pow_succ]
    omega
theorem le_zero : ∀ l : List UInt8, le l = 0 → ∀ c ∈ l, c = 0
  | [], _, _, h => by cases h
  | c :: l, h, d, hd => by
    simp only [le] at h
    rcases List.mem_cons.1 hd with rfl | hd
    · apply UInt8.toNat_inj.1; simp; omega
    · exact le_zero l (by omega) d hd
theorem burst_ker : ∀ (l : List UInt8) (e : Nat), l.length ≤ 4 → e < 4294967296 → run e l = 0 → e = le l
  | [], e, _, _, h => h
  | c :: l, e, hl, he, h => by
    have hl' : l.length ≤ 3 := by simpa using hl
    have ih := burst_ker l (one e c) (by omega) (one_lt e c he) h
    have hlt := le_lt l
    have h24 : le l < 16777216 := Nat.lt_of_lt_of_le hlt (Nat.le_trans (Nat.pow_le_pow_right (by omega) hl') (by decide))
    have hb : bits (e ^^^ c.toNat) 8 = bits (256 * le l) 8 := by rw [bits8_256]; exact ih
    have hx := bits_inj _ _ (xor_lt _ _ he (u8_lt c)) (by omega) 8 hb
    have e2 : e = (e ^^^ c.toNat) ^^^ c.toNat := by rw [Nat.xor_assoc, Nat.xor_self, Nat.xor_zero]
    rw [e2, hx, split_add _ _ c.toNat_lt]
    rfl
theorem run_zeros (l : List UInt8) (h : ∀ c ∈ l, c = 0) (r : Nat) : run r l = zs l.length r := by
  have e : l = List.replicate l.length 0 := List.eq_replicate_iff.2 ⟨rfl, h⟩
  have h1 := run_lin l 0 r
  rw [Nat.zero_xor] at h1
  rw [h1]
  have h2 : run 0 l = 0 := by rw [e]; exact run_zero _
  rw [h2, Nat.zero_xor]
theorem burst_zero (a m b : List UInt8) (ha : ∀ c ∈ a, c = 0) (hb : ∀ c ∈ b, c = 0) (hm : m.length ≤ 4) (h : run 0 (a ++ m ++ b) = 0) : ∀ c ∈ m, c = 0 := by
  rw [run_append, run_append, run_zeros a ha, zs_zero, run_zeros b hb] at h
  have h2 := bits_ker _ (run_lt m 0 (by omega)) _ h
  have h3 := burst_ker m 0 hm (by omega) h2
  exact le_zero m h3.symm

/-- The bytes from i on, at most four of which are taken by exclusive or with x. -/
def burst (s : List UInt8) (i : Nat) (x : List UInt8) (k : Nat) : List UInt8 := s.mapIdx fun j c => if i ≤ j ∧ j < i + k then c ^^^ x.getD (j - i) 0 else c
theorem burst_length (s : List UInt8) (i : Nat) (x : List UInt8) (k : Nat) : (burst s i x k).length = s.length := by simp [burst]
theorem burst_none (s : List UInt8) (i : Nat) (x : List UInt8) : burst s i x 0 = s := by
  apply List.ext_getElem
  · simp [burst]
  · intro j h1 h2
    simp only [burst, List.getElem_mapIdx]
    rw [if_neg (by omega)]
theorem burst_at (s : List UInt8) (i : Nat) (x : List UInt8) (k : Nat) (h : i + k < s.length) : (burst s i x k)[i + k]? = some s[i + k] := by
  simp [burst, h]
theorem burst_set (s : List UInt8) (i : Nat) (x : List UInt8) (k : Nat) (h : i + k < s.length) : (burst s i x k).set (i + k) (s[i + k] ^^^ x.getD k 0) = burst s i x (k + 1) := by
  apply List.ext_getElem
  · simp [burst]
  · intro j h1 h2
    rw [List.getElem_set]
    simp only [burst, List.getElem_mapIdx]
    by_cases e : i + k = j
    · subst e
      rw [if_pos rfl, if_pos (by omega), show i + k - i = k by omega]
    · rw [if_neg e]
      by_cases h3 : i ≤ j ∧ j < i + k
      · rw [if_pos h3, if_pos (by omega)]
      · rw [if_neg h3, if_neg (by omega)]
theorem u8_xor_cancel (a b : UInt8) (h : a ^^^ b = 0) : a = b := by
  apply UInt8.toNat_inj.1
  apply xor_eq_zero
  rw [← UInt8.toNat_xor, h]
  rfl
theorem burst_sum (s : List UInt8) (i : Nat) (x : List UInt8) (k : Nat) (hk : k ≤ 4) (h : sum (burst s i x k) = sum s) : burst s i x k = s := by
  have hl := burst_length s i x k
  have h1 : run (inv 0) (burst s i x k) = run (inv 0) s := by
    have h2 := congrArg inv h
    show _
    have e1 : ∀ l, inv (sum l) = run (inv 0) l := fun l => inv_inv _
    rwa [e1, e1] at h2
  have h2 := run_xor (burst s i x k) s (inv 0) (inv 0) hl
  rw [Nat.xor_self, h1, Nat.xor_self] at h2
  generalize hE : List.zipWith (· ^^^ ·) (burst s i x k) s = E at h2
  have hEl : E.length = s.length := by rw [← hE]; simp [hl]
  have hEj : ∀ j (hj : j < E.length), ¬ (i ≤ j ∧ j < i + k) → E[j] = 0 := by
    intro j hj hn
    subst hE
    simp only [List.getElem_zipWith, burst, List.getElem_mapIdx]
    rw [if_neg hn]
    simp
  have hsplit : E = E.take i ++ (E.drop i).take k ++ E.drop (i + k) := by
    rw [List.append_assoc, ← List.drop_drop, List.take_append_drop, List.take_append_drop]
  have hmid := burst_zero (E.take i) ((E.drop i).take k) (E.drop (i + k)) (by
      intro c hc
      obtain ⟨j, hj, rfl⟩ := List.mem_iff_getElem.1 hc
      rw [List.getElem_take]
      rw [List.length_take] at hj
      exact hEj j (by omega) (by omega)) (by
      intro c hc
      obtain ⟨j, hj, rfl⟩ := List.mem_iff_getElem.1 hc
      rw [List.getElem_drop]
      rw [List.length_drop] at hj
      exact hEj (i + k + j) (by omega) (by omega)) (by rw [List.length_take]; omega) (by rw [← hsplit]; exact h2)
  have hall : ∀ j (hj : j < E.length), E[j] = 0 := by
    intro j hj
    by_cases hn : i ≤ j ∧ j < i + k
    · apply hmid
      rw [List.mem_iff_getElem]
      refine ⟨j - i, by rw [List.length_take, List.length_drop]; omega, ?_⟩
      rw [List.getElem_take, List.getElem_drop]
      congr 1
      omega
    · exact hEj j hj hn
  apply List.ext_getElem hl
  intro j h3 h4
  have h5 := hall j (by omega)
  subst hE
  rw [List.getElem_zipWith] at h5
  exact u8_xor_cancel _ _ h5
end Go.Proofs.YtklmmkcbogcbaaaDoor.SP
