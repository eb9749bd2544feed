/-
  Plain mathematics of package sum: the register of CRC-32C as natural numbers, its linearity, and what follows.
-/
namespace Go.Proofs.YtnjmkljnjngpkaaDoor.L7.SP

/-- One bit. -/
def bit (r : Nat) : Nat := if r % 2 = 1 then r / 2 ^^^ 2197175160 else r / 2
/-- k bits. -/
def bits (r : Nat) : Nat → Nat
  | 0 => r
  | k + 1 => bit (bits r k)
/-- A byte. -/
def one (r : Nat) (c : UInt8) : Nat := bits (r ^^^ c.toNat) 8
/-- Bytes. -/
def run (r : Nat) (l : List UInt8) : Nat := l.foldl one r
/-- All bits turned. -/
def inv (r : Nat) : Nat := 4294967295 ^^^ r
def more (c : Nat) (l : List UInt8) : Nat := inv (run (inv c) l)
def sum (l : List UInt8) : Nat := more 0 l
theorem xor_mod2 (a b : Nat) : (a ^^^ b) % 2 = (a % 2 + b % 2) % 2 := by
  have h := Nat.xor_mod_two_eq_one (a := a) (b := b)
  omega
theorem xor_div2 (a b : Nat) : (a ^^^ b) / 2 = a / 2 ^^^ b / 2 := Nat.xor_div_two
theorem x4 (a b c d : Nat) : (a ^^^ b) ^^^ (c ^^^ d) = (a ^^^ c) ^^^ (b ^^^ d) := by
  rw [Nat.xor_assoc, Nat.xor_assoc, ← Nat.xor_assoc b, Nat.xor_comm b c, Nat.xor_assoc c]
theorem bit_lt (r : Nat) (h : r < 4294967296) : bit r < 4294967296 := by
  unfold bit
  split
  · exact Nat.xor_lt_two_pow (n := 32) (by omega) (by omega)
  · omega
theorem bits_lt (r : Nat) (h : r < 4294967296) : ∀ k, bits r k < 4294967296
  | 0 => h
  | k + 1 => bit_lt _ (bits_lt r h k)
theorem bit_lin (a b : Nat) : bit (a ^^^ b) = bit a ^^^ bit b := by
  unfold bit
  rw [xor_mod2, xor_div2]
  rcases Nat.mod_two_eq_zero_or_one a with ha | ha <;> rcases Nat.mod_two_eq_zero_or_one b with hb | hb <;> simp only [ha, hb]
  · rfl
  · simp [Nat.xor_assoc]
  · simp [Nat.xor_assoc]; rw [Nat.xor_comm (b / 2)]
  · simp; rw [x4]; simp
theorem bits_lin (a b : Nat) : ∀ k, bits (a ^^^ b) k = bits a k ^^^ bits b k
  | 0 => rfl
  | k + 1 => by simp only [bits]; rw [bits_lin a b k, bit_lin]
theorem bit_even (m : Nat) : bit (2 * m) = m := by
  unfold bit
  rw [if_neg (by omega)]
  omega
theorem bits_even : ∀ k m : Nat, bits (2 ^ k * m) k = m
  | 0, m => by simp [bits]
  | k + 1, m => by
    show bit (bits (2 ^ (k + 1) * m) k) = m
    rw [Nat.pow_succ, Nat.mul_assoc, bits_even k (2 * m), bit_even]
theorem bits8_256 (m : Nat) : bits (256 * m) 8 = m := by have h := bits_even 8 m; rwa [show (2 : Nat) ^ 8 = 256 by decide] at h
theorem xor_lt (a b : Nat) (ha : a < 4294967296) (hb : b < 4294967296) : a ^^^ b < 4294967296 := Nat.xor_lt_two_pow (n := 32) ha hb
theorem inv_lt (r : Nat) (h : r < 4294967296) : inv r < 4294967296 := by unfold inv; exact xor_lt _ _ (by omega) h
theorem inv_gen (N r : Nat) (h : r < 2 ^ N) : (2 ^ N - 1) ^^^ r = 2 ^ N - (r + 1) := by
  apply Nat.eq_of_testBit_eq
  intro i
  rw [Nat.testBit_xor, Nat.testBit_two_pow_sub_succ h, Nat.testBit_two_pow_sub_one]
  by_cases hi : i < N
  · simp [hi]
  · have : r.testBit i = false := Nat.testBit_lt_two_pow (Nat.lt_of_lt_of_le h (Nat.pow_le_pow_right (by omega) (Nat.le_of_not_lt hi)))
    simp [hi, this]
theorem inv_sub (r : Nat) (h : r < 4294967296) : inv r = 4294967295 - r := by
  have e := inv_gen 32 r h
  have e2 : (2 : Nat) ^ 32 = 4294967296 := by decide
  have e3 : (4294967296 : Nat) - 1 = 4294967295 := by decide
  rw [e2, e3] at e
  unfold inv
  rw [e]
  omega
theorem u8_lt (c : UInt8) : c.toNat < 4294967296 := by have := c.toNat_lt; omega
theorem one_lt (r : Nat) (c : UInt8) (h : r < 4294967296) : one r c < 4294967296 := bits_lt _ (xor_lt _ _ h (u8_lt c)) 8
theorem run_lt : ∀ (l : List UInt8) (r : Nat), r < 4294967296 → run r l < 4294967296
  | [], _, h => h
  | c :: l, r, h => run_lt l (one r c) (one_lt r c h)
theorem run_snoc (r : Nat) (s : List UInt8) (c : UInt8) : run r (s ++ [c]) = one (run r s) c := by simp [run]
theorem more_lt (c : Nat) (l : List UInt8) (h : c < 4294967296) : more c l < 4294967296 := inv_lt _ (run_lt _ _ (inv_lt _ h))
theorem sum_lt (l : List UInt8) : sum l < 4294967296 := more_lt 0 l (by omega)
/-- The table: one byte at once. -/
theorem one_table (r : Nat) (c : UInt8) : one r c = r / 256 ^^^ bits (r % 256 ^^^ c.toNat) 8 := by
  have e : r = 256 * (r / 256) ^^^ r % 256 := by
    apply Nat.eq_of_testBit_eq
    intro i
    have hlt : r % 256 < 2 ^ 8 := Nat.mod_lt _ (by decide)
    have e9 : r = 2 ^ 8 * (r / 256) + r % 256 := by omega
    have t1 : r.testBit i = (2 ^ 8 * (r / 256) + r % 256).testBit i := by rw [← e9]
    have t2 : (256 * (r / 256)).testBit i = (2 ^ 8 * (r / 256) + 0).testBit i := by rw [Nat.add_zero]
    rw [Nat.testBit_xor, t1, t2, Nat.testBit_two_pow_mul_add _ hlt, Nat.testBit_two_pow_mul_add _ (by decide : 0 < 2 ^ 8)]
    by_cases hi : i < 8
    · simp [hi]
    · have : (r % 256).testBit i = false := Nat.testBit_lt_two_pow (Nat.lt_of_lt_of_le hlt (Nat.pow_le_pow_right (by omega) (Nat.le_of_not_lt hi)))
      simp [hi, this]
  have e2 : one r c = bits (256 * (r / 256)) 8 ^^^ bits (r % 256 ^^^ c.toNat) 8 := by
    unfold one
    rw [← bits_lin, ← Nat.xor_assoc, ← e]
  rw [e2, bits8_256]
end Go.Proofs.YtnjmkljnjngpkaaDoor.L7.SP
