/-
  Plain mathematics of package sum: the register of CRC-32C as natural numbers, its linearity, and what follows.
-/
namespace Go.Proofs.YtklmmkcbogcbaaaDoor.SP

/-- One bit. -/
def bit (r : Nat) : Nat := if r % 2 = 1 then r / 2 ^^^ 2197175160 else r / 2
/-- k bits. -/
def bits (r : Nat) : Nat → Nat
  | 0 => r
  | k + 1 => bit (bits r k)
/-- A byte. -/
def one (r : Nat) (c : UInt8) : Nat := bits (r ^^^ c.toNat) 8
/-- Bytes. -/
def run (r : Nat) (l : List UInt8) : Nat := l.foldl one r
/-- All bits turned. -/
def inv (r : Nat) : Nat := 4294967295 ^^^ r
def more (c : Nat) (l : List UInt8) : Nat := inv (run (inv c) l)
def sum (l : List UInt8) : Nat := more 0 l
/-- n bytes 0. -/
def zs (n : Nat) (r : Nat) : Nat := bits r (8 * n)
def join (a b n : Nat) : Nat := b ^^^ zs n a

theorem xor_mod2 (a b : Nat) : (a ^^^ b) % 2 = (a % 2 + b % 2) % 2 := by
  have h := Nat.xor_mod_two_eq_one (a := a) (b := b)
  omega
theorem xor_div2 (a b : Nat) : (a ^^^ b) / 2 = a / 2 ^^^ b / 2 := Nat.xor_div_two
theorem x4 (a b c d : Nat) : (a ^^^ b) ^^^ (c ^^^ d) = (a ^^^ c) ^^^ (b ^^^ d) := by
  rw [Nat.xor_assoc, Nat.xor_assoc, ← Nat.xor_assoc b, Nat.xor_comm b c, Nat.xor_assoc c]
theorem bit_lt (r : Nat) (h : r < 4294967296) : bit r < 4294967296 := by
  unfold bit
  split
  · exact Nat.xor_lt_two_pow (n := 32) (by omega) (by omega)
  · omega
theorem bits_lt (r : Nat) (h : r < 4294967296) : ∀ k, bits r k < 4294967296
  | 0 => h
  | k + 1 => bit_lt _ (bits_lt r h k)
theorem bit_lin (a b : Nat) : bit (a ^^^ b) = bit a ^^^ bit b := by
  unfold bit
  rw [xor_mod2, xor_div2]
  rcases Nat.mod_two_eq_zero_or_one a with ha | ha <;> rcases Nat.mod_two_eq_zero_or_one b with hb | hb <;> simp only [ha, hb]
  · rfl
  · simp [Nat.xor_assoc]
  · simp [Nat.xor_assoc]; rw [Nat.xor_comm (b / 2)]
  · simp; rw [x4]; simp
theorem bits_lin (a b : Nat) : ∀ k, bits (a ^^^ b) k = bits a k ^^^ bits b k
  | 0 => rfl
  | k + 1 => by simp only [bits]; rw [bits_lin a b k, bit_lin]
theorem bits_add (r i : Nat) : ∀ k, bits r (i + k) = bits (bits r i) k
  | 0 => rfl
  | k + 1 => by show bit (bits r (i + k)) = _; rw [bits_add r i k]; rfl
theorem bit_zero : bit 0 = 0 := by decide
theorem bits_zero : ∀ k, bits 0 k = 0
  | 0 => rfl
  | k + 1 => by show bit (bits 0 k) = 0; rw [bits_zero k]; exact bit_zero
theorem bit_even (m : Nat) : bit (2 * m) = m := by
  unfold bit
  rw [if_neg (by omega)]
  omega
theorem bits_even : ∀ k m : Nat, bits (2 ^ k * m) k = m
  | 0, m => by simp [bits]
  | k + 1, m => by
    show bit (bits (2 ^ (k + 1) * m) k) = m
    rw [Nat.pow_succ, Nat.mul_assoc, bits_even k (2 * m), bit_even]
theorem bits8_256 (m : Nat) : bits (256 * m) 8 = m := by have h := bits_even 8 m; rwa [show (2 : Nat) ^ 8 = 256 by decide] at h
theorem xor_eq_zero (a b : Nat) (h : a ^^^ b = 0) : a = b := by
  have h2 : (a ^^^ b) ^^^ b = b := by rw [h]; simp
  rwa [Nat.xor_assoc, Nat.xor_self, Nat.xor_zero] at h2
theorem bit_ker (a : Nat) (h : a < 4294967296) (h0 : bit a = 0) : a = 0 := by
  unfold bit at h0
  split at h0
  · have := xor_eq_zero _ _ h0
    omega
  · omega
theorem bits_ker (a : Nat) (h : a < 4294967296) : ∀ k, bits a k = 0 → a = 0
  | 0, h0 => h0
  | k + 1, h0 => bits_ker a h k (bit_ker _ (bits_lt a h k) h0)
theorem xor_lt (a b : Nat) (ha : a < 4294967296) (hb : b < 4294967296) : a ^^^ b < 4294967296 := Nat.xor_lt_two_pow (n := 32) ha hb
theorem bits_inj (a b : Nat) (ha : a < 4294967296) (hb : b < 4294967296) (k : Nat) (h : bits a k = bits b k) : a = b := by
  apply xor_eq_zero
  apply bits_ker _ (xor_lt a b ha hb) k
  rw [bits_lin, h, Nat.xor_self]
theorem xor_xor (a b : Nat) : a ^^^ (a ^^^ b) = b := by rw [← Nat.xor_assoc, Nat.xor_self, Nat.zero_xor]
theorem inv_lt (r : Nat) (h : r < 4294967296) : inv r < 4294967296 := by unfold inv; exact xor_lt _ _ (by omega) h
theorem inv_gen2 (F : Nat) (f : Nat → Nat) (h : ∀ r, f r = F ^^^ r) (r : Nat) : f (f r) = r := by rw [h (f r), h r]; exact xor_xor _ _
theorem inv_inv (r : Nat) : inv (inv r) = r := inv_gen2 _ inv (fun _ => rfl) r
theorem inv_gen (N r : Nat) (h : r < 2 ^ N) : (2 ^ N - 1) ^^^ r = 2 ^ N - (r + 1) := by
  apply Nat.eq_of_testBit_eq
  intro i
  rw [Nat.testBit_xor, Nat.testBit_two_pow_sub_succ h, Nat.testBit_two_pow_sub_one]
  by_cases hi : i < N
  · simp [hi]
  · have : r.testBit i = false := Nat.testBit_lt_two_pow (Nat.lt_of_lt_of_le h (Nat.pow_le_pow_right (by omega) (Nat.le_of_not_lt hi)))
    simp [hi, this]
theorem inv_sub (r : Nat) (h : r < 4294967296) : inv r = 4294967295 - r := by
  have e := inv_gen 32 r h
  have e2 : (2 : Nat) ^ 32 = 4294967296 := by decide
  have e3 : (4294967296 : Nat) - 1 = 4294967295 := by decide
  rw [e2, e3] at e
  unfold inv
  rw [e]
  omega
theorem u8_lt (c : UInt8) : c.toNat < 4294967296 := by have := c.toNat_lt; omega
theorem one_lt (r : Nat) (c : UInt8) (h : r < 4294967296) : one r c < 4294967296 := bits_lt _ (xor_lt _ _ h (u8_lt c)) 8
theorem run_lt : ∀ (l : List UInt8) (r : Nat), r < 4294967296 → run r l < 4294967296
  | [], _, h => h
  | c :: l, r, h => run_lt l (one r c) (one_lt r c h)
theorem run_append (r : Nat) (s t : List UInt8) : run r (s ++ t) = run (run r s) t := by simp [run]
theorem run_snoc (r : Nat) (s : List UInt8) (c : UInt8) : run r (s ++ [c]) = one (run r s) c := by simp [run]
theorem more_lt (c : Nat) (l : List UInt8) (h : c < 4294967296) : more c l < 4294967296 := inv_lt _ (run_lt _ _ (inv_lt _ h))
theorem sum_lt (l : List UInt8) : sum l < 4294967296 := more_lt 0 l (by omega)
theorem zs_lt (n r : Nat) (h : r < 4294967296) : zs n r < 4294967296 := bits_lt _ h _
theorem join_lt (a b n : Nat) (ha : a < 4294967296) (hb : b < 4294967296) : join a b n < 4294967296 := xor_lt _ _ hb (zs_lt n a ha)
/-- Registers that are not the same, with the same bytes behind. -/
theorem run_lin : ∀ (l : List UInt8) (r q : Nat), run (r ^^^ q) l = run r l ^^^ zs l.length q
  | [], r, q => rfl
  | c :: l, r, q => by
    show run (one (r ^^^ q) c) l = run (one r c) l ^^^ zs (l.length + 1) q
    have e : one (r ^^^ q) c = one r c ^^^ bits q 8 := by
      unfold one
      rw [← bits_lin, Nat.xor_assoc, Nat.xor_comm q, ← Nat.xor_assoc]
    rw [e, run_lin l]
    unfold zs
    rw [show 8 * (l.length + 1) = 8 + 8 * l.length by omega, bits_add]
theorem more_eq (c : Nat) (l : List UInt8) : more c l = sum l ^^^ zs l.length c := by
  show inv (run (4294967295 ^^^ c) l) = inv (run (4294967295 ^^^ 0) l) ^^^ _
  rw [run_lin, Nat.xor_zero]
  unfold inv
  rw [Nat.xor_assoc]
theorem zs_zero (n : Nat) : zs n 0 = 0 := bits_zero _
theorem zs_none (r : Nat) : zs 0 r = r := rfl
theorem zs_add (m n r : Nat) : zs (m + n) r = zs n (zs m r) := by unfold zs; rw [Nat.mul_add, bits_add]
theorem zs_lin (n a b : Nat) : zs n (a ^^^ b) = zs n a ^^^ zs n b := bits_lin a b _
theorem zs_inj (n a b : Nat) (ha : a < 4294967296) (hb : b < 4294967296) (h : zs n a = zs n b) : a = b := bits_inj a b ha hb _ h
theorem more_more (c : Nat) (s t : List UInt8) : more (more c s) t = more c (s ++ t) := by unfold more; rw [inv_inv, run_append]
theorem sum_append (s t : List UInt8) : sum (s ++ t) = more (sum s) t := (more_more 0 s t).symm
theorem xor_cancel_left (a b c : Nat) (h : a ^^^ b = a ^^^ c) : b = c := by
  have e : a ^^^ (a ^^^ b) = a ^^^ (a ^^^ c) := by rw [h]
  rwa [← Nat.xor_assoc, ← Nat.xor_assoc, Nat.xor_self, Nat.zero_xor, Nat.zero_xor] at e
theorem more_inj (a b : Nat) (l : List UInt8) (ha : a < 4294967296) (hb : b < 4294967296) (h : more a l = more b l) : a = b := by
  rw [more_eq, more_eq] at h
  exact zs_inj _ a b ha hb (xor_cancel_left _ _ _ h)
theorem join_inj (a b c n : Nat) (ha : a < 4294967296) (hb : b < 4294967296) (h : join a c n = join b c n) : a = b := zs_inj _ a b ha hb (xor_cancel_left _ _ _ h)
/-- How Join is made. -/
theorem join_made (a b : Nat) (l : List UInt8) : b ^^^ more a l ^^^ sum l = join a b l.length := by
  rw [more_eq]
  unfold join
  rw [Nat.xor_assoc, Nat.xor_comm (sum l), Nat.xor_assoc, Nat.xor_self, Nat.xor_zero]
theorem join_texts (s t : List UInt8) : join (sum s) (sum t) t.length = sum (s ++ t) := by rw [sum_append, more_eq]; rfl
theorem join_first (b n : Nat) : join 0 b n = b := by unfold join; rw [zs_zero, Nat.xor_zero]
theorem join_none (a : Nat) : join a 0 0 = a := by unfold join; rw [zs_none, Nat.zero_xor]
theorem more_none (a : Nat) : more a [] = a := inv_inv a
/-- The table: one byte at once. -/
theorem one_table (r : Nat) (c : UInt8) : one r c = r / 256 ^^^ bits (r % 256 ^^^ c.toNat) 8 := by
  have e : r = 256 * (r / 256) ^^^ r % 256 := by
    apply Nat.eq_of_testBit_eq
    intro i
    have hlt : r % 256 < 2 ^ 8 := Nat.mod_lt _ (by decide)
    have e9 : r = 2 ^ 8 * (r / 256) + r % 256 := by omega
    have t1 : r.testBit i = (2 ^ 8 * (r / 256) + r % 256).testBit i := by rw [← e9]
    have t2 : (256 * (r / 256)).testBit i = (2 ^ 8 * (r / 256) + 0).testBit i := by rw [Nat.add_zero]
    rw [Nat.testBit_xor, t1, t2, Nat.testBit_two_pow_mul_add _ hlt, Nat.testBit_two_pow_mul_add _ (by decide : 0 < 2 ^ 8)]
    by_cases hi : i < 8
    · simp [hi]
    · have : (r % 256).testBit i = false := Nat.testBit_lt_two_pow (Nat.lt_of_lt_of_le hlt (Nat.pow_le_pow_right (by omega) (Nat.le_of_not_lt hi)))
      simp [hi, this]
  have e2 : one r c = bits (256 * (r / 256)) 8 ^^^ bits (r % 256 ^^^ c.toNat) 8 := by
    unfold one
    rw [← bits_lin, ← Nat.xor_assoc, ← e]
  rw [e2, bits8_256]
/-- Texts taken by exclusive or. -/
theorem run_xor : ∀ (s t : List UInt8) (r q : Nat), s.length = t.length → run (r ^^^ q) (List.zipWith (· ^^^ ·) s t) = run r s ^^^ run q t
  | [], [], _, _, _ => rfl
  | c :: s, d :: t, r, q, h => by
    have e : one (r ^^^ q) (c ^^^ d) = one r c ^^^ one q d := by
      unfold one
      rw [UInt8.toNat_xor, x4, bits_lin]
    show run (one (r ^^^ q) (c ^^^ d)) (List.zipWith (· ^^^ ·) s t) = _
    rw [e, run_xor s t _ _ (by simpa using h)]
    rfl
  | [], _ :: _, _, _, h => by simp at h
  | _ :: _, [], _, _, h => by simp at h
theorem run_zero : ∀ n : Nat, run 0 (List.replicate n 0) = 0
  | 0 => rfl
  | n + 1 => by
    show run (one 0 0) (List.replicate n 0) = 0
    rw [show one 0 0 = 0 by decide]
    exact run_zero n
theorem lin3 (F A B C : Nat) : F ^^^ (A ^^^ B ^^^ C) = (F ^^^ A) ^^^ (F ^^^ B) ^^^ (F ^^^ C) := by
  rw [x4 F A F B, Nat.xor_self, Nat.zero_xor, ← Nat.xor_assoc (A ^^^ B), Nat.xor_comm (A ^^^ B) F]
  simp only [Nat.xor_assoc]
theorem lin_gen (F : Nat) (s t : List UInt8) (h : s.length = t.length) : run F (List.zipWith (· ^^^ ·) s t) = run F s ^^^ run F t ^^^ run F (List.replicate s.length 0) := by
  have h1 := run_lin (List.zipWith (· ^^^ ·) s t) 0 F
  have h2 := run_xor s t F F h
  have h3 := run_lin (List.replicate s.length 0) 0 F
  rw [Nat.xor_self] at h2
  rw [Nat.zero_xor] at h1 h3
  rw [h1, h2, h3, run_zero, Nat.zero_xor]
  simp [h]
theorem sum_gen (F : Nat) (f : Nat → Nat) (hf : ∀ r, f r = F ^^^ r) (s t : List UInt8) (h : s.length = t.length) :
    f (run (f 0) (List.zipWith (· ^^^ ·) s t)) = f (run (f 0) s) ^^^ f (run (f 0) t) ^^^ f (run (f 0) (List.replicate s.length 0)) := by
  rw [lin_gen _ s t h, hf (_ ^^^ _ ^^^ _), hf (run _ s), hf (run _ t), hf (run _ (List.replicate _ _))]
  exact lin3 _ _ _ _
theorem sum_xor (s t : List UInt8) (h : s.length = t.length) : sum (List.zipWith (· ^^^ ·) s t) = sum s ^^^ sum t ^^^ sum (List.replicate s.length 0) := sum_gen _ inv (fun _ => rfl) s t h
end Go.Proofs.YtklmmkcbogcbaaaDoor.SP
