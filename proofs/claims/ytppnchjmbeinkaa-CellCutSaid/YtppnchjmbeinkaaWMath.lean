/-
  Plain facts: a number is got as it was put; numbers' bytes are in the numbers' order.
-/
import Derived.Test.YtppnchjmbeinkaaWEdges
namespace Go.Proofs.Ytppnchjmbeinkaa
namespace WP
theorem beNat_reverse : ∀ (l : List UInt8), Lib.beNat l.reverse = Lib.leNat l
  | [] => rfl
  | x :: l => by
    rw [List.reverse_cons, beNat_snoc, beNat_reverse l]
    simp only [Lib.leNat]
    omega
theorem beNat_beBytes (k v : Nat) (h : v < 256 ^ k) : Lib.beNat (Lib.beBytes k v) = v := by
  unfold Lib.beBytes
  rw [beNat_reverse, Lib.leNat_leBytes k v h]
theorem be1 (v : Nat) : Lib.beBytes 1 v = [(v % 256).toUInt8] := rfl
theorem be2 (v : Nat) : Lib.beBytes 2 v = [(v / 256 % 256).toUInt8, (v % 256).toUInt8] := rfl
theorem be3 (v : Nat) : Lib.beBytes 3 v = [(v / 256 / 256 % 256).toUInt8, (v / 256 % 256).toUInt8, (v % 256).toUInt8] := rfl
theorem bl_lt (n : Nat) (h : n ≤ 18446744073709551615) : n < 256 ^ bl n := by
  unfold bl
  (repeat' split) <;> omega
/-- a number's bytes are a first byte that tells how many follow, and the number's rest -/
theorem put_form (n : Nat) (hn : n ≤ 18446744073709551615) : ∃ b r, put n = b :: r ∧ flw b.toNat = r.length ∧ told b.toNat r = n ∧ (put n).length = size n := by
  rcases (show n ≤ 240 ∨ (240 < n ∧ n ≤ 2287) ∨ (2287 < n ∧ n ≤ 67823) ∨ 67823 < n by omega) with h | h | h | h
  · rw [put_1 n h, be1]
    refine ⟨_, _, rfl, ?_, ?_, ?_⟩
    · rw [Lib.toUInt8_mod]; unfold flw; rw [if_pos (by omega)]; rfl
    · rw [Lib.toUInt8_mod, told_1 _ _ (by omega)]; omega
    · unfold size; rw [if_pos h]; rfl
  · rw [put_2 n h.1 h.2, be2]
    refine ⟨_, _, rfl, ?_, ?_, ?_⟩
    · rw [Lib.toUInt8_mod]; unfold flw; rw [if_neg (by omega), if_pos (by omega)]; rfl
    · rw [Lib.toUInt8_mod, told_2 _ _ (by omega) (by omega)]
      simp only [Lib.beNat, Lib.beFrom, Lib.toUInt8_mod]
      omega
    · unfold size; rw [if_neg (by omega), if_pos h.2]; rfl
  · rw [put_3 n h.1 h.2, be3]
    refine ⟨_, _, rfl, ?_, ?_, ?_⟩
    · rw [Lib.toUInt8_mod]; unfold flw; rw [if_neg (by omega), if_neg (by omega)]; simp; omega
    · rw [Lib.toUInt8_mod, told_3 _ _ (by omega)]
      simp only [Lib.beNat, Lib.beFrom, Lib.toUInt8_mod]
      omega
    · unfold size; rw [if_neg (by omega), if_neg (by omega), if_pos h.2]; rfl
  · have h8 := bl_le8 n
    have h3 := bl_ge3 n (by omega)
    rw [put_4 n h, be1]
    refine ⟨_, Lib.beBytes (bl n) n, rfl, ?_, ?_, ?_⟩
    · rw [Lib.toUInt8_mod]; unfold flw; rw [if_neg (by omega), if_neg (by omega), Lib.beBytes_length]; omega
    · rw [Lib.toUInt8_mod, told_4 _ _ (by omega)]
      exact beNat_beBytes _ _ (bl_lt n hn)
    · unfold size; rw [if_neg (by omega), if_neg (by omega), if_neg (by omega)]; simp [Lib.beBytes_length]; omega
theorem size_bd (n : Nat) : 1 ≤ size n ∧ size n ≤ 9 := by
  have := size_cases n
  omega
theorem get_put (X Y : List UInt8) (n : Nat) (hn : n ≤ 18446744073709551615) : get (X ++ put n ++ Y) X.length = (n, X.length + (put n).length, 0) := by
  obtain ⟨b, r, hp, hf, ht, _⟩ := put_form n hn
  have hd : (X ++ put n ++ Y).drop X.length = b :: (r ++ Y) := by rw [List.append_assoc, List.drop_left, hp, List.cons_append]
  have hfn : (flw b.toNat).toNat = r.length := by omega
  unfold get
  rw [hd]
  simp only
  rw [hfn, if_neg (by simp), List.take_left, ht, hp, if_pos rfl]
  simp only [List.length_cons, Prod.mk.injEq, and_true, true_and]
  omega
theorem get_cut (X : List UInt8) (n : Nat) (hn : n ≤ 18446744073709551615) : get (X ++ (put n).take ((put n).length - 1)) X.length = (0, 0, 7) := by
  obtain ⟨b, r, hp, hf, ht, _⟩ := put_form n hn
  have hfn : (flw b.toNat).toNat = r.length := by omega
  unfold get
  rw [List.drop_left, hp]
  simp only [List.length_cons, Nat.add_sub_cancel]
  cases hr : r.length with
  | zero => simp
  | succ k =>
    rw [List.take_succ_cons]
    simp only
    rw [if_pos]
    rw [hfn]
    simp
    omega
/-- x and y part at one byte, which is less in x -/
def Parts (x y : List UInt8) : Prop := ∃ p c d x' y', x = p ++ c :: x' ∧ y = p ++ d :: y' ∧ c < d
theorem less_same : ∀ (p x y : List UInt8), Op.bytesLess (p ++ x) (p ++ y) = Op.bytesLess x y
  | [], x, y => rfl
  | a :: p, x, y => by
    have := less_same p x y
    simp only [List.cons_append, Op.bytesLess, this]
    simp
theorem less_irrefl (x : List UInt8) : Op.bytesLess x x = false := by
  have := less_same x [] []
  simpa [Op.bytesLess] using this
theorem less_head (c d : UInt8) (x y : List UInt8) (h : c < d) : Op.bytesLess (c :: x) (d :: y) = true ∧ Op.bytesLess (d :: y) (c :: x) = false := by
  have h1 : ¬ d < c := by simp only [UInt8.lt_iff_toNat_lt] at *; omega
  have h2 : ¬ d = c := by intro e; subst e; simp at h
  simp [Op.bytesLess, h, h1, h2]
theorem Parts.less {x y : List UInt8} (h : Parts x y) (u v : List UInt8) : Op.bytesLess (x ++ u) (y ++ v) = true ∧ Op.bytesLess (y ++ v) (x ++ u) = false := by
  obtain ⟨p, c, d, x', y', rfl, rfl, hcd⟩ := h
  simp only [List.append_assoc, less_same, List.cons_append]
  exact less_head c d _ _ hcd
theorem Parts.less' {x y : List UInt8} (h : Parts x y) : Op.bytesLess x y = true ∧ Op.bytesLess y x = false := by
  simpa using h.less [] []
theorem take_ne (p : List UInt8) (c d : UInt8) (x y : List UInt8) (h : c ≠ d) (k : Nat) : (p ++ d :: y).take k ≠ p ++ c :: x := by
  intro e
  have h1 := congrArg (fun l => l[p.length]?) e
  simp only [List.getElem?_take] at h1
  split at h1
  · simp at h1; exact h h1.symm
  · simp at h1
theorem Parts.takes {x y : List UInt8} (h : Parts x y) (k : Nat) : y.take k ≠ x ∧ x.take k ≠ y := by
  obtain ⟨p, c, d, x', y', rfl, rfl, hcd⟩ := h
  have hne : c ≠ d := by intro e; subst e; simp at hcd
  exact ⟨take_ne p c d x' y' hne k, take_ne p d c y' x' hne.symm k⟩
theorem Parts.ne {x y : List UInt8} (h : Parts x y) : x ≠ y := by
  intro e
  have := (h.takes y.length).1
  rw [List.take_length] at this
  exact this e.symm
theorem Parts.cons {x y : List UInt8} (h : Parts x y) (b : UInt8) : Parts (b :: x) (b :: y) := by
  obtain ⟨p, c, d, x', y', rfl, rfl, hcd⟩ := h
  exact ⟨b :: p, c, d, x', y', rfl, rfl, hcd⟩
theorem beFrom_add : ∀ (l : List UInt8) (acc : Nat), Lib.beFrom acc l = acc * 256 ^ l.length + Lib.beNat l
  | [], acc => by simp [Lib.beFrom, Lib.beNat]
  | x :: l, acc => by
    have h1 := beFrom_add l (acc * 256 + x.toNat)
    have h2 := beFrom_add l (0 * 256 + x.toNat)
    simp only [Lib.beNat, Lib.beFrom] at *
    rw [h1, h2]
    simp only [List.length_cons, Nat.pow_succ, Nat.zero_mul, Nat.zero_add, Nat.add_mul]
    rw [Nat.mul_assoc acc 256, Nat.mul_comm 256]
    omega
theorem beNat_cons (x : UInt8) (l : List UInt8) : Lib.beNat (x :: l) = x.toNat * 256 ^ l.length + Lib.beNat l := by
  have := beFrom_add l (0 * 256 + x.toNat)
  simp only [Lib.beNat, Lib.beFrom] at *
  rw [this]
  simp
theorem parts_of_beNat : ∀ (x y : List UInt8), x.length = y.length → Lib.beNat x < Lib.beNat y → Parts x y
  | [], [], _, h => by simp at h
  | c :: x, d :: y, hl, h => by
    have hl' : x.length = y.length := by simpa using hl
    rcases Nat.lt_trichotomy c.toNat d.toNat with h1 | h1 | h1
    · exact ⟨[], c, d, x, y, rfl, rfl, UInt8.lt_iff_toNat_lt.2 h1⟩
    · have e : c = d := UInt8.toNat_inj.1 h1
      subst e
      rw [beNat_cons, beNat_cons, hl'] at h
      exact (parts_of_beNat x y hl' (by omega)).cons c
    · exfalso
      rw [beNat_cons, beNat_cons, hl'] at h
      have hx := beNat_lt y
      have h2 : (d.toNat + 1) * 256 ^ y.length ≤ c.toNat * 256 ^ y.length := Nat.mul_le_mul_right _ h1
      rw [Nat.add_mul] at h2
      omega
/-- the first byte rises with the number -/
def head (n : Nat) : Nat := if n ≤ 240 then n else if n ≤ 2287 then 241 + (n - 240) / 256 else if n ≤ 67823 then 249 else 247 + bl n
theorem head_mono (a b : Nat) (h : a ≤ b) : head a ≤ head b := by
  have hb : 67823 < a → bl a ≤ bl b := by
    intro h0
    have h3 := size_mono a b h
    have e1 : size a = 1 + bl a := by unfold size; rw [if_neg (by omega), if_neg (by omega), if_neg (by omega)]
    have e2 : size b = 1 + bl b := by unfold size; rw [if_neg (by omega), if_neg (by omega), if_neg (by omega)]
    omega
  have h3 : ∀ n, 67823 < n → 3 ≤ bl n := fun n hn => bl_ge3 n (by omega)
  unfold head
  split
  · split
    · omega
    split
    · omega
    split
    · omega
    · have := h3 b (by omega); omega
  split
  · rw [if_neg (by omega)]
    split
    · omega
    split
    · omega
    · have := h3 b (by omega); omega
  split
  · rw [if_neg (by omega), if_neg (by omega)]
    split
    · omega
    · have := h3 b (by omega); omega
  · rw [if_neg (by omega), if_neg (by omega), if_neg (by omega)]
    have := hb (by omega)
    omega
theorem put_head (n : Nat) (hn : n ≤ 18446744073709551615) : ∃ b r, put n = b :: r ∧ b.toNat = head n ∧ flw b.toNat = r.length ∧ told b.toNat r = n := by
  obtain ⟨b, r, hp, hf, ht, _⟩ := put_form n hn
  refine ⟨b, r, hp, ?_, hf, ht⟩
  have h8 := bl_le8 n
  unfold head
  split
  · rw [put_1 n (by omega), be1] at hp
    rw [← (List.cons.inj hp).1, Lib.toUInt8_mod]; omega
  split
  · rw [put_2 n (by omega) (by omega), be2] at hp
    rw [← (List.cons.inj hp).1, Lib.toUInt8_mod]; omega
  split
  · rw [put_3 n (by omega) (by omega), be3] at hp
    rw [← (List.cons.inj hp).1, Lib.toUInt8_mod]; omega
  · rw [put_4 n (by omega), be1, List.singleton_append] at hp
    rw [← (List.cons.inj hp).1, Lib.toUInt8_mod]; omega
theorem put_parts (a b : Nat) (hb : b ≤ 18446744073709551615) (h : a < b) : Parts (put a) (put b) := by
  obtain ⟨c, x, hx, hc, hfx, htx⟩ := put_head a (by omega)
  obtain ⟨d, y, hy, hd, hfy, hty⟩ := put_head b hb
  have hm := head_mono a b (by omega)
  rw [hx, hy]
  rcases Nat.lt_or_ge c.toNat d.toNat with h1 | h1
  · exact ⟨[], c, d, x, y, rfl, rfl, UInt8.lt_iff_toNat_lt.2 h1⟩
  · have e : c = d := UInt8.toNat_inj.1 (by omega)
    subst e
    apply Parts.cons
    have hl : x.length = y.length := by omega
    apply parts_of_beNat x y hl
    unfold told at htx hty
    split at htx
    · rename_i h241
      rw [if_pos h241] at hty
      omega
    · rename_i h241
      rw [if_neg h241] at hty
      split at htx
      · rename_i h249
        rw [if_pos h249] at hty
        omega
      · rename_i h249
        rw [if_neg h249] at hty
        split at htx
        · rename_i h3
          rw [if_pos h3] at hty
          omega
        · rename_i h3
          rw [if_neg h3] at hty
          omega
end WP
end Go.Proofs.Ytppnchjmbeinkaa
