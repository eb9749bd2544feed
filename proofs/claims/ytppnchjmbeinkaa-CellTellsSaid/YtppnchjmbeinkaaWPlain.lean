/-
  Plain facts about numbers and lists of bytes for package word; nothing of the program.
-/
import Derived.WalkKit
import Derived.Lib.BitFns
import Derived.Lib.Endian
import Derived.Lib.EndianBits
import Derived.Lib.Strings
namespace Go.Proofs.Ytppnchjmbeinkaa
open Go.RowKit

namespace WP
/-- how many bytes follow a first byte -/
def flw (b : Int) : Int := if b ≤ 240 then 0 else if b ≤ 248 then 1 else b - 247
/-- how many bytes a number has in base 256 -/
def bl (n : Nat) : Nat :=
  if n = 0 then 0 else if n < 256 then 1 else if n < 65536 then 2 else if n < 16777216 then 3 else if n < 4294967296 then 4
  else if n < 1099511627776 then 5 else if n < 281474976710656 then 6 else if n < 72057594037927936 then 7 else 8
def size (n : Nat) : Nat := if n ≤ 240 then 1 else if n ≤ 2287 then 2 else if n ≤ 67823 then 3 else 1 + bl n
theorem bitLen_pos : ∀ n : Fin 256, n.val ≠ 0 → 1 ≤ Lib.bitLen n.val := by decide +kernel
theorem bitLen_byte (n : Nat) (h0 : n ≠ 0) (h1 : n < 256) : 1 ≤ Lib.bitLen n ∧ Lib.bitLen n ≤ 8 :=
  ⟨bitLen_pos ⟨n, h1⟩ h0, Lib.bitLen_le8 ⟨n, h1⟩⟩
theorem bl_of (n : Nat) (h : n ≤ 18446744073709551615) : (Lib.bitLen n + 7) / 8 = bl n := by
  unfold bl
  split
  · next h0 => subst h0; decide +kernel
  split
  · have := bitLen_byte n (by omega) (by omega); omega
  split
  · have := bitLen_byte (n / 256) (by omega) (by omega); rw [Lib.bitLen_shift8 n (by omega) (by omega)]; omega
  split
  · have := bitLen_byte (n / 65536) (by omega) (by omega); rw [Lib.bitLen_shift16 n (by omega) (by omega)]; omega
  split
  · have := bitLen_byte (n / 16777216) (by omega) (by omega); rw [Lib.bitLen_shift24 n (by omega) (by omega)]; omega
  split
  · have := bitLen_byte (n / 4294967296) (by omega) (by omega); rw [Lib.bitLen_shift32 n (by omega) (by omega)]; omega
  split
  · have := bitLen_byte (n / 1099511627776) (by omega) (by omega); rw [Lib.bitLen_shift40 n (by omega) (by omega)]; omega
  split
  · have := bitLen_byte (n / 281474976710656) (by omega) (by omega); rw [Lib.bitLen_shift48 n (by omega) (by omega)]; omega
  · have := bitLen_byte (n / 72057594037927936) (by omega) (by omega); rw [Lib.bitLen_shift56 n (by omega) (by omega)]; omega
theorem bl_ge3 (n : Nat) (h : 65536 ≤ n) : 3 ≤ bl n := by
  unfold bl
  (repeat' split) <;> omega
theorem bl_le8 (n : Nat) : bl n ≤ 8 := by
  unfold bl
  (repeat' split) <;> omega
/-- the bytes' cells after k of c rounds -/
def cellsAt (n : Int) (c k : Nat) : List Value := (List.range c).map fun i => if i < k then .int .u8 (n / 2 ^ (8 * (c - 1 - i)) % 256) else .int .u8 0
theorem cellsAt_zero (n : Int) (c : Nat) : cellsAt n c 0 = List.replicate c (.int .u8 0) := by
  unfold cellsAt
  apply List.ext_getElem
  · simp
  · intro i h1 h2; simp
theorem cellsAt_succ (n : Int) (c k : Nat) : (cellsAt n c k).set k (.int .u8 (n / 2 ^ (8 * (c - 1 - k)) % 256)) = cellsAt n c (k + 1) := by
  unfold cellsAt
  apply List.ext_getElem
  · simp
  · intro i h1 h2
    simp only [List.getElem_set, List.getElem_map, List.getElem_range]
    by_cases h : k = i
    · subst h; simp
    · rw [if_neg h]
      by_cases h3 : i < k
      · rw [if_pos h3, if_pos (by omega)]
      · rw [if_neg h3, if_neg (by omega)]
theorem cellsAt_len (n : Int) (c k : Nat) : (cellsAt n c k).length = c := by simp [cellsAt]
theorem leBytes_get : ∀ (k v j : Nat) (h : j < (Lib.leBytes k v).length), (Lib.leBytes k v)[j].toNat = v / 256 ^ j % 256
  | 0, v, j, h => by simp [Lib.leBytes] at h
  | k + 1, v, 0, h => by
    simp [Lib.leBytes]
  | k + 1, v, j + 1, h => by
    have h' : j < (Lib.leBytes k (v / 256)).length := by simpa [Lib.leBytes] using h
    have := leBytes_get k (v / 256) j h'
    simp only [Lib.leBytes, List.getElem_cons_succ]
    rw [this, Nat.div_div_eq_div_mul, Nat.pow_succ, Nat.mul_comm]
theorem beBytes_get (k v j : Nat) (h : j < (Lib.beBytes k v).length) : (Lib.beBytes k v)[j].toNat = v / 256 ^ (k - 1 - j) % 256 := by
  have hl := Lib.leBytes_length k v
  unfold Lib.beBytes at h ⊢
  rw [List.getElem_reverse, leBytes_get, hl]
theorem pow_cell (v e : Nat) : ((v / 256 ^ e % 256 : Nat) : Int) = (v : Int) / 2 ^ (8 * e) % 256 := by
  rw [Int.pow_mul, Int.natCast_emod, Int.natCast_ediv, Int.natCast_pow]
  rfl
theorem cellsAt_full (v c j : Nat) (h : j < (Lib.beBytes c v).length) : (cellsAt (v : Int) c c)[j]? = some (.int .u8 ((Lib.beBytes c v)[j].toNat : Int)) := by
  have hj : j < c := by simpa [Lib.beBytes_length] using h
  unfold cellsAt
  simp only [List.getElem?_map, List.getElem?_range hj, Option.map_some, if_pos hj]
  rw [beBytes_get, pow_cell]
/-- a number's bytes -/
def put (n : Nat) : List UInt8 :=
  if n ≤ 240 then Lib.beBytes 1 n else if n ≤ 2287 then Lib.beBytes 2 (61696 + (n - 240)) else if n ≤ 67823 then Lib.beBytes 3 (16318464 + (n - 2288))
  else Lib.beBytes 1 (247 + bl n) ++ Lib.beBytes (bl n) n
/-- the number that a first byte and those behind it tell -/
def told (b : Nat) (l : List UInt8) : Nat :=
  if b < 241 then b else if b < 249 then 240 + (b - 241) * 256 + Lib.beNat l else if b = 249 then 2288 + Lib.beNat l else Lib.beNat l
theorem beFrom_snoc (acc : Nat) (l : List UInt8) (c : UInt8) : Lib.beFrom acc (l ++ [c]) = Lib.beFrom acc l * 256 + c.toNat := by
  induction l generalizing acc with
  | nil => simp [Lib.beFrom]
  | cons x l ih => simp only [List.cons_append, Lib.beFrom, ih]
theorem beNat_snoc (l : List UInt8) (c : UInt8) : Lib.beNat (l ++ [c]) = Lib.beNat l * 256 + c.toNat := beFrom_snoc 0 l c
theorem beFrom_lt : ∀ (l : List UInt8) (acc : Nat), Lib.beFrom acc l < (acc + 1) * 256 ^ l.length
  | [], acc => by simp [Lib.beFrom]
  | c :: l, acc => by
    have h := beFrom_lt l (acc * 256 + c.toNat)
    have hc := c.toNat_lt
    have hm : (acc * 256 + c.toNat + 1) * 256 ^ l.length ≤ ((acc + 1) * 256) * 256 ^ l.length := Nat.mul_le_mul_right _ (by omega)
    simp only [Lib.beFrom, List.length_cons, Nat.pow_succ]
    rw [Nat.mul_comm (256 ^ l.length) 256, ← Nat.mul_assoc]
    omega
theorem beNat_lt (l : List UInt8) : Lib.beNat l < 256 ^ l.length := by
  have := beFrom_lt l 0
  simpa [Lib.beNat] using this
theorem take_snoc (s : ByteArray) (k : Nat) (h : k < s.size) : s.data.toList.take (k + 1) = s.data.toList.take k ++ [s[k]] := by
  rw [List.take_succ_eq_append_getElem (by simpa using h)]; rfl
theorem or_hi (a b : Int) (h0 : 0 ≤ a) (h1 : a * 256 < 18446744073709551616) (h2 : 0 ≤ b) (h3 : b < 256) : bits .or .u64 (a * 256) b = a * 256 + b := by
  have e := u64_or8 b (a * 256) h2 h3 (by omega) (by omega) h1
  simp only [bits] at e ⊢
  rw [BitVec.or_comm, e]
  omega
theorem pow256 (k : Nat) (h : k ≤ 7) : 256 ^ k ≤ 72057594037927936 := by
  calc 256 ^ k ≤ 256 ^ 7 := Nat.pow_le_pow_right (by omega) h
    _ = 72057594037927936 := by decide
theorem put_1 (n : Nat) (h : n ≤ 240) : put n = Lib.beBytes 1 n := by unfold put; rw [if_pos h]
theorem put_2 (n : Nat) (h : 240 < n) (h2 : n ≤ 2287) : put n = Lib.beBytes 2 (61696 + (n - 240)) := by unfold put; rw [if_neg (by omega), if_pos h2]
theorem put_3 (n : Nat) (h : 2287 < n) (h2 : n ≤ 67823) : put n = Lib.beBytes 3 (16318464 + (n - 2288)) := by unfold put; rw [if_neg (by omega), if_neg (by omega), if_pos h2]
theorem put_4 (n : Nat) (h : 67823 < n) : put n = Lib.beBytes 1 (247 + bl n) ++ Lib.beBytes (bl n) n := by unfold put; rw [if_neg (by omega), if_neg (by omega), if_neg (by omega)]
theorem told_1 (b : Nat) (l : List UInt8) (h : b < 241) : told b l = b := by unfold told; rw [if_pos h]
theorem told_2 (b : Nat) (l : List UInt8) (h : 241 ≤ b) (h2 : b < 249) : told b l = 240 + (b - 241) * 256 + Lib.beNat l := by unfold told; rw [if_neg (by omega), if_pos h2]
theorem told_3 (b : Nat) (l : List UInt8) (h : b = 249) : told b l = 2288 + Lib.beNat l := by unfold told; rw [if_neg (by omega), if_neg (by omega), if_pos h]
theorem told_4 (b : Nat) (l : List UInt8) (h : 249 < b) : told b l = Lib.beNat l := by unfold told; rw [if_neg (by omega), if_neg (by omega), if_neg (by omega)]
/-- the four cells after k rounds -/
def fourAt (n : Int) (k : Nat) : Array Value := ((List.range 4).map fun i => if i < k then Value.int .u8 (n / 2 ^ (8 * i) % 256) else .int .u8 0).toArray
theorem fourAt_zero (n : Int) : fourAt n 0 = #[.int .u8 0, .int .u8 0, .int .u8 0, .int .u8 0] := rfl
theorem fourAt_succ (n : Int) (k : Nat) : (fourAt n k).setIfInBounds k (.int .u8 (n / 2 ^ (8 * k) % 256)) = fourAt n (k + 1) := by
  unfold fourAt
  rw [List.setIfInBounds_toArray]
  congr 1
  apply List.ext_getElem
  · simp
  · intro i h1 h2
    simp only [List.getElem_set, List.getElem_map, List.getElem_range]
    by_cases h : k = i
    · subst h; simp
    · rw [if_neg h]
      by_cases h3 : i < k
      · rw [if_pos h3, if_pos (by omega)]
      · rw [if_neg h3, if_neg (by omega)]
theorem fourAt_get (n : Int) (k j : Nat) (h : k ≤ j) (hj : j < 4) : (fourAt n k)[j]? = some (.int .u8 0) := by
  unfold fourAt
  simp [hj, Nat.not_lt.2 h]
theorem fourAt_full (v j : Nat) (h : j < (Lib.leBytes 4 v).length) : (fourAt (v : Int) 4)[j]? = some (.int .u8 ((Lib.leBytes 4 v)[j].toNat : Int)) := by
  have hj : j < 4 := by simpa [Lib.leBytes_length] using h
  unfold fourAt
  simp only [List.getElem?_toArray, List.getElem?_map, List.getElem?_range hj, Option.map_some, if_pos hj]
  rw [leBytes_get, pow_cell]
theorem leNat_snoc : ∀ (l : List UInt8) (c : UInt8), Lib.leNat (l ++ [c]) = Lib.leNat l + c.toNat * 256 ^ l.length
  | [], c => by simp [Lib.leNat]
  | x :: l, c => by
    simp only [List.cons_append, Lib.leNat, leNat_snoc l c, List.length_cons, Nat.pow_succ, Nat.mul_add]
    have : 256 * (c.toNat * 256 ^ l.length) = c.toNat * (256 ^ l.length * 256) := by rw [Nat.mul_comm, Nat.mul_assoc]
    omega
theorem leNat_lt : ∀ (l : List UInt8), Lib.leNat l < 256 ^ l.length
  | [] => by simp [Lib.leNat]
  | x :: l => by
    have h := leNat_lt l
    have := x.toNat_lt
    simp only [Lib.leNat, List.length_cons, Nat.pow_succ]
    omega
theorem or_lo (v c k : Nat) (hk : k < 4) (hv : v < 256 ^ k) (hc : c < 256) : bits .or .u32 (v : Int) (IntKind.u32.wrap ((c : Int) * 2 ^ (8 * k))) = ((v + c * 256 ^ k : Nat) : Int) := by
  rcases (show k = 0 ∨ k = 1 ∨ k = 2 ∨ k = 3 by omega) with rfl | rfl | rfl | rfl
  · obtain rfl : v = 0 := by omega
    have := bits_join_low .u32 32 (by decide) (fun n a b => wraps_u32 n a b) 0 0 (c : Int) (by omega) (by omega) (by omega) (by omega) (by omega) (by omega)
    simp only [Nat.mul_zero, Int.pow_zero, Int.mul_one] at *
    rw [wraps_u32 _ (by omega) (by omega)]
    push_cast
    simpa using this
  · rw [wraps_u32 _ (by omega) (by omega), u32_or8 (v : Int) _ (by omega) (by omega) (by omega) (by omega) (by omega)]; omega
  · rw [wraps_u32 _ (by omega) (by omega), u32_or16 (v : Int) _ (by omega) (by omega) (by omega) (by omega) (by omega)]; omega
  · rw [wraps_u32 _ (by omega) (by omega), u32_or24 (v : Int) _ (by omega) (by omega) (by omega) (by omega) (by omega)]; omega
theorem drop_take_snoc (s : ByteArray) (a k : Nat) (h : a + k < s.size) : (s.data.toList.drop a).take (k + 1) = (s.data.toList.drop a).take k ++ [s[a + k]] := by
  rw [List.take_succ_eq_append_getElem (by simp; omega)]
  simp
  rfl
theorem rd_step (s : ByteArray) (a k : Nat) (h : a + k < s.size) (hk : k < 4) :
    bits .or .u32 ((Lib.leNat ((s.data.toList.drop a).take k) : Nat) : Int) ((s[a + k].toNat : Int) % 4294967296 * 2 ^ (8 * k) % 4294967296) = ((Lib.leNat ((s.data.toList.drop a).take (k + 1)) : Nat) : Int) := by
  have hb := leNat_lt ((s.data.toList.drop a).take k)
  have hl : ((s.data.toList.drop a).take k).length = k := by simp; omega
  rw [hl] at hb
  have hc := s[a + k].toNat_lt
  rw [drop_take_snoc s a k h, leNat_snoc, hl, show (s[a + k].toNat : Int) % 4294967296 = s[a + k].toNat by omega, ← IntKind.wrap_u32]
  exact or_lo _ _ k hk hb hc
theorem bytes_add (a b : List UInt8) : (⟨a.toArray⟩ ++ ⟨b.toArray⟩ : ByteArray) = ⟨(a ++ b).toArray⟩ := by
  apply ByteArray.ext
  simp
theorem ret_str {a b : List UInt8} (h : a = b) : Ending.returned (.string ⟨a.toArray⟩) = .returned (.string ⟨b.toArray⟩) := by rw [h]
/-- what word.Get answers at a place from 0 to the end: the number, the place behind it, the error -/
def get (l : List UInt8) (i : Nat) : Nat × Nat × Nat :=
  match l.drop i with
  | [] => (0, 0, 7)
  | b :: r =>
    let f := (flw b.toNat).toNat
    if r.length < f then (0, 0, 7)
    else if put (told b.toNat (r.take f)) = b :: r.take f then (told b.toNat (r.take f), i + 1 + f, 0) else (0, 0, 3)
theorem flw_nn (b : Int) : 0 ≤ flw b := by unfold flw; split; omega; split <;> omega
theorem flw_le (b : Int) (h : b ≤ 255) : flw b ≤ 8 := by unfold flw; split; omega; split <;> omega
theorem beNat_le (l : List UInt8) (h : l.length ≤ 8) : Lib.beNat l ≤ 18446744073709551615 := by
  have h1 := beNat_lt l
  have h2 : 256 ^ l.length ≤ 256 ^ 8 := Nat.pow_le_pow_right (by omega) h
  have h3 : (256 : Nat) ^ 8 = 18446744073709551616 := by decide
  omega
theorem told_le (b : Nat) (l : List UInt8) (hb : b ≤ 255) (h : (l.length : Int) = flw b) : told b l ≤ 18446744073709551615 := by
  unfold flw at h
  unfold told
  split
  · omega
  split
  · have := beNat_lt l
    rw [if_neg (by omega), if_pos (by omega)] at h
    rw [show l.length = 1 by omega] at this
    omega
  split
  · have := beNat_lt l
    rw [if_neg (by omega), if_neg (by omega)] at h
    rw [show l.length = 2 by omega] at this
    omega
  · apply beNat_le
    rw [if_neg (by omega), if_neg (by omega)] at h
    omega
theorem drop_cons (s : ByteArray) (i : Nat) (h : i < s.size) : s.data.toList.drop i = s[i] :: s.data.toList.drop (i + 1) := by
  rw [List.drop_eq_getElem_cons (by simpa using h)]
  rfl
theorem get_end (l : List UInt8) (i : Nat) (h : l.length ≤ i) : get l i = (0, 0, 7) := by
  unfold get
  rw [List.drop_eq_nil_of_le h]
theorem get_short (s : ByteArray) (i : Nat) (h : i < s.size) (h3 : (s.size : Int) - i ≤ flw s[i].toNat) : get s.data.toList i = (0, 0, 7) := by
  unfold get
  rw [drop_cons s i h]
  simp only
  rw [if_pos]
  simp
  omega
theorem get_rest (s : ByteArray) (i f : Nat) (h : i < s.size) (hf : (f : Int) = flw s[i].toNat) (h3 : i + f < s.size) :
    get s.data.toList i = if put (told s[i].toNat (s.extract (i + 1) (i + 1 + f)).data.toList) = (s.extract i (i + 1 + f)).toList then (told s[i].toNat (s.extract (i + 1) (i + 1 + f)).data.toList, i + 1 + f, 0) else (0, 0, 3) := by
  unfold get
  rw [drop_cons s i h, Lib.extract_data, Lib.extract_toList, drop_cons s i h]
  simp only
  rw [← hf, Int.toNat_natCast, if_neg (by simp; omega), show i + 1 + f - (i + 1) = f by omega, show i + 1 + f - i = f + 1 by omega, List.take_succ_cons]
end WP
end Go.Proofs.Ytppnchjmbeinkaa
