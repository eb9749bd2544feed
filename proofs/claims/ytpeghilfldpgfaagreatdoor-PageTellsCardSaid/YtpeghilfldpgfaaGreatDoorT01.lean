import Derived.Test.YtpeghilfldpgfaaGreatDoorQA
import Derived.Sort.Walk0
import Derived.WalkKit
import Derived.Lib.Hide
import Derived.Lib.BitFns
import Derived.Lib.Endian
import Derived.Lib.EndianBits
import Derived.Lib.Strings
import Derived.Test.YtpeghilfldpgfaaGreatDoorChecked
import Derived.Below
import Derived.ProofKit
import Derived.Laws.OwnMore
import Derived.Deep.AppendLies
import Derived.Deep.QuietTactic
import Derived.BigQuiet
import Derived.Deep.RegionHeld3
import Derived.Lib.Walk
import Derived.Lib.BufferWrite
import Derived.Lib.UnsafeStr
import Derived.Laws.MakeOwn
import Derived.Laws.Cover1
import Derived.StillTailTactics
import Derived.Laws.IdiomStrings
import Derived.WalkSpells
import Derived.WalkLawsBesides
import Derived.Test.YtpeghilfldpgfaaGreatDoorRows
import Derived.Laws.BitsAllLaws
import Derived.OneCell
import Derived.Laws.Rows
import Derived.Laws.Tables
import Derived.Great.BuildSlice
import Derived.OwnWalk
import Derived.Outline
import Derived.RegionTactic
import Derived.BigRegion
import Derived.Laws.BytesArg
set_option linter.unusedVariables false
set_option linter.unusedSimpArgs false
set_option maxHeartbeats 8000000
set_option maxRecDepth 100000
namespace Go.Proofs.YtpeghilfldpgfaaGreatDoor.L5
namespace EP
def com : List UInt8 → List UInt8 → Nat
 | c :: x, d :: y => if c = d then com x y + 1 else 0
 | _, _ => 0
theorem com_nil (x : List UInt8) : com x [] = 0 := by cases x <;> rfl
theorem nil_com (x : List UInt8) : com [] x = 0 := by cases x <;> rfl
theorem com_same (c : UInt8) (x y : List UInt8) : com (c :: x) (c :: y) = com x y + 1 := by simp [com]
theorem com_not (c d : UInt8) (x y : List UInt8) (h : c ≠ d) : com (c :: x) (d :: y) = 0 := by simp [com, h]
theorem com_comm : ∀ x y : List UInt8, com x y = com y x
 | [], y => by rw [nil_com, com_nil]
 | c :: x, [] => rfl
 | c :: x, d :: y => by
  by_cases h : c = d
  ·subst h; rw [com_same, com_same, com_comm x y]
  ·rw [com_not _ _ _ _ h, com_not _ _ _ _ (Ne.symm h)]
theorem com_self : ∀ x : List UInt8, com x x = x.length
 | [] => rfl
 | c :: x => by rw [com_same, com_self x]; rfl
theorem com_left : ∀ x y : List UInt8, com x y ≤ x.length
 | [], y => by rw [nil_com]; exact Nat.le_refl _
 | c :: x, [] => by rw [com_nil]; exact Nat.zero_le _
 | c :: x, d :: y => by
  by_cases h : c = d
  ·subst h; rw [com_same]; exact Nat.succ_le_succ (com_left x y)
  ·rw [com_not _ _ _ _ h]; exact Nat.zero_le _
theorem com_right (x y : List UInt8) : com x y ≤ y.length := by rw [com_comm]; exact com_left y x
theorem le_com : ∀ (x y : List UInt8) (n : Nat), n ≤ com x y ↔ n ≤ x.length ∧ n ≤ y.length ∧ x.take n = y.take n
 | x, y, 0 => by simp
 | [], y, n + 1 => by rw [nil_com]; simp
 | c :: x, [], n + 1 => by rw [com_nil]; simp
 | c :: x, d :: y, n + 1 => by
  by_cases h : c = d
  ·subst h
   rw [com_same, Nat.succ_le_succ_iff, le_com x y n]; simp
  ·rw [com_not _ _ _ _ h]
   simp [h]
theorem com_take (x y : List UInt8) (n : Nat) (h : n ≤ com x y) : x.take n = y.take n := ((le_com x y n).1 h).2.2
theorem com_next : ∀ (x y : List UInt8) (k : Nat), k ≤ com x y → (k < com x y ↔ ∃ c, x[k]? = some c ∧ y[k]? = some c)
 | [], y, k, h => by rw [nil_com]; simp
 | c :: x, [], k, h => by rw [com_nil]; simp
 | c :: x, d :: y, 0, h => by
  by_cases e : c = d
  ·subst e; rw [com_same]; simp
  ·rw [com_not _ _ _ _ e]
   simp [Ne.symm e]
 | c :: x, d :: y, k + 1, h => by
  by_cases e : c = d
  ·subst e
   rw [com_same] at h ⊢; rw [Nat.succ_lt_succ_iff, com_next x y k (by omega)]; simp
  ·rw [com_not _ _ _ _ e] at h
   omega
def al (x : List UInt8) (l : List (List UInt8)) : Nat := l.foldl (fun n s => min n (com x s)) x.length
def span : List (List UInt8) → Nat
 | [] => 0
 | x :: l => al x l
theorem fold_le (x : List UInt8) : ∀ (l : List (List UInt8)) (n m : Nat), m ≤ l.foldl (fun n s => min n (com x s)) n ↔ m ≤ n ∧ ∀ s ∈ l, m ≤ com x s
 | [], n, m => by simp
 | s :: l, n, m => by
  rw [List.foldl_cons, fold_le x l, Nat.le_min]; simp [and_assoc]
theorem le_al (x : List UInt8) (l : List (List UInt8)) (m : Nat) : m ≤ al x l ↔ m ≤ x.length ∧ ∀ s ∈ l, m ≤ com x s := fold_le x l _ m
theorem al_snoc (x : List UInt8) (l : List (List UInt8)) (s : List UInt8) : al x (l ++ [s]) = min (al x l) (com x s) := by simp [al]
theorem al_le (x : List UInt8) (l : List (List UInt8)) : al x l ≤ x.length := ((le_al x l _).1 (Nat.le_refl _)).1
theorem al_com (x : List UInt8) (l : List (List UInt8)) (s : List UInt8) (h : s ∈ l) : al x l ≤ com x s := ((le_al x l _).1 (Nat.le_refl _)).2 s h
theorem lt_irrefl (x : List UInt8) : ¬ x < x := List.lt_irrefl x
theorem lt_trans {x y z : List UInt8} (h : x < y) (k : y < z) : x < z := List.lt_trans h k
theorem tri (x y : List UInt8) : x < y ∨ x = y ∨ y < x := by
 by_cases h : x < y
 ·exact .inl h
 by_cases k : y < x
 ·exact .inr (.inr k)
 exact .inr (.inl (List.le_antisymm (List.not_lt.1 k) (List.not_lt.1 h)))
theorem span_take (l : List (List UInt8)) (s t : List UInt8) (hs : s ∈ l) (ht : t ∈ l) : s.take (span l) = t.take (span l) := by
 cases l with
 | nil => simp at hs
 | cons x l =>
  have h : ∀ u ∈ x :: l, x.take (al x l) = u.take (al x l) := fun u hu => by
   rcases List.mem_cons.1 hu with e | e
   ·rw [e]
   ·exact com_take _ _ _ (al_com x l u e)
  exact (h s hs).symm.trans (h t ht)
theorem span_le (l : List (List UInt8)) (s : List UInt8) (hs : s ∈ l) : span l ≤ s.length := by
 cases l with
 | nil => simp at hs
 | cons x l =>
  rcases List.mem_cons.1 hs with e | e
  ·rw [e]; exact al_le x l
  ·exact Nat.le_trans (al_com x l s e) (com_right x s)
end EP
end Go.Proofs.YtpeghilfldpgfaaGreatDoor.L5
namespace Go.Proofs.YtpeghilfldpgfaaGreatDoor.L8.LP
def u8 (n : Nat) : UInt8 := UInt8.ofNat n
theorem u8_lt (n : Nat) (h : n < 256) : (u8 n).toNat = n := by simp [u8]; omega
def sum : List (List UInt8) → Nat
 | [] => 0
 | c :: l => c.length + sum l
theorem sum_append (a b : List (List UInt8)) : sum (a ++ b) = sum a + sum b := by
 induction a with
 | nil => simp [sum]
 | cons c a ih => simp only [List.cons_append, sum, ih]; omega
theorem flatten_length (l : List (List UInt8)) : l.flatten.length = sum l := by
 induction l with
 | nil => rfl
 | cons c l ih => simp [sum, ih]
def need (f : Nat) (cs : List (List UInt8)) : Nat := f + 2 + sum cs + 2 * cs.length
def two (n : Nat) : List UInt8 := [u8 (n % 256), u8 (n / 256)]
theorem two_length (n : Nat) : (two n).length = 2 := rfl
def dir (a : Nat) : List (List UInt8) → List UInt8
 | [] => two a
 | c :: l => dir (a + c.length) l ++ two a
theorem dir_length (cs : List (List UInt8)) : ∀ a, (dir a cs).length = 2 * cs.length + 2 := by
 induction cs with
 | nil => intro a; rfl
 | cons c l ih => intro a; simp only [dir, List.length_append, ih, two_length, List.length_cons]; omega
def pack (room : Nat) (f : List UInt8) (cs : List (List UInt8)) : List UInt8 := f ++ cs.flatten ++ List.replicate (room - need f.length cs) 0 ++ dir f.length cs
theorem pack_length (room : Nat) (f : List UInt8) (cs : List (List UInt8)) (h : need f.length cs ≤ room) : (pack room f cs).length = room := by
 have := dir_length cs f.length; have := flatten_length cs; unfold need at *; simp only [pack, List.length_append, List.length_replicate, need]; omega
def at_ (b : List UInt8) (i : Nat) : Nat := (b.getD (b.length - 2 * i - 2) 0).toNat + 256 * (b.getD (b.length - 2 * i - 1) 0).toNat
def place (a : Nat) (cs : List (List UInt8)) (i : Nat) : Nat := a + sum (cs.take i)
theorem at_two (y : List UInt8) (a i : Nat) (h : 2 * i + 2 ≤ y.length) : at_ (y ++ two a) (i + 1) = at_ y i := by
 have hl : (y ++ two a).length = y.length + 2 := by simp [two_length]
 unfold at_; rw [hl, show y.length + 2 - 2 * (i + 1) - 2 = y.length - 2 * i - 2 by omega, show y.length + 2 - 2 * (i + 1) - 1 = y.length - 2 * i - 1 by omega]; simp only [List.getD_eq_getElem?_getD]; rw [List.getElem?_append_left (by omega), List.getElem?_append_left (by omega)]
theorem dir_at : ∀ (cs : List (List UInt8)) (a : Nat) (x : List UInt8) (i : Nat), i ≤ cs.length → a + sum cs < 65536 → at_ (x ++ dir a cs) i = place a cs i
 | cs, a, x, 0, _, h => by
  obtain ⟨y, hy⟩ : ∃ y, x ++ dir a cs = y ++ two a := by
   cases cs with
   | nil => exact ⟨x, rfl⟩
   | cons c l => exact ⟨x ++ dir (a + c.length) l, by simp [dir]⟩
  rw [hy]
  have hl : (y ++ two a).length = y.length + 2 := by simp [two_length]
  unfold at_ place; rw [hl]; simp only [Nat.mul_zero, Nat.sub_zero, Nat.add_sub_cancel, List.take_zero, sum, Nat.add_zero, show y.length + 2 - 1 = y.length + 1 by omega, List.getD_eq_getElem?_getD]; rw [List.getElem?_append_right (by omega), List.getElem?_append_right (by omega)]; simp only [Nat.sub_self, Nat.add_sub_cancel_left, two, List.getElem?_cons_zero, List.getElem?_cons_succ, Option.getD_some]; rw [u8_lt _ (by omega), u8_lt _ (by omega)]; omega
 | [], _, _, i + 1, h, _ => by simp at h
 | c :: l, a, x, i + 1, hi, h => by
  simp only [List.length_cons, Nat.add_le_add_iff_right] at hi; simp only [sum] at h; have ih := dir_at l (a + c.length) x i hi (by omega)
  have e : place a (c :: l) (i + 1) = place (a + c.length) l i := by simp only [place, List.take_succ_cons, sum]; omega
  rw [e, ← ih]; have hd := dir_length l (a + c.length)
  have hx : x ++ dir a (c :: l) = (x ++ dir (a + c.length) l) ++ two a := by simp [dir]
  rw [hx]; exact at_two _ _ _ (by rw [List.length_append, hd]; omega)
theorem at_pack (room : Nat) (f : List UInt8) (cs : List (List UInt8)) (hr : room < 65536) (h : need f.length cs ≤ room) (i : Nat) (hi : i ≤ cs.length) : at_ (pack room f cs) i = place f.length cs i := by
 unfold need at h; exact dir_at cs f.length _ i hi (by omega)
theorem sum_take_succ (cs : List (List UInt8)) (i : Nat) (hi : i < cs.length) : sum (cs.take (i + 1)) = sum (cs.take i) + cs[i].length := by
 rw [List.take_succ_eq_append_getElem hi, sum_append]; simp [sum]
theorem sum_take_le (cs : List (List UInt8)) (i : Nat) : sum (cs.take i) ≤ sum cs := by
 have h : sum cs = sum (cs.take i) + sum (cs.drop i) := by rw [← sum_append, List.take_append_drop]
 omega
def cut (b : List UInt8) (i : Nat) : List UInt8 := (b.drop (at_ b i)).take (at_ b (i + 1) - at_ b i)
theorem cut_pack (room : Nat) (f : List UInt8) (cs : List (List UInt8)) (hr : room < 65536) (h : need f.length cs ≤ room) (i : Nat) (hi : i < cs.length) : cut (pack room f cs) i = cs[i] := by
 unfold cut; rw [at_pack room f cs hr h i (by omega), at_pack room f cs hr h (i + 1) (by omega)]; unfold place; rw [sum_take_succ cs i hi, show f.length + (sum (cs.take i) + cs[i].length) - (f.length + sum (cs.take i)) = cs[i].length by omega]
 have e : pack room f cs = (f ++ (cs.take i).flatten) ++ (cs[i] ++ ((cs.drop (i + 1)).flatten ++ List.replicate (room - need f.length cs) 0 ++ dir f.length cs)) := by
  have e1 : cs.flatten = (cs.take i).flatten ++ (cs[i] ++ (cs.drop (i + 1)).flatten) := by
   rw [← List.flatten_cons, ← List.drop_eq_getElem_cons hi, ← List.flatten_append, List.take_append_drop]
  unfold pack; rw [e1]; simp only [List.append_assoc]
 have hl : (f ++ (cs.take i).flatten).length = f.length + sum (cs.take i) := by rw [List.length_append, flatten_length]
 rw [e, ← hl, List.drop_left, List.take_left]
def cells (b : List UInt8) (n : Nat) : List (List UInt8) := (List.range n).map (cut b)
theorem cells_length (b : List UInt8) (n : Nat) : (cells b n).length = n := by simp [cells]
theorem cells_pack (room : Nat) (f : List UInt8) (cs : List (List UInt8)) (hr : room < 65536) (h : need f.length cs ≤ room) : cells (pack room f cs) cs.length = cs := by
 apply List.ext_getElem
 ·simp [cells]
 ·intro i h1 h2
  simp only [cells, List.getElem_map, List.getElem_range]; exact cut_pack room f cs hr h i h2
def good (b : List UInt8) (k n : Nat) : Prop := k ≤ b.length ∧ need k (cells b n) ≤ b.length ∧ pack b.length (b.take k) (cells b n) = b
instance (b : List UInt8) (k n : Nat) : Decidable (good b k n) := by unfold good; infer_instance
theorem pack_good (room : Nat) (f : List UInt8) (cs : List (List UInt8)) (hr : room < 65536) (h : need f.length cs ≤ room) : good (pack room f cs) f.length cs.length ∧ cells (pack room f cs) cs.length = cs ∧ (pack room f cs).take f.length = f := by
 have hl := pack_length room f cs h
 have ht : (pack room f cs).take f.length = f := by
  unfold pack; rw [List.append_assoc, List.append_assoc, List.take_left]
 have hc := cells_pack room f cs hr h; refine ⟨⟨?_, ?_, ?_⟩, hc, ht⟩
 ·rw [hl]; unfold need at h; omega
 ·rw [hl, hc]; exact h
 ·rw [hl, hc, ht]
end Go.Proofs.YtpeghilfldpgfaaGreatDoor.L8.LP
namespace Go.Proofs.YtpeghilfldpgfaaGreatDoor.L9
open Go.RowKit
namespace WP
def flw (b : Int) : Int := if b ≤ 240 then 0 else if b ≤ 248 then 1 else b - 247
def bl (n : Nat) : Nat :=
 if n = 0 then 0 else if n < 256 then 1 else if n < 65536 then 2 else if n < 16777216 then 3 else if n < 4294967296 then 4
 else if n < 1099511627776 then 5 else if n < 281474976710656 then 6 else if n < 72057594037927936 then 7 else 8
def size (n : Nat) : Nat := if n ≤ 240 then 1 else if n ≤ 2287 then 2 else if n ≤ 67823 then 3 else 1 + bl n
theorem bitLen_pos : ∀ n : Fin 256, n.val ≠ 0 → 1 ≤ Lib.bitLen n.val := by decide +kernel
theorem bitLen_byte (n : Nat) (h0 : n ≠ 0) (h1 : n < 256) : 1 ≤ Lib.bitLen n ∧ Lib.bitLen n ≤ 8 :=
 ⟨bitLen_pos ⟨n, h1⟩ h0, Lib.bitLen_le8 ⟨n, h1⟩⟩
theorem bl_of (n : Nat) (h : n ≤ 18446744073709551615) : (Lib.bitLen n + 7) / 8 = bl n := by
 unfold bl
 split
 ·next h0 => subst h0; decide +kernel
 split
 ·have := bitLen_byte n (by omega) (by omega); omega
 split
 ·have := bitLen_byte (n / 256) (by omega) (by omega); rw [Lib.bitLen_shift8 n (by omega) (by omega)]; omega
 split
 ·have := bitLen_byte (n / 65536) (by omega) (by omega); rw [Lib.bitLen_shift16 n (by omega) (by omega)]; omega
 split
 ·have := bitLen_byte (n / 16777216) (by omega) (by omega); rw [Lib.bitLen_shift24 n (by omega) (by omega)]; omega
 split
 ·have := bitLen_byte (n / 4294967296) (by omega) (by omega); rw [Lib.bitLen_shift32 n (by omega) (by omega)]; omega
 split
 ·have := bitLen_byte (n / 1099511627776) (by omega) (by omega); rw [Lib.bitLen_shift40 n (by omega) (by omega)]; omega
 split
 ·have := bitLen_byte (n / 281474976710656) (by omega) (by omega); rw [Lib.bitLen_shift48 n (by omega) (by omega)]; omega
 ·have := bitLen_byte (n / 72057594037927936) (by omega) (by omega); rw [Lib.bitLen_shift56 n (by omega) (by omega)]; omega
theorem bl_ge3 (n : Nat) (h : 65536 ≤ n) : 3 ≤ bl n := by
 unfold bl
 (repeat' split) <;> omega
theorem bl_le8 (n : Nat) : bl n ≤ 8 := by
 unfold bl
 (repeat' split) <;> omega
def cellsAt (n : Int) (c k : Nat) : List Value := (List.range c).map fun i => if i < k then .int .u8 (n / 2 ^ (8 * (c - 1 - i)) % 256) else .int .u8 0
theorem cellsAt_zero (n : Int) (c : Nat) : cellsAt n c 0 = List.replicate c (.int .u8 0) := by
 unfold cellsAt; apply List.ext_getElem
 ·simp
 ·intro i h1 h2; simp
theorem cellsAt_succ (n : Int) (c k : Nat) : (cellsAt n c k).set k (.int .u8 (n / 2 ^ (8 * (c - 1 - k)) % 256)) = cellsAt n c (k + 1) := by
 unfold cellsAt; apply List.ext_getElem
 ·simp
 ·intro i h1 h2
  simp only [List.getElem_set, List.getElem_map, List.getElem_range]; by_cases h : k = i
  ·subst h; simp
  ·rw [if_neg h]
   by_cases h3 : i < k
   ·rw [if_pos h3, if_pos (by omega)]
   ·rw [if_neg h3, if_neg (by omega)]
theorem leBytes_get : ∀ (k v j : Nat) (h : j < (Lib.leBytes k v).length), (Lib.leBytes k v)[j].toNat = v / 256 ^ j % 256
 | 0, v, j, h => by simp [Lib.leBytes] at h
 | k + 1, v, 0, h => by
  simp [Lib.leBytes]
 | k + 1, v, j + 1, h => by
  have h' : j < (Lib.leBytes k (v / 256)).length := by simpa [Lib.leBytes] using h
  have := leBytes_get k (v / 256) j h'; simp only [Lib.leBytes, List.getElem_cons_succ]; rw [this, Nat.div_div_eq_div_mul, Nat.pow_succ, Nat.mul_comm]
theorem beBytes_get (k v j : Nat) (h : j < (Lib.beBytes k v).length) : (Lib.beBytes k v)[j].toNat = v / 256 ^ (k - 1 - j) % 256 := by
 have hl := Lib.leBytes_length k v; unfold Lib.beBytes at h ⊢; rw [List.getElem_reverse, leBytes_get, hl]
theorem pow_cell (v e : Nat) : ((v / 256 ^ e % 256 : Nat) : Int) = (v : Int) / 2 ^ (8 * e) % 256 := by
 rw [Int.pow_mul, Int.natCast_emod, Int.natCast_ediv, Int.natCast_pow]; rfl
theorem cellsAt_full (v c j : Nat) (h : j < (Lib.beBytes c v).length) : (cellsAt (v : Int) c c)[j]? = some (.int .u8 ((Lib.beBytes c v)[j].toNat : Int)) := by
 have hj : j < c := by simpa [Lib.beBytes_length] using h
 unfold cellsAt; simp only [List.getElem?_map, List.getElem?_range hj, Option.map_some, if_pos hj]; rw [beBytes_get, pow_cell]
def put (n : Nat) : List UInt8 :=
 if n ≤ 240 then Lib.beBytes 1 n else if n ≤ 2287 then Lib.beBytes 2 (61696 + (n - 240)) else if n ≤ 67823 then Lib.beBytes 3 (16318464 + (n - 2288))
 else Lib.beBytes 1 (247 + bl n) ++ Lib.beBytes (bl n) n
def told (b : Nat) (l : List UInt8) : Nat :=
 if b < 241 then b else if b < 249 then 240 + (b - 241) * 256 + Lib.beNat l else if b = 249 then 2288 + Lib.beNat l else Lib.beNat l
theorem beFrom_snoc (acc : Nat) (l : List UInt8) (c : UInt8) : Lib.beFrom acc (l ++ [c]) = Lib.beFrom acc l * 256 + c.toNat := by
 induction l generalizing acc with
 | nil => simp [Lib.beFrom]
 | cons x l ih => simp only [List.cons_append, Lib.beFrom, ih]
theorem beNat_snoc (l : List UInt8) (c : UInt8) : Lib.beNat (l ++ [c]) = Lib.beNat l * 256 + c.toNat := beFrom_snoc 0 l c
theorem beFrom_lt : ∀ (l : List UInt8) (acc : Nat), Lib.beFrom acc l < (acc + 1) * 256 ^ l.length
 | [], acc => by simp [Lib.beFrom]
 | c :: l, acc => by
  have h := beFrom_lt l (acc * 256 + c.toNat); have hc := c.toNat_lt; have hm : (acc * 256 + c.toNat + 1) * 256 ^ l.length ≤ ((acc + 1) * 256) * 256 ^ l.length := Nat.mul_le_mul_right _ (by omega); simp only [Lib.beFrom, List.length_cons, Nat.pow_succ]; rw [Nat.mul_comm (256 ^ l.length) 256, ← Nat.mul_assoc]; omega
theorem beNat_lt (l : List UInt8) : Lib.beNat l < 256 ^ l.length := by
 have := beFrom_lt l 0
 simpa [Lib.beNat] using this
theorem take_snoc (s : ByteArray) (k : Nat) (h : k < s.size) : s.data.toList.take (k + 1) = s.data.toList.take k ++ [s[k]] := by
 rw [List.take_succ_eq_append_getElem (by simpa using h)]; rfl
theorem or_hi (a b : Int) (h0 : 0 ≤ a) (h1 : a * 256 < 18446744073709551616) (h2 : 0 ≤ b) (h3 : b < 256) : bits .or .u64 (a * 256) b = a * 256 + b := by
 have e := u64_or8 b (a * 256) h2 h3 (by omega) (by omega) h1; simp only [bits] at e ⊢; rw [BitVec.or_comm, e]; omega
theorem pow256 (k : Nat) (h : k ≤ 7) : 256 ^ k ≤ 72057594037927936 := by
 calc 256 ^ k ≤ 256 ^ 7 := Nat.pow_le_pow_right (by omega) h
  _ = 72057594037927936 := by decide
theorem put_1 (n : Nat) (h : n ≤ 240) : put n = Lib.beBytes 1 n := by unfold put; rw [if_pos h]
theorem put_2 (n : Nat) (h : 240 < n) (h2 : n ≤ 2287) : put n = Lib.beBytes 2 (61696 + (n - 240)) := by unfold put; rw [if_neg (by omega), if_pos h2]
theorem put_3 (n : Nat) (h : 2287 < n) (h2 : n ≤ 67823) : put n = Lib.beBytes 3 (16318464 + (n - 2288)) := by unfold put; rw [if_neg (by omega), if_neg (by omega), if_pos h2]
theorem put_4 (n : Nat) (h : 67823 < n) : put n = Lib.beBytes 1 (247 + bl n) ++ Lib.beBytes (bl n) n := by unfold put; rw [if_neg (by omega), if_neg (by omega), if_neg (by omega)]
theorem told_1 (b : Nat) (l : List UInt8) (h : b < 241) : told b l = b := by unfold told; rw [if_pos h]
theorem told_2 (b : Nat) (l : List UInt8) (h : 241 ≤ b) (h2 : b < 249) : told b l = 240 + (b - 241) * 256 + Lib.beNat l := by unfold told; rw [if_neg (by omega), if_pos h2]
theorem told_3 (b : Nat) (l : List UInt8) (h : b = 249) : told b l = 2288 + Lib.beNat l := by unfold told; rw [if_neg (by omega), if_neg (by omega), if_pos h]
theorem told_4 (b : Nat) (l : List UInt8) (h : 249 < b) : told b l = Lib.beNat l := by unfold told; rw [if_neg (by omega), if_neg (by omega), if_neg (by omega)]
def fourAt (n : Int) (k : Nat) : Array Value := ((List.range 4).map fun i => if i < k then Value.int .u8 (n / 2 ^ (8 * i) % 256) else .int .u8 0).toArray
theorem fourAt_succ (n : Int) (k : Nat) : (fourAt n k).setIfInBounds k (.int .u8 (n / 2 ^ (8 * k) % 256)) = fourAt n (k + 1) := by
 unfold fourAt; rw [List.setIfInBounds_toArray]
 congr 1
 apply List.ext_getElem
 ·simp
 ·intro i h1 h2
  simp only [List.getElem_set, List.getElem_map, List.getElem_range]; by_cases h : k = i
  ·subst h; simp
  ·rw [if_neg h]
   by_cases h3 : i < k
   ·rw [if_pos h3, if_pos (by omega)]
   ·rw [if_neg h3, if_neg (by omega)]
theorem fourAt_get (n : Int) (k j : Nat) (h : k ≤ j) (hj : j < 4) : (fourAt n k)[j]? = some (.int .u8 0) := by
 unfold fourAt; simp [hj, Nat.not_lt.2 h]
theorem fourAt_full (v j : Nat) (h : j < (Lib.leBytes 4 v).length) : (fourAt (v : Int) 4)[j]? = some (.int .u8 ((Lib.leBytes 4 v)[j].toNat : Int)) := by
 have hj : j < 4 := by simpa [Lib.leBytes_length] using h
 unfold fourAt; simp only [List.getElem?_toArray, List.getElem?_map, List.getElem?_range hj, Option.map_some, if_pos hj]; rw [leBytes_get, pow_cell]
theorem leNat_snoc : ∀ (l : List UInt8) (c : UInt8), Lib.leNat (l ++ [c]) = Lib.leNat l + c.toNat * 256 ^ l.length
 | [], c => by simp [Lib.leNat]
 | x :: l, c => by
  simp only [List.cons_append, Lib.leNat, leNat_snoc l c, List.length_cons, Nat.pow_succ, Nat.mul_add]
  have : 256 * (c.toNat * 256 ^ l.length) = c.toNat * (256 ^ l.length * 256) := by rw [Nat.mul_comm, Nat.mul_assoc]
  omega
theorem leNat_lt : ∀ (l : List UInt8), Lib.leNat l < 256 ^ l.length
 | [] => by simp [Lib.leNat]
 | x :: l => by
  have h := leNat_lt l; have := x.toNat_lt; simp only [Lib.leNat, List.length_cons, Nat.pow_succ]; omega
theorem or_lo (v c k : Nat) (hk : k < 4) (hv : v < 256 ^ k) (hc : c < 256) : bits .or .u32 (v : Int) (IntKind.u32.wrap ((c : Int) * 2 ^ (8 * k))) = ((v + c * 256 ^ k : Nat) : Int) := by
 rcases (show k = 0 ∨ k = 1 ∨ k = 2 ∨ k = 3 by omega) with rfl | rfl | rfl | rfl
 ·obtain rfl : v = 0 := by omega
  have := bits_join_low .u32 32 (by decide) (fun n a b => wraps_u32 n a b) 0 0 (c : Int) (by omega) (by omega) (by omega) (by omega) (by omega) (by omega); simp only [Nat.mul_zero, Int.pow_zero, Int.mul_one] at *; rw [wraps_u32 _ (by omega) (by omega)]
  push_cast
  simpa using this
 ·rw [wraps_u32 _ (by omega) (by omega), u32_or8 (v : Int) _ (by omega) (by omega) (by omega) (by omega) (by omega)]; omega
 ·rw [wraps_u32 _ (by omega) (by omega), u32_or16 (v : Int) _ (by omega) (by omega) (by omega) (by omega) (by omega)]; omega
 ·rw [wraps_u32 _ (by omega) (by omega), u32_or24 (v : Int) _ (by omega) (by omega) (by omega) (by omega) (by omega)]; omega
theorem drop_take_snoc (s : ByteArray) (a k : Nat) (h : a + k < s.size) : (s.data.toList.drop a).take (k + 1) = (s.data.toList.drop a).take k ++ [s[a + k]] := by
 rw [List.take_succ_eq_append_getElem (by simp; omega)]; simp; rfl
theorem rd_step (s : ByteArray) (a k : Nat) (h : a + k < s.size) (hk : k < 4) :
  bits .or .u32 ((Lib.leNat ((s.data.toList.drop a).take k) : Nat) : Int) ((s[a + k].toNat : Int) % 4294967296 * 2 ^ (8 * k) % 4294967296) = ((Lib.leNat ((s.data.toList.drop a).take (k + 1)) : Nat) : Int) := by
 have hb := leNat_lt ((s.data.toList.drop a).take k)
 have hl : ((s.data.toList.drop a).take k).length = k := by simp; omega
 rw [hl] at hb; have hc := s[a + k].toNat_lt; rw [drop_take_snoc s a k h, leNat_snoc, hl, show (s[a + k].toNat : Int) % 4294967296 = s[a + k].toNat by omega, ← IntKind.wrap_u32]; exact or_lo _ _ k hk hb hc
theorem bytes_add (a b : List UInt8) : (⟨a.toArray⟩ ++ ⟨b.toArray⟩ : ByteArray) = ⟨(a ++ b).toArray⟩ := by
 apply ByteArray.ext; simp
def get (l : List UInt8) (i : Nat) : Nat × Nat × Nat :=
 match l.drop i with
 | [] => (0, 0, 7)
 | b :: r =>
  let f := (flw b.toNat).toNat
  if r.length < f then (0, 0, 7)
  else if put (told b.toNat (r.take f)) = b :: r.take f then (told b.toNat (r.take f), i + 1 + f, 0) else (0, 0, 3)
theorem flw_nn (b : Int) : 0 ≤ flw b := by unfold flw; split; omega; split <;> omega
theorem flw_le (b : Int) (h : b ≤ 255) : flw b ≤ 8 := by unfold flw; split; omega; split <;> omega
theorem beNat_le (l : List UInt8) (h : l.length ≤ 8) : Lib.beNat l ≤ 18446744073709551615 := by
 have h1 := beNat_lt l; have h2 : 256 ^ l.length ≤ 256 ^ 8 := Nat.pow_le_pow_right (by omega) h
 have h3 : (256 : Nat) ^ 8 = 18446744073709551616 := by decide
 omega
theorem told_le (b : Nat) (l : List UInt8) (hb : b ≤ 255) (h : (l.length : Int) = flw b) : told b l ≤ 18446744073709551615 := by
 unfold flw at h; unfold told
 split
 ·omega
 split
 ·have := beNat_lt l
  rw [if_neg (by omega), if_pos (by omega)] at h; rw [show l.length = 1 by omega] at this; omega
 split
 ·have := beNat_lt l
  rw [if_neg (by omega), if_neg (by omega)] at h; rw [show l.length = 2 by omega] at this; omega
 ·apply beNat_le
  rw [if_neg (by omega), if_neg (by omega)] at h; omega
theorem drop_cons (s : ByteArray) (i : Nat) (h : i < s.size) : s.data.toList.drop i = s[i] :: s.data.toList.drop (i + 1) := by
 rw [List.drop_eq_getElem_cons (by simpa using h)]; rfl
theorem get_end (l : List UInt8) (i : Nat) (h : l.length ≤ i) : get l i = (0, 0, 7) := by
 unfold get; rw [List.drop_eq_nil_of_le h]
theorem get_short (s : ByteArray) (i : Nat) (h : i < s.size) (h3 : (s.size : Int) - i ≤ flw s[i].toNat) : get s.data.toList i = (0, 0, 7) := by
 unfold get; rw [drop_cons s i h]; simp only; rw [if_pos]; simp; omega
theorem get_rest (s : ByteArray) (i f : Nat) (h : i < s.size) (hf : (f : Int) = flw s[i].toNat) (h3 : i + f < s.size) :
  get s.data.toList i = if put (told s[i].toNat (s.extract (i + 1) (i + 1 + f)).data.toList) = (s.extract i (i + 1 + f)).toList then (told s[i].toNat (s.extract (i + 1) (i + 1 + f)).data.toList, i + 1 + f, 0) else (0, 0, 3) := by
 unfold get; rw [drop_cons s i h, Lib.extract_data, Lib.extract_toList, drop_cons s i h]; simp only; rw [← hf, Int.toNat_natCast, if_neg (by simp; omega), show i + 1 + f - (i + 1) = f by omega, show i + 1 + f - i = f + 1 by omega, List.take_succ_cons]
end WP
end Go.Proofs.YtpeghilfldpgfaaGreatDoor.L9
namespace Go.Proofs.YtpeghilfldpgfaaGreatDoor.L9
namespace WP
theorem size_cases (n : Nat) : (n < 241 ∧ size n = 1) ∨ (241 ≤ n ∧ n < 2288 ∧ size n = 2) ∨ (2288 ≤ n ∧ n < 67824 ∧ size n = 3) ∨ (67824 ≤ n ∧ n < 16777216 ∧ size n = 4) ∨ (16777216 ≤ n ∧ n < 4294967296 ∧ size n = 5) ∨ (4294967296 ≤ n ∧ n < 1099511627776 ∧ size n = 6) ∨ (1099511627776 ≤ n ∧ n < 281474976710656 ∧ size n = 7) ∨ (281474976710656 ≤ n ∧ n < 72057594037927936 ∧ size n = 8) ∨ (72057594037927936 ≤ n ∧ size n = 9) := by
 unfold size
 split
 ·omega
 split
 ·omega
 split
 ·omega
 unfold bl; rw [if_neg (by omega), if_neg (by omega), if_neg (by omega)]
 split
 ·omega
 split
 ·omega
 split
 ·omega
 split
 ·omega
 split <;> omega
theorem leNat_four (l : List UInt8) : Lib.leNat (l.take 4) ≤ 4294967295 := by
 have h := leNat_lt (l.take 4); have h2 : 256 ^ (l.take 4).length ≤ 256 ^ 4 := Nat.pow_le_pow_right (by omega) (by simp; omega); omega
theorem get_spec (l : List UInt8) (i : Nat) : get l i = (0, 0, 7) ∨ get l i = (0, 0, 3) ∨
  ∃ n to, get l i = (n, to, 0) ∧ i < to ∧ to ≤ l.length ∧ put n = (l.drop i).take (to - i) ∧ n ≤ 18446744073709551615 := by
 unfold get
 split
 ·exact .inl rfl
 ·next b r hd =>
  have hfn := flw_nn b.toNat
  have hlen : l.length = i + 1 + r.length := by
   have : (l.drop i).length = (b :: r).length := by rw [hd]
   have h2 : i < l.length := by
    rcases Nat.lt_or_ge i l.length with h | h
    ·exact h
    ·rw [List.drop_eq_nil_of_le h] at hd; simp at hd
   simp only [List.length_drop, List.length_cons] at this; omega
  simp only
  split
  ·exact .inl rfl
  split
  ·next h1 h2 =>
   refine .inr (.inr ⟨_, _, rfl, by omega, by omega, ?_, ?_⟩)
   ·rw [h2, hd, show i + 1 + (flw b.toNat).toNat - i = (flw b.toNat).toNat + 1 by omega, List.take_succ_cons]
   ·apply told_le
    ·have := b.toNat_lt; omega
    ·simp; omega
  ·exact .inr (.inl rfl)
theorem beNat_reverse : ∀ (l : List UInt8), Lib.beNat l.reverse = Lib.leNat l
 | [] => rfl
 | x :: l => by
  rw [List.reverse_cons, beNat_snoc, beNat_reverse l]; simp only [Lib.leNat]; omega
theorem beNat_beBytes (k v : Nat) (h : v < 256 ^ k) : Lib.beNat (Lib.beBytes k v) = v := by
 unfold Lib.beBytes; rw [beNat_reverse, Lib.leNat_leBytes k v h]
theorem be1 (v : Nat) : Lib.beBytes 1 v = [(v % 256).toUInt8] := rfl
theorem be2 (v : Nat) : Lib.beBytes 2 v = [(v / 256 % 256).toUInt8, (v % 256).toUInt8] := rfl
theorem be3 (v : Nat) : Lib.beBytes 3 v = [(v / 256 / 256 % 256).toUInt8, (v / 256 % 256).toUInt8, (v % 256).toUInt8] := rfl
theorem bl_lt (n : Nat) (h : n ≤ 18446744073709551615) : n < 256 ^ bl n := by
 unfold bl
 (repeat' split) <;> omega
theorem put_form (n : Nat) (hn : n ≤ 18446744073709551615) : ∃ b r, put n = b :: r ∧ flw b.toNat = r.length ∧ told b.toNat r = n ∧ (put n).length = size n := by
 rcases (show n ≤ 240 ∨ (240 < n ∧ n ≤ 2287) ∨ (2287 < n ∧ n ≤ 67823) ∨ 67823 < n by omega) with h | h | h | h
 ·rw [put_1 n h, be1]
  refine ⟨_, _, rfl, ?_, ?_, ?_⟩
  ·rw [Lib.toUInt8_mod]; unfold flw; rw [if_pos (by omega)]; rfl
  ·rw [Lib.toUInt8_mod, told_1 _ _ (by omega)]; omega
  ·unfold size; rw [if_pos h]; rfl
 ·rw [put_2 n h.1 h.2, be2]
  refine ⟨_, _, rfl, ?_, ?_, ?_⟩
  ·rw [Lib.toUInt8_mod]; unfold flw; rw [if_neg (by omega), if_pos (by omega)]; rfl
  ·rw [Lib.toUInt8_mod, told_2 _ _ (by omega) (by omega)]
   simp only [Lib.beNat, Lib.beFrom, Lib.toUInt8_mod]; omega
  ·unfold size; rw [if_neg (by omega), if_pos h.2]; rfl
 ·rw [put_3 n h.1 h.2, be3]
  refine ⟨_, _, rfl, ?_, ?_, ?_⟩
  ·rw [Lib.toUInt8_mod]; unfold flw; rw [if_neg (by omega), if_neg (by omega)]; simp; omega
  ·rw [Lib.toUInt8_mod, told_3 _ _ (by omega)]
   simp only [Lib.beNat, Lib.beFrom, Lib.toUInt8_mod]; omega
  ·unfold size; rw [if_neg (by omega), if_neg (by omega), if_pos h.2]; rfl
 ·have h8 := bl_le8 n
  have h3 := bl_ge3 n (by omega); rw [put_4 n h, be1]; refine ⟨_, Lib.beBytes (bl n) n, rfl, ?_, ?_, ?_⟩
  ·rw [Lib.toUInt8_mod]; unfold flw; rw [if_neg (by omega), if_neg (by omega), Lib.beBytes_length]; omega
  ·rw [Lib.toUInt8_mod, told_4 _ _ (by omega)]
   exact beNat_beBytes _ _ (bl_lt n hn)
  ·unfold size; rw [if_neg (by omega), if_neg (by omega), if_neg (by omega)]; simp [Lib.beBytes_length]; omega
theorem size_bd (n : Nat) : 1 ≤ size n ∧ size n ≤ 9 := by
 have := size_cases n; omega
theorem get_put (X Y : List UInt8) (n : Nat) (hn : n ≤ 18446744073709551615) : get (X ++ put n ++ Y) X.length = (n, X.length + (put n).length, 0) := by
 obtain ⟨b, r, hp, hf, ht, _⟩ := put_form n hn
 have hd : (X ++ put n ++ Y).drop X.length = b :: (r ++ Y) := by rw [List.append_assoc, List.drop_left, hp, List.cons_append]
 have hfn : (flw b.toNat).toNat = r.length := by omega
 unfold get; rw [hd]; simp only; rw [hfn, if_neg (by simp), List.take_left, ht, hp, if_pos rfl]; simp only [List.length_cons, Prod.mk.injEq, and_true, true_and]; omega
end WP
end Go.Proofs.YtpeghilfldpgfaaGreatDoor.L9
namespace Go.Proofs.YtpeghilfldpgfaaGreatDoor.L9.VP
open Go.Proofs.YtpeghilfldpgfaaGreatDoor.L9
structure V where
 over : Bool
 s : List UInt8
 len : Int
 page : Int
theorem V.eq {a b : V} (h1 : a.over = b.over) (h2 : a.s = b.s) (h3 : a.len = b.len) (h4 : a.page = b.page) : a = b := by
 cases a; cases b; simp_all
def Right (v : V) : Prop := (v.over = true ∧ v.s = [] ∧ 1 ≤ v.len ∧ v.len ≤ 4096 ∧ 1 ≤ v.page ∧ v.page ≤ 4095) ∨ (v.over = false ∧ v.s.length ≤ 256 ∧ v.len = 0 ∧ v.page = 0)
instance (v : V) : Decidable (Right v) := by unfold Right; infer_instance
def text (t : List UInt8) : List UInt8 := WP.put t.length ++ t
def tail (v : V) : List UInt8 := if v.over then 1 :: (WP.put v.len.toNat ++ Lib.leBytes 4 v.page.toNat) else 0 :: text v.s
def cellV (t : List UInt8) (v : V) : List UInt8 := text t ++ tail v
def cellK (k : Nat) (t : List UInt8) : List UInt8 := Lib.leBytes 4 k ++ text t
def OkV (t : List UInt8) (v : V) : Prop := t.length ≤ 128 ∧ Right v
def OkK (k : Int) (t : List UInt8) : Prop := 1 ≤ k ∧ k ≤ 4095 ∧ t.length ≤ 128
instance (t : List UInt8) (v : V) : Decidable (OkV t v) := by unfold OkV; infer_instance
instance (k : Int) (t : List UInt8) : Decidable (OkK k t) := by unfold OkK; infer_instance
def gtext (l : List UInt8) (i : Nat) : Option (List UInt8 × Nat) :=
 let g := WP.get l i
 if g.2.2 = 0 ∧ g.1 ≤ l.length - g.2.1 then some ((l.drop g.2.1).take g.1, g.2.1 + g.1) else none
theorem gtext_at (X Y t : List UInt8) (h : t.length ≤ 18446744073709551615) : gtext (X ++ text t ++ Y) X.length = some (t, X.length + (text t).length) := by
 have e : X ++ text t ++ Y = X ++ WP.put t.length ++ (t ++ Y) := by simp [text]
 have hg := WP.get_put X (t ++ Y) t.length h; rw [← e] at hg
 have hd : (X ++ text t ++ Y).drop (X.length + (WP.put t.length).length) = t ++ Y := by
  rw [e, ← List.length_append, List.drop_left]
 unfold gtext; simp only [hg]
 have hle : t.length ≤ (X ++ text t ++ Y).length - (X.length + (WP.put t.length).length) := by
  simp only [text, List.length_append]; omega
 rw [if_pos ⟨trivial, hle⟩, hd, List.take_left]; simp [text, Nat.add_assoc]
def parseV (l : List UInt8) : Option (List UInt8 × V) :=
 match gtext l 0 with
 | none => none
 | some (t, i) =>
  match l.drop i with
  | [] => none
  | c :: _ =>
   if c = 1 then
    let g := WP.get l (i + 1)
    if g.2.2 = 0 ∧ g.2.1 + 4 ≤ l.length ∧ g.1 ≤ 4096 ∧ Lib.leNat ((l.drop g.2.1).take 4) ≤ 4095 then some (t, ⟨true, [], g.1, Lib.leNat ((l.drop g.2.1).take 4)⟩) else none
   else
    match gtext l (i + 1) with
    | none => none
    | some (u, _) => some (t, ⟨false, u, 0, 0⟩)
theorem text_length (t : List UInt8) : (text t).length = (WP.put t.length).length + t.length := by simp [text]
theorem parse_cell (t : List UInt8) (v : V) (Y : List UInt8) (h : OkV t v) : parseV (cellV t v ++ Y) = some (t, v) := by
 obtain ⟨ht, hv⟩ := h
 have h0 : gtext (cellV t v ++ Y) 0 = some (t, (text t).length) := by
  have h1 := gtext_at [] (tail v ++ Y) t (by omega)
  simpa [cellV] using h1
 have hd : (cellV t v ++ Y).drop (text t).length = tail v ++ Y := by rw [cellV, List.append_assoc, List.drop_left]
 unfold parseV; simp only [h0, hd]; rcases hv with ⟨h1, h2, h3, h4, h5, h6⟩ | ⟨h1, h2, h3, h4⟩
 ·have ht2 : tail v = 1 :: (WP.put v.len.toNat ++ Lib.leBytes 4 v.page.toNat) := by rw [tail, if_pos h1]
  have e : cellV t v ++ Y = (text t ++ [1]) ++ WP.put v.len.toNat ++ (Lib.leBytes 4 v.page.toNat ++ Y) := by
   rw [cellV, ht2]; simp
  have hg := WP.get_put (text t ++ [1]) (Lib.leBytes 4 v.page.toNat ++ Y) v.len.toNat (by omega); rw [← e] at hg
  have hl : (text t ++ [1]).length = (text t).length + 1 := by simp
  rw [hl] at hg
  have hd2 : (cellV t v ++ Y).drop ((text t).length + 1 + (WP.put v.len.toNat).length) = Lib.leBytes 4 v.page.toNat ++ Y := by
   rw [e, ← hl, ← List.length_append, List.drop_left]
  have hr : ((cellV t v ++ Y).drop ((text t).length + 1 + (WP.put v.len.toNat).length)).take 4 = Lib.leBytes 4 v.page.toNat := by
   rw [hd2, List.take_append_of_le_length (by rw [Lib.leBytes_length]; exact Nat.le_refl _), List.take_of_length_le (by rw [Lib.leBytes_length]; exact Nat.le_refl _)]
  have hn : Lib.leNat (Lib.leBytes 4 v.page.toNat) = v.page.toNat := Lib.leNat_leBytes 4 _ (by omega); rw [ht2]; simp only [List.cons_append, if_true, hg, hr, hn]
  have hle : (text t).length + 1 + (WP.put v.len.toNat).length + 4 ≤ (cellV t v ++ Y).length := by
   rw [e]; simp only [List.length_append, Lib.leBytes_length, List.length_cons, List.length_nil]; omega
  rw [if_pos ⟨trivial, hle, by omega, by omega⟩]
  congr 2
  exact V.eq h1.symm h2.symm (by show ((v.len.toNat : Nat) : Int) = _; omega) (by show ((v.page.toNat : Nat) : Int) = _; omega)
 ·have ht2 : tail v = 0 :: text v.s := by rw [tail, if_neg (by rw [h1]; decide)]
  have e : cellV t v ++ Y = (text t ++ [0]) ++ text v.s ++ Y := by rw [cellV, ht2]; simp
  have hg := gtext_at (text t ++ [0]) Y v.s (by omega); rw [← e] at hg
  have hl : (text t ++ [0]).length = (text t).length + 1 := by simp
  rw [hl] at hg; rw [ht2]; simp only [List.cons_append, if_neg (show ¬ (0 : UInt8) = 1 by decide), hg]
  congr 2
  exact V.eq h1.symm rfl h3.symm h4.symm
def getV (l : List UInt8) : Option (List UInt8 × V) :=
 match parseV l with
 | none => none
 | some (t, v) => if OkV t v ∧ cellV t v = l then some (t, v) else none
theorem getV_some {l t : List UInt8} {v : V} (h : getV l = some (t, v)) : OkV t v ∧ cellV t v = l := by
 unfold getV at h
 split at h
 ·simp at h
 ·split at h
  ·rename_i h2
   simp only [Option.some.injEq, Prod.mk.injEq] at h; obtain ⟨rfl, rfl⟩ := h; exact h2
  ·simp at h
theorem getV_cell (t : List UInt8) (v : V) (h : OkV t v) : getV (cellV t v) = some (t, v) := by
 have h1 := parse_cell t v [] h; rw [List.append_nil] at h1; unfold getV; simp only [h1]; rw [if_pos ⟨h, trivial⟩]
theorem getV_iff (l t : List UInt8) (v : V) : getV l = some (t, v) ↔ OkV t v ∧ cellV t v = l :=
 ⟨getV_some, fun ⟨h1, h2⟩ => by rw [← h2]; exact getV_cell t v h1⟩
theorem getV_none {l : List UInt8} (h : ∀ t v, OkV t v → cellV t v ≠ l) : getV l = none := by
 cases e : getV l with
 | none => rfl
 | some x => exact absurd (getV_some (t := x.1) (v := x.2) e).2 (h _ _ (getV_some (t := x.1) (v := x.2) e).1)
def parseK (l : List UInt8) : Option (Nat × List UInt8) :=
 if 4 ≤ l.length ∧ Lib.leNat (l.take 4) ≤ 4095 then
  match gtext l 4 with
  | none => none
  | some (t, _) => some (Lib.leNat (l.take 4), t)
 else none
theorem parseK_cell (k : Nat) (t Y : List UInt8) (h : OkK k t) : parseK (cellK k t ++ Y) = some (k, t) := by
 obtain ⟨h1, h2, h3⟩ := h; have hl : (Lib.leBytes 4 k).length = 4 := Lib.leBytes_length 4 k; have e : cellK k t ++ Y = Lib.leBytes 4 k ++ text t ++ Y := rfl; have hg := gtext_at (Lib.leBytes 4 k) Y t (by omega); rw [← e, hl] at hg
 have ht : (cellK k t ++ Y).take 4 = Lib.leBytes 4 k := by
  rw [e, List.append_assoc, List.take_append_of_le_length (by omega), List.take_of_length_le (by omega)]
 have hn : Lib.leNat (Lib.leBytes 4 k) = k := Lib.leNat_leBytes 4 _ (by omega); unfold parseK
 have hle : 4 ≤ (cellK k t ++ Y).length := by
  rw [e]; simp only [List.length_append]; omega
 rw [ht, hn, if_pos ⟨hle, by omega⟩]; simp only [hg]
def getK (l : List UInt8) : Option (Nat × List UInt8) :=
 match parseK l with
 | none => none
 | some (k, t) => if OkK k t ∧ cellK k t = l then some (k, t) else none
theorem getK_some {l t : List UInt8} {k : Nat} (h : getK l = some (k, t)) : OkK k t ∧ cellK k t = l := by
 unfold getK at h
 split at h
 ·simp at h
 ·split at h
  ·rename_i h2
   simp only [Option.some.injEq, Prod.mk.injEq] at h; obtain ⟨rfl, rfl⟩ := h; exact h2
  ·simp at h
theorem getK_cell (k : Nat) (t : List UInt8) (h : OkK k t) : getK (cellK k t) = some (k, t) := by
 have h1 := parseK_cell k t [] h; rw [List.append_nil] at h1; unfold getK; simp only [h1]; rw [if_pos ⟨h, trivial⟩]
theorem getK_iff (l t : List UInt8) (k : Nat) : getK l = some (k, t) ↔ OkK k t ∧ cellK k t = l :=
 ⟨getK_some, fun ⟨h1, h2⟩ => by rw [← h2]; exact getK_cell k t h1⟩
theorem getK_none {l : List UInt8} (h : ∀ (k : Nat) t, OkK k t → cellK k t ≠ l) : getK l = none := by
 cases e : getK l with
 | none => rfl
 | some x => exact absurd (getK_some (k := x.1) (t := x.2) e).2 (h _ _ (getK_some (k := x.1) (t := x.2) e).1)
end Go.Proofs.YtpeghilfldpgfaaGreatDoor.L9.VP
namespace Go.Proofs.YtpeghilfldpgfaaGreatDoor.L7.SP
def bit (r : Nat) : Nat := if r % 2 = 1 then r / 2 ^^^ 2197175160 else r / 2
def bits (r : Nat) : Nat → Nat
 | 0 => r
 | k + 1 => bit (bits r k)
def one (r : Nat) (c : UInt8) : Nat := bits (r ^^^ c.toNat) 8
def run (r : Nat) (l : List UInt8) : Nat := l.foldl one r
def inv (r : Nat) : Nat := 4294967295 ^^^ r
def more (c : Nat) (l : List UInt8) : Nat := inv (run (inv c) l)
def sum (l : List UInt8) : Nat := more 0 l
def zs (n : Nat) (r : Nat) : Nat := bits r (8 * n)
theorem xor_mod2 (a b : Nat) : (a ^^^ b) % 2 = (a % 2 + b % 2) % 2 := by
 have h := Nat.xor_mod_two_eq_one (a := a) (b := b); omega
theorem xor_div2 (a b : Nat) : (a ^^^ b) / 2 = a / 2 ^^^ b / 2 := Nat.xor_div_two
theorem x4 (a b c d : Nat) : (a ^^^ b) ^^^ (c ^^^ d) = (a ^^^ c) ^^^ (b ^^^ d) := by
 rw [Nat.xor_assoc, Nat.xor_assoc, ← Nat.xor_assoc b, Nat.xor_comm b c, Nat.xor_assoc c]
theorem bit_lt (r : Nat) (h : r < 4294967296) : bit r < 4294967296 := by
 unfold bit
 split
 ·exact Nat.xor_lt_two_pow (n := 32) (by omega) (by omega)
 ·omega
theorem bits_lt (r : Nat) (h : r < 4294967296) : ∀ k, bits r k < 4294967296
 | 0 => h
 | k + 1 => bit_lt _ (bits_lt r h k)
theorem bit_lin (a b : Nat) : bit (a ^^^ b) = bit a ^^^ bit b := by
 unfold bit; rw [xor_mod2, xor_div2]
 rcases Nat.mod_two_eq_zero_or_one a with ha | ha <;> rcases Nat.mod_two_eq_zero_or_one b with hb | hb <;> simp only [ha, hb]
 ·rfl
 ·simp [Nat.xor_assoc]
 ·simp [Nat.xor_assoc]; rw [Nat.xor_comm (b / 2)]
 ·simp; rw [x4]; simp
theorem bits_lin (a b : Nat) : ∀ k, bits (a ^^^ b) k = bits a k ^^^ bits b k
 | 0 => rfl
 | k + 1 => by simp only [bits]; rw [bits_lin a b k, bit_lin]
theorem bit_even (m : Nat) : bit (2 * m) = m := by
 unfold bit; rw [if_neg (by omega)]; omega
theorem bits_even : ∀ k m : Nat, bits (2 ^ k * m) k = m
 | 0, m => by simp [bits]
 | k + 1, m => by
  show bit (bits (2 ^ (k + 1) * m) k) = m; rw [Nat.pow_succ, Nat.mul_assoc, bits_even k (2 * m), bit_even]
theorem bits8_256 (m : Nat) : bits (256 * m) 8 = m := by have h := bits_even 8 m; rwa [show (2 : Nat) ^ 8 = 256 by decide] at h
theorem xor_lt (a b : Nat) (ha : a < 4294967296) (hb : b < 4294967296) : a ^^^ b < 4294967296 := Nat.xor_lt_two_pow (n := 32) ha hb
theorem inv_lt (r : Nat) (h : r < 4294967296) : inv r < 4294967296 := by unfold inv; exact xor_lt _ _ (by omega) h
theorem inv_gen (N r : Nat) (h : r < 2 ^ N) : (2 ^ N - 1) ^^^ r = 2 ^ N - (r + 1) := by
 apply Nat.eq_of_testBit_eq; intro i; rw [Nat.testBit_xor, Nat.testBit_two_pow_sub_succ h, Nat.testBit_two_pow_sub_one]; by_cases hi : i < N
 ·simp [hi]
 ·have : r.testBit i = false := Nat.testBit_lt_two_pow (Nat.lt_of_lt_of_le h (Nat.pow_le_pow_right (by omega) (Nat.le_of_not_lt hi)))
  simp [hi, this]
theorem inv_sub (r : Nat) (h : r < 4294967296) : inv r = 4294967295 - r := by
 have e := inv_gen 32 r h
 have e2 : (2 : Nat) ^ 32 = 4294967296 := by decide
 have e3 : (4294967296 : Nat) - 1 = 4294967295 := by decide
 rw [e2, e3] at e; unfold inv; rw [e]; omega
theorem u8_lt (c : UInt8) : c.toNat < 4294967296 := by have := c.toNat_lt; omega
theorem one_lt (r : Nat) (c : UInt8) (h : r < 4294967296) : one r c < 4294967296 := bits_lt _ (xor_lt _ _ h (u8_lt c)) 8
theorem run_lt : ∀ (l : List UInt8) (r : Nat), r < 4294967296 → run r l < 4294967296
 | [], _, h => h
 | c :: l, r, h => run_lt l (one r c) (one_lt r c h)
theorem run_snoc (r : Nat) (s : List UInt8) (c : UInt8) : run r (s ++ [c]) = one (run r s) c := by simp [run]
theorem more_lt (c : Nat) (l : List UInt8) (h : c < 4294967296) : more c l < 4294967296 := inv_lt _ (run_lt _ _ (inv_lt _ h))
theorem sum_lt (l : List UInt8) : sum l < 4294967296 := more_lt 0 l (by omega)
theorem one_table (r : Nat) (c : UInt8) : one r c = r / 256 ^^^ bits (r % 256 ^^^ c.toNat) 8 := by
 have e : r = 256 * (r / 256) ^^^ r % 256 := by
  apply Nat.eq_of_testBit_eq; intro i; have hlt : r % 256 < 2 ^ 8 := Nat.mod_lt _ (by decide)
  have e9 : r = 2 ^ 8 * (r / 256) + r % 256 := by omega
  have t1 : r.testBit i = (2 ^ 8 * (r / 256) + r % 256).testBit i := by rw [← e9]
  have t2 : (256 * (r / 256)).testBit i = (2 ^ 8 * (r / 256) + 0).testBit i := by rw [Nat.add_zero]
  rw [Nat.testBit_xor, t1, t2, Nat.testBit_two_pow_mul_add _ hlt, Nat.testBit_two_pow_mul_add _ (by decide : 0 < 2 ^ 8)]; by_cases hi : i < 8
  ·simp [hi]
  ·have : (r % 256).testBit i = false := Nat.testBit_lt_two_pow (Nat.lt_of_lt_of_le hlt (Nat.pow_le_pow_right (by omega) (Nat.le_of_not_lt hi)))
   simp [hi, this]
 have e2 : one r c = bits (256 * (r / 256)) 8 ^^^ bits (r % 256 ^^^ c.toNat) 8 := by
  unfold one; rw [← bits_lin, ← Nat.xor_assoc, ← e]
 rw [e2, bits8_256]
end Go.Proofs.YtpeghilfldpgfaaGreatDoor.L7.SP
namespace Go.Proofs.YtpeghilfldpgfaaGreatDoor.L7
def mayBe (p : Int) : Bool := decide (p = 128 ∨ p = 256 ∨ p = 512 ∨ p = 1024)
end Go.Proofs.YtpeghilfldpgfaaGreatDoor.L7
namespace Go.Proofs.YtpeghilfldpgfaaGreatDoor.L7.HP
open SP
structure H where
 k : Int
 l : Int
 c : Int
 r : Int
 s : Int
def H0 : H := ⟨0, 0, 0, 0, 0⟩
def Ok (h : H) : Prop := 1 ≤ h.k ∧ h.k ≤ 4 ∧ 0 ≤ h.l ∧ h.l ≤ 255 ∧ 0 ≤ h.c ∧ h.c ≤ 65535 ∧ 0 ≤ h.r ∧ h.r ≤ 4095 ∧ 0 ≤ h.s ∧ h.s ≤ 4095
instance (h : H) : Decidable (Ok h) := by unfold Ok; infer_instance
def right (h : H) : Bool := decide (Ok h)
theorem right_iff {h : H} : right h = true ↔ Ok h := by unfold right; exact decide_eq_true_iff
def u8 (n : Nat) : UInt8 := UInt8.ofNat n
theorem u8_lt (n : Nat) (h : n < 256) : (u8 n).toNat = n := by simp [u8]; omega
theorem u8_back (x : UInt8) : u8 x.toNat = x := by simp [u8]
def front (h : H) : List UInt8 := [u8 h.k.toNat, u8 h.l.toNat, u8 (h.c.toNat % 256), u8 (h.c.toNat / 256)] ++ Lib.leBytes 4 h.r.toNat ++ Lib.leBytes 4 h.s.toNat
theorem front_length (h : H) : (front h).length = 12 := by simp [front, Lib.leBytes_length]
def crc (f t : List UInt8) : Nat := SP.sum (f ++ [0, 0, 0, 0] ++ t)
theorem crc_lt (f t : List UInt8) : crc f t < 4294967296 := SP.sum_lt _
def page (f t : List UInt8) : List UInt8 := f ++ Lib.leBytes 4 (crc f t) ++ t
def rest (b : List UInt8) (p : Nat) : List UInt8 := b ++ List.replicate (p - 16 - b.length) 0
theorem rest_length (b : List UInt8) (p : Nat) (h : b.length + 16 ≤ p) : (rest b p).length = p - 16 := by simp [rest]; omega
theorem page_length (f t : List UInt8) : (page f t).length = f.length + 4 + t.length := by simp [page, Lib.leBytes_length]; omega
def headOf (s : List UInt8) : H := ⟨(s.getD 0 0).toNat, (s.getD 1 0).toNat, ((s.getD 2 0).toNat + 256 * (s.getD 3 0).toNat : Nat), (Lib.leNat ((s.drop 4).take 4) : Nat), (Lib.leNat ((s.drop 8).take 4) : Nat)⟩
def good (s : List UInt8) : Prop := Ok (headOf s) ∧ Lib.leNat ((s.drop 12).take 4) = crc (s.take 12) (s.drop 16)
instance (s : List UInt8) : Decidable (good s) := by unfold good; infer_instance
theorem leBytes_leNat : ∀ (l : List UInt8), Lib.leBytes l.length (Lib.leNat l) = l
 | [] => rfl
 | c :: l => by
  have hc := c.toNat_lt
  have h : Lib.leNat (c :: l) = c.toNat + 256 * Lib.leNat l := by simp [Lib.leNat]
  show _ :: _ = _; rw [h]
  have e1 : (c.toNat + 256 * Lib.leNat l) / 256 = Lib.leNat l := by omega
  have e2 : (c.toNat + 256 * Lib.leNat l) % 256 = c.toNat := by omega
  rw [e1, e2]
  congr 1
  ·simp
  ·exact leBytes_leNat l
theorem le4_back (v : Nat) (h : v < 4294967296) : Lib.leNat (Lib.leBytes 4 v) = v := Lib.leNat_leBytes 4 v (by simpa using h)
theorem le4_of (l : List UInt8) (h : l.length = 4) : Lib.leBytes 4 (Lib.leNat l) = l := by have e := leBytes_leNat l; rwa [h] at e
theorem headOf_front (h : H) (x : List UInt8) (hh : Ok h) : headOf (front h ++ x) = h := by
 obtain ⟨k, l, c, r, s⟩ := h; obtain ⟨h1, h2, h3, h4, h5, h6, h7, h8, h9, h10⟩ := hh; simp only at h1 h2 h3 h4 h5 h6 h7 h8 h9 h10; obtain ⟨k, rfl⟩ := Int.eq_ofNat_of_zero_le (show 0 ≤ k by omega); obtain ⟨l, rfl⟩ := Int.eq_ofNat_of_zero_le h3; obtain ⟨c, rfl⟩ := Int.eq_ofNat_of_zero_le h5; obtain ⟨r, rfl⟩ := Int.eq_ofNat_of_zero_le h7; obtain ⟨s, rfl⟩ := Int.eq_ofNat_of_zero_le h9
 have e : front ⟨(k : Int), (l : Int), (c : Int), (r : Int), (s : Int)⟩ ++ x = u8 k :: u8 l :: u8 (c % 256) :: u8 (c / 256) :: (Lib.leBytes 4 r ++ (Lib.leBytes 4 s ++ x)) := by
  simp [front]
 rw [e]
 have f1 : (List.drop 4 (u8 k :: u8 l :: u8 (c % 256) :: u8 (c / 256) :: (Lib.leBytes 4 r ++ (Lib.leBytes 4 s ++ x)))).take 4 = Lib.leBytes 4 r := by
  simp [List.take_append, Lib.leBytes_length, List.take_of_length_le]
 have f2 : (List.drop 8 (u8 k :: u8 l :: u8 (c % 256) :: u8 (c / 256) :: (Lib.leBytes 4 r ++ (Lib.leBytes 4 s ++ x)))).take 4 = Lib.leBytes 4 s := by
  have e8 : List.drop 8 (u8 k :: u8 l :: u8 (c % 256) :: u8 (c / 256) :: (Lib.leBytes 4 r ++ (Lib.leBytes 4 s ++ x))) = Lib.leBytes 4 s ++ x := by
   simp [List.drop_append, Lib.leBytes_length]
  rw [e8]; simp [List.take_append, Lib.leBytes_length, List.take_of_length_le]
 unfold headOf; rw [f1, f2, le4_back r (by omega), le4_back s (by omega)]; simp only [List.getD_cons_zero, List.getD_cons_succ]; rw [u8_lt k (by omega), u8_lt l (by omega), u8_lt _ (by omega), u8_lt _ (by omega)]
 congr 1
 omega
theorem page_take (f t : List UInt8) (h : f.length = 12) : (page f t).take 12 = f := by unfold page; rw [List.append_assoc, ← h, List.take_left]
theorem page_drop (f t : List UInt8) (h : f.length = 12) : (page f t).drop 16 = t := by
 unfold page
 have e : (f ++ Lib.leBytes 4 (crc f t)).length = 16 := by simp [h, Lib.leBytes_length]
 rw [← e, List.drop_left]
theorem page_sum (f t : List UInt8) (h : f.length = 12) : ((page f t).drop 12).take 4 = Lib.leBytes 4 (crc f t) := by
 unfold page; rw [List.append_assoc, ← h, List.drop_left]; have e : (Lib.leBytes 4 (crc f t)).length = 4 := Lib.leBytes_length 4 _; rw [show (4 : Nat) = (Lib.leBytes 4 (crc f t)).length from e.symm]; simp only [e]; rw [show List.take 4 (Lib.leBytes 4 (crc f t) ++ t) = List.take (Lib.leBytes 4 (crc f t)).length (Lib.leBytes 4 (crc f t) ++ t) by rw [e], List.take_left]
theorem headOf_page (h : H) (t : List UInt8) (hh : Ok h) : headOf (page (front h) t) = h := by unfold page; rw [List.append_assoc]; exact headOf_front h _ hh
theorem good_page (h : H) (t : List UInt8) (hh : Ok h) : good (page (front h) t) := by
 have e := page_sum (front h) t (front_length h); refine ⟨by rw [headOf_page h t hh]; exact hh, ?_⟩; rw [e, page_take _ _ (front_length h), page_drop _ _ (front_length h), le4_back _ (crc_lt _ _)]
theorem front_headOf (s : List UInt8) (hs : 12 ≤ s.length) : front (headOf s) = s.take 12 := by
 obtain ⟨a, b, c, d, t, rfl⟩ : ∃ a b c d t, s = a :: b :: c :: d :: t := by
  match s, hs with
  | a :: b :: c :: d :: t, _ => exact ⟨a, b, c, d, t, rfl⟩
 have ht : 8 ≤ t.length := by simpa using hs
 have e1 : headOf (a :: b :: c :: d :: t) = ⟨(a.toNat : Int), (b.toNat : Int), ((c.toNat + 256 * d.toNat : Nat) : Int), (Lib.leNat (t.take 4) : Nat), (Lib.leNat ((t.drop 4).take 4) : Nat)⟩ := rfl; rw [e1]; unfold front; simp only [Int.toNat_natCast]; have hc := c.toNat_lt; have hd := d.toNat_lt; rw [show (c.toNat + 256 * d.toNat) % 256 = c.toNat by omega, show (c.toNat + 256 * d.toNat) / 256 = d.toNat by omega, u8_back, u8_back, u8_back, u8_back]; rw [le4_of (t.take 4) (by rw [List.length_take]; omega), le4_of ((t.drop 4).take 4) (by rw [List.length_take, List.length_drop]; omega)]
 have e2 : t.take 4 ++ (t.drop 4).take 4 = t.take 8 := by rw [show (8 : Nat) = 4 + 4 from rfl, List.take_add]
 simp only [List.cons_append, List.nil_append, List.take_succ_cons, e2]
theorem page_of_good (s : List UInt8) (hs : 16 ≤ s.length) (h : good s) : page (front (headOf s)) (s.drop 16) = s := by
 rw [front_headOf s (by omega)]; unfold page; rw [← h.2, le4_of _ (by rw [List.length_take, List.length_drop]; omega)]
 have e : s.take 12 ++ (s.drop 12).take 4 = s.take 16 := by rw [show (16 : Nat) = 12 + 4 from rfl, List.take_add]
 rw [e, List.take_append_drop]
theorem good_iff (s : List UInt8) (hs : 16 ≤ s.length) : good s ↔ Ok (headOf s) ∧ page (front (headOf s)) (s.drop 16) = s :=
 ⟨fun h => ⟨h.1, page_of_good s hs h⟩, fun h => by rw [← h.2]; exact good_page _ _ h.1⟩
def sea (h : H) (b : ByteArray) (p : Int) : ByteArray × Int :=
 if mayBe p = false then (⟨#[]⟩, 4) else if right h = false then (⟨#[]⟩, 3) else if p - 16 < (b.size : Int) then (⟨#[]⟩, 8) else (⟨(page (front h) (rest b.data.toList p.toNat)).toArray⟩, 0)
theorem mayBe_bd {p : Int} (h : mayBe p = true) : 128 ≤ p ∧ p ≤ 1024 := by
 unfold mayBe at h; have := of_decide_eq_true h; omega
theorem seal_arg {p : Int} (h : H) (b : ByteArray) (hp : mayBe p = false) : sea h b p = (⟨#[]⟩, 4) := by unfold sea; rw [if_pos hp]
theorem seal_form {h : H} {p : Int} (b : ByteArray) (hp : mayBe p = true) (hh : right h = false) : sea h b p = (⟨#[]⟩, 3) := by
 unfold sea; rw [if_neg (by rw [hp]; simp), if_pos hh]
theorem seal_big {h : H} {b : ByteArray} {p : Int} (hp : mayBe p = true) (hh : right h = true) (hb : p - 16 < (b.size : Int)) : sea h b p = (⟨#[]⟩, 8) := by
 unfold sea; rw [if_neg (by rw [hp]; simp), if_neg (by rw [hh]; simp), if_pos hb]
theorem seal_good {h : H} {b : ByteArray} {p : Int} (hp : mayBe p = true) (hh : right h = true) (hb : ¬ p - 16 < (b.size : Int)) : sea h b p = (⟨(page (front h) (rest b.data.toList p.toNat)).toArray⟩, 0) := by
 unfold sea; rw [if_neg (by rw [hp]; simp), if_neg (by rw [hh]; simp), if_neg hb]
def opn (s : ByteArray) : H × ByteArray × Int := if mayBe s.size = true ∧ good s.data.toList then (headOf s.data.toList, s.extract 16 s.size, 0) else (H0, ⟨#[]⟩, 3)
theorem opn_good {s : ByteArray} (h : mayBe s.size = true) (hg : good s.data.toList) : opn s = (headOf s.data.toList, s.extract 16 s.size, 0) := by unfold opn; rw [if_pos ⟨h, hg⟩]
theorem opn_bad {s : ByteArray} (h : ¬ (mayBe s.size = true ∧ good s.data.toList)) : opn s = (H0, ⟨#[]⟩, 3) := by unfold opn; rw [if_neg h]
end Go.Proofs.YtpeghilfldpgfaaGreatDoor.L7.HP
namespace Go.Proofs.YtpeghilfldpgfaaGreatDoor.L10.NP
open Go.Proofs.YtpeghilfldpgfaaGreatDoor.L5 Go.Proofs.YtpeghilfldpgfaaGreatDoor.L7 Go.Proofs.YtpeghilfldpgfaaGreatDoor.L8 Go.Proofs.YtpeghilfldpgfaaGreatDoor.L9
structure It where
 k : ByteArray
 o : Bool
 s : ByteArray
 l : Int
 p : Int
def It.v (x : It) : VP.V := ⟨x.o, x.s.data.toList, x.l, x.p⟩
def It.key (x : It) : List UInt8 := x.k.data.toList
structure Lf where
 self : Int
 right : Int
 high : ByteArray
 items : List It
def Lf0 : Lf := ⟨0, 0, ⟨#[]⟩, []⟩
def keys (l : List It) : List (List UInt8) := l.map It.key
def com (l : List It) : List UInt8 := match keys l with | [] => [] | k :: _ => k.take (EP.span (keys l))
def fixed (l : Lf) : List UInt8 := VP.text (com l.items) ++ VP.text l.high.data.toList
def cells (l : List It) : List (List UInt8) := l.map fun x => VP.cellV (x.key.drop (EP.span (keys l))) x.v
def size (l : Lf) : Nat := LP.need (fixed l).length (cells l.items)
def hd (l : Lf) : HP.H := ⟨2, 0, l.items.length, l.right, l.self⟩
def body (l : Lf) (p : Nat) : List UInt8 := LP.pack (p - 16) (fixed l) (cells l.items)
def page (l : Lf) (p : Nat) : List UInt8 := HP.page (HP.front (hd l)) (body l p)
def Rise (l : List It) : Prop := l.Pairwise fun a b => a.key < b.key
instance (l : List It) : Decidable (Rise l) := by unfold Rise; infer_instance
def OkIt (x : It) (p : Int) : Prop := (x.k.size : Int) ≤ p / 8 ∧ VP.Right x.v ∧ (x.o = true → p / 4 < x.l) ∧ (x.o = false → (x.s.size : Int) ≤ p / 4)
instance (x : It) (p : Int) : Decidable (OkIt x p) := by unfold OkIt; infer_instance
def NumOk (l : Lf) : Prop := 1 ≤ l.self ∧ l.self ≤ 4095 ∧ 0 ≤ l.right ∧ l.right ≤ 4095 ∧ l.right ≠ l.self
instance (l : Lf) : Decidable (NumOk l) := by unfold NumOk; infer_instance
def HighOk (l : Lf) (p : Int) : Prop := (l.right = 0 → l.high.size = 0) ∧ (l.right ≠ 0 → l.high.size ≠ 0 ∧ (l.high.size : Int) ≤ p / 8 ∧ ∀ x ∈ l.items, x.key < l.high.data.toList)
instance (l : Lf) (p : Int) : Decidable (HighOk l p) := by unfold HighOk; infer_instance
def May (l : Lf) (p : Int) : Prop := mayBe p = true ∧ NumOk l ∧ HighOk l p ∧ Rise l.items ∧ ∀ x ∈ l.items, OkIt x p
instance (l : Lf) (p : Int) : Decidable (May l p) := by unfold May; infer_instance
def enc (l : Lf) (p : Int) : ByteArray × Int :=
 if mayBe p = false then (⟨#[]⟩, 4) else if ¬ May l p then (⟨#[]⟩, 3) else if p - 16 < (size l : Int) then (⟨#[]⟩, 8) else (⟨(page l p.toNat).toArray⟩, 0)
theorem enc_arg {p : Int} (l : Lf) (hp : mayBe p = false) : enc l p = (⟨#[]⟩, 4) := by unfold enc; rw [if_pos hp]
theorem enc_form {l : Lf} {p : Int} (hp : mayBe p = true) (h : ¬ May l p) : enc l p = (⟨#[]⟩, 3) := by unfold enc; rw [if_neg (by simp [hp]), if_pos h]
theorem enc_big {l : Lf} {p : Int} (h : May l p) (hs : p - 16 < (size l : Int)) : enc l p = (⟨#[]⟩, 8) := by unfold enc; rw [if_neg (by simp [h.1]), if_neg (by simpa using h), if_pos hs]
theorem enc_good {l : Lf} {p : Int} (h : May l p) (hs : ¬ p - 16 < (size l : Int)) : enc l p = (⟨(page l p.toNat).toArray⟩, 0) := by unfold enc; rw [if_neg (by simp [h.1]), if_neg (by simpa using h), if_neg hs]
theorem enc_cases (l : Lf) (p : Int) : (mayBe p = false ∧ enc l p = (⟨#[]⟩, 4)) ∨ (mayBe p = true ∧ ¬ May l p ∧ enc l p = (⟨#[]⟩, 3)) ∨ (May l p ∧ p - 16 < (size l : Int) ∧ enc l p = (⟨#[]⟩, 8)) ∨ (May l p ∧ (size l : Int) ≤ p - 16 ∧ enc l p = (⟨(page l p.toNat).toArray⟩, 0)) := by
 cases hp : mayBe p with
 | false => exact .inl ⟨rfl, enc_arg l hp⟩
 | true =>
  by_cases h : May l p
  ·by_cases hs : p - 16 < (size l : Int)
   ·exact .inr (.inr (.inl ⟨h, hs, enc_big h hs⟩))
   ·exact .inr (.inr (.inr ⟨h, by omega, enc_good h hs⟩))
  ·exact .inr (.inl ⟨rfl, h, enc_form hp h⟩)
theorem enc_ok {l : Lf} {p : Int} {s : ByteArray} (h : enc l p = (s, 0)) : May l p ∧ (size l : Int) ≤ p - 16 ∧ s = ⟨(page l p.toNat).toArray⟩ := by
 rcases enc_cases l p with ⟨_, e⟩ | ⟨_, _, e⟩ | ⟨_, _, e⟩ | ⟨h1, h2, e⟩
 ·rw [e] at h; simp at h
 ·rw [e] at h; simp at h
 ·rw [e] at h; simp at h
 ·rw [e] at h
  exact ⟨h1, h2, (congrArg Prod.fst h).symm⟩
def mapV : List (List UInt8) → Option (List (List UInt8 × VP.V))
 | [] => some []
 | c :: cs => match VP.getV c with
  | none => none
  | some x => match mapV cs with
   | none => none
   | some xs => some (x :: xs)
def item (c : List UInt8) (x : List UInt8 × VP.V) : It := ⟨⟨(c ++ x.1).toArray⟩, x.2.over, ⟨x.2.s.toArray⟩, x.2.len, x.2.page⟩
def parse (s : ByteArray) : Option Lf :=
 if mayBe s.size = true ∧ HP.good s.data.toList then
  match VP.gtext (s.data.toList.drop 16) 0 with
  | none => none
  | some (c, i) => match VP.gtext (s.data.toList.drop 16) i with
   | none => none
   | some (t, j) =>
    if LP.good (s.data.toList.drop 16) j (HP.headOf s.data.toList).c.toNat then
     match mapV (LP.cells (s.data.toList.drop 16) (HP.headOf s.data.toList).c.toNat) with
     | none => none
     | some xs => some ⟨(HP.headOf s.data.toList).s, (HP.headOf s.data.toList).r, ⟨t.toArray⟩, xs.map (item c)⟩
    else none
 else none
def dec (s : ByteArray) : Option Lf :=
 match parse s with
 | none => none
 | some l => if enc l s.size = (s, 0) then some l else none
theorem mapV_cells : ∀ (l : List It) (n : Nat), (∀ x ∈ l, VP.OkV (x.key.drop n) x.v) → mapV (l.map fun x => VP.cellV (x.key.drop n) x.v) = some (l.map fun x => (x.key.drop n, x.v))
 | [], n, h => rfl
 | x :: l, n, h => by
  have ih := mapV_cells l n fun y hy => h y (List.mem_cons_of_mem _ hy); have h1 := VP.getV_cell _ _ (h x (List.mem_cons_self)); simp only [List.map_cons, mapV, h1, ih]
theorem bytes_eq (s : ByteArray) : (⟨s.data.toList.toArray⟩ : ByteArray) = s := by apply ByteArray.ext; simp
theorem item_back {c : List UInt8} {x : It} {n : Nat} (h : c ++ x.key.drop n = x.key) : item c (x.key.drop n, x.v) = x := by
 obtain ⟨k, o, s, l, p⟩ := x; have h' : c ++ List.drop n k.data.toList = k.data.toList := h; simp only [item, It.v, It.key, h', bytes_eq]
theorem com_eq (l : List It) (x : It) (hx : x ∈ l) : com l = x.key.take (EP.span (keys l)) := by
 cases l with
 | nil => simp at hx
 | cons y m =>
  show y.key.take _ = _; exact EP.span_take (keys (y :: m)) y.key x.key (by simp [keys]) (List.mem_map_of_mem hx)
theorem com_length (l : List It) : (com l).length = EP.span (keys l) := by
 cases l with
 | nil => rfl
 | cons y m =>
  have h := EP.span_le (keys (y :: m)) y.key (by simp [keys]); show (y.key.take _).length = _; rw [List.length_take]; omega
theorem key_length (x : It) : x.key.length = x.k.size := by simp [It.key]
theorem mayBe_le {p : Int} (h : mayBe p = true) : p = 128 ∨ p = 256 ∨ p = 512 ∨ p = 1024 := by unfold mayBe at h; exact of_decide_eq_true h
theorem May.okV {l : Lf} {p : Int} (h : May l p) {x : It} (hx : x ∈ l.items) (n : Nat) : VP.OkV (x.key.drop n) x.v := by
 have h1 := h.2.2.2.2 x hx; have h2 := mayBe_le h.1; have hk := h1.1; refine ⟨?_, h1.2.1⟩; rw [List.length_drop, key_length]; omega
theorem need_ge (f : Nat) (cs : List (List UInt8)) : f + 2 + 2 * cs.length ≤ LP.need f cs := by unfold LP.need; omega
theorem May.fits {l : Lf} {p : Int} (h : May l p) (hs : (size l : Int) ≤ p - 16) : HP.Ok (hd l) ∧ l.items.length ≤ 503 := by
 have h1 := h.2.1; have h2 := mayBe_le h.1; have h3 := need_ge (fixed l).length (cells l.items)
 have h4 : (cells l.items).length = l.items.length := by simp [cells]
 unfold NumOk at h1; unfold size at hs; unfold HP.Ok hd; simp only; omega
theorem body_length {l : Lf} {p : Nat} (hs : size l ≤ p - 16) : (body l p).length = p - 16 := LP.pack_length _ _ _ hs
theorem page_length {l : Lf} {p : Nat} (hp : 16 ≤ p) (hs : size l ≤ p - 16) : (page l p).length = p := by
 unfold page; rw [HP.page_length, HP.front_length, body_length hs]; omega
theorem parse_page {l : Lf} {p : Nat} (h : May l p) (hs : (size l : Int) ≤ p - 16) : parse ⟨(page l p).toArray⟩ = some l := by
 obtain ⟨hok, hn⟩ := h.fits hs; have hp := mayBe_le h.1
 have hsz : size l ≤ p - 16 := by omega
 have e1 : (⟨(page l p).toArray⟩ : ByteArray).data.toList = page l p := rfl
 have e2 : (⟨(page l p).toArray⟩ : ByteArray).size = p := by
  show (page l p).toArray.size = p; rw [List.size_toArray, page_length (by omega) hsz]
 have e3 : (page l p).drop 16 = body l p := HP.page_drop _ _ (HP.front_length _); have e4 : HP.headOf (page l p) = hd l := HP.headOf_page _ _ hok; have e5 : HP.good (page l p) := HP.good_page _ _ hok; obtain ⟨R, hR⟩ : ∃ R, body l p = fixed l ++ R := ⟨_, by unfold body LP.pack; rw [List.append_assoc, List.append_assoc]⟩
 have hcl : (com l.items).length ≤ 128 := by
  rw [com_length]
  cases hi : l.items with
  | nil => exact Nat.zero_le _
  | cons y m =>
   have h1 := (h.2.2.2.2 y (by rw [hi]; exact List.mem_cons_self)).1; have h2 := EP.span_le (keys (y :: m)) y.key (by simp [keys]); rw [key_length] at h2; omega
 have hhl : l.high.data.toList.length ≤ 128 := by
  have h1 := h.2.2.1
  have h2 : l.high.data.toList.length = l.high.size := by simp
  rw [h2]; by_cases h0 : l.right = 0
  ·rw [h1.1 h0]; omega
  ·have := (h1.2 h0).2.1; omega
 have g1 : VP.gtext (body l p) 0 = some (com l.items, (VP.text (com l.items)).length) := by
  have hg := VP.gtext_at [] (VP.text l.high.data.toList ++ R) (com l.items) (by omega); rw [hR]; unfold fixed
  simpa using hg
 have g2 : VP.gtext (body l p) (VP.text (com l.items)).length = some (l.high.data.toList, (fixed l).length) := by
  have hg := VP.gtext_at (VP.text (com l.items)) R l.high.data.toList (by omega); rw [hR]; unfold fixed; rw [List.length_append]; exact hg
 obtain ⟨hgd, hcs, -⟩ := LP.pack_good (p - 16) (fixed l) (cells l.items) (by omega) hsz
 have hlen : (cells l.items).length = l.items.length := by simp [cells]
 rw [hlen] at hgd hcs; have hm := mapV_cells l.items (EP.span (keys l.items)) fun x hx => h.okV hx _; unfold parse; rw [e1, e2, e3, e4]; rw [if_pos ⟨h.1, e5⟩]
 have hc : (hd l).c.toNat = l.items.length := by simp [hd]
 simp only [g1, g2, hc]; unfold body; rw [if_pos hgd, hcs]; unfold cells; rw [hm]; simp only [Option.some.injEq, List.map_map]
 have hit : (l.items.map ((item (com l.items)) ∘ fun x => (x.key.drop (EP.span (keys l.items)), x.v))) = l.items := by
  conv => rhs; rw [← List.map_id l.items]
  refine List.map_congr_left fun x hx => ?_; show item _ _ = x; exact item_back (by rw [com_eq l.items x hx, List.take_append_drop])
 rw [hit, bytes_eq]; rfl
theorem dec_iff (s : ByteArray) (l : Lf) : dec s = some l ↔ enc l s.size = (s, 0) := by
 constructor
 ·intro h
  unfold dec at h
  split at h
  ·simp at h
  ·split at h
   ·rename_i h2
    obtain rfl := Option.some.inj h; exact h2
   ·simp at h
 ·intro h
  obtain ⟨h1, h2, h3⟩ := enc_ok h; have hp := parse_page h1 (by simpa using h2); rw [Int.toNat_natCast] at h3; rw [← h3] at hp; unfold dec; rw [hp]; simp only; rw [if_pos h]
theorem dec_none {s : ByteArray} (h : ∀ l, enc l s.size ≠ (s, 0)) : dec s = none := by
 cases e : dec s with
 | none => rfl
 | some l => exact absurd ((dec_iff s l).1 e) (h l)
theorem dec_parse {s : ByteArray} {l : Lf} (h : parse s = some l) : dec s = if enc l s.size = (s, 0) then some l else none := by unfold dec; rw [h]
theorem dec_parse_none {s : ByteArray} (h : parse s = none) : dec s = none := by unfold dec; rw [h]
theorem enc_head {l : Lf} {s : ByteArray} (h : enc l s.size = (s, 0)) : mayBe s.size = true ∧ HP.good s.data.toList ∧ HP.headOf s.data.toList = hd l ∧ s.data.toList.drop 16 = body l s.size := by
 obtain ⟨h1, h2, h3⟩ := enc_ok h; obtain ⟨hok, -⟩ := h1.fits h2; rw [Int.toNat_natCast] at h3; have e1 : s.data.toList = page l s.size := congrArg (fun b : ByteArray => b.data.toList) h3; refine ⟨h1.1, ?_, ?_, ?_⟩
 ·rw [e1]; exact HP.good_page _ _ hok
 ·rw [e1]; exact HP.headOf_page _ _ hok
 ·rw [e1]; exact HP.page_drop _ _ (HP.front_length _)
theorem dec_kind {s : ByteArray} (h : (HP.headOf s.data.toList).k ≠ 2) : dec s = none := dec_none fun l e => h (by rw [(enc_head e).2.2.1]; rfl)
theorem put_few (n : Nat) (h : n ≤ 4096) : (WP.put n).length ≤ 3 := by
 obtain ⟨b, r, -, -, -, hl⟩ := WP.put_form n (by omega); rw [hl]; unfold WP.size
 split
 ·omega
 ·split
  ·omega
  ·split <;> omega
theorem text_few (t : List UInt8) (h : t.length ≤ 4096) : (VP.text t).length ≤ t.length + 3 := by
 have := put_few t.length h; rw [VP.text_length]; omega
theorem tail_few {v : VP.V} {q : Nat} (h : VP.Right v) (hq : 4 ≤ q) (hs : v.over = false → v.s.length ≤ q) : (VP.tail v).length ≤ q + 4 := by
 unfold VP.tail
 split
 ·rename_i ho
  rcases h with ⟨h1, h2, h3, h4, h5, h6⟩ | ⟨h1, _⟩
  ·have := put_few v.len.toNat (by omega)
   simp only [List.length_cons, List.length_append, Lib.leBytes_length]; omega
  ·rw [h1] at ho; cases ho
 ·rename_i ho
  have ho' : v.over = false := by simpa using ho
  have h1 := hs ho'
  have h2 : v.s.length ≤ 256 := by
   rcases h with ⟨h1, _⟩ | ⟨_, h2, _⟩
   ·rw [h1] at ho'; cases ho'
   ·exact h2
  have := text_few v.s (by omega); simp only [List.length_cons]; omega
end Go.Proofs.YtpeghilfldpgfaaGreatDoor.L10.NP
namespace Go.Proofs.YtpeghilfldpgfaaGreatDoor
open Go.RowKit
theorem _root_.Go.RowKit.Below.trans' {w a b : World} (h : Below w.heap.size w a) (k : Below a.heap.size a b) : Below w.heap.size w b := h.trans (k.mono h.size)
end Go.Proofs.YtpeghilfldpgfaaGreatDoor
namespace Go.Proofs.YtpeghilfldpgfaaGreatDoor.L5
open Go.RowKit
theorem below_alloc (w : World) (o : Obj) : Below w.heap.size w (w.alloc o) := (Below.refl _ w).alloc (Nat.le_refl _) o
theorem below_drewN {c : Nat} {w v : World} (h : Below c w v) (n : Nat) : Below c w (v.drewN n) := ⟨h.os, h.tape, h.output, h.size, h.block⟩
theorem below_of_drew {w v : World} (h : Below w.drew.heap.size w.drew v) : Below w.heap.size w v := ⟨h.os, h.tape, h.output, h.size, h.block⟩
abbrev B (s : ByteArray) : List UInt8 := s.data.toList
def Bs (l : List ByteArray) : List (List UInt8) := l.map B
theorem b_size (s : ByteArray) : (B s).length = s.size := by simp [B]
theorem b_get (s : ByteArray) (j : Nat) (h : j < s.size) : (B s)[j]? = some s[j] := by
 rw [List.getElem?_eq_getElem (by rw [b_size]; exact h)]; rfl
theorem b_extract (s : ByteArray) (i j : Nat) : B (s.extract i j) = ((B s).drop i).take (j - i) := Lib.extract_data s i j
theorem b_inj {s t : ByteArray} (h : B s = B t) : s = t := ByteArray.ext (Array.toList_inj.1 h)
theorem bs_length (l : List ByteArray) : (Bs l).length = l.length := by simp [Bs]
theorem bs_mem {l : List ByteArray} {s : ByteArray} (h : s ∈ l) : B s ∈ Bs l := List.mem_map.2 ⟨s, h, rfl⟩
theorem bs_snoc (l : List ByteArray) (k : Nat) (s : ByteArray) (h : l[k]? = some s) : Bs (l.take (k + 1)) = Bs (l.take k) ++ [B s] := by
 have : l.take (k + 1) = l.take k ++ [s] := by rw [List.take_add_one, h]; rfl
 rw [this]; simp [Bs]
theorem addr_block (a : Addr) (n : Nat) : (a.add n).block = a.block := by unfold Addr.add; split <;> rfl
theorem addr_add (a : Addr) (i j : Nat) : (a.add i).add j = a.add (i + j) := by
 unfold Addr.add
 by_cases hi : i = 0 <;> by_cases hj : j = 0 <;> simp [hi, hj, Nat.add_assoc]
def Lies (w : World) (b : Nat) (A : Option Addr) (l : List ByteArray) : Prop :=
 ∀ i s, l[i]? = some s → ∃ a, A = some a ∧ a.block < b ∧ w.cell? (a.add i) = some (.string s)
section
variable {w w' : World} {b b' : Nat} {A : Option Addr} {l : List ByteArray}
theorem Lies.nil (w : World) (b : Nat) (A : Option Addr) : Lies w b A [] := fun i c h => by simp at h
theorem Lies.keep (h : Lies w b A l) (hk : ∀ p : Addr, p.block < b → w'.cell? p = w.cell? p) : Lies w' b A l := fun i c hc => by
 obtain ⟨a, e, hb, hx⟩ := h i c hc; exact ⟨a, e, hb, (hk _ (by rw [addr_block]; exact hb)).trans hx⟩
theorem Lies.more (h : Lies w b A l) (hB : b ≤ b') : Lies w b' A l := fun i c hc => by
 obtain ⟨a, e, hb, hx⟩ := h i c hc; exact ⟨a, e, by omega, hx⟩
theorem Lies.below (h : Lies w b A l) (k : Below b w w') : Lies w' b A l := h.keep fun _ hp => k.cell hp
theorem Lies.on (h : Lies w w.heap.size A l) (k : Below w.heap.size w w') : Lies w' w'.heap.size A l := (h.below k).more k.size
theorem Lies.tail {s : ByteArray} {a : Addr} (h : Lies w b (some a) (s :: l)) : Lies w b (some (a.add 1)) l := fun i c hc => by
 obtain ⟨a', e, hb, hx⟩ := h (i + 1) c (by simpa using hc); obtain rfl := Option.some.inj e; exact ⟨_, rfl, by rw [addr_block]; exact hb, by rw [addr_add, Nat.add_comm]; exact hx⟩
end
def strCells (l : List ByteArray) : List Value := l.map Value.string
theorem strCells_length (l : List ByteArray) : (strCells l).length = l.length := by simp [strCells]
theorem strCells_snoc (l : List ByteArray) (s : ByteArray) : strCells (l ++ [s]) = strCells l ++ [.string s] := by simp [strCells]
theorem lies_own {w : World} {base e : Nat} {A : Option Addr} {n cap : Nat} {l : List ByteArray} (h : w.ownsRow base e 1 (.slice A n cap) n (strCells l)) (hn : n = l.length) : Lies w w.heap.size A l := fun i c hc => by
 have hi : i < l.length := (List.getElem?_eq_some_iff.1 hc).1; obtain ⟨g, cap', hv, _, hlt⟩ := h.form (by omega)
 have hA : A = some ⟨g, 0, none⟩ := by injection hv
 subst hA; exact ⟨_, rfl, hlt, h.cells (g := g) rfl _ _ (by simp [strCells, hc])⟩
theorem alike_any (x : ByteArray) (A : Option Addr) (l : List ByteArray) (ca : Nat) (w : World) (ha : Lies w w.heap.size A l) (hl : l.length ≤ 1000) (hx : x.size ≤ 1000000) (hs : ∀ s ∈ l, s.size ≤ 1000000) :
  Calls Tryz.prog 202 #[.string x, .slice A l.length ca] w fun e w' => e = .returned (.int .i64 (EP.al (B x) (Bs l))) ∧ Below w.heap.size w w' := by
 have HA := zj ha; have HS := zj hs; obtain ⟨r, HR⟩ : ∃ r, Hid (r = EP.al (B x) (Bs l)) := ⟨_, zj rfl⟩; rw [← HR.out]; obtain ⟨n, hn⟩ : ∃ n, n = l.length := ⟨_, rfl⟩; have HN := zj hn; rw [← hn]; rw [← hn] at hl; clear ha hs hn; go_enter Tryz.func202, Tryz.ntmps202; go_wp2_with fail
 go_loopw [5, 13] (fun nv iv wr => ∃ k m : Nat, k ≤ n ∧ iv = .int .i64 k ∧ nv = .int .i64 m ∧ m ≤ x.size ∧ Hid (m = EP.al (B x) (Bs (l.take k))) ∧ Below w.heap.size w wr) (fun _ iv _ => n - (intOf iv).toNat)
 case atStart =>
  exact ⟨0, x.size, by omega, rfl, rfl, Nat.le_refl _, zj (by simp [EP.al, Bs]), Below.refl _ _⟩
 case round =>
  obtain ⟨k, m, hk, rfl, rfl, hm, HM, hbw⟩ := hrel; by_cases hlt : k < n
  ·obtain ⟨s, hc⟩ : ∃ c, l[k]? = some c := ⟨_, List.getElem?_eq_getElem (by have := HN.out; omega)⟩
   obtain ⟨a, rfl, hab, x0⟩ := (HA.out.below hbw) k s hc; have HC := zj hc; have hsz := HS.out s (List.mem_of_getElem? hc); obtain ⟨q, hq, hqm, hqs, HQ⟩ : ∃ q : Nat, min (m : Int) s.size = q ∧ q ≤ m ∧ q ≤ s.size ∧ Hid (q = min m s.size) := ⟨min m s.size, by omega, by omega, by omega, zj rfl⟩; clear hc hab; go_wp2_with fail
   go_loopw [8] (fun av wq => ∃ j : Nat, av = .int .i64 j ∧ j ≤ q ∧ Hid (j ≤ EP.com (B x) (B s)) ∧ Below w.heap.size w wq) (fun av _ => q - (intOf av).toNat)
   case atStart => exact ⟨0, rfl, by omega, zj (by omega), hbw⟩
   case round =>
    obtain ⟨j, rfl, hj, HJ, hbq⟩ := hrel; clear hbw x0
    have h0 : ((0 : Int) ≤ j) := by omega
    by_cases hjq : j < q
    ·have hjs : j < s.size := by omega
     have hjx : j < x.size := by omega
     have d1 : decide ((j : Int) < q) = true := by simp; omega
     have HN2 : Hid (j < EP.com (B x) (B s) ↔ s[j] = x[j]) := zj (by
      rw [EP.com_next _ _ _ HJ.out, b_get x j hjx, b_get s j hjs]
      simp [eq_comm])
     by_cases he : s[j] = x[j]
     ·have h1 := HN2.out.2 he
      have HJ' : Hid (j + 1 ≤ EP.com (B x) (B s)) := zj h1
      have d2 : ((s[j].toNat : Int) == (x[j].toNat : Int)) = true := by rw [he]; simp
      clear he h1 HN2 HJ; go_wp2_with fail
      go_quiet (fail)
      go_wp2_with fail
      go_round
      case rel => exact ⟨j + 1, by simp, by omega, HJ', below_drewN hbq _⟩
      case measure => simp [intOf]; omega
     ·have h1 : Hid (EP.com (B x) (B s) = j) := zj (Nat.le_antisymm (Nat.not_lt.1 fun h => he (HN2.out.1 h)) HJ.out)
      have d2 : ((s[j].toNat : Int) == (x[j].toNat : Int)) = false := by
       rw [beq_eq_false_iff_ne]; intro e; exact he (UInt8.toNat_inj.1 (by omega))
      clear he HN2 HJ; go_wp2_with fail
      go_quiet (fail)
      go_wp2_with fail
      go_round
      case rel => exact ⟨k + 1, j, by omega, by simp, rfl, by omega, zj (by rw [bs_snoc l k s HC.out, EP.al_snoc, ← HM.out, h1.out]; omega), below_drewN hbq _⟩
      case measure => simp [intOf]; omega
    ·have hjq' : j = q := by omega
     subst hjq'
     have d1 : decide ((j : Int) < j) = false := by simp
     have h1 : Hid (min m (EP.com (B x) (B s)) = j) := zj (by
      have h1 := HQ.out; have h2 := HJ.out; have h3 := EP.com_right (B x) (B s); rw [b_size] at h3
      omega)
     clear HJ; go_wp2_with fail
     go_quiet (fail)
     go_wp2_with fail
     go_round
     case rel => exact ⟨k + 1, j, by omega, by simp, rfl, by omega, zj (by rw [bs_snoc l k s HC.out, EP.al_snoc, ← HM.out, h1.out]), below_drewN hbq _⟩
     case measure => simp [intOf]; omega
  ·have hkn : k = n := by omega
   subst hkn; have HL : Hid (m = r) := zj (by rw [HM.out, HR.out, List.take_of_length_le (by have := HN.out; omega)]); go_wp2_with fail; go_ret; exact ⟨by rw [HL.out]; rfl, hbw⟩
theorem addr_zero (a : Addr) : a.add 0 = a := by simp [Addr.add]
theorem span_none (A : Option Addr) (ca : Nat) (w : World) :
  Calls Tryz.prog 171 #[.slice A 0 ca] w fun e w' => e = .returned (.int .i64 0) ∧ Below w.heap.size w w' := by
 go_enter Tryz.func171, Tryz.ntmps171; go_wp2_with fail; go_ret; exact ⟨rfl, Below.refl _ _⟩
abbrev behind (a : Addr) (ca : Nat) : Option Addr := if ca = 1 then some a else some { block := a.block, off := a.off + 1 }
theorem Lies.behind {w : World} {b ca : Nat} {s : ByteArray} {a : Addr} {l : List ByteArray} (h : Lies w b (some a) (s :: l)) (hc : l.length + 1 ≤ ca) : Lies w b (behind a ca) l := by
 by_cases h1 : ca = 1
 ·have h0 : l = [] := List.eq_nil_of_length_eq_zero (by omega)
  subst h0; exact Lies.nil _ _ _
 ·rw [Go.Proofs.YtpeghilfldpgfaaGreatDoor.L5.behind, if_neg h1]
  exact h.tail
theorem span_some (a : Addr) (s : ByteArray) (l : List ByteArray) (ca : Nat) (w : World) (ha : Lies w w.heap.size (some a) (s :: l)) (hl : l.length ≤ 1000) (hs : ∀ t ∈ s :: l, t.size ≤ 1000000) (hc : l.length + 1 ≤ ca) :
  Calls Tryz.prog 171 #[.slice (some a) (l.length + 1 : Nat) ca] w fun e w' => e = .returned (.int .i64 (EP.span (Bs (s :: l)))) ∧ Below w.heap.size w w' := by
 have HC := zj (fun W (h : Lies W W.heap.size (behind a ca) l) => alike_any s (behind a ca) l (ca - 1) W h hl (hs s (by simp)) (fun t ht => hs t (by simp [ht]))); rw [show EP.span (Bs (s :: l)) = EP.al (B s) (Bs l) from rfl]; have HT := zj (ha.behind hc); obtain ⟨_, e, hab, x0⟩ := ha 0 s rfl; obtain rfl := Option.some.inj e; rw [addr_zero] at x0; have HK0 : Hid (Below w.heap.size w w.drew) := zj ⟨rfl, rfl, rfl, Nat.le_refl _, fun _ _ => rfl⟩
 have HKeep : Hid (∀ W W' : World, Below W.heap.size W W' → (W.cell? a = some (.string s) ∧ Hid (Below w.heap.size w W)) → (W'.cell? a = some (.string s) ∧ Hid (Below w.heap.size w W'))) := zj (fun W W' hb h => by
  have h2 := h.2.out.trans' hb
  exact ⟨(h2.cell hab).trans x0, zj h2⟩)
 generalize EP.al (B s) (Bs l) = r at *; clear ha hs hab; generalize l.length = n at *
 have hn1 : ¬ (ca : Int) < 1 := by omega
 have hn2 : (1 : Int) ≤ n + 1 := by omega
 by_cases h1 : ca = 1
 ·subst h1
  obtain rfl : n = 0 := by omega
  have HC : Hid (∀ W : World, Lies W W.heap.size (some a) l → Calls Tryz.prog 202 #[.string s, .slice (some a) 0 0] W fun e w' => e = .returned (.int .i64 (r : Nat)) ∧ Below W.heap.size W w') := HC; have HT : Hid (Lies w w.heap.size (some a) l) := HT; go_enter Tryz.func171, Tryz.ntmps171; go_wp2_with fail
  go_region_held3 (fun W => W.cell? a = some (.string s) ∧ Hid (Below w.heap.size w W)) (first | assumption | exact ⟨x0, HK0⟩ | exact HKeep.out _ _ (by assumption) (by assumption))
   (first
    | (go_at_call 202; refine (HC.out _ (HT.out.on HK0.out)).mono ?_; rintro e w1 ⟨rfl, hb1⟩)
    | fail "no arm")
  go_wp2_with fail; go_ret; exact ⟨rfl, below_of_drew hb1⟩
 ·rw [show behind a ca = some ⟨a.block, a.off + 1, none⟩ from if_neg h1] at HC HT
  go_enter Tryz.func171, Tryz.ntmps171; go_wp2_with fail
  go_region_held3 (fun W => W.cell? a = some (.string s) ∧ Hid (Below w.heap.size w W)) (first | assumption | exact ⟨x0, HK0⟩ | exact HKeep.out _ _ (by assumption) (by assumption))
   (first
    | (go_at_call 202; refine (HC.out _ (HT.out.on HK0.out)).mono ?_; rintro e w1 ⟨rfl, hb1⟩)
    | fail "no arm")
  go_wp2_with fail; go_ret; exact ⟨rfl, below_of_drew hb1⟩
theorem Tryz.infoByte : (Tryz.prog.info? 5).map (fun i => (i.zero, i.size, i.bytes)) = some (some (.int .u8 0), 1, 1) := by kernel_rfl
def txt (s : ByteArray) : Array Value := (Lib.byteCells (B s)).toArray
theorem txt_size (s : ByteArray) : (txt s).size = s.size := by simp [txt, Lib.byteCells_length]
theorem litClone_any (s : ByteArray) (w : World) (hs : s.size ≤ 1000000) :
  Calls Tryz.prog 160 #[.string s] w fun e w' => e = .returned (.string s) ∧ Below w.heap.size w w' := by
 by_cases h0 : s.size = 0
 ·obtain rfl : s = ⟨#[]⟩ := ByteArray.ext (Array.eq_empty_of_size_eq_zero h0)
  go_enter Tryz.func160, Tryz.ntmps160
  go_wp2
  go_ret; exact ⟨rfl, Below.refl _ _⟩
 ·obtain ⟨i0, hi, hz0, hz1, hz2⟩ := info_parts Tryz.infoByte
  have hsz : (Tryz.prog.info? 5).map (·.size) = some 1 := by rw [hi]; simp [hz1]
  have hcells : Tryz.prog.cellsOf 5 = 1 := by simp [Program.cellsOf, hi, hz1]
  obtain ⟨Z, hZ⟩ : ∃ Z, Z = madeCells (Value.int .u8 0).cells (((s.size : Nat) : Int).toNat * i0.size) := ⟨_, rfl⟩
  have hZs : Z.size = s.size := by rw [hZ, size_madeCells, hz1]; simp
  -- the bytes are made,
  have mk : ∀ W : World, (Instr.makeSlice 86 (.int .i64 (s.size : Int)) (.int .i64 (s.size : Int))).run Tryz.prog W = .ok (.slice (some ⟨W.heap.size, 0, none⟩) s.size s.size) (W.alloc (.cells Z 5)) := fun W => by
   have h := run_make (P := Tryz.prog) W 86 5 i0 (.int .u8 0) Tryz.underlying86 hi hz0 .i64 .i64 (s.size : Int) (s.size : Int) (by omega) (by omega) (by rw [hz2]; omega) (by omega); rw [← hZ] at h
   simpa using h
  clear hZ
  -- become the text's,
  have heap1 := heap_alloc_new w (.cells Z 5); have cp := Lib.run_copy_row_string (P := Tryz.prog) (w.alloc (.cells Z 5)) 86 9 3 5 w.heap.size 0 s.size s.size s Z 5 Tryz.underlying86 hsz heap1 (Nat.le_refl _) (by omega)
  rw [show (Z.toList.take 0 ++ Lib.byteCells s.data.toList ++ Z.toList.drop (0 + s.size)).toArray = txt s by
   rw [List.take_zero, List.nil_append, List.drop_of_length_le (by simp; omega), List.append_nil]; rfl] at cp
  have heap2 : ((w.alloc (.cells Z 5)).setRow w.heap.size (txt s)).heap[w.heap.size]? = some (.cells (txt s) 5 (0, 0)) := setRow_heap _ _ Z _ 5 (0, 0) heap1; have hb2 : Below w.heap.size w ((w.alloc (.cells Z 5)).setRow w.heap.size (txt s)) := (below_alloc w _).trans ⟨rfl, rfl, rfl, by simp, fun k hk => setRow_other _ _ _ _ (by omega)⟩; have hne : B s ≠ [] := fun e => h0 (by rw [← b_size, e]; rfl); generalize (w.alloc (.cells Z 5)).setRow w.heap.size (txt s) = w2 at *
  -- and are the answer.
  have us := Lib.run_unsafeString_row (P := Tryz.prog) w2 272 3 9 5 Tryz.underlying272 hcells w.heap.size (txt s).size (by unfold World.shape?; rw [heap2]) (B s) hne (by rw [b_size, txt_size]; exact Nat.le_refl _) (by rw [b_size]; omega)
   (fun j x hx => Lib.cells_of_row heap2 (txt s).size j _ (by rw [List.take_of_length_le (by rw [Array.length_toList]; exact Nat.le_refl _)]; simp [txt, Lib.byteCells, hx]))
  rw [b_size] at us; have hfz := Lib.below_freeze hb2 (p := ⟨w.heap.size, 0, none⟩) (Nat.le_refl _) s.size; go_enter Tryz.func160, Tryz.ntmps160
  go_wp2
  go_ret; exact ⟨rfl, hfz⟩
theorem clone_any (s : ByteArray) (w : World) (hs : s.size ≤ 1000000) :
  Calls Tryz.prog 98 #[.string s] w fun e w' => e = .returned (.string s) ∧ Below w.heap.size w w' := by
 go_enter Tryz.func98, Tryz.ntmps98; go_wp2_with fail; refine (litClone_any s _ hs).mono ?_; rintro e w1 ⟨rfl, hb1⟩; go_wp2_with fail; go_ret; exact ⟨rfl, hb1⟩
theorem less_of (a b : ByteArray) : Op.bytesLess a.toList b.toList = decide (B a < B b) := by rw [bytesLess_eq, Lib.toList_data, Lib.toList_data]
theorem less_yes {a b : ByteArray} (h : B a < B b) : Op.bytesLess a.toList b.toList = true := by rw [less_of]; exact dT h
theorem less_no {a b : ByteArray} (h : ¬ B a < B b) : Op.bytesLess a.toList b.toList = false := by rw [less_of]; exact dF h
theorem same_yes {a b : ByteArray} (h : B a = B b) : (a.toList == b.toList) = true := by rw [Lib.toList_data, Lib.toList_data]; exact beq_iff_eq.2 h
theorem same_no {a b : ByteArray} (h : B a ≠ B b) : (a.toList == b.toList) = false := by rw [Lib.toList_data, Lib.toList_data]; exact beq_eq_false_iff_ne.2 h
theorem Tryz.infoStr : (Tryz.prog.info? 9).map (fun i => (i.zero, i.size, i.bytes)) = some (some (.string ⟨#[]⟩), 1, 16) := by kernel_rfl
abbrev Owns (w : World) (base : Nat) (v : Value) (n : Nat) (l : List ByteArray) : Prop := w.ownsRow base 9 1 v n (strCells l)
theorem own_below {base n : Nat} {v : Value} {xs : List Value} {e : TypeId} {w w' : World} (h : w.ownsRow base e 1 v n xs) (k : Below w.heap.size w w') : w'.ownsRow base e 1 v n xs := by
 refine h.kept (row := none) ⟨k.os, k.tape, k.output, k.size, fun i hi _ => k.block i hi⟩ ?_
 cases hv : v.ownBlock with
 | none => exact .inl rfl
 | some x => exact .inr (by simp)
theorem own_empty (w : World) (e : Nat) : (w.alloc (.cells #[] e)).ownsRow w.heap.size e 1 (.slice (some ⟨w.heap.size, 0, none⟩) 0 0) 0 [] :=
 ⟨by simp, .inr ⟨w.heap.size, 0, #[], rfl, Nat.le_refl _, heap_alloc_new w _, by omega, by unfold maxLen; omega, by simp, by simp⟩⟩
theorem own_apart {w w' : World} {base e n q : Nat} {v : Value} {xs : List Value} (h : w.ownsRow base e 1 v n xs) (hg : w.grownBy w' v.ownBlock) (hb : q ≤ base) (hq : q ≤ w.heap.size) : Below q w w' :=
 (Below.refl q w).grown hg hq (fun k hk => by
  rcases h.2 with ⟨rfl, _⟩ | ⟨g, cap, cur, rfl, hg', _⟩
  ·simp [Value.ownBlock] at hk
  ·simp [Value.ownBlock] at hk; omega)
theorem own_cap {w : World} {base e n cap : Nat} {A : Option Addr} {xs : List Value} (h : w.ownsRow base e 1 (.slice A n cap) n xs) : n ≤ cap := by
 rcases h.2 with ⟨_, h0⟩ | ⟨g, c, cur, e, _, _, hc, _⟩
 ·omega
 ·simp only [Value.slice.injEq] at e
  omega
theorem str_one (s : ByteArray) : ∀ u ∈ [Value.string s], u.oneCell' = true := by simp [Value.oneCell']
def sp (l : List ByteArray) : Nat := EP.span (Bs l)
def bare (p : Nat) (s : ByteArray) : ByteArray := s.extract p s.size
def headS : List ByteArray → ByteArray
 | [] => ⟨#[]⟩
 | s :: l => s.extract 0 (sp (s :: l))
def bares (l : List ByteArray) : List ByteArray := l.map (bare (sp l))
theorem bares_length (l : List ByteArray) : (bares l).length = l.length := by simp [bares]
theorem b_head (p : Nat) (s : ByteArray) : B (s.extract 0 p) = (B s).take p := by rw [b_extract]; rfl
theorem sp_le (l : List ByteArray) (s : ByteArray) (h : s ∈ l) : sp l ≤ s.size := by
 have := EP.span_le (Bs l) (B s) (bs_mem h); rwa [b_size] at this
theorem span_any (A : Option Addr) (l : List ByteArray) (ca : Nat) (w : World) (ha : Lies w w.heap.size A l) (hl : l.length ≤ 1000) (hs : ∀ s ∈ l, s.size ≤ 1000) (hc : l.length ≤ ca) :
  Calls Tryz.prog 171 #[.slice A l.length ca] w fun e w' => e = .returned (.int .i64 (sp l)) ∧ Below w.heap.size w w' := by
 cases l with
 | nil => exact span_none A ca w
 | cons s l =>
  obtain ⟨a, rfl, _, _⟩ := ha 0 s rfl; exact span_some a s l ca w ha (by simp at hl; omega) (fun t ht => by have := hs t ht; omega) (by simpa using hc)
def bareTo (l : List ByteArray) (p k : Nat) : List Value := strCells ((l.take k).map (bare p)) ++ List.replicate (l.length - k) (.string ⟨#[]⟩)
theorem bareTo_zero (l : List ByteArray) (p : Nat) : bareTo l p 0 = List.replicate l.length (.string ⟨#[]⟩) := by simp [bareTo, strCells]
theorem bareTo_full (l : List ByteArray) (p : Nat) : bareTo l p l.length = strCells (l.map (bare p)) := by simp [bareTo]
theorem bareTo_set (l : List ByteArray) (p k : Nat) (s : ByteArray) (h : l[k]? = some s) : (bareTo l p k).set k (.string (bare p s)) = bareTo l p (k + 1) := by
 have hk : k < l.length := (List.getElem?_eq_some_iff.1 h).1
 have h1 : l.take (k + 1) = l.take k ++ [s] := by rw [List.take_add_one, h]; rfl
 have hlen : (strCells ((l.take k).map (bare p))).length = k := by simp [strCells]; omega
 rw [bareTo, List.set_append_right _ _ (by omega), hlen, Nat.sub_self, bareTo, h1, show l.length - k = (l.length - (k + 1)) + 1 by omega, List.replicate_succ, List.set_cons_zero]; simp [strCells]
theorem bareTo_at (l : List ByteArray) (p k : Nat) (h : k < l.length) : (bareTo l p k)[k]? = some (.string ⟨#[]⟩) := by
 have hlen : (strCells ((l.take k).map (bare p))).length = k := by simp [strCells]; omega
 rw [bareTo, List.getElem?_append_right (by omega), hlen, Nat.sub_self, List.getElem?_replicate, if_pos (by omega)]
theorem made_blank (m : Nat) : (madeCells (Value.string ⟨#[]⟩).cells (m * 1)).toList = List.replicate m (.string ⟨#[]⟩) := by
 apply List.ext_getElem
 ·simp [madeCells]
 ·intro i h1 h2
  simp [madeCells, Value.cells, Nat.mod_one]
theorem strip_some (a : Addr) (s0 : ByteArray) (l : List ByteArray) (ca p : Nat) (w : World) (ha : Lies w w.heap.size (some a) l) (h0 : l[0]? = some s0) (hl : l.length ≤ 1000) (hs : ∀ s ∈ l, s.size ≤ 1000) (hc : l.length ≤ ca) (hp : sp l = p) :
  Calls Tryz.prog 116 #[.slice (some a) l.length ca] w fun e w' => ∃ G, e = .returned (.tuple #[.string (s0.extract 0 p), .slice G l.length l.length]) ∧ Lies w' w'.heap.size G (l.map (bare p)) ∧ Below w.heap.size w w' ∧ (∀ a, G = some a → w.heap.size ≤ a.block) := by
 obtain ⟨i0, hi, hz0, hz1, hz2⟩ := info_parts Tryz.infoStr; have HA := zj ha; have HS := zj hs; have HP : Hid (∀ s ∈ l, p ≤ s.size) := zj (fun s h => by rw [← hp]; exact sp_le l s h); have HSP := zj (span_any (some a) l ca w ha hl hs hc); rw [hp] at HSP; have H0 := zj h0; have hs0 := hs s0 (List.mem_of_getElem? h0); have hp0 := HP.out s0 (List.mem_of_getElem? h0); obtain ⟨n, hn⟩ : ∃ n, n = l.length := ⟨_, rfl⟩
 have hn0 : 0 < n := by have := (List.getElem?_eq_some_iff.1 h0).1; omega
 have HN := zj hn; rw [← hn] at HSP hl hc; rw [← hn]; clear ha hs hp h0 hn; go_enter Tryz.func116, Tryz.ntmps116; go_wp2_with fail; refine HSP.out.mono ?_; rintro e w1 ⟨rfl, hb1⟩; clear HSP; go_wp2_with (at_make; refine wpList_make_full _ rfl _ _ 22 rfl w1.heap.size 9 i0 (.string ⟨#[]⟩) 1 Tryz.underlying22 hi hz0 hz1 _ _ _ _ n rfl rfl rfl rfl (by rw [hz2]; omega) (by unfold maxLen; omega) (Nat.le_refl _) ?_; intro w2 hown2 hg2); have hb2 : Below w1.heap.size w1 w2 := (Below.refl _ w1).grown hg2 (Nat.le_refl _) (by simp); rw [made_blank] at hown2; have HO2 : Hid (w2.ownsRow w1.heap.size 9 1 (.slice (some ⟨w1.heap.size, 0, none⟩) n n) n (bareTo l p 0)) := zj (by rw [bareTo_zero, ← HN.out]; exact hown2); clear hown2 hg2
 go_loopw [18] (fun iv wr => ∃ k : Nat, k ≤ n ∧ iv = .int .i64 k ∧ Hid (wr.ownsRow w1.heap.size 9 1 (.slice (some ⟨w1.heap.size, 0, none⟩) n n) n (bareTo l p k)) ∧ Below w1.heap.size w1 wr) (fun iv _ => n - (intOf iv).toNat)
 case atStart => exact ⟨0, Nat.zero_le _, rfl, HO2, hb2⟩
 case round =>
  obtain ⟨k, hk, rfl, HO, hbr⟩ := hrel; have hbw := hb1.trans' hbr; by_cases hlt : k < n
  ·obtain ⟨s, hc⟩ : ∃ c, l[k]? = some c := ⟨_, List.getElem?_eq_getElem (by have := HN.out; omega)⟩
   obtain ⟨_, e, hab, x0⟩ := (HA.out.below hbw) k s hc; obtain rfl := Option.some.inj e; have hsz := HS.out s (List.mem_of_getElem? hc); have hps := HP.out s (List.mem_of_getElem? hc); have HC := zj hc; clear hc hab; have HCL := zj (clone_any (s.extract p s.size))
   have hes : (s.extract p s.size).size ≤ 1000000 := by simp; omega
   go_wp2_with fail; refine (HCL.out _ hes).mono ?_; rintro e w3 ⟨rfl, hb3⟩; have HO3 := zj (own_below HO.out hb3); have hb13 := hbr.trans' hb3
   have hcell : w3.cell? ⟨w1.heap.size, k, none⟩ = some (.string ⟨#[]⟩) := by
    rw [HO3.out.cellAt k (by omega), bareTo_at l p k (by have := HN.out; omega)]
   have hfr := HO3.out.frozenAt k; clear x0 hb3 hbr hbw; go_wp2_with fail
   go_roundw
   case rel =>
    refine ⟨k + 1, by omega, by simp, zj ?_, hb13.setCell (Nat.le_refl _) _⟩; have h := (HO3.out.stored k (.string (bare p s))).1; rwa [bareTo_set l p k s HC.out] at h
   case measure => simp [intOf]; omega
  ·obtain rfl : k = n := by omega
   have HL : Hid (Lies wr wr.heap.size (some ⟨w1.heap.size, 0, none⟩) (l.map (bare p))) := zj (by
    have h := HO.out; rw [show bareTo l p k = strCells (l.map (bare p)) by rw [HN.out, bareTo_full]] at h
    exact lies_own h (by simp [HN.out]))
   obtain ⟨_, e, hab, x0⟩ := (HA.out.below hbw) 0 s0 H0.out; obtain rfl := Option.some.inj e; rw [addr_zero] at x0; have HCL := zj (clone_any (s0.extract 0 p))
   have hes : (s0.extract 0 p).size ≤ 1000000 := by simp; omega
   clear hab; go_wp2_with fail; refine (HCL.out _ hes).mono ?_; rintro e w3 ⟨rfl, hb3⟩; go_wp2_with fail
   go_ret2
   exact ⟨_, rfl, HL.out.on hb3, hbw.trans' hb3, fun a ha => by obtain rfl := Option.some.inj ha; exact hb1.size⟩
theorem strip_none (A : Option Addr) (ca : Nat) (w : World) :
  Calls Tryz.prog 116 #[.slice A 0 ca] w fun e w' => e = .returned (.tuple #[.string ⟨#[]⟩, .slice none 0 0]) ∧ Below w.heap.size w w' := by
 go_enter Tryz.func116, Tryz.ntmps116; go_wp2_with fail
 go_ret2
 exact ⟨rfl, Below.refl _ _⟩
theorem strip_any (A : Option Addr) (l : List ByteArray) (ca : Nat) (w : World) (ha : Lies w w.heap.size A l) (hl : l.length ≤ 1000) (hs : ∀ s ∈ l, s.size ≤ 1000) (hc : l.length ≤ ca) :
  Calls Tryz.prog 116 #[.slice A l.length ca] w fun e w' => ∃ G cap, e = .returned (.tuple #[.string (headS l), .slice G l.length cap]) ∧ l.length ≤ cap ∧ Lies w' w'.heap.size G (bares l) ∧ Below w.heap.size w w' ∧ (∀ a, G = some a → w.heap.size ≤ a.block) := by
 cases l with
 | nil =>
  refine (strip_none A ca w).mono ?_; rintro e w' ⟨rfl, hb⟩; exact ⟨none, 0, rfl, Nat.le_refl _, Lies.nil _ _ _, hb, fun a h => by cases h⟩
 | cons s l =>
  obtain ⟨a, rfl, _, _⟩ := ha 0 s rfl; refine (strip_some a s (s :: l) ca _ w ha rfl hl hs hc rfl).mono ?_; rintro e w' ⟨G, rfl, hL, hb, hG⟩; exact ⟨G, _, rfl, Nat.le_refl _, hL, hb, hG⟩
theorem strip_old (A : Option Addr) (l : List ByteArray) (ca : Nat) (w : World) (ha : Lies w w.heap.size A l) (hl : l.length ≤ 1000) (hs : ∀ s ∈ l, s.size ≤ 1000) (hc : l.length ≤ ca) :
  Calls Tryz.prog 116 #[.slice A l.length ca] w fun e w' => ∃ G cap, e = .returned (.tuple #[.string (headS l), .slice G l.length cap]) ∧ l.length ≤ cap ∧ Lies w' w'.heap.size G (bares l) ∧ Below w.heap.size w w' :=
 (strip_any A l ca w ha hl hs hc).mono fun e w' ⟨G, cap, h1, h2, h3, h4, _⟩ => ⟨G, cap, h1, h2, h3, h4⟩
end Go.Proofs.YtpeghilfldpgfaaGreatDoor.L5
namespace Go.Proofs.YtpeghilfldpgfaaGreatDoor.L11.IP
open Go.Proofs.YtpeghilfldpgfaaGreatDoor.L5 Go.Proofs.YtpeghilfldpgfaaGreatDoor.L7 Go.Proofs.YtpeghilfldpgfaaGreatDoor.L8 Go.Proofs.YtpeghilfldpgfaaGreatDoor.L9
structure Inn where
 self : Int
 level : Int
 right : Int
 high : ByteArray
 kids : List Int
 seps : List ByteArray
def In0 : Inn := ⟨0, 0, 0, ⟨#[]⟩, [], []⟩
def com (l : List ByteArray) : List UInt8 := match Bs l with | [] => [] | k :: _ => k.take (EP.span (Bs l))
def rests (l : List ByteArray) : List (List UInt8) := [] :: (Bs l).map (List.drop (EP.span (Bs l)))
def fixed (n : Inn) : List UInt8 := VP.text (com n.seps) ++ VP.text (B n.high)
def cellsOf (ks : List Int) (rs : List (List UInt8)) : List (List UInt8) := List.zipWith (fun (k : Int) t => VP.cellK k.toNat t) ks rs
def cells (n : Inn) : List (List UInt8) := cellsOf n.kids (rests n.seps)
def size (n : Inn) : Nat := LP.need (fixed n).length (cells n)
def hd (n : Inn) : HP.H := ⟨3, n.level, n.kids.length, n.right, n.self⟩
def body (n : Inn) (p : Nat) : List UInt8 := LP.pack (p - 16) (fixed n) (cells n)
def page (n : Inn) (p : Nat) : List UInt8 := HP.page (HP.front (hd n)) (body n p)
def Rise (l : List ByteArray) : Prop := l.Pairwise fun a b => B a < B b
instance (l : List ByteArray) : Decidable (Rise l) := by unfold Rise; infer_instance
def NumOk (n : Inn) : Prop := 1 ≤ n.self ∧ n.self ≤ 4095 ∧ 1 ≤ n.level ∧ n.level ≤ 255 ∧ 0 ≤ n.right ∧ n.right ≤ 4095 ∧ n.right ≠ n.self
instance (n : Inn) : Decidable (NumOk n) := by unfold NumOk; infer_instance
def KidOk (k : Int) : Prop := 1 ≤ k ∧ k ≤ 4095
instance (k : Int) : Decidable (KidOk k) := by unfold KidOk; infer_instance
def KidsOk (n : Inn) : Prop := n.kids.length = n.seps.length + 1 ∧ ∀ k ∈ n.kids, KidOk k
instance (n : Inn) : Decidable (KidsOk n) := by unfold KidsOk; infer_instance
def HighOk (n : Inn) (p : Int) : Prop := (n.right = 0 → n.high.size = 0) ∧ (n.right ≠ 0 → n.high.size ≠ 0 ∧ (n.high.size : Int) ≤ p / 8 ∧ ∀ s ∈ n.seps, B s < B n.high)
instance (n : Inn) (p : Int) : Decidable (HighOk n p) := by unfold HighOk; infer_instance
def SepOk (p : Int) (s : ByteArray) : Prop := s.size ≠ 0 ∧ (s.size : Int) ≤ p / 8
instance (p : Int) (s : ByteArray) : Decidable (SepOk p s) := by unfold SepOk; infer_instance
def May (n : Inn) (p : Int) : Prop := mayBe p = true ∧ NumOk n ∧ KidsOk n ∧ HighOk n p ∧ Rise n.seps ∧ ∀ s ∈ n.seps, SepOk p s
instance (n : Inn) (p : Int) : Decidable (May n p) := by unfold May; infer_instance
def enc (n : Inn) (p : Int) : ByteArray × Int :=
 if mayBe p = false then (⟨#[]⟩, 4) else if ¬ May n p then (⟨#[]⟩, 3) else if p - 16 < (size n : Int) then (⟨#[]⟩, 8) else (⟨(page n p.toNat).toArray⟩, 0)
theorem enc_arg {p : Int} (n : Inn) (hp : mayBe p = false) : enc n p = (⟨#[]⟩, 4) := by unfold enc; rw [if_pos hp]
theorem enc_form {n : Inn} {p : Int} (hp : mayBe p = true) (h : ¬ May n p) : enc n p = (⟨#[]⟩, 3) := by unfold enc; rw [if_neg (by simp [hp]), if_pos h]
theorem enc_big {n : Inn} {p : Int} (h : May n p) (hs : p - 16 < (size n : Int)) : enc n p = (⟨#[]⟩, 8) := by unfold enc; rw [if_neg (by simp [h.1]), if_neg (by simpa using h), if_pos hs]
theorem enc_good {n : Inn} {p : Int} (h : May n p) (hs : ¬ p - 16 < (size n : Int)) : enc n p = (⟨(page n p.toNat).toArray⟩, 0) := by unfold enc; rw [if_neg (by simp [h.1]), if_neg (by simpa using h), if_neg hs]
theorem enc_cases (n : Inn) (p : Int) : (mayBe p = false ∧ enc n p = (⟨#[]⟩, 4)) ∨ (mayBe p = true ∧ ¬ May n p ∧ enc n p = (⟨#[]⟩, 3)) ∨ (May n p ∧ p - 16 < (size n : Int) ∧ enc n p = (⟨#[]⟩, 8)) ∨ (May n p ∧ (size n : Int) ≤ p - 16 ∧ enc n p = (⟨(page n p.toNat).toArray⟩, 0)) := by
 cases hp : mayBe p with
 | false => exact .inl ⟨rfl, enc_arg n hp⟩
 | true =>
  by_cases h : May n p
  ·by_cases hs : p - 16 < (size n : Int)
   ·exact .inr (.inr (.inl ⟨h, hs, enc_big h hs⟩))
   ·exact .inr (.inr (.inr ⟨h, by omega, enc_good h hs⟩))
  ·exact .inr (.inl ⟨rfl, h, enc_form hp h⟩)
theorem enc_ok {n : Inn} {p : Int} {s : ByteArray} (h : enc n p = (s, 0)) : May n p ∧ (size n : Int) ≤ p - 16 ∧ s = ⟨(page n p.toNat).toArray⟩ := by
 rcases enc_cases n p with ⟨_, e⟩ | ⟨_, _, e⟩ | ⟨_, _, e⟩ | ⟨h1, h2, e⟩
 ·rw [e] at h; simp at h
 ·rw [e] at h; simp at h
 ·rw [e] at h; simp at h
 ·rw [e] at h
  exact ⟨h1, h2, (congrArg Prod.fst h).symm⟩
def mapK : List (List UInt8) → Option (List (Nat × List UInt8))
 | [] => some []
 | c :: cs => match VP.getK c with
  | none => none
  | some x => match mapK cs with
   | none => none
   | some xs => some (x :: xs)
def kidsOf (xs : List (Nat × List UInt8)) : List Int := xs.map fun x => (x.1 : Int)
def sepsOf (c : List UInt8) (xs : List (Nat × List UInt8)) : List ByteArray := (xs.drop 1).map fun x => ⟨(c ++ x.2).toArray⟩
def parse (s : ByteArray) : Option Inn :=
 if mayBe s.size = true ∧ HP.good s.data.toList then
  match VP.gtext (s.data.toList.drop 16) 0 with
  | none => none
  | some (c, i) => match VP.gtext (s.data.toList.drop 16) i with
   | none => none
   | some (t, j) =>
    if LP.good (s.data.toList.drop 16) j (HP.headOf s.data.toList).c.toNat then
     match mapK (LP.cells (s.data.toList.drop 16) (HP.headOf s.data.toList).c.toNat) with
     | none => none
     | some xs => some ⟨(HP.headOf s.data.toList).s, (HP.headOf s.data.toList).l, (HP.headOf s.data.toList).r, ⟨t.toArray⟩, kidsOf xs, sepsOf c xs⟩
    else none
 else none
def dec (s : ByteArray) : Option Inn :=
 match parse s with
 | none => none
 | some n => if enc n s.size = (s, 0) then some n else none
theorem mapK_cells : ∀ (ks : List Int) (rs : List (List UInt8)), (∀ k ∈ ks, KidOk k) → (∀ r ∈ rs, r.length ≤ 128) → mapK (cellsOf ks rs) = some (List.zipWith (fun (k : Int) t => (k.toNat, t)) ks rs)
 | [], _, _, _ => rfl
 | _ :: _, [], _, _ => rfl
 | k :: ks, r :: rs, h1, h2 => by
  have ih := mapK_cells ks rs (fun x hx => h1 x (List.mem_cons_of_mem _ hx)) (fun x hx => h2 x (List.mem_cons_of_mem _ hx)); have hk := h1 k (List.mem_cons_self); unfold KidOk at hk; have h := VP.getK_cell k.toNat r ⟨by omega, by omega, h2 r (List.mem_cons_self)⟩; show mapK (VP.cellK k.toNat r :: cellsOf ks rs) = _; simp only [mapK, h, ih, List.zipWith_cons_cons]
theorem bytes_eq (s : ByteArray) : (⟨s.data.toList.toArray⟩ : ByteArray) = s := by apply ByteArray.ext; simp
theorem kids_zip : ∀ (ks : List Int) (rs : List (List UInt8)), ks.length = rs.length → (∀ k ∈ ks, KidOk k) → kidsOf (List.zipWith (fun (k : Int) t => (k.toNat, t)) ks rs) = ks
 | [], [], _, _ => rfl
 | [], _ :: _, h, _ => by simp at h
 | _ :: _, [], h, _ => by simp at h
 | k :: ks, r :: rs, h, h1 => by
  have ih := kids_zip ks rs (by simpa using h) (fun x hx => h1 x (List.mem_cons_of_mem _ hx)); have hk := h1 k (List.mem_cons_self); unfold KidOk at hk; unfold kidsOf at ih ⊢; simp only [List.zipWith_cons_cons, List.map_cons, ih]
  congr 1
  omega
theorem rest_zip : ∀ (ks : List Int) (rs : List (List UInt8)), ks.length = rs.length → (List.zipWith (fun (k : Int) t => (k.toNat, t)) ks rs).map Prod.snd = rs
 | [], [], _ => rfl
 | [], _ :: _, h => by simp at h
 | _ :: _, [], h => by simp at h
 | k :: ks, r :: rs, h => by
  have ih := rest_zip ks rs (by simpa using h); simp only [List.zipWith_cons_cons, List.map_cons, ih]
theorem com_eq (l : List ByteArray) (s : ByteArray) (hs : s ∈ l) : com l = (B s).take (EP.span (Bs l)) := by
 cases l with
 | nil => simp at hs
 | cons y m =>
  show (B y).take _ = _; exact EP.span_take (Bs (y :: m)) (B y) (B s) (by simp [Bs]) (bs_mem hs)
theorem com_length (l : List ByteArray) : (com l).length = EP.span (Bs l) := by
 cases l with
 | nil => rfl
 | cons y m =>
  have h := EP.span_le (Bs (y :: m)) (B y) (by simp [Bs]); show ((B y).take _).length = _; rw [List.length_take]; omega
theorem rests_length (l : List ByteArray) : (rests l).length = l.length + 1 := by simp [rests, Bs]
theorem seps_back (ks : List Int) (l : List ByteArray) (h : ks.length = l.length + 1) : sepsOf (com l) (List.zipWith (fun (k : Int) t => (k.toNat, t)) ks (rests l)) = l := by
 have hz := rest_zip ks (rests l) (by rw [rests_length]; exact h)
 have e : ((List.zipWith (fun (k : Int) t => (k.toNat, t)) ks (rests l)).drop 1).map Prod.snd = (Bs l).map (List.drop (EP.span (Bs l))) := by
  rw [List.map_drop, hz]; rfl
 unfold sepsOf
 have e2 : ((List.zipWith (fun (k : Int) t => (k.toNat, t)) ks (rests l)).drop 1).map (fun x => (⟨(com l ++ x.2).toArray⟩ : ByteArray)) = (((List.zipWith (fun (k : Int) t => (k.toNat, t)) ks (rests l)).drop 1).map Prod.snd).map (fun t => (⟨(com l ++ t).toArray⟩ : ByteArray)) := by
  rw [List.map_map]; rfl
 rw [e2, e]; unfold Bs; rw [List.map_map, List.map_map]
 conv => rhs; rw [← List.map_id l]
 refine List.map_congr_left fun s hs => ?_; show (⟨(com l ++ (B s).drop _).toArray⟩ : ByteArray) = s; have := com_eq l s hs; unfold Bs at this; rw [this, List.take_append_drop]
theorem mayBe_le {p : Int} (h : mayBe p = true) : p = 128 ∨ p = 256 ∨ p = 512 ∨ p = 1024 := by unfold mayBe at h; exact of_decide_eq_true h
theorem rest_size {n : Inn} {p : Int} (h : May n p) : ∀ r ∈ rests n.seps, r.length ≤ 128 := by
 intro r hr; have hp := mayBe_le h.1; unfold rests at hr; rcases List.mem_cons.1 hr with rfl | hr
 ·simp
 ·obtain ⟨b, hb, rfl⟩ := List.mem_map.1 hr
  unfold Bs at hb; obtain ⟨s, hs, rfl⟩ := List.mem_map.1 hb; have h1 := (h.2.2.2.2.2 s hs).2; rw [List.length_drop, b_size]; omega
theorem cellsOf_length (ks : List Int) (rs : List (List UInt8)) (h : ks.length = rs.length) : (cellsOf ks rs).length = ks.length := by simp [cellsOf, h]
theorem cells_length {n : Inn} (h : KidsOk n) : (cells n).length = n.kids.length := cellsOf_length _ _ (by rw [rests_length]; exact h.1)
theorem need_ge (f : Nat) (cs : List (List UInt8)) : f + 2 + 2 * cs.length ≤ LP.need f cs := by unfold LP.need; omega
theorem May.fits {n : Inn} {p : Int} (h : May n p) (hs : (size n : Int) ≤ p - 16) : HP.Ok (hd n) ∧ n.kids.length ≤ 503 := by
 have h1 := h.2.1; have h2 := mayBe_le h.1; have h3 := need_ge (fixed n).length (cells n); have h4 := cells_length h.2.2.1; unfold NumOk at h1; unfold size at hs; unfold HP.Ok hd; simp only; omega
theorem body_length {n : Inn} {p : Nat} (hs : size n ≤ p - 16) : (body n p).length = p - 16 := LP.pack_length _ _ _ hs
theorem page_length {n : Inn} {p : Nat} (hp : 16 ≤ p) (hs : size n ≤ p - 16) : (page n p).length = p := by
 unfold page; rw [HP.page_length, HP.front_length, body_length hs]; omega
theorem high_few {n : Inn} {p : Int} (h : May n p) : (B n.high).length ≤ (p / 8).toNat := by
 have hp := mayBe_le h.1; have h1 := h.2.2.2.1; have h2 := b_size n.high; rw [h2]; by_cases h0 : n.right = 0
 ·rw [h1.1 h0]; omega
 ·have := (h1.2 h0).2.1; omega
theorem com_few {n : Inn} {p : Int} (h : May n p) : (com n.seps).length ≤ (p / 8).toNat := by
 have hp := mayBe_le h.1; rw [com_length]
 cases hi : n.seps with
 | nil => exact Nat.zero_le _
 | cons y m =>
  have h1 := (h.2.2.2.2.2 y (by rw [hi]; exact List.mem_cons_self)).2; have h2 := EP.span_le (Bs (y :: m)) (B y) (by simp [Bs]); rw [b_size] at h2; omega
theorem parse_page {n : Inn} {p : Nat} (h : May n p) (hs : (size n : Int) ≤ p - 16) : parse ⟨(page n p).toArray⟩ = some n := by
 obtain ⟨hok, hn⟩ := h.fits hs; have hp := mayBe_le h.1
 have hsz : size n ≤ p - 16 := by omega
 have e1 : (⟨(page n p).toArray⟩ : ByteArray).data.toList = page n p := rfl
 have e2 : (⟨(page n p).toArray⟩ : ByteArray).size = p := by
  show (page n p).toArray.size = p; rw [List.size_toArray, page_length (by omega) hsz]
 have e3 : (page n p).drop 16 = body n p := HP.page_drop _ _ (HP.front_length _); have e4 : HP.headOf (page n p) = hd n := HP.headOf_page _ _ hok; have e5 : HP.good (page n p) := HP.good_page _ _ hok; obtain ⟨R, hR⟩ : ∃ R, body n p = fixed n ++ R := ⟨_, by unfold body LP.pack; rw [List.append_assoc, List.append_assoc]⟩; have hcl := com_few h; have hhl := high_few h
 have g1 : VP.gtext (body n p) 0 = some (com n.seps, (VP.text (com n.seps)).length) := by
  have hg := VP.gtext_at [] (VP.text (B n.high) ++ R) (com n.seps) (by omega); rw [hR]; unfold fixed
  simpa using hg
 have g2 : VP.gtext (body n p) (VP.text (com n.seps)).length = some (B n.high, (fixed n).length) := by
  have hg := VP.gtext_at (VP.text (com n.seps)) R (B n.high) (by omega); rw [hR]; unfold fixed; rw [List.length_append]; exact hg
 obtain ⟨hgd, hcs, -⟩ := LP.pack_good (p - 16) (fixed n) (cells n) (by omega) hsz; have hlen := cells_length h.2.2.1; rw [hlen] at hgd hcs; have hm := mapK_cells n.kids (rests n.seps) h.2.2.1.2 (rest_size h)
 have hkl : n.kids.length = (rests n.seps).length := by rw [rests_length]; exact h.2.2.1.1
 unfold parse; rw [e1, e2, e3, e4]; rw [if_pos ⟨h.1, e5⟩]
 have hc : (hd n).c.toNat = n.kids.length := by simp [hd]
 simp only [g1, g2, hc]; unfold body; rw [if_pos hgd, hcs]; unfold cells; rw [hm]; simp only [Option.some.injEq]; rw [kids_zip _ _ hkl h.2.2.1.2, seps_back _ _ h.2.2.1.1]; have hb := bytes_eq n.high; show (⟨n.self, n.level, n.right, ⟨n.high.data.toList.toArray⟩, n.kids, n.seps⟩ : Inn) = n; rw [hb]
theorem dec_iff (s : ByteArray) (n : Inn) : dec s = some n ↔ enc n s.size = (s, 0) := by
 constructor
 ·intro h
  unfold dec at h
  split at h
  ·simp at h
  ·split at h
   ·rename_i h2
    obtain rfl := Option.some.inj h; exact h2
   ·simp at h
 ·intro h
  obtain ⟨h1, h2, h3⟩ := enc_ok h; have hp := parse_page h1 (by simpa using h2); rw [Int.toNat_natCast] at h3; rw [← h3] at hp; unfold dec; rw [hp]; simp only; rw [if_pos h]
theorem dec_none {s : ByteArray} (h : ∀ n, enc n s.size ≠ (s, 0)) : dec s = none := by
 cases e : dec s with
 | none => rfl
 | some n => exact absurd ((dec_iff s n).1 e) (h n)
theorem dec_parse {s : ByteArray} {n : Inn} (h : parse s = some n) : dec s = if enc n s.size = (s, 0) then some n else none := by unfold dec; rw [h]
theorem dec_parse_none {s : ByteArray} (h : parse s = none) : dec s = none := by unfold dec; rw [h]
theorem enc_head {n : Inn} {s : ByteArray} (h : enc n s.size = (s, 0)) : mayBe s.size = true ∧ HP.good s.data.toList ∧ HP.headOf s.data.toList = hd n ∧ s.data.toList.drop 16 = body n s.size := by
 obtain ⟨h1, h2, h3⟩ := enc_ok h; obtain ⟨hok, -⟩ := h1.fits h2; rw [Int.toNat_natCast] at h3; have e1 : s.data.toList = page n s.size := congrArg (fun b : ByteArray => b.data.toList) h3; refine ⟨h1.1, ?_, ?_, ?_⟩
 ·rw [e1]; exact HP.good_page _ _ hok
 ·rw [e1]; exact HP.headOf_page _ _ hok
 ·rw [e1]; exact HP.page_drop _ _ (HP.front_length _)
theorem dec_kind {s : ByteArray} (h : (HP.headOf s.data.toList).k ≠ 3) : dec s = none := dec_none fun n e => h (by rw [(enc_head e).2.2.1]; rfl)
theorem put_few (n : Nat) (h : n ≤ 4096) : (WP.put n).length ≤ 3 := by
 obtain ⟨b, r, -, -, -, hl⟩ := WP.put_form n (by omega); rw [hl]; unfold WP.size
 split
 ·omega
 ·split
  ·omega
  ·split <;> omega
theorem text_few (t : List UInt8) (h : t.length ≤ 4096) : (VP.text t).length ≤ t.length + 3 := by
 have := put_few t.length h; rw [VP.text_length]; omega
theorem cellK_few (k : Nat) (t : List UInt8) (h : t.length ≤ 4096) : (VP.cellK k t).length ≤ t.length + 7 := by
 have := text_few t h; unfold VP.cellK; rw [List.length_append, Lib.leBytes_length]; omega
end Go.Proofs.YtpeghilfldpgfaaGreatDoor.L11.IP
namespace Go.Proofs.YtpeghilfldpgfaaGreatDoor.L7
open Go.RowKit
theorem xor32 (a b : Nat) (ha : a < 4294967296) (hb : b < 4294967296) : bits .xor .u32 (a : Int) (b : Int) = ((a ^^^ b : Nat) : Int) := u32_xor_nat a b ha hb
theorem low32 (a : Nat) (ha : a < 4294967296) : bits .and .u32 (a : Int) 1 = ((a % 2 : Nat) : Int) := by
 have h := u32_and_nat a 1 ha (by omega); rw [Nat.and_one_is_mod] at h; exact h
def Wrote (p : Nat) (w w' : World) : Prop := w.grownBy w' (some p)
theorem Wrote.refl (p : Nat) (w : World) : Wrote p w w := World.grownBy.refl w _
theorem wrote_set {p : Nat} {w w' : World} (h : Wrote p w w') (v : Value) : Wrote p w (w'.setCell ⟨p, 0, none⟩ v) := by
 obtain ⟨a, b, c, d, e⟩ := h; refine ⟨a, b, c, by simpa using d, fun k hk hne => ?_⟩; rw [Below.heap_setCell _ _ _ _ (fun e' => hne (by rw [e']))]; exact e k hk hne
theorem Wrote.drew {p : Nat} {w w' : World} (h : Wrote p w w') : Wrote p w w'.drew := ⟨h.1, h.2, h.3, h.4, h.5⟩
theorem Wrote.below {p B : Nat} {w w' : World} (h : Wrote p w w') (hB : B ≤ p) (hp : B ≤ w.heap.size) : Below B w w' := (Below.refl B w).grown h hp (fun k e => by cases e; exact hB)
theorem takeBits (c : UInt8) (r p : Nat) (w : World) (hr : r < 4294967296) (hh : Hid (w.heap[p]? = some (.cells #[.int .u32 r] 131 (0, 0)))) :
  Calls Tryz.prog 223 #[.int .u8 c.toNat, .pointer (some ⟨p, 0, none⟩)] w fun e w' => e = .returned (.int .u32 (SP.one r c)) ∧ Hid (w'.heap[p]? = some (.cells #[.int .u32 (SP.one r c)] 131 (0, 0))) ∧ Wrote p w w' := by
 have hc := cell_of_one hh.out; have hf := free_of_one hh.out; have hx := xor32 r c.toNat hr (SP.u8_lt c); have hcl := c.toNat_lt; go_enter Tryz.func223, Tryz.ntmps223
 go_wp2
 go_loopw [9] (fun i wr => ∃ k : Nat, k ≤ 8 ∧ i = .int .i64 k ∧ Hid (wr.heap[p]? = some (.cells #[.int .u32 (SP.bits (r ^^^ c.toNat) k : Nat)] 131 (0, 0))) ∧ Wrote p w wr) (fun i _ => 8 - (intOf i).toNat)
 case atStart => exact ⟨0, Nat.zero_le _, rfl, zj (one_setCell hh.out), wrote_set (Wrote.refl p w) _⟩
 case round =>
  obtain ⟨k, hk, rfl, hh', hw⟩ := hrel; clear hc hf hx; have hlt := SP.bits_lt _ (SP.xor_lt r c.toNat hr (SP.u8_lt c)) k; have HB := zj (show SP.bits (r ^^^ c.toNat) (k + 1) = SP.bit (SP.bits (r ^^^ c.toNat) k) from rfl); by_cases h8 : k < 8
  ·revert hlt hh' HB
   generalize SP.bits (r ^^^ c.toNat) k = R; intro hh' hlt HB; have hc' := cell_of_one hh'.out; have hf' := free_of_one hh'.out; have ha := low32 R hlt; by_cases h2 : R % 2 = 1
   ·have H2 := zj h2
    rw [h2] at ha; clear h2; have hx : bits .xor .u32 ((R : Int) / 2) 2197175160 = ((R / 2 ^^^ 2197175160 : Nat) : Int) := xor32 (R / 2) 2197175160 (by omega) (by omega)
    go_wp2
    go_roundw
    case rel =>
     refine ⟨k + 1, by omega, by go_num, ?_, ?_⟩
     ·rw [HB.out, show SP.bit R = R / 2 ^^^ 2197175160 by unfold SP.bit; rw [if_pos H2.out]]
      exact zj (one_setCell (one_setCell hh'.out))
     ·exact wrote_set (wrote_set hw _) _
    case measure => simp [intOf]; omega
   ·have h0 : R % 2 = 0 := by omega
    have H0 := zj h0; rw [h0] at ha; clear h0 h2
    go_wp2
    go_roundw
    case rel =>
     refine ⟨k + 1, by omega, by go_num, ?_, ?_⟩
     ·rw [HB.out, show SP.bit R = R / 2 by unfold SP.bit; rw [if_neg (by rw [H0.out]; omega)]]
      exact zj (one_setCell hh'.out)
     ·exact wrote_set hw _
    case measure => simp [intOf]; omega
  ·obtain rfl : k = 8 := by omega
   have hc' := cell_of_one hh'.out
   go_wp2
   go_ret; exact ⟨rfl, hh', hw⟩
theorem below_setRow (w : World) (g : Nat) (cs : Array Value) : Below g w (w.setRow g cs) := by
 refine ⟨rfl, rfl, rfl, by simp, fun k hk => ?_⟩; simp only [World.setRow, Array.getElem?_modify]; rw [if_neg (by omega)]
theorem byBits_any (r : Nat) (w : World) :
  Calls Tryz.prog 218 #[.int .u32 r] w fun e w' => e = .returned (.func (.func 223) #[] #[.pointer (some ⟨w.heap.size, 0, none⟩)]) ∧ w' = w.alloc (.cells #[.int .u32 r] 131) := by
 have hmf : ∀ (fn : Fn) (first cap : Array Value) (w : World), (Instr.makeFunc fn first cap).run Tryz.prog w = .ok (.func fn first cap) w := fun _ _ _ _ => rfl; go_enter Tryz.func218, Tryz.ntmps218
 go_wp2
 go_ret; exact ⟨rfl, rfl⟩
theorem byBits_zero (w : World) :
  Calls Tryz.prog 218 #[.int .u32 0] w fun e w' => e = .returned (.func (.func 223) #[] #[.pointer (some ⟨w.heap.size, 0, none⟩)]) ∧ w' = w.alloc (.cells #[.int .u32 0] 131) := byBits_any 0 w
def tab (k : Nat) : Array Value := ((List.range 256).map fun j => Value.int .u32 (if j < k then (SP.bits j 8 : Nat) else 0)).toArray
theorem Tryz.zeroTab (w : World) : (zeroValue 312).run Tryz.prog w = .ok (.agg (tab 0)) w := by kernel_rfl
theorem Tryz.sizeTab : (Tryz.prog.info? 312).map (·.size) = some 256 := by kernel_rfl
theorem tab_size (k : Nat) : (tab k).size = 256 := by simp [tab]
theorem tab_get (k j : Nat) (hj : j < 256) : (tab k)[j]? = some (.int .u32 (if j < k then (SP.bits j 8 : Nat) else 0)) := by simp [tab, hj]
theorem tab_one : (tab 256).all (·.oneCell') = true := by
 simp [tab, Value.oneCell']
theorem tab_set (k : Nat) (hk : k < 256) : (tab k).setIfInBounds k (.int .u32 (SP.bits k 8 : Nat)) = tab (k + 1) := by
 apply Array.ext_getElem?; intro j; rw [Array.getElem?_setIfInBounds]; by_cases hj : j < 256
 ·rw [tab_get _ _ hj, tab_get _ _ hj]
  by_cases e : k = j
  ·subst e; simp [tab_size, hk]
  ·rw [if_neg e]
   by_cases h : j < k
   ·rw [if_pos h, if_pos (by omega)]
   ·rw [if_neg h, if_neg (by omega)]
 ·have h1 : (tab k)[j]? = none := by rw [Array.getElem?_eq_none]; rw [tab_size]; omega
  have h2 : (tab (k + 1))[j]? = none := by rw [Array.getElem?_eq_none]; rw [tab_size]; omega
  rw [h1, h2, if_neg (by omega)]
theorem toNat_ofNat8 (k : Nat) (h : k < 256) : (UInt8.ofNat k).toNat = k := by simp; omega
theorem takeBits_fresh (k : Nat) (hk : k < 256) (w : World) :
  Calls Tryz.prog 223 #[.int .u8 k, .pointer (some ⟨w.heap.size, 0, none⟩)] (w.alloc (.cells #[.int .u32 0] 131)) fun e w' => e = .returned (.int .u32 (SP.bits k 8 : Nat)) ∧ Below w.heap.size w w' := by
 have h := takeBits (UInt8.ofNat k) 0 w.heap.size (w.alloc (.cells #[.int .u32 0] 131)) (by omega) (zj (heap_alloc_new _ _))
 have e1 : SP.one 0 (UInt8.ofNat k) = SP.bits k 8 := by unfold SP.one; rw [Nat.zero_xor, toNat_ofNat8 k hk]
 rw [e1, toNat_ofNat8 k hk] at h; refine h.mono ?_; rintro e w' ⟨he, _, hw⟩; exact ⟨he, ((Below.refl _ w).alloc (Nat.le_refl _) _).trans (hw.below (Nat.le_refl _) (by simp))⟩
theorem lowBytes_any (w : World) :
  Calls Tryz.prog 210 #[] w fun e w' => e = .returned (.agg (tab 256)) ∧ Below w.heap.size w w' := by
 have hz := Tryz.zeroTab; go_enter Tryz.func210, Tryz.ntmps210
 go_wp2
 go_loopw [3] (fun i wr => ∃ k : Nat, k ≤ 256 ∧ i = .int .i64 k ∧ Hid (wr.heap[w.heap.size + 1]? = some (.cells (tab k) 312 (0, 0))) ∧ Hid (wr.heap[w.heap.size]? = some (.cells (tab 0) 312 (0, 0))) ∧ Below w.heap.size w wr) (fun i _ => 256 - (intOf i).toNat)
 case atStart => exact ⟨0, Nat.zero_le _, rfl, zj (heap_alloc2_new _ _ _), zj (heap_alloc2_old _ _ _), ((Below.refl _ w).alloc (Nat.le_refl _) _).alloc (by simp) _⟩
 case round =>
  obtain ⟨k, hk, rfl, h1, h0, hb⟩ := hrel; by_cases hlt : k < 256
  ·go_wp2_with fail
   refine (byBits_zero _).mono ?_; rintro e w1 ⟨rfl, rfl⟩; go_wp2_with fail; refine (takeBits_fresh k hlt wr).mono ?_; rintro e w2 ⟨rfl, hb2⟩; have h1' := zj ((hb2.block _ (lt_of_block h1.out)).trans h1.out); have h0' := zj ((hb2.block _ (lt_of_block h0.out)).trans h0.out); have hb' : Below w.heap.size w w2 := hb.trans (hb2.mono hb.size); clear h1 h0 hb hb2
   have hcell : w2.cell? ⟨w.heap.size + 1, k, none⟩ = some (.int .u32 0) := by
    rw [cell_of_row _ _ k _ _ _ h1'.out, tab_get k k hlt, if_neg (by omega)]
   have hfr := frozen_of_row _ _ k _ _ h1'.out; go_wp2_with fail
   go_roundw
   case rel =>
    refine ⟨k + 1, by omega, by go_num, ?_, ?_, ?_⟩
    ·have h := heap_setCell_same w2 _ k _ _ (.int .u32 (SP.bits k 8 : Nat)) h1'.out
     rw [tab_set k hlt] at h; exact zj h
    ·have h := heap_setCell_other w2 ⟨w.heap.size + 1, k, none⟩ w.heap.size (.int .u32 (SP.bits k 8 : Nat)) (by simp)
     exact zj (h.trans h0'.out)
    ·exact hb'.setCell (by simp) _
   case measure => simp [intOf]; omega
  ·obtain rfl : k = 256 := by omega
   go_wp2_with (first
    | (with_reducible refine wpList_load_row rfl _ _ rfl (w.heap.size + 1) rfl _ _ _ _ h1.out Tryz.underlying312 rfl (by rw [tab_size]; exact Tryz.sizeTab) ?_)
    | (with_reducible refine wpList_store_rowTo rfl _ _ _ rfl rfl w.heap.size (tab 256) rfl rfl _ _ h0.out (by rw [tab_size]; exact Tryz.sizeTab) (by rw [tab_size, tab_size]) tab_one ?_))
   refine bodyPost_ret (v := .agg (tab 256)) (results_cell_row Tryz.results210 _ _ w.heap.size _ _ _ _ rfl (setRow_heap wr _ _ _ _ _ h0.out) Tryz.underlying312 rfl (by rw [tab_size]; exact Tryz.sizeTab)) rfl ⟨rfl, ?_⟩; exact hb.trans (below_setRow _ _ _)
theorem takeTab (c : UInt8) (r p q : Nat) (w : World) (hr : r < 4294967296) (hh : Hid (w.heap[p]? = some (.cells #[.int .u32 r] 131 (0, 0)))) (hq : Hid (w.heap[q]? = some (.cells (tab 256) 312 (0, 0)))) :
  Calls Tryz.prog 211 #[.int .u8 c.toNat, .pointer (some ⟨p, 0, none⟩), .pointer (some ⟨q, 0, none⟩)] w fun e w' => e = .returned (.int .u32 (SP.one r c)) ∧ Hid (w'.heap[p]? = some (.cells #[.int .u32 (SP.one r c)] 131 (0, 0))) ∧ Wrote p w w' := by
 have hcl := c.toNat_lt; have hJ : r % 256 ^^^ c.toNat < 256 := Nat.xor_lt_two_pow (n := 8) (by omega) (by omega); have hx8 : bits .xor .u8 ((r : Int) % 256) (c.toNat : Int) = ((r % 256 ^^^ c.toNat : Nat) : Int) := u8_xor_nat (r % 256) c.toNat (by omega) (by omega); have HO := zj (SP.one_table r c); revert hJ hx8 HO; generalize r % 256 ^^^ c.toNat = J; intro hJ hx8 HO; have hT := SP.bits_lt J (by omega) 8; have hx : bits .xor .u32 ((r : Int) / 256) (SP.bits J 8 : Nat) = ((r / 256 ^^^ SP.bits J 8 : Nat) : Int) := xor32 (r / 256) (SP.bits J 8) (by omega) hT; rw [HO.out]; have hc := cell_of_one hh.out; have hf := free_of_one hh.out
 have hcj : w.cell? ⟨q, J, none⟩ = some (.int .u32 (SP.bits J 8 : Nat)) := by
  rw [cell_of_row _ _ J _ _ _ hq.out, tab_get 256 J hJ, if_pos hJ]
 have hfj := frozen_of_row _ _ J _ _ hq.out; generalize r / 256 ^^^ SP.bits J 8 = V at hx ⊢; generalize SP.bits J 8 = T at hx hcj; go_enter Tryz.func211, Tryz.ntmps211
 go_wp2
 go_region
 go_wp2
 go_ret; exact ⟨rfl, zj (one_setCell hh.out), (wrote_set (Wrote.refl p w) _).drew⟩
def TabMade (r : Nat) (w : World) (e : Ending) (w' : World) : Prop :=
 ∃ q : Nat, w.heap.size < q ∧ e = .returned (.func (.func 211) #[] #[.pointer (some ⟨w.heap.size, 0, none⟩), .pointer (some ⟨q, 0, none⟩)]) ∧ w'.heap[w.heap.size]? = some (.cells #[.int .u32 r] 131 (0, 0)) ∧ w'.heap[q]? = some (.cells (tab 256) 312 (0, 0)) ∧ Below w.heap.size w w'
theorem byTable_any (r : Nat) (w : World) : Calls Tryz.prog 201 #[.int .u32 r] w (TabMade r w) := by
 have hmf : ∀ (fn : Fn) (first cap : Array Value) (w : World), (Instr.makeFunc fn first cap).run Tryz.prog w = .ok (.func fn first cap) w := fun _ _ _ _ => rfl; have hz := Tryz.zeroTab; go_enter Tryz.func201, Tryz.ntmps201; go_wp2_with fail; refine (lowBytes_any _).mono ?_; rintro e w1 ⟨rfl, hb⟩; have h0 : Hid (w1.heap[w.heap.size]? = some (.cells #[.int .u32 r] 131 (0, 0))) := zj ((hb.block _ (by simp)).trans (heap_alloc_new _ _))
 have hs : w.heap.size + 1 ≤ w1.heap.size := by have := hb.size; simpa using this
 have hb' : Below w.heap.size w w1 := ((Below.refl _ w).alloc (Nat.le_refl _) _).trans (hb.mono (by simp)); clear hb; have hnew := zj (heap_alloc_new w1 (.cells (tab 0) 312)); go_wp2_with (with_reducible refine wpList_store_rowTo rfl _ _ _ rfl rfl w1.heap.size (tab 256) rfl rfl _ _ hnew.out (by rw [tab_size]; exact Tryz.sizeTab) (by rw [tab_size, tab_size]) tab_one ?_); go_ret; refine ⟨w1.heap.size, by omega, rfl, ?_, setRow_heap _ _ _ _ _ _ hnew.out, ?_⟩
 ·rw [setRow_other _ _ _ _ (by omega), Below.heap_alloc _ _ _ (by omega)]
  exact h0.out
 ·exact (hb'.alloc (by omega) _).trans ((below_setRow _ _ _).mono (by omega))
theorem inv32 (c : Nat) (hc : c < 4294967296) : bits .xor .u32 IntKind.u32.max (c : Int) = (SP.inv c : Nat) := xor32 4294967295 c (by omega) hc
theorem take_snoc (s : ByteArray) (k : Nat) (h : k < s.size) : s.data.toList.take (k + 1) = s.data.toList.take k ++ [s[k]] := by
 rw [List.take_succ_eq_append_getElem (by simpa using h)]; rfl
theorem run_next (r : Nat) (s : ByteArray) (k : Nat) (h : k < s.size) : SP.one (SP.run r (s.data.toList.take k)) s[k] = SP.run r (s.data.toList.take (k + 1)) := by
 rw [take_snoc s k h, SP.run_snoc]
theorem take_all (s : ByteArray) : s.data.toList.take s.size = s.data.toList := List.take_of_length_le (by simp)
theorem sumBehind_tab (c : Nat) (s : ByteArray) (w : World) (hc : c < 4294967296) (hs : s.size ≤ maxLen) :
  Calls Tryz.prog 200 #[.int .u32 c, .string s, .func (.func 201) #[] #[]] w fun e w' => e = .returned (.int .u32 (SP.more c s.data.toList : Nat)) ∧ Below w.heap.size w w' := by
 unfold maxLen at hs; have hx := inv32 c hc; have hi := SP.inv_lt c hc; have HM := zj (show SP.more c s.data.toList = SP.inv (SP.run (SP.inv c) s.data.toList) from rfl); rw [HM.out]; generalize SP.inv c = r at hx hi; clear HM; go_enter Tryz.func200, Tryz.ntmps200; go_wp2_with fail; refine (byTable_any r _).mono ?_; rintro e w1 ⟨q, hq, rfl, h0, h1, hb1⟩; have H0 := zj h0; have H1 := zj h1; clear h0 h1; go_wp2_with fail
 go_loopw [7, 17] (fun g i wr => ∃ k : Nat, k ≤ s.size ∧ i = .int .i64 k ∧ g = .int .u32 (SP.run r (s.data.toList.take k) : Nat) ∧ Hid (wr.heap[w.heap.size]? = some (.cells #[.int .u32 (SP.run r (s.data.toList.take k) : Nat)] 131 (0, 0))) ∧ Hid (wr.heap[q]? = some (.cells (tab 256) 312 (0, 0))) ∧ Below w.heap.size w wr) (fun _ i _ => s.size - (intOf i).toNat)
 case atStart => exact ⟨0, Nat.zero_le _, rfl, rfl, H0, H1, hb1⟩
 case round =>
  obtain ⟨k, hk, rfl, rfl, hh, hqq, hb⟩ := hrel; clear hx; have hlt := SP.run_lt (s.data.toList.take k) r hi; by_cases h : k < s.size
  ·have HN := zj (run_next r s k h)
   revert hh hlt HN; generalize SP.run r (s.data.toList.take k) = R; intro hh hlt HN; go_wp2_with fail; refine (takeTab s[k] R w.heap.size q wr hlt hh hqq).mono ?_; rintro e w2 ⟨rfl, hh2, hw2⟩; rw [HN.out] at hh2 ⊢; go_wp2_with fail
   go_roundw
   case rel => exact ⟨k + 1, by omega, by go_num, rfl, hh2, zj ((hw2.block q (lt_of_block hqq.out) (by simp; omega)).trans hqq.out), hb.trans (hw2.below (Nat.le_refl _) hb.size)⟩
   case measure => simp [intOf]; omega
  ·obtain rfl : k = s.size := by omega
   have hx := inv32 _ hlt; rw [take_all] at hx ⊢; go_wp2_with fail; go_ret; exact ⟨rfl, hb⟩
theorem table_any (s : ByteArray) (w : World) (hs : s.size ≤ maxLen) :
  Calls Tryz.prog 170 #[.string s] w fun e w' => e = .returned (.int .u32 (SP.sum s.data.toList : Nat)) ∧ Below w.heap.size w w' := by
 go_enter Tryz.func170, Tryz.ntmps170; go_wp2_with fail; refine (sumBehind_tab 0 s _ (by omega) hs).mono ?_; rintro e w1 ⟨rfl, hb⟩; go_wp2_with fail; go_ret; exact ⟨rfl, hb⟩
namespace WP
theorem leBytes_get : ∀ (k v j : Nat) (h : j < (Lib.leBytes k v).length), (Lib.leBytes k v)[j].toNat = v / 256 ^ j % 256
 | 0, v, j, h => by simp [Lib.leBytes] at h
 | k + 1, v, 0, h => by
  simp [Lib.leBytes]
 | k + 1, v, j + 1, h => by
  have h' : j < (Lib.leBytes k (v / 256)).length := by simpa [Lib.leBytes] using h
  have := leBytes_get k (v / 256) j h'; simp only [Lib.leBytes, List.getElem_cons_succ]; rw [this, Nat.div_div_eq_div_mul, Nat.pow_succ, Nat.mul_comm]
theorem pow_cell (v e : Nat) : ((v / 256 ^ e % 256 : Nat) : Int) = (v : Int) / 2 ^ (8 * e) % 256 := by
 rw [Int.pow_mul, Int.natCast_emod, Int.natCast_ediv, Int.natCast_pow]; rfl
def fourAt (n : Int) (k : Nat) : Array Value := ((List.range 4).map fun i => if i < k then Value.int .u8 (n / 2 ^ (8 * i) % 256) else .int .u8 0).toArray
theorem fourAt_succ (n : Int) (k : Nat) : (fourAt n k).setIfInBounds k (.int .u8 (n / 2 ^ (8 * k) % 256)) = fourAt n (k + 1) := by
 unfold fourAt; rw [List.setIfInBounds_toArray]
 congr 1
 apply List.ext_getElem
 ·simp
 ·intro i h1 h2
  simp only [List.getElem_set, List.getElem_map, List.getElem_range]; by_cases h : k = i
  ·subst h; simp
  ·rw [if_neg h]
   by_cases h3 : i < k
   ·rw [if_pos h3, if_pos (by omega)]
   ·rw [if_neg h3, if_neg (by omega)]
theorem fourAt_get (n : Int) (k j : Nat) (h : k ≤ j) (hj : j < 4) : (fourAt n k)[j]? = some (.int .u8 0) := by
 unfold fourAt; simp [hj, Nat.not_lt.2 h]
theorem fourAt_full (v j : Nat) (h : j < (Lib.leBytes 4 v).length) : (fourAt (v : Int) 4)[j]? = some (.int .u8 ((Lib.leBytes 4 v)[j].toNat : Int)) := by
 have hj : j < 4 := by simpa [Lib.leBytes_length] using h
 unfold fourAt; simp only [List.getElem?_toArray, List.getElem?_map, List.getElem?_range hj, Option.map_some, if_pos hj]; rw [leBytes_get, pow_cell]
theorem leNat_snoc : ∀ (l : List UInt8) (c : UInt8), Lib.leNat (l ++ [c]) = Lib.leNat l + c.toNat * 256 ^ l.length
 | [], c => by simp [Lib.leNat]
 | x :: l, c => by
  simp only [List.cons_append, Lib.leNat, leNat_snoc l c, List.length_cons, Nat.pow_succ, Nat.mul_add]
  have : 256 * (c.toNat * 256 ^ l.length) = c.toNat * (256 ^ l.length * 256) := by rw [Nat.mul_comm, Nat.mul_assoc]
  omega
theorem leNat_lt : ∀ (l : List UInt8), Lib.leNat l < 256 ^ l.length
 | [] => by simp [Lib.leNat]
 | x :: l => by
  have h := leNat_lt l; have := x.toNat_lt; simp only [Lib.leNat, List.length_cons, Nat.pow_succ]; omega
theorem or_lo (v c k : Nat) (hk : k < 4) (hv : v < 256 ^ k) (hc : c < 256) : bits .or .u32 (v : Int) (IntKind.u32.wrap ((c : Int) * 2 ^ (8 * k))) = ((v + c * 256 ^ k : Nat) : Int) := by
 rcases (show k = 0 ∨ k = 1 ∨ k = 2 ∨ k = 3 by omega) with rfl | rfl | rfl | rfl
 ·obtain rfl : v = 0 := by omega
  have := bits_join_low .u32 32 (by decide) (fun n a b => wraps_u32 n a b) 0 0 (c : Int) (by omega) (by omega) (by omega) (by omega) (by omega) (by omega); simp only [Nat.mul_zero, Int.pow_zero, Int.mul_one] at *; rw [wraps_u32 _ (by omega) (by omega)]
  push_cast
  simpa using this
 ·rw [wraps_u32 _ (by omega) (by omega), u32_or8 (v : Int) _ (by omega) (by omega) (by omega) (by omega) (by omega)]; omega
 ·rw [wraps_u32 _ (by omega) (by omega), u32_or16 (v : Int) _ (by omega) (by omega) (by omega) (by omega) (by omega)]; omega
 ·rw [wraps_u32 _ (by omega) (by omega), u32_or24 (v : Int) _ (by omega) (by omega) (by omega) (by omega) (by omega)]; omega
theorem drop_take_snoc (s : ByteArray) (a k : Nat) (h : a + k < s.size) : (s.data.toList.drop a).take (k + 1) = (s.data.toList.drop a).take k ++ [s[a + k]] := by
 rw [List.take_succ_eq_append_getElem (by simp; omega)]; simp; rfl
theorem rd_step (s : ByteArray) (a k : Nat) (h : a + k < s.size) (hk : k < 4) :
  bits .or .u32 ((Lib.leNat ((s.data.toList.drop a).take k) : Nat) : Int) ((s[a + k].toNat : Int) % 4294967296 * 2 ^ (8 * k) % 4294967296) = ((Lib.leNat ((s.data.toList.drop a).take (k + 1)) : Nat) : Int) := by
 have hb := leNat_lt ((s.data.toList.drop a).take k)
 have hl : ((s.data.toList.drop a).take k).length = k := by simp; omega
 rw [hl] at hb; have hc := s[a + k].toNat_lt; rw [drop_take_snoc s a k h, leNat_snoc, hl, show (s[a + k].toNat : Int) % 4294967296 = s[a + k].toNat by omega, ← IntKind.wrap_u32]; exact or_lo _ _ k hk hb hc
end WP
theorem addr_at (b j : Nat) : (⟨b, 0, none⟩ : Addr).add j = ⟨b, j, none⟩ := by
 unfold Addr.add
 split <;> simp_all
theorem four_any (n : Int) (w : World) (h0 : 0 ≤ n) (h1 : n ≤ 4294967295) :
  Calls Tryz.prog 61 #[.int .u32 n] w fun e w' => e = .returned (.string ⟨(Lib.leBytes 4 n.toNat).toArray⟩) ∧ Below w.heap.size w w' := by
 go_enter Tryz.func61, Tryz.ntmps61
 go_wp2
 go_loopw [5] (fun i wr => ∃ k : Nat, k ≤ 4 ∧ i = .int .i64 k ∧ Hid (wr.heap[w.heap.size]? = some (.cells (WP.fourAt n k) 85 (0, 0))) ∧ Below w.heap.size w wr) (fun i _ => 4 - (intOf i).toNat)
 case atStart =>
  exact ⟨0, Nat.zero_le _, rfl, zj (heap_alloc_new _ _), (Below.refl _ w).alloc (Nat.le_refl _) _⟩
 case round =>
  obtain ⟨k, hk, rfl, hh, hb⟩ := hrel; by_cases hlt : k < 4
  ·have hcell : wr.cell? ⟨w.heap.size, k, none⟩ = some (.int .u8 0) := by
    rw [cell_of_row _ _ k _ _ _ hh.out]; exact WP.fourAt_get n k k (Nat.le_refl _) hlt
   have hfr := frozen_of_row _ _ k _ _ hh.out
   go_wp2
   go_roundw
   case rel =>
    refine ⟨k + 1, by omega, by go_num, ?_, ?_⟩
    ·have h := heap_setCell_same wr _ k _ _ (.int .u8 (n / 2 ^ (8 * k) % 256)) hh.out
     rw [WP.fourAt_succ] at h; exact zj h
    ·exact hb.setCell (Nat.le_refl _) _
   case measure => simp [intOf]; omega
  ·obtain rfl : k = 4 := by omega
   obtain ⟨v, rfl⟩ := Int.eq_ofNat_of_zero_le h0
   have hcv : ∀ c, (convert 86 9 (.slice (some ⟨w.heap.size, 0, none⟩) 4 c)).run Tryz.prog wr = .ok (.string ⟨(Lib.leBytes 4 v).toArray⟩) wr := fun c =>
    run_convert_bytes_back (P := Tryz.prog) wr 86 9 5 ⟨w.heap.size, 0, none⟩ c (Lib.leBytes 4 v) Tryz.underlying86 Tryz.underlying5 Tryz.underlying9 (fun j hj => by
     have e := cell_of_row _ _ j _ _ _ hh.out; rw [WP.fourAt_full v j hj] at e
     rwa [addr_at])
   go_wp2
   go_ret; exact ⟨by simp, hb⟩
theorem read_any (s : ByteArray) (i : Int) (w : World) (h0 : 0 ≤ i) (h1 : i + 4 ≤ s.size) (h2 : s.size ≤ maxLen) :
  Calls Tryz.prog 99 #[.string s, .int .i64 i] w fun e w' => e = .returned (.tuple #[.int .u32 (Lib.leNat ((s.data.toList.drop i.toNat).take 4)), .int .i64 0]) ∧ w = w' := by
 obtain ⟨a, rfl⟩ := Int.eq_ofNat_of_zero_le h0; unfold maxLen at h2; have d1 : decide ((a : Int) < 0) = false := dF (by omega); have d2 : decide (s.size < a) = false := dF (by omega); have d3 : decide ((s.size : Int) - a < 4) = false := dF (by omega); go_enter Tryz.func99, Tryz.ntmps99
 go_wp2
 go_loop [6, 21] (fun n i => ∃ k : Nat, k ≤ 4 ∧ i = .int .i64 k ∧ n = .int .u32 (Lib.leNat ((s.data.toList.drop a).take k) : Nat)) (fun _ i => 4 - (intOf i).toNat)
 case atStart => exact ⟨0, Nat.zero_le _, rfl, rfl⟩
 case round =>
  obtain ⟨k, hk, rfl, rfl⟩ := hrel; by_cases hlt : k < 4
  ·have HO := zj (WP.rd_step s a k (by omega) hlt)
   go_wp2
   go_round
   case rel =>
    refine ⟨k + 1, by omega, by go_num, ?_⟩; rw [← HO.out]
   case measure => simp [intOf]; omega
  ·obtain rfl : k = 4 := by omega
   go_wp2
   go_ret2
   exact ⟨rfl, rfl⟩
end Go.Proofs.YtpeghilfldpgfaaGreatDoor.L7
namespace Go.Proofs.YtpeghilfldpgfaaGreatDoor.L7
open Go.RowKit
namespace WP
theorem drop_cons (s : ByteArray) (i : Nat) (h : i < s.size) : s.data.toList.drop i = s[i] :: s.data.toList.drop (i + 1) := by
 rw [List.drop_eq_getElem_cons (by simpa using h)]; rfl
end WP
theorem below_alloc (w : World) (o : Obj) : Below w.heap.size w (w.alloc o) := (Below.refl _ w).alloc (Nat.le_refl _) o
theorem below_drewN {c : Nat} {w v : World} (h : Below c w v) (n : Nat) : Below c w (v.drewN n) := ⟨h.os, h.tape, h.output, h.size, h.block⟩
theorem below_of_drew {w v : World} (h : Below w.drew.heap.size w.drew v) : Below w.heap.size w v := ⟨h.os, h.tape, h.output, h.size, h.block⟩
theorem conv_new (w : World) (xs : List Int) (t e s : TypeId) {P : Program} (ht : P.underlying t = some (.slice e)) (he : P.underlying e = some (.int .u8)) (hs : P.underlying s = some .string) :
  (convert t s (.slice (some ⟨w.heap.size, 0, none⟩) xs.length xs.length)).run P (w.alloc (.cells (xs.map (Value.int .u8)).toArray e)) = .ok (.string (strOfNums xs)) (w.alloc (.cells (xs.map (Value.int .u8)).toArray e)) := by
 refine run_convert_bytes_arg _ t e ht he _ 0 _ _ xs rfl (fun i hi => ?_) s hs; rw [Nat.zero_add, cell_of_row _ _ i _ _ _ (heap_alloc_new _ _)]; simp [hi]
theorem u8n (a b : Nat) (h : a % 256 = b % 256) : UInt8.ofNat a = b.toUInt8 := by
 apply UInt8.toNat_inj.1; simp [Nat.toUInt8, h]
theorem ret_nums {xs : List Int} {l : List UInt8} (h : xs.map (fun n => UInt8.ofNat n.toNat) = l) : Ending.returned (.string (strOfNums xs)) = .returned (.string ⟨l.toArray⟩) := by
 unfold strOfNums; rw [h]
theorem rfour_any (n : Int) (w : World) (h0 : 0 ≤ n) (h1 : n ≤ 4294967295) :
  Calls Tryz.prog 147 #[.int .u32 n] w fun e w' => e = .returned (.string ⟨(Lib.leBytes 4 n.toNat).toArray⟩) ∧ Below w.heap.size w w' := by
 have hc := fun a b c d => conv_new w [a, b, c, d] 86 5 9 Tryz.underlying86 Tryz.underlying5 Tryz.underlying9; simp only [List.length_cons, List.length_nil, List.map_cons, List.map_nil, Nat.zero_add, Nat.reduceAdd] at hc; go_enter Tryz.func147, Tryz.ntmps147; go_wp2_with fail; go_ret; refine ⟨?_, (Below.refl _ w).alloc (Nat.le_refl _) _⟩; refine (ret_nums (xs := [n % 256, n / 256 % 256, n / 65536 % 256, n / 16777216]) ?_); simp only [List.map_cons, List.map_nil, Lib.leBytes]; rw [u8n _ (n.toNat % 256) (by omega), u8n _ (n.toNat / 256 % 256) (by omega), u8n _ (n.toNat / 256 / 256 % 256) (by omega), u8n _ (n.toNat / 256 / 256 / 256 % 256) (by omega)]
def byteCells (l : List UInt8) : List Value := l.map fun b => .int .u8 b.toNat
theorem own_none {w : World} {base : Nat} {t : TypeId} (h : base ≤ w.heap.size) : (w.alloc (.cells #[] t)).ownsRow base t 1 (.slice (some ⟨w.heap.size, 0, none⟩) 0 0) 0 [] :=
 ⟨rfl, .inr ⟨w.heap.size, 0, #[], rfl, h, heap_alloc_new _ _, Nat.le_refl _, by unfold maxLen; omega, rfl, rfl⟩⟩
theorem conv_own {P : Program} {w : World} {base : Nat} {t e s : TypeId} {g n cap : Nat} {l : List UInt8} (ht : P.underlying t = some (.slice e)) (he : P.underlying e = some (.int .u8)) (hs : P.underlying s = some .string)
  (h : w.ownsRow base e 1 (.slice (some ⟨g, 0, none⟩) n cap) n (byteCells l)) (hl : l.length = n) : (convert t s (.slice (some ⟨g, 0, none⟩) n cap)).run P w = .ok (.string ⟨l.toArray⟩) w := by
 subst hl; refine run_convert_bytes_back w t s e _ cap l ht he hs (fun j hj => ?_); rw [addr_at, h.cellAt j (by omega)]; simp [byteCells, hj]
theorem drop_take_cons (s : ByteArray) (a k : Nat) (h : a < s.size) : (s.data.toList.drop a).take (k + 1) = s[a] :: (s.data.toList.drop (a + 1)).take k := by
 rw [WP.drop_cons s a h, List.take_succ_cons]
theorem rread_any (s : ByteArray) (i : Int) (w : World) (h0 : 0 ≤ i) (h1 : i + 4 ≤ s.size) (h2 : s.size ≤ maxLen) :
  Calls Tryz.prog 83 #[.string s, .int .i64 i] w fun e w' => e = .returned (.tuple #[.int .u32 (Lib.leNat ((s.data.toList.drop i.toNat).take 4)), .int .i64 0]) ∧ w = w' := by
 obtain ⟨a, rfl⟩ := Int.eq_ofNat_of_zero_le h0; rw [Int.toNat_natCast]; unfold maxLen at h2; have d1 : decide ((a : Int) < 0) = false := dF (by omega); have d2 : decide (s.size < a) = false := dF (by omega); have d3 : decide ((s.size : Int) < a + 4) = false := dF (by omega); go_enter Tryz.func83, Tryz.ntmps83; go_wp2_with fail
 go_loop [6, 7] (fun n i => ∃ q : Int, -1 ≤ q ∧ q ≤ 3 ∧ i = .int .i64 q ∧ n = .int .u32 (Lib.leNat ((s.data.toList.drop (a + (q + 1).toNat)).take (3 - q).toNat) : Nat)) (fun _ i => (intOf i + 1).toNat)
 case atStart => exact ⟨3, by omega, by omega, rfl, by simp [Lib.leNat]⟩
 case round =>
  obtain ⟨q, hq0, hq3, rfl, rfl⟩ := hrel; by_cases hlt : 0 ≤ q
  ·obtain ⟨j, rfl⟩ := Int.eq_ofNat_of_zero_le hlt
   rw [show ((j : Int) + 1).toNat = j + 1 by omega, show (3 - (j : Int)).toNat = 3 - j by omega]; have hb := WP.leNat_lt ((s.data.toList.drop (a + (j + 1))).take (3 - j)); have hbp : 256 ^ ((s.data.toList.drop (a + (j + 1))).take (3 - j)).length ≤ 256 ^ 3 := Nat.pow_le_pow_right (by omega) (by simp; omega)
   have HE : Hid (Lib.leNat ((s.data.toList.drop (a + j)).take (3 - j + 1)) = (s[a + j]'(by omega)).toNat + 256 * Lib.leNat ((s.data.toList.drop (a + (j + 1))).take (3 - j))) :=
    zj (by rw [drop_take_cons s (a + j) (3 - j) (by omega)]; simp only [Lib.leNat]; rw [Nat.add_assoc])
   have hv : Lib.leNat ((s.data.toList.drop (a + (j + 1))).take (3 - j)) < 16777216 := by omega
   have hby := (s[a + j]'(by omega)).toNat_lt; clear hb hbp; generalize Lib.leNat ((s.data.toList.drop (a + (j + 1))).take (3 - j)) = v at *; go_wp2_with fail
   go_round
   case rel =>
    refine ⟨(j : Int) - 1, by omega, by omega, rfl, ?_⟩; rw [show ((j : Int) - 1 + 1).toNat = j by omega, show (3 - ((j : Int) - 1)).toNat = 3 - j + 1 by omega, HE.out]
    go_num
   case measure => simp [intOf]
  ·obtain rfl : q = -1 := by omega
   go_wp2_with fail
   go_ret2
   exact ⟨rfl, rfl⟩
theorem Tryz.infoByte : (Tryz.prog.info? 5).map (fun i => (i.zero, i.size, i.bytes)) = some (some (.int .u8 0), 1, 1) := by kernel_rfl
theorem byteCells_snoc (l : List UInt8) (b : UInt8) : byteCells (l ++ [b]) = byteCells l ++ [.int .u8 b.toNat] := by simp [byteCells]
theorem refRepeat_any (c : UInt8) (n : Nat) (w : World) (hn : n ≤ 100000) :
  Calls Tryz.prog 38 #[.int .u8 c.toNat, .int .i64 n] w fun e w' => e = .returned (.string ⟨(List.replicate n c).toArray⟩) ∧ Below w.heap.size w w' := by
 obtain ⟨i0, hi, hz0, hz1, hz2⟩ := info_parts Tryz.infoByte; go_enter Tryz.func38, Tryz.ntmps38; go_wp2_with fail
 go_loopw [5, 6] (fun v i wr => ∃ (k g cap : Nat), k ≤ n ∧ i = .int .i64 k ∧ v = .slice (some ⟨g, 0, none⟩) k cap ∧ w.heap.size ≤ g ∧ wr.ownsRow w.heap.size 5 1 (.slice (some ⟨g, 0, none⟩) k cap) k (byteCells (List.replicate k c)) ∧ Below w.heap.size w wr) (fun _ i _ => n - (intOf i).toNat)
 case atStart => exact ⟨0, w.heap.size, 0, by omega, rfl, rfl, Nat.le_refl _, own_none (Nat.le_refl _), (Below.refl _ w).alloc (Nat.le_refl _) _⟩
 case round =>
  obtain ⟨k, g, cap, hk, rfl, rfl, hg, hown, hb⟩ := hrel; have hbs := hb.size; by_cases hlt : k < n
  ·go_wp2_with (at_builtin; refine wpList_append_lies _ rfl _ _ 86 rfl w.heap.size 5 i0 (.int .u8 0) 1 1 Tryz.underlying86 hi hz0 hz1 hz2 rfl (by decide) (.slice (some ⟨g, 0, none⟩) k cap) k _ rfl (hown.alloc _) ⟨wr.heap.size, 0, none⟩ 1 1 [.int .u8 c.toNat] rfl rfl (World.news_of_block (cs := #[.int .u8 c.toNat]) (t := 5) (fr := (0, 0)) (heap_alloc_new wr _)) (by simp [Value.oneCell']) (by omega) (by unfold maxLen; omega) (by omega) (by simp; omega) (wr.heap.size + 1) (by simp) ?_; intro g' cap' w1 hown1 hgrow hat hlt1)
   have hg' : w.heap.size ≤ g' := by rcases hat with h | h; (simp [Value.ownBlock] at h; omega); omega
   have hb' : Below w.heap.size w w1 := (hb.alloc hbs _).grown hgrow (by simp; omega) (fun j e => by simp [Value.ownBlock] at e; omega); clear hat hgrow hlt1
   go_roundw
   case rel => exact ⟨k + 1, g', cap', by omega, by go_num, rfl, hg', by rw [List.replicate_succ', byteCells_snoc]; exact hown1, hb'⟩
   case measure => simp [intOf]; omega
  ·obtain rfl : k = n := by omega
   have hcv := conv_own Tryz.underlying86 Tryz.underlying5 Tryz.underlying9 hown (by simp); go_wp2_with fail; go_ret; exact ⟨rfl, hb⟩
theorem refOne_any (r : Nat) (c : UInt8) (w : World) (hr : r < 4294967296) :
  Calls Tryz.prog 213 #[.int .u32 r, .int .u8 c.toNat] w fun e w' => e = .returned (.int .u32 (SP.one r c : Nat)) ∧ w = w' := by
 have hx := xor32 r c.toNat hr (SP.u8_lt c); have hcl := c.toNat_lt; have hq := SP.xor_lt r c.toNat hr (SP.u8_lt c); have HO := zj (show SP.one r c = SP.bits (r ^^^ c.toNat) 8 from rfl); rw [HO.out]; generalize r ^^^ c.toNat = Q at hx hq; go_enter Tryz.func213, Tryz.ntmps213
 go_wp2
 go_loop [0, 5] (fun g i => ∃ k : Nat, k ≤ 8 ∧ i = .int .i64 k ∧ g = .int .u32 (SP.bits Q k : Nat)) (fun _ i => 8 - (intOf i).toNat)
 case atStart => exact ⟨0, Nat.zero_le _, rfl, rfl⟩
 case round =>
  obtain ⟨k, hk, rfl, rfl⟩ := hrel; clear hx; have hlt := SP.bits_lt _ hq k; have HB := zj (show SP.bits Q (k + 1) = SP.bit (SP.bits Q k) from rfl); by_cases h8 : k < 8
  ·revert hlt HB
   generalize SP.bits Q k = R; intro hlt HB; by_cases h2 : R % 2 = 1
   ·have H2 := zj h2
    have hd : ((R : Int) % 2 == 1) = true := by rw [beq_iff_eq]; omega
    clear h2; have hx : bits .xor .u32 ((R : Int) / 2) 2197175160 = ((R / 2 ^^^ 2197175160 : Nat) : Int) := xor32 (R / 2) 2197175160 (by omega) (by omega)
    go_wp2
    go_round
    case rel =>
     refine ⟨k + 1, by omega, by go_num, ?_⟩; rw [HB.out, show SP.bit R = R / 2 ^^^ 2197175160 by unfold SP.bit; rw [if_pos H2.out]]
    case measure => simp [intOf]; omega
   ·have H0 : Hid (R % 2 = 0) := zj (by omega)
    have hd : ((R : Int) % 2 == 1) = false := by rw [beq_eq_false_iff_ne]; omega
    clear h2
    go_wp2
    go_round
    case rel =>
     refine ⟨k + 1, by omega, by go_num, ?_⟩; rw [HB.out, show SP.bit R = R / 2 by unfold SP.bit; rw [if_neg (by rw [H0.out]; omega)]]
     go_num
    case measure => simp [intOf]; omega
  ·obtain rfl : k = 8 := by omega
   go_wp2
   go_ret; exact ⟨rfl, rfl⟩
theorem sub32 (c : Nat) (hc : c < 4294967296) : (4294967295 : Int) - c = (SP.inv c : Nat) := by rw [SP.inv_sub c hc]; omega
theorem refMore_any (c : Nat) (s : ByteArray) (w : World) (hc : c < 4294967296) (hs : s.size ≤ maxLen) :
  Calls Tryz.prog 205 #[.int .u32 c, .string s] w fun e w' => e = .returned (.int .u32 (SP.more c s.data.toList : Nat)) ∧ w = w' := by
 unfold maxLen at hs; have hx := sub32 c hc; have hi := SP.inv_lt c hc; have HM := zj (show SP.more c s.data.toList = SP.inv (SP.run (SP.inv c) s.data.toList) from rfl); rw [HM.out]; generalize SP.inv c = r at hx hi; clear HM; go_enter Tryz.func205, Tryz.ntmps205
 go_wp2
 go_loop [5, 6] (fun g i => ∃ k : Nat, k ≤ s.size ∧ i = .int .i64 k ∧ g = .int .u32 (SP.run r (s.data.toList.take k) : Nat)) (fun _ i => s.size - (intOf i).toNat)
 case atStart => exact ⟨0, Nat.zero_le _, rfl, rfl⟩
 case round =>
  obtain ⟨k, hk, rfl, rfl⟩ := hrel; clear hx; have hlt := SP.run_lt (s.data.toList.take k) r hi; by_cases h : k < s.size
  ·have HN := zj (run_next r s k h)
   revert hlt HN; generalize SP.run r (s.data.toList.take k) = R; intro hlt HN; go_wp2_with fail; refine (refOne_any R s[k] w hlt).mono ?_; rintro e w2 ⟨rfl, rfl⟩; rw [HN.out]; go_wp2_with fail
   go_round
   case rel => exact ⟨k + 1, by omega, by go_num, rfl⟩
   case measure => simp [intOf]; omega
  ·obtain rfl : k = s.size := by omega
   have hx := sub32 _ hlt; have hi' := SP.inv_lt _ hlt; rw [take_all] at hx hi' ⊢; go_wp2_with fail; go_ret; exact ⟨rfl, rfl⟩
theorem refSum_any (s : ByteArray) (w : World) (hs : s.size ≤ maxLen) :
  Calls Tryz.prog 181 #[.string s] w fun e w' => e = .returned (.int .u32 (SP.sum s.data.toList : Nat)) ∧ w = w' := by
 go_enter Tryz.func181, Tryz.ntmps181; go_wp2_with fail; refine (refMore_any 0 s _ (by omega) hs).mono ?_; rintro e w1 ⟨rfl, rfl⟩; go_wp2_with fail; go_ret; exact ⟨rfl, rfl⟩
theorem sizeRef_any (p : Int) (w : World) : Calls Tryz.prog 130 #[.int .i64 p] w fun e w' => e = .returned (.bool (decide (p = 128 ∨ p = 256 ∨ p = 512 ∨ p = 1024))) ∧ w = w' := by
 by_cases h1 : p = 128
 ·subst h1
  go_enter Tryz.func130, Tryz.ntmps130; go_wp2_with fail; go_ret; exact ⟨rfl, rfl⟩
 have e1 : (p == 128) = false := beq_eq_false_iff_ne.2 h1; by_cases h2 : p = 256
 ·subst h2
  go_enter Tryz.func130, Tryz.ntmps130; go_wp2_with fail; go_ret; exact ⟨rfl, rfl⟩
 have e2 : (p == 256) = false := beq_eq_false_iff_ne.2 h2; by_cases h3 : p = 512
 ·subst h3
  go_enter Tryz.func130, Tryz.ntmps130; go_wp2_with fail; go_ret; exact ⟨rfl, rfl⟩
 have e3 : (p == 512) = false := beq_eq_false_iff_ne.2 h3; by_cases h4 : p = 1024
 ·subst h4
  go_enter Tryz.func130, Tryz.ntmps130; go_wp2_with fail; go_ret; exact ⟨rfl, rfl⟩
 have e4 : (p == 1024) = false := beq_eq_false_iff_ne.2 h4
 have hv : decide (p = 128 ∨ p = 256 ∨ p = 512 ∨ p = 1024) = false := by simp [h1, h2, h3, h4]
 rw [hv]; clear h1 h2 h3 h4 hv; go_enter Tryz.func130, Tryz.ntmps130; go_wp2_with fail; go_ret; exact ⟨rfl, rfl⟩
abbrev B (s : ByteArray) : List UInt8 := s.data.toList
theorem b_size (s : ByteArray) : (B s).length = s.size := by simp [B]
def txt (s : ByteArray) : Array Value := (Lib.byteCells (B s)).toArray
theorem txt_size (s : ByteArray) : (txt s).size = s.size := by simp [txt, Lib.byteCells_length]
theorem litClone_any (s : ByteArray) (w : World) (hs : s.size ≤ 1000000) :
  Calls Tryz.prog 160 #[.string s] w fun e w' => e = .returned (.string s) ∧ Below w.heap.size w w' := by
 by_cases h0 : s.size = 0
 ·obtain rfl : s = ⟨#[]⟩ := ByteArray.ext (Array.eq_empty_of_size_eq_zero h0)
  go_enter Tryz.func160, Tryz.ntmps160
  go_wp2
  go_ret; exact ⟨rfl, Below.refl _ _⟩
 ·obtain ⟨i0, hi, hz0, hz1, hz2⟩ := info_parts Tryz.infoByte
  have hsz : (Tryz.prog.info? 5).map (·.size) = some 1 := by rw [hi]; simp [hz1]
  have hcells : Tryz.prog.cellsOf 5 = 1 := by simp [Program.cellsOf, hi, hz1]
  obtain ⟨Z, hZ⟩ : ∃ Z, Z = madeCells (Value.int .u8 0).cells (((s.size : Nat) : Int).toNat * i0.size) := ⟨_, rfl⟩
  have hZs : Z.size = s.size := by rw [hZ, size_madeCells, hz1]; simp
  -- the bytes are made,
  have mk : ∀ W : World, (Instr.makeSlice 86 (.int .i64 (s.size : Int)) (.int .i64 (s.size : Int))).run Tryz.prog W = .ok (.slice (some ⟨W.heap.size, 0, none⟩) s.size s.size) (W.alloc (.cells Z 5)) := fun W => by
   have h := run_make (P := Tryz.prog) W 86 5 i0 (.int .u8 0) Tryz.underlying86 hi hz0 .i64 .i64 (s.size : Int) (s.size : Int) (by omega) (by omega) (by rw [hz2]; omega) (by omega); rw [← hZ] at h
   simpa using h
  clear hZ
  -- become the text's,
  have heap1 := heap_alloc_new w (.cells Z 5); have cp := Lib.run_copy_row_string (P := Tryz.prog) (w.alloc (.cells Z 5)) 86 9 3 5 w.heap.size 0 s.size s.size s Z 5 Tryz.underlying86 hsz heap1 (Nat.le_refl _) (by omega)
  rw [show (Z.toList.take 0 ++ Lib.byteCells s.data.toList ++ Z.toList.drop (0 + s.size)).toArray = txt s by
   rw [List.take_zero, List.nil_append, List.drop_of_length_le (by simp; omega), List.append_nil]; rfl] at cp
  have heap2 : ((w.alloc (.cells Z 5)).setRow w.heap.size (txt s)).heap[w.heap.size]? = some (.cells (txt s) 5 (0, 0)) := setRow_heap _ _ Z _ 5 (0, 0) heap1; have hb2 : Below w.heap.size w ((w.alloc (.cells Z 5)).setRow w.heap.size (txt s)) := (below_alloc w _).trans ⟨rfl, rfl, rfl, by simp, fun k hk => setRow_other _ _ _ _ (by omega)⟩; have hne : B s ≠ [] := fun e => h0 (by rw [← b_size, e]; rfl); generalize (w.alloc (.cells Z 5)).setRow w.heap.size (txt s) = w2 at *
  -- and are the answer.
  have us := Lib.run_unsafeString_row (P := Tryz.prog) w2 272 3 9 5 Tryz.underlying272 hcells w.heap.size (txt s).size (by unfold World.shape?; rw [heap2]) (B s) hne (by rw [b_size, txt_size]; exact Nat.le_refl _) (by rw [b_size]; omega)
   (fun j x hx => Lib.cells_of_row heap2 (txt s).size j _ (by rw [List.take_of_length_le (by rw [Array.length_toList]; exact Nat.le_refl _)]; simp [txt, Lib.byteCells, hx]))
  rw [b_size] at us; have hfz := Lib.below_freeze hb2 (p := ⟨w.heap.size, 0, none⟩) (Nat.le_refl _) s.size; go_enter Tryz.func160, Tryz.ntmps160
  go_wp2
  go_ret; exact ⟨rfl, hfz⟩
theorem clone_any (s : ByteArray) (w : World) (hs : s.size ≤ 1000000) :
  Calls Tryz.prog 98 #[.string s] w fun e w' => e = .returned (.string s) ∧ Below w.heap.size w w' := by
 go_enter Tryz.func98, Tryz.ntmps98; go_wp2_with fail; refine (litClone_any s _ hs).mono ?_; rintro e w1 ⟨rfl, hb1⟩; go_wp2_with fail; go_ret; exact ⟨rfl, hb1⟩
end Go.Proofs.YtpeghilfldpgfaaGreatDoor.L7
