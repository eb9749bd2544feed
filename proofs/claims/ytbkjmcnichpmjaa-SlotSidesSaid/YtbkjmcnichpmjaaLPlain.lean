/-
  Plain mathematics of package slot: a body of cells, and the cells of a body.
-/
import Derived.WalkKit
import Derived.Lib.Hide
namespace Go.Proofs.Ytbkjmcnichpmjaa.LP
set_option linter.unusedSimpArgs false

def u8 (n : Nat) : UInt8 := UInt8.ofNat n
theorem u8_lt (n : Nat) (h : n < 256) : (u8 n).toNat = n := by simp [u8]; omega
/-- How many bytes the cells have. -/
def sum : List (List UInt8) → Nat
  | [] => 0
  | c :: l => c.length + sum l
theorem sum_append (a b : List (List UInt8)) : sum (a ++ b) = sum a + sum b := by
  induction a with
  | nil => simp [sum]
  | cons c a ih => simp only [List.cons_append, sum, ih]; omega
theorem flatten_length (l : List (List UInt8)) : l.flatten.length = sum l := by
  induction l with
  | nil => rfl
  | cons c l ih => simp [sum, ih]
/-- How many bytes fixed ones, cells and the directory have. -/
def need (f : Nat) (cs : List (List UInt8)) : Nat := f + 2 + sum cs + 2 * cs.length
/-- A place's bytes. -/
def two (n : Nat) : List UInt8 := [u8 (n % 256), u8 (n / 256)]
theorem two_length (n : Nat) : (two n).length = 2 := rfl
theorem two_inj {a b : Nat} (ha : a < 65536) (hb : b < 65536) (h : two a = two b) : a = b := by
  simp only [two, List.cons.injEq, and_true] at h
  have h1 := congrArg UInt8.toNat h.1
  have h2 := congrArg UInt8.toNat h.2
  rw [u8_lt _ (by omega), u8_lt _ (by omega)] at h1 h2
  omega
/-- The directory of cells that begin at a place, from its own end on: the last place first. -/
def dir (a : Nat) : List (List UInt8) → List UInt8
  | [] => two a
  | c :: l => dir (a + c.length) l ++ two a
theorem dir_length (cs : List (List UInt8)) : ∀ a, (dir a cs).length = 2 * cs.length + 2 := by
  induction cs with
  | nil => intro a; rfl
  | cons c l ih => intro a; simp only [dir, List.length_append, ih, two_length, List.length_cons]; omega
/-- A body. -/
def pack (room : Nat) (f : List UInt8) (cs : List (List UInt8)) : List UInt8 := f ++ cs.flatten ++ List.replicate (room - need f.length cs) 0 ++ dir f.length cs
theorem pack_length (room : Nat) (f : List UInt8) (cs : List (List UInt8)) (h : need f.length cs ≤ room) : (pack room f cs).length = room := by
  have := dir_length cs f.length
  have := flatten_length cs
  unfold need at *
  simp only [pack, List.length_append, List.length_replicate, need]
  omega
/-- Directories of as many cells are of the same sizes. -/
theorem dir_sizes : ∀ (cs ds : List (List UInt8)) (a b : Nat), cs.length = ds.length → a + sum cs < 65536 → b + sum ds < 65536 → dir a cs = dir b ds → a = b ∧ cs.map List.length = ds.map List.length
  | [], [], a, b, _, ha, hb, h => by
    simp only [sum] at ha hb
    exact ⟨two_inj (by omega) (by omega) h, rfl⟩
  | c :: l, d :: m, a, b, hl, ha, hb, h => by
    simp only [List.length_cons, Nat.add_right_cancel_iff] at hl
    simp only [sum] at ha hb
    simp only [dir] at h
    have hlen : (dir (a + c.length) l).length = (dir (b + d.length) m).length := by rw [dir_length, dir_length, hl]
    obtain ⟨h1, h2⟩ := List.append_inj h hlen
    have e := two_inj (by omega) (by omega) h2
    obtain ⟨e2, e3⟩ := dir_sizes l m _ _ hl (by omega) (by omega) h1
    refine ⟨e, ?_⟩
    rw [List.map_cons, List.map_cons, e3, show c.length = d.length by omega]
  | [], _ :: _, _, _, hl, _, _, _ => by simp at hl
  | _ :: _, [], _, _, hl, _, _, _ => by simp at hl
/-- Texts of the same sizes, one behind the other. -/
theorem flatten_inj : ∀ (cs ds : List (List UInt8)) (x y : List UInt8), cs.map List.length = ds.map List.length → cs.flatten ++ x = ds.flatten ++ y → cs = ds ∧ x = y
  | [], [], x, y, _, h => ⟨rfl, by simpa using h⟩
  | c :: l, d :: m, x, y, hl, h => by
    simp only [List.map_cons, List.cons.injEq] at hl
    simp only [List.flatten_cons, List.append_assoc] at h
    obtain ⟨h1, h2⟩ := List.append_inj h hl.1
    obtain ⟨h3, h4⟩ := flatten_inj l m x y hl.2 h2
    exact ⟨by rw [h1, h3], h4⟩
  | [], _ :: _, _, _, hl, _ => by simp at hl
  | _ :: _, [], _, _, hl, _ => by simp at hl
theorem sum_of_map : ∀ (cs ds : List (List UInt8)), cs.map List.length = ds.map List.length → sum cs = sum ds
  | [], [], _ => rfl
  | c :: l, d :: m, h => by
    simp only [List.map_cons, List.cons.injEq] at h
    simp only [sum, h.1, sum_of_map l m h.2]
  | [], _ :: _, h => by simp at h
  | _ :: _, [], h => by simp at h
/-- Of as many cells, behind as many bytes, in the same room, unlike ones have unlike bodies. -/
theorem pack_inj {room : Nat} {f g : List UInt8} {cs ds : List (List UInt8)} (hr : room < 65536) (hf : f.length = g.length) (hl : cs.length = ds.length) (h1 : need f.length cs ≤ room) (h2 : need g.length ds ≤ room) (h : pack room f cs = pack room g ds) : f = g ∧ cs = ds := by
  have n1 := h1
  have n2 := h2
  unfold need at n1 n2
  have la : (f ++ cs.flatten ++ List.replicate (room - need f.length cs) 0).length = (g ++ ds.flatten ++ List.replicate (room - need g.length ds) 0).length := by
    have e1 := flatten_length cs
    have e2 := flatten_length ds
    simp only [List.length_append, List.length_replicate, need, e1, e2]
    omega
  obtain ⟨h3, h4⟩ := List.append_inj h la
  obtain ⟨_, h5⟩ := dir_sizes cs ds _ _ hl (by omega) (by omega) h4
  rw [List.append_assoc, List.append_assoc] at h3
  obtain ⟨h6, h7⟩ := List.append_inj h3 hf
  exact ⟨h6, (flatten_inj cs ds _ _ h5 h7).1⟩
/-- A number of the directory. -/
def at_ (b : List UInt8) (i : Nat) : Nat := (b.getD (b.length - 2 * i - 2) 0).toNat + 256 * (b.getD (b.length - 2 * i - 1) 0).toNat
/-- Where cell i begins. -/
def place (a : Nat) (cs : List (List UInt8)) (i : Nat) : Nat := a + sum (cs.take i)
theorem at_two (y : List UInt8) (a i : Nat) (h : 2 * i + 2 ≤ y.length) : at_ (y ++ two a) (i + 1) = at_ y i := by
  have hl : (y ++ two a).length = y.length + 2 := by simp [two_length]
  unfold at_
  rw [hl, show y.length + 2 - 2 * (i + 1) - 2 = y.length - 2 * i - 2 by omega, show y.length + 2 - 2 * (i + 1) - 1 = y.length - 2 * i - 1 by omega]
  simp only [List.getD_eq_getElem?_getD]
  rw [List.getElem?_append_left (by omega), List.getElem?_append_left (by omega)]
theorem dir_at : ∀ (cs : List (List UInt8)) (a : Nat) (x : List UInt8) (i : Nat), i ≤ cs.length → a + sum cs < 65536 → at_ (x ++ dir a cs) i = place a cs i
  | cs, a, x, 0, _, h => by
    obtain ⟨y, hy⟩ : ∃ y, x ++ dir a cs = y ++ two a := by
      cases cs with
      | nil => exact ⟨x, rfl⟩
      | cons c l => exact ⟨x ++ dir (a + c.length) l, by simp [dir]⟩
    rw [hy]
    have hl : (y ++ two a).length = y.length + 2 := by simp [two_length]
    unfold at_ place
    rw [hl]
    simp only [Nat.mul_zero, Nat.sub_zero, Nat.add_sub_cancel, List.take_zero, sum, Nat.add_zero, show y.length + 2 - 1 = y.length + 1 by omega, List.getD_eq_getElem?_getD]
    rw [List.getElem?_append_right (by omega), List.getElem?_append_right (by omega)]
    simp only [Nat.sub_self, Nat.add_sub_cancel_left, two, List.getElem?_cons_zero, List.getElem?_cons_succ, Option.getD_some]
    rw [u8_lt _ (by omega), u8_lt _ (by omega)]
    omega
  | [], _, _, i + 1, h, _ => by simp at h
  | c :: l, a, x, i + 1, hi, h => by
    simp only [List.length_cons, Nat.add_le_add_iff_right] at hi
    simp only [sum] at h
    have ih := dir_at l (a + c.length) x i hi (by omega)
    have e : place a (c :: l) (i + 1) = place (a + c.length) l i := by simp only [place, List.take_succ_cons, sum]; omega
    rw [e, ← ih]
    have hd := dir_length l (a + c.length)
    have hx : x ++ dir a (c :: l) = (x ++ dir (a + c.length) l) ++ two a := by simp [dir]
    rw [hx]
    exact at_two _ _ _ (by rw [List.length_append, hd]; omega)
/-- The numbers of a body's directory are where its cells begin. -/
theorem at_pack (room : Nat) (f : List UInt8) (cs : List (List UInt8)) (hr : room < 65536) (h : need f.length cs ≤ room) (i : Nat) (hi : i ≤ cs.length) : at_ (pack room f cs) i = place f.length cs i := by
  unfold need at h
  exact dir_at cs f.length _ i hi (by omega)
theorem sum_take_succ (cs : List (List UInt8)) (i : Nat) (hi : i < cs.length) : sum (cs.take (i + 1)) = sum (cs.take i) + cs[i].length := by
  rw [List.take_succ_eq_append_getElem hi, sum_append]
  simp [sum]
theorem sum_take_le (cs : List (List UInt8)) (i : Nat) : sum (cs.take i) ≤ sum cs := by
  have h : sum cs = sum (cs.take i) + sum (cs.drop i) := by rw [← sum_append, List.take_append_drop]
  omega
/-- A cell of a body. -/
def cut (b : List UInt8) (i : Nat) : List UInt8 := (b.drop (at_ b i)).take (at_ b (i + 1) - at_ b i)
theorem cut_pack (room : Nat) (f : List UInt8) (cs : List (List UInt8)) (hr : room < 65536) (h : need f.length cs ≤ room) (i : Nat) (hi : i < cs.length) : cut (pack room f cs) i = cs[i] := by
  unfold cut
  rw [at_pack room f cs hr h i (by omega), at_pack room f cs hr h (i + 1) (by omega)]
  unfold place
  rw [sum_take_succ cs i hi, show f.length + (sum (cs.take i) + cs[i].length) - (f.length + sum (cs.take i)) = cs[i].length by omega]
  have e : pack room f cs = (f ++ (cs.take i).flatten) ++ (cs[i] ++ ((cs.drop (i + 1)).flatten ++ List.replicate (room - need f.length cs) 0 ++ dir f.length cs)) := by
    have e1 : cs.flatten = (cs.take i).flatten ++ (cs[i] ++ (cs.drop (i + 1)).flatten) := by
      rw [← List.flatten_cons, ← List.drop_eq_getElem_cons hi, ← List.flatten_append, List.take_append_drop]
    unfold pack
    rw [e1]
    simp only [List.append_assoc]
  have hl : (f ++ (cs.take i).flatten).length = f.length + sum (cs.take i) := by rw [List.length_append, flatten_length]
  rw [e, ← hl, List.drop_left, List.take_left]
/-- A body's cells, of so many, behind so many bytes. -/
def cells (b : List UInt8) (n : Nat) : List (List UInt8) := (List.range n).map (cut b)
theorem cells_length (b : List UInt8) (n : Nat) : (cells b n).length = n := by simp [cells]
theorem cells_pack (room : Nat) (f : List UInt8) (cs : List (List UInt8)) (hr : room < 65536) (h : need f.length cs ≤ room) : cells (pack room f cs) cs.length = cs := by
  apply List.ext_getElem
  · simp [cells]
  · intro i h1 h2
    simp only [cells, List.getElem_map, List.getElem_range]
    exact cut_pack room f cs hr h i h2
/-- Is a body of n cells behind k bytes? -/
def good (b : List UInt8) (k n : Nat) : Prop := k ≤ b.length ∧ need k (cells b n) ≤ b.length ∧ pack b.length (b.take k) (cells b n) = b
instance (b : List UInt8) (k n : Nat) : Decidable (good b k n) := by unfold good; infer_instance
/-- A body is one list of cells, of so many, behind so many bytes, or none. -/
theorem good_iff (b : List UInt8) (k n : Nat) (hb : b.length < 65536) : good b k n ↔ ∃ cs : List (List UInt8), cs.length = n ∧ k ≤ b.length ∧ need k cs ≤ b.length ∧ pack b.length (b.take k) cs = b := by
  constructor
  · rintro ⟨h1, h2, h3⟩
    exact ⟨cells b n, cells_length b n, h1, h2, h3⟩
  · rintro ⟨cs, rfl, h1, h2, h3⟩
    have hk : (b.take k).length = k := by rw [List.length_take]; omega
    have e : cells b cs.length = cs := by
      have h4 := cells_pack b.length (b.take k) cs hb (by rw [hk]; exact h2)
      rwa [h3] at h4
    exact ⟨h1, by rw [e]; exact h2, by rw [e]; exact h3⟩
theorem pack_good (room : Nat) (f : List UInt8) (cs : List (List UInt8)) (hr : room < 65536) (h : need f.length cs ≤ room) : good (pack room f cs) f.length cs.length ∧ cells (pack room f cs) cs.length = cs ∧ (pack room f cs).take f.length = f := by
  have hl := pack_length room f cs h
  have ht : (pack room f cs).take f.length = f := by
    unfold pack
    rw [List.append_assoc, List.append_assoc, List.take_left]
  have hc := cells_pack room f cs hr h
  refine ⟨⟨?_, ?_, ?_⟩, hc, ht⟩
  · rw [hl]; unfold need at h; omega
  · rw [hl, hc]; exact h
  · rw [hl, hc, ht]
end Go.Proofs.Ytbkjmcnichpmjaa.LP
