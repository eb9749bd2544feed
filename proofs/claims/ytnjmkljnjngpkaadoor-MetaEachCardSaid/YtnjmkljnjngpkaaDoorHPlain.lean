/-
  Plain mathematics of package head: a page's bytes, and what follows from its sum.
-/
import Derived.Test.YtnjmkljnjngpkaaDoorSBurstM
import Derived.Lib.Endian
namespace Go.Proofs.YtnjmkljnjngpkaaDoor.L7
/-- May a page have p bytes? -/
def mayBe (p : Int) : Bool := decide (p = 128 ∨ p = 256 ∨ p = 512 ∨ p = 1024)
end Go.Proofs.YtnjmkljnjngpkaaDoor.L7
namespace Go.Proofs.YtnjmkljnjngpkaaDoor.L7.HP
open SP
set_option linter.unusedSimpArgs false

/-- What a page begins with. -/
structure H where
  k : Int
  l : Int
  c : Int
  r : Int
  s : Int
def H0 : H := ⟨0, 0, 0, 0, 0⟩
/-- May it be? -/
def Ok (h : H) : Prop := 1 ≤ h.k ∧ h.k ≤ 4 ∧ 0 ≤ h.l ∧ h.l ≤ 255 ∧ 0 ≤ h.c ∧ h.c ≤ 65535 ∧ 0 ≤ h.r ∧ h.r ≤ 4095 ∧ 0 ≤ h.s ∧ h.s ≤ 4095
instance (h : H) : Decidable (Ok h) := by unfold Ok; infer_instance
def right (h : H) : Bool := decide (Ok h)
theorem right_iff {h : H} : right h = true ↔ Ok h := by unfold right; exact decide_eq_true_iff
def u8 (n : Nat) : UInt8 := UInt8.ofNat n
theorem u8_lt (n : Nat) (h : n < 256) : (u8 n).toNat = n := by simp [u8]; omega
theorem u8_back (x : UInt8) : u8 x.toNat = x := by simp [u8]
/-- The fields' bytes. -/
def front (h : H) : List UInt8 := [u8 h.k.toNat, u8 h.l.toNat, u8 (h.c.toNat % 256), u8 (h.c.toNat / 256)] ++ Lib.leBytes 4 h.r.toNat ++ Lib.leBytes 4 h.s.toNat
theorem front_length (h : H) : (front h).length = 12 := by simp [front, Lib.leBytes_length]
def crc (f t : List UInt8) : Nat := SP.sum (f ++ [0, 0, 0, 0] ++ t)
theorem crc_lt (f t : List UInt8) : crc f t < 4294967296 := SP.sum_lt _
/-- A page, of its fields' bytes and what stands behind the sum. -/
def page (f t : List UInt8) : List UInt8 := f ++ Lib.leBytes 4 (crc f t) ++ t
def rest (b : List UInt8) (p : Nat) : List UInt8 := b ++ List.replicate (p - 16 - b.length) 0
theorem rest_length (b : List UInt8) (p : Nat) (h : b.length + 16 ≤ p) : (rest b p).length = p - 16 := by simp [rest]; omega
theorem page_length (f t : List UInt8) : (page f t).length = f.length + 4 + t.length := by simp [page, Lib.leBytes_length]; omega
/-- A head, of the bytes of a page. -/
def headOf (s : List UInt8) : H := ⟨(s.getD 0 0).toNat, (s.getD 1 0).toNat, ((s.getD 2 0).toNat + 256 * (s.getD 3 0).toNat : Nat), (Lib.leNat ((s.drop 4).take 4) : Nat), (Lib.leNat ((s.drop 8).take 4) : Nat)⟩
def good (s : List UInt8) : Prop := Ok (headOf s) ∧ Lib.leNat ((s.drop 12).take 4) = crc (s.take 12) (s.drop 16)
instance (s : List UInt8) : Decidable (good s) := by unfold good; infer_instance

theorem leBytes_leNat : ∀ (l : List UInt8), Lib.leBytes l.length (Lib.leNat l) = l
  | [] => rfl
  | c :: l => by
    have hc := c.toNat_lt
    have h : Lib.leNat (c :: l) = c.toNat + 256 * Lib.leNat l := by simp [Lib.leNat]
    show _ :: _ = _
    rw [h]
    have e1 : (c.toNat + 256 * Lib.leNat l) / 256 = Lib.leNat l := by omega
    have e2 : (c.toNat + 256 * Lib.leNat l) % 256 = c.toNat := by omega
    rw [e1, e2]
    congr 1
    · simp
    · exact leBytes_leNat l
theorem leNat_lt : ∀ l : List UInt8, Lib.leNat l < 256 ^ l.length
  | [] => by simp [Lib.leNat]
  | c :: l => by
    have h := leNat_lt l
    have hc := c.toNat_lt
    simp only [Lib.leNat, List.length_cons, Nat.pow_succ]
    omega
theorem le4_back (v : Nat) (h : v < 4294967296) : Lib.leNat (Lib.leBytes 4 v) = v := Lib.leNat_leBytes 4 v (by simpa using h)
theorem le4_of (l : List UInt8) (h : l.length = 4) : Lib.leBytes 4 (Lib.leNat l) = l := by have e := leBytes_leNat l; rwa [h] at e
theorem headOf_front (h : H) (x : List UInt8) (hh : Ok h) : headOf (front h ++ x) = h := by
  obtain ⟨k, l, c, r, s⟩ := h
  obtain ⟨h1, h2, h3, h4, h5, h6, h7, h8, h9, h10⟩ := hh
  simp only at h1 h2 h3 h4 h5 h6 h7 h8 h9 h10
  obtain ⟨k, rfl⟩ := Int.eq_ofNat_of_zero_le (show 0 ≤ k by omega)
  obtain ⟨l, rfl⟩ := Int.eq_ofNat_of_zero_le h3
  obtain ⟨c, rfl⟩ := Int.eq_ofNat_of_zero_le h5
  obtain ⟨r, rfl⟩ := Int.eq_ofNat_of_zero_le h7
  obtain ⟨s, rfl⟩ := Int.eq_ofNat_of_zero_le h9
  have e : front ⟨(k : Int), (l : Int), (c : Int), (r : Int), (s : Int)⟩ ++ x = u8 k :: u8 l :: u8 (c % 256) :: u8 (c / 256) :: (Lib.leBytes 4 r ++ (Lib.leBytes 4 s ++ x)) := by
    simp [front]
  rw [e]
  have f1 : (List.drop 4 (u8 k :: u8 l :: u8 (c % 256) :: u8 (c / 256) :: (Lib.leBytes 4 r ++ (Lib.leBytes 4 s ++ x)))).take 4 = Lib.leBytes 4 r := by
    simp [List.take_append, Lib.leBytes_length, List.take_of_length_le]
  have f2 : (List.drop 8 (u8 k :: u8 l :: u8 (c % 256) :: u8 (c / 256) :: (Lib.leBytes 4 r ++ (Lib.leBytes 4 s ++ x)))).take 4 = Lib.leBytes 4 s := by
    have e8 : List.drop 8 (u8 k :: u8 l :: u8 (c % 256) :: u8 (c / 256) :: (Lib.leBytes 4 r ++ (Lib.leBytes 4 s ++ x))) = Lib.leBytes 4 s ++ x := by
      simp [List.drop_append, Lib.leBytes_length]
    rw [e8]
    simp [List.take_append, Lib.leBytes_length, List.take_of_length_le]
  unfold headOf
  rw [f1, f2, le4_back r (by omega), le4_back s (by omega)]
  simp only [List.getD_cons_zero, List.getD_cons_succ]
  rw [u8_lt k (by omega), u8_lt l (by omega), u8_lt _ (by omega), u8_lt _ (by omega)]
  congr 1
  omega
theorem page_take (f t : List UInt8) (h : f.length = 12) : (page f t).take 12 = f := by unfold page; rw [List.append_assoc, ← h, List.take_left]
theorem page_drop (f t : List UInt8) (h : f.length = 12) : (page f t).drop 16 = t := by
  unfold page
  have e : (f ++ Lib.leBytes 4 (crc f t)).length = 16 := by simp [h, Lib.leBytes_length]
  rw [← e, List.drop_left]
theorem page_sum (f t : List UInt8) (h : f.length = 12) : ((page f t).drop 12).take 4 = Lib.leBytes 4 (crc f t) := by
  unfold page
  rw [List.append_assoc, ← h, List.drop_left]
  have e : (Lib.leBytes 4 (crc f t)).length = 4 := Lib.leBytes_length 4 _
  rw [show (4 : Nat) = (Lib.leBytes 4 (crc f t)).length from e.symm]
  simp only [e]
  rw [show List.take 4 (Lib.leBytes 4 (crc f t) ++ t) = List.take (Lib.leBytes 4 (crc f t)).length (Lib.leBytes 4 (crc f t) ++ t) by rw [e], List.take_left]
theorem headOf_page (h : H) (t : List UInt8) (hh : Ok h) : headOf (page (front h) t) = h := by unfold page; rw [List.append_assoc]; exact headOf_front h _ hh
theorem good_page (h : H) (t : List UInt8) (hh : Ok h) : good (page (front h) t) := by
  have e := page_sum (front h) t (front_length h)
  refine ⟨by rw [headOf_page h t hh]; exact hh, ?_⟩
  rw [e, page_take _ _ (front_length h), page_drop _ _ (front_length h), le4_back _ (crc_lt _ _)]
/-- The fields' bytes, of a head that stands there. -/
theorem front_headOf (s : List UInt8) (hs : 12 ≤ s.length) : front (headOf s) = s.take 12 := by
  obtain ⟨a, b, c, d, t, rfl⟩ : ∃ a b c d t, s = a :: b :: c :: d :: t := by
    match s, hs with
    | a :: b :: c :: d :: t, _ => exact ⟨a, b, c, d, t, rfl⟩
  have ht : 8 ≤ t.length := by simpa using hs
  have e1 : headOf (a :: b :: c :: d :: t) = ⟨(a.toNat : Int), (b.toNat : Int), ((c.toNat + 256 * d.toNat : Nat) : Int), (Lib.leNat (t.take 4) : Nat), (Lib.leNat ((t.drop 4).take 4) : Nat)⟩ := rfl
  rw [e1]
  unfold front
  simp only [Int.toNat_natCast]
  have hc := c.toNat_lt
  have hd := d.toNat_lt
  rw [show (c.toNat + 256 * d.toNat) % 256 = c.toNat by omega, show (c.toNat + 256 * d.toNat) / 256 = d.toNat by omega, u8_back, u8_back, u8_back, u8_back]
  rw [le4_of (t.take 4) (by rw [List.length_take]; omega), le4_of ((t.drop 4).take 4) (by rw [List.length_take, List.length_drop]; omega)]
  have e2 : t.take 4 ++ (t.drop 4).take 4 = t.take 8 := by rw [show (8 : Nat) = 4 + 4 from rfl, List.take_add]
  simp only [List.cons_append, List.nil_append, List.take_succ_cons, e2]
/-- A page that is one is what is sealed of it. -/
theorem page_of_good (s : List UInt8) (hs : 16 ≤ s.length) (h : good s) : page (front (headOf s)) (s.drop 16) = s := by
  rw [front_headOf s (by omega)]
  unfold page
  rw [← h.2, le4_of _ (by rw [List.length_take, List.length_drop]; omega)]
  have e : s.take 12 ++ (s.drop 12).take 4 = s.take 16 := by rw [show (16 : Nat) = 12 + 4 from rfl, List.take_add]
  rw [e, List.take_append_drop]
theorem good_iff (s : List UInt8) (hs : 16 ≤ s.length) : good s ↔ Ok (headOf s) ∧ page (front (headOf s)) (s.drop 16) = s :=
  ⟨fun h => ⟨h.1, page_of_good s hs h⟩, fun h => by rw [← h.2]; exact good_page _ _ h.1⟩

/-! ## Seal and Open -/
def sea (h : H) (b : ByteArray) (p : Int) : ByteArray × Int :=
  if mayBe p = false then (⟨#[]⟩, 4) else if right h = false then (⟨#[]⟩, 3) else if p - 16 < (b.size : Int) then (⟨#[]⟩, 8) else (⟨(page (front h) (rest b.data.toList p.toNat)).toArray⟩, 0)
theorem mayBe_bd {p : Int} (h : mayBe p = true) : 128 ≤ p ∧ p ≤ 1024 := by
  unfold mayBe at h
  have := of_decide_eq_true h
  omega
theorem seal_arg {p : Int} (h : H) (b : ByteArray) (hp : mayBe p = false) : sea h b p = (⟨#[]⟩, 4) := by unfold sea; rw [if_pos hp]
theorem seal_form {h : H} {p : Int} (b : ByteArray) (hp : mayBe p = true) (hh : right h = false) : sea h b p = (⟨#[]⟩, 3) := by
  unfold sea; rw [if_neg (by rw [hp]; simp), if_pos hh]
theorem seal_big {h : H} {b : ByteArray} {p : Int} (hp : mayBe p = true) (hh : right h = true) (hb : p - 16 < (b.size : Int)) : sea h b p = (⟨#[]⟩, 8) := by
  unfold sea; rw [if_neg (by rw [hp]; simp), if_neg (by rw [hh]; simp), if_pos hb]
theorem seal_good {h : H} {b : ByteArray} {p : Int} (hp : mayBe p = true) (hh : right h = true) (hb : ¬ p - 16 < (b.size : Int)) : sea h b p = (⟨(page (front h) (rest b.data.toList p.toNat)).toArray⟩, 0) := by
  unfold sea; rw [if_neg (by rw [hp]; simp), if_neg (by rw [hh]; simp), if_neg hb]
theorem seal_cases (h : H) (b : ByteArray) (p : Int) :
    (sea h b p = (⟨#[]⟩, 4) ∨ sea h b p = (⟨#[]⟩, 3) ∨ sea h b p = (⟨#[]⟩, 8)) ∨
    (mayBe p = true ∧ Ok h ∧ (b.size : Int) + 16 ≤ p ∧ sea h b p = (⟨(page (front h) (rest b.data.toList p.toNat)).toArray⟩, 0)) := by
  cases hp : mayBe p with
  | false => exact .inl (.inl (seal_arg h b hp))
  | true =>
    cases hh : right h with
    | false => exact .inl (.inr (.inl (seal_form b hp hh)))
    | true =>
      by_cases hb : p - 16 < (b.size : Int)
      · exact .inl (.inr (.inr (seal_big hp hh hb)))
      · exact .inr ⟨rfl, right_iff.1 hh, by omega, seal_good hp hh hb⟩
def opn (s : ByteArray) : H × ByteArray × Int := if mayBe s.size = true ∧ good s.data.toList then (headOf s.data.toList, s.extract 16 s.size, 0) else (H0, ⟨#[]⟩, 3)
theorem opn_good {s : ByteArray} (h : mayBe s.size = true) (hg : good s.data.toList) : opn s = (headOf s.data.toList, s.extract 16 s.size, 0) := by unfold opn; rw [if_pos ⟨h, hg⟩]
theorem opn_bad {s : ByteArray} (h : ¬ (mayBe s.size = true ∧ good s.data.toList)) : opn s = (H0, ⟨#[]⟩, 3) := by unfold opn; rw [if_neg h]

/-! ## What was spoilt -/
/-- Pages that are the same are of the same head, and the same bytes. -/
theorem page_inj (g h : H) (a b : List UInt8) (hg : Ok g) (hh : Ok h) (e : page (front g) a = page (front h) b) : g = h ∧ a = b := by
  refine ⟨?_, ?_⟩
  · rw [← headOf_page g a hg, ← headOf_page h b hh, e]
  · rw [← page_drop (front g) a (front_length g), ← page_drop (front h) b (front_length h), e]
end Go.Proofs.YtnjmkljnjngpkaaDoor.L7.HP
