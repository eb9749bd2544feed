/-
  Plain mathematics of package chain: a page of a long value, and a value in parts.
-/
import Derived.Test.YtahkigabapdleaaDoorHTells
namespace Go.Proofs.YtahkigabapdleaaDoor.CP
open Go.Proofs.YtahkigabapdleaaDoor.L7
set_option linter.unusedSimpArgs false
set_option linter.unusedVariables false

def NumOk (F N : Int) : Prop := 1 ≤ F ∧ F ≤ 4095 ∧ 0 ≤ N ∧ N ≤ 4095 ∧ N ≠ F
instance (F N : Int) : Decidable (NumOk F N) := by unfold NumOk; infer_instance
def DataOk (N : Int) (z : Nat) (p : Int) : Prop := 1 ≤ z ∧ (z : Int) ≤ p - 16 ∧ (N = 0 ∨ (z : Int) = p - 16)
instance (N : Int) (z : Nat) (p : Int) : Decidable (DataOk N z p) := by unfold DataOk; infer_instance
/-- May a chain page with z bytes be, on pages of p bytes? -/
def May (F N : Int) (z : Nat) (p : Int) : Prop := mayBe p = true ∧ NumOk F N ∧ DataOk N z p
instance (F N : Int) (z : Nat) (p : Int) : Decidable (May F N z p) := by unfold May; infer_instance
theorem mayBe_le {p : Int} (h : mayBe p = true) : 128 ≤ p ∧ p ≤ 1024 := HP.mayBe_bd h

def hd (F N : Int) (D : ByteArray) : HP.H := ⟨4, 0, D.size, N, F⟩
def page (F N : Int) (D : ByteArray) (p : Nat) : List UInt8 := HP.page (HP.front (hd F N D)) (HP.rest D.data.toList p)
/-- Its page, or why there is none. -/
def enc (F N : Int) (D : ByteArray) (p : Int) : ByteArray × Int :=
  if mayBe p = false then (⟨#[]⟩, 4) else if ¬ May F N D.size p then (⟨#[]⟩, 3) else (⟨(page F N D p.toNat).toArray⟩, 0)
theorem enc_arg {F N : Int} {D : ByteArray} {p : Int} (h : mayBe p = false) : enc F N D p = (⟨#[]⟩, 4) := by unfold enc; rw [if_pos h]
theorem enc_form {F N : Int} {D : ByteArray} {p : Int} (h : mayBe p = true) (hm : ¬ May F N D.size p) : enc F N D p = (⟨#[]⟩, 3) := by unfold enc; rw [if_neg (by simp [h]), if_pos hm]
theorem enc_good {F N : Int} {D : ByteArray} {p : Int} (hm : May F N D.size p) : enc F N D p = (⟨(page F N D p.toNat).toArray⟩, 0) := by unfold enc; rw [if_neg (by simp [hm.1]), if_neg (by simpa using hm)]
theorem enc_cases (F N : Int) (D : ByteArray) (p : Int) : (mayBe p = false ∧ ¬ May F N D.size p ∧ enc F N D p = (⟨#[]⟩, 4)) ∨ (mayBe p = true ∧ ¬ May F N D.size p ∧ enc F N D p = (⟨#[]⟩, 3)) ∨ (mayBe p = true ∧ May F N D.size p ∧ enc F N D p = (⟨(page F N D p.toNat).toArray⟩, 0)) := by
  cases hp : mayBe p with
  | false => exact .inl ⟨rfl, fun h => by have := h.1; rw [hp] at this; exact absurd this (by simp), enc_arg hp⟩
  | true =>
    by_cases hm : May F N D.size p
    · exact .inr (.inr ⟨rfl, hm, enc_good hm⟩)
    · exact .inr (.inl ⟨rfl, hm, enc_form hp hm⟩)
theorem enc_ok {F N : Int} {D : ByteArray} {p : Int} {s : ByteArray} (h : enc F N D p = (s, 0)) : May F N D.size p ∧ s = ⟨(page F N D p.toNat).toArray⟩ := by
  rcases enc_cases F N D p with ⟨_, _, e⟩ | ⟨_, _, e⟩ | ⟨_, h1, e⟩
  · rw [e] at h; simp at h
  · rw [e] at h; simp at h
  · rw [e] at h
    exact ⟨h1, (congrArg Prod.fst h).symm⟩
theorem hd_ok {F N : Int} {D : ByteArray} {p : Int} (hm : May F N D.size p) : HP.Ok (hd F N D) := by
  obtain ⟨h1, ⟨h2, h3, h4, h5, h6⟩, h7, h8, h9⟩ := hm
  have := mayBe_le h1
  unfold HP.Ok hd
  simp only
  omega
theorem seal_ok {F N : Int} {D : ByteArray} {p : Int} (hm : May F N D.size p) : HP.sea (hd F N D) D p = (⟨(page F N D p.toNat).toArray⟩, 0) :=
  HP.seal_good hm.1 (HP.right_iff.2 (hd_ok hm)) (by have := hm.2.2.2.1; omega)
theorem page_length {F N : Int} {D : ByteArray} {p : Int} (hm : May F N D.size p) : (page F N D p.toNat).length = p.toNat := by
  have := mayBe_le hm.1
  exact page_size _ _ _ (by have := hm.2.2.2.1; omega)
theorem enc_size {F N : Int} {D : ByteArray} {p : Int} {s : ByteArray} (h : enc F N D p = (s, 0)) : (s.size : Int) = p := by
  obtain ⟨hm, rfl⟩ := enc_ok h
  have := mayBe_le hm.1
  rw [L7.sizeOf, page_length hm]
  omega
theorem page_open {F N : Int} {D : ByteArray} {p : Int} (hm : May F N D.size p) : HP.opn ⟨(page F N D p.toNat).toArray⟩ = (hd F N D, ⟨(HP.rest D.data.toList p.toNat).toArray⟩, 0) := by
  have hp := mayBe_le hm.1
  obtain ⟨q, rfl⟩ : ∃ q : Nat, p = q := Int.eq_ofNat_of_zero_le (by omega)
  exact page_opened hm.1 (hd_ok hm) (by have := hm.2.2.2.1; omega)

/-- The chain page whose page s is, by what stands there. -/
def dec (s : ByteArray) : Option (Int × Int × ByteArray) :=
  if (HP.opn s).2.2 = 0 ∧ (HP.opn s).1.c ≤ ((HP.opn s).2.1.size : Int) then
    if enc (HP.opn s).1.s (HP.opn s).1.r ((HP.opn s).2.1.extract 0 (HP.opn s).1.c.toNat) s.size = (s, 0) then some ((HP.opn s).1.s, (HP.opn s).1.r, (HP.opn s).2.1.extract 0 (HP.opn s).1.c.toNat) else none
  else none
theorem rest_extract (D : ByteArray) (p : Nat) (h : D.size + 16 ≤ p) : (⟨(HP.rest D.data.toList p).toArray⟩ : ByteArray).extract 0 D.size = D := by
  apply ByteArray.ext
  apply Array.toList_inj.1
  rw [Lib.extract_data, toBytes]
  unfold HP.rest
  rw [List.drop_zero, Nat.sub_zero]
  have : D.data.toList.length = D.size := by simp
  rw [← this, List.take_left]
theorem dec_iff (s : ByteArray) (F N : Int) (D : ByteArray) : dec s = some (F, N, D) ↔ enc F N D s.size = (s, 0) := by
  constructor
  · intro h
    unfold dec at h
    split at h
    · split at h
      · rename_i h2
        simp only [Option.some.injEq, Prod.mk.injEq] at h
        obtain ⟨e1, e2, e3⟩ := h
        rw [e1, e2, e3] at h2
        exact h2
      · exact nomatch h
    · exact nomatch h
  · intro h
    obtain ⟨hm, hs⟩ := enc_ok h
    have ho := page_open hm
    rw [← hs] at ho
    have hp := mayBe_le hm.1
    have hd3 : DataOk N D.size s.size := hm.2.2
    have hx : (⟨(HP.rest D.data.toList (s.size : Int).toNat).toArray⟩ : ByteArray).extract 0 (hd F N D).c.toNat = D := by
      show (⟨(HP.rest D.data.toList (s.size : Int).toNat).toArray⟩ : ByteArray).extract 0 D.size = D
      exact rest_extract D _ (by have := hd3.2.1; omega)
    have hz : (⟨(HP.rest D.data.toList (s.size : Int).toNat).toArray⟩ : ByteArray).size = s.size - 16 := by
      rw [L7.sizeOf, HP.rest_length _ _ (by have := hd3.2.1; simp; omega)]
      omega
    unfold dec
    rw [ho]
    simp only [hx, hz]
    have hc : (hd F N D).c = (D.size : Int) := rfl
    rw [if_pos ⟨trivial, by rw [hc]; have := hd3.2.1; omega⟩]
    show (if enc F N D s.size = (s, 0) then some (F, N, D) else none) = _
    rw [if_pos h]
/-- What is no chain page's by its kind is none. -/
theorem dec_kind {s : ByteArray} (h : (HP.opn s).1.k ≠ 4) : dec s = none := by
  cases hx : dec s with
  | none => rfl
  | some x =>
    obtain ⟨F, N, D⟩ := x
    obtain ⟨hm, hs⟩ := enc_ok ((dec_iff s F N D).1 hx)
    have ho := page_open hm
    rw [← hs] at ho
    rw [ho] at h
    exact absurd rfl h
theorem dec_bad {s : ByteArray} (h : ¬ ((HP.opn s).2.2 = 0 ∧ (HP.opn s).1.c ≤ ((HP.opn s).2.1.size : Int))) : dec s = none := by unfold dec; rw [if_neg h]
theorem dec_yes {s : ByteArray} (h : (HP.opn s).2.2 = 0 ∧ (HP.opn s).1.c ≤ ((HP.opn s).2.1.size : Int)) (he : enc (HP.opn s).1.s (HP.opn s).1.r ((HP.opn s).2.1.extract 0 (HP.opn s).1.c.toNat) s.size = (s, 0)) : dec s = some ((HP.opn s).1.s, (HP.opn s).1.r, (HP.opn s).2.1.extract 0 (HP.opn s).1.c.toNat) := by unfold dec; rw [if_pos h, if_pos he]
theorem dec_no {s : ByteArray} (h : (HP.opn s).2.2 = 0 ∧ (HP.opn s).1.c ≤ ((HP.opn s).2.1.size : Int)) (he : ¬ enc (HP.opn s).1.s (HP.opn s).1.r ((HP.opn s).2.1.extract 0 (HP.opn s).1.c.toNat) s.size = (s, 0)) : dec s = none := by unfold dec; rw [if_pos h, if_neg he]
theorem dec_facts {s : ByteArray} {F N : Int} {D : ByteArray} (h : dec s = some (F, N, D)) : enc F N D s.size = (s, 0) ∧ May F N D.size s.size ∧ D.size ≤ 1008 ∧ s.size ≤ 1024 := by
  have he := (dec_iff s F N D).1 h
  obtain ⟨hm, _⟩ := enc_ok he
  have hp := mayBe_le hm.1
  have := hm.2.2.2.1
  exact ⟨he, hm, by omega, by omega⟩
theorem enc_facts {F N : Int} {D : ByteArray} {p : Int} {s : ByteArray} (h : enc F N D p = (s, 0)) : May F N D.size p ∧ (s.size : Int) = p ∧ dec s = some (F, N, D) := by
  obtain ⟨hm, _⟩ := enc_ok h
  have hs := enc_size h
  exact ⟨hm, hs, (dec_iff s F N D).2 (by rw [hs]; exact h)⟩

/-! ## Parts -/
def pages (n r : Nat) : Nat := if n = 0 then 0 else (n - 1) / r + 1
def part (v : ByteArray) (r i : Nat) : ByteArray := v.extract (i * r) (min (i * r + r) v.size)
def cuts (v : ByteArray) (r : Nat) : List ByteArray := (List.range (pages v.size r)).map (part v r)
theorem pages_lt {n r i : Nat} (hr : 0 < r) : i < pages n r ↔ i * r < n := by
  unfold pages
  by_cases h : n = 0
  · simp [h]
  · rw [if_neg h, Nat.lt_succ_iff, Nat.le_div_iff_mul_le hr]
    omega
theorem pages_le {n r : Nat} (hr : 0 < r) : n ≤ pages n r * r := by
  exact Nat.le_of_not_lt fun h => Nat.lt_irrefl _ ((pages_lt (n := n) (i := pages n r) hr).2 h)
theorem pages_few {n r : Nat} (hr : 0 < r) : pages n r ≤ n := by
  exact Nat.le_of_not_lt fun h => by
    have h1 := (pages_lt (n := n) (i := n) hr).1 h
    have := Nat.le_mul_of_pos_right n hr
    omega
theorem cuts_length (v : ByteArray) (r : Nat) : (cuts v r).length = pages v.size r := by simp [cuts]
theorem cuts_get {v : ByteArray} {r i : Nat} (h : i < pages v.size r) : (cuts v r)[i]? = some (part v r i) := by simp [cuts, h]
theorem part_size (v : ByteArray) (r i : Nat) : (part v r i).size = min (i * r + r) v.size - i * r := by unfold part; rw [ByteArray.size_extract]; omega
theorem part_le (v : ByteArray) (r i : Nat) : (part v r i).size ≤ r := by rw [part_size]; omega
theorem cuts_size {v : ByteArray} {r : Nat} : ∀ s ∈ cuts v r, s.size ≤ r := fun s h => by
  obtain ⟨i, _, rfl⟩ := List.mem_map.1 h
  exact part_le v r i
theorem part_pos {v : ByteArray} {r i : Nat} (hr : 0 < r) (h : i < pages v.size r) : 1 ≤ (part v r i).size := by
  have := (pages_lt hr).1 h
  rw [part_size]
  omega
theorem part_full {v : ByteArray} {r i : Nat} (hr : 0 < r) (h : i + 1 < pages v.size r) : (part v r i).size = r := by
  have := (pages_lt hr).1 h
  rw [Nat.succ_mul] at this
  rw [part_size]
  omega
/-- What the first parts are, one behind the other. -/
def upto (v : ByteArray) (r i : Nat) : ByteArray := v.extract 0 (min (i * r) v.size)
theorem upto_size (v : ByteArray) (r i : Nat) : (upto v r i).size = min (i * r) v.size := by unfold upto; rw [ByteArray.size_extract]; omega
theorem upto_zero (v : ByteArray) (r : Nat) : upto v r 0 = ⟨#[]⟩ := by
  unfold upto
  apply ByteArray.ext
  apply Array.toList_inj.1
  rw [Lib.extract_data]
  simp
theorem upto_next {v : ByteArray} {r i : Nat} (hr : 0 < r) (h : i < pages v.size r) : upto v r i ++ part v r i = upto v r (i + 1) := by
  have hl := (pages_lt hr).1 h
  unfold upto part
  rw [Nat.succ_mul, show min (i * r) v.size = i * r by omega]
  apply ByteArray.ext
  apply Array.toList_inj.1
  have e : ∀ a b : ByteArray, (a ++ b).data.toList = a.data.toList ++ b.data.toList := fun a b => by simp
  rw [e, Lib.extract_data, Lib.extract_data, Lib.extract_data, List.drop_zero, Nat.sub_zero, Nat.sub_zero]
  have hm : min (i * r + r) v.size = i * r + (min (i * r + r) v.size - i * r) := by omega
  rw [show List.take (min (i * r + r) v.size) v.data.toList = List.take (i * r + (min (i * r + r) v.size - i * r)) v.data.toList by rw [← hm], List.take_add]
theorem upto_all {v : ByteArray} {r : Nat} (hr : 0 < r) : upto v r (pages v.size r) = v := by
  have h := pages_le (n := v.size) hr
  unfold upto
  rw [Nat.min_eq_right h]
  apply ByteArray.ext
  apply Array.toList_inj.1
  rw [Lib.extract_data, List.drop_zero, Nat.sub_zero]
  exact List.take_of_length_le (by simp)
/-- How many parts a value of n bytes has. -/
def pagesI (n : Int) (r : Nat) : Int := if n < 1 then 0 else (n - 1) / (r : Int) + 1
theorem pagesI_nat (n r : Nat) : pagesI n r = (pages n r : Nat) := by
  unfold pagesI pages
  by_cases h : n = 0
  · subst h; simp
  · rw [if_neg (by omega), if_neg h]
    have : ((n : Int) - 1) = ((n - 1 : Nat) : Int) := by omega
    rw [this]
    push_cast
    rfl
end Go.Proofs.YtahkigabapdleaaDoor.CP
