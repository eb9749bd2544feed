/-
  Plain mathematics of package meta: what a file's first page tells, and a page that is torn.
-/
import Derived.Test.YtnjmkljnjngpkaaDoorHCut
namespace Go.Proofs.YtnjmkljnjngpkaaDoor.MP
open Go.Proofs.YtnjmkljnjngpkaaDoor.L7
set_option linter.unusedSimpArgs false
set_option linter.unusedVariables false

/-- A meta. -/
structure Mt where
  p : Int
  pg : Int
  r : Int
  l : Int
  n : Int
def Mt0 : Mt := ⟨0, 0, 0, 0, 0⟩
def May (m : Mt) : Prop := mayBe m.p = true ∧ 2 ≤ m.pg ∧ m.pg ≤ 4096 ∧ 1 ≤ m.r ∧ m.r < m.pg ∧ 0 ≤ m.l ∧ m.l ≤ 255 ∧ 0 ≤ m.n ∧ m.n ≤ 2147483647
instance (m : Mt) : Decidable (May m) := by unfold May; infer_instance
theorem mayBe_le {p : Int} (h : mayBe p = true) : 128 ≤ p ∧ p ≤ 1024 := HP.mayBe_bd h
def hd (m : Mt) : HP.H := ⟨1, m.l, 0, m.r, 0⟩
/-- What stands ahead of the bytes 0. -/
def front (m : Mt) : List UInt8 := [119, 105, 116, 104, 121] ++ Lib.leBytes 4 m.p.toNat ++ Lib.leBytes 4 m.pg.toNat ++ Lib.leBytes 4 m.n.toNat
def body (m : Mt) : List UInt8 := front m ++ List.replicate (m.p.toNat - 34) 0 ++ [87]
def page (m : Mt) : List UInt8 := HP.page (HP.front (hd m)) (body m)
theorem front_length (m : Mt) : (front m).length = 17 := by simp [front, Lib.leBytes_length]
theorem body_length (m : Mt) (h : 34 ≤ m.p) : (body m).length = m.p.toNat - 16 := by
  unfold body
  rw [List.length_append, List.length_append, front_length, List.length_replicate, List.length_singleton]
  omega
theorem hd_ok {m : Mt} (h : May m) : HP.Ok (hd m) := by
  obtain ⟨h1, h2, h3, h4, h5, h6, h7, h8, h9⟩ := h
  unfold HP.Ok hd
  simp only
  omega
theorem page_length {m : Mt} (h : May m) : (page m).length = m.p.toNat := by
  have := mayBe_le h.1
  unfold page
  rw [HP.page_length, HP.front_length, body_length m (by omega)]
  omega
/-- Its page, or why there is none. -/
def enc (m : Mt) : ByteArray × Int := if May m then (⟨(page m).toArray⟩, 0) else (⟨#[]⟩, 3)
theorem enc_good {m : Mt} (h : May m) : enc m = (⟨(page m).toArray⟩, 0) := by unfold enc; rw [if_pos h]
theorem enc_form {m : Mt} (h : ¬ May m) : enc m = (⟨#[]⟩, 3) := by unfold enc; rw [if_neg h]
theorem enc_ok {m : Mt} {s : ByteArray} (h : enc m = (s, 0)) : May m ∧ s = ⟨(page m).toArray⟩ := by
  by_cases hm : May m
  · rw [enc_good hm] at h
    exact ⟨hm, (congrArg Prod.fst h).symm⟩
  · rw [enc_form hm] at h
    simp at h
theorem enc_size {m : Mt} {s : ByteArray} (h : enc m = (s, 0)) : (s.size : Int) = m.p := by
  obtain ⟨hm, rfl⟩ := enc_ok h
  have := mayBe_le hm.1
  rw [L7.sizeOf, page_length hm]
  omega
theorem body_size {m : Mt} (h : May m) : (⟨(body m).toArray⟩ : ByteArray).size + 16 = m.p.toNat := by
  have := mayBe_le h.1
  rw [L7.sizeOf, body_length m (by omega)]
  omega
theorem seal_ok {m : Mt} (h : May m) : HP.sea (hd m) ⟨(body m).toArray⟩ m.p = (⟨(page m).toArray⟩, 0) := by
  have hp := mayBe_le h.1
  have hb := body_size h
  rw [HP.seal_good h.1 (HP.right_iff.2 (hd_ok h)) (by omega), rest_full _ _ hb]
  rfl
theorem page_open {m : Mt} (h : May m) : HP.opn ⟨(page m).toArray⟩ = (hd m, ⟨(body m).toArray⟩, 0) := by
  have hp := mayBe_le h.1
  have hb := body_size h
  have e := page_opened (h := hd m) (b := ⟨(body m).toArray⟩) (p := m.p.toNat) (by rw [Int.toNat_of_nonneg (by omega)]; exact h.1) (hd_ok h) (by omega)
  rw [rest_full _ _ hb] at e
  exact e

/-- The number at a place. -/
def num (b : ByteArray) (i : Nat) : Int := (Lib.leNat ((b.data.toList.drop i).take 4) : Nat)
/-- What stands on a page, as far as it can be read. -/
def told (h : HP.H) (b : ByteArray) : Mt := ⟨num b 5, num b 9, h.r, h.l, num b 13⟩
theorem drop_app {x y : List UInt8} {i : Nat} (h : x.length = i) : (x ++ y).drop i = y := by rw [← h, List.drop_left]
theorem take_app {x y : List UInt8} {i : Nat} (h : x.length = i) : (x ++ y).take i = x := by rw [← h, List.take_left]
theorem told_body {m : Mt} (h : May m) : told (hd m) ⟨(body m).toArray⟩ = m := by
  obtain ⟨p, pg, r, l, n⟩ := m
  obtain ⟨h1, h2, h3, h4, h5, h6, h7, h8, h9⟩ := h
  have hp := mayBe_le h1
  simp only at h1 h2 h3 h4 h5 h6 h7 h8 h9 hp
  have b5 : (body ⟨p, pg, r, l, n⟩).drop 5 = Lib.leBytes 4 p.toNat ++ (Lib.leBytes 4 pg.toNat ++ (Lib.leBytes 4 n.toNat ++ (List.replicate (p.toNat - 34) 0 ++ [87]))) := by
    simp [body, front]
  have b9 : (body ⟨p, pg, r, l, n⟩).drop 9 = Lib.leBytes 4 pg.toNat ++ (Lib.leBytes 4 n.toNat ++ (List.replicate (p.toNat - 34) 0 ++ [87])) := by
    rw [show (9 : Nat) = 5 + 4 from rfl, ← List.drop_drop, b5, drop_app (Lib.leBytes_length 4 _)]
  have b13 : (body ⟨p, pg, r, l, n⟩).drop 13 = Lib.leBytes 4 n.toNat ++ (List.replicate (p.toNat - 34) 0 ++ [87]) := by
    rw [show (13 : Nat) = 9 + 4 from rfl, ← List.drop_drop, b9, drop_app (Lib.leBytes_length 4 _)]
  unfold told num
  rw [L7.toBytes, b5, b9, b13, take_app (Lib.leBytes_length 4 _), take_app (Lib.leBytes_length 4 _), take_app (Lib.leBytes_length 4 _), HP.le4_back _ (by omega), HP.le4_back _ (by omega), HP.le4_back _ (by omega)]
  simp only [hd, Mt.mk.injEq]
  exact ⟨by omega, by omega, trivial, trivial, by omega⟩
def dec (s : ByteArray) : Option Mt :=
  if (HP.opn s).2.2 = 0 then
    if enc (told (HP.opn s).1 (HP.opn s).2.1) = (s, 0) then some (told (HP.opn s).1 (HP.opn s).2.1) else none
  else none
theorem dec_iff (s : ByteArray) (m : Mt) : dec s = some m ↔ enc m = (s, 0) := by
  constructor
  · intro h
    unfold dec at h
    split at h
    · split at h
      · rename_i h2
        rw [Option.some.injEq] at h
        rw [h] at h2
        exact h2
      · exact nomatch h
    · exact nomatch h
  · intro h
    obtain ⟨hm, hs⟩ := enc_ok h
    have ho := page_open hm
    rw [← hs] at ho
    unfold dec
    rw [ho]
    simp only [told_body hm]
    rw [if_pos trivial, if_pos h]
theorem dec_bad {s : ByteArray} (h : (HP.opn s).2.2 ≠ 0) : dec s = none := by unfold dec; rw [if_neg h]
theorem dec_yes {s : ByteArray} (h : (HP.opn s).2.2 = 0) (he : enc (told (HP.opn s).1 (HP.opn s).2.1) = (s, 0)) : dec s = some (told (HP.opn s).1 (HP.opn s).2.1) := by unfold dec; rw [if_pos h, if_pos he]
theorem dec_no {s : ByteArray} (h : (HP.opn s).2.2 = 0) (he : enc (told (HP.opn s).1 (HP.opn s).2.1) ≠ (s, 0)) : dec s = none := by unfold dec; rw [if_pos h, if_neg he]
theorem enc_facts {m : Mt} {s : ByteArray} (h : enc m = (s, 0)) : May m ∧ (s.size : Int) = m.p ∧ dec s = some m := ⟨(enc_ok h).1, enc_size h, (dec_iff s m).2 h⟩
/-- Metas that have the same page are the same. -/
theorem enc_inj {m n : Mt} {s : ByteArray} (h : enc m = (s, 0)) (k : enc n = (s, 0)) : m = n := by
  have h1 := (dec_iff s m).2 h
  rw [(dec_iff s n).2 k] at h1
  exact (Option.some.inj h1).symm
/-- A page ends with W. -/
theorem enc_last {m : Mt} {s : ByteArray} (h : enc m = (s, 0)) : s.data.toList.getLast? = some 87 := by
  obtain ⟨_, rfl⟩ := enc_ok h
  rw [L7.toBytes]
  unfold page HP.page body
  simp

/-! ## Tear -/
/-- How many bytes of the first one. -/
def upTo (n : Nat) (at' : Int) : Nat := min n at'.toNat
def tear (a b : ByteArray) (at' : Int) : ByteArray := if a.size = b.size then ⟨(a.data.toList.take (upTo b.size at') ++ b.data.toList.drop (upTo b.size at')).toArray⟩ else ⟨#[]⟩
theorem tear_same {a b : ByteArray} {at' : Int} (h : a.size = b.size) : (tear a b at').data.toList = a.data.toList.take (upTo b.size at') ++ b.data.toList.drop (upTo b.size at') := by unfold tear; rw [if_pos h]
theorem tear_size {a b : ByteArray} {at' : Int} (h : a.size = b.size) : (tear a b at').size = b.size := by
  have ha : a.data.toList.length = a.size := by simp
  have hb : b.data.toList.length = b.size := by simp
  have e : (tear a b at').size = (tear a b at').data.toList.length := by simp
  rw [e, tear_same h, List.length_append, List.length_take, List.length_drop, ha, hb]
  unfold upTo
  omega
theorem tear_all {a b : ByteArray} {at' : Int} (h : a.size = b.size) (hk : (b.size : Int) ≤ at') : tear a b at' = a := by
  have ha : a.data.toList.length = a.size := by simp
  have hb : b.data.toList.length = b.size := by simp
  apply ByteArray.ext
  apply Array.toList_inj.1
  rw [tear_same h]
  unfold upTo
  rw [show min b.size at'.toNat = b.size by omega, List.take_of_length_le (by omega), List.drop_of_length_le (by omega), List.append_nil]
/-- What is not whole ends as the other one does. -/
theorem tear_last {a b : ByteArray} {at' : Int} (h : a.size = b.size) (hk : at' < b.size) (h0 : 0 < b.size) : (tear a b at').data.toList.getLast? = b.data.toList.getLast? := by
  have hb : b.data.toList.length = b.size := by simp
  rw [tear_same h]
  have hne : (b.data.toList.drop (upTo b.size at')) ≠ [] := by
    intro e
    have := congrArg List.length e
    rw [List.length_drop, hb] at this
    unfold upTo at this
    simp at this
    omega
  rw [List.getLast?_append, List.getLast?_drop, if_neg (by rw [hb]; unfold upTo; omega)]
  cases hl : b.data.toList.getLast? with
  | some x => rfl
  | none =>
    rw [List.getLast?_eq_none_iff] at hl
    rw [hl] at hb
    simp at hb
    omega
end Go.Proofs.YtnjmkljnjngpkaaDoor.MP
