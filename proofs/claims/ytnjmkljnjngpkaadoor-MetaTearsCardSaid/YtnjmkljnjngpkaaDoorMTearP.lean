/-
  Plain mathematics of a page that is torn.
-/
import Derived.Test.YtnjmkljnjngpkaaDoorMPlain
namespace Go.Proofs.YtnjmkljnjngpkaaDoor.MP
open Go.Proofs.YtnjmkljnjngpkaaDoor.L7
set_option linter.unusedSimpArgs false
set_option linter.unusedVariables false

theorem tl_get {A B : List UInt8} {u : Nat} (hu : u ≤ A.length) (j : Nat) : (A.take u ++ B.drop u)[j]? = if j < u then A[j]? else B[j]? := by
  rw [List.getElem?_append, List.length_take, Nat.min_eq_left hu, List.getElem?_take, List.getElem?_drop]
  split
  · rfl
  · rw [show u + (j - u) = j by omega]
theorem listLen (a : ByteArray) : a.data.toList.length = a.size := by simp
theorem upTo_le (n : Nat) (i : Int) : upTo n i ≤ n := by unfold upTo; omega
theorem tear_get {a b : ByteArray} {i : Int} (h : a.size = b.size) (j : Nat) : (tear a b i).data.toList[j]? = if j < upTo b.size i then a.data.toList[j]? else b.data.toList[j]? := by
  rw [tear_same h, tl_get (by have := upTo_le b.size i; rw [listLen]; omega)]
theorem ba_ext {a b : ByteArray} (h : ∀ j : Nat, a.data.toList[j]? = b.data.toList[j]?) : a = b := by
  apply ByteArray.ext
  apply Array.toList_inj.1
  exact List.ext_getElem? h
theorem tear_twice {a b : ByteArray} {i j : Int} (h : a.size = b.size) : tear (tear a b i) b j = tear a b (min i j) := by
  apply ba_ext
  intro k
  rw [tear_get (tear_size h), tear_get h, tear_get h]
  unfold upTo
  split <;> split <;> first | rfl | (split <;> first | rfl | (exfalso; omega)) | (exfalso; omega)
theorem tear_self (a : ByteArray) (i : Int) : tear a a i = a := by
  apply ba_ext
  intro k
  rw [tear_get rfl]
  split <;> rfl
theorem tear_on {a b : ByteArray} {i : Int} (h : a.size = b.size) : tear a (tear a b i) i = tear a b i := by
  apply ba_ext
  intro k
  rw [tear_get (h.trans (tear_size h).symm), tear_size h, tear_get h]
  split <;> rfl
theorem tear_unlike {a b : ByteArray} {i : Int} (h : a.size ≠ b.size) : tear a b i = ⟨#[]⟩ := by unfold tear; rw [if_neg h]
theorem tear_none {a b : ByteArray} {i : Int} (h : a.size = b.size) (hi : i ≤ 0) : tear a b i = b := by
  apply ba_ext
  intro k
  rw [tear_get h]
  unfold upTo
  rw [if_neg (by omega)]
/-- What is torn over a page that ends otherwise is none. -/
theorem torn_none {m : Mt} {s b : ByteArray} {i : Int} {c : UInt8} (h : enc m = (s, 0)) (hb : b.size = s.size) (hl : b.data.toList.getLast? = some c) (hc : c ≠ 87) (hi : i < s.size) : dec (tear s b i) = none := by
  cases hd : dec (tear s b i) with
  | none => rfl
  | some x =>
    have h1 := enc_last ((dec_iff _ _).1 hd)
    have hp := enc_size h
    have hm := mayBe_le (enc_ok h).1.1
    rw [tear_last hb.symm (by omega) (by omega), hl] at h1
    exact absurd (Option.some.inj h1) hc
theorem torn_whole {m : Mt} {s b : ByteArray} {i : Int} (h : enc m = (s, 0)) (hb : b.size = s.size) (hi : (s.size : Int) ≤ i) : dec (tear s b i) = some m := by
  rw [tear_all hb.symm (by omega)]
  exact (dec_iff _ _).2 h
def rep (c : UInt8) (n : Nat) : ByteArray := ⟨(List.replicate n c).toArray⟩
theorem rep_size (c : UInt8) (n : Nat) : (rep c n).size = n := by
  show (List.replicate n c).toArray.size = n
  rw [List.size_toArray, List.length_replicate]
theorem rep_last (c : UInt8) (n : Nat) (hn : 0 < n) : (rep c n).data.toList.getLast? = some c := by
  show (List.replicate n c).getLast? = some c
  rw [List.getLast?_replicate, if_neg (by omega)]
theorem zeros_none (n : Nat) : dec (rep 0 n) = none := by
  cases h : dec (rep 0 n) with
  | none => rfl
  | some x =>
    have h1 := (dec_iff _ _).1 h
    have hp := enc_size h1
    have hm := mayBe_le (enc_ok h1).1.1
    rw [rep_size] at hp
    have h2 := enc_last h1
    rw [rep_last 0 n (by omega)] at h2
    cases h2
end Go.Proofs.YtnjmkljnjngpkaaDoor.MP
