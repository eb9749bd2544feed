/-
  Plain facts about keys as bytes; nothing of the program.
-/
import Derived.Test.YtdcijbclafpkmaaDoorCText
namespace Go.Proofs.YtdcijbclafpkmaaDoor
open Go.RowKit

namespace KP
open CP (Col Ok Right none_)
open WP (Parts)

/-- All may be. -/
def All (l : List Col) : Prop := ∀ c ∈ l, Ok c ∧ Right c
theorem All.nil : All [] := fun c h => by simp at h
theorem All.cons {c : Col} {l : List Col} (h : Ok c) (r : Right c) (k : All l) : All (c :: l) := fun d hd => by
  rcases List.mem_cons.1 hd with e | e
  · subst e; exact ⟨h, r⟩
  · exact k d e
theorem All.head {c : Col} {l : List Col} (h : All (c :: l)) : Ok c ∧ Right c := h c (by simp)
theorem All.tail {c : Col} {l : List Col} (h : All (c :: l)) : All l := fun d hd => h d (by simp [hd])
theorem All.take {l : List Col} (h : All l) (k : Nat) : All (l.take k) := fun d hd => h d (List.mem_of_mem_take hd)
theorem All.left {l m : List Col} (h : All (l ++ m)) : All l := fun d hd => h d (by simp [hd])
theorem All.right {l m : List Col} (h : All (l ++ m)) : All m := fun d hd => h d (by simp [hd])
theorem All.append {l m : List Col} (h : All l) (k : All m) : All (l ++ m) := fun d hd => by
  rcases List.mem_append.1 hd with e | e
  · exact h d e
  · exact k d e

/-- The columns' bytes, one behind the other. -/
def body : List Col → List UInt8
  | [] => []
  | c :: l => CP.put c ++ body l
theorem body_append : ∀ (l m : List Col), body (l ++ m) = body l ++ body m
  | [], m => rfl
  | c :: l, m => by rw [List.cons_append, body, body, body_append l m, List.append_assoc]
theorem body_snoc (l : List Col) (c : Col) : body (l ++ [c]) = body l ++ CP.put c := by rw [body_append]; simp [body]
/-- The key's bytes. -/
def key (l : List Col) : List UInt8 := body l ++ [1]

theorem first {c : Col} (ho : Ok c) (h : Right c) : ∃ b r, CP.put c = b :: r ∧ b ≠ 1 ∧ (1 : UInt8) < b := by
  obtain ⟨b, r, e, h1⟩ := CP.put_head ho h
  have := h.kind
  refine ⟨b, r, e, ?_, ?_⟩
  · intro e1; subst e1; simp at h1; omega
  · rw [UInt8.lt_iff_toNat_lt]; show 1 < b.toNat; omega

/-- The key whose columns stand from a place on, or what is wrong; so many columns are looked at. -/
def kget (s : List UInt8) : Nat → Nat → List Col × Nat
  | 0, _ => ([], 7)
  | f + 1, i =>
    match s.drop i with
    | [] => ([], 7)
    | b :: r => if b = 1 then (if r = [] then ([], 0) else ([], 3)) else
      if (CP.get s i).2.2 ≠ 0 then ([], (CP.get s i).2.2) else
      if (kget s f (CP.get s i).2.1).2 ≠ 0 then ([], (kget s f (CP.get s i).2.1).2) else ((CP.get s i).1 :: (kget s f (CP.get s i).2.1).1, 0)
/-- The key of bytes. -/
def get (s : List UInt8) : List Col × Nat := kget s (s.length + 1) 0

theorem kget_end {s : List UInt8} {i : Nat} (f : Nat) (h : s.drop i = []) : kget s f i = ([], 7) := by
  cases f with
  | zero => rfl
  | succ f => unfold kget; rw [h]
theorem kget_one {s : List UInt8} {i f : Nat} {r : List UInt8} (h : s.drop i = 1 :: r) (hf : 0 < f) : kget s f i = if r = [] then ([], 0) else ([], 3) := by
  cases f with
  | zero => omega
  | succ f => unfold kget; rw [h]; simp
theorem kget_err {s : List UInt8} {i f : Nat} {b : UInt8} {r : List UInt8} {e : Nat} (h : s.drop i = b :: r) (hb : b ≠ 1) (hf : 0 < f) (he : e ≠ 0) (hg : CP.get s i = none_ e) : kget s f i = ([], e) := by
  cases f with
  | zero => omega
  | succ f => unfold kget; rw [h, hg]; simp [hb, none_, he]
theorem kget_go {s : List UInt8} {i f : Nat} {b : UInt8} {r : List UInt8} {c : Col} {to : Nat} (h : s.drop i = b :: r) (hb : b ≠ 1) (hg : CP.get s i = (c, to, 0)) :
    kget s (f + 1) i = if (kget s f to).2 ≠ 0 then ([], (kget s f to).2) else (c :: (kget s f to).1, 0) := by
  rw [kget, h, hg]; simp [hb]
/-- More looks make no difference. -/
theorem kget_fuel (s : List UInt8) : ∀ (f g i : Nat), s.length < i + f → s.length < i + g → kget s f i = kget s g i := by
  intro f
  induction f with
  | zero =>
    intro g i h1 h2
    rw [kget_end 0 (List.drop_eq_nil_of_le (by omega)), kget_end g (List.drop_eq_nil_of_le (by omega))]
  | succ f ih =>
    intro g i h1 h2
    cases hd : s.drop i with
    | nil => rw [kget_end _ hd, kget_end _ hd]
    | cons b r =>
      have hi : i < s.length := by
        rcases Nat.lt_or_ge i s.length with h | h
        · exact h
        · rw [List.drop_eq_nil_of_le h] at hd; simp at hd
      obtain ⟨g, rfl⟩ : ∃ g', g = g' + 1 := by
        cases g with
        | zero => omega
        | succ g => exact ⟨g, rfl⟩
      by_cases hb : b = 1
      · subst hb; rw [kget_one hd (by omega), kget_one hd (by omega)]
      · rcases CP.get_spec s i with h | h | ⟨c, to, h, _, _, hto, _⟩
        · rw [kget_err hd hb (by omega) (by omega) h, kget_err hd hb (by omega) (by omega) h]
        · rw [kget_err hd hb (by omega) (by omega) h, kget_err hd hb (by omega) (by omega) h]
        · rw [kget_go hd hb h, kget_go hd hb h, ih g to (by omega) (by omega)]
/-- What was read ahead, and the rest. -/
def glue (l : List Col) (r : List Col × Nat) : List Col × Nat := if r.2 ≠ 0 then ([], r.2) else (l ++ r.1, 0)
theorem glue_nil {r : List Col × Nat} (h : r.2 ≠ 0 → r.1 = []) : glue [] r = r := by
  unfold glue
  obtain ⟨l, e⟩ := r
  by_cases he : e ≠ 0
  · rw [if_pos he]; have := h he; simp only at this ⊢; rw [this]
  · simp only at he ⊢; rw [if_neg he]; simp; omega
theorem glue_cons (c : Col) (l : List Col) (r : List Col × Nat) : glue (c :: l) r = if (glue l r).2 ≠ 0 then ([], (glue l r).2) else (c :: (glue l r).1, 0) := by
  unfold glue
  by_cases he : r.2 ≠ 0
  · simp [he]
  · simp [he]
theorem glue_glue (l m : List Col) (r : List Col × Nat) : glue l (glue m r) = glue (l ++ m) r := by
  unfold glue
  by_cases he : r.2 ≠ 0
  · simp [he]
  · simp [he]
theorem kget_no (s : List UInt8) (f i : Nat) : (kget s f i).2 ≠ 0 → (kget s f i).1 = [] := by
  intro h
  cases f with
  | zero => rfl
  | succ f =>
    cases hd : s.drop i with
    | nil => rw [kget_end _ hd]
    | cons b r =>
      by_cases hb : b = 1
      · subst hb; rw [kget_one hd (by omega)]; split <;> rfl
      · rcases CP.get_spec s i with k | k | ⟨c, to, k, _⟩
        · rw [kget_err hd hb (by omega) (by omega) k]
        · rw [kget_err hd hb (by omega) (by omega) k]
        · rw [kget_go hd hb k] at h ⊢
          split
          · rfl
          · next h2 => rw [if_neg h2] at h; simp at h
/-- Behind columns that may be the rest is looked at. -/
theorem kget_body : ∀ (l : List Col) (X Y : List UInt8) (f : Nat), All l → (X ++ body l ++ Y).length < X.length + f →
    kget (X ++ body l ++ Y) f X.length = glue l (kget (X ++ body l ++ Y) f (X.length + (body l).length))
  | [], X, Y, f, _, _ => by
    rw [glue_nil (kget_no _ _ _)]; simp [body]
  | c :: l, X, Y, f, ha, hf => by
    obtain ⟨ho, hr⟩ := ha.head
    obtain ⟨b, r, e, hb, _⟩ := first ho hr
    have hd : (X ++ body (c :: l) ++ Y).drop X.length = b :: (r ++ body l ++ Y) := by
      rw [List.append_assoc, List.drop_left, body, e]; simp
    have hg : CP.get (X ++ body (c :: l) ++ Y) X.length = (c, X.length + (CP.put c).length, 0) := by
      have h := CP.get_put X (body l ++ Y) c ho hr
      rwa [show X ++ CP.put c ++ (body l ++ Y) = X ++ body (c :: l) ++ Y by simp [body]] at h
    have hp := CP.put_pos ho hr
    have hlen : (X ++ body (c :: l) ++ Y).length = X.length + (CP.put c).length + (body l).length + Y.length := by simp [body]; omega
    obtain ⟨f, rfl⟩ : ∃ f', f = f' + 1 := ⟨f - 1, by omega⟩
    rw [kget_go hd hb hg, glue_cons]
    have ih := kget_body l (X ++ CP.put c) Y f ha.tail (by simp [body] at hf ⊢; omega)
    rw [show X ++ CP.put c ++ body l ++ Y = X ++ body (c :: l) ++ Y by simp [body], show (X ++ CP.put c).length = X.length + (CP.put c).length by simp] at ih
    have hfu := kget_fuel (X ++ body (c :: l) ++ Y) (f + 1) f (X.length + (body (c :: l)).length) (by omega) (by simp [body] at hlen hf ⊢; omega)
    rw [hfu, ih, show X.length + (CP.put c).length + (body l).length = X.length + (body (c :: l)).length by simp [body]; omega]
theorem get_body (l : List Col) (Y : List UInt8) (h : All l) : get (body l ++ Y) = glue l (kget (body l ++ Y) ((body l ++ Y).length + 1) (body l).length) := by
  have := kget_body l [] Y ((body l ++ Y).length + 1) h (by simp)
  simpa [get] using this
/-- A key is got as it was put. -/
theorem get_key (l : List Col) (h : All l) : get (key l) = (l, 0) := by
  unfold key
  rw [get_body l [1] h, kget_one (by rw [List.drop_left]) (by omega)]
  simp [glue]
theorem get_more (l : List Col) (c : UInt8) (h : All l) : get (key l ++ [c]) = ([], 3) := by
  unfold key
  rw [List.append_assoc, get_body l ([1] ++ [c]) h, kget_one (r := [c]) (by rw [List.drop_left]; rfl) (by omega)]
  simp [glue]
/-- .. its bytes without the last ones end too early. -/
theorem cut_body : ∀ (l : List Col) (X : List UInt8) (f k : Nat), All l → k ≤ (body l).length → kget (X ++ (body l).take k) f X.length = ([], 7)
  | [], X, f, k, _, _ => kget_end _ (by rw [List.drop_left]; simp [body])
  | c :: l, X, f, k, ha, hk => by
    obtain ⟨ho, hr⟩ := ha.head
    obtain ⟨b, r, e, hb, _⟩ := first ho hr
    cases f with
    | zero => rfl
    | succ f =>
    rcases Nat.lt_or_ge k (CP.put c).length with hlt | hge
    · have e1 : (body (c :: l)).take k = (CP.put c).take k := by rw [body, List.take_append_of_le_length (by omega)]
      rw [e1]
      cases k with
      | zero => exact kget_end _ (by rw [List.drop_left]; rfl)
      | succ k =>
        refine kget_err (b := b) (r := r.take k) ?_ hb (by omega) (by omega) (CP.get_cut X c ho hr (k + 1) hlt)
        rw [List.drop_left, e, List.take_succ_cons]
    · have e1 : (body (c :: l)).take k = CP.put c ++ (body l).take (k - (CP.put c).length) := by rw [body, List.take_append, List.take_of_length_le hge]
      have hg := CP.get_put X ((body l).take (k - (CP.put c).length)) c ho hr
      rw [e1]
      rw [show X ++ (CP.put c ++ (body l).take (k - (CP.put c).length)) = X ++ CP.put c ++ (body l).take (k - (CP.put c).length) by simp]
      rw [kget_go (b := b) (r := r ++ (body l).take (k - (CP.put c).length)) (by rw [List.append_assoc, List.drop_left, e]; simp) hb hg]
      have ih := cut_body l (X ++ CP.put c) f (k - (CP.put c).length) ha.tail (by simp [body] at hk; omega)
      rw [show (X ++ CP.put c).length = X.length + (CP.put c).length by simp] at ih
      rw [ih]
      simp
theorem get_cut (l : List Col) (k : Nat) (h : All l) (hk : k < (key l).length) : get ((key l).take k) = ([], 7) := by
  have e : (key l).take k = (body l).take k := by
    unfold key at hk ⊢
    rw [List.take_append_of_le_length (by simp at hk; omega)]
  rw [e]
  have := cut_body l [] (((body l).take k).length + 1) k h (by unfold key at hk; simp at hk; omega)
  simpa [get] using this
/-- Bytes that are a key are just the bytes of that key. -/
theorem kget_once (s : List UInt8) : ∀ (f i : Nat) (l : List Col), kget s f i = (l, 0) → s.drop i = key l ∧ All l ∧ (∀ c ∈ l, c.s.length ≤ s.length) ∧ l.length ≤ s.length - i := by
  intro f
  induction f with
  | zero => intro i l h; simp [kget] at h
  | succ f ih =>
    intro i l h
    cases hd : s.drop i with
    | nil => rw [kget_end _ hd] at h; simp at h
    | cons b r =>
      have hi : i < s.length := by
        rcases Nat.lt_or_ge i s.length with h | h
        · exact h
        · rw [List.drop_eq_nil_of_le h] at hd; simp at hd
      by_cases hb : b = 1
      · subst hb
        rw [kget_one hd (by omega)] at h
        by_cases hr : r = []
        · rw [if_pos hr] at h
          obtain ⟨rfl, _⟩ := Prod.mk.inj h
          subst hr
          exact ⟨rfl, All.nil, fun c hc => by simp at hc, by simp⟩
        · rw [if_neg hr] at h; simp at h
      · rcases CP.get_spec s i with k | k | ⟨c, to, k, ho, hr, h1, h2, h3, h4⟩
        · rw [kget_err hd hb (by omega) (by omega) k] at h; simp at h
        · rw [kget_err hd hb (by omega) (by omega) k] at h; simp at h
        · rw [kget_go hd hb k] at h
          split at h
          · next h5 => exact absurd (congrArg Prod.snd h) h5
          · next h5 =>
            obtain ⟨rfl, _⟩ := Prod.mk.inj h
            have h6 : kget s f to = ((kget s f to).1, 0) := Prod.ext rfl (by simpa using h5)
            obtain ⟨a1, a2, a3, a4⟩ := ih to _ h6
            refine ⟨?_, All.cons ho hr a2, ?_, by simp only [List.length_cons]; omega⟩
            · rw [← hd, key, body, List.append_assoc, ← key, ← a1, h3]
              have e := (List.take_append_drop (to - i) (s.drop i)).symm
              rw [List.drop_drop, show i + (to - i) = to by omega] at e
              exact e
            · intro d hdm
              rcases List.mem_cons.1 hdm with e | e
              · subst e; exact h4
              · exact a3 d e
theorem get_once {s : List UInt8} {l : List Col} (h : get s = (l, 0)) : s = key l ∧ All l ∧ (∀ c ∈ l, c.s.length ≤ s.length) ∧ l.length ≤ s.length := by
  have := kget_once s _ 0 l h
  simpa using this
theorem kget_errs (s : List UInt8) : ∀ (f i : Nat), (kget s f i).2 = 0 ∨ (kget s f i).2 = 3 ∨ (kget s f i).2 = 7 := by
  intro f
  induction f with
  | zero => intro i; exact .inr (.inr rfl)
  | succ f ih =>
    intro i
    cases hd : s.drop i with
    | nil => rw [kget_end _ hd]; exact .inr (.inr rfl)
    | cons b r =>
      by_cases hb : b = 1
      · subst hb; rw [kget_one hd (by omega)]; split
        · exact .inl rfl
        · exact .inr (.inl rfl)
      · rcases CP.get_spec s i with k | k | ⟨c, to, k, _⟩
        · rw [kget_err hd hb (by omega) (by omega) k]; exact .inr (.inr rfl)
        · rw [kget_err hd hb (by omega) (by omega) k]; exact .inr (.inl rfl)
        · rw [kget_go hd hb k]; have := ih to; split
          · exact this
          · exact .inl rfl
theorem get_errs (s : List UInt8) : (get s).2 = 0 ∨ (get s).2 = 3 ∨ (get s).2 = 7 := kget_errs s _ 0
theorem get_no {s : List UInt8} (h : (get s).2 ≠ 0) : (get s).1 = [] := kget_no s _ 0 h

/-- Which of two is ahead. -/
def cmp : List Col → List Col → Int
  | [], [] => 0
  | [], _ :: _ => -1
  | _ :: _, [] => 1
  | a :: x, b :: y => if CP.cmp a b ≠ 0 then CP.cmp a b else cmp x y
theorem one_put {c : Col} {l : List Col} (h : All (c :: l)) (u v : List UInt8) : Parts ([1] ++ u) (body (c :: l) ++ v) := by
  obtain ⟨ho, hr⟩ := h.head
  obtain ⟨b, r, e, _, hb⟩ := first ho hr
  exact ⟨[], 1, b, u, r ++ body l ++ v, rfl, by rw [body, e]; simp, hb⟩
theorem cmp_cases : ∀ (a b : List Col), All a → All b → (cmp a b = 0 ∧ a = b) ∨ (cmp a b = -1 ∧ a ≠ b ∧ Parts (key a) (key b)) ∨ (cmp a b = 1 ∧ a ≠ b ∧ Parts (key b) (key a))
  | [], [], _, _ => .inl ⟨rfl, rfl⟩
  | [], b :: y, _, hb => .inr (.inl ⟨rfl, by simp, one_put hb [] [1]⟩)
  | a :: x, [], ha, _ => .inr (.inr ⟨rfl, by simp, one_put ha [] [1]⟩)
  | a :: x, b :: y, ha, hb => by
    rcases CP.cmp_cases ha.head.1 hb.head.1 ha.head.2 hb.head.2 with ⟨h, rfl⟩ | ⟨h, hne, hp⟩ | ⟨h, hne, hp⟩
    · have e : cmp (a :: x) (a :: y) = cmp x y := by rw [cmp, h]; simp
      have hk : ∀ z, key (a :: z) = CP.put a ++ key z := fun z => by simp [key, body]
      rw [e, hk, hk]
      rcases cmp_cases x y ha.tail hb.tail with ⟨k, rfl⟩ | ⟨k, kne, kp⟩ | ⟨k, kne, kp⟩
      · exact .inl ⟨k, rfl⟩
      · exact .inr (.inl ⟨k, by simpa using kne, CP.parts_pre _ kp⟩)
      · exact .inr (.inr ⟨k, by simpa using kne, CP.parts_pre _ kp⟩)
    · have e : cmp (a :: x) (b :: y) = -1 := by rw [cmp, h]; simp
      have hk : ∀ c z, key (c :: z) = CP.put c ++ key z := fun c z => by simp [key, body]
      rw [e, hk, hk]
      exact .inr (.inl ⟨rfl, fun e => hne (by injection e), CP.parts_post hp _ _⟩)
    · have e : cmp (a :: x) (b :: y) = 1 := by rw [cmp, h]; simp
      have hk : ∀ c z, key (c :: z) = CP.put c ++ key z := fun c z => by simp [key, body]
      rw [e, hk, hk]
      exact .inr (.inr ⟨rfl, fun e => hne (by injection e), CP.parts_post hp _ _⟩)
theorem cmp_swap (a b : List Col) (ha : All a) (hb : All b) : cmp b a = - cmp a b := by
  rcases cmp_cases a b ha hb with ⟨h, rfl⟩ | ⟨h, hne, hp⟩ | ⟨h, hne, hp⟩
  · rw [h]; rfl
  · rcases cmp_cases b a hb ha with ⟨k, e⟩ | ⟨k, kne, kp⟩ | ⟨k, kne, kp⟩
    · exact absurd e.symm hne
    · have := hp.less'.2; rw [kp.less'.1] at this; cases this
    · rw [h, k]; rfl
  · rcases cmp_cases b a hb ha with ⟨k, e⟩ | ⟨k, kne, kp⟩ | ⟨k, kne, kp⟩
    · exact absurd e.symm hne
    · rw [h, k]
    · have := hp.less'.2; rw [kp.less'.1] at this; cases this

/-- The first columns' bytes begin just the keys that begin with these columns. -/
theorem pre_iff : ∀ (p m : List Col), All p → All m → ((body p <+: key m) ↔ p <+: m)
  | [], m, _, _ => by simp [body]
  | c :: p, [], hp, _ => by
    obtain ⟨ho, hr⟩ := hp.head
    obtain ⟨b, r, e, hb, _⟩ := first ho hr
    rw [body, e, key, body, List.nil_append, List.cons_append, List.cons_prefix_cons]
    simp [hb]
  | c :: p, d :: m, hp, hm => by
    have hk : key (d :: m) = CP.put d ++ key m := by simp [key, body]
    have ih := pre_iff p m hp.tail hm.tail
    rw [List.cons_prefix_cons, hk, body]
    rcases CP.cmp_cases hp.head.1 hm.head.1 hp.head.2 hm.head.2 with ⟨h, rfl⟩ | ⟨h, hne, hpa⟩ | ⟨h, hne, hpa⟩
    · rw [List.prefix_append_right_inj, ih]; simp
    · refine ⟨fun ⟨t, ht⟩ => ?_, fun h => absurd h.1 hne⟩
      have := (CP.parts_post (CP.parts_post hpa (body p) (key m)) t []).ne
      exact absurd (by rw [List.append_nil]; exact ht) this
    · refine ⟨fun ⟨t, ht⟩ => ?_, fun h => absurd h.1 hne⟩
      have := (CP.parts_post (CP.parts_post hpa (key m) (body p)) [] t).ne
      exact absurd (by rw [List.append_nil]; exact ht.symm) this
theorem take_pre (p m : List Col) : p <+: m ↔ p.length ≤ m.length ∧ m.take p.length = p := by
  constructor
  · intro h; exact ⟨h.length_le, (List.prefix_iff_eq_take.1 h).symm⟩
  · intro h; rw [← h.2]; exact List.take_prefix _ _

/-- One column more is behind it. -/
theorem cmp_more (l : List Col) (c : Col) (h : All (l ++ [c])) : cmp l (l ++ [c]) = -1 ∧ Parts (key l) (key (l ++ [c])) := by
  rcases cmp_cases l (l ++ [c]) h.left h with ⟨k, e⟩ | ⟨k, kne, kp⟩ | ⟨k, kne, kp⟩
  · have := congrArg List.length e; simp at this
  · exact ⟨k, kp⟩
  · exfalso
    have h1 : ∀ (z : List Col) (hz : ∀ x ∈ z, CP.cmp x x = 0), cmp z (z ++ [c]) = -1 := by
      intro z
      induction z with
      | nil => intro _; rfl
      | cons x z ih => intro hz; rw [List.cons_append, cmp, hz x (by simp)]; simp; exact ih (fun y hy => hz y (by simp [hy]))
    rw [h1 l (fun x hx => by
      have hx2 := h x (by simp [hx])
      rcases CP.cmp_cases hx2.1 hx2.1 hx2.2 hx2.2 with g | g | g
      · exact g.1
      · exact absurd rfl g.2.1
      · exact absurd rfl g.2.1)] at k
    omega
/-- What does not begin with a key's columns is on one side of it and of that with more columns. -/
theorem sides : ∀ (l : List Col) (c : Col) (m : List Col), All (l ++ [c]) → All m → ¬ l <+: m → Op.bytesLess (key l) (key m) = Op.bytesLess (key (l ++ [c])) (key m)
  | [], c, m, _, _, h => absurd (List.nil_prefix) h
  | a :: l, c, [], ha, _, _ => by
    have h1 := one_put (c := a) (l := l) ha.left [] [1]
    have h2 := one_put (c := a) (l := l ++ [c]) ha [] [1]
    have e1 := h1.less'.2
    have e2 := h2.less'.2
    exact e1.trans e2.symm
  | a :: l, c, b :: m, ha, hb, h => by
    have hk : ∀ c z, key (c :: z) = CP.put c ++ key z := fun c z => by simp [key, body]
    rw [List.cons_append, hk, hk, hk]
    rw [List.cons_append] at ha
    rcases CP.cmp_cases ha.head.1 hb.head.1 ha.head.2 hb.head.2 with ⟨k, rfl⟩ | ⟨k, hne, hp⟩ | ⟨k, hne, hp⟩
    · rw [WP.less_same, WP.less_same]
      exact sides l c m ha.tail hb.tail (fun g => h (by rw [List.cons_prefix_cons]; exact ⟨rfl, g⟩))
    · rw [(hp.less _ _).1, (hp.less _ _).1]
    · rw [(hp.less _ _).2, (hp.less _ _).2]

theorem body_le : ∀ (l : List Col), All l → (∀ c ∈ l, c.s.length ≤ 1000) → (body l).length ≤ 2010 * l.length
  | [], _, _ => by simp [body]
  | c :: l, h, hs => by
    have h1 := CP.put_le h.head.1 h.head.2
    have h2 := body_le l h.tail (fun d hd => hs d (by simp [hd]))
    have h3 := hs c (by simp)
    rw [body, List.length_append, List.length_cons]
    omega
end KP
end Go.Proofs.YtdcijbclafpkmaaDoor
