/-
  Plain facts about the column of any bytes; nothing of the program.
-/
import Derived.Test.YtdcijbclafpkmaaDoorCPlain
namespace Go.Proofs.YtdcijbclafpkmaaDoor
open Go.RowKit
namespace CP
/-- Some bytes more ahead of a text that was read. -/
def glue (p : List UInt8) (n : Nat) (x : List UInt8 × Nat × Nat) : List UInt8 × Nat × Nat := if x.2.2 = 0 then (p ++ x.1, n + x.2.1, 0) else ([], 0, x.2.2)
/-- The text of bytes: itself, how many bytes it stands on, and what is wrong. -/
def text : List UInt8 → List UInt8 × Nat × Nat
  | [] => ([], 0, 7)
  | [_] => ([], 0, 7)
  | b :: c :: r => if b = 0 then (if c = 1 then ([], 2, 0) else if c = 255 then glue [0] 2 (text r) else ([], 0, 3)) else glue [b] 1 (text (c :: r))
theorem text_other (b : UInt8) (r : List UInt8) (h : b ≠ 0) : text (b :: r) = glue [b] 1 (text r) := by
  cases r with
  | nil => rfl
  | cons c r => rw [text, if_neg h]
theorem text_one (r : List UInt8) : text (0 :: 1 :: r) = ([], 2, 0) := by rw [text]; rfl
theorem text_255 (r : List UInt8) : text (0 :: 255 :: r) = glue [0] 2 (text r) := by rw [text]; rfl
theorem text_form (c : UInt8) (r : List UInt8) (h1 : c ≠ 1) (h2 : c ≠ 255) : text (0 :: c :: r) = ([], 0, 3) := by rw [text, if_pos rfl, if_neg h1, if_neg h2]
theorem glue_glue (p q : List UInt8) (n m : Nat) (x : List UInt8 × Nat × Nat) : glue p n (glue q m x) = glue (p ++ q) (n + m) x := by
  unfold glue
  by_cases h : x.2.2 = 0
  · simp [h]; omega
  · simp [h]
theorem glue_err (p : List UInt8) (n e : Nat) (h : e ≠ 0) : glue p n ([], 0, e) = ([], 0, e) := by simp [glue, h]
theorem glue_ok (p t : List UInt8) (n m : Nat) : glue p n (t, m, 0) = (p ++ t, n + m, 0) := by simp [glue]
theorem text_spec : ∀ l : List UInt8, text l = ([], 0, 7) ∨ text l = ([], 0, 3) ∨ ∃ t n, text l = (t, n, 0) ∧ n ≤ l.length ∧ l.take n = esc t ++ [0, 1]
  | [] => .inl rfl
  | [_] => .inl rfl
  | b :: c :: r => by
    by_cases hb : b = 0
    · subst hb
      by_cases h1 : c = 1
      · subst h1; rw [text_one]; exact .inr (.inr ⟨[], 2, rfl, by simp, rfl⟩)
      by_cases h2 : c = 255
      · subst h2
        rw [text_255]
        rcases text_spec r with h | h | ⟨t, n, h, hn, ht⟩
        · rw [h]; exact .inl (glue_err _ _ _ (by omega))
        · rw [h]; exact .inr (.inl (glue_err _ _ _ (by omega)))
        · rw [h, glue_ok]
          refine .inr (.inr ⟨_, _, rfl, by simp; omega, ?_⟩)
          rw [Nat.add_comm 2 n, List.take_succ_cons, List.take_succ_cons, ht]
          rfl
      · rw [text_form c r h1 h2]; exact .inr (.inl rfl)
    · rw [text_other b _ hb]
      rcases text_spec (c :: r) with h | h | ⟨t, n, h, hn, ht⟩
      · rw [h]; exact .inl (glue_err _ _ _ (by omega))
      · rw [h]; exact .inr (.inl (glue_err _ _ _ (by omega)))
      · rw [h, glue_ok]
        refine .inr (.inr ⟨_, _, rfl, by simp at *; omega, ?_⟩)
        rw [Nat.add_comm 1 n, List.take_succ_cons, ht, List.singleton_append, esc_other b t hb]
        rfl
theorem text_back (Y : List UInt8) : ∀ t : List UInt8, text (esc t ++ 0 :: 1 :: Y) = (t, (esc t).length + 2, 0)
  | [] => text_one Y
  | b :: r => by
    by_cases hb : b = 0
    · subst hb
      rw [esc_zero]
      show text (0 :: 255 :: (esc r ++ 0 :: 1 :: Y)) = _
      rw [text_255, text_back Y r, glue_ok]
      simp; omega
    · rw [esc_other b r hb]
      show text (b :: (esc r ++ 0 :: 1 :: Y)) = _
      rw [text_other b _ hb, text_back Y r, glue_ok]
      simp; omega
theorem text_cut : ∀ (t : List UInt8) (k : Nat), k < (esc t ++ [0, 1]).length → text ((esc t ++ [0, 1]).take k) = ([], 0, 7)
  | [], 0, _ => rfl
  | [], 1, _ => rfl
  | [], k + 2, h => by have h2 : (esc [] ++ [(0 : UInt8), 1]).length = 2 := rfl; omega
  | b :: r, k, h => by
    by_cases hb : b = 0
    · subst hb
      rw [esc_zero] at h ⊢
      match k, h with
      | 0, _ => rfl
      | 1, _ => rfl
      | k + 2, h =>
        show text (0 :: 255 :: (esc r ++ [0, 1]).take k) = _
        rw [text_255, text_cut r k (by simp at h ⊢; omega)]
        exact glue_err _ _ _ (by omega)
    · rw [esc_other b r hb] at h ⊢
      match k, h with
      | 0, _ => rfl
      | k + 1, h =>
        show text (b :: (esc r ++ [0, 1]).take k) = _
        rw [text_other b _ hb, text_cut r k (by simp at h ⊢; omega)]
        exact glue_err _ _ _ (by omega)

/-- No column. -/
def none_ (e : Nat) : Col × Nat × Nat := (⟨0, 0, 0, []⟩, 0, e)
def getI (r : List UInt8) (p : Nat) : Col × Nat × Nat := if r.length < 8 then none_ 7 else (⟨2, (Lib.beNat (r.take 8) : Int) - 9223372036854775808, 0, []⟩, p + 8, 0)
def getU (l : List UInt8) (p : Nat) : Col × Nat × Nat := if (WP.get l p).2.2 = 0 then (⟨3, 0, (WP.get l p).1, []⟩, (WP.get l p).2.1, 0) else none_ (WP.get l p).2.2
def getT (r : List UInt8) (p : Nat) : Col × Nat × Nat := if (text r).2.2 = 0 then (⟨4, 0, 0, (text r).1⟩, p + (text r).2.1, 0) else none_ (text r).2.2
/-- The column at a place. -/
def get (l : List UInt8) (i : Nat) : Col × Nat × Nat :=
  match l.drop i with
  | [] => none_ 7
  | b :: r => if b = 16 then (⟨0, 0, 0, []⟩, i + 1, 0) else if b = 32 ∨ b = 33 then (⟨1, 0, (b.toNat : Int) - 32, []⟩, i + 1, 0) else if b = 48 then getI r (i + 1) else if b = 64 then getU l (i + 1)
    else if b = 80 then getT r (i + 1) else none_ 3
theorem get_at {l : List UInt8} {i : Nat} {b : UInt8} {r : List UInt8} (h : l.drop i = b :: r) : get l i = if b = 16 then (⟨0, 0, 0, []⟩, i + 1, 0) else if b = 32 ∨ b = 33 then (⟨1, 0, (b.toNat : Int) - 32, []⟩, i + 1, 0) else if b = 48 then getI r (i + 1) else if b = 64 then getU l (i + 1)
    else if b = 80 then getT r (i + 1) else none_ 3 := by unfold get; rw [h]
theorem get_end {l : List UInt8} {i : Nat} (h : l.drop i = []) : get l i = none_ 7 := by unfold get; rw [h]
theorem beNat8 (r : List UInt8) (h : 8 ≤ r.length) : Lib.beNat (r.take 8) ≤ 18446744073709551615 ∧ Lib.beBytes 8 (Lib.beNat (r.take 8)) = r.take 8 := by
  have hl : (r.take 8).length = 8 := by simp; omega
  refine ⟨WP.beNat_le _ (by omega), ?_⟩
  have h1 : ∀ l : List UInt8, Lib.beBytes l.length (Lib.beNat l) = l := fun l => by
    have h2 := WP.leBytes_leNat l.reverse
    have h3 := WP.beNat_reverse l.reverse
    rw [List.reverse_reverse] at h3
    rw [h3]
    unfold Lib.beBytes
    rw [List.length_reverse] at h2
    rw [h2, List.reverse_reverse]
  have h4 := h1 (r.take 8)
  rwa [hl] at h4
theorem get_spec (l : List UInt8) (i : Nat) : get l i = none_ 7 ∨ get l i = none_ 3 ∨
    ∃ c to, get l i = (c, to, 0) ∧ Ok c ∧ Right c ∧ i < to ∧ to ≤ l.length ∧ put c = (l.drop i).take (to - i) ∧ c.s.length ≤ l.length := by
  cases hd : l.drop i with
  | nil => exact .inl (get_end hd)
  | cons b r =>
    have hlen : l.length = i + 1 + r.length := by
      have h1 : (l.drop i).length = (b :: r).length := by rw [hd]
      have h2 : i < l.length := by
        rcases Nat.lt_or_ge i l.length with h | h
        · exact h
        · rw [List.drop_eq_nil_of_le h] at hd; simp at hd
      simp only [List.length_drop, List.length_cons] at h1
      omega
    rw [get_at hd]
    by_cases h16 : b = 16
    · rw [if_pos h16]; exact .inr (.inr ⟨_, _, rfl, by unfold Ok; simp, by unfold Right; simp, by omega, by omega, by rw [put0 rfl, h16]; simp, by simp⟩)
    rw [if_neg h16]
    by_cases h32 : b = 32 ∨ b = 33
    · rw [if_pos h32]
      rcases h32 with h | h <;> subst h
      · exact .inr (.inr ⟨_, _, rfl, by unfold Ok; simp, by unfold Right; simp, by omega, by omega, by rw [put1 rfl]; simp, by simp⟩)
      · exact .inr (.inr ⟨_, _, rfl, by unfold Ok; simp, by unfold Right; simp, by omega, by omega, by rw [put1 rfl]; simp, by simp⟩)
    rw [if_neg h32]
    by_cases h48 : b = 48
    · rw [if_pos h48]
      unfold getI
      by_cases h8 : r.length < 8
      · rw [if_pos h8]; exact .inl rfl
      · rw [if_neg h8]
        obtain ⟨h1, h2⟩ := beNat8 r (by omega)
        refine .inr (.inr ⟨_, _, rfl, by unfold Ok; simp; omega, by unfold Right; simp, by omega, by omega, ?_, by simp⟩)
        rw [put2 rfl, h48]
        simp only
        rw [show ((Lib.beNat (r.take 8) : Int) - 9223372036854775808 + 9223372036854775808).toNat = Lib.beNat (r.take 8) by omega, h2, show i + 1 + 8 - i = 8 + 1 by omega, List.take_succ_cons]
    rw [if_neg h48]
    by_cases h64 : b = 64
    · rw [if_pos h64]
      unfold getU
      rcases WP.get_spec l (i + 1) with h | h | ⟨n, to, h, h1, h2, h3, h4⟩
      · rw [h]; exact .inl rfl
      · rw [h]; exact .inr (.inl rfl)
      · rw [h]
        refine .inr (.inr ⟨_, _, rfl, by unfold Ok; simp; omega, by unfold Right; simp, by simp only; omega, by simpa using h2, ?_, by simp⟩)
        rw [put3 rfl, h64]
        simp only
        have hr : r = l.drop (i + 1) := by
          have h5 := congrArg (List.drop 1) hd
          rw [List.drop_drop] at h5
          simpa using h5.symm
        rw [Int.toNat_natCast, h3, show to - i = (to - (i + 1)) + 1 by omega, List.take_succ_cons, ← hr]
    rw [if_neg h64]
    by_cases h80 : b = 80
    · rw [if_pos h80]
      unfold getT
      rcases text_spec r with h | h | ⟨t, n, h, hn, ht⟩
      · rw [h]; exact .inl rfl
      · rw [h]; exact .inr (.inl rfl)
      · rw [h]
        have hl2 := congrArg List.length ht
        rw [List.length_append, esc_length, List.length_take] at hl2
        simp only [List.length_cons, List.length_nil] at hl2
        refine .inr (.inr ⟨_, _, rfl, by unfold Ok; simp, by unfold Right; simp, by simp only; omega, by simp only; omega, ?_, by simp only; omega⟩)
        rw [put4 rfl, h80]
        simp only
        rw [show i + 1 + n - i = n + 1 by omega, List.take_succ_cons, ht]
    · rw [if_neg h80]; exact .inr (.inl rfl)
theorem get_put (X Y : List UInt8) (c : Col) (ho : Ok c) (hr : Right c) : get (X ++ put c ++ Y) X.length = (c, X.length + (put c).length, 0) := by
  have hd : (X ++ put c ++ Y).drop X.length = put c ++ Y := by rw [List.append_assoc, List.drop_left]
  unfold Ok at ho
  rcases hr with h | h | h | h | h
  · rw [put0 h.1] at hd ⊢
    rw [get_at hd, if_pos rfl]
    congr 1
    exact Col.eq h.1.symm h.2.1.symm h.2.2.1.symm h.2.2.2.symm
  · have hb : put c = [32] ∧ c.u = 0 ∨ put c = [33] ∧ c.u = 1 := by
      rw [put1 h.1]
      rcases (show c.u = 0 ∨ c.u = 1 by omega) with e | e <;> rw [e] <;> simp
    rcases hb with ⟨e, hu⟩ | ⟨e, hu⟩ <;> rw [e] at hd ⊢
    · rw [get_at hd, if_neg (by decide), if_pos (by decide)]
      congr 1
      exact Col.eq h.1.symm h.2.1.symm (by rw [hu]; rfl) h.2.2.2.symm
    · rw [get_at hd, if_neg (by decide), if_pos (by decide)]
      congr 1
      exact Col.eq h.1.symm h.2.1.symm (by rw [hu]; rfl) h.2.2.2.symm
  · rw [put2 h.1] at hd ⊢
    rw [List.cons_append] at hd
    rw [get_at hd, if_neg (by decide), if_neg (by decide), if_pos rfl]
    have hl : (Lib.beBytes 8 (c.i + 9223372036854775808).toNat).length = 8 := by rw [Lib.beBytes_length]
    unfold getI
    rw [if_neg (by rw [List.length_append, hl]; omega), List.take_append_of_le_length (by omega), List.take_of_length_le (by omega), WP.beNat_beBytes 8 _ (by omega)]
    congr 1
    · exact Col.eq h.1.symm (by simp only; omega) h.2.1.symm h.2.2.symm
  · rw [put3 h.1] at hd ⊢
    rw [List.cons_append] at hd
    rw [get_at hd, if_neg (by decide), if_neg (by decide), if_neg (by decide), if_pos rfl]
    have hg := WP.get_put (X ++ [64]) Y c.u.toNat (by omega)
    rw [show X ++ [64] ++ WP.put c.u.toNat ++ Y = X ++ 64 :: WP.put c.u.toNat ++ Y by simp, show (X ++ [(64 : UInt8)]).length = X.length + 1 by simp] at hg
    unfold getU
    rw [hg]
    simp only [if_true]
    congr 1
    · exact Col.eq h.1.symm h.2.1.symm (by simp only; omega) h.2.2.symm
    · simp only [List.length_cons]; congr 1; omega
  · rw [put4 h.1] at hd ⊢
    rw [List.cons_append] at hd
    rw [get_at hd, if_neg (by decide), if_neg (by decide), if_neg (by decide), if_neg (by decide), if_pos rfl]
    unfold getT
    rw [show esc c.s ++ [0, 1] ++ Y = esc c.s ++ 0 :: 1 :: Y by simp, text_back]
    simp only [if_true]
    congr 1
    · exact Col.eq h.1.symm h.2.1.symm h.2.2.symm rfl
    · simp only [List.length_cons, List.length_append, List.length_nil]; congr 1; omega
theorem get_cut (X : List UInt8) (c : Col) (ho : Ok c) (hr : Right c) (k : Nat) (hk : k < (put c).length) : get (X ++ (put c).take k) X.length = none_ 7 := by
  have hd : (X ++ (put c).take k).drop X.length = (put c).take k := by rw [List.drop_left]
  cases k with
  | zero => exact get_end (by rw [hd]; rfl)
  | succ k =>
    unfold Ok at ho
    rcases hr with h | h | h | h | h
    · rw [put0 h.1] at hk; simp at hk
    · rw [put1 h.1] at hk; simp at hk
    · rw [put2 h.1] at hd hk ⊢
      rw [List.take_succ_cons] at hd ⊢
      rw [get_at hd, if_neg (by decide), if_neg (by decide), if_pos rfl]
      unfold getI
      rw [List.length_cons, Lib.beBytes_length] at hk
      rw [if_pos (by rw [List.length_take, Lib.beBytes_length]; omega)]
    · rw [put3 h.1] at hd hk ⊢
      rw [List.take_succ_cons] at hd ⊢
      rw [get_at hd, if_neg (by decide), if_neg (by decide), if_neg (by decide), if_pos rfl]
      obtain ⟨b, r, hp, hf, ht, _⟩ := WP.put_form c.u.toNat (by omega)
      have hg : WP.get (X ++ 64 :: (WP.put c.u.toNat).take k) (X.length + 1) = (0, 0, 7) := by
        have hd2 : (X ++ 64 :: (WP.put c.u.toNat).take k).drop (X.length + 1) = (WP.put c.u.toNat).take k := by
          rw [show X ++ 64 :: (WP.put c.u.toNat).take k = (X ++ [64]) ++ (WP.put c.u.toNat).take k by simp, show X.length + 1 = (X ++ [(64 : UInt8)]).length by simp, List.drop_left]
        rw [hp] at hk hd2 ⊢
        unfold WP.get
        rw [hd2]
        cases k with
        | zero => rfl
        | succ k =>
          rw [List.take_succ_cons]
          simp only
          rw [if_pos]
          simp only [List.length_cons] at hk
          rw [List.length_take]
          omega
      unfold getU
      rw [hg]
      rfl
    · rw [put4 h.1] at hd hk ⊢
      rw [List.take_succ_cons] at hd ⊢
      rw [get_at hd, if_neg (by decide), if_neg (by decide), if_neg (by decide), if_neg (by decide), if_pos rfl]
      unfold getT
      rw [text_cut c.s k (by simp only [List.length_cons] at hk; omega)]
      rfl
end CP
end Go.Proofs.YtdcijbclafpkmaaDoor
