/-
  Plain facts about what texts have in common at their beginnings, and about their order; nothing of the program.
-/
import Derived.Sort.Walk0
namespace Go.Proofs.Ytkeobalbfngniaa
namespace EP
set_option linter.unusedVariables false

/-- How many bytes two texts have in common at their beginnings. -/
def com : List UInt8 → List UInt8 → Nat
  | c :: x, d :: y => if c = d then com x y + 1 else 0
  | _, _ => 0
theorem com_nil (x : List UInt8) : com x [] = 0 := by cases x <;> rfl
theorem nil_com (x : List UInt8) : com [] x = 0 := by cases x <;> rfl
theorem com_same (c : UInt8) (x y : List UInt8) : com (c :: x) (c :: y) = com x y + 1 := by simp [com]
theorem com_not (c d : UInt8) (x y : List UInt8) (h : c ≠ d) : com (c :: x) (d :: y) = 0 := by simp [com, h]
theorem com_comm : ∀ x y : List UInt8, com x y = com y x
  | [], y => by rw [nil_com, com_nil]
  | c :: x, [] => rfl
  | c :: x, d :: y => by
    by_cases h : c = d
    · subst h; rw [com_same, com_same, com_comm x y]
    · rw [com_not _ _ _ _ h, com_not _ _ _ _ (Ne.symm h)]
theorem com_self : ∀ x : List UInt8, com x x = x.length
  | [] => rfl
  | c :: x => by rw [com_same, com_self x]; rfl
theorem com_left : ∀ x y : List UInt8, com x y ≤ x.length
  | [], y => by rw [nil_com]; exact Nat.le_refl _
  | c :: x, [] => by rw [com_nil]; exact Nat.zero_le _
  | c :: x, d :: y => by
    by_cases h : c = d
    · subst h; rw [com_same]; exact Nat.succ_le_succ (com_left x y)
    · rw [com_not _ _ _ _ h]; exact Nat.zero_le _
theorem com_right (x y : List UInt8) : com x y ≤ y.length := by rw [com_comm]; exact com_left y x
/-- So many bytes are in common just if both have them, the same ones. -/
theorem le_com : ∀ (x y : List UInt8) (n : Nat), n ≤ com x y ↔ n ≤ x.length ∧ n ≤ y.length ∧ x.take n = y.take n
  | x, y, 0 => by simp
  | [], y, n + 1 => by rw [nil_com]; simp
  | c :: x, [], n + 1 => by rw [com_nil]; simp
  | c :: x, d :: y, n + 1 => by
    by_cases h : c = d
    · subst h
      rw [com_same, Nat.succ_le_succ_iff, le_com x y n]
      simp
    · rw [com_not _ _ _ _ h]
      simp [h]
theorem com_take (x y : List UInt8) (n : Nat) (h : n ≤ com x y) : x.take n = y.take n := ((le_com x y n).1 h).2.2
/-- Behind what is in common, one byte more is in common just if both have one there, the same. -/
theorem com_next : ∀ (x y : List UInt8) (k : Nat), k ≤ com x y → (k < com x y ↔ ∃ c, x[k]? = some c ∧ y[k]? = some c)
  | [], y, k, h => by rw [nil_com]; simp
  | c :: x, [], k, h => by rw [com_nil]; simp
  | c :: x, d :: y, 0, h => by
    by_cases e : c = d
    · subst e; rw [com_same]; simp
    · rw [com_not _ _ _ _ e]
      simp [Ne.symm e]
  | c :: x, d :: y, k + 1, h => by
    by_cases e : c = d
    · subst e
      rw [com_same] at h ⊢
      rw [Nat.succ_lt_succ_iff, com_next x y k (by omega)]
      simp
    · rw [com_not _ _ _ _ e] at h
      omega
theorem com_drop (x y : List UInt8) (n : Nat) (h : n ≤ com x y) : com x y = n + com (x.drop n) (y.drop n) := by
  induction n generalizing x y with
  | zero => simp
  | succ n ih =>
    match x, y with
    | [], y => rw [nil_com] at h; omega
    | c :: x, [] => rw [com_nil] at h; omega
    | c :: x, d :: y =>
      by_cases e : c = d
      · subst e
        rw [com_same] at h ⊢
        rw [ih x y (by omega)]
        simp; omega
      · rw [com_not _ _ _ _ e] at h; omega
/-- Of three texts: what the outer two have in common is at least what both have with the middle one. -/
theorem com_mid (x y z : List UInt8) (n : Nat) (h : n ≤ com x y) (k : n ≤ com y z) : n ≤ com x z := by
  rw [le_com] at *
  exact ⟨h.1, k.2.1, h.2.2.trans k.2.2⟩

/-- How many bytes the first text and all others have in common. -/
def al (x : List UInt8) (l : List (List UInt8)) : Nat := l.foldl (fun n s => min n (com x s)) x.length
/-- How many bytes all have in common. -/
def span : List (List UInt8) → Nat
  | [] => 0
  | x :: l => al x l
theorem fold_le (x : List UInt8) : ∀ (l : List (List UInt8)) (n m : Nat), m ≤ l.foldl (fun n s => min n (com x s)) n ↔ m ≤ n ∧ ∀ s ∈ l, m ≤ com x s
  | [], n, m => by simp
  | s :: l, n, m => by
    rw [List.foldl_cons, fold_le x l, Nat.le_min]
    simp [and_assoc]
theorem le_al (x : List UInt8) (l : List (List UInt8)) (m : Nat) : m ≤ al x l ↔ m ≤ x.length ∧ ∀ s ∈ l, m ≤ com x s := fold_le x l _ m
theorem al_snoc (x : List UInt8) (l : List (List UInt8)) (s : List UInt8) : al x (l ++ [s]) = min (al x l) (com x s) := by simp [al]
theorem al_one (x y : List UInt8) : al x [y] = com x y := by
  have := com_left x y
  simp [al]; omega
theorem al_le (x : List UInt8) (l : List (List UInt8)) : al x l ≤ x.length := ((le_al x l _).1 (Nat.le_refl _)).1
theorem al_com (x : List UInt8) (l : List (List UInt8)) (s : List UInt8) (h : s ∈ l) : al x l ≤ com x s := ((le_al x l _).1 (Nat.le_refl _)).2 s h
theorem eq_of_le {a b : Nat} (h : ∀ m, m ≤ a ↔ m ≤ b) : a = b := Nat.le_antisymm ((h a).1 (Nat.le_refl _)) ((h b).2 (Nat.le_refl _))

/- The order. -/
theorem lt_iff (x y : List UInt8) : x < y ↔ (com x y = x.length ∧ x.length < y.length) ∨ ∃ c d, x[com x y]? = some c ∧ y[com x y]? = some d ∧ c < d := by
  induction x generalizing y with
  | nil => cases y <;> simp [com]
  | cons c x ih =>
    cases y with
    | nil => simp [com]
    | cons d y =>
      rw [List.cons_lt_cons_iff]
      by_cases h : c = d
      · subst h
        rw [com_same, ih y]
        simp
      · rw [com_not _ _ _ _ h]
        simp [h]
theorem lt_asymm {x y : List UInt8} (h : x < y) : ¬ y < x := List.lt_asymm h
theorem lt_irrefl (x : List UInt8) : ¬ x < x := List.lt_irrefl x
theorem lt_trans {x y z : List UInt8} (h : x < y) (k : y < z) : x < z := List.lt_trans h k
theorem tri (x y : List UInt8) : x < y ∨ x = y ∨ y < x := by
  by_cases h : x < y
  · exact .inl h
  by_cases k : y < x
  · exact .inr (.inr k)
  exact .inr (.inl (List.le_antisymm (List.not_lt.1 k) (List.not_lt.1 h)))
/-- What is below goes on, in the greater one, behind what both have in common. -/
theorem lt_com {x y : List UInt8} (h : x < y) : com x y < y.length := by
  rcases (lt_iff x y).1 h with ⟨e, l⟩ | ⟨c, d, _, e, _⟩
  · omega
  · exact (List.getElem?_eq_some_iff.1 e).1
theorem less_same : ∀ (p x y : List UInt8), p ++ x < p ++ y ↔ x < y
  | [], x, y => Iff.rfl
  | a :: p, x, y => by
    rw [List.cons_append, List.cons_append, List.cons_lt_cons_iff, less_same p x y]
    simp
theorem not_lt_take (x : List UInt8) (k : Nat) : ¬ x < x.take k := by
  intro h
  have h1 := lt_com h
  have h2 := com_right x (x.take k)
  rw [lt_iff] at h
  rcases h with ⟨_, l⟩ | ⟨c, d, e, f, l⟩
  · simp at l; omega
  · rw [List.getElem?_take, if_pos (by simp at h1; omega), e] at f
    have := Option.some.inj f
    subst this
    exact absurd l (by simp)
theorem com_of_take (x y : List UInt8) (n : Nat) (h : n ≤ y.length) : com x (y.take n) = min n (com x y) := by
  refine eq_of_le fun m => ?_
  rw [le_com, Nat.le_min, le_com]
  simp only [List.length_take, List.take_take]
  constructor
  · rintro ⟨a, b, c⟩
    have : min m n = m := by omega
    rw [this] at c
    exact ⟨by omega, a, by omega, c⟩
  · rintro ⟨a, b, c, d⟩
    have : min m n = m := by omega
    rw [this]
    exact ⟨b, by omega, d⟩
/-- The first bytes of the greater one, one more than both have in common, are above the lesser one. -/
theorem lt_least {x y : List UInt8} (h : x < y) : x < y.take (com x y + 1) := by
  have hl := lt_com h
  have hc : com x (y.take (com x y + 1)) = com x y := by rw [com_of_take _ _ _ (by omega)]; omega
  rw [lt_iff] at h ⊢
  rw [hc]
  rcases h with ⟨e, l⟩ | ⟨c, d, e, f, l⟩
  · exact .inl ⟨e, by simp; omega⟩
  · exact .inr ⟨c, d, e, by rw [List.getElem?_take, if_pos (by omega)]; exact f, l⟩
/-- No fewer of its bytes are. -/
theorem not_lt_fewer {x y : List UInt8} (k : Nat) (h : k ≤ com x y) : ¬ x < y.take k := by
  rw [← com_take x y k h]
  exact not_lt_take x k
theorem take_le (x y : List UInt8) (h : x < y) (k : Nat) (hk : k ≤ com x y) : y.take k < x ∨ y.take k = x := by
  rcases tri (y.take k) x with a | a | a
  · exact .inl a
  · exact .inr a
  · exact absurd a (not_lt_fewer k hk)

/-- Behind what is not below a, and below b, both have in common with it what they have. -/
theorem between_com {a s b : List UInt8} (h1 : ¬ s < a) (h2 : s < b) : com a b ≤ com a s ∧ com a b ≤ com s b := by
  have key : com a b ≤ com a s := by
    refine Nat.le_of_not_lt fun hlt => ?_
    have ha := com_left a b
    have hb := com_right a b
    have e1 := com_take a b _ (Nat.le_refl _)
    have hk : ∀ k, k < com a b → a[k]? = b[k]? := fun k hk => by
      have := congrArg (fun l => l[k]?) e1
      simpa [List.getElem?_take, hk] using this
    rcases tri s a with h | h | h
    · exact h1 h
    · subst h; rw [com_self] at hlt; omega
    rcases (lt_iff a s).1 h with ⟨e, l⟩ | ⟨c, d, e, f, l⟩
    · omega
    · have hcs : com b s = com a s := by
        have h3 : com a s ≤ com b s := com_mid b a s _ (by have := com_comm a b; omega) (Nat.le_refl _)
        refine Nat.le_antisymm (Nat.le_of_not_lt fun h4 => ?_) h3
        have := (com_next b s (com a s) h3).1 h4
        obtain ⟨q, hq, hq'⟩ := this
        rw [← hk _ hlt, e] at hq
        rw [f] at hq'
        rw [← Option.some.inj hq] at hq'
        have := Option.some.inj hq'
        subst this
        exact absurd l (by simp)
      exact lt_asymm h2 ((lt_iff b s).2 (.inr ⟨c, d, by rw [hcs, ← hk _ hlt]; exact e, by rw [hcs]; exact f, l⟩))
  exact ⟨key, com_mid s a b _ (by have := com_comm a s; omega) (Nat.le_refl _)⟩
theorem between_le {a s b : List UInt8} (h1 : ¬ s < a) (h2 : ¬ b < s) : com a b ≤ com a s ∧ com a b ≤ com s b := by
  rcases tri s b with h | h | h
  · exact between_com h1 h
  · subst h; exact ⟨Nat.le_refl _, by rw [com_self]; exact com_right a s⟩
  · exact absurd h h2
theorem com_three {a b c : List UInt8} (h1 : a < b) (h2 : b < c) : com a c = min (com a b) (com b c) := by
  have h := between_com (lt_asymm h1) h2
  exact Nat.le_antisymm (Nat.le_min.2 h) (com_mid a b c _ (by omega) (by omega))
/-- Of texts that rise all have in common what the first one and the last one have. -/
theorem span_rise (x y : List UInt8) (l : List (List UInt8)) (h : ∀ s ∈ l, ¬ s < x ∧ ¬ y < s) (hy : y ∈ x :: l) : al x l = com x y := by
  refine eq_of_le fun m => ?_
  rw [le_al]
  constructor
  · rintro ⟨a, b⟩
    rcases List.mem_cons.1 hy with e | e
    · subst e; rw [com_self]; exact a
    · exact b y e
  · intro a
    exact ⟨Nat.le_trans a (com_left x y), fun s hs => Nat.le_trans a (between_le (h s hs).1 (h s hs).2).1⟩
/-- Texts without what all have in common have nothing in common. -/
theorem span_bare (l : List (List UInt8)) : span (l.map (List.drop (span l))) = 0 := by
  cases l with
  | nil => rfl
  | cons x l =>
    simp only [span, List.map_cons]
    refine Nat.eq_zero_of_not_pos fun h => ?_
    have h' := (le_al _ _ 1).1 h
    have hlt : al x l + 1 ≤ al x l := by
      rw [le_al]
      refine ⟨?_, fun s hs => ?_⟩
      · have := h'.1; simp at this; omega
      · have h1 := h'.2 (s.drop (al x l)) (List.mem_map.2 ⟨s, hs, rfl⟩)
        rw [com_drop x s (al x l) (al_com x l s hs)]
        omega
    omega
/-- All begin with what they have in common. -/
theorem span_take (l : List (List UInt8)) (s t : List UInt8) (hs : s ∈ l) (ht : t ∈ l) : s.take (span l) = t.take (span l) := by
  cases l with
  | nil => simp at hs
  | cons x l =>
    have h : ∀ u ∈ x :: l, x.take (al x l) = u.take (al x l) := fun u hu => by
      rcases List.mem_cons.1 hu with e | e
      · rw [e]
      · exact com_take _ _ _ (al_com x l u e)
    exact (h s hs).symm.trans (h t ht)
theorem span_le (l : List (List UInt8)) (s : List UInt8) (hs : s ∈ l) : span l ≤ s.length := by
  cases l with
  | nil => simp at hs
  | cons x l =>
    rcases List.mem_cons.1 hs with e | e
    · rw [e]; exact al_le x l
    · exact Nat.le_trans (al_com x l s e) (com_right x s)
end EP
end Go.Proofs.Ytkeobalbfngniaa
