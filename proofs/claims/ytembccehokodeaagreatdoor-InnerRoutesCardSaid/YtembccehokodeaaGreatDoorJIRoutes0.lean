/-
  Which kid has a key, in plain mathematics.
-/
import Derived.Test.YtembccehokodeaaGreatDoorJ06
import Derived.Test.YtembccehokodeaaGreatDoorJ07
namespace Go.Proofs.YtembccehokodeaaGreatDoor
open Go.RowKit IP
set_option linter.unusedVariables false

theorem notAbove_spec {key : ByteArray} {l : List ByteArray} (h : Rise l) {j : Nat} {s : ByteArray} (hj : l[j]? = some s) : j < notAbove key l ↔ ¬ L5.B key < L5.B s := by
  obtain ⟨i, hi, h1, h2⟩ : ∃ i, i ≤ l.length ∧ (∀ j s, j < i → l[j]? = some s → ¬ L5.B key < L5.B s) ∧ (∀ s, l[i]? = some s → L5.B key < L5.B s) := by
    have main : ∀ n, n ≤ l.length → (∀ j s, j < n → l[j]? = some s → ¬ L5.B key < L5.B s) ∨ ∃ i, i ≤ l.length ∧ (∀ j s, j < i → l[j]? = some s → ¬ L5.B key < L5.B s) ∧ (∀ s, l[i]? = some s → L5.B key < L5.B s) := by
      intro n
      induction n with
      | zero => exact fun _ => .inl fun j s hj => by omega
      | succ n ih =>
        intro hn
        rcases ih (by omega) with h1 | h1
        · obtain ⟨t, ht⟩ : ∃ t, l[n]? = some t := ⟨_, List.getElem?_eq_getElem (by omega)⟩
          by_cases hk : L5.B key < L5.B t
          · exact .inr ⟨n, by omega, h1, fun s hs => by rw [ht] at hs; obtain rfl := Option.some.inj hs; exact hk⟩
          · refine .inl fun j s hj hs => ?_
            rcases Nat.lt_succ_iff_lt_or_eq.1 hj with h2 | h2
            · exact h1 j s h2 hs
            · subst h2
              rw [ht] at hs
              obtain rfl := Option.some.inj hs
              exact hk
        · exact .inr h1
    rcases main l.length (Nat.le_refl _) with h1 | h1
    · exact ⟨l.length, Nat.le_refl _, h1, fun s hs => by rw [List.getElem?_eq_none (Nat.le_refl _)] at hs; cases hs⟩
    · exact h1
  rw [notAbove_first h h1 h2 hi]
  constructor
  · exact fun hlt => h1 j s hlt hj
  · intro hk
    refine Nat.lt_of_not_le fun hle => hk ?_
    have hl := (List.getElem?_eq_some_iff.1 hj).1
    obtain ⟨t, ht⟩ : ∃ t, l[i]? = some t := ⟨_, List.getElem?_eq_getElem (by omega)⟩
    rcases Nat.eq_or_lt_of_le hle with e | e
    · subst e
      exact h2 s hj
    · exact List.lt_trans (h2 t ht) (rise_get h ht hj e)
/-- The key is below where the page ends. -/
def okB (R : Int) (key H : ByteArray) : Bool := !decide (R ≠ 0) || decide (L5.B key < L5.B H)
/-- It is between the kid's ends. -/
def insideB (key low : ByteArray) (ss : List ByteArray) (H : ByteArray) (m : Nat) (R : Int) (i : Nat) : Bool := !decide (L5.B key < L5.B (loAt low ss i)) && (!doesAt m R i || decide (L5.B key < L5.B (hiAt ss H i)))
theorem inside_iff {key low H : ByteArray} {ss : List ByteArray} {m i : Nat} {R : Int} (hm : ss.length = m) (hr : Rise ss) (hl : ¬ L5.B key < L5.B low) (hH : R ≠ 0 → ∀ s ∈ ss, L5.B s < L5.B H) (hi : i ≤ m) : insideB key low ss H m R i = (decide (i = notAbove key ss) && okB R key H) := by
  have ha : notAbove key ss ≤ m := by rw [← hm]; exact notAbove_le key ss
  have h1 : (!decide (L5.B key < L5.B (loAt low ss i))) = decide (i ≤ notAbove key ss) := by
    cases i with
    | zero =>
      show (!decide (L5.B key < L5.B low)) = _
      rw [decide_eq_false hl, decide_eq_true (Nat.zero_le _)]
      rfl
    | succ j =>
      obtain ⟨s, hs⟩ : ∃ s, ss[j]? = some s := ⟨_, List.getElem?_eq_getElem (by omega)⟩
      rw [lo_at hs]
      have h := notAbove_spec (key := key) hr hs
      by_cases hk : L5.B key < L5.B s
      · rw [decide_eq_true hk, decide_eq_false (by have := mt h.1 (Classical.not_not.2 hk); omega)]; rfl
      · rw [decide_eq_false hk, decide_eq_true (by have := h.2 hk; omega)]; rfl
  unfold insideB
  rw [h1]
  by_cases him : i < m
  · obtain ⟨s, hs⟩ : ∃ s, ss[i]? = some s := ⟨_, List.getElem?_eq_getElem (by omega)⟩
    have h := notAbove_spec (key := key) hr hs
    rw [does_in R him, hi_in hs]
    by_cases hk : L5.B key < L5.B s
    · have h2 : notAbove key ss ≤ i := by have := mt h.1 (Classical.not_not.2 hk); omega
      have hok : okB R key H = true := by
        unfold okB
        by_cases hR : R ≠ 0
        · rw [decide_eq_true (List.lt_trans hk (hH hR s (List.mem_of_getElem? hs)))]; simp
        · rw [decide_eq_false hR]; rfl
      rw [decide_eq_true hk, hok]
      by_cases he : i = notAbove key ss
      · rw [decide_eq_true he, decide_eq_true (by omega)]; rfl
      · rw [decide_eq_false he, decide_eq_false (by omega)]; rfl
    · have h2 := h.2 hk
      rw [decide_eq_false hk, decide_eq_false (show ¬ i = notAbove key ss by omega)]
      simp
  · obtain rfl : i = m := by omega
    rw [does_end, hi_end hm]
    have hok : (!(R != 0) || decide (L5.B key < L5.B H)) = okB R key H := by
      unfold okB
      by_cases hR : R = 0
      · subst hR; rfl
      · rw [show (R != 0) = true by simpa using hR, decide_eq_true hR]
    rw [hok]
    by_cases he : i = notAbove key ss
    · rw [decide_eq_true he, decide_eq_true (by omega)]
    · rw [decide_eq_false he, decide_eq_false (by omega)]
/-- How many kids have it, among the first k. -/
def manyB (a k : Nat) (ok : Bool) : Nat := if a < k ∧ ok = true then 1 else 0
end Go.Proofs.YtembccehokodeaaGreatDoor
