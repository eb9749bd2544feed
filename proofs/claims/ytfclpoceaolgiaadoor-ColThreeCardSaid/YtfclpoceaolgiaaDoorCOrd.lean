/-
  Plain facts about the order of columns; nothing of the program.
-/
import Derived.Test.YtfclpoceaolgiaaDoorCPlain
namespace Go.Proofs.YtfclpoceaolgiaaDoor
open Go.RowKit
namespace CP
open WP (Parts)
theorem parts_trans {x y z : List UInt8} (h : Parts x y) (k : Parts y z) : Op.bytesLess x z = true ∧ Op.bytesLess z x = false := by
  obtain ⟨p, c, d, x', y', rfl, rfl, hcd⟩ := h
  obtain ⟨q, e, f, y2, z', he, rfl, hef⟩ := k
  rcases Nat.lt_trichotomy p.length q.length with hl | hl | hl
  · have hq : ∃ q2, q = p ++ d :: q2 := by
      have h1 : q = (p ++ d :: y').take q.length := by rw [he]; simp
      rw [List.take_append, List.take_of_length_le (by omega)] at h1
      obtain ⟨m, hm⟩ : ∃ m, q.length - p.length = m + 1 := ⟨q.length - p.length - 1, by omega⟩
      rw [hm, List.take_succ_cons] at h1
      exact ⟨_, h1⟩
    obtain ⟨q2, rfl⟩ := hq
    exact (Parts.less' ⟨p, c, d, x', q2 ++ f :: z', rfl, by simp, hcd⟩)
  · have h1 := List.append_inj he hl
    obtain ⟨rfl, h2⟩ := h1
    obtain ⟨rfl, rfl⟩ := List.cons.inj h2
    exact (Parts.less' ⟨p, c, f, x', z', rfl, rfl, by simp only [UInt8.lt_iff_toNat_lt] at *; omega⟩)
  · have hp : ∃ p2, p = q ++ e :: p2 := by
      have h1 : p = (q ++ e :: y2).take p.length := by rw [← he]; simp
      rw [List.take_append, List.take_of_length_le (by omega)] at h1
      obtain ⟨m, hm⟩ : ∃ m, p.length - q.length = m + 1 := ⟨p.length - q.length - 1, by omega⟩
      rw [hm, List.take_succ_cons] at h1
      exact ⟨_, h1⟩
    obtain ⟨p2, rfl⟩ := hp
    exact (Parts.less' ⟨q, e, f, p2 ++ c :: x', z', by simp, rfl, hef⟩)
/-- What Compare says of three. -/
theorem cmp_three {a b c : Col} (ha : Ok a) (hb : Ok b) (hc : Ok c) (ra : Right a) (rb : Right b) (rc : Right c) :
    (cmp a b = -1 ∨ cmp a b = 0 ∨ cmp a b = 1) ∧ (cmp b c = -1 ∨ cmp b c = 0 ∨ cmp b c = 1) ∧ (cmp a c = -1 ∨ cmp a c = 0 ∨ cmp a c = 1) ∧ cmp b a = - cmp a b ∧ (cmp a b = 0 ↔ a = b) ∧ cmp a a = 0 ∧
    (0 < cmp a b ∨ 0 < cmp b c ∨ cmp a c ≤ 0) ∧ (cmp a b ≠ -1 ∨ 0 < cmp b c ∨ cmp a c = -1) := by
  have haa : cmp a a = 0 := by rcases cmp_cases ha ha ra ra with h | h | h; exact h.1; exact absurd rfl h.2.1; exact absurd rfl h.2.1
  have hbb : cmp b b = 0 := by rcases cmp_cases hb hb rb rb with h | h | h; exact h.1; exact absurd rfl h.2.1; exact absurd rfl h.2.1
  have hba : cmp b a = - cmp a b := by
    rcases cmp_cases ha hb ra rb with h | h | h
    · obtain ⟨_, rfl⟩ := h; rw [haa]; rfl
    · rcases cmp_cases hb ha rb ra with k | k | k
      · exact absurd k.2.symm h.2.1
      · have := h.2.2.less'.2; rw [k.2.2.less'.1] at this; cases this
      · rw [h.1, k.1]; rfl
    · rcases cmp_cases hb ha rb ra with k | k | k
      · exact absurd k.2.symm h.2.1
      · rw [h.1, k.1]
      · have := h.2.2.less'.2; rw [k.2.2.less'.1] at this; cases this
  have hab : cmp a b = -1 ∨ cmp a b = 0 ∨ cmp a b = 1 := by rcases cmp_cases ha hb ra rb with h | h | h <;> simp [h.1]
  have hbc : cmp b c = -1 ∨ cmp b c = 0 ∨ cmp b c = 1 := by rcases cmp_cases hb hc rb rc with h | h | h <;> simp [h.1]
  have hac : cmp a c = -1 ∨ cmp a c = 0 ∨ cmp a c = 1 := by rcases cmp_cases ha hc ra rc with h | h | h <;> simp [h.1]
  have h0 : cmp a b = 0 ↔ a = b := ⟨fun e => by rcases cmp_cases ha hb ra rb with h | h | h; exact h.2; omega; omega, fun e => by subst e; exact haa⟩
  have key : cmp a b = -1 → cmp b c = -1 → cmp a c = -1 := fun h1 h2 => by
    have p1 : Parts (put a) (put b) := by rcases cmp_cases ha hb ra rb with h | h | h; omega; exact h.2.2; omega
    have p2 : Parts (put b) (put c) := by rcases cmp_cases hb hc rb rc with h | h | h; omega; exact h.2.2; omega
    have ht := parts_trans p1 p2
    rcases cmp_cases ha hc ra rc with h | h | h
    · obtain ⟨_, rfl⟩ := h; rw [WP.less_irrefl] at ht; exact absurd ht.1 (by decide)
    · exact h.1
    · rw [h.2.2.less'.1] at ht; exact absurd ht.2 (by decide)
  refine ⟨hab, hbc, hac, hba, h0, haa, ?_, ?_⟩
  · rcases hab with h | h | h
    · rcases hbc with k | k | k
      · have := key h k; omega
      · have e : b = c := by rcases cmp_cases hb hc rb rc with g | g | g; exact g.2; omega; omega
        subst e; omega
      · omega
    · have e := h0.1 h
      subst e
      rcases hbc with k | k | k <;> omega
    · omega
  · rcases hab with h | h | h
    · rcases hbc with k | k | k
      · have := key h k; omega
      · have e : b = c := by rcases cmp_cases hb hc rb rc with g | g | g; exact g.2; omega; omega
        subst e; omega
      · omega
    · omega
    · omega
end CP
end Go.Proofs.YtfclpoceaolgiaaDoor
