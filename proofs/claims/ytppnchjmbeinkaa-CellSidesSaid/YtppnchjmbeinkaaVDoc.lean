/-
  The document's Right, PutValue, PutKid.
-/
import Derived.Test.YtppnchjmbeinkaaVBox
import Derived.Test.YtppnchjmbeinkaaWRef3
namespace Go.Proofs.Ytppnchjmbeinkaa
open Go.RowKit
set_option linter.unusedVariables false
set_option linter.unusedSimpArgs false

theorem right_over (S : ByteArray) (L P : Int) : VP.Right (pv true S L P) ↔ S = ⟨#[]⟩ ∧ 1 ≤ L ∧ L ≤ 4096 ∧ 1 ≤ P ∧ P ≤ 4095 := by
  constructor
  · rintro (⟨_, h1, h2⟩ | ⟨h, _⟩)
    · exact ⟨ByteArray.ext (Array.toList_inj.1 h1), h2⟩
    · cases h
  · rintro ⟨rfl, h2⟩
    exact .inl ⟨rfl, rfl, h2⟩
theorem right_text (S : ByteArray) (L P : Int) : VP.Right (pv false S L P) ↔ S.size ≤ 256 ∧ L = 0 ∧ P = 0 := by
  constructor
  · rintro (⟨h, _⟩ | ⟨_, h⟩)
    · cases h
    · exact h
  · exact fun h => .inr ⟨rfl, h⟩
theorem empty_eq (S : ByteArray) : (S.toList == []) = decide (S = ⟨#[]⟩) := by
  rw [Lib.toList_data]
  by_cases h : S = ⟨#[]⟩
  · subst h; rfl
  · rw [decide_eq_false h]
    exact beq_eq_false_iff_ne.2 fun e => h (ByteArray.ext (Array.toList_inj.1 e))

set_option maxHeartbeats 1000000 in
theorem rright_any (O : Bool) (S : ByteArray) (L P : Int) (w : World) :
    Calls Try.prog 20 #[vv O S L P] w fun e w' => e = .returned (.bool (decide (VP.Right (pv O S L P)))) ∧ Below w.heap.size w w' := by
  cases O with
  | true =>
    have he := empty_eq S
    have he2 : (S.toList == (⟨#[]⟩ : ByteArray).toList) = decide (S = ⟨#[]⟩) := by rw [Lib.toList_data ⟨#[]⟩]; exact he
    by_cases h0 : S = ⟨#[]⟩
    · rw [decide_eq_true h0] at he he2
      rcases (show L < 1 ∨ 4096 < L ∨ (1 ≤ L ∧ L ≤ 4096 ∧ P < 1) ∨ (1 ≤ L ∧ L ≤ 4096 ∧ 4095 < P) ∨ (1 ≤ L ∧ L ≤ 4096 ∧ 1 ≤ P ∧ P ≤ 4095) by omega) with h | h | h | h | h
      · have e : decide (VP.Right (pv true S L P)) = false := decide_eq_false (fun h' => by have := (right_over S L P).1 h'; omega)
        rw [e]
        go_enter Try.func20, Try.ntmps20
        go_wp2_with fail
        go_ret
        exact ⟨rfl, below_alloc _ _⟩
      · have e : decide (VP.Right (pv true S L P)) = false := decide_eq_false (fun h' => by have := (right_over S L P).1 h'; omega)
        rw [e]
        go_enter Try.func20, Try.ntmps20
        go_wp2_with fail
        go_ret
        exact ⟨rfl, below_alloc _ _⟩
      · have e : decide (VP.Right (pv true S L P)) = false := decide_eq_false (fun h' => by have := (right_over S L P).1 h'; omega)
        rw [e]
        obtain ⟨h1, h2, h3⟩ := h
        go_enter Try.func20, Try.ntmps20
        go_wp2_with fail
        go_ret
        exact ⟨rfl, below_alloc _ _⟩
      · have e : decide (VP.Right (pv true S L P)) = false := decide_eq_false (fun h' => by have := (right_over S L P).1 h'; omega)
        rw [e]
        obtain ⟨h1, h2, h3⟩ := h
        have d1 : decide (P ≤ 4095) = false := decide_eq_false (by omega)
        go_enter Try.func20, Try.ntmps20
        go_wp2_with fail
        go_ret
        exact ⟨rfl, below_alloc _ _⟩
      · have e : decide (VP.Right (pv true S L P)) = true := decide_eq_true ((right_over S L P).2 ⟨h0, h.1, h.2.1, h.2.2.1, h.2.2.2⟩)
        rw [e]
        obtain ⟨h1, h2, h3, h4⟩ := h
        go_enter Try.func20, Try.ntmps20
        go_wp2_with fail
        go_ret
        exact ⟨rfl, below_alloc _ _⟩
    · rw [decide_eq_false h0] at he he2
      have e : decide (VP.Right (pv true S L P)) = false := decide_eq_false (fun h' => h0 ((right_over S L P).1 h').1)
      rw [e]
      go_enter Try.func20, Try.ntmps20
      go_wp2_with fail
      go_ret
      exact ⟨rfl, below_alloc _ _⟩
  | false =>
    rcases (show 256 < S.size ∨ (S.size ≤ 256 ∧ L ≠ 0) ∨ (S.size ≤ 256 ∧ L = 0 ∧ P ≠ 0) ∨ (S.size ≤ 256 ∧ L = 0 ∧ P = 0) by omega) with h | h | h | h
    · have e : decide (VP.Right (pv false S L P)) = false := decide_eq_false (fun h' => by have := (right_text S L P).1 h'; omega)
      rw [e]
      have d1 : decide ((S.size : Int) ≤ 256) = false := decide_eq_false (by omega)
      have d2 : decide (S.size ≤ 256) = false := decide_eq_false (by omega)
      go_enter Try.func20, Try.ntmps20
      go_wp2_with fail
      go_ret
      exact ⟨rfl, below_alloc _ _⟩
    · have e : decide (VP.Right (pv false S L P)) = false := decide_eq_false (fun h' => by have := (right_text S L P).1 h'; omega)
      rw [e]
      have d1 : decide ((S.size : Int) ≤ 256) = true := decide_eq_true (by omega)
      have d2 : decide (S.size ≤ 256) = true := decide_eq_true (by omega)
      have d3 : (L == 0) = false := beq_eq_false_iff_ne.2 h.2
      go_enter Try.func20, Try.ntmps20
      go_wp2_with fail
      go_ret
      exact ⟨rfl, below_alloc _ _⟩
    · have e : decide (VP.Right (pv false S L P)) = false := decide_eq_false (fun h' => by have := (right_text S L P).1 h'; omega)
      rw [e]
      have d1 : decide ((S.size : Int) ≤ 256) = true := decide_eq_true (by omega)
      have d2 : decide (S.size ≤ 256) = true := decide_eq_true (by omega)
      obtain ⟨h1, rfl, h3⟩ := h
      have d3 : (P == 0) = false := beq_eq_false_iff_ne.2 h3
      go_enter Try.func20, Try.ntmps20
      go_wp2_with fail
      go_ret
      exact ⟨rfl, below_alloc _ _⟩
    · have e : decide (VP.Right (pv false S L P)) = true := decide_eq_true ((right_text S L P).2 h)
      rw [e]
      have d1 : decide ((S.size : Int) ≤ 256) = true := decide_eq_true (by omega)
      have d2 : decide (S.size ≤ 256) = true := decide_eq_true (by omega)
      obtain ⟨h1, rfl, rfl⟩ := h
      go_enter Try.func20, Try.ntmps20
      go_wp2_with fail
      go_ret
      exact ⟨rfl, below_alloc _ _⟩
end Go.Proofs.Ytppnchjmbeinkaa
