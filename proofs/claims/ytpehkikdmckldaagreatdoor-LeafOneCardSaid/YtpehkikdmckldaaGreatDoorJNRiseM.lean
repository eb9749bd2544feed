/-
  What the law LeafRise asks, of a leaf that may be.
-/
import Derived.Test.YtpehkikdmckldaaGreatDoorJ08
namespace Go.Proofs.YtpehkikdmckldaaGreatDoor
open Go.RowKit NP
set_option linter.unusedVariables false

/-- In rows whose keys rise each is found. -/
theorem fnd_self {l : List It} (h : Rise l) {k : Nat} {x : It} (hx : l[k]? = some x) : fnd l x.k = some x := by
  refine fnd_at l k x x.k hx (fun y hy e => ?_) rfl
  obtain ⟨j, hj, rfl⟩ := List.getElem_of_mem hy
  have hj' : j < k := by simp at hj; omega
  have hjl : j < l.length := by simp at hj; omega
  have h1 : l[j]? = some ((l.take k)[j]) := by rw [List.getElem_take]; exact List.getElem?_eq_getElem hjl
  have h2 := rise_get h h1 hx hj'
  unfold It.key at h2
  rw [e] at h2
  exact List.lt_irrefl _ h2
/-- A row is found where a key is the one asked for. -/
theorem fnd_any : ∀ (l : List It) (key : ByteArray), (fnd l key).isSome = decide (∃ x ∈ l, x.k = key)
  | [], key => by simp [fnd]
  | x :: l, key => by
    unfold fnd
    split
    · rename_i h
      simp [h]
    · rename_i h
      rw [fnd_any l key]
      simp [h]
/-- What of a decoded page the law asks. -/
structure Rises (l : Lf) (p : Int) : Prop where
  self : 0 < l.self
  high : l.right = 0 ↔ l.high.size = 0
  rise : Rise l.items
  found : ∀ (k : Nat) (x : It), l.items[k]? = some x → fnd l.items x.k = some x
  below : l.right ≠ 0 → ∀ x ∈ l.items, x.key < l.high.data.toList
  key : ∀ x ∈ l.items, (x.k.size : Int) ≤ p / 8
  few : (2 * l.items.length : Nat) ≤ p
  short : ∀ x ∈ l.items, x.s.size ≤ 256
theorem dec_rises {s : ByteArray} {l : Lf} (h : dec s = some l) : Rises l s.size := by
  have he := (dec_iff s l).1 h
  obtain ⟨hm, hz⟩ : May l s.size ∧ (size l : Int) ≤ s.size - 16 := by
    rcases enc_cases l s.size with ⟨_, h1⟩ | ⟨_, _, h1⟩ | ⟨_, _, h1⟩ | ⟨h1, h2, _⟩
    · rw [h1] at he; exact absurd (congrArg Prod.snd he) (show ¬ ((4 : Int) = 0) by decide)
    · rw [h1] at he; exact absurd (congrArg Prod.snd he) (show ¬ ((3 : Int) = 0) by decide)
    · rw [h1] at he; exact absurd (congrArg Prod.snd he) (show ¬ ((8 : Int) = 0) by decide)
    · exact ⟨h1, by omega⟩
  obtain ⟨_, h1, h2, h3, h4⟩ := hm
  refine ⟨by have := h1.1; omega, ⟨h2.1, fun h0 => ?_⟩, h3, fun k x hx => fnd_self h3 hx, fun h0 => (h2.2 h0).2.2, fun x hx => (h4 x hx).1, ?_, fun x hx => ?_⟩
  · by_cases hr : l.right = 0
    · exact hr
    · exact absurd h0 (h2.2 hr).1
  · have h5 : 2 * (cells l.items).length ≤ size l := by unfold size L8.LP.need; omega
    have h6 : (cells l.items).length = l.items.length := by simp [cells]
    omega
  · have h5 : x.s.size = x.s.data.toList.length := by simp
    rcases (h4 x hx).2.1 with ⟨_, h6, _⟩ | ⟨_, h6, _⟩
    · have h7 : x.s.data.toList = [] := h6
      rw [h5, h7]
      decide
    · have h7 : x.s.data.toList.length ≤ 256 := h6
      omega
end Go.Proofs.YtpehkikdmckldaaGreatDoor
