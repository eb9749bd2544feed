/-
  What the walk of LeafTells stands on.
-/
import Derived.Test.YtpehkikdmckldaaGreatDoorJ18
import Derived.Test.YtpehkikdmckldaaGreatDoorJNCut
import Derived.Test.YtpehkikdmckldaaGreatDoorJNSame
import Derived.Test.YtpehkikdmckldaaGreatDoorJNDDec
import Derived.Test.YtpehkikdmckldaaGreatDoorJNRiseM
import Derived.Test.YtpehkikdmckldaaGreatDoorJ06
import Derived.Deep.RegionHeld3
import Derived.Deep.Cut
namespace Go.Proofs.YtpehkikdmckldaaGreatDoor
open Go.RowKit NP
set_option linter.unusedVariables false
set_option linter.unusedSimpArgs false

theorem eq_valD (O : Bool) (S : ByteArray) (L P : Int) (w : World) :
    (binOp .eql 44 (.agg #[.bool O, .string S, .int .i64 L, .int .i64 P]) (.agg #[.bool O, .string S, .int .i64 L, .int .i64 P])).run Tryz.prog w = .ok (.bool true) w := by
  simp [go_sem]
theorem tells_share {G : Prop} {A T : Option Addr → Nat → World → Prop} (main : (∀ g c U, A g c U → T g c U) → G) (tail : ∀ g c U, A g c U → T g c U) : G := main tail
/-- What both Decodes answer: the same leaf, or none. -/
theorem dec_both (T : ByteArray) (hT : T.size ≤ 1100) : ∃ (F R : Int) (H : ByteArray) (l : List It) (n : Nat) (c : Int), l.length = n ∧ n ≤ 1000 ∧ (∀ x ∈ l, x.s.size ≤ 1000000) ∧
    (∀ W, Glo W → Calls Tryz.prog 13 #[.string T] W fun e w' => ∃ G, e = .returned (.tuple #[lv F R H G n n, .int .i64 c]) ∧ Lies5 w' w'.heap.size G l ∧ Below W.heap.size W w') ∧
    (∀ W, Glo W → Calls Tryz.prog 14 #[.string T] W fun e w' => ∃ G cap, e = .returned (.tuple #[lv F R H G n cap, .int .i64 c]) ∧ Lies5 w' w'.heap.size G l ∧ Below W.heap.size W w') := by
  cases hX : dec T with
  | none =>
    refine ⟨0, 0, ⟨#[]⟩, [], 0, 3, rfl, by omega, fun x h => by simp at h, fun W h => (decN T hX W h (by omega)).mono fun e w' ⟨h1, h2⟩ => ⟨none, h1, Lies5.nil _ _ _, h2⟩, fun W h => (rdec_any T W h (by omega)).mono fun e w' ⟨h1, h2⟩ => ?_⟩
    rcases h1 with ⟨m, G, cap, hm, _⟩ | ⟨_, rfl⟩
    · rw [hX] at hm; exact nomatch hm
    · exact ⟨none, 0, rfl, Lies5.nil _ _ _, h2⟩
  | some X =>
    obtain ⟨F, R, H, l⟩ := X
    obtain ⟨e1, e2, e3, e4, e5⟩ := dec_facts hX
    have e6 := dec_rises hX
    simp only at e3 e4
    refine ⟨F, R, H, l, l.length, 0, rfl, by omega, fun x h => by have := e6.short x h; omega, fun W h => decT T F R H l l.length rfl hX W h (by omega), fun W h => (rdec_any T W h (by omega)).mono fun e w' ⟨h1, h2⟩ => ?_⟩
    rcases h1 with ⟨m, G, cap, hm, rfl, hL⟩ | ⟨h1, _⟩
    · rw [hX] at hm
      obtain rfl := Option.some.inj hm
      exact ⟨G, cap, rfl, hL, h2⟩
    · rw [hX] at h1; exact nomatch h1
/-- A page with a key, in its box. -/
def PBx (t : TypeId) (g : Nat) (s k : ByteArray) (w : World) : Prop := w.heap[g]? = some (.cells #[.string s, .string k] t (0, 0))
theorem PBx.cells {t : TypeId} {g : Nat} {s k : ByteArray} {w : World} (h : PBx t g s k w) : w.cell? ⟨g, 0, none⟩ = some (.string s) ∧ w.cell? ⟨g, 1, none⟩ = some (.string k) := by
  unfold PBx at h
  constructor <;> simp [World.cell?, h]
theorem PBx.lt {t : TypeId} {g : Nat} {s k : ByteArray} {w : World} (h : PBx t g s k w) : g < w.heap.size := (Array.getElem?_eq_some_iff.1 h).1
theorem PBx.below {t : TypeId} {g : Nat} {s k : ByteArray} {w w' : World} (h : PBx t g s k w) (b : Below w.heap.size w w') : PBx t g s k w' := (b.block g h.lt).trans h
theorem found_some (l : List It) (key : ByteArray) : ∃ O S L P b, foundV (fnd l key) = .tuple #[.agg #[.bool O, .string S, .int .i64 L, .int .i64 P], .bool b] := by
  cases fnd l key with
  | none => exact ⟨_, _, _, _, _, rfl⟩
  | some x => exact ⟨_, _, _, _, _, rfl⟩
end Go.Proofs.YtpehkikdmckldaaGreatDoor
