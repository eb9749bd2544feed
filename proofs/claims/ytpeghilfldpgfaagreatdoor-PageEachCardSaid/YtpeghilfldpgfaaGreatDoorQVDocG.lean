import Derived.Test.YtpeghilfldpgfaaGreatDoorQ05
namespace Go.Proofs.YtpeghilfldpgfaaGreatDoor.L9
open Go.RowKit
set_option linter.unusedVariables false
set_option linter.unusedSimpArgs false
def gotV : Option (List UInt8 × VP.V) → Value
  | none => .tuple #[.string ⟨#[]⟩, vv false ⟨#[]⟩ 0 0, .int .i64 3]
  | some x => .tuple #[.string ⟨x.1.toArray⟩, vv x.2.over ⟨x.2.s.toArray⟩ x.2.len x.2.page, .int .i64 0]
theorem gtext_some {l t : List UInt8} {i k : Nat} (h : VP.gtext l i = some (t, k)) : k ≤ l.length ∧ t.length ≤ l.length := by
  unfold VP.gtext at h
  simp only at h
  split at h
  · rename_i h1
    simp only [Option.some.injEq, Prod.mk.injEq] at h
    obtain ⟨rfl, rfl⟩ := h
    have hsp := WP.get_spec l i
    refine ⟨?_, by simp; omega⟩
    rcases hsp with e | e | ⟨n, tu, e, h2, h3, _⟩
    · rw [e] at h1; simp at h1
    · rw [e] at h1; simp at h1
    · rw [e] at h1 ⊢
      simp only at h1 ⊢
      omega
  · simp at h
theorem listS (l : List UInt8) : ∃ T : ByteArray, l = T.data.toList := ⟨⟨l.toArray⟩, by simp⟩
end Go.Proofs.YtpeghilfldpgfaaGreatDoor.L9
