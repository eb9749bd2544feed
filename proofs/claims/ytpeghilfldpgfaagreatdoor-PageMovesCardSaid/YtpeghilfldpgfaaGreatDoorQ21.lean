import Derived.Test.YtpeghilfldpgfaaGreatDoorQ01
import Derived.OpenShut
import Derived.ShutString
import Derived.ChangeOld
import Derived.SliceStrings
namespace Go.Proofs.YtpeghilfldpgfaaGreatDoor.L5
open Go.ChangeShapes Go.WideShapes Go.ChangeAt Go.RowKit
theorem open_texts {H : Type} {enc : TypeId × Value → H} {w : World} {a : Option Addr} {len cap : Nat} {d : DataW H} {p : List MemPlace}
    (h : DataW.Trod enc Tryz.prog w 0 (fun _ => true) true 22 (.slice a len cap) d p) :
    ∃ l : List ByteArray, len = l.length ∧ Lies w w.heap.size a l ∧ (∀ s ∈ l, s.size ≤ maxLen) ∧ l.length ≤ maxLen := by
  obtain ⟨fuel, hf⟩ := h
  rcases open_strings Tryz.underlying22 Tryz.underlying9 (by kernel_rfl) hf with ⟨hcs, _⟩ | ⟨x, l, c, ss, hcs, _, hl, hm, hz, _, hcell, hsz⟩
  · simp [Value.cells] at hcs
    obtain ⟨rfl, rfl, rfl⟩ := hcs
    exact ⟨[], rfl, Lies.nil _ _ _, fun c h => by simp at h, by simp⟩
  · simp [Value.cells] at hcs
    obtain ⟨rfl, rfl, rfl⟩ := hcs
    have hz' : ss.length = cap := by simpa using hz
    refine ⟨ss.take len, by simp; omega, fun i s hs => ?_, fun s hs => hsz s (List.mem_of_mem_take hs), by simp; omega⟩
    have hi : i < len := by
      have := (List.getElem?_eq_some_iff.1 hs).1
      simp at this
      omega
    rw [List.getElem?_take, if_pos hi] at hs
    have hc := hcell i (by omega)
    have e : ss.getD i ByteArray.empty = s := by simp [List.getD, hs]
    rw [e] at hc
    refine ⟨x, rfl, ?_, hc⟩
    rcases Nat.lt_or_ge x.block w.heap.size with h1 | h1
    · exact h1
    · have h2 := addr_block x i
      simp [World.cell?, h2, Array.getElem?_eq_none h1] at hc
end Go.Proofs.YtpeghilfldpgfaaGreatDoor.L5
