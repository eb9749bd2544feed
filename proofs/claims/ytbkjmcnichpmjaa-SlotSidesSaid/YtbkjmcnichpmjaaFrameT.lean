/-
  How a slice of texts, and an array of three texts, that came in is opened.
-/
import Derived.Test.YtbkjmcnichpmjaaFrame
import Derived.Test.YtbkjmcnichpmjaaERow
import Derived.SliceStrings
namespace Go.Proofs.Ytbkjmcnichpmjaa
open Go.ChangeShapes Go.WideShapes Go.ChangeAt Go.RowKit

theorem open_texts {H : Type} {enc : TypeId × Value → H} {w : World} {a : Option Addr} {len cap : Nat} {d : DataW H} {p : List MemPlace}
    (h : DataW.Trod enc Try.prog w 0 (fun _ => true) true 22 (.slice a len cap) d p) :
    ∃ l : List ByteArray, len = l.length ∧ Lies w w.heap.size a l ∧ (∀ s ∈ l, s.size ≤ maxLen) ∧ l.length ≤ maxLen := by
  obtain ⟨fuel, hf⟩ := h
  rcases open_strings Try.underlying22 Try.underlying9 (by kernel_rfl) hf with ⟨hcs, _⟩ | ⟨x, l, c, ss, hcs, _, hl, hm, hz, _, hcell, hsz⟩
  · simp [Value.cells] at hcs
    obtain ⟨rfl, rfl, rfl⟩ := hcs
    exact ⟨[], rfl, Lies.nil _ _ _, fun c h => by simp at h, by simp⟩
  · simp [Value.cells] at hcs
    obtain ⟨rfl, rfl, rfl⟩ := hcs
    have hz' : ss.length = cap := by simpa using hz
    refine ⟨ss.take len, by simp; omega, fun i s hs => ?_, fun s hs => hsz s (List.mem_of_mem_take hs), by simp; omega⟩
    have hi : i < len := by
      have := (List.getElem?_eq_some_iff.1 hs).1
      simp at this
      omega
    rw [List.getElem?_take, if_pos hi] at hs
    have hc := hcell i (by omega)
    have e : ss.getD i ByteArray.empty = s := by simp [List.getD, hs]
    rw [e] at hc
    refine ⟨x, rfl, ?_, hc⟩
    rcases Nat.lt_or_ge x.block w.heap.size with h1 | h1
    · exact h1
    · have h2 := addr_block x i
      simp [World.cell?, h2, Array.getElem?_eq_none h1] at hc

theorem open_three_strings {P : Program} {H : Type} {enc : TypeId × Value → H} {w : World} {t e : TypeId} {r : Reach} {b0 : Nat} {v : Value} {d : DataW H} {p : List MemPlace}
    (ht : P.underlying t = some (.array 3 e)) (he : P.underlying e = some .string) (hce : P.cellsOf e = 1) (hct : P.cellsOf t = 3)
    (hv : Value.okWide P w r b0 t v) (h : DataW.Trod enc P w 0 (fun _ => true) true t v d p) :
    ∃ x y z : ByteArray, v = .agg #[.string x, .string y, .string z] ∧ x.size ≤ maxLen ∧ y.size ≤ maxLen ∧ z.size ≤ maxLen := by
  unfold Value.okWide at hv
  rw [ht] at hv
  obtain ⟨cs, rfl, hsz, _⟩ := hv
  obtain ⟨fuel, hf⟩ := h
  obtain ⟨xs, m, _, _, hlen, hn, hall⟩ := DataW.trod_array ht hf
  rw [hct] at hsz
  obtain ⟨c0, c1, c2, rfl⟩ : ∃ c0 c1 c2, cs = #[c0, c1, c2] := by
    obtain ⟨l⟩ := cs
    match l, hsz with
    | [c0, c1, c2], _ => exact ⟨c0, c1, c2, rfl⟩
  have h0 := hall 0 (by omega)
  have h1 := hall 1 (by omega)
  have h2 := hall 2 (by omega)
  rw [hce] at h0 h1 h2
  obtain ⟨y0, y1, y2, rfl⟩ : ∃ y0 y1 y2, xs = [y0, y1, y2] := by
    match xs, hn with
    | [a, b, c], _ => exact ⟨a, b, c, rfl⟩
  simp [Value.cells] at h0 h1 h2
  obtain ⟨x, hx, _, hxl⟩ := DataW.trod_string he h0
  obtain ⟨y, hy, _, hyl⟩ := DataW.trod_string he h1
  obtain ⟨z, hz, _, hzl⟩ := DataW.trod_string he h2
  simp at hx hy hz
  subst hx hy hz
  exact ⟨x, y, z, rfl, hxl, hyl, hzl⟩
end Go.Proofs.Ytbkjmcnichpmjaa
