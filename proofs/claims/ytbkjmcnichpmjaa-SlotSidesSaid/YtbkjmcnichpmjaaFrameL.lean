/-
  How cells (bytes, and a list of texts) and a body (bytes, and two numbers), that came in, are opened.
-/
import Derived.Test.YtbkjmcnichpmjaaFrameT
import Derived.Lib.SmallJoins
namespace Go.Proofs.Ytbkjmcnichpmjaa
open Go Go.ChangeShapes Go.WideShapes Go.ChangeAt Go.RowKit
set_option linter.unusedVariables false

theorem Try.cellsCells : Try.prog.cellsOf 24 = 2 := by kernel_rfl
theorem Try.cellsBody : Try.prog.cellsOf 26 = 3 := by kernel_rfl
theorem Try.cellsStr1 : Try.prog.cellsOf 9 = 1 := by kernel_rfl
theorem Try.cellsInt1 : Try.prog.cellsOf 3 = 1 := by kernel_rfl
theorem Try.cellsStrs : Try.prog.cellsOf 22 = 1 := by kernel_rfl
theorem texts_of {H : Type} {enc : TypeId × Value → H} {w : World} {fuel : Nat} {cs : List Value} {x0 : DataW H × List MemPlace}
    (hf : DataW.trod enc Try.prog w 0 (fun _ => true) true fuel 22 cs = some x0) :
    ∃ (A : Option Addr) (l : List ByteArray) (ca : Nat), cs = [.slice A l.length ca] ∧ Lies w w.heap.size A l ∧ (∀ s ∈ l, s.size ≤ maxLen) ∧ l.length ≤ maxLen ∧ l.length ≤ ca := by
  rcases open_strings Try.underlying22 Try.underlying9 (by kernel_rfl) hf with ⟨hcs, _⟩ | ⟨x, l, c, ss, hcs, _, hl, hm, hz, _, hcell, hsz⟩
  · exact ⟨none, [], 0, hcs, Lies.nil _ _ _, fun c h => by simp at h, by simp, Nat.le_refl _⟩
  · have hz' : ss.length = c := by simpa using hz
    have hlen : (ss.take l).length = l := by simp; omega
    refine ⟨some x, ss.take l, c, by rw [hlen]; exact hcs, fun i s hs => ?_, fun s hs => hsz s (List.mem_of_mem_take hs), by rw [hlen]; omega, by rw [hlen]; exact hl⟩
    have hi : i < l := by
      have := (List.getElem?_eq_some_iff.1 hs).1
      simp at this
      omega
    rw [List.getElem?_take, if_pos hi] at hs
    have hc := hcell i (by omega)
    have e : ss.getD i ByteArray.empty = s := by simp [List.getD, hs]
    rw [e] at hc
    refine ⟨x, rfl, ?_, hc⟩
    rcases Nat.lt_or_ge x.block w.heap.size with h1 | h1
    · exact h1
    · have h2 := addr_block x i
      simp [World.cell?, h2, Array.getElem?_eq_none h1] at hc
set_option maxRecDepth 100000 in
theorem open_cells {H : Type} {enc : TypeId × Value → H} {w : World} {r : Reach} {b0 : Nat} {v : Value} {d : DataW H} {p : List MemPlace}
    (hv : Value.okWide Try.prog w r b0 24 v) (h : DataW.Trod enc Try.prog w 0 (fun _ => true) true 24 v d p) :
    ∃ (S : ByteArray) (A : Option Addr) (l : List ByteArray) (ca : Nat), v = .agg #[.string S, .slice A l.length ca] ∧ S.size ≤ maxLen ∧ Lies w w.heap.size A l ∧ (∀ s ∈ l, s.size ≤ maxLen) ∧ l.length ≤ maxLen ∧ l.length ≤ ca := by
  obtain ⟨cs, rfl, hsz⟩ := okWide_struct Try.underlying24 hv
  rw [Try.cellsCells] at hsz
  obtain ⟨v0, v1, rfl⟩ : ∃ v0 v1, cs = #[v0, v1] := by
    match cs, hsz with
    | ⟨[v0, v1]⟩, _ => exact ⟨v0, v1, rfl⟩
  obtain ⟨fuel, hf⟩ := h
  obtain ⟨y0, y1, n, _, _, h0, h1⟩ := trod_struct2 Try.underlying24 hf
  simp only [Try.cellsStr1, Try.cellsStrs] at h0 h1
  obtain ⟨S, e0, _, k0⟩ := DataW.trod_string Try.underlying9 h0
  obtain ⟨A, l, ca, e1, z1, z2, z3, z4⟩ := texts_of h1
  simp [Value.cells] at e0 e1
  subst e0 e1
  exact ⟨S, A, l, ca, rfl, k0, z1, z2, z3, z4⟩
theorem trod_struct3' {P : Program} {H : Type} {enc : TypeId × Value → H} {w : World} {t : TypeId} {f0 f1 f2 : Field} {fuel : Nat} {cs : List Value} {x : DataW H × List MemPlace} (ht : P.underlying t = some (.struct #[f0, f1, f2])) (h : DataW.trod enc P w 0 (fun _ => true) true fuel t cs = some x) :
    ∃ y0 y1 y2 n, DataW.trod enc P w 0 (fun _ => true) true n f0.type ((cs.drop f0.offset).take (P.cellsOf f0.type)) = some y0 ∧
      DataW.trod enc P w 0 (fun _ => true) true n f1.type ((cs.drop f1.offset).take (P.cellsOf f1.type)) = some y1 ∧ DataW.trod enc P w 0 (fun _ => true) true n f2.type ((cs.drop f2.offset).take (P.cellsOf f2.type)) = some y2 := by
  obtain ⟨xs, n, _, rfl, hl, hlen, hf⟩ := DataW.trod_struct ht h
  match xs, hlen with
  | [y0, y1, y2], _ => exact ⟨y0, y1, y2, n, by simpa using hf 0 f0 rfl, by simpa using hf 1 f1 rfl, by simpa using hf 2 f2 rfl⟩
set_option maxRecDepth 100000 in
theorem open_body {H : Type} {enc : TypeId × Value → H} {w : World} {r : Reach} {b0 : Nat} {v : Value} {d : DataW H} {p : List MemPlace}
    (hv : Value.okWide Try.prog w r b0 26 v) (h : DataW.Trod enc Try.prog w 0 (fun _ => true) true 26 v d p) :
    ∃ (S : ByteArray) (a n : Int), v = .agg #[.string S, .int .i64 a, .int .i64 n] ∧ S.size ≤ maxLen ∧ (Lit.int .i64 a).wf = true ∧ (Lit.int .i64 n).wf = true := by
  obtain ⟨cs, rfl, hsz⟩ := okWide_struct Try.underlying26 hv
  rw [Try.cellsBody] at hsz
  obtain ⟨v0, v1, v2, rfl⟩ : ∃ v0 v1 v2, cs = #[v0, v1, v2] := by
    match cs, hsz with
    | ⟨[v0, v1, v2]⟩, _ => exact ⟨v0, v1, v2, rfl⟩
  obtain ⟨fuel, hf⟩ := h
  obtain ⟨y0, y1, y2, n, h0, h1, h2⟩ := trod_struct3' Try.underlying26 hf
  simp only [Try.cellsStr1, Try.cellsInt1] at h0 h1 h2
  obtain ⟨S, e0, _, k0⟩ := DataW.trod_string Try.underlying9 h0
  obtain ⟨a, e1, _, k1⟩ := DataW.trod_int Try.underlying3 h1
  obtain ⟨m, e2, _, k2⟩ := DataW.trod_int Try.underlying3 h2
  simp [Value.cells] at e0 e1 e2
  subst e0 e1 e2
  exact ⟨S, a, m, rfl, k0, k1, k2⟩
end Go.Proofs.Ytbkjmcnichpmjaa
