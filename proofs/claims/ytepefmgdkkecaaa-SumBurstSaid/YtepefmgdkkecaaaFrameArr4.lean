/-
  How an array of four bytes that came in is opened.
-/
import Derived.Test.YtepefmgdkkecaaaFrame
namespace Go.Proofs.Ytepefmgdkkecaaa
open Go.ChangeShapes Go.WideShapes Go.ChangeAt Go.RowKit

theorem u8_of {n : Int} (h : (Lit.int .u8 n).wf = true) : ∃ c : UInt8, n = c.toNat := by
  have := bounds_u8 h
  exact ⟨UInt8.ofNat n.toNat, by simp; omega⟩

theorem open_four_bytes {P : Program} {H : Type} {enc : TypeId × Value → H} {w : World} {t e : TypeId} {r : Reach} {b0 : Nat} {v : Value} {d : DataW H} {p : List MemPlace}
    (ht : P.underlying t = some (.array 4 e)) (he : P.underlying e = some (.int .u8)) (hce : P.cellsOf e = 1) (hct : P.cellsOf t = 4)
    (hv : Value.okWide P w r b0 t v) (h : DataW.Trod enc P w 0 (fun _ => true) true t v d p) :
    ∃ x y z u : UInt8, v = .agg #[.int .u8 x.toNat, .int .u8 y.toNat, .int .u8 z.toNat, .int .u8 u.toNat] := by
  unfold Value.okWide at hv
  rw [ht] at hv
  obtain ⟨cs, rfl, hsz, _⟩ := hv
  obtain ⟨fuel, hf⟩ := h
  obtain ⟨xs, m, _, _, hlen, hn, hall⟩ := DataW.trod_array ht hf
  rw [hct] at hsz
  obtain ⟨c0, c1, c2, c3, rfl⟩ : ∃ c0 c1 c2 c3, cs = #[c0, c1, c2, c3] := by
    obtain ⟨l⟩ := cs
    match l, hsz with
    | [c0, c1, c2, c3], _ => exact ⟨c0, c1, c2, c3, rfl⟩
  have h0 := hall 0 (by omega)
  have h1 := hall 1 (by omega)
  have h2 := hall 2 (by omega)
  have h3 := hall 3 (by omega)
  rw [hce] at h0 h1 h2 h3
  obtain ⟨y0, y1, y2, y3, rfl⟩ : ∃ y0 y1 y2 y3, xs = [y0, y1, y2, y3] := by
    match xs, hn with
    | [a, b, c, d], _ => exact ⟨a, b, c, d, rfl⟩
  simp [Value.cells] at h0 h1 h2 h3
  obtain ⟨x, hx, _, hxl⟩ := DataW.trod_int he h0
  obtain ⟨y, hy, _, hyl⟩ := DataW.trod_int he h1
  obtain ⟨z, hz, _, hzl⟩ := DataW.trod_int he h2
  obtain ⟨u, hu, _, hul⟩ := DataW.trod_int he h3
  simp at hx hy hz hu
  subst hx hy hz hu
  obtain ⟨x, rfl⟩ := u8_of hxl
  obtain ⟨y, rfl⟩ := u8_of hyl
  obtain ⟨z, rfl⟩ := u8_of hzl
  obtain ⟨u, rfl⟩ := u8_of hul
  exact ⟨x, y, z, u, rfl⟩

end Go.Proofs.Ytepefmgdkkecaaa
