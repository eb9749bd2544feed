/-
  Plain steps of the disks of the laws of layer 6.
-/
import Derived.Test.YtaeiifmdbdhoeaaDoorGFixed2
import Derived.Test.YtaeiifmdbdhoeaaDoorFrameD
namespace Go.Proofs.YtaeiifmdbdhoeaaDoor
open Go.RowKit
open Go.ChangeShapes
open DP (W D C)
set_option linter.unusedVariables false
set_option linter.unusedSimpArgs false

/-- A write of the laws: one of the first pages, of a byte. -/
def wr8 (x : UInt8 × UInt8) : W := ⟨x.1.toNat % 8, pg x.2⟩
def wrs (l : List (UInt8 × UInt8)) : List W := l.map wr8
theorem wrs_length (l : List (UInt8 × UInt8)) : (wrs l).length = l.length := by simp [wrs]
theorem wrs_snoc (l : List (UInt8 × UInt8)) (k : Nat) (x : UInt8 × UInt8) (h : l[k]? = some x) : wrs (l.take (k + 1)) = wrs (l.take k) ++ [wr8 x] := by
  rw [List.take_add_one, h]
  simp [wrs]
theorem w8 (d : D) (x : UInt8 × UInt8) (hp : d.p = 128) (hr : 8 ≤ d.room) (hl : d.left = none) : d.write ((x.1.toNat % 8 : Nat) : Int) (pg x.2) = ({ d with q := d.q ++ [wr8 x] }, 0) := by
  rw [D.write_ok d _ _ (by rw [hl]; exact fun e => by cases e) (by rw [pg_size, hp]) (by omega)]
  unfold D.less
  rw [hl]
  obtain ⟨p, room, kept, q, left, reads⟩ := d
  simp only at hl
  subst hl
  rfl
theorem own_lies {w : World} {base g n cap : Nat} {l : List ByteArray} (h : w.ownsRow base 9 1 (.slice (some ⟨g, 0, none⟩) n cap) n (strCells l)) : Lies w w.heap.size (some ⟨g, 0, none⟩) l := lies_own h (by have := h.1; rw [strCells_length] at this; omega)
theorem Tryd.infoText : (Tryd.prog.info? 9).map (fun i => (i.zero, i.size, i.bytes)) = some (some (.string ⟨#[]⟩), 1, 16) := by kernel_rfl
theorem Tryd.infoChoice : (Tryd.prog.info? 54).map (fun i => (i.zero, i.size, i.bytes)) = some (some (.agg #[.int .i64 0, .int .i64 0]), 2, 16) := by kernel_rfl
theorem own_some' {w : World} {base e size n : Nat} {v : Value} {xs : List Value} (h : w.ownsRow base e size v n xs) (hne : v ≠ .slice none 0 0) : ∃ g cap, v = .slice (some ⟨g, 0, none⟩) n cap := by
  rcases h.2 with ⟨rfl, _⟩ | ⟨g, cap, cur, rfl, _⟩
  · exact absurd rfl hne
  · exact ⟨g, cap, rfl⟩
theorem own_ne {a n c g g1 : Nat} (h : (Value.slice (some ⟨a, 0, none⟩) n c).ownBlock = some g) (hne : a ≠ g1) : g ≠ g1 := by
  have e : a = g := by simpa [Value.ownBlock] using h
  rw [← e]
  exact hne
/-- A row of another type stays where a disk is changed. -/
theorem own_other {W W' : World} {b : Nat} {d : D} (h : HasG W b d) {base e size n : Nat} {v : Value} {xs : List Value} (ho : W.ownsRow base e size v n xs) (he : e ≠ 70) (hk : Chg (fun j => j = b) W W') : W'.ownsRow base e size v n xs := by
  obtain ⟨A1, c1, L1, A2, c2, L2, nw, lim, lf, h1, _⟩ := h.parts
  refine own_stays ho fun g hg => hk.block g (ho.lt g hg).2 (fun e' => ?_)
  subst e'
  obtain ⟨cur, hcur⟩ := own_type ho hg
  unfold Obd at h1
  rw [h1] at hcur
  simp at hcur
  exact he hcur.2.symm
end Go.Proofs.YtaeiifmdbdhoeaaDoor
