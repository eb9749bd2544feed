/-
  A disk, and beside it a row of texts of the law's own, which is apart from it.
-/
import Derived.Test.YtaeiifmdbdhoeaaDoorGLaws2
namespace Go.Proofs.YtaeiifmdbdhoeaaDoor
open Go.RowKit
open Go.ChangeShapes
open DP (W D C)
set_option linter.unusedVariables false
set_option linter.unusedSimpArgs false

structure KW (n : Nat) (w W : World) (b : Nat) (d : D) (g cap : Nat) (wl : List ByteArray) : Prop where
  has : HasX (fun j => j = g) W b d
  low : n ≤ b
  bel : Below n w W
  row : W.ownsRow n 9 1 (.slice (some ⟨g, 0, none⟩) wl.length cap) wl.length (strCells wl)
section
variable {n : Nat} {w W W' : World} {b g cap : Nat} {d d' : D} {wl : List ByteArray}
theorem KW.at_ (h : KW n w W b d g cap wl) : At n w W b d := ⟨h.has.all, h.low, h.bel⟩
theorem KW.glt (h : KW n w W b d g cap wl) : g < W.heap.size ∧ n ≤ g := by
  have := h.row.lt g rfl
  exact ⟨this.2, this.1⟩
theorem KW.fb (h : KW n w W b d g cap wl) : ∀ k, (fun j => j = g) k → k < W.heap.size := fun k hk => by rw [show k = g from hk]; exact h.glt.1
theorem KW.gne (h : KW n w W b d g cap wl) : g ≠ b := fun e => by
  obtain ⟨A1, c1, L1, A2, c2, L2, nw, lim, lf, h1, _⟩ := h.has.parts
  obtain ⟨cur, hcur⟩ := own_type h.row (g := g) rfl
  unfold Obd at h1
  rw [e, h1] at hcur
  simp at hcur
theorem KW.below (h : KW n w W b d g cap wl) (hn : n ≤ w.heap.size) (k : Below W.heap.size W W') : KW n w W' b d g cap wl :=
  ⟨h.has.below k, h.low, h.bel.trans (k.mono (Nat.le_trans hn h.bel.size)), own_below h.row k⟩
theorem KW.next (h : KW n w W b d g cap wl) (hn : n ≤ w.heap.size) (hg : HasX (fun j => j = g) W' b d') (k : Chg (fun j => j = b) W W') : KW n w W' b d' g cap wl :=
  ⟨hg, h.low, h.bel.trans (k.below (fun j e => by rw [e]; exact h.low) (Nat.le_trans hn h.bel.size)), own_stays h.row fun j hj => k.block j (h.row.lt j hj).2 (own_ne hj h.gne)⟩
/-- A place of the row is set. -/
theorem KW.set (h : KW n w W b d g cap wl) (hn : n ≤ w.heap.size) (k : Nat) (s : ByteArray) : KW n w (W.setCell ⟨g, k, none⟩ (.string s)) b d g cap (wl.set k s) := by
  have h1 := (h.row.stored k (.string s)).1
  refine ⟨h.has.stF (heap_setCell_other _ _ _ _ (Ne.symm h.gne)) (fun j cs t fz hj ht => heap_setCell_other _ _ _ _ (fun e => ?_)), h.low, h.bel.setCell (p := ⟨g, k, none⟩) h.glt.2 _, ?_⟩
  · obtain ⟨cur, hcur⟩ := own_type h.row (g := g) rfl
    have e' : j = g := e
    subst e'
    rw [hj] at hcur
    simp at hcur
    rcases ht with h3 | h3 | h3
    · exact h3.2 rfl
    · exact absurd (hcur.2.1.symm.trans h3) (by decide)
    · exact absurd (hcur.2.1.symm.trans h3) (by decide)
  · rw [List.length_set]
    have e : strCells (wl.set k s) = (strCells wl).set k (.string s) := by simp [strCells, List.map_set]
    rw [e]
    exact h1
/-- A text more. -/
theorem KW.more (h : KW n w W b d g cap wl) (hn : n ≤ w.heap.size) {g' cap' : Nat} {s : ByteArray} (ho : W'.ownsRow n 9 1 (.slice (some ⟨g', 0, none⟩) (wl.length + 1) cap') (wl.length + 1) (strCells wl ++ [.string s])) (hg : W.grownBy W' (Value.slice (some ⟨g, 0, none⟩) wl.length cap).ownBlock) (hat : (Value.slice (some ⟨g, 0, none⟩) wl.length cap).ownBlock = some g' ∨ g' = W.heap.size) : KW n w W' b d g' cap' (wl ++ [s]) := by
  have hx : HasX (fun j => j = g ∨ j = W.heap.size) W b d := h.has.wide fun j hj hf => by
    rcases hf with e | e
    · exact e
    · omega
  have hb : W'.heap[b]? = W.heap[b]? := hg.block b h.has.lt (fun e => h.gne (Option.some.inj e).symm)
  have hs : StF (fun j => j = g ∨ j = W.heap.size) W W' := fun j cs t fz hj ht => hg.block j (Array.getElem?_eq_some_iff.1 hj).1 (fun e => by
    have e' : j = g := Option.some.inj e
    subst e'
    obtain ⟨cur, hcur⟩ := own_type h.row (g := j) rfl
    rw [hj] at hcur
    simp at hcur
    rcases ht with h3 | h3 | h3
    · exact h3.2 (.inl rfl)
    · exact absurd (hcur.2.1.symm.trans h3) (by decide)
    · exact absurd (hcur.2.1.symm.trans h3) (by decide))
  have hx' := hx.stF hb hs
  refine ⟨hx'.wide fun j hj hf => ?_, h.low, h.bel.trans (own_apart h.row hg (Nat.le_refl _) (Nat.le_trans hn h.bel.size)), ?_⟩
  · have e : j = g' := hf
    rcases hat with h3 | h3
    · exact .inl (by rw [e]; exact (Option.some.inj h3).symm)
    · exact .inr (by rw [e]; exact h3)
  · have e : (wl ++ [s]).length = wl.length + 1 := by simp
    rw [e, strCells_snoc]
    exact ho
theorem kw_write (h : KW n w W b d g cap wl) (hn : n ≤ w.heap.size) (i r : Int) (s : ByteArray) (hi : (Lit.int .i64 i).wf = true) (hs : s.size ≤ maxLen) (hv : d.write i s = (d', r)) :
    Calls Tryd.prog 25 #[.pointer (some ⟨b, 0, none⟩), .int .i64 i, .string s] W fun e w' => e = .returned (.int .i64 r) ∧ KW n w w' b d' g cap wl := by
  refine (write_anyX b d i s W h.fb h.has hi hs).mono ?_
  rintro e w' ⟨rfl, hg, hc⟩
  rw [hv] at hg ⊢
  exact ⟨rfl, h.next hn hg hc⟩
theorem kw_sync (h : KW n w W b d g cap wl) (hn : n ≤ w.heap.size) (r : Int) (hv : d.sync = (d', r)) :
    Calls Tryd.prog 26 #[.pointer (some ⟨b, 0, none⟩)] W fun e w' => e = .returned (.int .i64 r) ∧ KW n w w' b d' g cap wl := by
  refine (sync_any b d W h.has).mono ?_
  rintro e w' ⟨rfl, hg, hc⟩
  rw [hv] at hg ⊢
  exact ⟨rfl, h.next hn hg hc⟩
theorem kw_crash (h : KW n w W b d g cap wl) (hn : n ≤ w.heap.size) (A : Option Addr) (cs : List C) (ca : Nat) (ha : LiesG W A cs) (hq : d.q.length ≤ 5000) (hl : cs.length ≤ 9223372036854775807) (hv : d.crash cs = d') :
    Calls Tryd.prog 27 #[.pointer (some ⟨b, 0, none⟩), .slice A cs.length ca] W fun e w' => e = .returned (.tuple #[]) ∧ KW n w w' b d' g cap wl := by
  refine (crash_anyX b d A cs ca W h.fb h.has ha hq hl).mono ?_
  rintro e w' ⟨rfl, hg, hc⟩
  rw [hv] at hg
  exact ⟨rfl, h.next hn hg hc⟩
theorem kw_new (h : At n w W b d) (hn : n ≤ w.heap.size) : KW n w (W.alloc (.cells #[] 9)) b d W.heap.size 0 [] :=
  ⟨(HasX.wide (Fc := fun j => j = W.heap.size) h.has (fun j hj hf => by have e : j = W.heap.size := hf; omega)).below (below_alloc W _), h.low, h.bel.trans ((below_alloc W _).mono (Nat.le_trans hn h.bel.size)), own_weaker (own_empty W 9 1) (Nat.le_trans hn h.bel.size)⟩
end
end Go.Proofs.YtaeiifmdbdhoeaaDoor
