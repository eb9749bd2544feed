/-
  Rows of choices that a call owns; disks and rows where another row grows.
-/
import Derived.Test.YtaeiifmdbdhoeaaDoorGLaws
namespace Go.Proofs.YtaeiifmdbdhoeaaDoor
open Go.RowKit
open Go.ChangeShapes
open DP (W D C)
set_option linter.unusedVariables false
set_option linter.unusedSimpArgs false

/-- The cells of choices. -/
def chCells (q : List C) : List Value := q.flatMap fun x => [.int .i64 x.k, .int .i64 x.at_]
theorem chCells_snoc (q : List C) (x : C) : chCells (q ++ [x]) = chCells q ++ [.int .i64 x.k, .int .i64 x.at_] := by simp [chCells]
theorem chCells_get : ∀ (q : List C) (i : Nat) (x : C), q[i]? = some x → (chCells q)[i * 2]? = some (.int .i64 x.k) ∧ (chCells q)[i * 2 + 1]? = some (.int .i64 x.at_)
  | [], i, x, h => by simp at h
  | y :: q, 0, x, h => by
    simp at h
    subst h
    exact ⟨rfl, rfl⟩
  | y :: q, i + 1, x, h => by
    have := chCells_get q i x (by simpa using h)
    rw [show (i + 1) * 2 = i * 2 + 1 + 1 by omega]
    exact this
theorem liesG_own {w : World} {base e : Nat} {A : Option Addr} {n cap : Nat} {q : List C} (h : w.ownsRow base e 2 (.slice A n cap) n (chCells q)) (hn : n = q.length) (hb : ∀ c ∈ q, -9223372036854775808 ≤ c.at_ ∧ c.at_ ≤ 9223372036854775807) : LiesG w A q := fun i x hx => by
  have hi : i < q.length := (List.getElem?_eq_some_iff.1 hx).1
  obtain ⟨g, cap', hv, _, hlt⟩ := h.form (by omega)
  have hA : A = some ⟨g, 0, none⟩ := by injection hv
  subst hA
  obtain ⟨h0, h1⟩ := chCells_get q i x hx
  refine ⟨_, rfl, hlt, h.cells (g := g) rfl _ _ h0, ?_, hb x (List.mem_of_getElem? hx)⟩
  have h2 := h.cells (g := g) rfl _ _ h1
  rw [addr_at] at h2 ⊢
  exact h2
theorem own_weaker {w : World} {base base' e size n : Nat} {v : Value} {xs : List Value} (h : w.ownsRow base e size v n xs) (hb : base' ≤ base) : w.ownsRow base' e size v n xs := by
  refine ⟨h.1, ?_⟩
  rcases h.2 with h2 | ⟨g, cap, cur, e1, h3, h4⟩
  · exact .inl h2
  · exact .inr ⟨g, cap, cur, e1, by omega, h4⟩
theorem own_grown {w w' : World} {c c' e e' size size' n n' : Nat} {v v' : Value} {xs xs' : List Value} (h : w.ownsRow c e size v n xs) (h' : w.ownsRow c' e' size' v' n' xs') (he : e ≠ e') (hg : w.grownBy w' v'.ownBlock) : w'.ownsRow c e size v n xs :=
  own_stays h fun g hgv => hg.block g (h.lt g hgv).2 fun e1 => by
    obtain ⟨cur, h1⟩ := own_type h hgv
    obtain ⟨cur', h2⟩ := own_type h' e1.symm
    rw [h1] at h2
    simp at h2
    exact he h2.2
theorem at_grown {n : Nat} {w W W' : World} {b : Nat} {d : D} (h : At n w W b d) (hn : n ≤ w.heap.size) {e size k : Nat} {v : Value} {xs : List Value} (ho : W.ownsRow n e size v k xs) (he : e ≠ 70 ∧ e ≠ 9 ∧ e ≠ 39 ∧ e ≠ 83) (hg : W.grownBy W' v.ownBlock) : At n w W' b d := by
  obtain ⟨A1, c1, L1, A2, c2, L2, nw, lim, lf, h1, _⟩ := h.has.parts
  refine ⟨h.has.st (hg.block b h1.lt fun e1 => ?_) (fun j cs t fz hj ht => hg.block j (Array.getElem?_eq_some_iff.1 hj).1 fun e1 => ?_), h.low, h.bel.trans (own_apart ho hg (Nat.le_refl _) (Nat.le_trans hn h.bel.size))⟩
  · obtain ⟨cur, h2⟩ := own_type ho e1.symm
    unfold Obd at h1
    rw [h1] at h2
    simp at h2
    exact he.1 h2.2.symm
  · obtain ⟨cur, h2⟩ := own_type ho e1.symm
    rw [hj] at h2
    simp at h2
    rcases ht with h3 | h3 | h3
    · exact he.2.1 (h2.2.1.symm.trans h3)
    · exact he.2.2.1 (h2.2.1.symm.trans h3)
    · exact he.2.2.2 (h2.2.1.symm.trans h3)
theorem sync_none (kp : List ByteArray) (q : List W) : D.sync ⟨128, 8, kp, q, none, 0⟩ = (⟨128, 8, D.all ⟨128, 8, kp, q, none, 0⟩, [], none, 0⟩, 0) := sync_ok _ (fun e => by cases e)
theorem crash_all (kp : List ByteArray) (q : List W) (cs : List C) (h : D.Ok ⟨128, 8, kp, q, none, 0⟩) (hl : cs.length = q.length) (hc : ∀ c ∈ cs, c.k = 1 ∨ c.k = 2 ∧ 128 ≤ c.at_) : D.crash ⟨128, 8, kp, q, none, 0⟩ cs = ⟨128, 8, D.all ⟨128, 8, kp, q, none, 0⟩, [], none, 0⟩ := by
  unfold D.crash
  have := DP.crash_whole (p := 128) (q := q) (cs := cs) (l := kp) h.sized h.whole hl.symm (fun c hcc => hc c hcc)
  simp only [this]
  rfl
theorem crash_no (kp : List ByteArray) (q : List W) : D.crash ⟨128, 8, kp, q, none, 0⟩ [] = ⟨128, 8, kp, [], none, 0⟩ := by
  unfold D.crash
  simp only [DP.crash_nil]
end Go.Proofs.YtaeiifmdbdhoeaaDoor
