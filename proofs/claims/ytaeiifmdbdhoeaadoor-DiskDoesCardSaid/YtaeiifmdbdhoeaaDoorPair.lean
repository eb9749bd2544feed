/-
  The program's disk and the document's side by side, apart from one another.
-/
import Derived.Test.YtaeiifmdbdhoeaaDoorGLaws2
import Derived.Test.YtaeiifmdbdhoeaaDoorDFrom
import Derived.Test.YtaeiifmdbdhoeaaDoorDCrash
namespace Go.Proofs.YtaeiifmdbdhoeaaDoor
open Go.RowKit
open Go.ChangeShapes
open DP (W D C)
set_option linter.unusedVariables false
set_option linter.unusedSimpArgs false

section
variable {n : Nat} {w W W' : World} {b c : Nat} {d d' e e' : D} {F F' : Nat → Prop}
/-- Of which types the document's blocks are. -/
def Typed (W : World) (F : Nat → Prop) : Prop := ∀ k, F k → ∃ cs t fz, W.heap[k]? = some (.cells cs t fz) ∧ (t = 9 ∨ t = 80 ∨ t = 42)
theorem Has.sharp (h : Has W n F c e) : ∃ G, Has W n G c e ∧ (∀ k, G k → F k) ∧ Typed W G := by
  obtain ⟨K, P, kc, pc, h6, hK, hP, fK, fP⟩ := h.parts
  have hG : ∀ k, (k = c ∨ (Value.slice K e.kept.length kc).ownBlock = some k ∨ (Value.slice P e.q.length pc).ownBlock = some k) → F k := fun k hk => by
    rcases hk with hk | hk | hk
    · rw [hk]; exact h.mine
    · exact fK k hk
    · exact fP k hk
  refine ⟨fun k => k = c ∨ (Value.slice K e.kept.length kc).ownBlock = some k ∨ (Value.slice P e.q.length pc).ownBlock = some k, ⟨⟨K, P, kc, pc, h6, hK, hP, fun g hg => .inr (.inl hg), fun g hg => .inr (.inr hg)⟩, .inl rfl, fun k hk => h.low k (hG k hk), fun k hk => h.high k (hG k hk), h.ok, h.small⟩, hG, fun k hk => ?_⟩
  rcases hk with hk | hk | hk
  · subst hk
    exact ⟨_, _, _, h6, .inr (.inr rfl)⟩
  · obtain ⟨cur, h1⟩ := own_type hK hk
    exact ⟨_, _, _, h1, .inl rfl⟩
  · obtain ⟨cur, h1⟩ := own_type hP hk
    exact ⟨_, _, _, h1, .inr (.inl rfl)⟩

/-- Both disks. -/
structure PD (n : Nat) (w W : World) (b : Nat) (d : D) (c : Nat) (e : D) : Prop where
  parts : ∃ F, HasX F W b d ∧ Has W n F c e ∧ Typed W F
  low : n ≤ b
  bel : Below n w W
theorem pd_mk (hx : HasX F W b d) (hh : Has W n F c e) (hl : n ≤ b) (hb : Below n w W) : PD n w W b d c e := by
  obtain ⟨G, h1, h2, h3⟩ := hh.sharp
  exact ⟨⟨G, hx.wide fun j _ hj => h2 j hj, h1, h3⟩, hl, hb⟩
theorem PD.at_ (h : PD n w W b d c e) : At n w W b d := by
  obtain ⟨F, hx, _⟩ := h.parts
  exact ⟨hx.all, h.low, h.bel⟩
theorem PD.below (h : PD n w W b d c e) (hn : n ≤ w.heap.size) (k : Below W.heap.size W W') : PD n w W' b d c e := by
  obtain ⟨F, hx, hh, _⟩ := h.parts
  exact pd_mk (hx.below k) (hh.below k) h.low (h.bel.trans (k.mono (Nat.le_trans hn h.bel.size)))
theorem not_mine (hx : HasX F W b d) (ht : Typed W F) : ¬ F b := fun hf => by
  obtain ⟨A1, c1, L1, A2, c2, L2, nw, lim, lf, h1, _⟩ := hx.parts
  obtain ⟨cs, t, fz, h2, h3⟩ := ht b hf
  unfold Obd at h1
  rw [h1] at h2
  obtain ⟨_, h4, _⟩ : _ ∧ _ ∧ _ := by simpa using h2
  subst h4
  revert h3
  decide
theorem pd_p (hx : HasX F W' b d') (hk : Chg (fun j => j = b) W W') (hl : n ≤ b) (hb : Below n w W) (hn : n ≤ w.heap.size) (h0 : HasX F W b d) (hh : Has W n F c e) (ht : Typed W F) : PD n w W' b d' c e :=
  pd_mk hx (hh.chg hk fun i hi e1 => not_mine h0 ht (by rw [← show i = b from e1]; exact hi)) hl (hb.trans (hk.below (fun j e => by rw [e]; exact hl) (Nat.le_trans hn hb.size)))
theorem pd_d (hx : HasX F W b d) (hh : Has W n F c e) (ht : Typed W F) (hl : n ≤ b) (hb : Below n w W) (hn : n ≤ w.heap.size) (hh' : Has W' n F' c e') (hk : Chg F W W') (ho : Own W F F') : PD n w W' b d c e' := by
  have hx1 : HasX (fun k => F k ∨ F' k) W b d := hx.wide fun j hj hf => hf.elim id (ho j hj)
  have hst : StF (fun k => F k ∨ F' k) W W' := fun j cs t fz hj h => hk.block j (Array.getElem?_eq_some_iff.1 hj).1 fun hf => by
    obtain ⟨cs', t', fz', h2, h3⟩ := ht j hf
    rw [hj] at h2
    obtain ⟨_, h4, _⟩ : _ ∧ _ ∧ _ := by simpa using h2
    subst h4
    rcases h with h | h | h
    · exact h.2 (.inl hf)
    · subst h; revert h3; decide
    · subst h; revert h3; decide
  have hx2 := hx1.stF (hk.block b hx.lt (not_mine hx ht)) hst
  exact pd_mk (hx2.wide fun j _ hf => .inr hf) hh' hl (hb.trans (hk.below hh.low (Nat.le_trans hn hb.size)))

/-- Blocks of other types stay. -/
def KeepT (W W' : World) : Prop := ∀ (k : Nat) (cs : Array Value) (t : TypeId) (fz : Nat × Nat), (t ≠ 70 ∧ t ≠ 9 ∧ t ≠ 80 ∧ t ≠ 42) → W.heap[k]? = some (.cells cs t fz) → W'.heap[k]? = W.heap[k]?
theorem KeepT.trans {V : World} (h : KeepT W V) (k : KeepT V W') : KeepT W W' := fun i cs t fz ht hc => (k i cs t fz ht ((h i cs t fz ht hc).trans hc)).trans (h i cs t fz ht hc)
theorem keep_p (hx : HasX F W b d) (hk : Chg (fun j => j = b) W W') : KeepT W W' := fun k cs t fz ht hc => hk.block k (Array.getElem?_eq_some_iff.1 hc).1 fun e1 => by
  obtain ⟨A1, c1, L1, A2, c2, L2, nw, lim, lf, h1, _⟩ := hx.parts
  have e2 : k = b := e1
  subst e2
  unfold Obd at h1
  rw [h1] at hc
  obtain ⟨_, h4, _⟩ : _ ∧ _ ∧ _ := by simpa using hc
  exact ht.1 h4.symm
theorem keep_d (hh : Typed W F) (hk : Chg F W W') : KeepT W W' := fun k cs t fz ht hc => hk.block k (Array.getElem?_eq_some_iff.1 hc).1 fun hf => by
  obtain ⟨cs', t', fz', h2, h3⟩ := hh k hf
  rw [hc] at h2
  obtain ⟨_, h4, _⟩ : _ ∧ _ ∧ _ := by simpa using h2
  subst h4
  rcases h3 with h3 | h3 | h3
  · exact ht.2.1 h3
  · exact ht.2.2.1 h3
  · exact ht.2.2.2 h3
theorem keep_b (h : Below W.heap.size W W') : KeepT W W' := fun k cs t fz _ hc => h.block k (Array.getElem?_eq_some_iff.1 hc).1
theorem pd_pwrite (h : PD n w W b d c e) (hn : n ≤ w.heap.size) (i r : Int) (s : ByteArray) (hi : (Lit.int .i64 i).wf = true) (hs : s.size ≤ maxLen) (hv : d.write i s = (d', r)) :
    Calls Tryd.prog 25 #[.pointer (some ⟨b, 0, none⟩), .int .i64 i, .string s] W fun x w' => x = .returned (.int .i64 r) ∧ PD n w w' b d' c e ∧ KeepT W w' := by
  obtain ⟨F, hx, hh, ht⟩ := h.parts
  refine (write_anyX b d i s W hh.high hx hi hs).mono ?_
  rintro x w' ⟨rfl, hg, hc⟩
  rw [hv] at hg ⊢
  exact ⟨rfl, pd_p hg hc h.low h.bel hn hx hh ht, keep_p hx hc⟩
theorem pd_dwrite (h : PD n w W b d c e) (hn : n ≤ w.heap.size) (i r : Int) (s : ByteArray) (hi : (Lit.int .i64 i).wf = true) (hs : s.size ≤ maxLen) (hq : e.q.length ≤ 4000) (hv : e.write i s = (e', r)) :
    Calls Tryd.prog 34 #[.pointer (some ⟨c, 0, none⟩), .int .i64 i, .string s] W fun x w' => x = .returned (.int .i64 r) ∧ PD n w w' b d c e' ∧ KeepT W w' := by
  obtain ⟨F, hx, hh, ht⟩ := h.parts
  refine (writeRef_any c e i s n F W hh hi hs hq (Nat.le_trans hn h.bel.size)).mono ?_
  rintro x w' ⟨rfl, F', hg, hc, ho⟩
  rw [hv] at hg ⊢
  exact ⟨rfl, pd_d hx hh ht h.low h.bel hn hg hc ho, keep_d ht hc⟩
theorem pd_psync (h : PD n w W b d c e) (hn : n ≤ w.heap.size) (r : Int) (hv : d.sync = (d', r)) :
    Calls Tryd.prog 26 #[.pointer (some ⟨b, 0, none⟩)] W fun x w' => x = .returned (.int .i64 r) ∧ PD n w w' b d' c e ∧ KeepT W w' := by
  obtain ⟨F, hx, hh, ht⟩ := h.parts
  refine (sync_any b d W hx).mono ?_
  rintro x w' ⟨rfl, hg, hc⟩
  rw [hv] at hg ⊢
  exact ⟨rfl, pd_p hg hc h.low h.bel hn hx hh ht, keep_p hx hc⟩
theorem pd_dsync (h : PD n w W b d c e) (hn : n ≤ w.heap.size) (r : Int) (hq : e.q.length ≤ 5000) (hv : e.sync = (e', r)) :
    Calls Tryd.prog 35 #[.pointer (some ⟨c, 0, none⟩)] W fun x w' => x = .returned (.int .i64 r) ∧ PD n w w' b d c e' ∧ KeepT W w' := by
  obtain ⟨F, hx, hh, ht⟩ := h.parts
  refine (syncRef_any c e n F W hh hq (Nat.le_trans hn h.bel.size)).mono ?_
  rintro x w' ⟨rfl, F', hg, hc, ho⟩
  rw [hv] at hg ⊢
  exact ⟨rfl, pd_d hx hh ht h.low h.bel hn hg hc ho, keep_d ht hc⟩
theorem pd_plimit (h : PD n w W b d c e) (hn : n ≤ w.heap.size) (i : Int) (hi : (Lit.int .i64 i).wf = true) :
    Calls Tryd.prog 28 #[.pointer (some ⟨b, 0, none⟩), .int .i64 i] W fun x w' => x = .returned (.tuple #[]) ∧ PD n w w' b (d.limit i) c e ∧ KeepT W w' := by
  obtain ⟨F, hx, hh, ht⟩ := h.parts
  refine (limit_any b d i W hx hi).mono ?_
  rintro x w' ⟨rfl, hg, hc⟩
  exact ⟨rfl, pd_p hg hc h.low h.bel hn hx hh ht, keep_p hx hc⟩
theorem pd_dlimit (h : PD n w W b d c e) (hn : n ≤ w.heap.size) (i : Int) (hi : (Lit.int .i64 i).wf = true) :
    Calls Tryd.prog 36 #[.pointer (some ⟨c, 0, none⟩), .int .i64 i] W fun x w' => x = .returned (.tuple #[]) ∧ PD n w w' b d c (e.limit i) ∧ KeepT W w' := by
  obtain ⟨F, hx, hh, ht⟩ := h.parts
  refine (limitRef_any c e i n F W hh hi).mono ?_
  rintro x w' ⟨rfl, hg, hc⟩
  exact ⟨rfl, pd_d hx hh ht h.low h.bel hn hg hc (fun k _ hk => hk), keep_d ht hc⟩
theorem pd_pread (h : PD n w W b d c e) (hn : n ≤ w.heap.size) (i : Int) (hi : (Lit.int .i64 i).wf = true) (hr : d.reads < 1000000) :
    Calls Tryd.prog 29 #[.pointer (some ⟨b, 0, none⟩), .int .i64 i] W fun x w' => x = .returned (.tuple #[.string (d.read i).2.1, .int .i64 (d.read i).2.2]) ∧ PD n w w' b (d.read i).1 c e ∧ KeepT W w' := by
  obtain ⟨F, hx, hh, ht⟩ := h.parts
  refine (read_any b d i W hx hi hr).mono ?_
  rintro x w' ⟨rfl, hg, hc⟩
  exact ⟨rfl, pd_p hg hc h.low h.bel hn hx hh ht, keep_p hx hc⟩
theorem pd_dread (h : PD n w W b d c e) (hn : n ≤ w.heap.size) (i : Int) (hi : (Lit.int .i64 i).wf = true) (hq : e.q.length ≤ 5000) (hr : e.reads ≤ 1000000) :
    Calls Tryd.prog 39 #[.pointer (some ⟨c, 0, none⟩), .int .i64 i] W fun x w' => x = .returned (.tuple #[.string (e.read i).2.1, .int .i64 (e.read i).2.2]) ∧ PD n w w' b d c (e.read i).1 ∧ KeepT W w' := by
  obtain ⟨F, hx, hh, ht⟩ := h.parts
  refine (readRef_any c e i n F W hh hi hq hr).mono ?_
  rintro x w' ⟨rfl, hg, hc⟩
  exact ⟨rfl, pd_d hx hh ht h.low h.bel hn hg hc (fun k _ hk => hk), keep_d ht hc⟩
theorem pd_pcrash (h : PD n w W b d c e) (hn : n ≤ w.heap.size) (A : Option Addr) (cs : List C) (ca : Nat) (ha : LiesG W A cs) (hq : d.q.length ≤ 5000) (hl : cs.length ≤ 9223372036854775807) :
    Calls Tryd.prog 27 #[.pointer (some ⟨b, 0, none⟩), .slice A cs.length ca] W fun x w' => x = .returned (.tuple #[]) ∧ PD n w w' b (d.crash cs) c e ∧ KeepT W w' := by
  obtain ⟨F, hx, hh, ht⟩ := h.parts
  refine (crash_anyX b d A cs ca W hh.high hx ha hq hl).mono ?_
  rintro x w' ⟨rfl, hg, hc⟩
  exact ⟨rfl, pd_p hg hc h.low h.bel hn hx hh ht, keep_p hx hc⟩
/-- The document's crash, with choices in a new block. -/
theorem pd_dcrash (h : PD n w W b d c e) (hn : n ≤ w.heap.size) (hW : Below W.heap.size W W') (A : Option Addr) (cs : List C) (ca : Nat) (ha : LiesC W' A cs) (hA : ∀ a, A = some a → W.heap.size ≤ a.block ∧ a.block < W'.heap.size) (hq : e.q.length ≤ 5000) (hl : cs.length ≤ 5000) :
    Calls Tryd.prog 37 #[.pointer (some ⟨c, 0, none⟩), .slice A cs.length ca] W' fun x w' => x = .returned (.tuple #[]) ∧ PD n w w' b d c (e.crash cs) ∧ KeepT W' w' := by
  obtain ⟨F, hx, hh, ht⟩ := h.parts
  have hb' : Below n w W' := h.bel.trans (hW.mono (Nat.le_trans hn h.bel.size))
  have ht' : Typed W' F := fun k hk => by
    obtain ⟨cs', t, fz, h1, h2⟩ := ht k hk
    exact ⟨cs', t, fz, (hW.block k (Array.getElem?_eq_some_iff.1 h1).1).trans h1, h2⟩
  refine (crashRef_any c e A cs ca n F W' (hh.below hW) ha (fun a e1 => ⟨fun hf => by have := hh.high _ hf; have := (hA a e1).1; omega, (hA a e1).2⟩) hq hl (Nat.le_trans hn hb'.size)).mono ?_
  rintro x w' ⟨rfl, F', hg, hc, ho⟩
  exact ⟨rfl, pd_d (hx.below hW) (hh.below hW) ht' h.low hb' hn hg hc ho, keep_d ht' hc⟩
theorem pd_dlen (h : PD n w W b d c e) (hn : n ≤ w.heap.size) (hq : e.q.length ≤ 5000) :
    Calls Tryd.prog 16 #[.pointer (some ⟨c, 0, none⟩)] W fun x w' => x = .returned (.int .i64 e.len) ∧ PD n w w' b d c e ∧ Below W.heap.size W w' := by
  obtain ⟨F, hx, hh, ht⟩ := h.parts
  obtain ⟨K, P, kc, pc, hr⟩ := hh.rd hq
  refine (lenRef_any c e K P kc pc _ W hr).mono ?_
  rintro x w' ⟨rfl, hb⟩
  exact ⟨rfl, h.below hn hb, hb⟩
theorem pd_dall (h : PD n w W b d c e) (hn : n ≤ w.heap.size) (hq : e.q.length ≤ 5000) :
    Calls Tryd.prog 20 #[.pointer (some ⟨c, 0, none⟩)] W fun x w' => ∃ g cap, x = .returned (.slice (some ⟨g, 0, none⟩) e.all.length cap) ∧ w'.ownsRow W.heap.size 9 1 (.slice (some ⟨g, 0, none⟩) e.all.length cap) e.all.length (strCells e.all) ∧ PD n w w' b d c e ∧ Below W.heap.size W w' := by
  obtain ⟨F, hx, hh, ht⟩ := h.parts
  obtain ⟨K, P, kc, pc, hr⟩ := hh.rd hq
  refine (allRef_any c e K P kc pc _ W hr).mono ?_
  rintro x w' ⟨g, cap, rfl, ho, hb⟩
  exact ⟨g, cap, rfl, ho, h.below hn hb, hb⟩
/-- What the law reads of the document's disk. -/
theorem PD.cells (h : PD n w W b d c e) : W.cell? ⟨c, 0, none⟩ = some (.int .i64 e.p) ∧ W.cell? ⟨c, 2, none⟩ = some (.int .i64 e.reads) := by
  obtain ⟨F, hx, hh, ht⟩ := h.parts
  obtain ⟨K, P, kc, pc, h6, _⟩ := hh.parts
  exact ⟨h6.cells.1, h6.cells.2.2.1⟩
end
end Go.Proofs.YtaeiifmdbdhoeaaDoor
