/-
  A disk of which nothing is asked but what it holds; a disk that is apart from blocks: what changes there leaves it as it is.
-/
import Derived.Test.YtaeiifmdbdhoeaaDoorGFrom
import Derived.Test.YtaeiifmdbdhoeaaDoorGCrash
namespace Go.Proofs.YtaeiifmdbdhoeaaDoor
open Go.RowKit
open Go.ChangeShapes
open DP (W D C)
set_option linter.unusedVariables false
set_option linter.unusedSimpArgs false

def HasG (w : World) (b : Nat) (d : D) : Prop := HasX (fun _ => False) w b d
theorem write_any (b : Nat) (d : D) (i : Int) (s : ByteArray) (w : World) (h : HasG w b d) (hi : (Lit.int .i64 i).wf = true) (hs : s.size ≤ maxLen) :
    Calls Tryd.prog 25 #[.pointer (some ⟨b, 0, none⟩), .int .i64 i, .string s] w fun e w' => e = .returned (.int .i64 (d.write i s).2) ∧ HasG w' b (d.write i s).1 ∧ Chg (fun j => j = b) w w' :=
  write_anyX b d i s w (fun k hk => hk.elim) h hi hs
theorem crash_any (b : Nat) (d : D) (A : Option Addr) (cs : List C) (ca : Nat) (w : World) (h : HasG w b d) (ha : LiesG w A cs) (hq : d.q.length ≤ 5000) (hl : cs.length ≤ 9223372036854775807) :
    Calls Tryd.prog 27 #[.pointer (some ⟨b, 0, none⟩), .slice A cs.length ca] w fun e w' => e = .returned (.tuple #[]) ∧ HasG w' b (d.crash cs) ∧ Chg (fun j => j = b) w w' :=
  crash_anyX b d A cs ca w (fun k hk => hk.elim) h ha hq hl
theorem new_good (p room : Nat) (w : World) (h : Sizes w) (hm : mayBe p = true) (hr : 0 < room) (hr2 : room ≤ 4096) :
    Calls Tryd.prog 23 #[.int .i64 p, .int .i64 room] w fun e w' => ∃ b, e = .returned (.tuple #[.pointer (some ⟨b, 0, none⟩), .int .i64 0]) ∧ HasG w' b (fresh p room) ∧ w.heap.size ≤ b ∧ Below w.heap.size w w' := new_goodX p room w h hm hr hr2
theorem from_good (p room : Nat) (s : ByteArray) (w : World) (h : Sizes w) (hm : mayBe p = true) (hr : 0 < room) (hr2 : room ≤ 4096) (hs : s.size ≤ room * p) :
    Calls Tryd.prog 9 #[.int .i64 p, .int .i64 room, .string s] w fun e w' => ∃ b, e = .returned (.tuple #[.pointer (some ⟨b, 0, none⟩), .int .i64 0]) ∧ HasG w' b (DP.made p room s) ∧ w.heap.size ≤ b ∧ Below w.heap.size w w' :=
  from_goodX p room s w (fun k hk => hk.elim) h hm hr hr2 hs

section
variable {Fb Fc : Nat → Prop} {w w' : World} {b : Nat} {d : D}
/-- Blocks of texts outside of Fb, of lists of texts and of writes stay as they are. -/
def StF (Fb : Nat → Prop) (w w' : World) : Prop := ∀ (j : Nat) (cs : Array Value) (t : TypeId) (fz : Nat × Nat), w.heap[j]? = some (.cells cs t fz) → ((t = 9 ∧ ¬ Fb j) ∨ t = 39 ∨ t = 83) → w'.heap[j]? = w.heap[j]?
theorem lv_lt {e : TypeId} {a : Addr} {vs : List Value} (h : LV w e (some a) vs) (hn : vs ≠ []) : a.block < w.heap.size := by
  cases vs with
  | nil => exact absurd rfl hn
  | cons v vs =>
    obtain ⟨a', ea, ⟨cs, fz, hb⟩, _⟩ := h 0 v rfl
    obtain rfl := Option.some.inj ea
    exact (Array.getElem?_eq_some_iff.1 hb).1
theorem strCells_ne {l : List ByteArray} (h : l ≠ []) : strCells l ≠ [] := fun e => h (by simpa [strCells] using e)
theorem Row.wide {A : Option Addr} {c : Nat} {l : List ByteArray} (h : Row Fb w A c l) (k : ∀ j, j < w.heap.size → Fc j → Fb j) : Row Fc w A c l :=
  h.mono fun a ha hl hf => k _ (by subst ha; exact lv_lt h.1 (strCells_ne hl)) hf
theorem Blocks.wide {A : Option Addr} {c : Nat} {L : List (List ByteArray)} (h : Blocks Fb w A c L) (k : ∀ j, j < w.heap.size → Fc j → Fb j) : Blocks Fc w A c L := by
  obtain ⟨vs, h1, h2, h3, h4, h5⟩ := h
  refine ⟨vs, h1, h2, h3, h4, fun i => ?_⟩
  obtain ⟨A', c', e, hr⟩ := h5 i
  exact ⟨A', c', e, hr.wide k⟩
theorem HasX.wide (h : HasX Fb w b d) (k : ∀ j, j < w.heap.size → Fc j → Fb j) : HasX Fc w b d := by
  obtain ⟨A1, c1, L1, A2, c2, L2, nw, lim, lf, h1, h2, h3, h4, h5⟩ := h.parts
  exact ⟨⟨A1, c1, L1, A2, c2, L2, nw, lim, lf, h1, ⟨h2.blocks.wide k, h2.rep⟩, ⟨h3.blocks.wide k, h3.rep⟩, h4, h5⟩, h.ok, h.small⟩
theorem Row.stF {A : Option Addr} {c : Nat} {l : List ByteArray} (h : Row Fb w A c l) (k : StF Fb w w') : Row Fb w' A c l := by
  refine ⟨fun i v hv => ?_, h.2⟩
  obtain ⟨a, ea, ⟨cs, fz, hb⟩, hx⟩ := h.1 i v hv
  have hne : l ≠ [] := fun e => by rw [e] at hv; simp [strCells] at hv
  have := k _ _ _ _ hb (.inl ⟨rfl, h.2.2.2 a ea hne⟩)
  exact ⟨a, ea, ⟨cs, fz, this.trans hb⟩, (World.cell?_of_block (w := w) (by rw [addr_block]; exact this)).trans hx⟩
theorem Blocks.stF {A : Option Addr} {c : Nat} {L : List (List ByteArray)} (h : Blocks Fb w A c L) (k : StF Fb w w') : Blocks Fb w' A c L := by
  obtain ⟨vs, h1, h2, h3, h4, h5⟩ := h
  refine ⟨vs, h1, h2.keep fun j cs fz hj => k j cs _ fz hj (.inr (.inl rfl)), h3, h4, fun i => ?_⟩
  obtain ⟨A', c', e, hr⟩ := h5 i
  exact ⟨A', c', e, hr.stF k⟩
theorem Chain.stF (k : StF Fb w w') : ∀ {q : List W} {v : Value}, Chain w v q → Chain w' v q
  | [], v, h => h
  | x :: q, v, ⟨g, v', e, hg, hc⟩ => ⟨g, v', e, (k g _ _ _ hg (.inr (.inr rfl))).trans hg, Chain.stF k hc⟩
theorem HasX.stF (h : HasX Fb w b d) (hb : w'.heap[b]? = w.heap[b]?) (k : StF Fb w w') : HasX Fb w' b d := by
  obtain ⟨A1, c1, L1, A2, c2, L2, nw, lim, lf, h1, h2, h3, h4, h5⟩ := h.parts
  exact ⟨⟨A1, c1, L1, A2, c2, L2, nw, lim, lf, h1.stays hb, ⟨h2.blocks.stF k, h2.rep⟩, ⟨h3.blocks.stF k, h3.rep⟩, h4.stF k, h5⟩, h.ok, h.small⟩
theorem HasX.all (h : HasX Fb w b d) : HasG w b d := h.wide fun _ _ hf => hf.elim
end
end Go.Proofs.YtaeiifmdbdhoeaaDoor
