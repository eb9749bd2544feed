/-
  Rows of numbers; an inner page's box, and its rows.
  Walks of package word: functions that only compute.
  Walks of word.Put, word.told.
  Walk of word.Get.
  Walks of word.Four, word.Read.
  What the walks of layer 9 share.
  A value's box.
  Walks of the document's own answers of layer 1: follow, digits.
  Walks of the document's own answers of layer 1: Put, Read, Get.
  Plain mathematics of package cell: fields that are read one behind the other.
  Walks of the document's Size, two, at, Repeat.
  The walk of slot.Size.
  The walk of the document's Pack.
-/
import Derived.Test.YtembccehokodeaaGreatDoorJ01
import Derived.Laws.OwnMore
import Derived.Deep.AppendLies
import Derived.Test.YtembccehokodeaaGreatDoorChecked
import Derived.ProofKit
import Derived.Below
import Derived.Test.YtembccehokodeaaGreatDoorJWLen
import Derived.WalkKit
import Derived.WalkSpells
import Derived.WalkLawsBesides
import Derived.Deep.QuietTactic
import Derived.BigQuiet
import Derived.Deep.RegionWith
import Derived.Deep.RegionHeld3
import Derived.Laws.BytesArg
namespace Go.Proofs.YtembccehokodeaaGreatDoor
open Go.RowKit IP
set_option linter.unusedVariables false

/-- The cells of numbers. -/
def numCells (l : List Int) : List Value := l.map fun k => .int .i64 k
theorem numCells_length (l : List Int) : (numCells l).length = l.length := by simp [numCells]
theorem numCells_snoc (l : List Int) (k : Int) : numCells (l ++ [k]) = numCells l ++ [.int .i64 k] := by simp [numCells]
theorem numCells_append (l m : List Int) : numCells (l ++ m) = numCells l ++ numCells m := by simp [numCells]
theorem numCells_get (l : List Int) (i : Nat) (k : Int) (h : l[i]? = some k) : (numCells l)[i]? = some (.int .i64 k) := by simp [numCells, h]
theorem num_one (k : Int) : ∀ u ∈ [Value.int .i64 k], u.oneCell' = true := by simp [Value.oneCell']
/-- Behind an address below block b stand these numbers. -/
def LiesN (w : World) (b : Nat) (A : Option Addr) (l : List Int) : Prop :=
  ∀ i k, l[i]? = some k → ∃ a, A = some a ∧ a.block < b ∧ w.cell? (a.add i) = some (.int .i64 k)
section
variable {w w' : World} {b b' : Nat} {A : Option Addr} {l : List Int}
theorem LiesN.nil (w : World) (b : Nat) (A : Option Addr) : LiesN w b A [] := fun i c h => by simp at h
theorem LiesN.keep (h : LiesN w b A l) (hk : ∀ p : Addr, p.block < b → w'.cell? p = w.cell? p) : LiesN w' b A l := fun i c hc => by
  obtain ⟨a, e, hb, hx⟩ := h i c hc
  exact ⟨a, e, hb, (hk _ (by rw [L5.addr_block]; exact hb)).trans hx⟩
theorem LiesN.more (h : LiesN w b A l) (hB : b ≤ b') : LiesN w b' A l := fun i c hc => by
  obtain ⟨a, e, hb, hx⟩ := h i c hc
  exact ⟨a, e, by omega, hx⟩
theorem LiesN.below (h : LiesN w b A l) (k : Below b w w') : LiesN w' b A l := h.keep fun _ hp => k.cell hp
theorem LiesN.below' {c : Nat} (h : LiesN w b A l) (k : Below c w w') (hc : b ≤ c) : LiesN w' b A l := h.keep fun _ hp => k.cell (by omega)
theorem LiesN.on (h : LiesN w w.heap.size A l) (k : Below w.heap.size w w') : LiesN w' w'.heap.size A l := (h.below k).more k.size
theorem LiesN.take (h : LiesN w b A l) (k : Nat) : LiesN w b A (l.take k) := fun i c hc => by
  refine h i c ?_
  rw [List.getElem?_take] at hc
  split at hc
  · exact hc
  · simp at hc
end
theorem liesN_own {w : World} {base e : Nat} {A : Option Addr} {n cap : Nat} {l : List Int} (h : w.ownsRow base e 1 (.slice A n cap) n (numCells l)) (hn : n = l.length) : LiesN w w.heap.size A l := fun i c hc => by
  have hi : i < l.length := (List.getElem?_eq_some_iff.1 hc).1
  obtain ⟨g, cap', hv, _, hlt⟩ := h.form (by omega)
  have hA : A = some ⟨g, 0, none⟩ := by injection hv
  subst hA
  exact ⟨_, rfl, hlt, h.cells (g := g) rfl _ _ (numCells_get l i c hc)⟩
theorem lies_below' {w w' : World} {b c : Nat} {A : Option Addr} {l : List ByteArray} (h : L5.Lies w b A l) (k : Below c w w') (hc : b ≤ c) : L5.Lies w' b A l := h.keep fun _ hp => k.cell (by omega)
theorem lies_take {w : World} {b : Nat} {A : Option Addr} {l : List ByteArray} (h : L5.Lies w b A l) (k : Nat) : L5.Lies w b A (l.take k) := fun i c hc => by
  refine h i c ?_
  rw [List.getElem?_take] at hc
  split at hc
  · exact hc
  · simp at hc

/-- An inner page. -/
abbrev nv (F L R : Int) (H : ByteArray) (A : Option Addr) (n ca : Nat) (C : Option Addr) (m cb : Nat) : Value := .agg #[.int .i64 F, .int .i64 L, .int .i64 R, .string H, .slice A n ca, .slice C m cb]
/-- Its rows. -/
structure Rows2 (w : World) (A : Option Addr) (n ca : Nat) (C : Option Addr) (m cb : Nat) (ks : List Int) (ss : List ByteArray) : Prop where
  kids : LiesN w w.heap.size A ks
  seps : L5.Lies w w.heap.size C ss
  nk : ks.length = n
  nm : ss.length = m
  ck : n ≤ ca
  cm : m ≤ cb
theorem Rows2.on {w w' : World} {A : Option Addr} {n ca : Nat} {C : Option Addr} {m cb : Nat} {ks : List Int} {ss : List ByteArray} (h : Rows2 w A n ca C m cb ks ss) (k : Below w.heap.size w w') : Rows2 w' A n ca C m cb ks ss := ⟨h.kids.on k, h.seps.on k, h.nk, h.nm, h.ck, h.cm⟩
/-- Its box. -/
def NBx (t : TypeId) (g : Nat) (F L R : Int) (H : ByteArray) (A : Option Addr) (n ca : Nat) (C : Option Addr) (m cb : Nat) (w : World) : Prop := w.heap[g]? = some (.cells #[.int .i64 F, .int .i64 L, .int .i64 R, .string H, .slice A n ca, .slice C m cb] t (0, 0))
section
variable {t : TypeId} {g : Nat} {F L R : Int} {H : ByteArray} {A : Option Addr} {n ca : Nat} {C : Option Addr} {m cb : Nat} {w w' : World}
theorem NBx.cells (k : NBx t g F L R H A n ca C m cb w) : w.cell? ⟨g, 0, none⟩ = some (.int .i64 F) ∧ w.cell? ⟨g, 1, none⟩ = some (.int .i64 L) ∧ w.cell? ⟨g, 2, none⟩ = some (.int .i64 R) ∧ w.cell? ⟨g, 3, none⟩ = some (.string H) ∧ w.cell? ⟨g, 4, none⟩ = some (.slice A n ca) ∧ w.cell? ⟨g, 5, none⟩ = some (.slice C m cb) := by
  unfold NBx at k
  refine ⟨?_, ?_, ?_, ?_, ?_, ?_⟩ <;> simp [World.cell?, k]
theorem NBx.free (k : NBx t g F L R H A n ca C m cb w) : w.frozen? ⟨g, 0, none⟩ = false ∧ w.frozen? ⟨g, 1, none⟩ = false ∧ w.frozen? ⟨g, 2, none⟩ = false ∧ w.frozen? ⟨g, 3, none⟩ = false ∧ w.frozen? ⟨g, 4, none⟩ = false ∧ w.frozen? ⟨g, 5, none⟩ = false := by
  unfold NBx at k
  refine ⟨?_, ?_, ?_, ?_, ?_, ?_⟩ <;> simp [World.frozen?, k]
theorem NBx.lt (k : NBx t g F L R H A n ca C m cb w) : g < w.heap.size := (Array.getElem?_eq_some_iff.1 k).1
theorem NBx.below (k : NBx t g F L R H A n ca C m cb w) (b : Below w.heap.size w w') : NBx t g F L R H A n ca C m cb w' := (b.block g k.lt).trans k
theorem NBx.on {c : Nat} (k : NBx t g F L R H A n ca C m cb w) (b : Below c w w') (hg : g < c) : NBx t g F L R H A n ca C m cb w' := (b.block g hg).trans k
/-- What a region holds of it. -/
def HasN (t : TypeId) (g : Nat) (F L R : Int) (H : ByteArray) (A : Option Addr) (n ca : Nat) (C : Option Addr) (m cb : Nat) (w : World) : Prop := Hid (NBx t g F L R H A n ca C m cb w) ∧ w.cell? ⟨g, 0, none⟩ = some (.int .i64 F) ∧ w.cell? ⟨g, 1, none⟩ = some (.int .i64 L) ∧ w.cell? ⟨g, 2, none⟩ = some (.int .i64 R) ∧ w.cell? ⟨g, 3, none⟩ = some (.string H) ∧ w.cell? ⟨g, 4, none⟩ = some (.slice A n ca) ∧ w.cell? ⟨g, 5, none⟩ = some (.slice C m cb)
theorem hasN (k : NBx t g F L R H A n ca C m cb w) : HasN t g F L R H A n ca C m cb w := ⟨Lib.hid k, k.cells⟩
theorem HasN.below (k : HasN t g F L R H A n ca C m cb w) (b : Below w.heap.size w w') : HasN t g F L R H A n ca C m cb w' := hasN (k.1.out.below b)
theorem NBx.set0 (k : NBx t g F L R H A n ca C m cb w) (F' : Int) : NBx t g F' L R H A n ca C m cb (w.setCell ⟨g, 0, none⟩ (.int .i64 F')) := by
  unfold NBx at *
  exact heap_setCell_same w g 0 _ _ (.int .i64 F') k
theorem NBx.set1 (k : NBx t g F L R H A n ca C m cb w) (L' : Int) : NBx t g F L' R H A n ca C m cb (w.setCell ⟨g, 1, none⟩ (.int .i64 L')) := by
  unfold NBx at *
  exact heap_setCell_same w g 1 _ _ (.int .i64 L') k
theorem NBx.set2 (k : NBx t g F L R H A n ca C m cb w) (R' : Int) : NBx t g F L R' H A n ca C m cb (w.setCell ⟨g, 2, none⟩ (.int .i64 R')) := by
  unfold NBx at *
  exact heap_setCell_same w g 2 _ _ (.int .i64 R') k
theorem NBx.set3 (k : NBx t g F L R H A n ca C m cb w) (H' : ByteArray) : NBx t g F L R H' A n ca C m cb (w.setCell ⟨g, 3, none⟩ (.string H')) := by
  unfold NBx at *
  exact heap_setCell_same w g 3 _ _ (.string H') k
theorem NBx.set4 (k : NBx t g F L R H A n ca C m cb w) (A' : Option Addr) (n' ca' : Nat) : NBx t g F L R H A' n' ca' C m cb (w.setCell ⟨g, 4, none⟩ (.slice A' n' ca')) := by
  unfold NBx at *
  exact heap_setCell_same w g 4 _ _ (.slice A' n' ca') k
theorem NBx.set5 (k : NBx t g F L R H A n ca C m cb w) (C' : Option Addr) (m' cb' : Nat) : NBx t g F L R H A n ca C' m' cb' (w.setCell ⟨g, 5, none⟩ (.slice C' m' cb')) := by
  unfold NBx at *
  exact heap_setCell_same w g 5 _ _ (.slice C' m' cb') k
theorem NBx.other {q o : Nat} (k : NBx t g F L R H A n ca C m cb w) (hq : g ≠ q) (v : Value) : NBx t g F L R H A n ca C m cb (w.setCell ⟨q, o, none⟩ v) := by
  unfold NBx at *
  rw [Below.heap_setCell w ⟨q, o, none⟩ v g hq]
  exact k
end
/-- The world in which an inner page has been boxed. -/
abbrev nbox (t : TypeId) (F L R : Int) (H : ByteArray) (A : Option Addr) (n ca : Nat) (C : Option Addr) (m cb : Nat) (w : World) : World := w.alloc (.cells #[.int .i64 F, .int .i64 L, .int .i64 R, .string H, .slice A n ca, .slice C m cb] t)
theorem nbox_size (t : TypeId) (F L R : Int) (H : ByteArray) (A : Option Addr) (n ca : Nat) (C : Option Addr) (m cb : Nat) (w : World) : (nbox t F L R H A n ca C m cb w).heap.size = w.heap.size + 1 := by simp [nbox]
theorem nbox_below (t : TypeId) (F L R : Int) (H : ByteArray) (A : Option Addr) (n ca : Nat) (C : Option Addr) (m cb : Nat) (w : World) : Below w.heap.size w (nbox t F L R H A n ca C m cb w) := L5.below_alloc _ _
theorem nbox_new (t : TypeId) (F L R : Int) (H : ByteArray) (A : Option Addr) (n ca : Nat) (C : Option Addr) (m cb : Nat) (w : World) : NBx t w.heap.size F L R H A n ca C m cb (nbox t F L R H A n ca C m cb w) := heap_alloc_new _ _
/-- An inner page is stored into its box. -/
def setN (w : World) (g : Nat) (F L R : Int) (H : ByteArray) (A : Option Addr) (n ca : Nat) (C : Option Addr) (m cb : Nat) : World := (((((w.setCell ⟨g, 0, none⟩ (.int .i64 F)).setCell ⟨g, 1, none⟩ (.int .i64 L)).setCell ⟨g, 2, none⟩ (.int .i64 R)).setCell ⟨g, 3, none⟩ (.string H)).setCell ⟨g, 4, none⟩ (.slice A n ca)).setCell ⟨g, 5, none⟩ (.slice C m cb)
theorem setN_box {t : TypeId} {w : World} {g : Nat} {F L R : Int} {H : ByteArray} {A : Option Addr} {n ca : Nat} {C : Option Addr} {m cb : Nat} (k : NBx t g F L R H A n ca C m cb w) (F' L' R' : Int) (H' : ByteArray) (A' : Option Addr) (n' ca' : Nat) (C' : Option Addr) (m' cb' : Nat) : NBx t g F' L' R' H' A' n' ca' C' m' cb' (setN w g F' L' R' H' A' n' ca' C' m' cb') :=
  (((((k.set0 F').set1 L').set2 R').set3 H').set4 A' n' ca').set5 C' m' cb'
theorem setN_size (w : World) (g : Nat) (F L R : Int) (H : ByteArray) (A : Option Addr) (n ca : Nat) (C : Option Addr) (m cb : Nat) : (setN w g F L R H A n ca C m cb).heap.size = w.heap.size := by
  unfold setN
  simp
theorem setN_other {w : World} {g q : Nat} (h : q ≠ g) (F L R : Int) (H : ByteArray) (A : Option Addr) (n ca : Nat) (C : Option Addr) (m cb : Nat) : (setN w g F L R H A n ca C m cb).heap[q]? = w.heap[q]? := by
  unfold setN
  have hh : ∀ (W : World) (o : Nat) (v : Value), (W.setCell ⟨g, o, none⟩ v).heap[q]? = W.heap[q]? := fun W o v => Below.heap_setCell W ⟨g, o, none⟩ v q (fun e' => h (by first | exact e' | exact e'.symm))
  rw [hh, hh, hh, hh, hh, hh]
theorem setN_below {w W : World} {c g : Nat} (h : Below c w W) (hg : c ≤ g) (F L R : Int) (H : ByteArray) (A : Option Addr) (n ca : Nat) (C : Option Addr) (m cb : Nat) : Below c w (setN W g F L R H A n ca C m cb) :=
  (((((h.setCell (p := ⟨g, 0, none⟩) hg _).setCell (p := ⟨g, 1, none⟩) hg _).setCell (p := ⟨g, 2, none⟩) hg _).setCell (p := ⟨g, 3, none⟩) hg _).setCell (p := ⟨g, 4, none⟩) hg _).setCell (p := ⟨g, 5, none⟩) hg _
theorem cell_otherblock {w w' : World} {p : Addr} (h : w'.heap[p.block]? = w.heap[p.block]?) : w'.cell? p = w.cell? p := by
  unfold World.cell?
  rw [h]
theorem LiesN.apart {w w' : World} {b : Nat} {A : Option Addr} {l : List Int} {g : Nat} (h : LiesN w b A l) (hg : ∀ a, A = some a → a.block ≠ g) (hk : ∀ q, q ≠ g → w'.heap[q]? = w.heap[q]?) : LiesN w' b A l := fun i c hc => by
  obtain ⟨a, e, hb, hx⟩ := h i c hc
  exact ⟨a, e, hb, (cell_otherblock (hk _ (by rw [L5.addr_block]; exact hg a e))).trans hx⟩
theorem lies_apart {w w' : World} {b : Nat} {A : Option Addr} {l : List ByteArray} {g : Nat} (h : L5.Lies w b A l) (hg : ∀ a, A = some a → a.block ≠ g) (hk : ∀ q, q ≠ g → w'.heap[q]? = w.heap[q]?) : L5.Lies w' b A l := fun i c hc => by
  obtain ⟨a, e, hb, hx⟩ := h i c hc
  exact ⟨a, e, hb, (cell_otherblock (hk _ (by rw [L5.addr_block]; exact hg a e))).trans hx⟩
end Go.Proofs.YtembccehokodeaaGreatDoor

namespace Go.Proofs.YtembccehokodeaaGreatDoor.L9
open Go.RowKit

set_option maxHeartbeats 400000 in
theorem follow_any (b : Int) (w : World) (h0 : 0 ≤ b) (h1 : b ≤ 255) :
    Calls Tryz.prog 118 #[.int .u8 b] w fun e w' => e = .returned (.int .i64 (WP.flw b)) ∧ w = w' := by
  go_enter Tryz.func118, Tryz.ntmps118
  go_wp2
  all_goals
    go_ret
    refine ⟨ret_int ?_, rfl⟩
    simp only [beq_iff_eq, beq_eq_false_iff_ne, ne_eq] at *
    unfold WP.flw
    split
    · omega
    · split <;> omega

set_option maxHeartbeats 400000 in
theorem byteLen_any (x : Int) (w : World) (h0 : 0 ≤ x) (h1 : x ≤ 18446744073709551615) :
    Calls Tryz.prog 107 #[.int .u64 x] w fun e w' => e = .returned (.int .i64 (WP.bl x.toNat)) ∧ w = w' := by
  have hb : Lib.bitLen x.toNat ≤ 64 := Lib.bitLen_le _ 64 (by omega) (by omega)
  go_enter Tryz.func107, Tryz.ntmps107
  go_wp2_with (go_at_call 123; refine (len64_any _ _ h0 h1).mono ?_; rintro e w' ⟨rfl, rfl⟩)
  go_ret
  refine ⟨ret_int ?_, rfl⟩
  have := WP.bl_of x.toNat (by omega)
  omega

end Go.Proofs.YtembccehokodeaaGreatDoor.L9

namespace Go.Proofs.YtembccehokodeaaGreatDoor.L9
open Go.RowKit

set_option maxHeartbeats 400000 in
theorem put_any (n : Int) (w : World) (h0 : 0 ≤ n) (h1 : n ≤ 18446744073709551615) :
    Calls Tryz.prog 88 #[.int .u64 n] w fun e w' => e = .returned (.string ⟨(WP.put n.toNat).toArray⟩) ∧ Below w.heap.size w w' := by
  rcases (show n ≤ 240 ∨ (240 < n ∧ n ≤ 2287) ∨ (2287 < n ∧ n ≤ 67823) ∨ 67823 < n by omega) with h | h | h | h
  · have Hp := Lib.hid (WP.put_1 n.toNat (by omega))
    go_enter Tryz.func88, Tryz.ntmps88
    go_wp2_with fail
    refine (highFirst_any _ _ _ (by omega) (by omega) (by omega) (by omega)).mono ?_
    rintro e w' ⟨rfl, hb⟩
    go_wp2_with fail
    go_ret
    exact ⟨by rw [Hp.out]; rfl, hb⟩
  · have Hp := Lib.hid (WP.put_2 n.toNat (by omega) (by omega))
    go_enter Tryz.func88, Tryz.ntmps88
    go_wp2_with fail
    refine (highFirst_any _ _ _ (by omega) (by omega) (by omega) (by omega)).mono ?_
    rintro e w' ⟨rfl, hb⟩
    go_wp2_with fail
    go_ret
    refine ⟨?_, hb⟩
    rw [Hp.out, show 61696 + (n.toNat - 240) = (61696 + (n - 240)).toNat by omega]
    rfl
  · have Hp := Lib.hid (WP.put_3 n.toNat (by omega) (by omega))
    go_enter Tryz.func88, Tryz.ntmps88
    go_wp2_with fail
    refine (highFirst_any _ _ _ (by omega) (by omega) (by omega) (by omega)).mono ?_
    rintro e w' ⟨rfl, hb⟩
    go_wp2_with fail
    go_ret
    refine ⟨?_, hb⟩
    rw [Hp.out, show 16318464 + (n.toNat - 2288) = (16318464 + (n - 2287 - 1)).toNat by omega]
    rfl
  · have Hp := Lib.hid (WP.put_4 n.toNat (by omega))
    have hb8 := WP.bl_le8 n.toNat
    have hb3 := WP.bl_ge3 n.toNat (by omega)
    go_enter Tryz.func88, Tryz.ntmps88
    go_wp2_with fail
    refine (byteLen_any _ _ (by omega) (by omega)).mono ?_
    rintro e w' ⟨rfl, rfl⟩
    go_wp2_with fail
    refine (highFirst_any _ _ _ (by omega) (by omega) (by omega) (by omega)).mono ?_
    rintro e w1 ⟨rfl, hb⟩
    go_wp2_with fail
    refine (highFirst_any _ _ _ (by omega) (by omega) (by omega) (by omega)).mono ?_
    rintro e w2 ⟨rfl, hb2⟩
    have hl : ¬ 9223372036854775807 < (Lib.beBytes 1 (247 + WP.bl n.toNat)).length + (Lib.beBytes (WP.bl n.toNat) n.toNat).length := by rw [Lib.beBytes_length, Lib.beBytes_length]; omega
    go_wp2_with fail
    go_ret
    refine ⟨?_, hb.trans (hb2.mono hb.size)⟩
    rw [Hp.out, ← WP.bytes_add]
    rfl

set_option maxHeartbeats 400000 in
theorem told_any (b : Int) (s : ByteArray) (w : World) (h0 : 0 ≤ b) (h1 : b ≤ 255) (hs : (s.size : Int) = WP.flw b) :
    Calls Tryz.prog 119 #[.int .u8 b, .string s] w fun e w' => e = .returned (.int .u64 (WP.told b.toNat s.data.toList)) ∧ w = w' := by
  have HS := Lib.hid hs
  clear hs
  have hs : s.size ≤ 8 := by have := HS.out; unfold WP.flw at this; split at this; omega; split at this <;> omega
  go_enter Tryz.func119, Tryz.ntmps119
  go_wp2
  go_loop [5, 9] (fun n i => ∃ k : Nat, k ≤ s.size ∧ i = .int .i64 k ∧ n = .int .u64 (Lib.beNat (s.data.toList.take k) : Nat)) (fun _ i => s.size - (intOf i).toNat)
  case atStart => exact ⟨0, Nat.zero_le _, rfl, rfl⟩
  case round =>
    obtain ⟨k, hk, rfl, rfl⟩ := hrel
    have hlt0 := WP.beNat_lt (s.data.toList.take k)
    have hl : (s.data.toList.take k).length = k := by simp; omega
    rw [hl] at hlt0
    by_cases hlt : k < s.size
    · have hp := WP.pow256 k (by omega)
      have HB := Lib.hid (WP.beNat_snoc (s.data.toList.take k) s[k])
      rw [← WP.take_snoc s k hlt] at HB
      have HO := Lib.hid (WP.or_hi (Lib.beNat (s.data.toList.take k) : Nat) s[k].toNat (by omega) (by omega) (by omega) (by have := s[k].toNat_lt; omega))
      have hby := s[k].toNat_lt
      clear hl
      generalize Lib.beNat (s.data.toList.take k) = v at *
      go_wp2
      go_round
      case rel =>
        refine ⟨k + 1, by omega, by go_num, ?_⟩
        rw [HB.out, HO.out]
        go_num
      case measure => simp [intOf]; omega
    · obtain rfl : k = s.size := by omega
      have ht : s.data.toList.take s.size = s.data.toList := List.take_of_length_le (by simp)
      rw [ht] at hlt0 ⊢
      have HV : Hid (∃ u, u = Lib.beNat s.data.toList) := Lib.hid ⟨_, rfl⟩
      have hf := HS.out
      clear ht hl
      unfold WP.flw at hf
      rcases (show b < 241 ∨ (241 ≤ b ∧ b < 249) ∨ b = 249 ∨ 249 < b by omega) with h | h | h | h
      · have H := Lib.hid (WP.told_1 b.toNat s.data.toList (by omega))
        clear hf
        generalize Lib.beNat s.data.toList = v at *
        go_wp2
        go_ret
        exact ⟨ret_int (by rw [H.out]; omega), rfl⟩
      · have H := Lib.hid (WP.told_2 b.toNat s.data.toList (by omega) (by omega))
        rw [if_neg (by omega), if_pos (by omega)] at hf
        obtain hf : s.size = 1 := by omega
        rw [hf] at hlt0
        clear hf
        generalize Lib.beNat s.data.toList = v at *
        go_wp2
        go_ret
        exact ⟨ret_int (by rw [H.out]; omega), rfl⟩
      · have H := Lib.hid (WP.told_3 b.toNat s.data.toList (by omega))
        rw [if_neg (by omega), if_neg (by omega)] at hf
        obtain hf : s.size = 2 := by omega
        rw [hf] at hlt0
        clear hf
        generalize Lib.beNat s.data.toList = v at *
        have hne : (b == 249) = true := beq_iff_eq.2 h
        have hge : 249 ≤ b := by omega
        clear h
        go_wp2
        go_ret
        exact ⟨ret_int (by rw [H.out]; omega), rfl⟩
      · have H := Lib.hid (WP.told_4 b.toNat s.data.toList (by omega))
        clear hf
        have hne : (b == 249) = false := beq_eq_false_iff_ne.2 (by omega)
        generalize Lib.beNat s.data.toList = v at *
        go_wp2
        go_ret
        exact ⟨ret_int (by rw [H.out]), rfl⟩

end Go.Proofs.YtembccehokodeaaGreatDoor.L9

namespace Go.Proofs.YtembccehokodeaaGreatDoor.L9
open Go.RowKit

theorem quiet_of_eq {P : Program} {f : FuncId} {args : Array Value} {w : World} {n : Nat} {v : Value}
    (h : Calls P f args (w.drewN n) fun e w' => e = .returned v ∧ w.drewN n = w') : Calls P f args (w.drewN n) fun e w'' => e = .returned v ∧ ∃ m, w'' = w.drewN m :=
  h.mono fun _ _ ⟨he, hm⟩ => ⟨he, n, hm.symm⟩

theorem below_of_drewN {w w2 : World} {n : Nat} (h : Below (w.drewN n).heap.size (w.drewN n) w2) : Below w.heap.size w w2 := ⟨h.os, h.tape, h.output, h.size, h.block⟩

set_option maxHeartbeats 400000 in
theorem get_end (s : ByteArray) (i : Int) (w : World) (h1 : i = s.size) :
    Calls Tryz.prog 100 #[.string s, .int .i64 i] w fun e w' => e = .returned (.tuple #[.int .u64 0, .int .i64 0, .int .i64 7]) ∧ w = w' := by
  subst h1
  go_enter Tryz.func100, Tryz.ntmps100
  go_wp2_with fail
  go_ret3
  exact ⟨rfl, rfl⟩

set_option maxHeartbeats 400000 in
theorem get_short (s : ByteArray) (i : Nat) (w : World) (h1 : i < s.size) (h3 : (s.size : Int) - i ≤ WP.flw s[i].toNat) (h2 : s.size ≤ maxLen) :
    Calls Tryz.prog 100 #[.string s, .int .i64 i] w fun e w' => e = .returned (.tuple #[.int .u64 0, .int .i64 0, .int .i64 7]) ∧ w = w' := by
  unfold maxLen at h2
  have hne : ((i : Int) == s.size) = false := beq_eq_false_iff_ne.2 (by omega)
  have hby := s[i].toNat_lt
  go_enter Tryz.func100, Tryz.ntmps100
  go_wp2_with fail
  refine (follow_any _ _ (by omega) (by omega)).mono ?_
  rintro e w' ⟨rfl, rfl⟩
  go_wp2_with fail
  go_ret3
  exact ⟨rfl, rfl⟩

set_option maxHeartbeats 1000000 in
theorem get_go (s : ByteArray) (i : Nat) (w : World) (h1 : i < s.size) (f v : Nat) (hf : (f : Int) = WP.flw s[i].toNat) (h3 : i + f < s.size) (h2 : s.size ≤ maxLen)
    (hv : v = WP.told s[i].toNat (s.extract (i + 1) (i + 1 + f)).data.toList) (hvb : v ≤ 18446744073709551615) (q : Bool) (hq : (WP.put v == (s.extract i (i + 1 + f)).toList) = q) :
    Calls Tryz.prog 100 #[.string s, .int .i64 i] w fun e w' => e = .returned (bif q then .tuple #[.int .u64 v, .int .i64 (i + 1 + f : Nat), .int .i64 0] else .tuple #[.int .u64 0, .int .i64 0, .int .i64 3]) ∧ Below w.heap.size w w' := by
  unfold maxLen at h2
  have hne : ((i : Int) == s.size) = false := beq_eq_false_iff_ne.2 (by omega)
  have hby := s[i].toNat_lt
  have HF := Lib.hid hf
  have HT : Hid (∀ W, Calls Tryz.prog 119 #[.int .u8 s[i].toNat, .string (s.extract (i + 1) (i + 1 + f))] W fun e w' => e = .returned (.int .u64 v) ∧ W = w') :=
    Lib.hid (fun W => by
      have h := told_any (s[i].toNat : Int) (s.extract (i + 1) (i + 1 + f)) W (by omega) (by omega) (by rw [← hf]; simp; omega)
      rw [Int.toNat_natCast, ← hv] at h
      exact h)
  have HP : Hid (∀ W, Calls Tryz.prog 88 #[.int .u64 v] W fun e w' => e = .returned (.string ⟨(WP.put v).toArray⟩) ∧ Below W.heap.size W w') :=
    Lib.hid (fun W => by
      have h := put_any (v : Int) W (by omega) (by omega)
      rwa [Int.toNat_natCast] at h)
  clear hf hv
  have hlt : i + 1 + f ≤ s.size := by omega
  generalize WP.put v = pv at *
  cases q
  all_goals
    go_enter Tryz.func100, Tryz.ntmps100
    go_wp2_with fail
    refine (follow_any _ _ (by omega) (by omega)).mono ?_
    rintro e w' ⟨rfl, rfl⟩
    rw [← HF.out]
    go_wp2_with fail
    refine (follow_any _ _ (by omega) (by omega)).mono ?_
    rintro e w' ⟨rfl, rfl⟩
    rw [← HF.out]
    go_wp2_with fail
    have q1 : IntKind.i64.wrap ((i : Int) + 1) = (i : Int) + 1 := IntWalk.i64_in _ (by omega)
    have q2 : (0 : Int) ≤ (i : Int) + 1 := by omega
    have q3 : ((i : Int) + 1).toNat = i + 1 := by omega
    have q4 : ((i : Int) + 1 + f).toNat = i + 1 + f := by omega
    have q5 : (0 : Int) ≤ (i : Int) + 1 + f := by omega
    have q6 : (i : Int) + 1 + f ≤ s.size := by omega
    have q7 : (i : Int) + 1 ≤ (i : Int) + 1 + f := by omega
    go_quiet ((go_at_call 119; exact quiet_of_eq (HT.out _)))
    go_wp2_with fail
    go_region_with (go_at_call 88; refine (HP.out _).mono ?_; rintro e w2 ⟨rfl, hb2⟩)
    all_goals clear q1 q2 q3 q4 q5 q6 q7
    all_goals go_wp2_with fail
    all_goals go_ret3
    all_goals refine ⟨?_, ?_⟩
  all_goals first
    | exact rfl
    | exact below_of_drewN hb2

theorem get_any (s : ByteArray) (i : Int) (w : World) (h0 : 0 ≤ i) (h1 : i ≤ s.size) (h2 : s.size ≤ maxLen) :
    Calls Tryz.prog 100 #[.string s, .int .i64 i] w fun e w' => e = .returned (.tuple #[.int .u64 (WP.get s.data.toList i.toNat).1, .int .i64 (WP.get s.data.toList i.toNat).2.1, .int .i64 (WP.get s.data.toList i.toNat).2.2]) ∧ Below w.heap.size w w' := by
  obtain ⟨a, rfl⟩ := Int.eq_ofNat_of_zero_le h0
  rw [Int.toNat_natCast]
  by_cases he : a < s.size
  · have hn := WP.flw_nn s[a].toNat
    by_cases hs : (s.size : Int) - a ≤ WP.flw s[a].toNat
    · rw [WP.get_short s a he hs]
      exact (get_short s a w he hs h2).mono fun e w' ⟨h, h'⟩ => ⟨h, h' ▸ Below.refl _ _⟩
    · obtain ⟨f, hf⟩ := Int.eq_ofNat_of_zero_le hn
      have hl : (((s.extract (a + 1) (a + 1 + f)).data.toList.length : Nat) : Int) = WP.flw s[a].toNat := by rw [Lib.extract_data]; simp; omega
      have hvb := WP.told_le s[a].toNat _ (by have := s[a].toNat_lt; omega) hl
      rw [WP.get_rest s a f he hf.symm (by omega)]
      have H := get_go s a w he f _ hf.symm (by omega) h2 rfl hvb _ rfl
      by_cases hq : WP.put (WP.told s[a].toNat (s.extract (a + 1) (a + 1 + f)).data.toList) = (s.extract a (a + 1 + f)).toList
      · rw [if_pos hq]
        rw [beq_iff_eq.2 hq] at H
        exact H
      · rw [if_neg hq]
        rw [beq_eq_false_iff_ne.2 hq] at H
        exact H
  · rw [WP.get_end _ a (by simp; omega)]
    exact (get_end s a w (by omega)).mono fun e w' ⟨h, h'⟩ => ⟨h, h' ▸ Below.refl _ _⟩

end Go.Proofs.YtembccehokodeaaGreatDoor.L9

namespace Go.Proofs.YtembccehokodeaaGreatDoor.L9
open Go.RowKit

set_option maxHeartbeats 400000 in
theorem four_any (n : Int) (w : World) (h0 : 0 ≤ n) (h1 : n ≤ 4294967295) :
    Calls Tryz.prog 86 #[.int .u32 n] w fun e w' => e = .returned (.string ⟨(Lib.leBytes 4 n.toNat).toArray⟩) ∧ Below w.heap.size w w' := by
  go_enter Tryz.func86, Tryz.ntmps86
  go_wp2
  go_loopw [5] (fun i wr => ∃ k : Nat, k ≤ 4 ∧ i = .int .i64 k ∧ Hid (wr.heap[w.heap.size]? = some (.cells (WP.fourAt n k) 146 (0, 0))) ∧ Below w.heap.size w wr) (fun i _ => 4 - (intOf i).toNat)
  case atStart =>
    exact ⟨0, Nat.zero_le _, rfl, Lib.hid (heap_alloc_new _ _), (Below.refl _ w).alloc (Nat.le_refl _) _⟩
  case round =>
    obtain ⟨k, hk, rfl, hh, hb⟩ := hrel
    by_cases hlt : k < 4
    · have hcell : wr.cell? ⟨w.heap.size, k, none⟩ = some (.int .u8 0) := by
        rw [cell_of_row _ _ k _ _ _ hh.out]
        exact WP.fourAt_get n k k (Nat.le_refl _) hlt
      have hfr := frozen_of_row _ _ k _ _ hh.out
      go_wp2
      go_roundw
      case rel =>
        refine ⟨k + 1, by omega, by go_num, ?_, ?_⟩
        · have h := heap_setCell_same wr _ k _ _ (.int .u8 (n / 2 ^ (8 * k) % 256)) hh.out
          rw [WP.fourAt_succ] at h
          exact Lib.hid h
        · exact hb.setCell (Nat.le_refl _) _
      case measure => simp [intOf]; omega
    · obtain rfl : k = 4 := by omega
      obtain ⟨v, rfl⟩ := Int.eq_ofNat_of_zero_le h0
      have hcv : ∀ c, (convert 94 9 (.slice (some ⟨w.heap.size, 0, none⟩) 4 c)).run Tryz.prog wr = .ok (.string ⟨(Lib.leBytes 4 v).toArray⟩) wr := fun c =>
        run_convert_bytes_back (P := Tryz.prog) wr 94 9 5 ⟨w.heap.size, 0, none⟩ c (Lib.leBytes 4 v) Tryz.underlying94 Tryz.underlying5 Tryz.underlying9 (fun j hj => by
          have e := cell_of_row _ _ j _ _ _ hh.out
          rw [WP.fourAt_full v j hj] at e
          rwa [addr_at])
      go_wp2
      go_ret
      exact ⟨by simp, hb⟩

set_option maxHeartbeats 400000 in
theorem read_any (s : ByteArray) (i : Int) (w : World) (h0 : 0 ≤ i) (h1 : i + 4 ≤ s.size) (h2 : s.size ≤ maxLen) :
    Calls Tryz.prog 117 #[.string s, .int .i64 i] w fun e w' => e = .returned (.tuple #[.int .u32 (Lib.leNat ((s.data.toList.drop i.toNat).take 4)), .int .i64 0]) ∧ w = w' := by
  obtain ⟨a, rfl⟩ := Int.eq_ofNat_of_zero_le h0
  unfold maxLen at h2
  have d1 : decide ((a : Int) < 0) = false := decide_eq_false (by omega)
  have d2 : decide (s.size < a) = false := decide_eq_false (by omega)
  have d3 : decide ((s.size : Int) - a < 4) = false := decide_eq_false (by omega)
  go_enter Tryz.func117, Tryz.ntmps117
  go_wp2
  go_loop [6, 21] (fun n i => ∃ k : Nat, k ≤ 4 ∧ i = .int .i64 k ∧ n = .int .u32 (Lib.leNat ((s.data.toList.drop a).take k) : Nat)) (fun _ i => 4 - (intOf i).toNat)
  case atStart => exact ⟨0, Nat.zero_le _, rfl, rfl⟩
  case round =>
    obtain ⟨k, hk, rfl, rfl⟩ := hrel
    by_cases hlt : k < 4
    · have HO := Lib.hid (WP.rd_step s a k (by omega) hlt)
      go_wp2
      go_round
      case rel =>
        refine ⟨k + 1, by omega, by go_num, ?_⟩
        rw [← HO.out]
      case measure => simp [intOf]; omega
    · obtain rfl : k = 4 := by omega
      go_wp2
      go_ret2
      exact ⟨rfl, rfl⟩

set_option maxHeartbeats 400000 in
theorem read_short (s : ByteArray) (i : Int) (w : World) (h0 : 0 ≤ i) (h1 : i ≤ s.size) (h3 : (s.size : Int) < i + 4) :
    Calls Tryz.prog 117 #[.string s, .int .i64 i] w fun e w' => e = .returned (.tuple #[.int .u32 0, .int .i64 7]) ∧ w = w' := by
  go_enter Tryz.func117, Tryz.ntmps117
  go_wp2
  go_ret2
  exact ⟨rfl, rfl⟩

end Go.Proofs.YtembccehokodeaaGreatDoor.L9

namespace Go.Proofs.YtembccehokodeaaGreatDoor.L9
open Go.RowKit
set_option linter.unusedVariables false

theorem below_alloc (w : World) (o : Obj) : Below w.heap.size w (w.alloc o) := (Below.refl _ w).alloc (Nat.le_refl _) o
theorem below_of_drew {w w2 : World} (h : Below w.drew.heap.size w.drew w2) : Below w.heap.size w w2 := ⟨h.os, h.tape, h.output, h.size, h.block⟩
end Go.Proofs.YtembccehokodeaaGreatDoor.L9

namespace Go.Proofs.YtembccehokodeaaGreatDoor.L9
open Go.RowKit
set_option linter.unusedVariables false
abbrev pv (O : Bool) (S : ByteArray) (L P : Int) : VP.V := ⟨O, S.data.toList, L, P⟩
/-- Its box. -/
def Bx (t : TypeId) (g : Nat) (O : Bool) (S : ByteArray) (L P : Int) (w : World) : Prop := w.heap[g]? = some (.cells #[.bool O, .string S, .int .i64 L, .int .i64 P] t (0, 0))
section
variable {t : TypeId} {g : Nat} {O : Bool} {S : ByteArray} {L P : Int} {w w' : World}
theorem Bx.cells (k : Bx t g O S L P w) : w.cell? ⟨g, 0, none⟩ = some (.bool O) ∧ w.cell? ⟨g, 1, none⟩ = some (.string S) ∧ w.cell? ⟨g, 2, none⟩ = some (.int .i64 L) ∧ w.cell? ⟨g, 3, none⟩ = some (.int .i64 P) := by
  unfold Bx at k
  refine ⟨?_, ?_, ?_, ?_⟩ <;> simp [World.cell?, k]
theorem Bx.free (k : Bx t g O S L P w) : w.frozen? ⟨g, 0, none⟩ = false ∧ w.frozen? ⟨g, 1, none⟩ = false ∧ w.frozen? ⟨g, 2, none⟩ = false ∧ w.frozen? ⟨g, 3, none⟩ = false := by
  unfold Bx at k
  refine ⟨?_, ?_, ?_, ?_⟩ <;> simp [World.frozen?, k]
theorem Bx.lt (k : Bx t g O S L P w) : g < w.heap.size := (Array.getElem?_eq_some_iff.1 k).1
theorem Bx.below (k : Bx t g O S L P w) (b : Below w.heap.size w w') : Bx t g O S L P w' := (b.block g k.lt).trans k
/-- What a region holds of it. -/
def HasBx (t : TypeId) (g : Nat) (O : Bool) (S : ByteArray) (L P : Int) (w : World) : Prop := Hid (Bx t g O S L P w) ∧ w.cell? ⟨g, 0, none⟩ = some (.bool O) ∧ w.cell? ⟨g, 1, none⟩ = some (.string S) ∧ w.cell? ⟨g, 2, none⟩ = some (.int .i64 L) ∧ w.cell? ⟨g, 3, none⟩ = some (.int .i64 P)
theorem hasBx (k : Bx t g O S L P w) : HasBx t g O S L P w := ⟨Lib.hid k, k.cells⟩
theorem HasBx.below (k : HasBx t g O S L P w) (b : Below w.heap.size w w') : HasBx t g O S L P w' := hasBx (k.1.out.below b)
end
end Go.Proofs.YtembccehokodeaaGreatDoor.L9

namespace Go.Proofs.YtembccehokodeaaGreatDoor.L9
open Go.RowKit
set_option linter.unusedVariables false

set_option maxHeartbeats 400000 in
theorem rfollow_any (b : Int) (w : World) (h0 : 0 ≤ b) (h1 : b ≤ 255) :
    Calls Tryz.prog 82 #[.int .u8 b] w fun e w' => e = .returned (.int .i64 (WP.flw b)) ∧ w = w' := by
  go_enter Tryz.func82, Tryz.ntmps82
  go_wp2
  all_goals
    go_ret
    refine ⟨ret_int ?_, rfl⟩
    try simp only [beq_iff_eq, beq_eq_false_iff_ne, ne_eq] at *
    unfold WP.flw
    (repeat' split) <;> omega

/-- the cells of bytes -/
def byteCells (l : List UInt8) : List Value := l.map fun b => .int .u8 b.toNat

theorem leBytes_snoc : ∀ (k v : Nat), Lib.leBytes (k + 1) v = Lib.leBytes k v ++ [(v / 256 ^ k % 256).toUInt8]
  | 0, v => by simp [Lib.leBytes]
  | k + 1, v => by
    have h := leBytes_snoc k (v / 256)
    rw [show Lib.leBytes (k + 1 + 1) v = (v % 256).toUInt8 :: Lib.leBytes (k + 1) (v / 256) from rfl, h, Nat.div_div_eq_div_mul, Nat.pow_succ, Nat.mul_comm 256]
    rfl
theorem beBytes_succ (k v : Nat) : Lib.beBytes (k + 1) v = (v / 256 ^ k % 256).toUInt8 :: Lib.beBytes k v := by
  unfold Lib.beBytes
  rw [leBytes_snoc]
  simp

theorem own_new {w : World} {base : Nat} {t : TypeId} (c : Value) (h : base ≤ w.heap.size) : (w.alloc (.cells #[c] t)).ownsRow base t 1 (.slice (some ⟨w.heap.size, 0, none⟩) 1 1) 1 [c] :=
  ⟨rfl, .inr ⟨w.heap.size, 1, #[c], rfl, h, heap_alloc_new _ _, Nat.le_refl _, by unfold maxLen; omega, rfl, rfl⟩⟩
theorem own_none {w : World} {base : Nat} {t : TypeId} (h : base ≤ w.heap.size) : (w.alloc (.cells #[] t)).ownsRow base t 1 (.slice (some ⟨w.heap.size, 0, none⟩) 0 0) 0 [] :=
  ⟨rfl, .inr ⟨w.heap.size, 0, #[], rfl, h, heap_alloc_new _ _, Nat.le_refl _, by unfold maxLen; omega, rfl, rfl⟩⟩
theorem own_shape {w : World} {base : Nat} {t : TypeId} {v : Value} {n : Nat} {xs : List Value} (h : w.ownsRow base t 1 v n xs) (h0 : 0 < n) : ∃ g cap, v = .slice (some ⟨g, 0, none⟩) n cap ∧ base ≤ g := by
  rcases h.2 with ⟨_, h⟩ | ⟨g, cap, _, h, hb, _⟩
  · omega
  · exact ⟨g, cap, h, hb⟩

theorem bl_of_div (n k : Nat) (hn : n ≤ 18446744073709551615) (hk : 0 < k) (h1 : 0 < n / 256 ^ (k - 1)) (h2 : n / 256 ^ k = 0) : k = WP.bl n := by
  have hp : 0 < 256 ^ k := Nat.pow_pos (by omega)
  have hlt : n < 256 ^ k := by rcases Nat.lt_or_ge n (256 ^ k) with h | h; exact h; have := Nat.div_pos h hp; omega
  have hge : 256 ^ (k - 1) ≤ n := by rcases Nat.lt_or_ge n (256 ^ (k - 1)) with h | h; rw [Nat.div_eq_of_lt h] at h1; omega; exact h
  have hk8 : k ≤ 8 := by
    rcases Nat.lt_or_ge 8 k with h | h
    · have : 256 ^ 8 ≤ 256 ^ (k - 1) := Nat.pow_le_pow_right (by omega) (by omega)
      omega
    · exact h
  unfold WP.bl
  rcases (show k = 1 ∨ k = 2 ∨ k = 3 ∨ k = 4 ∨ k = 5 ∨ k = 6 ∨ k = 7 ∨ k = 8 by omega) with rfl | rfl | rfl | rfl | rfl | rfl | rfl | rfl
  all_goals
    simp only [Nat.reduceSub, Nat.reducePow, Nat.pow_zero] at hge hlt
    (repeat' split) <;> omega

set_option maxHeartbeats 400000 in
theorem digits_any (n : Nat) (w : World) (h0 : 0 < n) (h1 : n ≤ 18446744073709551615) :
    Calls Tryz.prog 97 #[.int .u64 n] w fun e w' => ∃ g cap, e = .returned (.slice (some ⟨g, 0, none⟩) (WP.bl n) cap) ∧ w'.ownsRow w.heap.size 5 1 (.slice (some ⟨g, 0, none⟩) (WP.bl n) cap) (WP.bl n) (byteCells (Lib.beBytes (WP.bl n) n)) ∧ Below w.heap.size w w' := by
  obtain ⟨i0, hi, hz0, hz1, hz2⟩ := info_parts Tryz.infoU8
  go_enter Tryz.func97, Tryz.ntmps97
  go_wp2_with fail
  go_loopw [0, 3] (fun nv out wr => ∃ (k g cap : Nat), k ≤ 8 ∧ nv = .int .u64 (n / 256 ^ k : Nat) ∧ out = .slice (some ⟨g, 0, none⟩) k cap ∧ wr.ownsRow w.heap.size 5 1 (.slice (some ⟨g, 0, none⟩) k cap) k (byteCells (Lib.beBytes k n)) ∧ Below w.heap.size w wr ∧ Hid (k = 0 ∨ 0 < n / 256 ^ (k - 1))) (fun nv _ _ => (intOf nv).toNat)
  case atStart => exact ⟨0, w.heap.size, 0, by omega, by simp, rfl, own_none (Nat.le_refl _), (Below.refl _ w).alloc (Nat.le_refl _) _, Lib.hid (.inl rfl)⟩
  case round =>
    obtain ⟨k, g, cap, hk, rfl, rfl, hown, hb, hpos⟩ := hrel
    by_cases hlt : 0 < n / 256 ^ k
    · have hk7 : k ≤ 7 := by
        rcases Nat.lt_or_ge k 8 with h | h
        · omega
        · obtain rfl : k = 8 := by omega
          omega
      have HB := Lib.hid (beBytes_succ k n)
      have HD : Hid (n / 256 ^ (k + 1) = n / 256 ^ k / 256) := Lib.hid (by rw [Nat.pow_succ, Nat.div_div_eq_div_mul])
      have hbs := hb.size
      have HP : Hid (0 < n / 256 ^ (k + 1 - 1)) := Lib.hid (by rw [Nat.add_sub_cancel]; exact hlt)
      have hvn : n / 256 ^ k ≤ n := Nat.div_le_self _ _
      have hlen : (byteCells (Lib.beBytes k n)).length = k * 1 := by simp [byteCells, Lib.beBytes_length]
      have hone : ∀ u ∈ byteCells (Lib.beBytes k n), u.oneCell' = true := by
        intro u hu
        simp only [byteCells, List.mem_map] at hu
        obtain ⟨b, _, rfl⟩ := hu
        rfl
      have hcells : ∀ (c : Value) (j : Nat) (u : Value), (byteCells (Lib.beBytes k n))[j]? = some u → (wr.alloc (.cells #[c] 5)).cell? ((⟨g, 0, none⟩ : Addr).add j) = some u := by
        intro c j u hj
        have hjl : j < k := by
          have := (List.getElem?_eq_some_iff.1 hj).1
          rw [hlen] at this; omega
        rw [addr_at, (hown.alloc _).cellAt j (by omega), hj]
      have HLen := Lib.hid hlen
      have HOne := Lib.hid hone
      have HCells := Lib.hid hcells
      clear hlen hone hcells
      generalize n / 256 ^ k = v at *
      go_wp2_with (at_builtin; refine wpList_append_own _ rfl _ _ 94 rfl w.heap.size 5 i0 (.int .u8 0) 1 1 Tryz.underlying94 hi hz0 hz1 hz2 rfl (by decide) _ 1 _ rfl (own_new _ hbs) ⟨g, 0, none⟩ k cap _ rfl HLen.out (HCells.out _) HOne.out (by unfold maxLen; omega) (by omega) (by simp; omega) ?_; intro v' w1 hown' hgrow hnil)
      obtain ⟨g', cap', rfl, hg'⟩ := own_shape hown' (by omega)
      go_roundw
      case rel =>
        refine ⟨k + 1, g', cap', by omega, ?_, ?_, ?_, ?_, Lib.hid (.inr HP.out)⟩
        · rw [HD.out]; go_num
        · rw [Nat.add_comm]
        · rw [HB.out, Nat.add_comm k 1]
          have hbc : byteCells ((v % 256).toUInt8 :: Lib.beBytes k n) = [Value.int .u8 ((v : Int) % 256)] ++ byteCells (Lib.beBytes k n) := by
            simp only [byteCells, List.map_cons, Lib.toUInt8_mod]
            rfl
          rw [hbc]
          exact hown'
        · exact (hb.alloc hbs _).grown hgrow (by simp; omega) (by intro q hq; cases hq; exact hbs)
      case measure => simp [intOf]; omega
    · have hz : n / 256 ^ k = 0 := Nat.eq_zero_of_not_pos hlt
      have HZ := Lib.hid hz
      rw [hz]
      clear hz hlt
      go_wp2_with fail
      go_ret
      obtain ⟨hkp, hkk⟩ : 0 < k ∧ 0 < n / 256 ^ (k - 1) := by
        rcases hpos.out with h | h
        · subst h; have := HZ.out; simp at this; omega
        · rcases Nat.eq_zero_or_pos k with e | e
          · subst e; have := HZ.out; simp at this; omega
          · exact ⟨e, h⟩
      obtain rfl := bl_of_div n k h1 hkp hkk HZ.out
      exact ⟨g, cap, rfl, hown, hb⟩

theorem conv_new (w : World) (xs : List Int) (t e s : TypeId) {P : Program} (ht : P.underlying t = some (.slice e)) (he : P.underlying e = some (.int .u8)) (hs : P.underlying s = some .string) :
    (convert t s (.slice (some ⟨w.heap.size, 0, none⟩) xs.length xs.length)).run P (w.alloc (.cells (xs.map (Value.int .u8)).toArray e)) = .ok (.string (strOfNums xs)) (w.alloc (.cells (xs.map (Value.int .u8)).toArray e)) := by
  refine run_convert_bytes_arg _ t e ht he _ 0 _ _ xs rfl (fun i hi => ?_) s hs
  rw [Nat.zero_add, cell_of_row _ _ i _ _ _ (heap_alloc_new _ _)]
  simp [hi]

theorem u8n (a b : Nat) (h : a % 256 = b % 256) : UInt8.ofNat a = b.toUInt8 := by
  apply UInt8.toNat_inj.1
  simp [Nat.toUInt8, h]
theorem ret_nums {xs : List Int} {l : List UInt8} (h : xs.map (fun n => UInt8.ofNat n.toNat) = l) : Ending.returned (.string (strOfNums xs)) = .returned (.string ⟨l.toArray⟩) := by
  unfold strOfNums
  rw [h]

set_option maxHeartbeats 400000 in
theorem rput_1 (n : Int) (w : World) (h0 : 0 ≤ n) (h : n ≤ 240) :
    Calls Tryz.prog 66 #[.int .u64 n] w fun e w' => e = .returned (.string ⟨(WP.put n.toNat).toArray⟩) ∧ Below w.heap.size w w' := by
  have hc := fun a => conv_new w [a] 94 5 9 Tryz.underlying94 Tryz.underlying5 Tryz.underlying9
  simp only [List.length_cons, List.length_nil, List.map_cons, List.map_nil, Nat.zero_add] at hc
  go_enter Tryz.func66, Tryz.ntmps66
  go_wp2_with fail
  go_ret
  refine ⟨?_, (Below.refl _ w).alloc (Nat.le_refl _) _⟩
  refine (ret_nums (xs := [n]) ?_)
  rw [WP.put_1 _ (by omega), WP.be1]
  simp only [List.map_cons, List.map_nil]
  rw [u8n _ (n.toNat % 256) (by omega)]

set_option maxHeartbeats 400000 in
theorem rput_2 (n : Int) (w : World) (h0 : 240 < n) (h : n ≤ 2287) :
    Calls Tryz.prog 66 #[.int .u64 n] w fun e w' => e = .returned (.string ⟨(WP.put n.toNat).toArray⟩) ∧ Below w.heap.size w w' := by
  have hc := fun a b => conv_new w [a, b] 94 5 9 Tryz.underlying94 Tryz.underlying5 Tryz.underlying9
  simp only [List.length_cons, List.length_nil, List.map_cons, List.map_nil, Nat.zero_add, Nat.reduceAdd] at hc
  go_enter Tryz.func66, Tryz.ntmps66
  go_wp2_with fail
  go_ret
  refine ⟨?_, (Below.refl _ w).alloc (Nat.le_refl _) _⟩
  refine (ret_nums (xs := [241 + (n - 240) / 256, (n - 240) % 256]) ?_)
  rw [WP.put_2 _ (by omega) (by omega), WP.be2]
  simp only [List.map_cons, List.map_nil]
  rw [u8n _ ((61696 + (n.toNat - 240)) / 256 % 256) (by omega), u8n _ ((61696 + (n.toNat - 240)) % 256) (by omega)]

set_option maxHeartbeats 400000 in
theorem rput_3 (n : Int) (w : World) (h0 : 2287 < n) (h : n ≤ 67823) :
    Calls Tryz.prog 66 #[.int .u64 n] w fun e w' => e = .returned (.string ⟨(WP.put n.toNat).toArray⟩) ∧ Below w.heap.size w w' := by
  have hc := fun a b c => conv_new w [a, b, c] 94 5 9 Tryz.underlying94 Tryz.underlying5 Tryz.underlying9
  simp only [List.length_cons, List.length_nil, List.map_cons, List.map_nil, Nat.zero_add, Nat.reduceAdd] at hc
  go_enter Tryz.func66, Tryz.ntmps66
  go_wp2_with fail
  go_ret
  refine ⟨?_, (Below.refl _ w).alloc (Nat.le_refl _) _⟩
  refine (ret_nums (xs := [249, (n - 2288) / 256, (n - 2288) % 256]) ?_)
  rw [WP.put_3 _ (by omega) (by omega), WP.be3]
  simp only [List.map_cons, List.map_nil]
  rw [u8n _ ((16318464 + (n.toNat - 2288)) / 256 / 256 % 256) (by omega), u8n _ ((16318464 + (n.toNat - 2288)) / 256 % 256) (by omega), u8n _ ((16318464 + (n.toNat - 2288)) % 256) (by omega)]

set_option maxHeartbeats 400000 in
theorem rfour_any (n : Int) (w : World) (h0 : 0 ≤ n) (h1 : n ≤ 4294967295) :
    Calls Tryz.prog 69 #[.int .u32 n] w fun e w' => e = .returned (.string ⟨(Lib.leBytes 4 n.toNat).toArray⟩) ∧ Below w.heap.size w w' := by
  have hc := fun a b c d => conv_new w [a, b, c, d] 94 5 9 Tryz.underlying94 Tryz.underlying5 Tryz.underlying9
  simp only [List.length_cons, List.length_nil, List.map_cons, List.map_nil, Nat.zero_add, Nat.reduceAdd] at hc
  go_enter Tryz.func69, Tryz.ntmps69
  go_wp2_with fail
  go_ret
  refine ⟨?_, (Below.refl _ w).alloc (Nat.le_refl _) _⟩
  refine (ret_nums (xs := [n % 256, n / 256 % 256, n / 65536 % 256, n / 16777216]) ?_)
  simp only [List.map_cons, List.map_nil, Lib.leBytes]
  rw [u8n _ (n.toNat % 256) (by omega), u8n _ (n.toNat / 256 % 256) (by omega), u8n _ (n.toNat / 256 / 256 % 256) (by omega), u8n _ (n.toNat / 256 / 256 / 256 % 256) (by omega)]

end Go.Proofs.YtembccehokodeaaGreatDoor.L9

namespace Go.Proofs.YtembccehokodeaaGreatDoor.L9
open Go.RowKit
set_option linter.unusedVariables false

theorem conv_own {P : Program} {w : World} {base : Nat} {t e s : TypeId} {g n cap : Nat} {l : List UInt8} (ht : P.underlying t = some (.slice e)) (he : P.underlying e = some (.int .u8)) (hs : P.underlying s = some .string)
    (h : w.ownsRow base e 1 (.slice (some ⟨g, 0, none⟩) n cap) n (byteCells l)) (hl : l.length = n) : (convert t s (.slice (some ⟨g, 0, none⟩) n cap)).run P w = .ok (.string ⟨l.toArray⟩) w := by
  subst hl
  refine run_convert_bytes_back w t s e _ cap l ht he hs (fun j hj => ?_)
  rw [addr_at, h.cellAt j (by omega)]
  simp [byteCells, hj]

set_option maxHeartbeats 400000 in
theorem rput_4 (n : Int) (w : World) (h0 : 67823 < n) (h1 : n ≤ 18446744073709551615) :
    Calls Tryz.prog 66 #[.int .u64 n] w fun e w' => e = .returned (.string ⟨(WP.put n.toNat).toArray⟩) ∧ Below w.heap.size w w' := by
  obtain ⟨v, rfl⟩ := Int.eq_ofNat_of_zero_le (show 0 ≤ n by omega)
  rw [Int.toNat_natCast]
  have h8 := WP.bl_le8 v
  have h3 := WP.bl_ge3 v (by omega)
  have Hp := Lib.hid (WP.put_4 v (by omega))
  go_enter Tryz.func66, Tryz.ntmps66
  go_wp2_with fail
  refine (digits_any v w (by omega) (by omega)).mono ?_
  rintro e w1 ⟨g, cap, rfl, hown, hb⟩
  have hc := conv_new w1 [247 + (WP.bl v : Int)] 94 5 9 Tryz.underlying94 Tryz.underlying5 Tryz.underlying9
  simp only [List.length_cons, List.length_nil, List.map_cons, List.map_nil, Nat.zero_add] at hc
  have hc2 := conv_own (w := w1.alloc (.cells #[.int .u8 (247 + (WP.bl v : Int))] 5)) (s := 9) (t := 94) Tryz.underlying94 Tryz.underlying5 Tryz.underlying9 (hown.alloc _) (Lib.beBytes_length _ _)
  have hl : ¬ 9223372036854775807 < (strOfNums [247 + (WP.bl v : Int)]).size + (Lib.beBytes (WP.bl v) v).length := by rw [strOfNums_size, Lib.beBytes_length]; simp; omega
  go_wp2_with fail
  go_ret
  refine ⟨?_, hb.alloc hb.size _⟩
  rw [Hp.out, ← WP.bytes_add, WP.be1]
  have e : strOfNums [247 + (WP.bl v : Int)] = ⟨[((247 + WP.bl v) % 256).toUInt8].toArray⟩ := by
    unfold strOfNums
    simp only [List.map_cons, List.map_nil]
    rw [u8n _ ((247 + WP.bl v) % 256) (by omega)]
  rw [← e]
  rfl

theorem rput_any (n : Int) (w : World) (h0 : 0 ≤ n) (h1 : n ≤ 18446744073709551615) :
    Calls Tryz.prog 66 #[.int .u64 n] w fun e w' => e = .returned (.string ⟨(WP.put n.toNat).toArray⟩) ∧ Below w.heap.size w w' := by
  rcases (show n ≤ 240 ∨ (240 < n ∧ n ≤ 2287) ∨ (2287 < n ∧ n ≤ 67823) ∨ 67823 < n by omega) with h | h | h | h
  · exact rput_1 n w h0 h
  · exact rput_2 n w h.1 h.2
  · exact rput_3 n w h.1 h.2
  · exact rput_4 n w h h1

theorem drop_take_cons (s : ByteArray) (a k : Nat) (h : a < s.size) : (s.data.toList.drop a).take (k + 1) = s[a] :: (s.data.toList.drop (a + 1)).take k := by
  rw [WP.drop_cons s a h, List.take_succ_cons]

set_option maxHeartbeats 400000 in
theorem rread_any (s : ByteArray) (i : Int) (w : World) (h0 : 0 ≤ i) (h1 : i + 4 ≤ s.size) (h2 : s.size ≤ maxLen) :
    Calls Tryz.prog 76 #[.string s, .int .i64 i] w fun e w' => e = .returned (.tuple #[.int .u32 (Lib.leNat ((s.data.toList.drop i.toNat).take 4)), .int .i64 0]) ∧ w = w' := by
  obtain ⟨a, rfl⟩ := Int.eq_ofNat_of_zero_le h0
  rw [Int.toNat_natCast]
  unfold maxLen at h2
  have d1 : decide ((a : Int) < 0) = false := decide_eq_false (by omega)
  have d2 : decide (s.size < a) = false := decide_eq_false (by omega)
  have d3 : decide ((s.size : Int) < a + 4) = false := decide_eq_false (by omega)
  go_enter Tryz.func76, Tryz.ntmps76
  go_wp2_with fail
  go_loop [6, 7] (fun n i => ∃ q : Int, -1 ≤ q ∧ q ≤ 3 ∧ i = .int .i64 q ∧ n = .int .u32 (Lib.leNat ((s.data.toList.drop (a + (q + 1).toNat)).take (3 - q).toNat) : Nat)) (fun _ i => (intOf i + 1).toNat)
  case atStart => exact ⟨3, by omega, by omega, rfl, by simp [Lib.leNat]⟩
  case round =>
    obtain ⟨q, hq0, hq3, rfl, rfl⟩ := hrel
    by_cases hlt : 0 ≤ q
    · obtain ⟨j, rfl⟩ := Int.eq_ofNat_of_zero_le hlt
      rw [show ((j : Int) + 1).toNat = j + 1 by omega, show (3 - (j : Int)).toNat = 3 - j by omega]
      have hb := WP.leNat_lt ((s.data.toList.drop (a + (j + 1))).take (3 - j))
      have hbp : 256 ^ ((s.data.toList.drop (a + (j + 1))).take (3 - j)).length ≤ 256 ^ 3 := Nat.pow_le_pow_right (by omega) (by simp; omega)
      have HE : Hid (Lib.leNat ((s.data.toList.drop (a + j)).take (3 - j + 1)) = (s[a + j]'(by omega)).toNat + 256 * Lib.leNat ((s.data.toList.drop (a + (j + 1))).take (3 - j))) :=
        Lib.hid (by rw [drop_take_cons s (a + j) (3 - j) (by omega)]; simp only [Lib.leNat]; rw [Nat.add_assoc])
      have hv : Lib.leNat ((s.data.toList.drop (a + (j + 1))).take (3 - j)) < 16777216 := by omega
      have hby := (s[a + j]'(by omega)).toNat_lt
      clear hb hbp
      generalize Lib.leNat ((s.data.toList.drop (a + (j + 1))).take (3 - j)) = v at *
      go_wp2_with fail
      go_round
      case rel =>
        refine ⟨(j : Int) - 1, by omega, by omega, rfl, ?_⟩
        rw [show ((j : Int) - 1 + 1).toNat = j by omega, show (3 - ((j : Int) - 1)).toNat = 3 - j + 1 by omega, HE.out]
        go_num
      case measure => simp [intOf]
    · obtain rfl : q = -1 := by omega
      go_wp2_with fail
      go_ret2
      exact ⟨rfl, rfl⟩

set_option maxHeartbeats 400000 in
theorem rread_short (s : ByteArray) (i : Int) (w : World) (h0 : 0 ≤ i) (h1 : i ≤ s.size) (h3 : (s.size : Int) < i + 4) (h2 : s.size ≤ 1000000) :
    Calls Tryz.prog 76 #[.string s, .int .i64 i] w fun e w' => e = .returned (.tuple #[.int .u32 0, .int .i64 7]) ∧ w = w' := by
  go_enter Tryz.func76, Tryz.ntmps76
  go_wp2_with fail
  go_ret2
  exact ⟨rfl, rfl⟩

end Go.Proofs.YtembccehokodeaaGreatDoor.L9

namespace Go.Proofs.YtembccehokodeaaGreatDoor.L9.VP
open Go.Proofs.YtembccehokodeaaGreatDoor.L9
set_option linter.unusedSimpArgs false
set_option linter.unusedVariables false

/-- A number, or that it can't be read. -/
def numF (l : List UInt8) (i : Nat) (b : Bool) : Nat × Nat × Bool := if (WP.get l i).2.2 = 0 ∧ (WP.get l i).1 ≤ 4096 then ((WP.get l i).1, (WP.get l i).2.1, b) else (0, i, true)
/-- A number of four bytes. -/
def fourF (l : List UInt8) (i : Nat) (b : Bool) : Nat × Nat × Bool := if i + 4 ≤ l.length then (Lib.leNat ((l.drop i).take 4), i + 4, b) else (0, i, true)
/-- As many bytes. -/
def takeF (l : List UInt8) (i : Nat) (b : Bool) (n : Nat) : List UInt8 × Nat × Bool := if i + n ≤ l.length then ((l.drop i).take n, i + n, b) else ([], i, true)
/-- A text with its length ahead. -/
def textF (l : List UInt8) (i : Nat) (b : Bool) : List UInt8 × Nat × Bool := takeF l (numF l i b).2.1 (numF l i b).2.2 (numF l i b).1
def readK (l : List UInt8) : (Nat × List UInt8) × Nat × Bool :=
  let k := fourF l 0 false
  let t := textF l k.2.1 k.2.2
  ((k.1, t.1), t.2)

theorem leBytes_four : ∀ (k : Nat) (l : List UInt8), l.length = k → Lib.leBytes k (Lib.leNat l) = l
  | 0, [], _ => rfl
  | k + 1, x :: l, h => by
    have ih := leBytes_four k l (by simpa using h)
    have hx := x.toNat_lt
    simp only [Lib.leBytes, Lib.leNat]
    have e1 : (x.toNat + 256 * Lib.leNat l) % 256 = x.toNat := by omega
    have e2 : (x.toNat + 256 * Lib.leNat l) / 256 = Lib.leNat l := by omega
    rw [e1, e2, ih]
    simp
-- what good reading says
theorem num_at {l : List UInt8} {i : Nat} {b : Bool} (hi : i ≤ l.length) : (numF l i b).2.1 ≤ l.length ∧ (numF l i b).1 ≤ 4096 ∧ i ≤ (numF l i b).2.1 := by
  unfold numF
  split
  · rename_i h
    rcases WP.get_spec l i with e | e | ⟨n, to, e, h2, h3, _⟩
    · rw [e] at h; simp at h
    · rw [e] at h; simp at h
    · rw [e] at h ⊢
      exact ⟨h3, h.2, by simp only; omega⟩
  · exact ⟨hi, by simp, Nat.le_refl _⟩
theorem four_at {l : List UInt8} {i : Nat} {b : Bool} (hi : i ≤ l.length) : (fourF l i b).2.1 ≤ l.length := by
  unfold fourF
  split
  · assumption
  · exact hi
theorem take_at {l : List UInt8} {i n : Nat} {b : Bool} (hi : i ≤ l.length) : (takeF l i b n).2.1 ≤ l.length := by
  unfold takeF
  split
  · assumption
  · exact hi
theorem text_at {l : List UInt8} {i : Nat} {b : Bool} (hi : i ≤ l.length) : (textF l i b).2.1 ≤ l.length := take_at (num_at hi).1
theorem num_good {l : List UInt8} {i j n : Nat} {b : Bool} (h : numF l i b = (n, j, false)) : b = false ∧ n ≤ 4096 ∧ l.drop i = WP.put n ++ l.drop j := by
  unfold numF at h
  split at h
  · rename_i hc
    rcases WP.get_spec l i with e | e | ⟨m, to, e, h2, h3, h4, _⟩
    · rw [e] at hc; simp at hc
    · rw [e] at hc; simp at hc
    · rw [e] at hc h
      simp only [Prod.mk.injEq] at h hc
      obtain ⟨rfl, rfl, rfl⟩ := h
      refine ⟨rfl, hc.2, ?_⟩
      rw [h4, show l.drop to = (l.drop i).drop (to - i) by rw [List.drop_drop]; congr 1; omega, List.take_append_drop]
  · simp at h
theorem four_good {l : List UInt8} {i j n : Nat} {b : Bool} (h : fourF l i b = (n, j, false)) : b = false ∧ l.drop i = Lib.leBytes 4 n ++ l.drop j := by
  unfold fourF at h
  split at h
  · rename_i hc
    simp only [Prod.mk.injEq] at h
    obtain ⟨rfl, rfl, rfl⟩ := h
    refine ⟨rfl, ?_⟩
    rw [leBytes_four 4 _ (by simp; omega), ← List.drop_drop, List.take_append_drop]
  · simp at h
theorem take_good {l t : List UInt8} {i j n : Nat} {b : Bool} (h : takeF l i b n = (t, j, false)) : b = false ∧ t.length = n ∧ l.drop i = t ++ l.drop j := by
  unfold takeF at h
  split at h
  · rename_i hc
    simp only [Prod.mk.injEq] at h
    obtain ⟨rfl, rfl, rfl⟩ := h
    refine ⟨rfl, by simp; omega, ?_⟩
    rw [← List.drop_drop, List.take_append_drop]
  · simp at h
theorem text_good {l t : List UInt8} {i j : Nat} {b : Bool} (h : textF l i b = (t, j, false)) : b = false ∧ l.drop i = text t ++ l.drop j := by
  unfold textF at h
  obtain ⟨h1, h2, h3⟩ := take_good h
  obtain ⟨n, k, c, e⟩ : ∃ n k c, numF l i b = (n, k, c) := ⟨_, _, _, rfl⟩
  rw [e] at h1 h2 h3
  simp only at h1 h2 h3
  subst h1
  obtain ⟨g1, _, g2⟩ := num_good e
  refine ⟨g1, ?_⟩
  rw [g2, h3, ← h2, text, List.append_assoc]
theorem pos_put (n : Nat) (h : n ≤ 4096) : 1 ≤ (WP.put n).length := by
  obtain ⟨_, _, e, _⟩ := WP.put_form n (by omega)
  rw [e]; simp
theorem split_at {l X : List UInt8} {i : Nat} (h : l.drop i = X) (hX : 1 ≤ X.length) : ∃ Z, l = Z ++ X ∧ Z.length = i := by
  have h1 := congrArg List.length h
  simp only [List.length_drop] at h1
  exact ⟨l.take i, by rw [← h, List.take_append_drop], by simp; omega⟩
theorem num_put {l Y : List UInt8} {i n : Nat} (b : Bool) (hn : n ≤ 4096) (h : l.drop i = WP.put n ++ Y) : numF l i b = (n, i + (WP.put n).length, b) ∧ l.drop (i + (WP.put n).length) = Y := by
  have hp := pos_put n hn
  obtain ⟨Z, e, rfl⟩ := split_at h (by simp; omega)
  have hg := WP.get_put Z Y n (by omega)
  rw [List.append_assoc, ← e] at hg
  refine ⟨by unfold numF; rw [hg]; simp only [if_pos (And.intro trivial hn)], ?_⟩
  rw [← List.drop_drop, h, List.drop_left]
theorem four_put {l Y : List UInt8} {i n : Nat} (b : Bool) (hn : n ≤ 4095) (h : l.drop i = Lib.leBytes 4 n ++ Y) : fourF l i b = (n, i + 4, b) ∧ l.drop (i + 4) = Y := by
  have hl := Lib.leBytes_length 4 n
  have h1 := congrArg List.length h
  simp only [List.length_drop, List.length_append, hl] at h1
  have e : (l.drop i).take 4 = Lib.leBytes 4 n := by rw [h, List.take_append_of_le_length (by omega), List.take_of_length_le (by omega)]
  refine ⟨by unfold fourF; rw [if_pos (by omega), e, Lib.leNat_leBytes 4 n (by omega)], ?_⟩
  have h2 := List.drop_left (l₁ := Lib.leBytes 4 n) (l₂ := Y)
  rw [hl] at h2
  rw [← List.drop_drop, h, h2]
theorem take_put {l t Y : List UInt8} {i : Nat} (b : Bool) (hi : i ≤ l.length) (h : l.drop i = t ++ Y) : takeF l i b t.length = (t, i + t.length, b) ∧ l.drop (i + t.length) = Y := by
  have h1 := congrArg List.length h
  simp only [List.length_drop, List.length_append] at h1
  refine ⟨by unfold takeF; rw [if_pos (by omega), h, List.take_left], ?_⟩
  rw [← List.drop_drop, h, List.drop_left]
theorem text_put {l t Y : List UInt8} {i : Nat} (b : Bool) (ht : t.length ≤ 4096) (h : l.drop i = text t ++ Y) : textF l i b = (t, i + (text t).length, b) ∧ l.drop (i + (text t).length) = Y := by
  rw [text, List.append_assoc] at h
  obtain ⟨e1, e2⟩ := num_put b ht h
  have hi : (i + (WP.put t.length).length) ≤ l.length := by
    have := congrArg List.length h
    have := pos_put t.length ht
    simp only [List.length_drop, List.length_append] at *
    omega
  obtain ⟨e3, e4⟩ := take_put b hi e2
  unfold textF
  rw [e1]
  simp only
  rw [e3, show i + (text t).length = i + (WP.put t.length).length + t.length by simp [text]; omega]
  exact ⟨rfl, e4⟩
theorem end_at {l : List UInt8} {i : Nat} (hi : i ≤ l.length) (h : l.drop i = []) : i = l.length := by
  have := List.drop_eq_nil_iff.1 h
  omega
theorem triple {α β γ : Type} (x : α × β × γ) : ∃ a b c, x = (a, b, c) := ⟨_, _, _, rfl⟩
theorem readK_put (k : Nat) (t : List UInt8) (h : OkK k t) : readK (cellK k t) = ((k, t), (cellK k t).length, false) := by
  obtain ⟨h1, h2, h3⟩ := h
  generalize hl : cellK k t = l
  have h0 : l.drop 0 = Lib.leBytes 4 k ++ text t := by rw [List.drop_zero, ← hl]; rfl
  obtain ⟨e1, f1⟩ := four_put false (by omega) h0
  have b1 := four_at (l := l) (i := 0) (b := false) (Nat.zero_le _)
  rw [e1] at b1
  obtain ⟨e2, f2⟩ := text_put (t := t) (Y := []) false (by omega) (by rw [f1, List.append_nil])
  have b2 := text_at (b := false) b1
  simp only at b2
  rw [e2] at b2
  unfold readK
  simp only [e1, e2]
  rw [← end_at b2 f2]
theorem readK_good {l t : List UInt8} {k : Nat} (h : readK l = ((k, t), l.length, false)) : cellK k t = l := by
  unfold readK at h
  obtain ⟨k', i1, b1, e1⟩ := triple (fourF l 0 false)
  simp only [e1] at h
  obtain ⟨t', i2, b2, e2⟩ := triple (textF l i1 b1)
  simp only [e2, Prod.mk.injEq] at h
  obtain ⟨⟨rfl, rfl⟩, rfl, rfl⟩ := h
  obtain ⟨rfl, g2⟩ := text_good e2
  obtain ⟨_, g1⟩ := four_good e1
  rw [List.drop_length, List.append_nil] at g2
  rw [List.drop_zero, g2] at g1
  rw [g1]
  rfl
theorem getK_read (l : List UInt8) : getK l = if (readK l).2 = (l.length, false) ∧ OkK (readK l).1.1 (readK l).1.2 then some (readK l).1 else none := by
  obtain ⟨k, t, i, b, hr⟩ : ∃ k t i b, readK l = ((k, t), i, b) := ⟨_, _, _, _, rfl⟩
  rw [hr]
  split
  · rename_i h
    simp only [Prod.mk.injEq] at h
    obtain ⟨⟨rfl, rfl⟩, h2⟩ := h
    exact (getK_iff l t k).2 ⟨h2, readK_good hr⟩
  · rename_i h
    refine getK_none fun k' t' hok e => h ?_
    have := readK_put k' t' hok
    rw [e, hr] at this
    simp only [Prod.mk.injEq] at this
    obtain ⟨⟨rfl, rfl⟩, rfl, rfl⟩ := this
    exact ⟨rfl, hok⟩
theorem readK_at (l : List UInt8) : (readK l).2.1 ≤ l.length := by
  have b1 := four_at (l := l) (i := 0) (b := false) (Nat.zero_le _)
  exact text_at b1
end Go.Proofs.YtembccehokodeaaGreatDoor.L9.VP

namespace Go.Proofs.YtembccehokodeaaGreatDoor.L8
open Go.Proofs.YtembccehokodeaaGreatDoor.L5
open Go.RowKit
set_option linter.unusedVariables false
set_option linter.unusedSimpArgs false

theorem sum_bs (l : List ByteArray) (h : ∀ s ∈ l, s.size ≤ 65535) : LP.sum (Bs l) ≤ 65535 * l.length := by
  induction l with
  | nil => simp [Bs, LP.sum]
  | cons c l ih =>
    have h1 := h c (by simp)
    have h2 := ih (fun s hs => h s (by simp [hs]))
    simp only [Bs, List.map_cons, LP.sum, List.length_cons] at h2 ⊢
    have := b_size c
    omega
theorem sum_take (l : List ByteArray) (k : Nat) (s : ByteArray) (h : l[k]? = some s) : LP.sum (Bs (l.take (k + 1))) = LP.sum (Bs (l.take k)) + s.size := by
  rw [bs_snoc l k s h, LP.sum_append]
  simp [LP.sum, b_size]

set_option maxHeartbeats 1000000 in
theorem size8_any (f : ByteArray) (A : Option Addr) (l : List ByteArray) (ca : Nat) (w : World) (ha : Lies w w.heap.size A l) (hl : l.length ≤ 1000000) (hf : f.size ≤ 1000000) (hs : ∀ s ∈ l, s.size ≤ 65535) :
    Calls Tryz.prog 54 #[.string f, .slice A l.length ca] w fun e w' => e = .returned (.int .i64 (LP.need f.size (Bs l) : Nat)) ∧ w = w' := by
  have HA := Lib.hid ha
  have HS := Lib.hid hs
  obtain ⟨n, hn⟩ : ∃ n, n = l.length := ⟨_, rfl⟩
  have HN := Lib.hid hn
  rw [← hn] at hl ⊢
  clear ha hs hn
  go_enter Tryz.func54, Tryz.ntmps54
  go_wp2_with fail
  go_loop [5, 6] (fun nv iv => ∃ k : Nat, k ≤ n ∧ iv = .int .i64 k ∧ nv = .int .i64 (f.size + 2 + LP.sum (Bs (l.take k)) + 2 * k : Nat)) (fun _ iv => n - (intOf iv).toNat)
  case atStart => exact ⟨0, Nat.zero_le _, rfl, by simp [Bs, LP.sum]⟩
  case round =>
    obtain ⟨k, hk, rfl, rfl⟩ := hrel
    have hb : LP.sum (Bs (l.take k)) ≤ 65535 * n := Nat.le_trans (sum_bs _ (fun s hs => HS.out s (List.mem_of_mem_take hs))) (Nat.mul_le_mul_left _ (by rw [List.length_take]; omega))
    by_cases hlt : k < n
    · obtain ⟨c, hc⟩ : ∃ c, l[k]? = some c := ⟨_, List.getElem?_eq_getElem (by have := HN.out; omega)⟩
      obtain ⟨a, rfl, hab, hcell⟩ := HA.out k c hc
      have hcs : c.size ≤ 65535 := HS.out c (List.mem_of_getElem? hc)
      have HT := Lib.hid (sum_take l k c hc)
      clear hc hab
      generalize LP.sum (Bs (l.take k)) = q at *
      go_wp2_with fail
      go_round
      case rel => exact ⟨k + 1, by omega, by go_num, by rw [HT.out]; go_num⟩
      case measure => simp [intOf]; omega
    · obtain rfl : k = n := by omega
      have HE : Hid (f.size + 2 + LP.sum (Bs (l.take k)) + 2 * k = LP.need f.size (Bs l)) := Lib.hid (by
        rw [HN.out, List.take_length]
        unfold LP.need
        rw [bs_length])
      rw [HE.out]
      go_wp2_with fail
      go_ret
      exact ⟨rfl, rfl⟩

theorem addr_at (b j : Nat) : (⟨b, 0, none⟩ : Addr).add j = ⟨b, j, none⟩ := by
  unfold Addr.add
  split <;> simp_all
theorem conv_new (w : World) (xs : List Int) (t e s : TypeId) {P : Program} (ht : P.underlying t = some (.slice e)) (he : P.underlying e = some (.int .u8)) (hs : P.underlying s = some .string) :
    (convert t s (.slice (some ⟨w.heap.size, 0, none⟩) xs.length xs.length)).run P (w.alloc (.cells (xs.map (Value.int .u8)).toArray e)) = .ok (.string (strOfNums xs)) (w.alloc (.cells (xs.map (Value.int .u8)).toArray e)) := by
  refine run_convert_bytes_arg _ t e ht he _ 0 _ _ xs rfl (fun i hi => ?_) s hs
  rw [Nat.zero_add, cell_of_row _ _ i _ _ _ (heap_alloc_new _ _)]
  simp [hi]

/-- the cells of bytes -/
def byteCells (l : List UInt8) : List Value := l.map fun b => .int .u8 b.toNat

theorem own_none {w : World} {base : Nat} {t : TypeId} (h : base ≤ w.heap.size) : (w.alloc (.cells #[] t)).ownsRow base t 1 (.slice (some ⟨w.heap.size, 0, none⟩) 0 0) 0 [] :=
  ⟨rfl, .inr ⟨w.heap.size, 0, #[], rfl, h, heap_alloc_new _ _, Nat.le_refl _, by unfold maxLen; omega, rfl, rfl⟩⟩

theorem conv_own {P : Program} {w : World} {base : Nat} {t e s : TypeId} {g n cap : Nat} {l : List UInt8} (ht : P.underlying t = some (.slice e)) (he : P.underlying e = some (.int .u8)) (hs : P.underlying s = some .string)
    (h : w.ownsRow base e 1 (.slice (some ⟨g, 0, none⟩) n cap) n (byteCells l)) (hl : l.length = n) : (convert t s (.slice (some ⟨g, 0, none⟩) n cap)).run P w = .ok (.string ⟨l.toArray⟩) w := by
  subst hl
  refine run_convert_bytes_back w t s e _ cap l ht he hs (fun j hj => ?_)
  rw [addr_at, h.cellAt j (by omega)]
  simp [byteCells, hj]

theorem Tryz.infoByte : (Tryz.prog.info? 5).map (fun i => (i.zero, i.size, i.bytes)) = some (some (.int .u8 0), 1, 1) := by kernel_rfl

theorem byteCells_snoc (l : List UInt8) (b : UInt8) : byteCells (l ++ [b]) = byteCells l ++ [.int .u8 b.toNat] := by simp [byteCells]

set_option maxHeartbeats 400000 in
theorem refRepeat_any (c : UInt8) (n : Nat) (w : World) (hn : n ≤ 100000) :
    Calls Tryz.prog 30 #[.int .u8 c.toNat, .int .i64 n] w fun e w' => e = .returned (.string ⟨(List.replicate n c).toArray⟩) ∧ Below w.heap.size w w' := by
  obtain ⟨i0, hi, hz0, hz1, hz2⟩ := info_parts Tryz.infoByte
  go_enter Tryz.func30, Tryz.ntmps30
  go_wp2_with fail
  go_loopw [5, 6] (fun v i wr => ∃ (k g cap : Nat), k ≤ n ∧ i = .int .i64 k ∧ v = .slice (some ⟨g, 0, none⟩) k cap ∧ w.heap.size ≤ g ∧ wr.ownsRow w.heap.size 5 1 (.slice (some ⟨g, 0, none⟩) k cap) k (byteCells (List.replicate k c)) ∧ Below w.heap.size w wr) (fun _ i _ => n - (intOf i).toNat)
  case atStart => exact ⟨0, w.heap.size, 0, by omega, rfl, rfl, Nat.le_refl _, own_none (Nat.le_refl _), (Below.refl _ w).alloc (Nat.le_refl _) _⟩
  case round =>
    obtain ⟨k, g, cap, hk, rfl, rfl, hg, hown, hb⟩ := hrel
    have hbs := hb.size
    by_cases hlt : k < n
    · go_wp2_with (at_builtin; refine wpList_append_lies _ rfl _ _ 94 rfl w.heap.size 5 i0 (.int .u8 0) 1 1 Tryz.underlying94 hi hz0 hz1 hz2 rfl (by decide) (.slice (some ⟨g, 0, none⟩) k cap) k _ rfl (hown.alloc _) ⟨wr.heap.size, 0, none⟩ 1 1 [.int .u8 c.toNat] rfl rfl (World.news_of_block (cs := #[.int .u8 c.toNat]) (t := 5) (fr := (0, 0)) (heap_alloc_new wr _)) (by simp [Value.oneCell']) (by omega) (by unfold maxLen; omega) (by omega) (by simp; omega) (wr.heap.size + 1) (by simp) ?_; intro g' cap' w1 hown1 hgrow hat hlt1)
      have hg' : w.heap.size ≤ g' := by rcases hat with h | h; (simp [Value.ownBlock] at h; omega); omega
      have hb' : Below w.heap.size w w1 := (hb.alloc hbs _).grown hgrow (by simp; omega) (fun j e => by simp [Value.ownBlock] at e; omega)
      clear hat hgrow hlt1
      go_roundw
      case rel => exact ⟨k + 1, g', cap', by omega, by go_num, rfl, hg', by rw [List.replicate_succ', byteCells_snoc]; exact hown1, hb'⟩
      case measure => simp [intOf]; omega
    · obtain rfl : k = n := by omega
      have hcv := conv_own Tryz.underlying94 Tryz.underlying5 Tryz.underlying9 hown (by simp)
      go_wp2_with fail
      go_ret
      exact ⟨rfl, hb⟩

theorem repeat0_any (n : Nat) (w : World) (hn : n ≤ 100000) :
    Calls Tryz.prog 30 #[.int .u8 0, .int .i64 n] w fun e w' => e = .returned (.string ⟨(List.replicate n (0 : UInt8)).toArray⟩) ∧ Below w.heap.size w w' := refRepeat_any 0 n w hn
theorem two_text (n : Nat) (h : n < 65536) : strOfNums [((n % 256 : Nat) : Int), ((n / 256 : Nat) : Int)] = (⟨(LP.two n).toArray⟩ : ByteArray) := by
  apply ByteArray.ext
  simp [strOfNums, LP.two, LP.u8]
  exact ⟨congrArg _ (by omega), congrArg _ (by omega)⟩
set_option maxHeartbeats 400000 in
theorem two_any (n : Nat) (w : World) (h : n < 65536) :
    Calls Tryz.prog 64 #[.int .i64 n] w fun e w' => e = .returned (.string ⟨(LP.two n).toArray⟩) ∧ Below w.heap.size w w' := by
  have hc := fun a b => conv_new w [a, b] 94 5 9 Tryz.underlying94 Tryz.underlying5 Tryz.underlying9
  simp only [List.length_cons, List.length_nil, List.map_cons, List.map_nil, Nat.zero_add, Nat.reduceAdd] at hc
  have HT := Lib.hid (two_text n h)
  obtain ⟨a, ha⟩ : ∃ a : Nat, a = n % 256 := ⟨_, rfl⟩
  obtain ⟨b, hb⟩ : ∃ b : Nat, b = n / 256 := ⟨_, rfl⟩
  rw [← ha, ← hb] at HT
  have q1 : (n : Int) % 256 = a := by omega
  have q2 : (n : Int).tmod 256 = a := by rw [Int.tmod_eq_emod_of_nonneg (by omega)]; exact q1
  have q3 : (n : Int) / 256 = b := by omega
  have q4 : (n : Int).tdiv 256 = b := by rw [Int.tdiv_eq_ediv_of_nonneg (by omega)]; exact q3
  have q5 : IntKind.i64.wrap (b : Int) = b := IntWalk.i64_in _ (by omega)
  have q6 : IntKind.u8.wrap (a : Int) = a := IntWalk.u8_in _ (by omega)
  have q7 : IntKind.u8.wrap (b : Int) = b := IntWalk.u8_in _ (by omega)
  have q8 : (a : Int) % 256 = a := by omega
  have q9 : (b : Int) % 256 = b := by omega
  clear ha hb
  go_enter Tryz.func64, Tryz.ntmps64
  go_wp2_with fail
  go_ret
  exact ⟨by rw [← HT.out]; rfl, (Below.refl _ w).alloc (Nat.le_refl _) _⟩
theorem getD_of (s : ByteArray) (i : Nat) (hi : i < s.size) : s.data.toList.getD i 0 = s[i] := by
  rw [List.getD_eq_getElem?_getD, List.getElem?_eq_getElem (by simpa using hi)]
  rfl
set_option maxHeartbeats 1000000 in
theorem at_any (s : ByteArray) (i : Nat) (w : World) (h : 2 * i + 2 ≤ s.size) (hs : s.size ≤ 65535) :
    Calls Tryz.prog 75 #[.string s, .int .i64 i] w fun e w' => e = .returned (.int .i64 (LP.at_ (B s) i : Nat)) ∧ Below w.heap.size w w' := by
  obtain ⟨k, hk⟩ : ∃ k : Nat, k = s.size - 2 * i - 2 := ⟨_, rfl⟩
  have i0 : k < s.size := by omega
  have i1 : k + 1 < s.size := by omega
  obtain ⟨b0, hb0⟩ : ∃ c, s[k]'i0 = c := ⟨_, rfl⟩
  obtain ⟨b1, hb1⟩ : ∃ c, s[k + 1]'i1 = c := ⟨_, rfl⟩
  have HV : Hid ((b0.toNat + 256 * b1.toNat : Nat) = LP.at_ (B s) i) := Lib.hid (by
    unfold LP.at_
    rw [show (B s).length = s.size from b_size s, ← hk, show s.size - 2 * i - 1 = k + 1 by omega, getD_of s k i0, getD_of s (k + 1) i1, hb0, hb1])
  rw [← HV.out]
  have l0 : b0.toNat < 256 := b0.toNat_lt
  have l1 : b1.toNat < 256 := b1.toNat_lt
  have r1 : IntKind.i64.wrap (256 * (b1.toNat : Int)) = 256 * (b1.toNat : Int) := IntWalk.i64_in _ (by omega)
  have r2 : IntKind.i64.wrap ((b0.toNat : Int) + 256 * (b1.toNat : Int)) = (b0.toNat : Int) + 256 * (b1.toNat : Int) := IntWalk.i64_in _ (by omega)
  have r3 : IntKind.i64.wrap (b0.toNat : Int) = b0.toNat := IntWalk.i64_in _ (by omega)
  have r4 : IntKind.i64.wrap (b1.toNat : Int) = b1.toNat := IntWalk.i64_in _ (by omega)
  have q1 : IntKind.i64.wrap (2 * (i : Int)) = 2 * (i : Int) := IntWalk.i64_in _ (by omega)
  have q2 : IntKind.i64.wrap ((s.size : Int) - 2 * i) = (s.size : Int) - 2 * i := IntWalk.i64_in _ (by omega)
  have q3 : IntKind.i64.wrap ((s.size : Int) - 2 * i - 2) = (k : Int) := by rw [show (s.size : Int) - 2 * i - 2 = k by omega]; exact IntWalk.i64_in _ (by omega)
  have q4 : (s.size : Int) - 2 * i - 2 = k := by omega
  have q5 : IntKind.i64.wrap (k : Int) = k := IntWalk.i64_in _ (by omega)
  have q6 : IntKind.i64.wrap ((k : Int) + 1) = (k : Int) + 1 := IntWalk.i64_in _ (by omega)
  have j0 : (k : Int) < s.size := by omega
  have j1 : (k : Int) + 1 < s.size := by omega
  have q8 : ((k : Int) + 1).toNat = k + 1 := by omega
  have q9 : (0 : Int) ≤ (k : Int) + 1 := by omega
  clear hk h hs
  go_enter Tryz.func75, Tryz.ntmps75
  go_wp2_with fail
  go_quiet (fail)
  go_wp2_with fail
  go_ret
  exact ⟨by go_num, below_drewN (Below.refl _ _) nq⟩
end Go.Proofs.YtembccehokodeaaGreatDoor.L8

namespace Go.Proofs.YtembccehokodeaaGreatDoor.L8
open Go.Proofs.YtembccehokodeaaGreatDoor.L5
open Go.RowKit
set_option linter.unusedVariables false
set_option linter.unusedSimpArgs false

set_option maxHeartbeats 1000000 in
theorem size_any (f : ByteArray) (A : Option Addr) (l : List ByteArray) (ca : Nat) (w : World) (ha : Lies w w.heap.size A l) (hl : l.length ≤ 1000000) (hf : f.size ≤ 1000000) (hs : ∀ s ∈ l, s.size ≤ 65535) :
    Calls Tryz.prog 53 #[.string f, .slice A l.length ca] w fun e w' => e = .returned (.int .i64 (LP.need f.size (Bs l) : Nat)) ∧ w = w' := by
  have HA := Lib.hid ha
  have HS := Lib.hid hs
  obtain ⟨n, hn⟩ : ∃ n, n = l.length := ⟨_, rfl⟩
  have HN := Lib.hid hn
  rw [← hn] at hl ⊢
  clear ha hs hn
  go_enter Tryz.func53, Tryz.ntmps53
  go_wp2_with fail
  go_loop [5, 7, 17] (fun nv cv iv => ∃ k : Nat, k ≤ n ∧ iv = .int .i64 k ∧ nv = .int .i64 (f.size + 2 * (n + 1) + LP.sum (Bs (l.take k)) : Nat)) (fun _ _ iv => n - (intOf iv).toNat)
  case atStart => exact ⟨0, Nat.zero_le _, rfl, by simp [Bs, LP.sum]⟩
  case round =>
    obtain ⟨k, hk, rfl, rfl⟩ := hrel
    have hb : LP.sum (Bs (l.take k)) ≤ 65535 * n := Nat.le_trans (sum_bs _ (fun s hs => HS.out s (List.mem_of_mem_take hs))) (Nat.mul_le_mul_left _ (by rw [List.length_take]; omega))
    by_cases hlt : k < n
    · obtain ⟨c, hc⟩ : ∃ c, l[k]? = some c := ⟨_, List.getElem?_eq_getElem (by have := HN.out; omega)⟩
      obtain ⟨a, rfl, hab, hcell⟩ := HA.out k c hc
      have hcs : c.size ≤ 65535 := HS.out c (List.mem_of_getElem? hc)
      have HT := Lib.hid (sum_take l k c hc)
      clear hc hab
      generalize LP.sum (Bs (l.take k)) = q at *
      go_wp2_with fail
      go_round
      case rel => exact ⟨k + 1, by omega, by go_num, by rw [HT.out]; go_num⟩
      case measure => simp [intOf]; omega
    · obtain rfl : k = n := by omega
      have HE : Hid (f.size + 2 * (k + 1) + LP.sum (Bs (l.take k)) = LP.need f.size (Bs l)) := Lib.hid (by
        rw [HN.out, List.take_length]
        unfold LP.need
        rw [bs_length]
        omega)
      rw [HE.out]
      go_wp2_with fail
      go_ret
      exact ⟨rfl, rfl⟩
end Go.Proofs.YtembccehokodeaaGreatDoor.L8

namespace Go.Proofs.YtembccehokodeaaGreatDoor.L8
open Go.Proofs.YtembccehokodeaaGreatDoor.L5
open Go.RowKit
set_option linter.unusedVariables false
set_option linter.unusedSimpArgs false

/-- What Pack answers. -/
def packS (room : Nat) (f : ByteArray) (l : List ByteArray) : ByteArray := ⟨(LP.pack room (B f) (Bs l)).toArray⟩
def packV (room : Int) (f : ByteArray) (l : List ByteArray) : Value :=
  if room < 0 ∨ 65535 < room then .tuple #[.string ⟨#[]⟩, .int .i64 4] else if room < (LP.need f.size (Bs l) : Nat) then .tuple #[.string ⟨#[]⟩, .int .i64 8] else .tuple #[.string (packS room.toNat f l), .int .i64 0]
/-- The text behind k cells, and the directory of k of them. -/
def headS (f : ByteArray) (l : List ByteArray) (k : Nat) : ByteArray := ⟨(B f ++ (Bs (l.take k)).flatten).toArray⟩
def endL : Nat → List (List UInt8) → List UInt8
  | _, [] => []
  | a, c :: l => endL (a + c.length) l ++ LP.two a
theorem endL_snoc : ∀ (l : List (List UInt8)) (a : Nat) (c : List UInt8), endL a (l ++ [c]) = LP.two (a + LP.sum l) ++ endL a l
  | [], a, c => by simp [endL, LP.sum]
  | d :: l, a, c => by
    simp only [List.cons_append, endL, endL_snoc l, LP.sum, List.append_assoc]
    rw [Nat.add_assoc]
theorem endL_dir : ∀ (l : List (List UInt8)) (a : Nat), LP.two (a + LP.sum l) ++ endL a l = LP.dir a l
  | [], a => by simp [endL, LP.sum, LP.dir]
  | d :: l, a => by
    simp only [endL, LP.sum, LP.dir, ← endL_dir l, List.append_assoc]
    rw [Nat.add_assoc]
theorem endL_length : ∀ (l : List (List UInt8)) (a : Nat), (endL a l).length = 2 * l.length
  | [], a => rfl
  | d :: l, a => by simp only [endL, List.length_append, endL_length l, LP.two_length, List.length_cons]; omega
def endS (f : ByteArray) (l : List ByteArray) (k : Nat) : ByteArray := ⟨(endL f.size (Bs (l.take k))).toArray⟩
theorem sizeOf (l : List UInt8) : (⟨l.toArray⟩ : ByteArray).size = l.length := by simp [ByteArray.size]
theorem headS_size (f : ByteArray) (l : List ByteArray) (k : Nat) : (headS f l k).size = f.size + LP.sum (Bs (l.take k)) := by
  unfold headS
  rw [sizeOf, List.length_append, LP.flatten_length, b_size]
theorem endS_size (f : ByteArray) (l : List ByteArray) (k : Nat) : (endS f l k).size = 2 * (l.take k).length := by
  simp only [endS, ByteArray.size, List.size_toArray, endL_length, bs_length]
theorem headS_next (f : ByteArray) (l : List ByteArray) (k : Nat) (c : ByteArray) (h : l[k]? = some c) : headS f l k ++ c = headS f l (k + 1) := by
  unfold headS
  rw [bs_snoc l k c h]
  apply ByteArray.ext
  simp
theorem endS_next (f : ByteArray) (l : List ByteArray) (k : Nat) (c : ByteArray) (h : l[k]? = some c) : (⟨(LP.two (headS f l k).size).toArray⟩ : ByteArray) ++ endS f l k = endS f l (k + 1) := by
  rw [headS_size]
  unfold endS
  rw [bs_snoc l k c h, endL_snoc]
  apply ByteArray.ext
  simp
theorem pack_text (f : ByteArray) (l : List ByteArray) (n room : Nat) (hn : n = l.length) : headS f l n ++ ⟨(List.replicate (room - LP.need f.size (Bs l)) (0 : UInt8)).toArray⟩ ++ ((⟨(LP.two (headS f l n).size).toArray⟩ : ByteArray) ++ endS f l n) = packS room f l := by
  subst hn
  rw [headS_size]
  unfold headS endS packS LP.pack
  rw [List.take_length, ← b_size f, ← endL_dir]
  apply ByteArray.ext
  simp

set_option maxHeartbeats 2000000 in
set_option maxRecDepth 100000 in
theorem pack8_any (room : Int) (f : ByteArray) (A : Option Addr) (l : List ByteArray) (ca : Nat) (w : World) (ha : Lies w w.heap.size A l) (hl : l.length ≤ 1000000) (hf : f.size ≤ 1000000) (hs : ∀ s ∈ l, s.size ≤ 65535) :
    Calls Tryz.prog 36 #[.int .i64 room, .string f, .slice A l.length ca] w fun e w' => e = .returned (packV room f l) ∧ Below w.heap.size w w' := by
  have HSZ := Lib.hid (size8_any f A l ca w ha hl hf hs)
  by_cases h1 : room < 0
  · have hv : packV room f l = .tuple #[.string ⟨#[]⟩, .int .i64 4] := by unfold packV; rw [if_pos (.inl h1)]
    rw [hv]
    clear hv
    go_enter Tryz.func36, Tryz.ntmps36
    go_wp2_with fail
    go_ret2
    exact ⟨rfl, Below.refl _ _⟩
  by_cases h2 : 65535 < room
  · have hv : packV room f l = .tuple #[.string ⟨#[]⟩, .int .i64 4] := by unfold packV; rw [if_pos (.inr h2)]
    rw [hv]
    clear hv
    go_enter Tryz.func36, Tryz.ntmps36
    go_wp2_with fail
    go_ret2
    exact ⟨rfl, Below.refl _ _⟩
  by_cases h3 : room < (LP.need f.size (Bs l) : Nat)
  · have hv : packV room f l = .tuple #[.string ⟨#[]⟩, .int .i64 8] := by unfold packV; rw [if_neg (by omega), if_pos h3]
    rw [hv]
    clear hv
    generalize LP.need f.size (Bs l) = q at *
    go_enter Tryz.func36, Tryz.ntmps36
    go_wp2_with fail
    refine HSZ.out.mono ?_
    rintro e w1 ⟨rfl, rfl⟩
    go_wp2_with fail
    go_ret2
    exact ⟨rfl, Below.refl _ _⟩
  obtain ⟨m, rfl⟩ := Int.eq_ofNat_of_zero_le (show 0 ≤ room by omega)
  have hv : packV m f l = .tuple #[.string (packS m f l), .int .i64 0] := by unfold packV; rw [if_neg (by omega), if_neg h3, Int.toNat_natCast]
  rw [hv]
  clear hv
  obtain ⟨P, hP⟩ : ∃ P, packS m f l = P := ⟨_, rfl⟩
  have HP := Lib.hid hP
  rw [hP]
  have HA := Lib.hid ha
  obtain ⟨n, hn⟩ : ∃ n, n = l.length := ⟨_, rfl⟩
  have HN := Lib.hid hn
  have HNEED : Hid (LP.need f.size (Bs l) ≤ m) := Lib.hid (by omega)
  have HQ : Hid (∀ k, f.size + LP.sum (Bs (l.take k)) + 2 * n + 2 ≤ m) := Lib.hid (fun k => by
    have h5 := HNEED.out
    unfold LP.need at h5
    rw [bs_length, ← hn] at h5
    have h6 : Bs (l.take k) = (Bs l).take k := by simp [Bs]
    have h7 := LP.sum_take_le (Bs l) k
    rw [h6]
    omega)
  rw [← hn] at HSZ hl ⊢
  obtain ⟨q, hq⟩ : ∃ q, LP.need f.size (Bs l) = q := ⟨_, rfl⟩
  rw [hq] at HSZ h3
  have HQ2 := Lib.hid hq
  have hd1 : decide (m < q) = false := decide_eq_false (by omega)
  have hd2 : decide ((m : Int) < (q : Int)) = false := decide_eq_false (by omega)
  clear ha hs hn hP hq
  go_enter Tryz.func36, Tryz.ntmps36
  go_wp2_with fail
  refine HSZ.out.mono ?_
  rintro e w1 ⟨rfl, rfl⟩
  go_wp2_with fail
  go_loopw [8, 9, 10] (fun sv ev iv wr => ∃ k : Nat, k ≤ n ∧ iv = .int .i64 k ∧ sv = .string (headS f l k) ∧ ev = .string (endS f l k) ∧ Below w.heap.size w wr) (fun _ _ iv _ => n - (intOf iv).toNat)
  case atStart =>
    refine ⟨0, Nat.zero_le _, rfl, ?_, ?_, Below.refl _ _⟩
    · simp [headS, Bs]
    · simp [endS, Bs, endL]
  case round =>
    obtain ⟨k, hk, rfl, rfl, rfl, hbw⟩ := hrel
    have hz := HQ.out k
    have hH := headS_size f l k
    have hE := endS_size f l k
    have hlt2 : (l.take k).length = k := by rw [List.length_take, ← HN.out]; omega
    rw [hlt2] at hE
    have HTW := Lib.hid (fun W => two_any (headS f l k).size W (by omega))
    obtain ⟨D, hD⟩ : ∃ D : ByteArray, ⟨(LP.two (headS f l k).size).toArray⟩ = D := ⟨_, rfl⟩
    have sD : D.size = 2 := by rw [← hD, sizeOf]; rfl
    rw [hD] at HTW
    by_cases hlt : k < n
    · obtain ⟨c, hc⟩ : ∃ c, l[k]? = some c := ⟨_, List.getElem?_eq_getElem (by have := HN.out; omega)⟩
      have hz2 := HQ.out (k + 1)
      rw [sum_take l k c hc] at hz2
      have HH := Lib.hid (headS_next f l k c hc)
      have HE := Lib.hid (endS_next f l k c hc)
      rw [hD] at HE
      clear hD
      obtain ⟨a, rfl, hab, hcell⟩ := (HA.out.below hbw) k c hc
      clear hc hlt2
      obtain ⟨H, hHH⟩ : ∃ H, headS f l k = H := ⟨_, rfl⟩
      obtain ⟨E, hEE⟩ : ∃ E, endS f l k = E := ⟨_, rfl⟩
      rw [hHH] at HTW HH hH ⊢
      rw [hEE] at HE hE ⊢
      have b1 : ¬ 9223372036854775807 < D.size + E.size := by omega
      have b2 : ¬ 9223372036854775807 < H.size + c.size := by omega
      obtain ⟨E', hE'⟩ : ∃ E', D ++ E = E' := ⟨_, rfl⟩
      obtain ⟨H', hH'⟩ : ∃ H', H ++ c = H' := ⟨_, rfl⟩
      rw [hE'] at HE
      rw [hH'] at HH
      have HCL : Hid (∀ V, Below wr.heap.size wr V → V.cell? (a.add k) = some (.string c)) := Lib.hid (fun V hb => (hb.cell (by rw [addr_block]; exact Nat.lt_of_lt_of_le hab hbw.size)).trans hcell)
      clear hHH hEE hH hE sD hz hz2 hab hcell
      go_wp2_with fail
      refine (HTW.out _).mono ?_
      rintro e w1 ⟨rfl, hb1⟩
      have hcell := HCL.out _ hb1
      go_wp2_with fail
      go_roundw
      case rel => exact ⟨k + 1, by omega, by go_num, by rw [HH.out], by rw [HE.out], hbw.trans' hb1⟩
      case measure => simp [intOf]; omega
    · obtain rfl : k = n := by omega
      have HPT := Lib.hid (pack_text f l k m HN.out)
      rw [HQ2.out, HP.out, hD] at HPT
      have hqe : q = f.size + 2 + LP.sum (Bs (l.take k)) + 2 * k := by
        rw [← HQ2.out, HN.out, List.take_length]
        unfold LP.need
        rw [bs_length]
      obtain ⟨z, hzz⟩ : ∃ z : Nat, z = m - q := ⟨_, rfl⟩
      rw [← hzz] at HPT
      have HRZ := Lib.hid (fun W => repeat0_any z W (by omega))
      obtain ⟨Z, hZ⟩ : ∃ Z : ByteArray, ⟨(List.replicate z (0 : UInt8)).toArray⟩ = Z := ⟨_, rfl⟩
      rw [hZ] at HRZ HPT
      have sZ : Z.size = z := by rw [← hZ, sizeOf]; simp
      clear hD hZ hlt2
      obtain ⟨H, hHH⟩ : ∃ H, headS f l k = H := ⟨_, rfl⟩
      obtain ⟨E, hEE⟩ : ∃ E, endS f l k = E := ⟨_, rfl⟩
      rw [hHH] at HTW hH HPT ⊢
      rw [hEE] at hE HPT ⊢
      obtain ⟨E', hE'⟩ : ∃ E', D ++ E = E' := ⟨_, rfl⟩
      have sE' : E'.size = 2 + 2 * k := by rw [← hE', ByteArray.size_append]; omega
      obtain ⟨J, hJ⟩ : ∃ J, H ++ Z = J := ⟨_, rfl⟩
      have sJ : J.size = H.size + z := by rw [← hJ, ByteArray.size_append, sZ]
      rw [hE', hJ] at HPT
      have b1 : ¬ 9223372036854775807 < D.size + E.size := by omega
      have b2 : ¬ 9223372036854775807 < H.size + Z.size := by omega
      have b3 : ¬ 9223372036854775807 < J.size + E'.size := by omega
      have q1 : IntKind.i64.wrap ((m : Int) - H.size) = (m : Int) - H.size := IntWalk.i64_in _ (by omega)
      have q2 : IntKind.i64.wrap ((m : Int) - H.size - E'.size) = z := by rw [show (m : Int) - H.size - E'.size = z by omega]; exact IntWalk.i64_in _ (by omega)
      have q3 : (m : Int) - H.size - E'.size = z := by omega
      have q4 : IntKind.i64.wrap (z : Int) = z := IntWalk.i64_in _ (by omega)
      clear hHH hEE hH hE sD hz sE' sJ sZ hzz hqe h3
      go_wp2_with fail
      refine (HTW.out _).mono ?_
      rintro e w1 ⟨rfl, hb1⟩
      go_wp2_with fail
      refine (HRZ.out _).mono ?_
      rintro e w2 ⟨rfl, hb2⟩
      have HPE := HPT.out
      go_wp2_with fail
      go_ret2
      exact ⟨rfl, (hbw.trans' hb1).trans' hb2⟩
end Go.Proofs.YtembccehokodeaaGreatDoor.L8
