/-
  The program's disk: its block; the walks of Len, Page, Room, Reads, stopped, settle, Limit, Sync.
-/
import Derived.Test.YtaeiifmdbdhoeaaDoorGPages
import Derived.Deep.RegionHeldLaw
import Derived.OpenShut
namespace Go.Proofs.YtaeiifmdbdhoeaaDoor
open Go.RowKit

open DP (W D)
set_option linter.unusedVariables false
set_option linter.unusedSimpArgs false
variable {Fb : Nat → Prop}

/-- A cell of an object is set. -/
def upd (i : Nat) (v : Value) : Obj → Obj
  | .cells c e f => .cells (c.setIfInBounds i v) e f
  | o => o
theorem set_map (w : World) (b i : Nat) (v : Value) : (w.setCell ⟨b, i, none⟩ v).heap[b]? = (w.heap[b]?).map (upd i v) := by
  simp only [World.setCell, Array.getElem?_modify, if_pos]
  cases w.heap[b]? with
  | none => rfl
  | some o => cases o <;> rfl
theorem Chg.drew {F : Nat → Prop} {w w' : World} (h : Chg F w w') : Chg F w w'.drew := ⟨h.os, h.tape, h.output, h.size, h.block⟩
theorem Chg.drewN {F : Nat → Prop} {w w' : World} (h : Chg F w w') (n : Nat) : Chg F w (w'.drewN n) := ⟨h.os, h.tape, h.output, h.size, h.block⟩
theorem Chg.then {F : Nat → Prop} {w a b : World} (h : Chg F w a) (k : Below a.heap.size a b) : Chg F w b := h.trans' (Chg.of_below k)
theorem Chg.alloc {F : Nat → Prop} {w a : World} (h : Chg F w a) (o : Obj) : Chg F w (a.alloc o) := h.then (below_alloc a o)

/-- The block of a disk. -/
def Obd (w : World) (b : Nat) (p room reads n1 : Int) (B1 : Value) (n2 : Int) (B2 nw : Value) (lim : Bool) (lf : Int) : Prop :=
  w.heap[b]? = some (.cells #[.int .i64 room, .int .i64 reads, .int .i64 p, .int .i64 n1, B1, .int .i64 p, .int .i64 n2, B2, nw, .bool lim, .int .i64 lf] 70 (0, 0))
section
variable {w w' : World} {b : Nat} {p room reads n1 n2 lf : Int} {B1 B2 nw : Value} {lim : Bool}
theorem Obd.at (h : Obd w b p room reads n1 B1 n2 B2 nw lim lf) (i : Nat) (v : Value) (hv : (#[.int .i64 room, .int .i64 reads, .int .i64 p, .int .i64 n1, B1, .int .i64 p, .int .i64 n2, B2, nw, .bool lim, .int .i64 lf] : Array Value)[i]? = some v) : w.cell? ⟨b, i, none⟩ = some v := by
  unfold Obd at h
  simp only [World.cell?, h]
  simpa using hv
theorem Obd.free (h : Obd w b p room reads n1 B1 n2 B2 nw lim lf) (i : Nat) : w.frozen? ⟨b, i, none⟩ = false := by
  unfold Obd at h
  simp [World.frozen?, h]
theorem Obd.lt (h : Obd w b p room reads n1 B1 n2 B2 nw lim lf) : b < w.heap.size := (Array.getElem?_eq_some_iff.1 h).1
theorem Obd.stays (h : Obd w b p room reads n1 B1 n2 B2 nw lim lf) (hb : w'.heap[b]? = w.heap[b]?) : Obd w' b p room reads n1 B1 n2 B2 nw lim lf := hb.trans h
theorem Obd.below (h : Obd w b p room reads n1 B1 n2 B2 nw lim lf) (k : Below w.heap.size w w') : Obd w' b p room reads n1 B1 n2 B2 nw lim lf := h.stays (k.block b h.lt)
/-- What stands in blocks of other types stays. -/
theorem Obd.st (h : Obd w b p room reads n1 B1 n2 B2 nw lim lf) (k : Chg (fun j => j = b) w w') : St w w' := fun j cs t fz hj ht => k.block j (Array.getElem?_eq_some_iff.1 hj).1 (fun e => by
  subst e
  unfold Obd at h
  rw [h] at hj
  obtain ⟨_, rfl, _⟩ : _ = cs ∧ _ = t ∧ _ = fz := by simpa using hj
  revert ht
  decide)
end

/-- The writes that are pending, the newest one first. -/
def Chain (w : World) : Value → List W → Prop
  | v, [] => v = .pointer none
  | v, x :: q => ∃ g v', v = .pointer (some ⟨g, 0, none⟩) ∧ w.heap[g]? = some (.cells #[.int .i64 x.i, .string x.s, v'] 83 (0, 0)) ∧ Chain w v' q
theorem Chain.st {w w' : World} (k : St w w') : ∀ {q : List W} {v : Value}, Chain w v q → Chain w' v q
  | [], v, h => h
  | x :: q, v, ⟨g, v', e, hg, hc⟩ => ⟨g, v', e, (k g _ _ _ hg (.inr (.inr rfl))).trans hg, Chain.st k hc⟩

/-- How many calls are left, as the disk has it. -/
def LeftIs (lim : Bool) (lf : Int) (o : Option Nat) : Prop := (-9223372036854775808 ≤ lf ∧ lf ≤ 9223372036854775807) ∧ match o with
  | none => lim = false
  | some n => lim = true ∧ lf.toNat = n
theorem LeftIs.stopped {lim : Bool} {lf : Int} {o : Option Nat} (h : LeftIs lim lf o) : (lim && decide (lf < 1)) = decide (o = some 0) := by
  obtain ⟨_, h⟩ := h
  cases o with
  | none => simp only at h; subst h; simp
  | some n =>
    obtain ⟨rfl, hn⟩ := h
    by_cases e : n = 0
    · have : lf < 1 := by omega
      simp [this, e]
    · have : ¬ lf < 1 := by omega
      simp [this, e]
theorem LeftIs.less {lim : Bool} {lf : Int} {o : Option Nat} (h : LeftIs lim lf o) (hs : o ≠ some 0) : LeftIs lim (IntKind.i64.wrap (lf - 1)) (o.map fun n => n - 1) := by
  obtain ⟨hb, h⟩ := h
  cases o with
  | none => exact ⟨by rw [IntKind.wrap_i64]; omega, h⟩
  | some n =>
    obtain ⟨rfl, hn⟩ := h
    have h0 : n ≠ 0 := fun e => hs (by rw [e])
    have e : IntKind.i64.wrap (lf - 1) = lf - 1 := IntWalk.i64_in _ (by omega)
    rw [e]
    exact ⟨by omega, rfl, by show (lf - 1).toNat = n - 1; omega⟩

/-- What pages stand in a block, at blocks A. -/
structure Pgs (Fb : Nat → Prop) (w : World) (p : Nat) (A : Option Addr) (c : Nat) (L : List (List ByteArray)) (l : List ByteArray) : Prop where
  blocks : Blocks Fb w A c L
  rep : Rep p L l
theorem Pgs.st {w w' : World} {p : Nat} {A : Option Addr} {c : Nat} {L : List (List ByteArray)} {l : List ByteArray} (h : Pgs Fb w p A c L l) (k : St w w') : Pgs Fb w' p A c L l := ⟨h.blocks.st k, h.rep⟩

/-- The program's disk at block b. -/
structure HasX (Fb : Nat → Prop) (w : World) (b : Nat) (d : D) : Prop where
  parts : ∃ A1 c1 L1 A2 c2 L2 nw lim lf, Obd w b d.p d.room d.reads d.all.length (.slice A1 L1.length c1) d.kept.length (.slice A2 L2.length c2) nw lim lf ∧ Pgs Fb w d.p A1 c1 L1 d.all ∧ Pgs Fb w d.p A2 c2 L2 d.kept ∧ Chain w nw d.q.reverse ∧ LeftIs lim lf d.left
  ok : d.Ok
  small : 0 < d.p ∧ d.p ≤ 1024 ∧ 0 < d.room ∧ d.room ≤ 4096 ∧ d.reads ≤ 1000000
theorem HasX.st {w w' : World} {b : Nat} {d : D} (h : HasX Fb w b d) (hb : w'.heap[b]? = w.heap[b]?) (k : St w w') : HasX Fb w' b d := by
  obtain ⟨A1, c1, L1, A2, c2, L2, nw, lim, lf, h1, h2, h3, h4, h5⟩ := h.parts
  exact ⟨⟨A1, c1, L1, A2, c2, L2, nw, lim, lf, h1.stays hb, h2.st k, h3.st k, h4.st k, h5⟩, h.ok, h.small⟩
theorem HasX.lt {w : World} {b : Nat} {d : D} (h : HasX Fb w b d) : b < w.heap.size := by
  obtain ⟨A1, c1, L1, A2, c2, L2, nw, lim, lf, h1, _⟩ := h.parts
  exact h1.lt
theorem HasX.below {w w' : World} {b : Nat} {d : D} (h : HasX Fb w b d) (k : Below w.heap.size w w') : HasX Fb w' b d := h.st (k.block b h.lt) (.of_below k)

set_option maxRecDepth 100000 in
theorem len_any (b : Nat) (d : D) (w : World) (h : HasX Fb w b d) : Calls Tryd.prog 15 #[.pointer (some ⟨b, 0, none⟩)] w fun e w' => e = .returned (.int .i64 d.len) ∧ w = w' := by
  obtain ⟨A1, c1, L1, A2, c2, L2, nw, lim, lf, h1, _⟩ := h.parts
  have c3 := h1.at 3 _ rfl
  have HL := Lib.hid d.all_length
  rw [← HL.out]
  clear h1 h
  go_enter Tryd.func15, Tryd.ntmps15
  go_wp2_with fail
  go_ret
  exact ⟨rfl, rfl⟩
set_option maxRecDepth 100000 in
theorem page'_any (b : Nat) (d : D) (w : World) (h : HasX Fb w b d) : Calls Tryd.prog 21 #[.pointer (some ⟨b, 0, none⟩)] w fun e w' => e = .returned (.int .i64 d.p) ∧ w = w' := by
  obtain ⟨A1, c1, L1, A2, c2, L2, nw, lim, lf, h1, _⟩ := h.parts
  have c3 := h1.at 2 _ rfl
  clear h1 h
  go_enter Tryd.func21, Tryd.ntmps21
  go_wp2_with fail
  go_ret
  exact ⟨rfl, rfl⟩
set_option maxRecDepth 100000 in
theorem room_any (b : Nat) (d : D) (w : World) (h : HasX Fb w b d) : Calls Tryd.prog 22 #[.pointer (some ⟨b, 0, none⟩)] w fun e w' => e = .returned (.int .i64 d.room) ∧ w = w' := by
  obtain ⟨A1, c1, L1, A2, c2, L2, nw, lim, lf, h1, _⟩ := h.parts
  have c3 := h1.at 0 _ rfl
  clear h1 h
  go_enter Tryd.func22, Tryd.ntmps22
  go_wp2_with fail
  go_ret
  exact ⟨rfl, rfl⟩
set_option maxRecDepth 100000 in
theorem reads_any (b : Nat) (d : D) (w : World) (h : HasX Fb w b d) : Calls Tryd.prog 17 #[.pointer (some ⟨b, 0, none⟩)] w fun e w' => e = .returned (.int .i64 d.reads) ∧ w = w' := by
  obtain ⟨A1, c1, L1, A2, c2, L2, nw, lim, lf, h1, _⟩ := h.parts
  have c3 := h1.at 1 _ rfl
  clear h1 h
  go_enter Tryd.func17, Tryd.ntmps17
  go_wp2_with fail
  go_ret
  exact ⟨rfl, rfl⟩
set_option maxRecDepth 100000 in
theorem stopped_any (b : Nat) (d : D) (w : World) (h : HasX Fb w b d) : Calls Tryd.prog 42 #[.pointer (some ⟨b, 0, none⟩)] w fun e w' => e = .returned (.bool (decide (d.left = some 0))) ∧ w = w' := by
  obtain ⟨A1, c1, L1, A2, c2, L2, nw, lim, lf, h1, _, _, _, h5⟩ := h.parts
  have c9 := h1.at 9 _ rfl
  have c10 := h1.at 10 _ rfl
  have HS := Lib.hid h5.stopped
  rw [← HS.out]
  clear h1 h h5
  cases lim with
  | false =>
    go_enter Tryd.func42, Tryd.ntmps42
    go_wp2_with fail
    go_ret
    exact ⟨rfl, rfl⟩
  | true =>
    generalize hk : decide (lf < 1) = k
    go_enter Tryd.func42, Tryd.ntmps42
    go_wp2_with fail
    go_ret
    exact ⟨rfl, rfl⟩

/-- All three: the two sets of pages, and what is pending. -/
theorem obd_of {w w' : World} {b : Nat} {p room reads n1 n2 lf : Int} {B1 B2 nw : Value} {lim : Bool} (h : Obd w b p room reads n1 B1 n2 B2 nw lim lf) (x : Nat) (v : Value) {cs : Array Value} (hc : (#[.int .i64 room, .int .i64 reads, .int .i64 p, .int .i64 n1, B1, .int .i64 p, .int .i64 n2, B2, nw, .bool lim, .int .i64 lf] : Array Value).setIfInBounds x v = cs) : (w.setCell ⟨b, x, none⟩ v).heap[b]? = some (.cells cs 70 (0, 0)) := by
  rw [set_map, show w.heap[b]? = _ from h, ← hc]; rfl

set_option maxHeartbeats 1000000 in
set_option maxRecDepth 100000 in
theorem settle_any (b : Nat) (p room reads n1 n2 lf n : Int) (B1 B2 nw : Value) (A : Option Addr) (k c : Nat) (lim : Bool) (w : World) (h : Obd w b p room reads n1 B1 n2 B2 nw lim lf) :
    Calls Tryd.prog 43 #[.pointer (some ⟨b, 0, none⟩), .agg #[.int .i64 p, .int .i64 n, .slice A k c]] w fun e w' => e = .returned (.tuple #[]) ∧ Obd w' b p room reads n (.slice A k c) n (.slice A k c) (.pointer none) lim lf ∧ Chg (fun j => j = b) w w' := by
  have hbx := heap_alloc_new w (.cells #[.int .i64 p, .int .i64 n, .slice A k c] 67)
  have hb0 := below_alloc w (.cells #[.int .i64 p, .int .i64 n, .slice A k c] 67)
  have h0 := h.below hb0
  have HB0 := Lib.hid (Chg.of_below (F := fun j => j = b) hb0)
  have HBL := Lib.hid h.lt
  generalize hw0 : w.alloc (.cells #[.int .i64 p, .int .i64 n, .slice A k c] 67) = w0 at *
  obtain ⟨x0, x1, x2⟩ := tri_cells hbx
  have H0 := Lib.hid h0
  have y2 := h0.at 2 _ rfl
  have y3 := h0.at 3 _ rfl
  have y4 := h0.at 4 _ rfl
  have y5 := h0.at 5 _ rfl
  have y6 := h0.at 6 _ rfl
  have y7 := h0.at 7 _ rfl
  have y8 := h0.at 8 _ rfl
  have f2 := h0.free 2
  have f3 := h0.free 3
  have f4 := h0.free 4
  have f5 := h0.free 5
  have f6 := h0.free 6
  have f7 := h0.free 7
  have f8 := h0.free 8
  have hne : b ≠ w.heap.size := by have := HBL.out; omega
  have hne' : w.heap.size ≠ b := by have := HBL.out; omega
  clear hbx hb0 h0 h
  go_enter Tryd.func43, Tryd.ntmps43
  go_wp2_with fail
  go_region
  all_goals
    go_wp2_with fail
    go_end0
    refine ⟨rfl, ?_, ?_⟩
    · unfold Obd
      simp only [set_map, heap_drew]
      rw [show w0.heap[b]? = _ from H0.out]
      rfl
    · repeat' (first | exact rfl | with_reducible refine Chg.set ?_ ?_ _ _ | with_reducible refine Chg.drew ?_ | with_reducible exact HB0.out)
      all_goals trace_state

theorem obd_set {w : World} {b : Nat} {i : Nat} {v : Value} {cs cs' : Array Value} {t : TypeId} (h : w.heap[b]? = some (.cells cs t (0, 0))) (hc : cs.setIfInBounds i v = cs') : (w.setCell ⟨b, i, none⟩ v).heap[b]? = some (.cells cs' t (0, 0)) := by
  rw [← hc]; exact heap_setCell_same _ _ _ _ _ _ h

set_option maxRecDepth 100000 in
theorem limit_any (b : Nat) (d : D) (n : Int) (w : World) (h : HasX Fb w b d) (hn : (Lit.int .i64 n).wf = true) :
    Calls Tryd.prog 28 #[.pointer (some ⟨b, 0, none⟩), .int .i64 n] w fun e w' => e = .returned (.tuple #[]) ∧ HasX Fb w' b (d.limit n) ∧ Chg (fun j => j = b) w w' := by
  obtain ⟨A1, c1, L1, A2, c2, L2, nw, lim, lf, h1, h2, h3, h4, h5⟩ := h.parts
  have HP := Lib.hid (⟨h2, h3, h4, h.ok, h.small, h1⟩ : Pgs Fb w d.p A1 c1 L1 d.all ∧ Pgs Fb w d.p A2 c2 L2 d.kept ∧ Chain w nw d.q.reverse ∧ d.Ok ∧ _ ∧ Obd w b d.p d.room d.reads d.all.length (.slice A1 L1.length c1) d.kept.length (.slice A2 L2.length c2) nw lim lf)
  have c9 := h1.at 9 _ rfl
  have c10 := h1.at 10 _ rfl
  have f9 := h1.free 9
  have f10 := h1.free 10
  have hnb := bounds_i64 hn
  clear h1 h2 h3 h4 h5 h
  go_enter Tryd.func28, Tryd.ntmps28
  go_wp2_with fail
  first | go_region | skip
  all_goals
    go_wp2_with fail
    go_end0
    obtain ⟨h2, h3, h4, ho, hs, h1⟩ := HP.out
    have hch := ((Chg.refl (fun j => j = b) w).set rfl 9 (.bool true)).set rfl 10 (.int .i64 n)
    refine ⟨rfl, ⟨⟨A1, c1, L1, A2, c2, L2, nw, true, n, ?_, h2.st (h1.st hch), h3.st (h1.st hch), h4.st (h1.st hch), ?_⟩, ho.limit n, hs⟩, hch⟩
    · unfold Obd
      simp only [set_map, heap_drew]
      rw [show w.heap[b]? = _ from h1]
      rfl
    · exact ⟨by omega, rfl, rfl⟩
end Go.Proofs.YtaeiifmdbdhoeaaDoor
