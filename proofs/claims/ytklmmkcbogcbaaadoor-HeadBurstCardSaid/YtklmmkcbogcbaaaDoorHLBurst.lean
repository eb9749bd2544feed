/-
  The walk of the law HeadBurst.
-/
import Derived.Test.YtklmmkcbogcbaaaDoorHFixed
import Derived.Test.YtklmmkcbogcbaaaDoorHLBody
import Derived.Test.YtklmmkcbogcbaaaDoorSBurstM
import Derived.IntWalk
import Derived.BigRegion
import Derived.Lib.BufferWrite
namespace Go.Proofs.YtklmmkcbogcbaaaDoor
open Go.RowKit
set_option linter.unusedVariables false
set_option linter.unusedSimpArgs false

/-- Block g has these bytes at its head, and they may be written. -/
def BytesAt (g : Nat) (l : List UInt8) (w : World) : Prop := (∀ j c, l[j]? = some c → w.cell? ⟨g, j, none⟩ = some (.int .u8 (c.toNat : Nat))) ∧ (∀ j, j < l.length → w.frozen? ⟨g, j, none⟩ = false) ∧ g < w.heap.size

theorem bytesAt_set {g : Nat} {l : List UInt8} {w : World} (h : BytesAt g l w) (i : Nat) (c : UInt8) (hi : i < l.length) : BytesAt g (l.set i c) (w.setCell ⟨g, i, none⟩ (.int .u8 (c.toNat : Nat))) := by
  obtain ⟨h1, h2, h3⟩ := h
  refine ⟨fun j d hj => ?_, fun j hj => ?_, by simpa using h3⟩
  · by_cases e : i = j
    · subst e
      rw [List.getElem?_set_self hi] at hj
      simp only [Option.some.injEq] at hj
      subst hj
      obtain ⟨v, hv⟩ : ∃ v, w.cell? ⟨g, i, none⟩ = some v := ⟨_, h1 i l[i] (List.getElem?_eq_getElem hi)⟩
      exact World.cell?_setCell_same _ _ _ hv
    · rw [List.getElem?_set_ne e] at hj
      rw [World.cell?_setCell_other _ _ _ _ (fun h => e (by injection h))]
      exact h1 j d hj
  · rw [List.length_set] at hj
    have h := h2 j hj
    simpa using h
theorem bytesAt_drew {g : Nat} {l : List UInt8} {w : World} (h : BytesAt g l w) : BytesAt g l w.drew := h
theorem conv_at {g n cap : Nat} {l : List UInt8} {w : World} (h : BytesAt g l w) (hl : l.length = n) :
    (convert 44 9 (.slice (some ⟨g, 0, none⟩) n cap)).run Tryd.prog w = .ok (.string ⟨l.toArray⟩) w := by
  have hc := run_convert_bytes_back (P := Tryd.prog) w 44 9 5 ⟨g, 0, none⟩ cap l Tryd.underlying44 Tryd.underlying5 Tryd.underlying9 (fun j hj => by
    rw [addr_at]
    exact h.1 j _ (List.getElem?_eq_getElem hj))
  rwa [hl] at hc
/-- '[]byte(s)'. -/
theorem conv_to (s : ByteArray) (w : World) : ∃ cap w', (convert 9 44 (.string s)).run Tryd.prog w = .ok (.slice (some ⟨w.heap.size, 0, none⟩) s.size cap) w' ∧ BytesAt w.heap.size s.data.toList w' ∧ Below w.heap.size w w' := by
  refine ⟨_, _, run_bytes_of_string (P := Tryd.prog) w 9 44 5 s Tryd.underlying9 Tryd.underlying44 Tryd.underlying5, ⟨fun j c hj => ?_, fun j hj => ?_, ?_⟩, ?_⟩
  · have hlt : j < s.data.size := by have := (List.getElem?_eq_some_iff.1 hj).1; simpa using this
    have h := World.cell?_alloc_mark w.drew (bytesRow s (grownCap w s.size 0 5)) 5 ((bytesRow s (grownCap w s.size 0 5)).size, (bytesRow s (grownCap w s.size 0 5)).size + 1) j
    rw [bytesRow_at s _ j hlt] at h
    have e : s.data[j] = c := by
      have := (List.getElem?_eq_some_iff.1 hj).2
      simpa using this
    rw [e] at h
    exact h
  · have hlt : j < s.data.size := by simpa using hj
    have h := World.frozen?_alloc_mark w.drew (bytesRow s (grownCap w s.size 0 5)) 5 (bytesRow s (grownCap w s.size 0 5)).size ((bytesRow s (grownCap w s.size 0 5)).size + 1) j
    have hsz : s.data.size ≤ (bytesRow s (grownCap w s.size 0 5)).size := by simp [bytesRow]
    rw [decide_eq_false (show ¬ (bytesRow s (grownCap w s.size 0 5)).size ≤ j by omega)] at h
    exact h
  · show w.heap.size < (w.heap.push _).size
    simp
  · exact (Below.refl _ w).drew.alloc (Nat.le_refl _) _

theorem bytesAt_kept {g : Nat} {l : List UInt8} {w w' : World} (h : BytesAt g l w) (k : Below w.heap.size w w') : BytesAt g l w' := by
  have hb := k.block g h.2.2
  refine ⟨fun j c hj => ?_, fun j hj => ?_, Nat.lt_of_lt_of_le h.2.2 k.size⟩
  · have := h.1 j c hj
    unfold World.cell? at *
    rw [hb]
    exact this
  · have := h.2.1 j hj
    unfold World.frozen? at *
    rw [hb]
    exact this
def nth4 (x y z u : UInt8) (k : Nat) : UInt8 := [x, y, z, u].getD k 0
/-- A box of what is spoilt. -/
def Sp (g : Nat) (a x y z u : UInt8) (w : World) : Prop := w.heap[g]? = some (.cells #[.int .u8 (a.toNat : Nat), .int .u8 (x.toNat : Nat), .int .u8 (y.toNat : Nat), .int .u8 (z.toNat : Nat), .int .u8 (u.toNat : Nat)] 43 (0, 0))
theorem Sp.lt {g : Nat} {a x y z u : UInt8} {w : World} (k : Sp g a x y z u w) : g < w.heap.size := (Array.getElem?_eq_some_iff.1 k).1
theorem Sp.below {g : Nat} {a x y z u : UInt8} {w w' : World} (k : Sp g a x y z u w) (b : Below w.heap.size w w') : Sp g a x y z u w' := (b.block g k.lt).trans k
theorem Sp.first {g : Nat} {a x y z u : UInt8} {w : World} (k : Sp g a x y z u w) : w.cell? ⟨g, 0, none⟩ = some (.int .u8 (a.toNat : Nat)) := by
  unfold Sp at k
  simp [World.cell?, k]
theorem Sp.at_ {g : Nat} {a x y z u : UInt8} {w : World} (h : Sp g a x y z u w) {k : Nat} (hk : k < 4) : w.cell? ⟨g, 1 + k, none⟩ = some (.int .u8 ((nth4 x y z u k).toNat : Nat)) := by
  unfold Sp at h
  rw [cell_of_row _ _ (1 + k) _ _ _ h]
  rcases (show k = 0 ∨ k = 1 ∨ k = 2 ∨ k = 3 by omega) with rfl | rfl | rfl | rfl <;> rfl
theorem Sp.free {g : Nat} {a x y z u : UInt8} {w : World} (h : Sp g a x y z u w) (k : Nat) : w.frozen? ⟨g, 1 + k, none⟩ = false := frozen_of_row _ _ (1 + k) _ _ h

/-- A text of 128 bytes is opened, or is none. -/
theorem open_dec (M L : List UInt8) (hM : M.length = 128) (hg : HP.good M ↔ M = L) : ∃ (d : HP.H) (b : ByteArray) (e : Int) (bo : Bool),
    Hid (Tells 12 #[.string ⟨M.toArray⟩] (.tuple #[.agg #[.int .i64 d.k, .int .i64 d.l, .int .i64 d.c, .int .i64 d.r, .int .i64 d.s], .string b, .int .i64 e])) ∧ (e == 0) = bo ∧ ((⟨M.toArray⟩ : ByteArray).toList == (⟨L.toArray⟩ : ByteArray).toList) = bo := by
  have hs : (⟨M.toArray⟩ : ByteArray).size = 128 := by rw [sizeOf, hM]
  refine ⟨(HP.opn ⟨M.toArray⟩).1, (HP.opn ⟨M.toArray⟩).2.1, (HP.opn ⟨M.toArray⟩).2.2, decide (M = L), tOpen _ (by rw [hs]; decide), ?_, ?_⟩
  · by_cases e : M = L
    · rw [decide_eq_true e, HP.opn_good (by rw [hs]; decide) (hg.2 e)]
      rfl
    · rw [decide_eq_false e, HP.opn_bad (fun h => e (hg.1 h.2))]
      rfl
  · rw [same_list]
    congr 1
    apply propext
    constructor
    · intro e
      have e3 := congrArg (fun x : ByteArray => x.data.toList) e
      simpa using e3
    · rintro rfl
      rfl

set_option maxHeartbeats 4000000 in
set_option maxRecDepth 100000 in
theorem headBurst_bad (h : HP.H) (s : ByteArray) (a x y z u : UInt8) (w : World) (hs : Sizes w) (ws : s.size ≤ maxLen) (m : Nat) (hm : min (s.size : Int) 112 = m) (hm1 : (m : Int) ≤ 112) (hms : m ≤ s.size) (hm2 : min m s.size = m) (hts : (s.extract 0 m).size = m) (e1 : Int) (he1 : e1 = 4 ∨ e1 = 3 ∨ e1 = 8) (hsv : seaV h (s.extract 0 m) 128 = .tuple #[.string ⟨#[]⟩, .int .i64 e1]) :
    Calls Tryd.prog 5 #[hv h, .string s, .agg #[.int .u8 a.toNat, .int .u8 x.toNat, .int .u8 y.toNat, .int .u8 z.toNat, .int .u8 u.toNat]] w fun e w' => e = .returned (.bool true) ∧ Below w.heap.size w w' := by
  unfold maxLen at ws
  have SG := Tells.as (tSeal h (s.extract 0 m) 128 (by decide) (by unfold maxLen; omega)) hsv
  obtain ⟨X, hX⟩ : ∃ X, s.extract 0 m = X := ⟨_, rfl⟩
  rw [hX] at hts SG
  have HFX : Hid (Tells 16 #[] (.bool true)) := Lib.hid fun W hW => fixed_any W hW
  have HWB := Lib.hid (show Below w.heap.size w ((w.alloc (.cells #[.int .i64 h.k, .int .i64 h.l, .int .i64 h.c, .int .i64 h.r, .int .i64 h.s] 23)).alloc (.cells #[.int .u8 (a.toNat : Nat), .int .u8 (x.toNat : Nat), .int .u8 (y.toNat : Nat), .int .u8 (z.toNat : Nat), .int .u8 (u.toNat : Nat)] 43)) from (below_alloc _ _).trans' (below_alloc _ _))
  have HS0 := Lib.hid ((hs.alloc (.cells #[.int .i64 h.k, .int .i64 h.l, .int .i64 h.c, .int .i64 h.r, .int .i64 h.s] 23)).alloc (.cells #[.int .u8 (a.toNat : Nat), .int .u8 (x.toNat : Nat), .int .u8 (y.toNat : Nat), .int .u8 (z.toNat : Nat), .int .u8 (u.toNat : Nat)] 43))
  have HXH := Lib.hid ((show Bx 23 w.heap.size h (w.alloc (.cells #[.int .i64 h.k, .int .i64 h.l, .int .i64 h.c, .int .i64 h.r, .int .i64 h.s] 23)) from heap_alloc_new _ _).below (below_alloc _ (.cells #[.int .u8 (a.toNat : Nat), .int .u8 (x.toNat : Nat), .int .u8 (y.toNat : Nat), .int .u8 (z.toNat : Nat), .int .u8 (u.toNat : Nat)] 43)))
  have HXB : Hid (Sp (w.heap.size + 1) a x y z u ((w.alloc (.cells #[.int .i64 h.k, .int .i64 h.l, .int .i64 h.c, .int .i64 h.r, .int .i64 h.s] 23)).alloc (.cells #[.int .u8 (a.toNat : Nat), .int .u8 (x.toNat : Nat), .int .u8 (y.toNat : Nat), .int .u8 (z.toNat : Nat), .int .u8 (u.toNat : Nat)] 43))) := Lib.hid (by have k := heap_alloc_new (w.alloc (.cells #[.int .i64 h.k, .int .i64 h.l, .int .i64 h.c, .int .i64 h.r, .int .i64 h.s] 23)) (.cells #[.int .u8 (a.toNat : Nat), .int .u8 (x.toNat : Nat), .int .u8 (y.toNat : Nat), .int .u8 (z.toNat : Nat), .int .u8 (u.toNat : Nat)] 43); unfold Sp; simpa using k)
  clear hs hsv
  unfold hv at *
  generalize hw0 : (w.alloc (.cells #[.int .i64 h.k, .int .i64 h.l, .int .i64 h.c, .int .i64 h.r, .int .i64 h.s] 23)).alloc (.cells #[.int .u8 (a.toNat : Nat), .int .u8 (x.toNat : Nat), .int .u8 (y.toNat : Nat), .int .u8 (z.toNat : Nat), .int .u8 (u.toNat : Nat)] 43) = W0 at *
  have hSV : Hid (∀ V, Below W0.heap.size W0 V → Hid (Below W0.heap.size W0 V) ∧ V.cell? ⟨w.heap.size, 0, none⟩ = some (.int .i64 h.k) ∧ V.cell? ⟨w.heap.size, 1, none⟩ = some (.int .i64 h.l) ∧ V.cell? ⟨w.heap.size, 2, none⟩ = some (.int .i64 h.c) ∧ V.cell? ⟨w.heap.size, 3, none⟩ = some (.int .i64 h.r) ∧ V.cell? ⟨w.heap.size, 4, none⟩ = some (.int .i64 h.s)) := Lib.hid (fun V hb => ⟨Lib.hid hb, (HXH.out.below hb).cells⟩)
  have hSd := hSV.out _ (below_drewN (Below.refl W0.heap.size W0) 1)
  have hq1 : (m : Int) ≤ s.size := by omega
  rcases he1 with rfl | rfl | rfl
  all_goals
    go_enter Tryd.func5, Tryd.ntmps5
    go_wp2_with fail
    go_region_held3 (fun V => Hid (Below W0.heap.size W0 V) ∧ V.cell? ⟨w.heap.size, 0, none⟩ = some (.int .i64 h.k) ∧ V.cell? ⟨w.heap.size, 1, none⟩ = some (.int .i64 h.l) ∧ V.cell? ⟨w.heap.size, 2, none⟩ = some (.int .i64 h.c) ∧ V.cell? ⟨w.heap.size, 3, none⟩ = some (.int .i64 h.r) ∧ V.cell? ⟨w.heap.size, 4, none⟩ = some (.int .i64 h.s))
      (first | assumption | exact hSd)
      (first
        | (go_at_call 9; refine (Tells.held SG HS0 (by assumption)).mono ?_; rintro e W1 ⟨rfl, hb1⟩; have hSn := hSV.out _ hb1; have HB1 := Lib.hid hb1; clear hb1)
        | fail "no arm")
    clear hw0 hSd hX hm hm2 hts hq1 hSn
    go_wp2_with fail
    refine (Tells.at HFX HS0 HB1.out).mono ?_
    rintro e W2 ⟨rfl, hb2⟩
    go_wp2_with fail
    go_ret
    exact ⟨rfl, HWB.out.trans' hb2⟩
set_option maxHeartbeats 4000000 in
set_option maxRecDepth 100000 in
theorem headBurst_a (h : HP.H) (s : ByteArray) (a x y z u : UInt8) (w : World) (hs : Sizes w) (ws : s.size ≤ maxLen) (m : Nat) (hm : min (s.size : Int) 112 = m) (hm1 : (m : Int) ≤ 112) (hms : m ≤ s.size) (hm2 : min m s.size = m) (hts : (s.extract 0 m).size = m) (L : List UInt8) (hLl : L.length = 128) (hsv : seaV h (s.extract 0 m) 128 = .tuple #[.string ⟨L.toArray⟩, .int .i64 0]) (i : Nat) (hi : i = a.toNat % 128) (hc : 16 ≤ i ∧ i < 128) (hgood : ∀ k, k ≤ 4 → i + k ≤ 128 → (HP.good (SP.burst L i [x, y, z, u] k) ↔ SP.burst L i [x, y, z, u] k = L)) :
    Calls Tryd.prog 5 #[hv h, .string s, .agg #[.int .u8 a.toNat, .int .u8 x.toNat, .int .u8 y.toNat, .int .u8 z.toNat, .int .u8 u.toNat]] w fun e w' => e = .returned (.bool true) ∧ Below w.heap.size w w' := by
  unfold maxLen at ws
  have SG := Tells.as (tSeal h (s.extract 0 m) 128 (by decide) (by unfold maxLen; omega)) hsv
  obtain ⟨X, hX⟩ : ∃ X, s.extract 0 m = X := ⟨_, rfl⟩
  rw [hX] at hts SG
  have HFX : Hid (Tells 16 #[] (.bool true)) := Lib.hid fun W hW => fixed_any W hW
  have HWB := Lib.hid (show Below w.heap.size w ((w.alloc (.cells #[.int .i64 h.k, .int .i64 h.l, .int .i64 h.c, .int .i64 h.r, .int .i64 h.s] 23)).alloc (.cells #[.int .u8 (a.toNat : Nat), .int .u8 (x.toNat : Nat), .int .u8 (y.toNat : Nat), .int .u8 (z.toNat : Nat), .int .u8 (u.toNat : Nat)] 43)) from (below_alloc _ _).trans' (below_alloc _ _))
  have HS0 := Lib.hid ((hs.alloc (.cells #[.int .i64 h.k, .int .i64 h.l, .int .i64 h.c, .int .i64 h.r, .int .i64 h.s] 23)).alloc (.cells #[.int .u8 (a.toNat : Nat), .int .u8 (x.toNat : Nat), .int .u8 (y.toNat : Nat), .int .u8 (z.toNat : Nat), .int .u8 (u.toNat : Nat)] 43))
  have HXH := Lib.hid ((show Bx 23 w.heap.size h (w.alloc (.cells #[.int .i64 h.k, .int .i64 h.l, .int .i64 h.c, .int .i64 h.r, .int .i64 h.s] 23)) from heap_alloc_new _ _).below (below_alloc _ (.cells #[.int .u8 (a.toNat : Nat), .int .u8 (x.toNat : Nat), .int .u8 (y.toNat : Nat), .int .u8 (z.toNat : Nat), .int .u8 (u.toNat : Nat)] 43)))
  have HXB : Hid (Sp (w.heap.size + 1) a x y z u ((w.alloc (.cells #[.int .i64 h.k, .int .i64 h.l, .int .i64 h.c, .int .i64 h.r, .int .i64 h.s] 23)).alloc (.cells #[.int .u8 (a.toNat : Nat), .int .u8 (x.toNat : Nat), .int .u8 (y.toNat : Nat), .int .u8 (z.toNat : Nat), .int .u8 (u.toNat : Nat)] 43))) := Lib.hid (by have k := heap_alloc_new (w.alloc (.cells #[.int .i64 h.k, .int .i64 h.l, .int .i64 h.c, .int .i64 h.r, .int .i64 h.s] 23)) (.cells #[.int .u8 (a.toNat : Nat), .int .u8 (x.toNat : Nat), .int .u8 (y.toNat : Nat), .int .u8 (z.toNat : Nat), .int .u8 (u.toNat : Nat)] 43); unfold Sp; simpa using k)
  clear hs hsv
  unfold hv at *
  generalize hw0 : (w.alloc (.cells #[.int .i64 h.k, .int .i64 h.l, .int .i64 h.c, .int .i64 h.r, .int .i64 h.s] 23)).alloc (.cells #[.int .u8 (a.toNat : Nat), .int .u8 (x.toNat : Nat), .int .u8 (y.toNat : Nat), .int .u8 (z.toNat : Nat), .int .u8 (u.toNat : Nat)] 43) = W0 at *
  have hSV : Hid (∀ V, Below W0.heap.size W0 V → Hid (Below W0.heap.size W0 V) ∧ V.cell? ⟨w.heap.size, 0, none⟩ = some (.int .i64 h.k) ∧ V.cell? ⟨w.heap.size, 1, none⟩ = some (.int .i64 h.l) ∧ V.cell? ⟨w.heap.size, 2, none⟩ = some (.int .i64 h.c) ∧ V.cell? ⟨w.heap.size, 3, none⟩ = some (.int .i64 h.r) ∧ V.cell? ⟨w.heap.size, 4, none⟩ = some (.int .i64 h.s)) := Lib.hid (fun V hb => ⟨Lib.hid hb, (HXH.out.below hb).cells⟩)
  have hSd := hSV.out _ (below_drewN (Below.refl W0.heap.size W0) 1)
  have hq1 : (m : Int) ≤ s.size := by omega
  have HL := Lib.hid hLl
  have HI := Lib.hid hi
  have HC := Lib.hid hc
  have HGOOD := Lib.hid hgood
  obtain ⟨E, hE⟩ : ∃ E : ByteArray, ⟨L.toArray⟩ = E := ⟨_, rfl⟩
  have HE := Lib.hid hE
  have hEs : E.size = 128 := by rw [← hE, sizeOf, hLl]
  have hEd : E.data.toList = L := by rw [← hE]
  have HED := Lib.hid hEd
  rw [hE] at SG
  clear hLl hi hc hgood hE hEd
  go_enter Tryd.func5, Tryd.ntmps5
  go_wp2_with fail
  go_region_held3 (fun V => Hid (Below W0.heap.size W0 V) ∧ V.cell? ⟨w.heap.size, 0, none⟩ = some (.int .i64 h.k) ∧ V.cell? ⟨w.heap.size, 1, none⟩ = some (.int .i64 h.l) ∧ V.cell? ⟨w.heap.size, 2, none⟩ = some (.int .i64 h.c) ∧ V.cell? ⟨w.heap.size, 3, none⟩ = some (.int .i64 h.r) ∧ V.cell? ⟨w.heap.size, 4, none⟩ = some (.int .i64 h.s))
    (first | assumption | exact hSd)
    (first
      | (go_at_call 9; refine (Tells.held SG HS0 (by assumption)).mono ?_; rintro e W1 ⟨rfl, hb1⟩; have hSn := hSV.out _ hb1; have HB1 := Lib.hid hb1; clear hb1)
      | fail "no arm")
  clear hw0 hSd hX hm hm2 hts hq1 hSn
  -- its bytes
  obtain ⟨cap, W2, hrun, hby, hbel⟩ := conv_to E W1
  rw [HED.out] at hby
  rw [hEs] at hrun
  have HBy := Lib.hid hby
  have HB2 := Lib.hid (HB1.out.trans (hbel.mono HB1.out.size))
  have hX0 := (HXB.out.below HB2.out).first
  have hi := HI.out
  have hal := a.toNat_lt
  have hc := HC.out
  have hI : (a.toNat : Int) % 128 = i := by omega
  have HGB := Lib.hid (show W0.heap.size ≤ W1.heap.size from HB1.out.size)
  clear hby hbel hi
  go_wp2_with fail
  rw [hI]
  clear hrun hX0 hal hc hI
  go_loopw [13] (fun kv wr => ∃ k : Nat, k ≤ 4 ∧ i + k ≤ 128 ∧ kv = .int .i64 k ∧ Hid (BytesAt W1.heap.size (SP.burst L i [x, y, z, u] k) wr) ∧ Below W0.heap.size W0 wr) (fun kv _ => 4 - (intOf kv).toNat)
  case atStart => exact ⟨0, by omega, by have := HC.out; omega, rfl, by rw [SP.burst_none]; exact HBy, HB2.out⟩
  case round =>
    obtain ⟨k, hk4, hik, rfl, hB, hb⟩ := hrel
    by_cases h4 : k < 4
    · by_cases hlt : i + k < 128
      · have hSl : i + k < L.length := by rw [HL.out]; omega
        have hbl := SP.burst_length L i [x, y, z, u] k
        have hc1 : wr.cell? ⟨W1.heap.size, i + k, none⟩ = some (.int .u8 (L[i + k].toNat : Nat)) := hB.out.1 _ _ (SP.burst_at L i [x, y, z, u] k hSl)
        have hf1 : wr.frozen? ⟨W1.heap.size, i + k, none⟩ = false := hB.out.2.1 _ (by omega)
        have hX := HXB.out.below hb
        have hc2 := hX.at_ h4
        have hf2 := hX.free k
        have hB' := Lib.hid (bytesAt_set hB.out (i + k) (L[i + k] ^^^ [x, y, z, u].getD k 0) (by omega))
        rw [SP.burst_set L i [x, y, z, u] k hSl] at hB'
        have hx : bits .xor .u8 (L[i + k].toNat : Int) ((nth4 x y z u k).toNat : Int) = ((L[i + k] ^^^ [x, y, z, u].getD k 0).toNat : Int) := by
          rw [UInt8.toNat_xor]; exact u8_xor_nat _ _ L[i + k].toNat_lt (nth4 x y z u k).toNat_lt
        clear hbl hB hX
        revert hc1 hB' hx
        generalize L[i + k] ^^^ [x, y, z, u].getD k 0 = c
        generalize L[i + k] = c1
        intro hc1 hB' hx
        have q1 : IntKind.i64.wrap ((i : Int) + k) = (i : Int) + k := IntWalk.i64_in _ (by omega)
        have q2 : ((i : Int) + k).toNat = i + k := by omega
        have q3 : (0 : Int) ≤ (i : Int) + k := by omega
        have q4 : (i : Int) + k < 128 := by omega
        have q4' : (i : Int) + k < 128 := by omega
        have q5 : decide ((i : Int) + k < 128) = true := by simpa using q4
        have q6 : decide ((k : Int) < 4) = true := by simp; omega
        have q7 : (k : Int) < 4 := by omega
        have q8 : (0 : Int) ≤ (k : Int) := by omega
        have q9 : max ((i : Int) + k) 16 = (i : Int) + k := by omega
        have q10 : k + 1 = 1 + k := Nat.add_comm _ _
        clear q10
        go_wp2_with fail
        go_region
        clear q1 q2 q3 q4 q4' q5 q6 q7 q8 q9 hx
        go_wp2_with fail
        go_roundw
        case rel => exact ⟨k + 1, by omega, by omega, by go_num, Lib.hid (bytesAt_drew hB'.out), (hb.setCell HGB.out _).drew⟩
        case measure => simp [intOf]; omega
      · have q5 : decide ((i : Int) + k < 128) = false := by simp; omega
        have q6 : decide ((k : Int) < 4) = true := by simp; omega
        have hbl : (SP.burst L i [x, y, z, u] k).length = 128 := by rw [SP.burst_length, HL.out]
        have hcv := conv_at (cap := cap) hB.out hbl
        have HGD := HGOOD.out k hk4 (by omega)
        revert hbl hcv HGD hB
        generalize SP.burst L i [x, y, z, u] k = M
        intro hB hbl hcv HGD
        obtain ⟨d, b, e, bo, OT, hd1, hd2⟩ := open_dec M L hbl HGD
        rw [HE.out] at hd2
        have HCV : Hid (∀ V, BytesAt W1.heap.size M V → (convert 44 9 (.slice (some ⟨W1.heap.size, 0, none⟩) 128 cap)).run Tryd.prog V = .ok (.string ⟨M.toArray⟩) V) := Lib.hid (fun V hV => conv_at (cap := cap) hV hbl)
        generalize (⟨M.toArray⟩ : ByteArray) = T at *
        have HSR := Lib.hid (HS0.out.kept hb)
        have HWR := Lib.hid (HWB.out.trans' hb)
        clear hbl HGD
        go_wp2_with fail
        refine (Tells.at OT HSR (Below.refl _ _)).mono ?_
        rintro e0 V1 ⟨rfl, hb1⟩
        have HV1 := Lib.hid (hb1.trans' (below_alloc V1 (.cells #[.int .i64 d.k, .int .i64 d.l, .int .i64 d.c, .int .i64 d.r, .int .i64 d.s] 23)))
        have hcv2 := HCV.out _ (bytesAt_kept hB.out HV1.out)
        clear hcv hb1
        go_wp2_with fail
        refine (Tells.at HFX HSR HV1.out).mono ?_
        rintro e0 V2 ⟨rfl, hb2⟩
        go_wp2_with fail
        go_ret
        exact ⟨rfl, HWR.out.trans' hb2⟩
    · have q6 : decide ((k : Int) < 4) = false := by simp; omega
      have hbl : (SP.burst L i [x, y, z, u] k).length = 128 := by rw [SP.burst_length, HL.out]
      have hcv := conv_at (cap := cap) hB.out hbl
      have HGD := HGOOD.out k hk4 (by omega)
      revert hbl hcv HGD hB
      generalize SP.burst L i [x, y, z, u] k = M
      intro hB hbl hcv HGD
      obtain ⟨d, b, e, bo, OT, hd1, hd2⟩ := open_dec M L hbl HGD
      rw [HE.out] at hd2
      have HCV : Hid (∀ V, BytesAt W1.heap.size M V → (convert 44 9 (.slice (some ⟨W1.heap.size, 0, none⟩) 128 cap)).run Tryd.prog V = .ok (.string ⟨M.toArray⟩) V) := Lib.hid (fun V hV => conv_at (cap := cap) hV hbl)
      generalize (⟨M.toArray⟩ : ByteArray) = T at *
      have HSR := Lib.hid (HS0.out.kept hb)
      have HWR := Lib.hid (HWB.out.trans' hb)
      clear hbl HGD
      go_wp2_with fail
      refine (Tells.at OT HSR (Below.refl _ _)).mono ?_
      rintro e0 V1 ⟨rfl, hb1⟩
      have HV1 := Lib.hid (hb1.trans' (below_alloc V1 (.cells #[.int .i64 d.k, .int .i64 d.l, .int .i64 d.c, .int .i64 d.r, .int .i64 d.s] 23)))
      have hcv2 := HCV.out _ (bytesAt_kept hB.out HV1.out)
      clear hcv hb1
      go_wp2_with fail
      refine (Tells.at HFX HSR HV1.out).mono ?_
      rintro e0 V2 ⟨rfl, hb2⟩
      go_wp2_with fail
      go_ret
      exact ⟨rfl, HWR.out.trans' hb2⟩
set_option maxHeartbeats 4000000 in
set_option maxRecDepth 100000 in
theorem headBurst_b (h : HP.H) (s : ByteArray) (a x y z u : UInt8) (w : World) (hs : Sizes w) (ws : s.size ≤ maxLen) (m : Nat) (hm : min (s.size : Int) 112 = m) (hm1 : (m : Int) ≤ 112) (hms : m ≤ s.size) (hm2 : min m s.size = m) (hts : (s.extract 0 m).size = m) (L : List UInt8) (hLl : L.length = 128) (hsv : seaV h (s.extract 0 m) 128 = .tuple #[.string ⟨L.toArray⟩, .int .i64 0]) (i : Nat) (hi : i = a.toNat % 128) (hc : 12 ≤ i ∧ i < 16) (hgood : ∀ k, k ≤ 4 → i + k ≤ 16 → (HP.good (SP.burst L i [x, y, z, u] k) ↔ SP.burst L i [x, y, z, u] k = L)) :
    Calls Tryd.prog 5 #[hv h, .string s, .agg #[.int .u8 a.toNat, .int .u8 x.toNat, .int .u8 y.toNat, .int .u8 z.toNat, .int .u8 u.toNat]] w fun e w' => e = .returned (.bool true) ∧ Below w.heap.size w w' := by
  unfold maxLen at ws
  have SG := Tells.as (tSeal h (s.extract 0 m) 128 (by decide) (by unfold maxLen; omega)) hsv
  obtain ⟨X, hX⟩ : ∃ X, s.extract 0 m = X := ⟨_, rfl⟩
  rw [hX] at hts SG
  have HFX : Hid (Tells 16 #[] (.bool true)) := Lib.hid fun W hW => fixed_any W hW
  have HWB := Lib.hid (show Below w.heap.size w ((w.alloc (.cells #[.int .i64 h.k, .int .i64 h.l, .int .i64 h.c, .int .i64 h.r, .int .i64 h.s] 23)).alloc (.cells #[.int .u8 (a.toNat : Nat), .int .u8 (x.toNat : Nat), .int .u8 (y.toNat : Nat), .int .u8 (z.toNat : Nat), .int .u8 (u.toNat : Nat)] 43)) from (below_alloc _ _).trans' (below_alloc _ _))
  have HS0 := Lib.hid ((hs.alloc (.cells #[.int .i64 h.k, .int .i64 h.l, .int .i64 h.c, .int .i64 h.r, .int .i64 h.s] 23)).alloc (.cells #[.int .u8 (a.toNat : Nat), .int .u8 (x.toNat : Nat), .int .u8 (y.toNat : Nat), .int .u8 (z.toNat : Nat), .int .u8 (u.toNat : Nat)] 43))
  have HXH := Lib.hid ((show Bx 23 w.heap.size h (w.alloc (.cells #[.int .i64 h.k, .int .i64 h.l, .int .i64 h.c, .int .i64 h.r, .int .i64 h.s] 23)) from heap_alloc_new _ _).below (below_alloc _ (.cells #[.int .u8 (a.toNat : Nat), .int .u8 (x.toNat : Nat), .int .u8 (y.toNat : Nat), .int .u8 (z.toNat : Nat), .int .u8 (u.toNat : Nat)] 43)))
  have HXB : Hid (Sp (w.heap.size + 1) a x y z u ((w.alloc (.cells #[.int .i64 h.k, .int .i64 h.l, .int .i64 h.c, .int .i64 h.r, .int .i64 h.s] 23)).alloc (.cells #[.int .u8 (a.toNat : Nat), .int .u8 (x.toNat : Nat), .int .u8 (y.toNat : Nat), .int .u8 (z.toNat : Nat), .int .u8 (u.toNat : Nat)] 43))) := Lib.hid (by have k := heap_alloc_new (w.alloc (.cells #[.int .i64 h.k, .int .i64 h.l, .int .i64 h.c, .int .i64 h.r, .int .i64 h.s] 23)) (.cells #[.int .u8 (a.toNat : Nat), .int .u8 (x.toNat : Nat), .int .u8 (y.toNat : Nat), .int .u8 (z.toNat : Nat), .int .u8 (u.toNat : Nat)] 43); unfold Sp; simpa using k)
  clear hs hsv
  unfold hv at *
  generalize hw0 : (w.alloc (.cells #[.int .i64 h.k, .int .i64 h.l, .int .i64 h.c, .int .i64 h.r, .int .i64 h.s] 23)).alloc (.cells #[.int .u8 (a.toNat : Nat), .int .u8 (x.toNat : Nat), .int .u8 (y.toNat : Nat), .int .u8 (z.toNat : Nat), .int .u8 (u.toNat : Nat)] 43) = W0 at *
  have hSV : Hid (∀ V, Below W0.heap.size W0 V → Hid (Below W0.heap.size W0 V) ∧ V.cell? ⟨w.heap.size, 0, none⟩ = some (.int .i64 h.k) ∧ V.cell? ⟨w.heap.size, 1, none⟩ = some (.int .i64 h.l) ∧ V.cell? ⟨w.heap.size, 2, none⟩ = some (.int .i64 h.c) ∧ V.cell? ⟨w.heap.size, 3, none⟩ = some (.int .i64 h.r) ∧ V.cell? ⟨w.heap.size, 4, none⟩ = some (.int .i64 h.s)) := Lib.hid (fun V hb => ⟨Lib.hid hb, (HXH.out.below hb).cells⟩)
  have hSd := hSV.out _ (below_drewN (Below.refl W0.heap.size W0) 1)
  have hq1 : (m : Int) ≤ s.size := by omega
  have HL := Lib.hid hLl
  have HI := Lib.hid hi
  have HC := Lib.hid hc
  have HGOOD := Lib.hid hgood
  obtain ⟨E, hE⟩ : ∃ E : ByteArray, ⟨L.toArray⟩ = E := ⟨_, rfl⟩
  have HE := Lib.hid hE
  have hEs : E.size = 128 := by rw [← hE, sizeOf, hLl]
  have hEd : E.data.toList = L := by rw [← hE]
  have HED := Lib.hid hEd
  rw [hE] at SG
  clear hLl hi hc hgood hE hEd
  go_enter Tryd.func5, Tryd.ntmps5
  go_wp2_with fail
  go_region_held3 (fun V => Hid (Below W0.heap.size W0 V) ∧ V.cell? ⟨w.heap.size, 0, none⟩ = some (.int .i64 h.k) ∧ V.cell? ⟨w.heap.size, 1, none⟩ = some (.int .i64 h.l) ∧ V.cell? ⟨w.heap.size, 2, none⟩ = some (.int .i64 h.c) ∧ V.cell? ⟨w.heap.size, 3, none⟩ = some (.int .i64 h.r) ∧ V.cell? ⟨w.heap.size, 4, none⟩ = some (.int .i64 h.s))
    (first | assumption | exact hSd)
    (first
      | (go_at_call 9; refine (Tells.held SG HS0 (by assumption)).mono ?_; rintro e W1 ⟨rfl, hb1⟩; have hSn := hSV.out _ hb1; have HB1 := Lib.hid hb1; clear hb1)
      | fail "no arm")
  clear hw0 hSd hX hm hm2 hts hq1 hSn
  -- its bytes
  obtain ⟨cap, W2, hrun, hby, hbel⟩ := conv_to E W1
  rw [HED.out] at hby
  rw [hEs] at hrun
  have HBy := Lib.hid hby
  have HB2 := Lib.hid (HB1.out.trans (hbel.mono HB1.out.size))
  have hX0 := (HXB.out.below HB2.out).first
  have hi := HI.out
  have hal := a.toNat_lt
  have hc := HC.out
  have hI : (a.toNat : Int) % 128 = i := by omega
  have HGB := Lib.hid (show W0.heap.size ≤ W1.heap.size from HB1.out.size)
  clear hby hbel hi
  go_wp2_with fail
  rw [hI]
  clear hrun hX0 hal hc hI
  go_loopw [13] (fun kv wr => ∃ k : Nat, k ≤ 4 ∧ i + k ≤ 16 ∧ kv = .int .i64 k ∧ Hid (BytesAt W1.heap.size (SP.burst L i [x, y, z, u] k) wr) ∧ Below W0.heap.size W0 wr) (fun kv _ => 4 - (intOf kv).toNat)
  case atStart => exact ⟨0, by omega, by have := HC.out; omega, rfl, by rw [SP.burst_none]; exact HBy, HB2.out⟩
  case round =>
    obtain ⟨k, hk4, hik, rfl, hB, hb⟩ := hrel
    by_cases h4 : k < 4
    · by_cases hlt : i + k < 16
      · have hSl : i + k < L.length := by rw [HL.out]; omega
        have hbl := SP.burst_length L i [x, y, z, u] k
        have hc1 : wr.cell? ⟨W1.heap.size, i + k, none⟩ = some (.int .u8 (L[i + k].toNat : Nat)) := hB.out.1 _ _ (SP.burst_at L i [x, y, z, u] k hSl)
        have hf1 : wr.frozen? ⟨W1.heap.size, i + k, none⟩ = false := hB.out.2.1 _ (by omega)
        have hX := HXB.out.below hb
        have hc2 := hX.at_ h4
        have hf2 := hX.free k
        have hB' := Lib.hid (bytesAt_set hB.out (i + k) (L[i + k] ^^^ [x, y, z, u].getD k 0) (by omega))
        rw [SP.burst_set L i [x, y, z, u] k hSl] at hB'
        have hx : bits .xor .u8 (L[i + k].toNat : Int) ((nth4 x y z u k).toNat : Int) = ((L[i + k] ^^^ [x, y, z, u].getD k 0).toNat : Int) := by
          rw [UInt8.toNat_xor]; exact u8_xor_nat _ _ L[i + k].toNat_lt (nth4 x y z u k).toNat_lt
        clear hbl hB hX
        revert hc1 hB' hx
        generalize L[i + k] ^^^ [x, y, z, u].getD k 0 = c
        generalize L[i + k] = c1
        intro hc1 hB' hx
        have q1 : IntKind.i64.wrap ((i : Int) + k) = (i : Int) + k := IntWalk.i64_in _ (by omega)
        have q2 : ((i : Int) + k).toNat = i + k := by omega
        have q3 : (0 : Int) ≤ (i : Int) + k := by omega
        have q4 : (i : Int) + k < 16 := by omega
        have q4' : (i : Int) + k < 128 := by omega
        have q5 : decide ((i : Int) + k < 16) = true := by simpa using q4
        have q6 : decide ((k : Int) < 4) = true := by simp; omega
        have q7 : (k : Int) < 4 := by omega
        have q8 : (0 : Int) ≤ (k : Int) := by omega
        have q9 : max ((i : Int) + k) 12 = (i : Int) + k := by omega
        have q10 : k + 1 = 1 + k := Nat.add_comm _ _
        clear q10
        go_wp2_with fail
        go_region
        clear q1 q2 q3 q4 q4' q5 q6 q7 q8 q9 hx
        go_wp2_with fail
        go_roundw
        case rel => exact ⟨k + 1, by omega, by omega, by go_num, Lib.hid (bytesAt_drew hB'.out), (hb.setCell HGB.out _).drew⟩
        case measure => simp [intOf]; omega
      · have q5 : decide ((i : Int) + k < 16) = false := by simp; omega
        have q6 : decide ((k : Int) < 4) = true := by simp; omega
        have hbl : (SP.burst L i [x, y, z, u] k).length = 128 := by rw [SP.burst_length, HL.out]
        have hcv := conv_at (cap := cap) hB.out hbl
        have HGD := HGOOD.out k hk4 (by omega)
        revert hbl hcv HGD hB
        generalize SP.burst L i [x, y, z, u] k = M
        intro hB hbl hcv HGD
        obtain ⟨d, b, e, bo, OT, hd1, hd2⟩ := open_dec M L hbl HGD
        rw [HE.out] at hd2
        have HCV : Hid (∀ V, BytesAt W1.heap.size M V → (convert 44 9 (.slice (some ⟨W1.heap.size, 0, none⟩) 128 cap)).run Tryd.prog V = .ok (.string ⟨M.toArray⟩) V) := Lib.hid (fun V hV => conv_at (cap := cap) hV hbl)
        generalize (⟨M.toArray⟩ : ByteArray) = T at *
        have HSR := Lib.hid (HS0.out.kept hb)
        have HWR := Lib.hid (HWB.out.trans' hb)
        clear hbl HGD
        go_wp2_with fail
        refine (Tells.at OT HSR (Below.refl _ _)).mono ?_
        rintro e0 V1 ⟨rfl, hb1⟩
        have HV1 := Lib.hid (hb1.trans' (below_alloc V1 (.cells #[.int .i64 d.k, .int .i64 d.l, .int .i64 d.c, .int .i64 d.r, .int .i64 d.s] 23)))
        have hcv2 := HCV.out _ (bytesAt_kept hB.out HV1.out)
        clear hcv hb1
        go_wp2_with fail
        refine (Tells.at HFX HSR HV1.out).mono ?_
        rintro e0 V2 ⟨rfl, hb2⟩
        go_wp2_with fail
        go_ret
        exact ⟨rfl, HWR.out.trans' hb2⟩
    · have q6 : decide ((k : Int) < 4) = false := by simp; omega
      have hbl : (SP.burst L i [x, y, z, u] k).length = 128 := by rw [SP.burst_length, HL.out]
      have hcv := conv_at (cap := cap) hB.out hbl
      have HGD := HGOOD.out k hk4 (by omega)
      revert hbl hcv HGD hB
      generalize SP.burst L i [x, y, z, u] k = M
      intro hB hbl hcv HGD
      obtain ⟨d, b, e, bo, OT, hd1, hd2⟩ := open_dec M L hbl HGD
      rw [HE.out] at hd2
      have HCV : Hid (∀ V, BytesAt W1.heap.size M V → (convert 44 9 (.slice (some ⟨W1.heap.size, 0, none⟩) 128 cap)).run Tryd.prog V = .ok (.string ⟨M.toArray⟩) V) := Lib.hid (fun V hV => conv_at (cap := cap) hV hbl)
      generalize (⟨M.toArray⟩ : ByteArray) = T at *
      have HSR := Lib.hid (HS0.out.kept hb)
      have HWR := Lib.hid (HWB.out.trans' hb)
      clear hbl HGD
      go_wp2_with fail
      refine (Tells.at OT HSR (Below.refl _ _)).mono ?_
      rintro e0 V1 ⟨rfl, hb1⟩
      have HV1 := Lib.hid (hb1.trans' (below_alloc V1 (.cells #[.int .i64 d.k, .int .i64 d.l, .int .i64 d.c, .int .i64 d.r, .int .i64 d.s] 23)))
      have hcv2 := HCV.out _ (bytesAt_kept hB.out HV1.out)
      clear hcv hb1
      go_wp2_with fail
      refine (Tells.at HFX HSR HV1.out).mono ?_
      rintro e0 V2 ⟨rfl, hb2⟩
      go_wp2_with fail
      go_ret
      exact ⟨rfl, HWR.out.trans' hb2⟩
set_option maxHeartbeats 4000000 in
set_option maxRecDepth 100000 in
theorem headBurst_c (h : HP.H) (s : ByteArray) (a x y z u : UInt8) (w : World) (hs : Sizes w) (ws : s.size ≤ maxLen) (m : Nat) (hm : min (s.size : Int) 112 = m) (hm1 : (m : Int) ≤ 112) (hms : m ≤ s.size) (hm2 : min m s.size = m) (hts : (s.extract 0 m).size = m) (L : List UInt8) (hLl : L.length = 128) (hsv : seaV h (s.extract 0 m) 128 = .tuple #[.string ⟨L.toArray⟩, .int .i64 0]) (i : Nat) (hi : i = a.toNat % 128) (hc : i < 12) (hgood : ∀ k, k ≤ 4 → i + k ≤ 12 → (HP.good (SP.burst L i [x, y, z, u] k) ↔ SP.burst L i [x, y, z, u] k = L)) :
    Calls Tryd.prog 5 #[hv h, .string s, .agg #[.int .u8 a.toNat, .int .u8 x.toNat, .int .u8 y.toNat, .int .u8 z.toNat, .int .u8 u.toNat]] w fun e w' => e = .returned (.bool true) ∧ Below w.heap.size w w' := by
  unfold maxLen at ws
  have SG := Tells.as (tSeal h (s.extract 0 m) 128 (by decide) (by unfold maxLen; omega)) hsv
  obtain ⟨X, hX⟩ : ∃ X, s.extract 0 m = X := ⟨_, rfl⟩
  rw [hX] at hts SG
  have HFX : Hid (Tells 16 #[] (.bool true)) := Lib.hid fun W hW => fixed_any W hW
  have HWB := Lib.hid (show Below w.heap.size w ((w.alloc (.cells #[.int .i64 h.k, .int .i64 h.l, .int .i64 h.c, .int .i64 h.r, .int .i64 h.s] 23)).alloc (.cells #[.int .u8 (a.toNat : Nat), .int .u8 (x.toNat : Nat), .int .u8 (y.toNat : Nat), .int .u8 (z.toNat : Nat), .int .u8 (u.toNat : Nat)] 43)) from (below_alloc _ _).trans' (below_alloc _ _))
  have HS0 := Lib.hid ((hs.alloc (.cells #[.int .i64 h.k, .int .i64 h.l, .int .i64 h.c, .int .i64 h.r, .int .i64 h.s] 23)).alloc (.cells #[.int .u8 (a.toNat : Nat), .int .u8 (x.toNat : Nat), .int .u8 (y.toNat : Nat), .int .u8 (z.toNat : Nat), .int .u8 (u.toNat : Nat)] 43))
  have HXH := Lib.hid ((show Bx 23 w.heap.size h (w.alloc (.cells #[.int .i64 h.k, .int .i64 h.l, .int .i64 h.c, .int .i64 h.r, .int .i64 h.s] 23)) from heap_alloc_new _ _).below (below_alloc _ (.cells #[.int .u8 (a.toNat : Nat), .int .u8 (x.toNat : Nat), .int .u8 (y.toNat : Nat), .int .u8 (z.toNat : Nat), .int .u8 (u.toNat : Nat)] 43)))
  have HXB : Hid (Sp (w.heap.size + 1) a x y z u ((w.alloc (.cells #[.int .i64 h.k, .int .i64 h.l, .int .i64 h.c, .int .i64 h.r, .int .i64 h.s] 23)).alloc (.cells #[.int .u8 (a.toNat : Nat), .int .u8 (x.toNat : Nat), .int .u8 (y.toNat : Nat), .int .u8 (z.toNat : Nat), .int .u8 (u.toNat : Nat)] 43))) := Lib.hid (by have k := heap_alloc_new (w.alloc (.cells #[.int .i64 h.k, .int .i64 h.l, .int .i64 h.c, .int .i64 h.r, .int .i64 h.s] 23)) (.cells #[.int .u8 (a.toNat : Nat), .int .u8 (x.toNat : Nat), .int .u8 (y.toNat : Nat), .int .u8 (z.toNat : Nat), .int .u8 (u.toNat : Nat)] 43); unfold Sp; simpa using k)
  clear hs hsv
  unfold hv at *
  generalize hw0 : (w.alloc (.cells #[.int .i64 h.k, .int .i64 h.l, .int .i64 h.c, .int .i64 h.r, .int .i64 h.s] 23)).alloc (.cells #[.int .u8 (a.toNat : Nat), .int .u8 (x.toNat : Nat), .int .u8 (y.toNat : Nat), .int .u8 (z.toNat : Nat), .int .u8 (u.toNat : Nat)] 43) = W0 at *
  have hSV : Hid (∀ V, Below W0.heap.size W0 V → Hid (Below W0.heap.size W0 V) ∧ V.cell? ⟨w.heap.size, 0, none⟩ = some (.int .i64 h.k) ∧ V.cell? ⟨w.heap.size, 1, none⟩ = some (.int .i64 h.l) ∧ V.cell? ⟨w.heap.size, 2, none⟩ = some (.int .i64 h.c) ∧ V.cell? ⟨w.heap.size, 3, none⟩ = some (.int .i64 h.r) ∧ V.cell? ⟨w.heap.size, 4, none⟩ = some (.int .i64 h.s)) := Lib.hid (fun V hb => ⟨Lib.hid hb, (HXH.out.below hb).cells⟩)
  have hSd := hSV.out _ (below_drewN (Below.refl W0.heap.size W0) 1)
  have hq1 : (m : Int) ≤ s.size := by omega
  have HL := Lib.hid hLl
  have HI := Lib.hid hi
  have HC := Lib.hid hc
  have HGOOD := Lib.hid hgood
  obtain ⟨E, hE⟩ : ∃ E : ByteArray, ⟨L.toArray⟩ = E := ⟨_, rfl⟩
  have HE := Lib.hid hE
  have hEs : E.size = 128 := by rw [← hE, sizeOf, hLl]
  have hEd : E.data.toList = L := by rw [← hE]
  have HED := Lib.hid hEd
  rw [hE] at SG
  clear hLl hi hc hgood hE hEd
  go_enter Tryd.func5, Tryd.ntmps5
  go_wp2_with fail
  go_region_held3 (fun V => Hid (Below W0.heap.size W0 V) ∧ V.cell? ⟨w.heap.size, 0, none⟩ = some (.int .i64 h.k) ∧ V.cell? ⟨w.heap.size, 1, none⟩ = some (.int .i64 h.l) ∧ V.cell? ⟨w.heap.size, 2, none⟩ = some (.int .i64 h.c) ∧ V.cell? ⟨w.heap.size, 3, none⟩ = some (.int .i64 h.r) ∧ V.cell? ⟨w.heap.size, 4, none⟩ = some (.int .i64 h.s))
    (first | assumption | exact hSd)
    (first
      | (go_at_call 9; refine (Tells.held SG HS0 (by assumption)).mono ?_; rintro e W1 ⟨rfl, hb1⟩; have hSn := hSV.out _ hb1; have HB1 := Lib.hid hb1; clear hb1)
      | fail "no arm")
  clear hw0 hSd hX hm hm2 hts hq1 hSn
  -- its bytes
  obtain ⟨cap, W2, hrun, hby, hbel⟩ := conv_to E W1
  rw [HED.out] at hby
  rw [hEs] at hrun
  have HBy := Lib.hid hby
  have HB2 := Lib.hid (HB1.out.trans (hbel.mono HB1.out.size))
  have hX0 := (HXB.out.below HB2.out).first
  have hi := HI.out
  have hal := a.toNat_lt
  have hc := HC.out
  have hI : (a.toNat : Int) % 128 = i := by omega
  have HGB := Lib.hid (show W0.heap.size ≤ W1.heap.size from HB1.out.size)
  clear hby hbel hi
  go_wp2_with fail
  rw [hI]
  clear hrun hX0 hal hc hI
  go_loopw [13] (fun kv wr => ∃ k : Nat, k ≤ 4 ∧ i + k ≤ 12 ∧ kv = .int .i64 k ∧ Hid (BytesAt W1.heap.size (SP.burst L i [x, y, z, u] k) wr) ∧ Below W0.heap.size W0 wr) (fun kv _ => 4 - (intOf kv).toNat)
  case atStart => exact ⟨0, by omega, by have := HC.out; omega, rfl, by rw [SP.burst_none]; exact HBy, HB2.out⟩
  case round =>
    obtain ⟨k, hk4, hik, rfl, hB, hb⟩ := hrel
    by_cases h4 : k < 4
    · by_cases hlt : i + k < 12
      · have hSl : i + k < L.length := by rw [HL.out]; omega
        have hbl := SP.burst_length L i [x, y, z, u] k
        have hc1 : wr.cell? ⟨W1.heap.size, i + k, none⟩ = some (.int .u8 (L[i + k].toNat : Nat)) := hB.out.1 _ _ (SP.burst_at L i [x, y, z, u] k hSl)
        have hf1 : wr.frozen? ⟨W1.heap.size, i + k, none⟩ = false := hB.out.2.1 _ (by omega)
        have hX := HXB.out.below hb
        have hc2 := hX.at_ h4
        have hf2 := hX.free k
        have hB' := Lib.hid (bytesAt_set hB.out (i + k) (L[i + k] ^^^ [x, y, z, u].getD k 0) (by omega))
        rw [SP.burst_set L i [x, y, z, u] k hSl] at hB'
        have hx : bits .xor .u8 (L[i + k].toNat : Int) ((nth4 x y z u k).toNat : Int) = ((L[i + k] ^^^ [x, y, z, u].getD k 0).toNat : Int) := by
          rw [UInt8.toNat_xor]; exact u8_xor_nat _ _ L[i + k].toNat_lt (nth4 x y z u k).toNat_lt
        clear hbl hB hX
        revert hc1 hB' hx
        generalize L[i + k] ^^^ [x, y, z, u].getD k 0 = c
        generalize L[i + k] = c1
        intro hc1 hB' hx
        have q1 : IntKind.i64.wrap ((i : Int) + k) = (i : Int) + k := IntWalk.i64_in _ (by omega)
        have q2 : ((i : Int) + k).toNat = i + k := by omega
        have q3 : (0 : Int) ≤ (i : Int) + k := by omega
        have q4 : (i : Int) + k < 12 := by omega
        have q4' : (i : Int) + k < 128 := by omega
        have q5 : decide ((i : Int) + k < 12) = true := by simpa using q4
        have q6 : decide ((k : Int) < 4) = true := by simp; omega
        have q7 : (k : Int) < 4 := by omega
        have q8 : (0 : Int) ≤ (k : Int) := by omega
        have q9 : max ((i : Int) + k) 0 = (i : Int) + k := by omega
        have q10 : k + 1 = 1 + k := Nat.add_comm _ _
        clear q10
        go_wp2_with fail
        go_region
        clear q1 q2 q3 q4 q4' q5 q6 q7 q8 q9 hx
        go_wp2_with fail
        go_roundw
        case rel => exact ⟨k + 1, by omega, by omega, by go_num, Lib.hid (bytesAt_drew hB'.out), (hb.setCell HGB.out _).drew⟩
        case measure => simp [intOf]; omega
      · have q5 : decide ((i : Int) + k < 12) = false := by simp; omega
        have q6 : decide ((k : Int) < 4) = true := by simp; omega
        have hbl : (SP.burst L i [x, y, z, u] k).length = 128 := by rw [SP.burst_length, HL.out]
        have hcv := conv_at (cap := cap) hB.out hbl
        have HGD := HGOOD.out k hk4 (by omega)
        revert hbl hcv HGD hB
        generalize SP.burst L i [x, y, z, u] k = M
        intro hB hbl hcv HGD
        obtain ⟨d, b, e, bo, OT, hd1, hd2⟩ := open_dec M L hbl HGD
        rw [HE.out] at hd2
        have HCV : Hid (∀ V, BytesAt W1.heap.size M V → (convert 44 9 (.slice (some ⟨W1.heap.size, 0, none⟩) 128 cap)).run Tryd.prog V = .ok (.string ⟨M.toArray⟩) V) := Lib.hid (fun V hV => conv_at (cap := cap) hV hbl)
        generalize (⟨M.toArray⟩ : ByteArray) = T at *
        have HSR := Lib.hid (HS0.out.kept hb)
        have HWR := Lib.hid (HWB.out.trans' hb)
        clear hbl HGD
        go_wp2_with fail
        refine (Tells.at OT HSR (Below.refl _ _)).mono ?_
        rintro e0 V1 ⟨rfl, hb1⟩
        have HV1 := Lib.hid (hb1.trans' (below_alloc V1 (.cells #[.int .i64 d.k, .int .i64 d.l, .int .i64 d.c, .int .i64 d.r, .int .i64 d.s] 23)))
        have hcv2 := HCV.out _ (bytesAt_kept hB.out HV1.out)
        clear hcv hb1
        go_wp2_with fail
        refine (Tells.at HFX HSR HV1.out).mono ?_
        rintro e0 V2 ⟨rfl, hb2⟩
        go_wp2_with fail
        go_ret
        exact ⟨rfl, HWR.out.trans' hb2⟩
    · have q6 : decide ((k : Int) < 4) = false := by simp; omega
      have hbl : (SP.burst L i [x, y, z, u] k).length = 128 := by rw [SP.burst_length, HL.out]
      have hcv := conv_at (cap := cap) hB.out hbl
      have HGD := HGOOD.out k hk4 (by omega)
      revert hbl hcv HGD hB
      generalize SP.burst L i [x, y, z, u] k = M
      intro hB hbl hcv HGD
      obtain ⟨d, b, e, bo, OT, hd1, hd2⟩ := open_dec M L hbl HGD
      rw [HE.out] at hd2
      have HCV : Hid (∀ V, BytesAt W1.heap.size M V → (convert 44 9 (.slice (some ⟨W1.heap.size, 0, none⟩) 128 cap)).run Tryd.prog V = .ok (.string ⟨M.toArray⟩) V) := Lib.hid (fun V hV => conv_at (cap := cap) hV hbl)
      generalize (⟨M.toArray⟩ : ByteArray) = T at *
      have HSR := Lib.hid (HS0.out.kept hb)
      have HWR := Lib.hid (HWB.out.trans' hb)
      clear hbl HGD
      go_wp2_with fail
      refine (Tells.at OT HSR (Below.refl _ _)).mono ?_
      rintro e0 V1 ⟨rfl, hb1⟩
      have HV1 := Lib.hid (hb1.trans' (below_alloc V1 (.cells #[.int .i64 d.k, .int .i64 d.l, .int .i64 d.c, .int .i64 d.r, .int .i64 d.s] 23)))
      have hcv2 := HCV.out _ (bytesAt_kept hB.out HV1.out)
      clear hcv hb1
      go_wp2_with fail
      refine (Tells.at HFX HSR HV1.out).mono ?_
      rintro e0 V2 ⟨rfl, hb2⟩
      go_wp2_with fail
      go_ret
      exact ⟨rfl, HWR.out.trans' hb2⟩

theorem headBurst_walk (h : HP.H) (s : ByteArray) (a x y z u : UInt8) (w : World) (hs : Sizes w) (ws : s.size ≤ maxLen) :
    Calls Tryd.prog 5 #[hv h, .string s, .agg #[.int .u8 a.toNat, .int .u8 x.toNat, .int .u8 y.toNat, .int .u8 z.toNat, .int .u8 u.toNat]] w fun e w' => e = .returned (.bool true) ∧ Below w.heap.size w w' := by
  obtain ⟨m, hm, hm1, hms, hm2, hts⟩ := cut_min s 112 (by omega)
  rcases sea_parts h (s.extract 0 m) 128 with ⟨hs1, he⟩ | ⟨q, hq, hmq, hr, hbq, hq1, hq2, hsea⟩
  · refine headBurst_bad h s a x y z u w hs ws m hm hm1 hms hm2 hts _ ?_ (show seaV h (s.extract 0 m) 128 = .tuple #[.string ⟨#[]⟩, .int .i64 (HP.sea h (s.extract 0 m) 128).2] by unfold seaV; rw [hs1])
    rcases HP.seal_cases h (s.extract 0 m) 128 with (e | e | e) | ⟨_, _, _, e⟩
    · rw [e]; exact .inl rfl
    · rw [e]; exact .inr (.inl rfl)
    · rw [e]; exact .inr (.inr rfl)
    · rw [e] at he; exact absurd he (by simp)
  · obtain rfl : q = 128 := by omega
    have hv1 : seaV h (s.extract 0 m) 128 = .tuple #[.string ⟨(HP.page (HP.front h) (HP.rest (s.extract 0 m).data.toList 128)).toArray⟩, .int .i64 0] := by unfold seaV; rw [hsea]
    have hl := page_size h (s.extract 0 m) 128 hbq
    have hbg := fun (i k : Nat) (hk : k ≤ 4) (hi : i + k ≤ 12 ∨ (12 ≤ i ∧ i + k ≤ 16) ∨ 16 ≤ i) => HP.burst_good h (HP.rest (s.extract 0 m).data.toList 128) [x, y, z, u] i k hk hr hi
    generalize HP.page (HP.front h) (HP.rest (s.extract 0 m).data.toList 128) = L at *
    obtain ⟨i, hi⟩ : ∃ i : Nat, i = a.toNat % 128 := ⟨_, rfl⟩
    by_cases h16 : 16 ≤ i
    · exact headBurst_a h s a x y z u w hs ws m hm hm1 hms hm2 hts L hl hv1 i hi (by omega) (fun k hk hh => hbg i k hk (by omega))
    · by_cases h12 : 12 ≤ i
      · exact headBurst_b h s a x y z u w hs ws m hm hm1 hms hm2 hts L hl hv1 i hi (by omega) (fun k hk hh => hbg i k hk (by omega))
      · exact headBurst_c h s a x y z u w hs ws m hm hm1 hms hm2 hts L hl hv1 i hi (by omega) (fun k hk hh => hbg i k hk (by omega))
end Go.Proofs.YtklmmkcbogcbaaaDoor
