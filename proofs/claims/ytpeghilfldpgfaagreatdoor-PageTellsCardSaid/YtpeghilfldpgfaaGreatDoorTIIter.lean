import Derived.Test.YtpeghilfldpgfaaGreatDoorT08
import Derived.RangeFuncNested
import Derived.RangeFuncBound
import Derived.RangeFuncCalls
import Derived.RangeFuncLeaves
import Derived.Shelf.RegionOpen
import Derived.OwnWalkIn
import Derived.TacticsInMore
import Derived.LoopNIn
import Derived.LoopIn
set_option linter.unusedVariables false
set_option linter.unusedSimpArgs false
set_option maxHeartbeats 8000000
set_option maxRecDepth 100000
namespace Go.Proofs.YtpeghilfldpgfaaGreatDoor.L11
open Go.RowKit IP
attribute [local go_sem] Oper.semAt_some
def loAt (low : ByteArray) (ss : List ByteArray) : Nat → ByteArray
 | 0 => low
 | i + 1 => ss.getD i ⟨#[]⟩
def hiAt (ss : List ByteArray) (H : ByteArray) (i : Nat) : ByteArray := (ss ++ [H]).getD i ⟨#[]⟩
def doesAt (m : Nat) (R : Int) (i : Nat) : Bool := decide (i < m) || decide (R ≠ 0)
theorem lo_next {low : ByteArray} {ss : List ByteArray} {H : ByteArray} {i : Nat} (h : i < ss.length) : loAt low ss (i + 1) = hiAt ss H i := by
 show ss.getD i _ = (ss ++ [H]).getD i _; rw [List.getD_eq_getElem?_getD, List.getD_eq_getElem?_getD, List.getElem?_append_left h]
theorem hi_cell {ss : List ByteArray} {H : ByteArray} {i : Nat} (h : i < ss.length + 1) : (L5.strCells (ss ++ [H]))[i]? = some (.string (hiAt ss H i)) := by
 unfold hiAt; rw [L5.strCells, List.getElem?_map, List.getD_eq_getElem?_getD, List.getElem?_eq_getElem (by simp; omega)]; rfl
abbrev Pl (n : Nat) := { k : Nat // k < n }
def spVals (low : ByteArray) (ss : List ByteArray) (H : ByteArray) (m : Nat) (R : Int) {n : Nat} (x : Pl n) : Array Value := #[.int .i64 x.1, .agg #[.string (loAt low ss x.1), .string (hiAt ss H x.1), .bool (doesAt m R x.1)]]
def RowAt (X : Nat) (W : World) (k : Nat) : Prop := ∃ a n c, W.cell? ⟨X, 0, none⟩ = some (.slice (some a) n c) ∧ a.block = k
def IsCells (W : World) (k : Nat) : Prop := ∃ cs t fz, W.heap[k]? = some (.cells cs t fz)
theorem IsCells.lt {W : World} {k : Nat} (h : IsCells W k) : k < W.heap.size := by
 obtain ⟨cs, t, fz, h⟩ := h; exact (Array.getElem?_eq_some_iff.1 h).1
def KpR (X : Nat) (W W' : World) : Prop := IsCells W X → IsCells W' X ∧ W.heap.size ≤ W'.heap.size ∧ (∀ k, IsCells W k → k ≠ X → ¬ RowAt X W k → W'.heap[k]? = W.heap[k]?) ∧ ∀ k, RowAt X W' k → RowAt X W k ∨ W.heap.size ≤ k
theorem IsCells.to {W W' : World} {k : Nat} (h : IsCells W k) (e : W'.heap[k]? = W.heap[k]?) : IsCells W' k := by
 obtain ⟨cs, t, fz, h⟩ := h; exact ⟨cs, t, fz, e.trans h⟩
theorem KpR.trans {X : Nat} {A B C : World} (h : KpR X A B) (k : KpR X B C) : KpR X A C := fun hX => by
 obtain ⟨b1, b2, b3, b4⟩ := h hX; obtain ⟨c1, c2, c3, c4⟩ := k b1; refine ⟨c1, by omega, fun i hi hne hr => ?_, fun i hi => ?_⟩
 ·have e := b3 i hi hne hr
  refine (c3 i (hi.to e) hne fun h => ?_).trans e; rcases b4 i h with h | h
  ·exact hr h
  ·have := hi.lt
   omega
 ·rcases c4 i hi with h | h
  ·exact b4 i h
  ·exact .inr (by omega)
theorem KpR.refl (X : Nat) (W : World) : KpR X W W := fun h => ⟨h, Nat.le_refl _, fun _ _ _ _ => rfl, fun _ h => .inl h⟩
theorem rowAt_of {X k : Nat} {W W' : World} (e : W'.heap[X]? = W.heap[X]?) (h : RowAt X W' k) : RowAt X W k := by
 obtain ⟨a, n, c, h1, h2⟩ := h; exact ⟨a, n, c, (cell_otherblock (p := ⟨X, 0, none⟩) e).symm.trans h1, h2⟩
theorem KpR.of_below {X : Nat} {A B : World} (h : Below A.heap.size A B) : KpR X A B := fun hX =>
 ⟨hX.to (h.block X hX.lt), h.size, fun k hk _ _ => h.block k hk.lt, fun k hk => .inl (rowAt_of (h.block X hX.lt) hk)⟩
theorem kpR_b {w : World} (X : Nat) (W : World) (l : Nat) (o o' : Obj) (_ : w.heap.size ≤ l) (h : W.heap[l]? = some o) (ho : o.isCells = false) (_ : o.isWalk = false) : KpR X W (W.putObj l o') := fun hX => by
 have hne : ∀ k, IsCells W k → k ≠ l := fun k hk e => by
  subst e; obtain ⟨cs, t, fz, hc⟩ := hk; rw [hc] at h; cases h; cases ho
 have hk : ∀ k, IsCells W k → (W.putObj l o').heap[k]? = W.heap[k]? := fun k hk => World.putObj_heap_other (hne k hk); exact ⟨hX.to (hk X hX), by simp [World.putObj], fun k h _ _ => hk k h, fun k h => .inl (rowAt_of (hk X hX) h)⟩
theorem abides_below' {β : Type} {B : Nat} {J : β → World → Prop} {x : β} {W W' : World} (h : AbidesFrom B J) (hj : J x W) (b : Below W.heap.size W W') : J x W' :=
 h x W W' none hj ⟨b.os, b.tape, b.output, b.size, fun k hk _ => b.block k hk⟩ (fun r e => by cases e)
theorem own_cellsAt {w : World} {base e g n cap : Nat} {xs : List Value} (h : w.ownsRow base e 1 (.slice (some ⟨g, 0, none⟩) n cap) n xs) : IsCells w g := by
 rcases h.2 with ⟨h0, _⟩ | ⟨g', cap', cur, e', _, hb, _⟩
 ·cases h0
 ·have : g = g' := by injection e' with e1; injection e1 with e1; injection e1
  subst this; exact ⟨_, _, _, hb⟩
theorem own_kept {w w' : World} {base e g n cap : Nat} {xs : List Value} (h : w.ownsRow base e 1 (.slice (some ⟨g, 0, none⟩) n cap) n xs) (k : w'.heap[g]? = w.heap[g]?) : w'.ownsRow base e 1 (.slice (some ⟨g, 0, none⟩) n cap) n xs := by
 refine ⟨h.1, ?_⟩; rcases h.2 with ⟨h0, _⟩ | ⟨g', cap', cur, e', h1, hb, h2⟩
 ·cases h0
 ·have : g = g' := by injection e' with e1; injection e1 with e1; injection e1
  subst this; exact .inr ⟨g, cap', cur, e', h1, k.trans hb, h2⟩
theorem spans1_in (n0 : Nat) (hn0 : 1 ≤ n0) (l Bn Bl X : Nat) (F L R : Int) (H : ByteArray) (A : Option Addr) (n ca : Nat) (C : Option Addr) (m cb : Nat) (ss : List ByteArray) (low : ByteArray) (hC : C = none → m = 0) (hn : n = m + 1) (hm : ss.length = m) (hcb : m ≤ cb) (hl : m ≤ 100000) (J Jx : List (Pl n) → World → Prop) (W0 : World) (hJ : AbidesFrom W0.heap.size J) (hJx : AbidesFrom W0.heap.size Jx)
  (hY : ∀ pre x W, J pre W → pre.length < n + 1 → YieldAt Fence.wide (n0 - 1) Tryz.prog l (spVals low ss H m R x) W fun e W' =>
   (e = .returned (.bool true) ∧ J (pre ++ [x]) W' ∧ KpR X W W') ∨ (e = .returned (.bool false) ∧ Jx (pre ++ [x]) W'))
  (hBn : NBx 29 Bn F L R H A n ca C m cb W0) (hBl : Boxed W0 Bl 9 (.string low)) (hc : L5.Lies W0 W0.heap.size C ss) (hX : IsCells W0 X) (hXr : ∀ k, ¬ RowAt X W0 k) (hXn : Bn ≠ X) (h0 : J [] W0) :
  CallsIn Fence.wide n0 Tryz.prog 177 #[.func (.yield l) #[] #[], .pointer (some ⟨Bn, 0, none⟩), .pointer (some ⟨Bl, 0, none⟩)] W0 fun e W' => (∃ v, e = .returned v) ∧
   ((∃ xs, xs.map (·.1) = List.range n ∧ J xs W') ∨ (∃ pre, True ∧ Jx pre W')) := by
 refine callsIn_of_wp Tryz.func177 rfl trivial ?_ rfl; simp only [Tryz.ntmps177, List.size_toArray, List.length_cons, List.length_nil, Nat.reduceAdd, Nat.reduceSub, Array.replicate_succ, Array.replicate_zero, List.push_toArray, List.append_toArray, List.nil_append, List.cons_append]; have HH := zj (highs_any F L R H A n ca C m cb ss W0 hc hC hn hm hcb (by omega)); have cl := hBl.cell; obtain ⟨c0, c1, c2, c3, c4, c5⟩ := hBn.cells; have HBN := zj hBn; have HBL := zj hBl; have HM := zj hm; have HX := zj hX; have HXR := zj hXr; have H0 := zj h0; have HN := zj hn; clear hc hC hcb hm hBn hBl hX hXr h0 hn
 gi_wp2_with fail
 refine ⟨trivial, ?_⟩; refine (callsIn_wide.2 HH.out).mono ?_; rintro e w1 ⟨g, cap, rfl, hO, hb⟩; have HO := zj hO; have HB := zj hb; have cl1 := (hb.cell (p := ⟨Bl, 0, none⟩) HBL.out.lt).trans cl; clear hO hb c0 c1 c2 c3 c4 c5 cl
 gi_wp2_with fail
 have HJ1 := zj (abides_below' hJ H0.out HB.out); have HN1 := zj (HBN.out.on HB.out HBN.out.lt); have HX1 : Hid (IsCells w1 X) := zj (HX.out.to (HB.out.block X HX.out.lt)); have HXR1 : Hid (∀ k, RowAt X w1 k → k ≠ g ∧ k ≠ Bn) := zj (fun k hk => absurd (rowAt_of (HB.out.block X HX.out.lt) hk) (HXR.out k))
 have HGX : Hid (g ≠ X) := zj (by
  have h1 := (HO.out.lt g rfl).1; have h2 := HX.out.lt
  omega)
 have HGL : Hid (g < w1.heap.size ∧ Bn < w1.heap.size) := zj ⟨(HO.out.lt g rfl).2, HN1.out.lt⟩; have HXN := zj hXn; have w2 : IntKind.i64.wrap ((n : Int) - 1) = m := (IntWalk.i64_in _ (by have := HN.out; omega)).trans (by have := HN.out; omega)
 have hnl : n ≤ 100001 := by have := HN.out; omega
 clear cl1 hXn
 gi_loopw [5, 14] (fun fv iv wr => ∃ (k : Nat) (xs : List (Pl n)) (f : ByteArray), k ≤ n ∧ Hid (k < n → f = loAt low ss k) ∧ fv = .string f ∧ iv = .int .i64 k ∧ Hid (xs.map (·.1) = List.range k) ∧ Hid (J xs wr) ∧ Hid (wr.ownsRow W0.heap.size 9 1 (.slice (some ⟨g, 0, none⟩) n cap) n (L5.strCells (ss ++ [H]))) ∧ Hid (NBx 29 Bn F L R H A n ca C m cb wr) ∧ Hid (IsCells wr X) ∧ Hid (∀ k, RowAt X wr k → k ≠ g ∧ k ≠ Bn) ∧ Hid (w1.heap.size ≤ wr.heap.size)) (fun fv iv _ => n - (intOf iv).toNat)
 case atStart => exact ⟨0, [], low, by omega, zj (fun _ => rfl), rfl, rfl, zj rfl, HJ1, HO, HN1, HX1, HXR1, zj (Nat.le_refl _)⟩
 case round =>
  obtain ⟨k, xs, f, hk, HF, rfl, rfl, HXS, HJ3, HO3, HN3, HX3, HXR3, HS3⟩ := hrel; by_cases hlt : k < n
  ·have hkm : k < ss.length + 1 := by have := HN.out; have := HM.out; omega
   have hcell := (HO3.out.cellAt k (by omega)).trans (hi_cell (H := H) hkm)
   have h0 : (0 : Int) ≤ k := by omega
   have hkn : (k : Int) < n := by omega
   have hlen : xs.length < n + 1 := by
    have := congrArg List.length HXS.out; simp at this; omega
   obtain ⟨fn, tmps, assign, body, hy, hR⟩ := hY xs ⟨k, hlt⟩ wr HJ3.out hlen; dsimp only [spVals] at hy; have HLO : Hid (k < ss.length → loAt low ss (k + 1) = hiAt ss H k) := zj (fun h => lo_next h); obtain ⟨hv, hhv⟩ : ∃ hv, hv = hiAt ss H k := ⟨_, rfl⟩; rw [← HF.out hlt] at hy; rw [← hhv] at hy hcell HLO; clear hhv; obtain ⟨-, -, c2, -, -, -⟩ := HN3.out.cells; by_cases hkl : k < m
   ·have e1 : doesAt m R k = true := by unfold doesAt; rw [dT hkl]; rfl
    have d1 : decide ((k : Int) < (m : Int)) = true := dT (by omega); have d2 : decide (k < m) = true := dT hkl; rw [e1] at hy; have HLE := zj (HLO.out (by have := HM.out; omega)); clear e1 hkm
    gi_wp2_with fail
    refine hR.mono ?_; rintro e W3 (⟨rfl, hJ4, hk4⟩ | ⟨rfl, hJx4⟩)
    ·obtain ⟨k1, k2, k3, k4⟩ := hk4 HX3.out
     have HO4 := zj (own_kept HO3.out (k3 g (own_cellsAt HO3.out) HGX.out (fun h => (HXR3.out g h).1 rfl))); have HN4 : Hid (NBx 29 Bn F L R H A n ca C m cb W3) := zj ((k3 Bn ⟨_, _, _, HN3.out⟩ HXN.out (fun h => (HXR3.out Bn h).2 rfl)).trans HN3.out)
     have HXR4 : Hid (∀ k, RowAt X W3 k → k ≠ g ∧ k ≠ Bn) := zj (fun i hi => by
      rcases k4 i hi with h | h
      ·exact HXR3.out i h
      ·have := HGL.out
       have := HS3.out
       omega)
     have HS4 : Hid (w1.heap.size ≤ W3.heap.size) := zj (Nat.le_trans HS3.out k2); have HX4 := zj k1; clear k1 k2 k3 k4 hk4 hcell c2
     gi_wp2_with fail
     go_roundw
     case rel => exact ⟨k + 1, xs ++ [⟨k, hlt⟩], hv, by omega, zj (fun _ => HLE.out.symm), rfl, by first | rfl | simp, zj (by rw [List.map_append, HXS.out, List.range_succ]; rfl), zj hJ4, HO4, HN4, HX4, HXR4, HS4⟩
     case measure => simp [intOf]; omega
    ·gi_wp2_with fail
     refine bodyPost_ret (results_none rfl _ _ _) rfl ?_; exact ⟨⟨_, rfl⟩, .inr ⟨_, trivial, hJx4⟩⟩
   ·have e1 : doesAt m R k = (R != 0) := by
     unfold doesAt; rw [dF hkl]
     by_cases hR0 : R = 0 <;> simp [hR0]
    have d1 : decide ((k : Int) < (m : Int)) = false := dF (by omega); have d2 : decide (k < m) = false := dF hkl; rw [e1] at hy
    have hkm1 : k + 1 = n := by have := HN.out; omega
    have HKN := zj hkm1; clear e1 hkm hkm1
    gi_wp2_with fail
    refine hR.mono ?_; rintro e W3 (⟨rfl, hJ4, hk4⟩ | ⟨rfl, hJx4⟩)
    ·obtain ⟨k1, k2, k3, k4⟩ := hk4 HX3.out
     have HO4 := zj (own_kept HO3.out (k3 g (own_cellsAt HO3.out) HGX.out (fun h => (HXR3.out g h).1 rfl))); have HN4 : Hid (NBx 29 Bn F L R H A n ca C m cb W3) := zj ((k3 Bn ⟨_, _, _, HN3.out⟩ HXN.out (fun h => (HXR3.out Bn h).2 rfl)).trans HN3.out)
     have HXR4 : Hid (∀ k, RowAt X W3 k → k ≠ g ∧ k ≠ Bn) := zj (fun i hi => by
      rcases k4 i hi with h | h
      ·exact HXR3.out i h
      ·have := HGL.out
       have := HS3.out
       omega)
     have HS4 : Hid (w1.heap.size ≤ W3.heap.size) := zj (Nat.le_trans HS3.out k2); have HX4 := zj k1; clear k1 k2 k3 k4 hk4 hcell c2
     gi_wp2_with fail
     go_roundw
     case rel => exact ⟨k + 1, xs ++ [⟨k, hlt⟩], hv, by omega, zj (fun h => absurd h (by have := HKN.out; omega)), rfl, by first | rfl | simp, zj (by rw [List.map_append, HXS.out, List.range_succ]; rfl), zj hJ4, HO4, HN4, HX4, HXR4, HS4⟩
     case measure => simp [intOf]; omega
    ·gi_wp2_with fail
     refine bodyPost_ret (results_none rfl _ _ _) rfl ?_; exact ⟨⟨_, rfl⟩, .inr ⟨_, trivial, hJx4⟩⟩
  ·obtain rfl : k = n := by omega
   gi_wp2_with fail
   go_end0
   exact ⟨⟨_, rfl⟩, .inl ⟨xs, HXS.out, HJ3.out⟩⟩
theorem spans_any (F L R : Int) (H : ByteArray) (A : Option Addr) (n ca : Nat) (C : Option Addr) (m cb : Nat) (low : ByteArray) (w : World) : Calls Tryz.prog 125 #[nv F L R H A n ca C m cb, .string low] w fun e w' => e = .returned (.func (.func 177) #[] #[.pointer (some ⟨w.heap.size, 0, none⟩), .pointer (some ⟨w.heap.size + 1, 0, none⟩)]) ∧ w' = (nbox 29 F L R H A n ca C m cb w).alloc (.cells #[.string low] 9) := by
 have hmf : ∀ (fn : Fn) (first cap : Array Value) (w : World), (Instr.makeFunc fn first cap).run Tryz.prog w = .ok (.func fn first cap) w := fun _ _ _ _ => rfl; go_enter Tryz.func125, Tryz.ntmps125
 go_wp2
 go_ret; exact ⟨by simp, rfl⟩
theorem spans_stops (n0 : Nat) (hn0 : 1 ≤ n0) (Bn Bl X : Nat) (F L R : Int) (H : ByteArray) (A : Option Addr) (n ca : Nat) (C : Option Addr) (m cb : Nat) (ss : List ByteArray) (low : ByteArray) (hC : C = none → m = 0) (hn : n = m + 1) (hm : ss.length = m) (hcb : m ≤ cb) (hl : m ≤ 100000) (w : World)
  (hBn : NBx 29 Bn F L R H A n ca C m cb w) (hBl : Boxed w Bl 9 (.string low)) (hc : L5.Lies w w.heap.size C ss) (hX : IsCells w X) (hXr : ∀ k, ¬ RowAt X w k) (hXn : Bn ≠ X) :
  SeqStopsK Fence.wide n0 Tryz.prog 177 #[.pointer (some ⟨Bn, 0, none⟩), .pointer (some ⟨Bl, 0, none⟩)] (spVals low ss H m R) (KpR X) (fun xs : List (Pl n) => xs.map (·.1) = List.range n) (fun _ => True) (n + 1) w := fun l J Jx W hW hJ hJx hY h0 =>
 spans1_in n0 hn0 l Bn Bl X F L R H A n ca C m cb ss low hC hn hm hcb hl J Jx W hJ hJx hY (hBn.on hW hBn.lt) ((hW.block Bl hBl.lt).trans hBl) (hc.on hW) (hX.to (hW.block X hX.lt)) (fun k hk => hXr k (rowAt_of (hW.block X hX.lt) hk)) hXn h0
end Go.Proofs.YtpeghilfldpgfaaGreatDoor.L11
