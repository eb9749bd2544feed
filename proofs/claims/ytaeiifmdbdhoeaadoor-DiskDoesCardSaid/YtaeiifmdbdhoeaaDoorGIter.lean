/-
  The walks of the program's pending, and of the iterator that it makes.
-/
import Derived.RangeFuncNested
import Derived.RangeFuncBound
import Derived.RangeFuncCalls
import Derived.RangeFuncLeaves
import Derived.RangeFuncBox
import Derived.Shelf.RegionOpen
import Derived.WalkKit
import Derived.OwnWalkIn
import Derived.TacticsInMore
import Derived.LoopNIn
import Derived.LoopIn
import Derived.Test.YtaeiifmdbdhoeaaDoorGOut
import Derived.Test.YtaeiifmdbdhoeaaDoorGDisk
namespace Go.Proofs.YtaeiifmdbdhoeaaDoor
open Go.RowKit
open DP (W D)
set_option linter.unusedVariables false
set_option linter.unusedSimpArgs false
variable {Fb : Nat → Prop}
attribute [local go_sem] Oper.semAt_some

/-- The blocks of writes, linked. -/
def headp (gs : List Nat) : Option Addr := gs.head?.map fun g => ⟨g, 0, none⟩
def Linked (w : World) (gs : List Nat) (q : List W) : Prop := gs.length = q.length ∧ ∀ (k g : Nat) (x : W), gs[k]? = some g → q[k]? = some x → w.heap[g]? = some (.cells #[.int .i64 x.i, .string x.s, .pointer (headp (gs.drop (k + 1)))] 83 (0, 0))
theorem chain_linked {w : World} : ∀ {q : List W} {v : Value}, Chain w v q → ∃ gs, v = .pointer (headp gs) ∧ Linked w gs q
  | [], v, h => ⟨[], (show v = .pointer none from h), rfl, fun k g x h => by simp at h⟩
  | x :: q, v, ⟨g, v', e, hg, hc⟩ => by
    obtain ⟨gs, rfl, hl, hk⟩ := chain_linked hc
    refine ⟨g :: gs, e, by simp [hl], fun k g' x' h1 h2 => ?_⟩
    cases k with
    | zero => simp at h1 h2; subst h1; subst h2; simpa using hg
    | succ k => simp at h1 h2; simpa using hk k g' x' h1 h2
theorem Linked.st {w w' : World} {gs : List Nat} {q : List W} (h : Linked w gs q) (k : St w w') : Linked w' gs q := ⟨h.1, fun i g x h1 h2 => (k g _ _ _ (h.2 i g x h1 h2) (.inr (.inr rfl))).trans (h.2 i g x h1 h2)⟩
def ptrs (gs : List Nat) : List (Option Addr) := gs.map fun g => some ⟨g, 0, none⟩
theorem ptrs_length (gs : List Nat) : (ptrs gs).length = gs.length := by simp [ptrs]
theorem ptrs_take (gs : List Nat) (k g : Nat) (h : gs[k]? = some g) : ptrCells (ptrs (gs.take k)) ++ [.pointer (some ⟨g, 0, none⟩)] = ptrCells (ptrs (gs.take (k + 1))) := by
  rw [List.take_add_one, h]
  simp [ptrs, ptrCells]
def lenOf : Value → Nat
  | .slice _ n _ => n
  | _ => 0
theorem own_lenOf {w : World} {base e size n : Nat} {v : Value} {xs : List Value} (h : w.ownsRow base e size v n xs) : lenOf v = n := by
  obtain ⟨A, cap, rfl, _, _⟩ := own_form h
  rfl
/-- Places of writes. -/
abbrev Pl (n : Nat) := { k : Nat // k < n }
def plVals (gs : List Nat) {n : Nat} (x : Pl n) : Array Value := #[.int .i64 x.1, .pointer (some ⟨gs.getD x.1 0, 0, none⟩)]
/-- What a round must keep: all cells but block X. -/
def KpX (X : Nat) (W W' : World) : Prop := ∀ (k : Nat) (cs : Array Value) (t : TypeId) (fz : Nat × Nat), k ≠ X → W.heap[k]? = some (.cells cs t fz) → W'.heap[k]? = W.heap[k]?
theorem KpX.trans {X : Nat} {A B C : World} (h : KpX X A B) (k : KpX X B C) : KpX X A C := fun i cs t fz hi hc => (k i cs t fz hi ((h i cs t fz hi hc).trans hc)).trans (h i cs t fz hi hc)
theorem KpX.of_below {X : Nat} {A B : World} (h : Below A.heap.size A B) : KpX X A B := fun i cs t fz hi hc => h.block i (Array.getElem?_eq_some_iff.1 hc).1
theorem kpX_b {w : World} (X : Nat) (W : World) (l : Nat) (o o' : Obj) (_ : w.heap.size ≤ l) (h : W.heap[l]? = some o) (ho : o.isCells = false) (_ : o.isWalk = false) : KpX X W (W.putObj l o') := fun k cs t fz hk hc => by
  have hne : k ≠ l := fun e => by
    subst e
    rw [hc] at h
    cases h
    cases ho
  exact World.putObj_heap_other hne
theorem abides_below' {β : Type} {B : Nat} {J : β → World → Prop} {x : β} {W W' : World} (h : AbidesFrom B J) (hj : J x W) (b : Below W.heap.size W W') : J x W' :=
  h x W W' none hj ⟨b.os, b.tape, b.output, b.size, fun k hk _ => b.block k hk⟩ (fun r e => by cases e)
theorem Tryd.infoPtr : (Tryd.prog.info? 68).map (fun i => (i.zero, i.size, i.bytes)) = some (some (.pointer none), 1, 8) := by kernel_rfl
theorem reverse_nil (w : World) : Calls Tryd.prog 53 #[.slice none 0 0] w fun e w' => e = .returned (.tuple #[]) ∧ w = w' := by
  go_enter Tryd.func53, Tryd.ntmps53
  go_wp2_with fail
  go_loopw [2, 3] (fun iv jv wr => iv = .int .i64 0 ∧ jv = .int .i64 (-1) ∧ Hid (wr = w)) (fun iv jv _ => 0)
  case atStart => exact ⟨rfl, rfl, Lib.hid rfl⟩
  case round =>
    obtain ⟨rfl, rfl, HW⟩ := hrel
    go_wp2_with fail
    go_end0
    exact ⟨rfl, HW.out.symm⟩
/-- Reverse of a row that the caller owns. -/
theorem reverse_own (base n : Nat) (v : Value) (ps : List (Option Addr)) (w : World) (h : w.ownsRow base 68 1 v n (ptrCells ps)) (hn : n ≤ 100000) :
    Calls Tryd.prog 53 #[v] w fun e w' => e = .returned (.tuple #[]) ∧ w'.ownsRow base 68 1 v n (ptrCells ps.reverse) ∧ ∀ c, c ≤ base → c ≤ w.heap.size → Below c w w' := by
  rcases h.2 with ⟨rfl, h0⟩ | ⟨g, cap, cur, rfl, hg, _⟩
  · have hps : ps = [] := by
      have := h.1
      rw [ptrCells_length] at this
      exact List.eq_nil_of_length_eq_zero (by omega)
    refine (reverse_nil w).mono ?_
    rintro e w' ⟨rfl, rfl⟩
    refine ⟨rfl, ?_, fun c _ _ => Below.refl _ _⟩
    subst hps
    exact h
  · refine (reverse_any base g n cap ps w h hn).mono ?_
    rintro e w' ⟨rfl, ho, hc⟩
    exact ⟨rfl, ho, fun c h1 h2 => hc.below (fun k hk => by subst hk; omega) h2⟩

set_option maxRecDepth 100000 in
set_option maxHeartbeats 2000000 in
theorem pending1_in (n : Nat) (hn : 1 ≤ n) (l Bs b X : Nat) (gs : List Nat) (q : List W) (hq : q.length ≤ 5000) (J Jx : List (Pl q.length) → World → Prop) (W0 : World) (hJ : AbidesFrom W0.heap.size J) (hJx : AbidesFrom W0.heap.size Jx)
    (hY : ∀ pre x W, J pre W → pre.length < q.length + 1 → YieldAt Fence.wide (n - 1) Tryd.prog l (plVals gs.reverse x) W fun e W' =>
      (e = .returned (.bool true) ∧ J (pre ++ [x]) W' ∧ KpX X W W') ∨ (e = .returned (.bool false) ∧ Jx (pre ++ [x]) W'))
    (hB : Boxed W0 Bs 25 (.pointer (some ⟨b, 0, none⟩))) (h8 : W0.cell? ⟨b, 8, none⟩ = some (.pointer (headp gs))) (hL : Linked W0 gs q) (hX : X < W0.heap.size) (h0 : J [] W0) :
    CallsIn Fence.wide n Tryd.prog 52 #[.func (.yield l) #[] #[], .pointer (some ⟨Bs, 0, none⟩)] W0 fun e W' => (∃ v, e = .returned v) ∧
      ((∃ xs, xs.map (·.1) = List.range q.length ∧ J xs W') ∨ (∃ pre, True ∧ Jx pre W')) := by
  obtain ⟨i0, hi, hz0, hz1, hz2⟩ := info_parts Tryd.infoPtr
  refine callsIn_of_wp Tryd.func52 rfl trivial ?_ rfl
  simp only [Tryd.ntmps52, List.size_toArray, List.length_cons, List.length_nil, Nat.reduceAdd, Nat.reduceSub, Array.replicate_succ, Array.replicate_zero, List.push_toArray, List.append_toArray, List.nil_append, List.cons_append]
  have cB := hB.cell
  have HLI := Lib.hid hL.2
  obtain ⟨N, hN⟩ : ∃ N, N = q.length := ⟨_, rfl⟩
  have HNN := Lib.hid hN
  have hgl : gs.length = N := by rw [hN]; exact hL.1
  have HGL := Lib.hid hgl
  have HB := Lib.hid hB
  have H0 := Lib.hid h0
  have HX := Lib.hid hX
  have hN5 : N ≤ 5000 := by omega
  clear hL hq h0 hB hX hgl hN
  gi_wp2
  gi_loopw [3, 4] (fun lv pv wr => ∃ k : Nat, k ≤ N ∧ pv = .pointer (headp (gs.drop k)) ∧ Hid (wr.ownsRow W0.heap.size 68 1 lv k (ptrCells (ptrs (gs.take k)))) ∧ Hid (Below W0.heap.size W0 wr)) (fun lv _ _ => N - lenOf lv)
  case atStart => exact ⟨0, by omega, rfl, Lib.hid (World.ownsRow_nil _ _ _ _), Lib.hid (Below.refl _ _)⟩
  case round =>
    obtain ⟨k, hk, hpv, HO, HBl⟩ := hrel
    by_cases hlt : k < N
    · obtain ⟨g, hg⟩ : ∃ g, gs[k]? = some g := ⟨_, List.getElem?_eq_getElem (by have := HGL.out; omega)⟩
      have hd : gs.drop k = g :: gs.drop (k + 1) := by
        have := List.drop_eq_getElem_cons (l := gs) (i := k) (by have := HGL.out; omega)
        rw [this]
        congr 1
        exact Option.some.inj ((List.getElem?_eq_getElem _).symm.trans hg)
      rw [hd] at hpv
      have hpv' : _ = Value.pointer (some ⟨g, 0, none⟩) := hpv
      subst hpv'
      obtain ⟨x, hx⟩ : ∃ x, q[k]? = some x := ⟨_, List.getElem?_eq_getElem (by have := HNN.out; omega)⟩
      have hgb := HLI.out k g x hg hx
      have HGB : Hid (g < W0.heap.size) := Lib.hid (Array.getElem?_eq_some_iff.1 hgb).1
      obtain ⟨_, _, HG2⟩ := tri_cells hgb
      have HG2 := Lib.hid HG2
      have HTK := Lib.hid (ptrs_take gs k g hg)
      obtain ⟨nx, hnx⟩ : ∃ nx, nx = headp (gs.drop (k + 1)) := ⟨_, rfl⟩
      rw [← hnx] at HG2
      have HNX := Lib.hid hnx
      clear hgb hd hg hx hpv hnx
      gi_wp2_with (gi_at_builtin; have HLN := Lib.hid (own_lenOf HO.out); refine wpListIn_append_own _ rfl _ _ 98 rfl W0.heap.size 68 i0 (.pointer none) 1 8 Tryd.underlying98 hi hz0 hz1 hz2 rfl (by decide) _ _ _ rfl (HO.out.alloc _) ⟨wr.heap.size, 0, none⟩ 1 1 [.pointer (some ⟨g, 0, none⟩)] rfl rfl (World.news_of_block (cs := #[.pointer (some ⟨g, 0, none⟩)]) (t := 68) (fr := (0, 0)) (heap_alloc_new wr _)) (by simp [Value.oneCell']) (by unfold maxLen; omega) (by omega) (by have := HBl.out.size; simp; omega) ?_; intro v' w1 hown' hgrow _; obtain ⟨g', cap', rfl⟩ := ownsRow_succ hown'; have hBl1 := Lib.hid ((HBl.out.trans ((below_alloc wr (.cells #[.pointer (some ⟨g, 0, none⟩)] 68)).mono HBl.out.size)).trans (own_apart (HO.out.alloc _) hgrow (Nat.le_refl _) (by have := HBl.out.size; simp; omega))); have cg2 := (hBl1.out.cell (p := ⟨g, 2, none⟩) HGB.out).trans HG2.out; have hown2 := Lib.hid hown'; clear hown' hgrow)
      go_roundw
      case rel =>
        refine ⟨k + 1, by omega, by rw [HNX.out], Lib.hid ?_, hBl1⟩
        rw [← HTK.out]
        exact hown2.out
      case measure => rw [HLN.out]; simp [lenOf]; omega
    · obtain rfl : k = N := by omega
      have hpn : headp (gs.drop k) = none := by
        rw [List.drop_eq_nil_of_le (by have := HGL.out; omega)]; rfl
      rw [hpn] at hpv
      subst hpv
      have HO' : Hid (wr.ownsRow W0.heap.size 68 1 _ k (ptrCells (ptrs gs))) := Lib.hid (by
        have := HO.out
        rwa [List.take_of_length_le (by have := HGL.out; omega)] at this)
      clear hpn HO
      gi_wp2_with fail
      refine ⟨trivial, ?_⟩
      refine (callsIn_wide.2 (reverse_own _ _ _ _ _ HO'.out (by omega))).mono ?_
      rintro e w2 ⟨rfl, ho2, hb2⟩
      have HB2 := Lib.hid (HBl.out.trans (hb2 W0.heap.size (Nat.le_refl _) HBl.out.size))
      have HJ2 := Lib.hid (abides_below' hJ H0.out HB2.out)
      have HO2 := Lib.hid ho2
      clear ho2 hb2
      obtain ⟨rA, rcap, rfl, hrc, hrA⟩ := own_form HO2.out
      have HRV : Hid (∀ j, j < k → (ptrCells (ptrs gs).reverse)[j]? = some (.pointer (some ⟨gs.reverse.getD j 0, 0, none⟩))) := Lib.hid (fun j hj => by
        have h1 : j < gs.reverse.length := by rw [List.length_reverse, HGL.out]; exact hj
        have h2 : gs.reverse.getD j 0 = gs.reverse[j] := by rw [List.getD_eq_getElem?_getD, List.getElem?_eq_getElem h1]; rfl
        rw [h2, ptrs, ← List.map_reverse, ptrCells, List.map_map, List.getElem?_map, List.getElem?_eq_getElem h1]
        rfl)
      gi_wp2_with fail
      gi_loopw [25] (fun iv wr2 => ∃ (j : Nat) (xs : List (Pl q.length)), j ≤ k ∧ iv = .int .i64 j ∧ Hid (xs.map (·.1) = List.range j) ∧ Hid (J xs wr2) ∧ Hid (wr2.ownsRow W0.heap.size 68 1 (.slice rA k rcap) k (ptrCells (ptrs gs).reverse))) (fun iv _ => k - (intOf iv).toNat)
      case atStart => exact ⟨0, [], by omega, rfl, Lib.hid rfl, HJ2, HO2⟩
      case round =>
        obtain ⟨j, xs, hj, rfl, HXS, HJ3, HO3⟩ := hrel
        by_cases hjk : j < k
        · obtain ⟨gr, cap', hv, _, hgr⟩ := HO3.out.form (by omega)
          have hA : rA = some ⟨gr, 0, none⟩ := by injection hv
          subst hA
          have cj : wr.cell? ⟨gr, j, none⟩ = some (.pointer (some ⟨gs.reverse.getD j 0, 0, none⟩)) := (HO3.out.cellAt j (by omega)).trans (HRV.out j hjk)
          have d1 : decide ((j : Int) < (k : Int)) = true := decide_eq_true (by omega)
          have d1n : decide (j < k) = true := decide_eq_true hjk
          have hjq : j < q.length := by have := HNN.out; omega
          have hlen : xs.length < q.length + 1 := by
            have := congrArg List.length HXS.out
            simp at this
            omega
          obtain ⟨fn, tmps, assign, body, hy, hR⟩ := hY xs ⟨j, hjq⟩ wr HJ3.out hlen
          dsimp only [plVals] at hy
          obtain ⟨gj, hgj⟩ : ∃ gj, gj = gs.reverse.getD j 0 := ⟨_, rfl⟩
          rw [← hgj] at cj hy
          clear hv hgr hgj
          gi_wp2_with fail
          refine hR.mono ?_
          rintro e W3 (⟨rfl, hJ4, hk4⟩ | ⟨rfl, hJx4⟩)
          · have HO4 := Lib.hid (own_stays HO3.out (fun g' hg' => by
              obtain ⟨cur, hcur⟩ := own_type HO3.out hg'
              have := (HO3.out.lt g' hg').1
              exact hk4 g' _ _ _ (by have := HX.out; omega) hcur))
            gi_wp2_with fail
            go_roundw
            case rel => exact ⟨j + 1, xs ++ [⟨j, hjq⟩], by omega, by first | rfl | simp, Lib.hid (by rw [List.map_append, HXS.out, List.range_succ]; rfl), Lib.hid hJ4, HO4⟩
            case measure => simp [intOf]; omega
          · gi_wp2_with fail
            refine bodyPost_ret (results_none rfl _ _ _) rfl ?_
            exact ⟨⟨_, rfl⟩, .inr ⟨_, trivial, hJx4⟩⟩
        · obtain rfl : j = k := by omega
          gi_wp2_with fail
          go_end0
          exact ⟨⟨_, rfl⟩, .inl ⟨xs, HXS.out.trans (congrArg List.range HNN.out), HJ3.out⟩⟩

theorem pending_any (b : Nat) (w : World) : Calls Tryd.prog 44 #[.pointer (some ⟨b, 0, none⟩)] w fun e w' => e = .returned (.func (.func 52) #[] #[.pointer (some ⟨w.heap.size, 0, none⟩)]) ∧ w' = w.alloc (.cells #[.pointer (some ⟨b, 0, none⟩)] 25) := by
  have hmf : ∀ (fn : Fn) (first cap : Array Value) (w : World), (Instr.makeFunc fn first cap).run Tryd.prog w = .ok (.func fn first cap) w := fun _ _ _ _ => rfl
  go_enter Tryd.func44, Tryd.ntmps44
  go_wp2
  go_ret
  exact ⟨rfl, rfl⟩
theorem pending_stops (n : Nat) (hn : 1 ≤ n) (Bs b X : Nat) (gs : List Nat) (q : List W) (hq : q.length ≤ 5000) (w : World) (hB : Boxed w Bs 25 (.pointer (some ⟨b, 0, none⟩))) (h8 : w.cell? ⟨b, 8, none⟩ = some (.pointer (headp gs))) (hL : Linked w gs q) (hX : X < w.heap.size) (hb : b < w.heap.size) :
    SeqStopsK Fence.wide n Tryd.prog 52 #[.pointer (some ⟨Bs, 0, none⟩)] (plVals gs.reverse) (KpX X) (fun xs : List (Pl q.length) => xs.map (·.1) = List.range q.length) (fun _ => True) (q.length + 1) w := fun l J Jx W hW hJ hJx hY h0 =>
  pending1_in n hn l Bs b X gs q hq J Jx W hJ hJx hY ((hW.block Bs hB.lt).trans hB) ((hW.cell (p := ⟨b, 8, none⟩) hb).trans h8) (hL.st (.of_below hW)) (Nat.lt_of_lt_of_le hX hW.size) h0
end Go.Proofs.YtaeiifmdbdhoeaaDoor
