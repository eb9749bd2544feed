/-
  The walk of chain.Parts. Written by wip/gen_cparts.py.
-/
import Derived.Test.YtahkigabapdleaaDoorCIter
import Derived.Test.YtahkigabapdleaaDoorCDParts
import Derived.Test.YtahkigabapdleaaDoorEClone
namespace Go.Proofs.YtahkigabapdleaaDoor
open Go.RowKit CP
set_option linter.unusedVariables false
set_option linter.unusedSimpArgs false
attribute [local go_sem] Oper.semAt_some

/-- The cells of what was told. -/
def toldP (v : ByteArray) (r : Nat) {n : Nat} (pre : List (Pl n)) : List Value := L5.strCells (pre.map fun x => CP.part v r x.1)
theorem toldP_snoc (v : ByteArray) (r : Nat) {n : Nat} (pre : List (Pl n)) (x : Pl n) : toldP v r (pre ++ [x]) = toldP v r pre ++ [.string (CP.part v r x.1)] := by unfold toldP; rw [List.map_append, List.map_cons, List.map_nil, L5.strCells_snoc]
theorem toldP_all (v : ByteArray) (r : Nat) {n : Nat} {xs : List (Pl n)} (h : xs.map (·.1) = List.range n) : toldP v r xs = L5.strCells ((List.range n).map (CP.part v r)) := by unfold toldP; rw [← h, List.map_map]; rfl
theorem own_slice {w : World} {base e n : Nat} {v : Value} {xs : List Value} (h : w.ownsRow base e 1 v n xs) : ∃ A cp, v = .slice A n cp := by
  rcases h.2 with ⟨h0, h1⟩ | ⟨g', cap', cur, e', _⟩
  · subst h1
    exact ⟨none, 0, h0⟩
  · exact ⟨_, _, e'⟩
theorem cuts_any (v : ByteArray) (p : Int) (w : World) : Calls Tryd.prog 33 #[.string v, .int .i64 p] w fun e w' => e = .returned (.func (.func 44) #[] #[.pointer (some ⟨w.heap.size + 1, 0, none⟩), .pointer (some ⟨w.heap.size, 0, none⟩)]) ∧ w' = (w.alloc (.cells #[.string v] 9)).alloc (.cells #[.int .i64 p] 3) := by
  have hmf : ∀ (fn : Fn) (first cap : Array Value) (w : World), (Instr.makeFunc fn first cap).run Tryd.prog w = .ok (.func fn first cap) w := fun _ _ _ _ => rfl
  go_enter Tryd.func33, Tryd.ntmps33
  go_wp2
  go_ret
  exact ⟨by simp, rfl⟩
theorem cuts_stops (n0 : Nat) (hn0 : 1 ≤ n0) (Bp Bv X p r : Nat) (v : ByteArray) (hp : L7.mayBe p = true) (hr : p = r + 16) (hv : v.size ≤ 1000000) (w : World)
    (hBp : Boxed w Bp 3 (.int .i64 p)) (hBv : Boxed w Bv 9 (.string v)) (hS : L7.Sizes w) (hX : IsCells w X) (hXr : ∀ k, ¬ RowAt X w k) (hXp : Bp ≠ X) (hXv : Bv ≠ X) :
    SeqStopsK Fence.wide n0 Tryd.prog 44 #[.pointer (some ⟨Bp, 0, none⟩), .pointer (some ⟨Bv, 0, none⟩)] (paVals v r) (KpR X) (fun xs : List (Pl (pages v.size r)) => xs.map (·.1) = List.range (pages v.size r)) (fun _ => True) (pages v.size r + 1) w := fun l J Jx W hW hJ hJx hY h0 =>
  cuts1_in n0 hn0 l Bp Bv X p r v hp hr hv J Jx W hJ hJx hY ((hW.block Bp hBp.lt).trans hBp) ((hW.block Bv hBv.lt).trans hBv) (hS.below hS.lt hW) (hX.to (hW.block X hX.lt)) (fun k hk => absurd (rowAt_of (hW.block X hX.lt) hk) (hXr k)) hXp hXv h0

set_option maxRecDepth 100000 in
set_option maxHeartbeats 4000000 in
theorem parts_any (v : ByteArray) (p r : Nat) (w : World) (hp : L7.mayBe p = true) (hr : p = r + 16) (hv : v.size ≤ 1000000) (hs : L7.Sizes w) :
    Calls Tryd.prog 20 #[.string v, .int .i64 p] w fun e w' => ∃ G cap, e = .returned (.slice G (pages v.size r) cap) ∧ L5.Lies w' w'.heap.size G (cuts v r) ∧ Below w.heap.size w w' := by
  obtain ⟨i0, hi0, hz0, hz1, hz2⟩ := info_parts L5.Tryd.infoStr
  have hp2 := mayBe_le hp
  have HFEW : Hid (pages v.size r ≤ v.size) := Lib.hid (pages_few (by omega))
  have HV0 : Hid (v.size ≤ 1000000) := Lib.hid hv
  have HPS : Hid (∀ i, (CP.part v r i).size ≤ 1000000) := Lib.hid (fun i => by have := part_le v r i; omega)
  have HPC := Lib.hid (fun i W => L5.clone_any (CP.part v r i) W (HPS.out i))
  have hls : w.heap.size < (w.alloc (.cells #[.slice none 0 0] 42)).heap.size := by simp
  have HST := Lib.hid (fun W (h : Below w.heap.size w W) b1 b2 b3 b4 b6 b7 => cuts_stops 4 (by omega) (w.heap.size + 1 + 1) (w.heap.size + 1) w.heap.size p r v hp hr hv W b1 b2 (hs.below hs.lt h) b3 b4 b6 b7)
  refine (callsIn_wide (n := 5)).1 ?_
  refine callsIn_of_wp_marks Tryd.func20 rfl trivial ?_ rfl
  simp only [Tryd.ntmps20, List.size_toArray, List.length_cons, List.length_nil, Nat.reduceAdd, Nat.reduceSub, Array.replicate_succ, Array.replicate_zero, List.push_toArray, List.append_toArray, List.nil_append, List.cons_append]
  have HR : Hid (p = r + 16) := Lib.hid hr
  clear hr hp hp2 hs hv hls
  have HW : Hid (w.heap.size ≤ w.heap.size) := Lib.hid (Nat.le_refl _)
  gi_wp2_with fail
  refine ⟨trivial, ?_⟩
  refine (callsIn_wide.2 (cuts_any v p _)).mono ?_
  rintro e w1 ⟨rfl, rfl⟩
  have b1 := ((Boxed.new w 42 (.slice none 0 0)).alloc (.cells #[.string v] 9)).alloc (.cells #[.int .i64 p] 3)
  have b2 := (Boxed.new (w.alloc (.cells #[.slice none 0 0] 42)) 9 (.string v)).alloc (.cells #[.int .i64 p] 3)
  have b3 := Boxed.new ((w.alloc (.cells #[.slice none 0 0] 42)).alloc (.cells #[.string v] 9)) 3 (.int .i64 p)
  have hB0 : Below w.heap.size w (((w.alloc (.cells #[.slice none 0 0] 42)).alloc (.cells #[.string v] 9)).alloc (.cells #[.int .i64 p] 3)) := ((L5.below_alloc _ _).trans' (L5.below_alloc _ _)).trans' (L5.below_alloc _ _)
  have HSZ : Hid ((((w.alloc (.cells #[.slice none 0 0] 42)).alloc (.cells #[.string v] 9)).alloc (.cells #[.int .i64 p] 3)).heap.size = w.heap.size + 3) := Lib.hid (by simp)
  gi_wp2_with fail
  simp only [World.size_alloc] at b1 b2 b3 hB0 ⊢
  obtain ⟨W0, hW0⟩ : ∃ W0, ((w.alloc (.cells #[.slice none 0 0] 42)).alloc (.cells #[.string v] 9)).alloc (.cells #[.int .i64 p] 3) = W0 := ⟨_, rfl⟩
  rw [hW0] at b1 b2 b3 hB0 HSZ ⊢
  clear hW0
  have hsz := HSZ.out
  have hST := HST.out W0 hB0 b3 b2 ⟨_, _, _, b1⟩ (fun k ⟨a, n, c, h1, _⟩ => by rw [b1.cell] at h1; cases h1) (by omega) (by omega)
  clear HST
  generalize hX : w.heap.size = X at *
  refine wpIn_rangeFunc_ownH rfl (by omega) (gf := 44) (lb := #[.pointer (some ⟨X + 1 + 1, 0, none⟩), .pointer (some ⟨X + 1, 0, none⟩)]) rfl trivial (enters_of Tryd.func44 (by kernel_rfl) rfl)
    hST (fun h k => h.trans k) (kpR_b _) (Below.refl _ _) (fun x => rfl)
    (fun (pre : List (Pl (pages v.size r))) W => (∃ v', Boxed W X 42 v' ∧ W.ownsRow X 9 1 v' pre.length (toldP v r pre) ∧ True) ∧ Below X w W)
    (fun c (pre : List (Pl (pages v.size r))) W => False)
    (OwnFrom.and (Own.from (holdsRow_own X X 42 9 1 (fun pre : List (Pl (pages v.size r)) => pre.length) (fun pre => toldP v r pre) (fun _ _ => True)) _) (ownFrom_below (by omega) (by omega)))
    (fun c x Y Z row hs hg hr => hs)
    ⟨⟨_, b1, World.ownsRow_nil _ _ _ _, trivial⟩, hB0⟩
    (fun x a' W => a' = { tmps := #[.string v, .int .i64 p, undef, undef, .slice none 0 0, .pointer (some ⟨X, 0, none⟩), .string (CP.part v r x.1), .string v, .int .i64 p, .func (.func 44) #[] #[.pointer (some ⟨X + 1 + 1, 0, none⟩), .pointer (some ⟨X + 1, 0, none⟩)], .string (CP.part v r x.1), undef, undef, undef, undef, undef, undef], defers := [] })
    (fun x a' _ Y Z row hs hg hr => hs)
    ?assign ?body ?done ?stop
  case assign =>
    rintro l pre x W K ⟨⟨v', hv, hrow, _⟩, hB⟩ hK
    simp only [paVals]
    gi_wp2
    exact hK _ _ (KeepsFrom.refl _ _) (KpR.refl _ _) ⟨⟨v', hv, hrow, trivial⟩, hB⟩ rfl
  case stop =>
    rintro D c pre W hD _ hf hK
    exact hf.elim
  case body =>
    rintro l pre x a' W hl ⟨rr, hr⟩ ⟨⟨v', hv, hrow, _⟩, hB⟩ rfl hlt
    have HB := Lib.hid hB
    have HV := Lib.hid hv
    have HRW := Lib.hid hrow
    have HSNOC := Lib.hid (toldP_snoc v r pre x)
    have HLEN : Hid ((pre ++ [x]).length = pre.length + 1) := Lib.hid (by simp)
    have HPC1 := Lib.hid (HPC.out x.1)
    have hplen : pre.length ≤ 1000002 := by have := HFEW.out; have := HV0.out; omega
    obtain ⟨i, hi⟩ := x
    simp only at HPC1 HSNOC ⊢
    generalize CP.part v r i = pt at *
    have c0 := hv.cell
    clear hv hrow hB hlt hr HPC HPS b1 b2 b3 hB0 hST
    gi_wp2_with fail
    refine wpIn_region_held (S := fun _ => True) (by kernel_rfl) (by kernel_rfl) ?nolets trivial (fun _ => ?_)
    case nolets => rintro ⟨a0, w0, h0⟩; exact h0
    refine take_op (i := 1) (d := some 12) (v := ?_) rfl rfl (by kernel_rfl) (by kernel_rfl) (by kernel_rfl) (fun _ _ _ h => h) (Or.inl ⟨by kernel_rfl, ?_⟩) trivial ?_
    rotate_left
    · intro V hSw; go_simp; (first | done | with_reducible rfl)
    try simp only [Act.put, List.setIfInBounds_toArray, List.set_cons_zero, List.set_cons_succ]
    refine wpAnyH_ready (rs := [0, 2]) (by kernel_rfl) (by simp) (AllReadyH.cons rfl (fun QQ hK => ?_) (AllReadyH.cons rfl (fun QQ hK => ?_) AllReadyH.nil))
    · go_simp
      refine hK.out _ _ trivial (fun _ => ?_)
      clear hK QQ
      try simp only [Act.put, List.setIfInBounds_toArray, List.set_cons_zero, List.set_cons_succ]
      refine wpAnyH_ready (rs := [2]) (by kernel_rfl) (by simp) (AllReadyH.cons rfl (fun QQ hK => ?_) AllReadyH.nil)
      go_simp
      refine (HPC1.out _).mono ?_
      rintro e V ⟨rfl, hbV⟩
      have HWV := Lib.hid ((L5.below_drewN (Below.refl _ W) 1).trans' hbV)
      have HVV := Lib.hid (HV.out.kept (row := none) ⟨HWV.out.os, HWV.out.tape, HWV.out.output, HWV.out.size, fun k hk _ => HWV.out.block k hk⟩ (by simp))
      have HRV := Lib.hid (L5.own_below HRW.out HWV.out)
      have cV := HVV.out.cell
      have cVA := (HVV.out.alloc (.cells #[.string pt] 9)).cell
      have hXV : X < V.heap.size := HVV.out.lt
      clear hbV
      go_wp2_with fail
      refine hK.out _ _ trivial (fun _ => ?_)
      clear hK QQ
      try simp only [Act.put, List.setIfInBounds_toArray, List.set_cons_zero, List.set_cons_succ]
      refine wpAnyH_ready (rs := [3]) (by kernel_rfl) (by simp) (AllReadyH.cons rfl (fun QQ hK => ?_) AllReadyH.nil)
      go_simp
      refine hK.out _ _ trivial (fun _ => ?_)
      clear hK QQ
      try simp only [Act.put, List.setIfInBounds_toArray, List.set_cons_zero, List.set_cons_succ]
      refine wpAnyH_ready (rs := [4]) (by kernel_rfl) (by simp) (AllReadyH.cons rfl (fun QQ hK => ?_) AllReadyH.nil)
      refine step_append_lies _ rfl _ _ 42 rfl X 9 i0 (.string ⟨#[]⟩) 1 16 Tryd.underlying42 hi0 hz0 hz1 hz2 rfl (by decide) v' pre.length _ rfl (HRV.out.alloc _) ⟨V.heap.size, 0, none⟩ 1 1 [.string pt] rfl rfl (World.news_of_block (cs := #[.string pt]) (t := 9) (fr := (0, 0)) (heap_alloc_new V _)) (L5.str_one _) (by omega) (by unfold maxLen; omega) (by omega) (by simp; omega) (V.heap.size + 1) (by simp) ?_
      intro g' cap' w1 hown' hgrow hat hlt1
      obtain ⟨hv1, hv2, hr2, hk2, hb2⟩ := HVV.out.appended (by decide) HRV.out (by omega) (Nat.le_refl _) hown' hgrow
      have hc1 := hv1.cell
      have hf1 := hv1.frozen
      refine hK.out _ _ trivial (fun _ => ?_)
      clear hK QQ
      try simp only [Act.put, List.setIfInBounds_toArray, List.set_cons_zero, List.set_cons_succ]
      refine wpAnyH_ready (rs := [5]) (by kernel_rfl) (by simp) (AllReadyH.cons rfl (fun QQ hK => ?_) AllReadyH.nil)
      go_simp
      refine hK.out _ _ trivial (fun _ => ?_)
      clear hK QQ
      try simp only [Act.put, List.setIfInBounds_toArray, List.set_cons_zero, List.set_cons_succ]
      refine wpAnyH_done (by kernel_rfl) ?_ _
      have HKF : Hid (KeepsFrom W0.heap.size W V) := Lib.hid (KeepsFrom.of_grownBy (row := none) ⟨HWV.out.os, HWV.out.tape, HWV.out.output, HWV.out.size, fun k hk _ => HWV.out.block k hk⟩ (fun j h => by cases h))
      refine ⟨HKF.out.trans (hk2.from _), (KpR.of_below HWV.out).trans (kpR_append HVV.out HRV.out hgrow hat hv2), ⟨⟨_, hv2, ?_, trivial⟩, ?_⟩⟩
      · rw [HLEN.out, HSNOC.out]
        exact hr2
      · exact (HB.out.trans (HWV.out.mono (by have := HB.out.size; omega))).trans (hb2.mono (by omega))
    · go_simp
      refine (HPC1.out _).mono ?_
      rintro e V ⟨rfl, hbV⟩
      have HWV := Lib.hid ((L5.below_drewN (Below.refl _ W) 1).trans' hbV)
      have HVV := Lib.hid (HV.out.kept (row := none) ⟨HWV.out.os, HWV.out.tape, HWV.out.output, HWV.out.size, fun k hk _ => HWV.out.block k hk⟩ (by simp))
      have HRV := Lib.hid (L5.own_below HRW.out HWV.out)
      have cV := HVV.out.cell
      have cVA := (HVV.out.alloc (.cells #[.string pt] 9)).cell
      have hXV : X < V.heap.size := HVV.out.lt
      clear hbV
      go_wp2_with fail
      refine hK.out _ _ trivial (fun _ => ?_)
      clear hK QQ
      try simp only [Act.put, List.setIfInBounds_toArray, List.set_cons_zero, List.set_cons_succ]
      refine wpAnyH_ready (rs := [0, 3]) (by kernel_rfl) (by simp) (AllReadyH.cons rfl (fun QQ hK => ?_) (AllReadyH.cons rfl (fun QQ hK => ?_) AllReadyH.nil))
      · go_simp
        refine hK.out _ _ trivial (fun _ => ?_)
        clear hK QQ
        try simp only [Act.put, List.setIfInBounds_toArray, List.set_cons_zero, List.set_cons_succ]
        refine wpAnyH_ready (rs := [3]) (by kernel_rfl) (by simp) (AllReadyH.cons rfl (fun QQ hK => ?_) AllReadyH.nil)
        go_simp
        refine hK.out _ _ trivial (fun _ => ?_)
        clear hK QQ
        try simp only [Act.put, List.setIfInBounds_toArray, List.set_cons_zero, List.set_cons_succ]
        refine wpAnyH_ready (rs := [4]) (by kernel_rfl) (by simp) (AllReadyH.cons rfl (fun QQ hK => ?_) AllReadyH.nil)
        refine step_append_lies _ rfl _ _ 42 rfl X 9 i0 (.string ⟨#[]⟩) 1 16 Tryd.underlying42 hi0 hz0 hz1 hz2 rfl (by decide) v' pre.length _ rfl (HRV.out.alloc _) ⟨V.heap.size, 0, none⟩ 1 1 [.string pt] rfl rfl (World.news_of_block (cs := #[.string pt]) (t := 9) (fr := (0, 0)) (heap_alloc_new V _)) (L5.str_one _) (by omega) (by unfold maxLen; omega) (by omega) (by simp; omega) (V.heap.size + 1) (by simp) ?_
        intro g' cap' w1 hown' hgrow hat hlt1
        obtain ⟨hv1, hv2, hr2, hk2, hb2⟩ := HVV.out.appended (by decide) HRV.out (by omega) (Nat.le_refl _) hown' hgrow
        have hc1 := hv1.cell
        have hf1 := hv1.frozen
        refine hK.out _ _ trivial (fun _ => ?_)
        clear hK QQ
        try simp only [Act.put, List.setIfInBounds_toArray, List.set_cons_zero, List.set_cons_succ]
        refine wpAnyH_ready (rs := [5]) (by kernel_rfl) (by simp) (AllReadyH.cons rfl (fun QQ hK => ?_) AllReadyH.nil)
        go_simp
        refine hK.out _ _ trivial (fun _ => ?_)
        clear hK QQ
        try simp only [Act.put, List.setIfInBounds_toArray, List.set_cons_zero, List.set_cons_succ]
        refine wpAnyH_done (by kernel_rfl) ?_ _
        have HKF : Hid (KeepsFrom W0.heap.size W V) := Lib.hid (KeepsFrom.of_grownBy (row := none) ⟨HWV.out.os, HWV.out.tape, HWV.out.output, HWV.out.size, fun k hk _ => HWV.out.block k hk⟩ (fun j h => by cases h))
        refine ⟨HKF.out.trans (hk2.from _), (KpR.of_below HWV.out).trans (kpR_append HVV.out HRV.out hgrow hat hv2), ⟨⟨_, hv2, ?_, trivial⟩, ?_⟩⟩
        · rw [HLEN.out, HSNOC.out]
          exact hr2
        · exact (HB.out.trans (HWV.out.mono (by have := HB.out.size; omega))).trans (hb2.mono (by omega))
      · go_simp
        refine hK.out _ _ trivial (fun _ => ?_)
        clear hK QQ
        try simp only [Act.put, List.setIfInBounds_toArray, List.set_cons_zero, List.set_cons_succ]
        refine wpAnyH_ready (rs := [0]) (by kernel_rfl) (by simp) (AllReadyH.cons rfl (fun QQ hK => ?_) AllReadyH.nil)
        go_simp
        refine hK.out _ _ trivial (fun _ => ?_)
        clear hK QQ
        try simp only [Act.put, List.setIfInBounds_toArray, List.set_cons_zero, List.set_cons_succ]
        refine wpAnyH_ready (rs := [4]) (by kernel_rfl) (by simp) (AllReadyH.cons rfl (fun QQ hK => ?_) AllReadyH.nil)
        refine step_append_lies _ rfl _ _ 42 rfl X 9 i0 (.string ⟨#[]⟩) 1 16 Tryd.underlying42 hi0 hz0 hz1 hz2 rfl (by decide) v' pre.length _ rfl (HRV.out.alloc _) ⟨V.heap.size, 0, none⟩ 1 1 [.string pt] rfl rfl (World.news_of_block (cs := #[.string pt]) (t := 9) (fr := (0, 0)) (heap_alloc_new V _)) (L5.str_one _) (by omega) (by unfold maxLen; omega) (by omega) (by simp; omega) (V.heap.size + 1) (by simp) ?_
        intro g' cap' w1 hown' hgrow hat hlt1
        obtain ⟨hv1, hv2, hr2, hk2, hb2⟩ := HVV.out.appended (by decide) HRV.out (by omega) (Nat.le_refl _) hown' hgrow
        have hc1 := hv1.cell
        have hf1 := hv1.frozen
        refine hK.out _ _ trivial (fun _ => ?_)
        clear hK QQ
        try simp only [Act.put, List.setIfInBounds_toArray, List.set_cons_zero, List.set_cons_succ]
        refine wpAnyH_ready (rs := [5]) (by kernel_rfl) (by simp) (AllReadyH.cons rfl (fun QQ hK => ?_) AllReadyH.nil)
        go_simp
        refine hK.out _ _ trivial (fun _ => ?_)
        clear hK QQ
        try simp only [Act.put, List.setIfInBounds_toArray, List.set_cons_zero, List.set_cons_succ]
        refine wpAnyH_done (by kernel_rfl) ?_ _
        have HKF : Hid (KeepsFrom W0.heap.size W V) := Lib.hid (KeepsFrom.of_grownBy (row := none) ⟨HWV.out.os, HWV.out.tape, HWV.out.output, HWV.out.size, fun k hk _ => HWV.out.block k hk⟩ (fun j h => by cases h))
        refine ⟨HKF.out.trans (hk2.from _), (KpR.of_below HWV.out).trans (kpR_append HVV.out HRV.out hgrow hat hv2), ⟨⟨_, hv2, ?_, trivial⟩, ?_⟩⟩
        · rw [HLEN.out, HSNOC.out]
          exact hr2
        · exact (HB.out.trans (HWV.out.mono (by have := HB.out.size; omega))).trans (hb2.mono (by omega))
  case done =>
    rintro D xs W hD hall ⟨⟨v', hv, hrow, _⟩, hB⟩ hK
    have hlen : xs.length = pages v.size r := by
      have := congrArg List.length hall
      simpa using this
    rw [toldP_all v r hall, hlen] at hrow
    have HRW := Lib.hid hrow
    have HB := Lib.hid hB
    have HKD := Lib.hid hK
    have c0 := hv.cell
    obtain ⟨A, cp, hsl⟩ : ∃ A cp, v' = .slice A (pages v.size r) cp := by
      exact own_slice hrow
    subst hsl
    clear hall hlen hrow hB hK hv
    gi_wp2_with fail
    have hD1 : (W.heap[D]?) = some (.deferred (some [])) := HKD.out
    refine ⟨by simp, .inl ⟨_, _, rfl, run_takeDeferred hD1, ?_⟩⟩
    refine ⟨.slice A (pages v.size r) cp, by simp [results, Tryd.results20, go_sem], A, cp, rfl, ?_, ?_⟩
    · exact L5.lies_own (ownsRow_putObj HRW.out _ hD1 rfl) (by rw [cuts_length])
    · rw [hX]
      exact HB.out.trans (belowK_b (w := w) (by omega) W D _ _ (by omega) hD1 rfl rfl)
end Go.Proofs.YtahkigabapdleaaDoor
