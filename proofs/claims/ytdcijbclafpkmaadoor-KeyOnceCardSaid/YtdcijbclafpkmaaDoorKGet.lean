/-
  Walks of key.columns, key.Get.
-/
import Derived.RangeFuncWrites
import Derived.Test.YtdcijbclafpkmaaDoorKIter
namespace Go.Proofs.YtdcijbclafpkmaaDoor
open Go.RowKit
set_option linter.unusedVariables false
set_option linter.unusedSimpArgs false
attribute [local go_sem] Oper.semAt_some

theorem columns_any (s : ByteArray) (w : World) : Calls Tryd.prog 26 #[.string s] w fun e w' => e = .returned (.func (.func 36) #[] #[.pointer (some ⟨w.heap.size, 0, none⟩)]) ∧ w' = w.alloc (.cells #[.string s] 9) := by
  have hmf : ∀ (fn : Fn) (first cap : Array Value) (w : World), (Instr.makeFunc fn first cap).run Tryd.prog w = .ok (.func fn first cap) w := fun _ _ _ _ => rfl
  go_enter Tryd.func26, Tryd.ntmps26
  go_wp2
  go_ret
  exact ⟨rfl, rfl⟩

theorem columns_stops (n : Nat) (hn : 1 ≤ n) (Bs : Nat) (s : ByteArray) (hs : s.size ≤ 1000000) (w : World) (hB : Boxed w Bs 9 (.string s)) :
    SeqStopsK Fence.wide n Tryd.prog 36 #[.pointer (some ⟨Bs, 0, none⟩)] toldVals (KeepsBox Bs s) (AllTold s) (SomeTold s) (s.size + 1) w := fun l J Jx W hW hJ hJx hY h0 =>
  columns1_in n hn l Bs s hs J Jx W hJ hJx hY ((hW.block Bs hB.lt).trans hB) h0
theorem keepsBox_b {w : World} (Bs : Nat) (s : ByteArray) (W : World) (l : Nat) (o o' : Obj) (_ : w.heap.size ≤ l) (h : W.heap[l]? = some o) (ho : o.isCells = false) (_ : o.isWalk = false) : KeepsBox Bs s W (W.putObj l o') := fun hb => by
  have hne : Bs ≠ l := fun e => by
    subst e
    unfold Boxed at hb
    rw [hb] at h
    cases h
    cases ho
  exact (World.putObj_heap_other hne).trans hb

def toldQ : Told → QC
  | .inl c => c
  | .inr _ => ⟨0, 0, 0, ⟨#[]⟩⟩
def toldEv : Told → Value
  | .inl _ => .nilIface
  | .inr e => .iface 84 (.agg #[.int .i64 e])

/-- The columns among what was told. -/
def colsIn : List Told → List QC
  | [] => []
  | .inl c :: l => c :: colsIn l
  | .inr _ :: l => colsIn l
theorem colsIn_snoc (l : List Told) (c : QC) : colsIn (l ++ [.inl c]) = colsIn l ++ [c] := by
  induction l with
  | nil => rfl
  | cons x l ih => cases x <;> simp [colsIn, ih]
theorem number_any (e : Int) (w : World) : Calls Tryd.prog 120 #[.agg #[.int .i64 e]] w fun r w' => r = .returned (.int .i64 e) ∧ Below w.heap.size w w' := by
  go_enter Tryd.func120, Tryd.ntmps120
  go_wp2
  go_ret
  exact ⟨rfl, by first | exact Below.refl _ _ | exact below_alloc _ _⟩
theorem ask_nil (W : World) : (Instr.typeAssert .nilIface 61 63 true).run Tryd.prog W = .ok (.tuple #[.nilIface, .bool false]) W := by kernel_rfl
theorem ask_fault (e : Int) (W : World) : (Instr.typeAssert (.iface 84 (.agg #[.int .i64 e])) 61 63 true).run Tryd.prog W = .ok (.tuple #[.iface 84 (.agg #[.int .i64 e]), .bool true]) W := by kernel_rfl
theorem its_number (N : Nat) (e : Int) (W : World) : (method (N + 1) 84 (.agg #[.int .i64 e]) "withy/key.number").run Tryd.prog W = .ok (120, .agg #[.int .i64 e]) W := by kernel_rfl
theorem Tryd.infoCol : (Tryd.prog.info? 51).map (fun i => (i.zero, i.size, i.bytes)) = some (some (.agg #[.int .i64 0, .int .i64 0, .int .u64 0, .string ⟨#[]⟩]), 4, 40) := by kernel_rfl
/-- A box of another type, through an append onto a row of columns and the store into that row's box. -/
theorem boxed_through {W w1 : World} {n₀ Q g : Nat} {t : TypeId} {u v v' : Value} {k : Nat} {xs : List Value} {tmp : Obj} (hb : Boxed W Q t u) (ht : t ≠ 51) (hQ : Q ≠ g) (hrow : W.ownsRow n₀ 51 4 v k xs) (hgrow : (W.alloc tmp).grownBy w1 v.ownBlock) :
    Boxed (w1.setCell ⟨g, 0, none⟩ v') Q t u :=
  ((hb.alloc tmp).kept hgrow (hb.not_row ht hrow)).other hQ _

set_option maxRecDepth 100000 in
set_option maxHeartbeats 4000000 in
theorem keyGet_any (s : ByteArray) (hs : s.size ≤ 1200) (w : World) :
    Calls Tryd.prog 13 #[.string s] w fun e w' => ∃ v cs, e = .returned (.tuple #[v, .int .i64 (KP.get s.data.toList).2]) ∧ cols cs = (KP.get s.data.toList).1 ∧ w'.ownsRow w.heap.size 51 4 v cs.length (fours cs) ∧ Below w.heap.size w w' := by
  obtain ⟨i0, hi, hz0, hz1, hz2⟩ := info_parts Tryd.infoCol
  refine (callsIn_wide (n := 5)).1 ?_
  refine callsIn_of_wp_marks Tryd.func13 rfl trivial ?_ rfl
  simp only [Tryd.ntmps13, List.size_toArray, List.length_cons, List.length_nil, Nat.reduceAdd, Nat.reduceSub, Array.replicate_succ, Array.replicate_zero, List.push_toArray, List.append_toArray, List.nil_append, List.cons_append]
  gi_wp2_with fail
  refine ⟨trivial, ?_⟩
  refine (callsIn_wide.2 (columns_any s _)).mono ?_
  rintro e w1 ⟨rfl, rfl⟩
  gi_wp2_with fail
  have b0 := (((Boxed.new w 22 (.slice none 0 0)).alloc (.cells #[.int .i64 0] 26)).alloc (.cells #[.slice none 0 0] 22)).alloc (.cells #[.string s] 9)
  have b1 := ((Boxed.new (w.alloc (.cells #[.slice none 0 0] 22)) 26 (.int .i64 0)).alloc (.cells #[.slice none 0 0] 22)).alloc (.cells #[.string s] 9)
  have b2 := (Boxed.new ((w.alloc (.cells #[.slice none 0 0] 22)).alloc (.cells #[.int .i64 0] 26)) 22 (.slice none 0 0)).alloc (.cells #[.string s] 9)
  have b3 := Boxed.new (((w.alloc (.cells #[.slice none 0 0] 22)).alloc (.cells #[.int .i64 0] 26)).alloc (.cells #[.slice none 0 0] 22)) 9 (.string s)
  simp only [World.size_alloc] at b1 b2 b3
  have hB0 : Below w.heap.size w ((((w.alloc (.cells #[.slice none 0 0] 22)).alloc (.cells #[.int .i64 0] 26)).alloc (.cells #[.slice none 0 0] 22)).alloc (.cells #[.string s] 9)) := (below_alloc2 _ _ _).trans' (below_alloc2 _ _ _)
  have hsz : ((((w.alloc (.cells #[.slice none 0 0] 22)).alloc (.cells #[.int .i64 0] 26)).alloc (.cells #[.slice none 0 0] 22)).alloc (.cells #[.string s] 9)).heap.size = w.heap.size + 4 := by simp
  obtain ⟨W0, hW0⟩ : ∃ W0, (((w.alloc (.cells #[.slice none 0 0] 22)).alloc (.cells #[.int .i64 0] 26)).alloc (.cells #[.slice none 0 0] 22)).alloc (.cells #[.string s] 9) = W0 := ⟨_, rfl⟩
  rw [hW0] at b0 b1 b2 b3 hB0 hsz ⊢
  clear hW0
  refine wpIn_rangeFunc_ownH rfl (by omega) (gf := 36) (lb := #[.pointer (some ⟨w.heap.size + 1 + 1 + 1, 0, none⟩)]) rfl trivial (enters_of Tryd.func36 (by kernel_rfl) rfl)
    (columns_stops _ (by omega) (w.heap.size + 1 + 1 + 1) s (by omega) W0 b3) (fun h k b => k (h b)) (keepsBox_b _ _) (Below.refl _ _) (fun x => by cases x <;> rfl)
    (fun pre W => (∃ v, Boxed W (w.heap.size + 1 + 1) 22 v ∧ W.ownsRow w.heap.size 51 4 v (colsIn pre).length (fours (colsIn pre)) ∧ pre = (colsIn pre).map .inl) ∧ Boxed W w.heap.size 22 (.slice none 0 0) ∧ Boxed W (w.heap.size + 1) 26 (.int .i64 0) ∧ Below w.heap.size w W)
    (fun c pre W => (∃ (ys : List Told) (e : Nat), ((c = .ret ∧ pre = ys ++ [.inr e]) ∧ Boxed W (w.heap.size + 1) 26 (.int .i64 e)) ∧ Boxed W w.heap.size 22 (.slice none 0 0)) ∧ Below w.heap.size w W)
    (OwnFrom.and (Own.from (holdsRow_own w.heap.size (w.heap.size + 1 + 1) 22 51 4 (fun pre => (colsIn pre).length) (fun pre => fours (colsIn pre)) (fun pre _ => pre = (colsIn pre).map .inl)) _)
      (OwnFrom.and (Own.from (boxed_own _ _ _) _) (OwnFrom.and (Own.from (boxed_own _ _ _) _) (ownFrom_below (Nat.le_refl _) (by omega)))))
    (fun c => OwnFrom.and (fun x X Y row hs hg hr => by
      obtain ⟨ys, e, ⟨h1, h2⟩, h3⟩ := hs
      exact ⟨ys, e, ⟨h1, boxed_own _ _ (fun (_ : Unit) => Value.int .i64 e) () X Y row h2 hg (fun r e => (hr r e).2)⟩, boxed_own _ _ (fun (_ : Unit) => Value.slice none 0 0) () X Y row h3 hg (fun r e => (hr r e).2)⟩) (ownFrom_below (Nat.le_refl _) (by omega)))
    ⟨⟨_, b2, World.ownsRow_nil _ _ _ _, rfl⟩, b0, b1, hB0⟩
    (fun x a' W => ∃ Bx, Box Bx (toldQ x).k (toldQ x).i (toldQ x).u (toldQ x).s W ∧ a' = { tmps := #[.string s, undef, .pointer (some ⟨w.heap.size, 0, none⟩), .pointer (some ⟨w.heap.size + 1, 0, none⟩), .pointer (some ⟨w.heap.size + 1 + 1, 0, none⟩), .pointer (some ⟨Bx, 0, none⟩), toldEv x, undef, undef, .string s, .func (.func 36) #[] #[.pointer (some ⟨w.heap.size + 1 + 1 + 1, 0, none⟩)], (toldQ x).val, toldEv x, undef, undef, undef, undef, undef, undef, undef, undef, undef, undef, undef, undef, undef], defers := [] })
    (fun x a' _ X Y row hs hg hr => by
      obtain ⟨Bx, h2, h3⟩ := hs
      refine ⟨Bx, (hg.block Bx (lt_of_heap h2) (fun e => ?_)).trans h2, h3⟩
      obtain ⟨_, o, ho, hc⟩ := hr Bx e.symm
      unfold Box at h2
      rw [h2] at ho
      cases ho
      cases hc)
    ?assign ?body ?done ?stop
  case assign =>
    rintro l pre x W K ⟨⟨v, hv, hrow, hp⟩, hb0, hb1, hB⟩ hK
    cases x with
    | inl c =>
      obtain ⟨K1, I1, U1, S1⟩ := c
      simp only [toldVals, QC.val]
      gi_wp2
      exact hK _ _ ((KeepsOthers.alloc _ _).from _) (fun b => b.alloc _) ⟨⟨v, hv.alloc _, hrow.alloc _, hp⟩, hb0.alloc _, hb1.alloc _, hB.alloc hB.size _⟩ ⟨W.heap.size, Box.new K1 I1 U1 S1 W, rfl⟩
    | inr e =>
      simp only [toldVals]
      gi_wp2
      exact hK _ _ ((KeepsOthers.alloc _ _).from _) (fun b => b.alloc _) ⟨⟨v, hv.alloc _, hrow.alloc _, hp⟩, hb0.alloc _, hb1.alloc _, hB.alloc hB.size _⟩ ⟨W.heap.size, Box.new 0 0 0 ⟨#[]⟩ W, rfl⟩
  case body =>
    rintro l pre x a' W hl ⟨r, hr⟩ ⟨⟨v, hv, hrow, hp⟩, hb0, hb1, hB⟩ ⟨Bx, bX, rfl⟩ hlt
    have hsW := hB.size
    have cv := hv.cell
    have ha1 := ask_nil W
    have HP := Lib.hid hp
    have hcl : (colsIn pre).length ≤ 1201 := by
      have h1 : pre.length = ((colsIn pre).map (Sum.inl : QC → Told)).length := by rw [← hp]
      simp at h1
      omega
    clear hp
    cases x with
    | inl c =>
      obtain ⟨K1, I1, U1, S1⟩ := c
      simp only [toldEv, toldQ, QC.val] at bX ⊢
      obtain ⟨c0, c1, c2, c3⟩ := bX.cells
      gi_wp2_with (gi_at_builtin; refine wpListIn_append_own _ rfl _ _ 22 rfl w.heap.size 51 i0 (.agg #[.int .i64 0, .int .i64 0, .int .u64 0, .string ⟨#[]⟩]) 4 40 Tryd.underlying22 hi hz0 hz1 hz2 rfl (by decide) _ _ _ rfl (hrow.alloc _) ⟨W.heap.size, 0, none⟩ 1 1 [.int .i64 K1, .int .i64 I1, .int .u64 U1, .string S1] rfl rfl (World.news_of_block (cs := #[.int .i64 K1, .int .i64 I1, .int .u64 U1, .string S1]) (t := 51) (fr := (0, 0)) (heap_alloc_new W _)) (by simp [Value.oneCell']) (by unfold maxLen; omega) (by omega) (by simp; omega) ?_; intro v' w1 hown' hgrow _; obtain ⟨g', cap', rfl⟩ := ownsRow_succ hown'; obtain ⟨hv1, hv2, hr2, hk2, hb2⟩ := hv.appended (by decide) hrow hsW (by omega) hown' hgrow; have hc1 := hv1.cell; have hf1 := hv1.frozen)
      have hne : w.heap.size + 1 ≠ w.heap.size + 1 + 1 := by omega
      have hne0 : w.heap.size ≠ w.heap.size + 1 + 1 := by omega
      have hne3 : w.heap.size + 1 + 1 + 1 ≠ w.heap.size + 1 + 1 := by omega
      refine ⟨hk2.from _, fun b => boxed_through b (by decide) hne3 hrow hgrow, ⟨⟨_, hv2, ?_, ?_⟩, boxed_through hb0 (by decide) hne0 hrow hgrow, boxed_through hb1 (by decide) hne hrow hgrow, hB.trans hb2⟩⟩
      · rw [colsIn_snoc, fours_append, fours_one]
        simpa [QC.four] using hr2
      · rw [colsIn_snoc, List.map_append, ← HP.out]
        rfl
    | inr e =>
      simp only [toldEv, toldQ, QC.val] at bX ⊢
      have ha2 := ask_fault e W
      have hm := fun N => its_number N e W
      have hen := enters_of Tryd.func120 (by kernel_rfl) rfl
      gi_wp2_with fail
      refine ⟨trivial, ?_⟩
      refine (CallsIn.inRound l (callsIn_wide.2 (number_any e W))).mono ?_
      rintro r w1 ⟨rfl, hb1'⟩
      have d0 := boxed_below hb0 hb1'
      have d1 := boxed_below hb1 hb1'
      have e0 := d0.cell
      have e1 := d1.cell
      have g0 := d0.frozen
      have g1 := d1.frozen
      have hB1 := hB.trans' hb1'
      have hne : w.heap.size + 1 ≠ w.heap.size := by omega
      have hne0 : w.heap.size ≠ w.heap.size + 1 := by omega
      clear hm hen ha2 ha1
      gi_wp2_with fail
      refine ⟨((KeepsFrom.of_grownBy (row := none) ⟨hb1'.os, hb1'.tape, hb1'.output, hb1'.size, fun k hk _ => hb1'.block k hk⟩ (fun j h => by cases h)).trans ((KeepsOthers.setCell _ _ _).from _)).trans ((KeepsOthers.setCell _ _ _).from _), ?_⟩
      exact ⟨⟨pre, e, ⟨⟨rfl, rfl⟩, (d1.other hne _).set _⟩, (d0.set _).other hne0 _⟩, (hB1.setCell (p := ⟨w.heap.size, 0, none⟩) (Nat.le_refl _) _).setCell (p := ⟨w.heap.size + 1, 0, none⟩) (Nat.le_succ _) _⟩
  case done =>
    rintro D xs W hD hall ⟨⟨v, hv, hrow, hp⟩, hb0, hb1, hB⟩ hK
    have HP := Lib.hid hp
    clear hp
    obtain ⟨ao, n', cap, rfl⟩ : ∃ ao n' cap, v = .slice ao n' cap := by
      rcases Joins.ownsRow_forms hrow with ⟨h, _⟩ | ⟨g, cap, h⟩ <;> exact ⟨_, _, _, h⟩
    have cv := hv.cell
    have c0 := hb0.cell
    have c1 := hb1.cell
    have f0 := hb0.frozen
    have f1 := hb1.frozen
    have hne : w.heap.size + 1 ≠ w.heap.size := by omega
    have hne0 : w.heap.size ≠ w.heap.size + 1 := by omega
    have HALL := Lib.hid (hall (colsIn xs) HP.out)
    gi_wp2
    have d0 := (hb0.set (.slice ao n' cap)).other hne0 (.int .i64 0)
    have d1 := (hb1.other hne (.slice ao n' cap)).set (.int .i64 0)
    have hK' := ((KeepsOthers.setCell W ⟨w.heap.size, 0, none⟩ (.slice ao n' cap)).trans (KeepsOthers.setCell _ ⟨w.heap.size + 1, 0, none⟩ (.int .i64 0))).same D _ hK rfl
    refine ⟨by simp, .inl ⟨_, _, rfl, run_takeDeferred hK', ?_⟩⟩
    have k0 := cell_kept d0.cell (grownBy_putObj' _ D (.deferred none)) (fun r e => by cases e; exact ⟨_, hK', rfl⟩)
    have k1 := cell_kept d1.cell (grownBy_putObj' _ D (.deferred none)) (fun r e => by cases e; exact ⟨_, hK', rfl⟩)
    refine ⟨.tuple #[.slice ao n' cap, .int .i64 0], by simp [results, Tryd.results13, go_sem, k0, k1], .slice ao n' cap, colsIn xs, by rw [HALL.out]; rfl, by rw [HALL.out], ?_, ?_⟩
    · refine ownsRow_putObj ?_ _ hK' rfl
      have hr1 := hrow.kept (grownBy_setCell' W w.heap.size (.slice ao n' cap)) (.inr (hb0.not_row (by decide) hrow).symm)
      exact hr1.kept (grownBy_setCell' _ (w.heap.size + 1) (.int .i64 0)) (.inr (((hb1.other hne (.slice ao n' cap))).not_row (by decide) hr1).symm)
    · exact ((hB.setCell (p := ⟨w.heap.size, 0, none⟩) (Nat.le_refl _) _).setCell (p := ⟨w.heap.size + 1, 0, none⟩) (Nat.le_succ _) _).trans (belowK_b (w := w) (Nat.le_refl _) _ D _ _ (by omega) hK' rfl rfl)
  case stop =>
    rintro D c pre W hD hsome ⟨⟨ys, e, ⟨⟨rfl, hpre⟩, hb1⟩, hb0⟩, hB⟩ hK
    obtain ⟨he, hget⟩ := hsome ys e hpre
    have HGET := Lib.hid hget
    clear hget hpre hsome
    gi_wp2
    refine ⟨by simp, .inl ⟨_, _, rfl, run_takeDeferred hK, ?_⟩⟩
    have k0 := cell_kept hb0.cell (grownBy_putObj' _ D (.deferred none)) (fun r e => by cases e; exact ⟨_, hK, rfl⟩)
    have k1 := cell_kept hb1.cell (grownBy_putObj' _ D (.deferred none)) (fun r e => by cases e; exact ⟨_, hK, rfl⟩)
    refine ⟨.tuple #[.slice none 0 0, .int .i64 e], by simp [results, Tryd.results13, go_sem, k0, k1], .slice none 0 0, [], by rw [HGET.out], by rw [HGET.out]; rfl, World.ownsRow_nil _ _ _ _, ?_⟩
    exact hB.trans (belowK_b (w := w) (Nat.le_refl _) W D _ _ (by omega) hK rfl rfl)
end Go.Proofs.YtdcijbclafpkmaaDoor
