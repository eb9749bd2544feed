/-
  The walks of inner.Ends and the document's Ends. Written by wip/gen_iendsf.py.
-/
import Derived.Test.YtembccehokodeaaGreatDoorJ05
namespace Go.Proofs.YtembccehokodeaaGreatDoor
open Go.RowKit IP
set_option linter.unusedVariables false
set_option linter.unusedSimpArgs false
attribute [local go_sem] Oper.semAt_some

/-- What Ends answers. -/
def endsV (low : ByteArray) (ss : List ByteArray) (H : ByteArray) (n m : Nat) (R i : Int) : Value :=
  if 0 ≤ i ∧ i < n then .tuple #[.string (loAt low ss i.toNat), .string (hiAt ss H i.toNat), .bool (doesAt m R i.toNat)] else .tuple #[.string ⟨#[]⟩, .string ⟨#[]⟩, .bool false]
def NotIn (i : Int) {n : Nat} (l : List (Pl n)) : Prop := ∀ x ∈ l, (x.1 : Int) ≠ i
theorem sbx_ne {g X : Nat} {lo hi : ByteArray} {d : Bool} {t : TypeId} {v : Value} {W : World} (h : SBx g lo hi d W) (k : Boxed W X t v) (ht : t ≠ 87) : g ≠ X := fun e => by
  subst e
  unfold SBx at h
  rw [k] at h
  injection h with h
  injection h with _ h2
  exact ht h2
theorem no_rowB {X : Nat} {t : TypeId} {b : Bool} {W : World} (h : Boxed W X t (.bool b)) : ∀ k, ¬ RowAt X W k := fun k ⟨a, n, c, h1, _⟩ => by
  rw [h.cell] at h1
  cases h1

set_option maxRecDepth 100000 in
set_option maxHeartbeats 4000000 in
theorem endsC_any (F L R : Int) (H : ByteArray) (A : Option Addr) (n ca : Nat) (C : Option Addr) (m cb : Nat) (ss : List ByteArray) (low : ByteArray) (i : Int) (w : World) (hc : L5.Lies w w.heap.size C ss) (hC : C = none → m = 0) (hn : n = m + 1) (hm : ss.length = m) (hcb : m ≤ cb) (hl : m ≤ 100000) (hs : ∀ s ∈ ss, s.size ≤ 1000000) (hH : H.size ≤ 1000000) (hlo : low.size ≤ 1000000) :
    Calls Tryz.prog 20 #[nv F L R H A n ca C m cb, .string low, .int .i64 i] w fun e w' => e = .returned (endsV low ss H n m R i) ∧ Below w.heap.size w w' := by
  obtain ⟨r, HR⟩ : ∃ r, Hid (r = endsV low ss H n m R i) := ⟨_, Lib.hid rfl⟩
  rw [← HR.out]
  have HLS : Hid (∀ k, (loAt low ss k).size ≤ 1000000) := Lib.hid (fun k => by
    cases k with
    | zero => exact hlo
    | succ j =>
      show (ss.getD j ⟨#[]⟩).size ≤ _
      rw [List.getD_eq_getElem?_getD]
      cases hj : ss[j]? with
      | none => exact Nat.zero_le _
      | some s => exact hs s (List.mem_of_getElem? hj))
  have HHS : Hid (∀ k, (hiAt ss H k).size ≤ 1000000) := Lib.hid (fun k => by
    unfold hiAt
    rw [List.getD_eq_getElem?_getD]
    cases hj : (ss ++ [H])[k]? with
    | none => exact Nat.zero_le _
    | some s =>
      rcases List.mem_append.1 (List.mem_of_getElem? hj) with h | h
      · exact hs s h
      · obtain rfl := List.mem_singleton.1 h
        exact hH)
  have HCL := Lib.hid (fun (s : ByteArray) (h : s.size ≤ 1000000) W => L5.clone_any s W h)
  have HC := Lib.hid hc
  have HCN := Lib.hid hC
  have HN := Lib.hid hn
  have HSL := Lib.hid hm
  clear hc hC hn hm hs hH hlo
  refine (callsIn_wide (n := 5)).1 ?_
  refine callsIn_of_wp_marks Tryz.func20 rfl trivial ?_ rfl
  simp only [Tryz.ntmps20, List.size_toArray, List.length_cons, List.length_nil, Nat.reduceAdd, Nat.reduceSub, Array.replicate_succ, Array.replicate_zero, List.push_toArray, List.append_toArray, List.nil_append, List.cons_append]
  gi_wp2_with fail
  refine ⟨trivial, ?_⟩
  refine (callsIn_wide.2 (spans_any F L R H A n ca C m cb low _)).mono ?_
  rintro e w1 ⟨rfl, rfl⟩
  obtain ⟨wa, hwa⟩ : ∃ wa, nbox 25 F L R H A n ca C m cb w = wa := ⟨_, rfl⟩
  have hza : wa.heap.size = w.heap.size + 1 := by rw [← hwa]; simp
  have hba : Below w.heap.size w wa := by rw [← hwa]; exact nbox_below _ _ _ _ _ _ _ _ _ _ _ _
  have b1 := ((((Boxed.new wa 3 (.int .i64 i)).alloc (.cells #[.string ⟨#[]⟩] 9)).alloc (.cells #[.string ⟨#[]⟩] 9)).alloc (.cells #[.bool false] 4)).alloc (.cells #[.int .i64 F, .int .i64 L, .int .i64 R, .string H, .slice A n ca, .slice C m cb] 25)
  have b1 := b1.alloc (.cells #[.string low] 9)
  have b2 := (((Boxed.new (wa.alloc (.cells #[.int .i64 i] 3)) 9 (.string ⟨#[]⟩)).alloc (.cells #[.string ⟨#[]⟩] 9)).alloc (.cells #[.bool false] 4)).alloc (.cells #[.int .i64 F, .int .i64 L, .int .i64 R, .string H, .slice A n ca, .slice C m cb] 25)
  have b2 := b2.alloc (.cells #[.string low] 9)
  have b3 := ((Boxed.new ((wa.alloc (.cells #[.int .i64 i] 3)).alloc (.cells #[.string ⟨#[]⟩] 9)) 9 (.string ⟨#[]⟩)).alloc (.cells #[.bool false] 4)).alloc (.cells #[.int .i64 F, .int .i64 L, .int .i64 R, .string H, .slice A n ca, .slice C m cb] 25)
  have b3 := b3.alloc (.cells #[.string low] 9)
  have b4 := (Boxed.new (((wa.alloc (.cells #[.int .i64 i] 3)).alloc (.cells #[.string ⟨#[]⟩] 9)).alloc (.cells #[.string ⟨#[]⟩] 9)) 4 (.bool false)).alloc (.cells #[.int .i64 F, .int .i64 L, .int .i64 R, .string H, .slice A n ca, .slice C m cb] 25)
  have b4 := b4.alloc (.cells #[.string low] 9)
  have b5 := (nbox_new 25 F L R H A n ca C m cb ((((wa.alloc (.cells #[.int .i64 i] 3)).alloc (.cells #[.string ⟨#[]⟩] 9)).alloc (.cells #[.string ⟨#[]⟩] 9)).alloc (.cells #[.bool false] 4))).below (L5.below_alloc _ (.cells #[.string low] 9))
  have b6 := Boxed.new (nbox 25 F L R H A n ca C m cb ((((wa.alloc (.cells #[.int .i64 i] 3)).alloc (.cells #[.string ⟨#[]⟩] 9)).alloc (.cells #[.string ⟨#[]⟩] 9)).alloc (.cells #[.bool false] 4))) 9 (.string low)
  have hB0 := (((((hba.trans' (L5.below_alloc _ (.cells #[.int .i64 i] 3))).trans' (L5.below_alloc _ (.cells #[.string ⟨#[]⟩] 9))).trans' (L5.below_alloc _ (.cells #[.string ⟨#[]⟩] 9))).trans' (L5.below_alloc _ (.cells #[.bool false] 4))).trans' (nbox_below 25 F L R H A n ca C m cb _)).trans' (L5.below_alloc _ (.cells #[.string low] 9))
  have HSZ : Hid (((nbox 25 F L R H A n ca C m cb ((((wa.alloc (.cells #[.int .i64 i] 3)).alloc (.cells #[.string ⟨#[]⟩] 9)).alloc (.cells #[.string ⟨#[]⟩] 9)).alloc (.cells #[.bool false] 4))).alloc (.cells #[.string low] 9)).heap.size = w.heap.size + 7) := Lib.hid (by simp [hza])
  gi_wp2_with fail
  simp only [nbox] at hwa HSZ
  try rw [hwa]
  simp only [World.size_alloc, nbox, hza] at b1 b2 b3 b4 b5 b6 hB0 ⊢
  obtain ⟨W0, hW0⟩ : ∃ W0, (((((wa.alloc (.cells #[.int .i64 i] 3)).alloc (.cells #[.string ⟨#[]⟩] 9)).alloc (.cells #[.string ⟨#[]⟩] 9)).alloc (.cells #[.bool false] 4)).alloc (.cells #[.int .i64 F, .int .i64 L, .int .i64 R, .string H, .slice A n ca, .slice C m cb] 25)).alloc (.cells #[.string low] 9) = W0 := ⟨_, rfl⟩
  rw [hW0] at b1 b2 b3 b4 b5 b6 hB0 HSZ ⊢
  clear hW0 hwa hba hza
  have hsz := HSZ.out
  refine wpIn_rangeFunc_ownH rfl (by omega) (gf := 79) (lb := #[.pointer (some ⟨w.heap.size + 1 + 1 + 1 + 1 + 1, 0, none⟩), .pointer (some ⟨w.heap.size + 1 + 1 + 1 + 1 + 1 + 1, 0, none⟩)]) rfl trivial (enters_of Tryz.func79 (by kernel_rfl) rfl)
    (spans_stops _ (by omega) (w.heap.size + 1 + 1 + 1 + 1 + 1) (w.heap.size + 1 + 1 + 1 + 1 + 1 + 1) (w.heap.size + 1 + 1 + 1 + 1) F L R H A n ca C m cb ss low HCN.out HN.out HSL.out hcb hl W0 b5 b6 (HC.out.on hB0) ⟨_, _, _, b4⟩ (no_rowB b4) (by omega)) (fun h k => h.trans k) (kpR_b _) (Below.refl _ _) (fun x => rfl)
    (fun (pre : List (Pl n)) W => NotIn i pre ∧ Boxed W (w.heap.size + 1) 3 (.int .i64 i) ∧ Boxed W (w.heap.size + 1 + 1) 9 (.string ⟨#[]⟩) ∧ Boxed W (w.heap.size + 1 + 1 + 1) 9 (.string ⟨#[]⟩) ∧ Boxed W (w.heap.size + 1 + 1 + 1 + 1) 4 (.bool false) ∧ Below w.heap.size w W)
    (fun c (pre : List (Pl n)) W => (c = .ret ∧ ∃ k : Nat, k < n ∧ (k : Int) = i ∧ Boxed W (w.heap.size + 1 + 1) 9 (.string (loAt low ss k)) ∧ Boxed W (w.heap.size + 1 + 1 + 1) 9 (.string (hiAt ss H k)) ∧ Boxed W (w.heap.size + 1 + 1 + 1 + 1) 4 (.bool (doesAt m R k))) ∧ Below w.heap.size w W)
    (OwnFrom.and (fun x X Y row hs hg hr => hs) (OwnFrom.and (Own.from (boxed_own _ _ _) _) (OwnFrom.and (Own.from (boxed_own _ _ _) _) (OwnFrom.and (Own.from (boxed_own _ _ _) _) (OwnFrom.and (Own.from (boxed_own _ _ _) _) (ownFrom_below (Nat.le_refl _) (by omega)))))))
    (fun c => OwnFrom.and (fun x X Y row hs hg hr => by
      obtain ⟨h1, k, hk, hki, h2, h3, h4⟩ := hs
      exact ⟨h1, k, hk, hki, boxed_own _ _ (fun (_ : Unit) => Value.string (loAt low ss k)) () X Y row h2 hg (fun r e => (hr r e).2), boxed_own _ _ (fun (_ : Unit) => Value.string (hiAt ss H k)) () X Y row h3 hg (fun r e => (hr r e).2), boxed_own _ _ (fun (_ : Unit) => Value.bool (doesAt m R k)) () X Y row h4 hg (fun r e => (hr r e).2)⟩) (ownFrom_below (Nat.le_refl _) (by omega)))
    ⟨fun x hx => by simp at hx, b1, b2, b3, b4, hB0⟩
    (fun x a' W => ∃ Bx, SBx Bx (loAt low ss x.1) (hiAt ss H x.1) (doesAt m R x.1) W ∧ a' = { tmps := #[nv F L R H A n ca C m cb, .string low, .int .i64 i, .pointer (some ⟨w.heap.size, 0, none⟩), undef, .pointer (some ⟨w.heap.size + 1, 0, none⟩), .pointer (some ⟨w.heap.size + 1 + 1, 0, none⟩), .pointer (some ⟨w.heap.size + 1 + 1 + 1, 0, none⟩), .pointer (some ⟨w.heap.size + 1 + 1 + 1 + 1, 0, none⟩), .int .i64 x.1, .pointer (some ⟨Bx, 0, none⟩), .agg #[.int .i64 F, .int .i64 L, .int .i64 R, .string H, .slice A n ca, .slice C m cb], .string low, .func (.func 79) #[] #[.pointer (some ⟨w.heap.size + 1 + 1 + 1 + 1 + 1, 0, none⟩), .pointer (some ⟨w.heap.size + 1 + 1 + 1 + 1 + 1 + 1, 0, none⟩)], .int .i64 x.1, .agg #[.string (loAt low ss x.1), .string (hiAt ss H x.1), .bool (doesAt m R x.1)], undef, undef, undef, undef, undef, undef, undef, undef, undef, undef, undef], defers := [] })
    (fun x a' _ X Y row hs hg hr => by
      obtain ⟨Bx, h2, h3⟩ := hs
      exact ⟨Bx, h2.own hg (fun r e => (hr r e).2), h3⟩)
    ?assign ?body ?done ?stop
  case assign =>
    rintro l pre x W K ⟨hni, h1, h2, h3, h4, hB⟩ hK
    simp only [spVals]
    gi_wp2
    exact hK _ _ ((KeepsOthers.alloc _ _).from _) (KpR.of_below (L5.below_alloc _ _)) ⟨hni, h1.alloc _, h2.alloc _, h3.alloc _, h4.alloc _, hB.alloc hB.size _⟩ ⟨W.heap.size, SBx.new _ _ _ W, rfl⟩
  case body =>
    rintro l pre x a' W hl ⟨rr, hr⟩ ⟨hni, h1, h2, h3, h4, hB⟩ ⟨Bx, bX, rfl⟩ hlt
    have HNI := Lib.hid hni
    have HB := Lib.hid hB
    have H1 := Lib.hid h1
    have H2 := Lib.hid h2
    have H3 := Lib.hid h3
    have H4 := Lib.hid h4
    have HBX := Lib.hid bX
    have cp := h1.cell
    have hsW := hB.size
    obtain ⟨k, hk⟩ := x
    have hls := HLS.out k
    have hhs := HHS.out k
    obtain ⟨c0, c1, c2⟩ := bX.cells
    simp only at c0 c1 c2 ⊢
    have HSN : Hid ((k : Int) ≠ i → NotIn i (pre ++ [(⟨k, hk⟩ : Pl n)])) := Lib.hid (fun h y hy => by
      rcases List.mem_append.1 hy with hy | hy
      · exact HNI.out y hy
      · obtain rfl := List.mem_singleton.1 hy
        exact h)
    obtain ⟨lo, hlo⟩ : ∃ lo, lo = loAt low ss k := ⟨_, rfl⟩
    obtain ⟨hh, hhh⟩ : ∃ hh, hh = hiAt ss H k := ⟨_, rfl⟩
    obtain ⟨d, hd⟩ : ∃ d, d = doesAt m R k := ⟨_, rfl⟩
    have HLO := Lib.hid hlo
    have HHH := Lib.hid hhh
    have HDD := Lib.hid hd
    rw [← hlo, ← hhh, ← hd]
    rw [← hlo] at c0 hls HBX
    rw [← hhh] at c1 hhs HBX
    rw [← hd] at c2 HBX
    have HK := Lib.hid hk
    clear hni h1 h2 h3 h4 hB bX hlt hlo hhh hd hr
    by_cases hki : (k : Int) = i
    · have hz : ((k : Int) == i) = true := by simp [hki]
      have HKI := Lib.hid hki
      have HC1 := Lib.hid (fun W => HCL.out lo hls W)
      have HC2 := Lib.hid (fun W => HCL.out hh hhs W)
      have HS : Hid (∀ V, Below W.heap.size W V → (Hid (Below w.heap.size w V) ∧ V.cell? ⟨Bx, 0, none⟩ = some (.string lo) ∧ V.cell? ⟨Bx, 1, none⟩ = some (.string hh) ∧ V.cell? ⟨Bx, 2, none⟩ = some (.bool d))) := Lib.hid (fun V hb =>
        ⟨Lib.hid (HB.out.trans (hb.mono hsW)), (hb.cell (p := ⟨Bx, 0, none⟩) HBX.out.lt).trans c0, (hb.cell (p := ⟨Bx, 1, none⟩) HBX.out.lt).trans c1, (hb.cell (p := ⟨Bx, 2, none⟩) HBX.out.lt).trans c2⟩)
      have hDrew := HS.out W.drew (L5.below_drewN (Below.refl _ W) 1)
      clear hki c0 c1 c2
      have HWV := Lib.hid (L5.below_drewN (Below.refl W.heap.size W) 1)
      gi_wp2_with fail
      refine wpIn_region_held (S := fun V => Hid (Below w.heap.size w V) ∧ V.cell? ⟨Bx, 0, none⟩ = some (.string lo) ∧ V.cell? ⟨Bx, 1, none⟩ = some (.string hh) ∧ V.cell? ⟨Bx, 2, none⟩ = some (.bool d)) (by kernel_rfl) (by kernel_rfl) ?nolets hDrew (fun hHeld => ?_)
      case nolets => rintro ⟨a0, w0, h0⟩; exact h0
      clear hDrew
      refine take_op (i := 0) (d := some 19) (v := ?_) rfl rfl (by kernel_rfl) (by kernel_rfl) (by kernel_rfl) (fun _ _ _ h => h) (Or.inl ⟨by kernel_rfl, ?_⟩) (by assumption) ?_
      rotate_left
      · intro V hSw; (try dsimp only at hSw); go_simp; (first | done | with_reducible rfl)
      try simp only [Act.put, List.setIfInBounds_toArray, List.set_cons_zero, List.set_cons_succ]
      refine take_op (i := 1) (d := some 20) (v := ?_) rfl rfl (by kernel_rfl) (by kernel_rfl) (by kernel_rfl) (fun _ _ _ h => h) (Or.inl ⟨by kernel_rfl, ?_⟩) (by assumption) ?_
      rotate_left
      · intro V hSw; (try dsimp only at hSw); go_simp; (first | done | with_reducible rfl)
      try simp only [Act.put, List.setIfInBounds_toArray, List.set_cons_zero, List.set_cons_succ]
      refine take_op (i := 3) (d := some 22) (v := ?_) rfl rfl (by kernel_rfl) (by kernel_rfl) (by kernel_rfl) (fun _ _ _ h => h) (Or.inl ⟨by kernel_rfl, ?_⟩) (by assumption) ?_
      rotate_left
      · intro V hSw; (try dsimp only at hSw); go_simp; (first | done | with_reducible rfl)
      try simp only [Act.put, List.setIfInBounds_toArray, List.set_cons_zero, List.set_cons_succ]
      refine take_op (i := 4) (d := some 23) (v := ?_) rfl rfl (by kernel_rfl) (by kernel_rfl) (by kernel_rfl) (fun _ _ _ h => h) (Or.inl ⟨by kernel_rfl, ?_⟩) (by assumption) ?_
      rotate_left
      · intro V hSw; (try dsimp only at hSw); go_simp; (first | done | with_reducible rfl)
      try simp only [Act.put, List.setIfInBounds_toArray, List.set_cons_zero, List.set_cons_succ]
      refine take_op (i := 6) (d := some 25) (v := ?_) rfl rfl (by kernel_rfl) (by kernel_rfl) (by kernel_rfl) (fun _ _ _ h => h) (Or.inl ⟨by kernel_rfl, ?_⟩) (by assumption) ?_
      rotate_left
      · intro V hSw; (try dsimp only at hSw); go_simp; (first | done | with_reducible rfl)
      try simp only [Act.put, List.setIfInBounds_toArray, List.set_cons_zero, List.set_cons_succ]
      refine take_op (i := 7) (d := some 26) (v := ?_) rfl rfl (by kernel_rfl) (by kernel_rfl) (by kernel_rfl) (fun _ _ _ h => h) (Or.inl ⟨by kernel_rfl, ?_⟩) (by assumption) ?_
      rotate_left
      · intro V hSw; (try dsimp only at hSw); go_simp; (first | done | with_reducible rfl)
      try simp only [Act.put, List.setIfInBounds_toArray, List.set_cons_zero, List.set_cons_succ]
      refine wpAnyH_ready (rs := [2]) (by kernel_rfl) (by simp) (AllReadyH.cons rfl (fun KK hK => ?_) AllReadyH.nil)
      go_simp
      refine (HC1.out _).mono ?_
      rintro e V ⟨rfl, hbV⟩
      have HWV := Lib.hid (HWV.out.trans' hbV)
      have hH2 := HS.out _ HWV.out
      clear hHeld hbV
      have hHeld := hH2
      clear hH2
      go_wp2_with fail
      refine hK.out _ _ hHeld (fun _ => ?_)
      clear hK KK
      try simp only [Act.put, List.setIfInBounds_toArray, List.set_cons_zero, List.set_cons_succ]
      refine wpAnyH_ready (rs := [5]) (by kernel_rfl) (by simp) (AllReadyH.cons rfl (fun KK hK => ?_) AllReadyH.nil)
      go_simp
      refine (HC2.out _).mono ?_
      rintro e V ⟨rfl, hbV⟩
      have HWV := Lib.hid (HWV.out.trans' hbV)
      have hH2 := HS.out _ HWV.out
      clear hHeld hbV
      have hHeld := hH2
      clear hH2
      go_wp2_with fail
      refine hK.out _ _ hHeld (fun _ => ?_)
      clear hK KK
      try simp only [Act.put, List.setIfInBounds_toArray, List.set_cons_zero, List.set_cons_succ]
      have G2 := Lib.hid (H2.out.kept (row := none) ⟨HWV.out.os, HWV.out.tape, HWV.out.output, HWV.out.size, fun k hk _ => HWV.out.block k hk⟩ (by simp))
      have G3 := Lib.hid (H3.out.kept (row := none) ⟨HWV.out.os, HWV.out.tape, HWV.out.output, HWV.out.size, fun k hk _ => HWV.out.block k hk⟩ (by simp))
      have G4 := Lib.hid (H4.out.kept (row := none) ⟨HWV.out.os, HWV.out.tape, HWV.out.output, HWV.out.size, fun k hk _ => HWV.out.block k hk⟩ (by simp))
      obtain ⟨hne1, hne2, hne3⟩ : w.heap.size + 1 + 1 ≠ w.heap.size + 1 + 1 + 1 ∧ w.heap.size + 1 + 1 ≠ w.heap.size + 1 + 1 + 1 + 1 ∧ w.heap.size + 1 + 1 + 1 ≠ w.heap.size + 1 + 1 + 1 + 1 := by omega
      have q2 := G2.out.cell
      have g2 := G2.out.frozen
      have J2 := Lib.hid (G2.out.set (.string lo))
      have J3 := Lib.hid (G3.out.other hne1.symm (.string lo))
      have J4 := Lib.hid (G4.out.other hne2.symm (.string lo))
      have q3 := J3.out.cell
      have g3 := J3.out.frozen
      have M2 := Lib.hid (J2.out.other hne1 (.string hh))
      have M3 := Lib.hid (J3.out.set (.string hh))
      have M4 := Lib.hid (J4.out.other hne3.symm (.string hh))
      have q4 := M4.out.cell
      have g4 := M4.out.frozen
      have N2 := Lib.hid (M2.out.other hne2 (.bool d))
      have N3 := Lib.hid (M3.out.other hne3 (.bool d))
      have N4 := Lib.hid (M4.out.set (.bool d))
      have HBV := Lib.hid (HB.out.trans (HWV.out.mono hsW))
      have HKF : Hid (KeepsFrom W0.heap.size W V) := Lib.hid (KeepsFrom.of_grownBy (row := none) ⟨HWV.out.os, HWV.out.tape, HWV.out.output, HWV.out.size, fun k hk _ => HWV.out.block k hk⟩ (fun j h => by cases h))
      have hx2 : Bx ≠ w.heap.size + 1 + 1 := sbx_ne HBX.out H2.out (by decide)
      have hx3 : Bx ≠ w.heap.size + 1 + 1 + 1 := sbx_ne HBX.out H3.out (by decide)
      have hx4 : Bx ≠ w.heap.size + 1 + 1 + 1 + 1 := sbx_ne HBX.out H4.out (by decide)
      have HCS : Hid (∀ (Y : World) (q : Nat) (u : Value), q ≠ Bx → w.heap.size ≤ q → (Hid (Below w.heap.size w Y) ∧ Y.cell? ⟨Bx, 0, none⟩ = some (.string lo) ∧ Y.cell? ⟨Bx, 1, none⟩ = some (.string hh) ∧ Y.cell? ⟨Bx, 2, none⟩ = some (.bool d)) → (Hid (Below w.heap.size w (Y.setCell ⟨q, 0, none⟩ u)) ∧ (Y.setCell ⟨q, 0, none⟩ u).cell? ⟨Bx, 0, none⟩ = some (.string lo) ∧ (Y.setCell ⟨q, 0, none⟩ u).cell? ⟨Bx, 1, none⟩ = some (.string hh) ∧ (Y.setCell ⟨q, 0, none⟩ u).cell? ⟨Bx, 2, none⟩ = some (.bool d))) := Lib.hid (fun Y q u hq hw h => by
        have hk := Below.heap_setCell Y ⟨q, 0, none⟩ u Bx (fun e => hq e.symm)
        exact ⟨Lib.hid (h.1.out.setCell (p := ⟨q, 0, none⟩) hw u), (cell_otherblock (p := ⟨Bx, 0, none⟩) hk).trans h.2.1, (cell_otherblock (p := ⟨Bx, 1, none⟩) hk).trans h.2.2.1, (cell_otherblock (p := ⟨Bx, 2, none⟩) hk).trans h.2.2.2⟩)
      have hS1 := HCS.out V (w.heap.size + 1 + 1) (.string lo) hx2.symm (by omega) hHeld
      have hS2 := HCS.out _ (w.heap.size + 1 + 1 + 1) (.string hh) hx3.symm (by omega) hS1
      have hS3 := HCS.out _ (w.heap.size + 1 + 1 + 1 + 1) (.bool d) hx4.symm (by omega) hS2
      have HS1 := Lib.hid hS1
      have HS2 := Lib.hid hS2
      have HS3 := Lib.hid hS3
      clear hS1 hS2 hS3 hHeld
      refine wpAnyH_ready (rs := [8]) (by kernel_rfl) (by simp) (AllReadyH.cons rfl (fun KK hK => ?_) AllReadyH.nil)
      go_simp
      refine hK.out _ _ HS1.out (fun hHeld2 => ?_)
      clear hK KK
      try simp only [Act.put, List.setIfInBounds_toArray, List.set_cons_zero, List.set_cons_succ]
      refine wpAnyH_ready (rs := [9]) (by kernel_rfl) (by simp) (AllReadyH.cons rfl (fun KK hK => ?_) AllReadyH.nil)
      go_simp
      refine hK.out _ _ HS2.out (fun hHeld2 => ?_)
      clear hK KK
      try simp only [Act.put, List.setIfInBounds_toArray, List.set_cons_zero, List.set_cons_succ]
      refine wpAnyH_ready (rs := [10]) (by kernel_rfl) (by simp) (AllReadyH.cons rfl (fun KK hK => ?_) AllReadyH.nil)
      go_simp
      refine hK.out _ _ HS3.out (fun hHeld2 => ?_)
      clear hK KK
      try simp only [Act.put, List.setIfInBounds_toArray, List.set_cons_zero, List.set_cons_succ]
      refine wpAnyH_done (by kernel_rfl) ?_ _
      gi_wp2_with fail
      rw [HLO.out, HHH.out, HDD.out] at N2 N3 N4 HS3 ⊢
      exact ⟨((HKF.out.trans ((KeepsOthers.setCell _ _ _).from _)).trans ((KeepsOthers.setCell _ _ _).from _)).trans ((KeepsOthers.setCell _ _ _).from _), ⟨rfl, k, HK.out, HKI.out, N2.out, N3.out, N4.out⟩, HS3.out.1.out⟩
    · have hz : ((k : Int) == i) = false := beq_eq_false_iff_ne.2 hki
      have HG := Lib.hid (HSN.out hki)
      clear hki
      gi_wp2_with fail
      exact ⟨KeepsFrom.refl _ _, KpR.refl _ _, HG.out, H1.out, H2.out, H3.out, H4.out, HB.out⟩
  case done =>
    rintro D xs W hD hall ⟨hni, h1, h2, h3, h4, hB⟩ hK
    have HX : Hid (r = .tuple #[.string ⟨#[]⟩, .string ⟨#[]⟩, .bool false]) := Lib.hid (by
      rw [HR.out]
      unfold endsV
      rw [if_neg]
      rintro ⟨g1, g2⟩
      have hm : i.toNat ∈ xs.map (·.1) := by rw [hall]; exact List.mem_range.2 (by omega)
      obtain ⟨x, hx, hxi⟩ := List.mem_map.1 hm
      exact hni x hx (by omega))
    clear hni hall h1
    have c2 := h2.cell
    have f2 := h2.frozen
    have c3 := h3.cell
    have f3 := h3.frozen
    have c4 := h4.cell
    have f4 := h4.frozen
    have hne1 : w.heap.size + 1 + 1 ≠ w.heap.size + 1 + 1 + 1 := by omega
    have hne2 : w.heap.size + 1 + 1 ≠ w.heap.size + 1 + 1 + 1 + 1 := by omega
    have hne3 : w.heap.size + 1 + 1 + 1 ≠ w.heap.size + 1 + 1 + 1 + 1 := by omega
    gi_wp2
    have d2 := ((h2.set (.string ⟨#[]⟩)).other hne1 (.string ⟨#[]⟩)).other hne2 (.bool false)
    have d3 := ((h3.other hne1.symm (.string ⟨#[]⟩)).set (.string ⟨#[]⟩)).other hne3 (.bool false)
    have d4 := ((h4.other hne2.symm (.string ⟨#[]⟩)).other hne3.symm (.string ⟨#[]⟩)).set (.bool false)
    have hK' := (((KeepsOthers.setCell W ⟨w.heap.size + 1 + 1, 0, none⟩ (.string ⟨#[]⟩)).trans (KeepsOthers.setCell _ ⟨w.heap.size + 1 + 1 + 1, 0, none⟩ (.string ⟨#[]⟩))).trans (KeepsOthers.setCell _ ⟨w.heap.size + 1 + 1 + 1 + 1, 0, none⟩ (.bool false))).same D _ hK rfl
    refine ⟨by simp, .inl ⟨_, _, rfl, run_takeDeferred hK', ?_⟩⟩
    have k2 := cell_kept d2.cell (grownBy_putObj' _ D (.deferred none)) (fun r e => by cases e; exact ⟨_, hK', rfl⟩)
    have k3 := cell_kept d3.cell (grownBy_putObj' _ D (.deferred none)) (fun r e => by cases e; exact ⟨_, hK', rfl⟩)
    have k4 := cell_kept d4.cell (grownBy_putObj' _ D (.deferred none)) (fun r e => by cases e; exact ⟨_, hK', rfl⟩)
    refine ⟨.tuple #[.string ⟨#[]⟩, .string ⟨#[]⟩, .bool false], by simp [results, Tryz.results20, go_sem, k2, k3, k4], by rw [HX.out], ?_⟩
    exact (((hB.setCell (p := ⟨w.heap.size + 1 + 1, 0, none⟩) (by show w.heap.size ≤ w.heap.size + 1 + 1; omega) _).setCell (p := ⟨w.heap.size + 1 + 1 + 1, 0, none⟩) (by show w.heap.size ≤ w.heap.size + 1 + 1 + 1; omega) _).setCell (p := ⟨w.heap.size + 1 + 1 + 1 + 1, 0, none⟩) (by show w.heap.size ≤ w.heap.size + 1 + 1 + 1 + 1; omega) _).trans (belowK_b (w := w) (Nat.le_refl _) _ D _ _ (by omega) hK' rfl rfl)
  case stop =>
    rintro D c pre W hD _ ⟨⟨rfl, k, hk, hki, h2, h3, h4⟩, hB⟩ hK
    have HX : Hid (r = .tuple #[.string (loAt low ss k), .string (hiAt ss H k), .bool (doesAt m R k)]) := Lib.hid (by
      rw [HR.out]
      unfold endsV
      rw [if_pos ⟨by omega, by omega⟩, show i.toNat = k by omega])
    clear hk hki
    gi_wp2
    refine ⟨by simp, .inl ⟨_, _, rfl, run_takeDeferred hK, ?_⟩⟩
    have k2 := cell_kept h2.cell (grownBy_putObj' _ D (.deferred none)) (fun r e => by cases e; exact ⟨_, hK, rfl⟩)
    have k3 := cell_kept h3.cell (grownBy_putObj' _ D (.deferred none)) (fun r e => by cases e; exact ⟨_, hK, rfl⟩)
    have k4 := cell_kept h4.cell (grownBy_putObj' _ D (.deferred none)) (fun r e => by cases e; exact ⟨_, hK, rfl⟩)
    refine ⟨.tuple #[.string (loAt low ss k), .string (hiAt ss H k), .bool (doesAt m R k)], by simp [results, Tryz.results20, go_sem, k2, k3, k4], by rw [HX.out], ?_⟩
    exact hB.trans (belowK_b (w := w) (Nat.le_refl _) W D _ _ (by omega) hK rfl rfl)
end Go.Proofs.YtembccehokodeaaGreatDoor
