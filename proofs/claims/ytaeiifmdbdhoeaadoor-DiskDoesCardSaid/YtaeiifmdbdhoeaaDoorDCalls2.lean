/-
  The document's disk: the walks of its Sync, Read.
-/
import Derived.Test.YtaeiifmdbdhoeaaDoorDCalls
namespace Go.Proofs.YtaeiifmdbdhoeaaDoor
open Go.RowKit
open DP (W D)
open Go.ChangeShapes
set_option linter.unusedVariables false
set_option linter.unusedSimpArgs false

theorem sync_left (d : D) (h : d.left = some 0) : d.sync = (d, 9) := by unfold D.sync; rw [if_pos h]

set_option maxHeartbeats 1000000 in
set_option maxRecDepth 100000 in
theorem syncRef_any (b : Nat) (d : D) (c : Nat) (F : Nat → Prop) (w : World) (h : Has w c F b d) (hq : d.q.length ≤ 5000) (hc : c ≤ w.heap.size) :
    Calls Tryd.prog 35 #[.pointer (some ⟨b, 0, none⟩)] w fun e w' => e = .returned (.int .i64 d.sync.2) ∧ ∃ F', Has w' c F' b d.sync.1 ∧ Chg F w w' ∧ Own w F F' := by
  obtain ⟨K, P, kc, pc, h6, hK, hP, fK, fP⟩ := h.parts
  have H6 := Lib.hid h6
  have H := Lib.hid h
  obtain ⟨c0, c1, c2, c3, c4, c5⟩ := h6.cells
  obtain ⟨K', P', kc', pc', hrd⟩ := h.rd hq
  have HALL := Lib.hid (allRef_any b d K' P' kc' pc' (leftV d.left) w hrd)
  have same : Has w c F b d ∧ Chg F w w ∧ Own w F F := ⟨h, Chg.refl F w, fun k _ hk => hk⟩
  have HSame := Lib.hid same
  clear same hrd
  by_cases hl : d.left = some 0
  · rw [sync_left d hl]
    rw [left_zero hl] at c5
    clear hl hK hP h6 h fK fP
    go_enter Tryd.func35, Tryd.ntmps35
    go_wp2_with fail
    go_ret
    exact ⟨rfl, F, HSame.out⟩
  have hl0 : (leftV d.left == 0) = false := by
    rw [beq_eq_false_iff_ne]
    rcases left_more hl with ⟨h1, _⟩ | ⟨m, h1, _, _⟩ <;> omega
  have HL := Lib.hid (left_more hl)
  have HOk : Hid d.sync.1.Ok := Lib.hid h.ok.sync
  rw [D.sync_ok d hl] at HOk
  rw [D.sync_ok d hl]
  have HFIN : Hid (∀ (w3 : World) (g cap : Nat) (L : Int), w.heap.size ≤ g → Six w3 b d.p d.room d.reads (.slice (some ⟨g, 0, none⟩) d.all.length cap) (.slice none 0 0) L → L = leftV d.less →
      w3.ownsRow c 9 1 (.slice (some ⟨g, 0, none⟩) d.all.length cap) d.all.length (strCells d.all) → Chg F w w3 →
      ∃ F', Has w3 c F' b { d with kept := d.all, q := [], left := d.less } ∧ Chg F w w3 ∧ Own w F F') := Lib.hid (fun w3 g cap L hg h6' hL hK' hch => by
    subst hL
    refine ⟨fun k => k = b ∨ k = g, ⟨⟨some ⟨g, 0, none⟩, none, cap, 0, h6', hK', World.ownsRow_nil _ _ _ _, fun g' hg' => .inr ?_, fun g' hg' => ?_⟩, .inl rfl, fun k hk => ?_, fun k hk => ?_, HOk.out, H.out.small.1, H.out.small.2.1, less_small H.out.small.2.2⟩, hch, fun k hk hk' => ?_⟩
    · simp [Value.ownBlock] at hg'; exact hg'.symm
    · simp [Value.ownBlock] at hg'
    · rcases hk with hk | hk
      · subst hk; exact H.out.low _ H.out.mine
      · subst hk; omega
    · rcases hk with hk | hk
      · subst hk; exact h6'.lt
      · subst hk; exact (hK'.lt k rfl).2
    · rcases hk' with hk' | hk'
      · subst hk'; exact H.out.mine
      · omega)
  generalize hlf : leftV d.left = LF at *
  generalize hall : d.all = all at *
  clear hK hP h6 h fK fP HSame HOk hl hall
  have arm : True := trivial
  rcases HL.out with ⟨hL, hD⟩ | ⟨mm, hL, hD, hE⟩
  · obtain rfl : LF = -1 := by omega
    have HDL : Hid ((-1 : Int) = leftV d.less) := Lib.hid (by rw [hD]; try rfl)
    clear hL hD hlf HL arm
    go_enter Tryd.func35, Tryd.ntmps35
    go_wp2_with fail
    refine HALL.out.mono ?_
    rintro e w1 ⟨g, cap, rfl, hown, hb1⟩
    have SIX1 := Lib.hid (H6.out.below hb1)
    have hf3 := SIX1.out.free 3
    have hf4 := SIX1.out.free 4
    have hf4' := (SIX1.out.set3 (.slice (some ⟨g, 0, none⟩) (all.length : Nat) cap)).free 4
    have e5 := SIX1.out.cells.2.2.2.2.2
    have e3 := SIX1.out.cells.2.2.2.1
    have e4 := SIX1.out.cells.2.2.2.2.1
    have HO := Lib.hid (own_weaken hown hc)
    have hgl := (hown.lt g rfl).1
    have HNE := Lib.hid (SIX1.out.ne_own hown (by decide))
    have hch : Hid (Chg F w w1) := Lib.hid (Chg.of_below hb1)
    clear hown hb1
    go_wp2_with fail
    go_ret
    exact ⟨rfl, HFIN.out _ g cap (-1) hgl ((SIX1.out.set3 _).set4 _) HDL.out (own_set (own_set HO.out HNE.out) HNE.out) ((hch.out.set H.out.mine _ _).set H.out.mine _ _)⟩
  · obtain rfl : LF = (mm : Int) + 1 := by omega
    have HDL : Hid ((mm : Int) = leftV d.less) := Lib.hid (by rw [hD]; rfl)
    have d5 : decide ((0 : Int) < (mm : Int) + 1) = true := by simp only [decide_eq_true_eq]; omega
    have hmm := H.out.small.2.2 (mm + 1) hE
    have hw64 : wrap64 (mm : Int) = mm := by rw [← IntWalk.i64_left]; exact IntWalk.i64_in _ (by omega)
    clear hL hD HL hlf hE arm
    go_enter Tryd.func35, Tryd.ntmps35
    go_wp2_with fail
    refine HALL.out.mono ?_
    rintro e w1 ⟨g, cap, rfl, hown, hb1⟩
    have SIX1 := Lib.hid (H6.out.below hb1)
    have hf3 := SIX1.out.free 3
    have hf4 := SIX1.out.free 4
    have hf5 := SIX1.out.free 5
    have e5 := SIX1.out.cells.2.2.2.2.2
    have e3 := SIX1.out.cells.2.2.2.1
    have e4 := SIX1.out.cells.2.2.2.2.1
    have hf4' := (SIX1.out.set3 (.slice (some ⟨g, 0, none⟩) (all.length : Nat) cap)).free 4
    have hf5' := ((SIX1.out.set3 (.slice (some ⟨g, 0, none⟩) (all.length : Nat) cap)).set4 (.slice none 0 0)).free 5
    have HO := Lib.hid (own_weaken hown hc)
    have hgl := (hown.lt g rfl).1
    have HNE := Lib.hid (SIX1.out.ne_own hown (by decide))
    have hch : Hid (Chg F w w1) := Lib.hid (Chg.of_below hb1)
    clear hown hb1
    go_wp2_with fail
    go_ret
    exact ⟨rfl, HFIN.out _ g cap mm hgl (((SIX1.out.set3 _).set4 _).set5 mm) HDL.out (own_set (own_set (own_set HO.out HNE.out) HNE.out) HNE.out) (((hch.out.set H.out.mine _ _).set H.out.mine _ _).set H.out.mine _ _)⟩

/-- What Read answers. -/
def readV (d : D) (i : Int) : Value := .tuple #[.string (d.read i).2.1, .int .i64 (d.read i).2.2]
theorem readV_no (d : D) (i : Int) (h : i < 0 ∨ (d.len : Int) ≤ i) : readV d i = .tuple #[.string ⟨#[]⟩, .int .i64 4] := by
  unfold readV D.read
  rw [if_neg (by omega)]
theorem readV_yes (d : D) (i : Nat) (h : i < d.len) : readV d i = .tuple #[.string ((DP.last d.q i).getD (DP.page (DP.zero d.p) d.kept i)), .int .i64 0] := by
  unfold readV D.read
  rw [if_pos (by omega)]
  have h1 : DP.page (DP.zero d.p) d.all (i : Int).toNat = (DP.last d.q i).getD (DP.page (DP.zero d.p) d.kept i) := DP.page_all _ _ _ _
  rw [h1]
theorem Has.read {w : World} {c : Nat} {F : Nat → Prop} {b : Nat} {d : D} (h : Has w c F b d) (i : Int) : Has (w.setCell ⟨b, 2, none⟩ (.int .i64 ((d.reads : Int) + 1))) c F b (d.read i).1 ∧ Chg F w (w.setCell ⟨b, 2, none⟩ (.int .i64 ((d.reads : Int) + 1))) := by
  obtain ⟨K, P, kc, pc, h6, hK, hP, fK, fP⟩ := h.parts
  refine ⟨⟨⟨K, P, kc, pc, ?_, own_set hK (h6.ne_own hK (by decide)), own_set hP (h6.ne_own hP (by decide)), fK, fP⟩, h.mine, h.low, fun k hk => by simpa using h.high k hk, h.ok.read i, h.small⟩, (Chg.refl F w).set h.mine _ _⟩
  exact h6.set2 ((d.reads : Int) + 1)

set_option maxHeartbeats 1000000 in
set_option maxRecDepth 100000 in
theorem readRef_any (b : Nat) (d : D) (i : Int) (c : Nat) (F : Nat → Prop) (w : World) (h : Has w c F b d) (hi : (Lit.int .i64 i).wf = true) (hq : d.q.length ≤ 5000) (hr : d.reads ≤ 1000000) :
    Calls Tryd.prog 39 #[.pointer (some ⟨b, 0, none⟩), .int .i64 i] w fun e w' => e = .returned (readV d i) ∧ Has w' c F b (d.read i).1 ∧ Chg F w w' := by
  obtain ⟨h1, hch⟩ := h.read i
  obtain ⟨K, P, kc, pc, h6, _, _, _, _⟩ := h.parts
  obtain ⟨c0, c1, c2, c3, c4, c5⟩ := h6.cells
  have hf2 := h6.free 2
  have hib := bounds_i64 hi
  obtain ⟨K', P', kc', pc', hrd⟩ := h1.rd hq
  have HLEN := Lib.hid (lenRef_any b (d.read i).1 K' P' kc' pc' _ _ hrd)
  have HRD := Lib.hid hrd
  have HEND : Hid (∀ w2 w1, Has w1 c F b (d.read i).1 → Chg F w w1 → Below w1.heap.size w1 w2 → Has w2 c F b (d.read i).1 ∧ Chg F w w2) := Lib.hid (fun w2 w1 hh hc hb => ⟨hh.below hb, hc.trans' (Chg.of_below hb)⟩)
  have H1 := Lib.hid h1
  have HCH := Lib.hid hch
  have hdl : (d.read i).1.len = d.len := rfl
  rw [hdl] at HLEN
  have hr1 : IntKind.i64.wrap ((d.reads : Int) + 1) = (d.reads : Int) + 1 := IntWalk.i64_in _ (by omega)
  have hr2 : wrap64 ((d.reads : Int) + 1) = (d.reads : Int) + 1 := by rw [← IntWalk.i64_left]; exact hr1
  have HNO : Hid (i < 0 ∨ (d.len : Int) ≤ i → readV d i = .tuple #[.string ⟨#[]⟩, .int .i64 4]) := Lib.hid (readV_no d i)
  clear h h1 hch h6 hrd hdl
  by_cases hneg : i < 0
  · have HV := Lib.hid (HNO.out (.inl hneg))
    have d1 : decide (i < 0) = true := by simpa using hneg
    clear HNO hneg
    go_enter Tryd.func39, Tryd.ntmps39
    go_wp2_with fail
    go_ret2
    exact ⟨by rw [HV.out]; try rfl, H1.out, HCH.out⟩
  have d1 : decide (i < 0) = false := by simpa using hneg
  obtain ⟨j, rfl⟩ := Int.eq_ofNat_of_zero_le (show 0 ≤ i by omega)
  by_cases hbig : d.len ≤ j
  · have HV := Lib.hid (HNO.out (.inr (by omega)))
    have d2 : decide (d.len ≤ j) = true := by simpa using hbig
    have d3 : decide ((d.len : Int) ≤ j) = true := by simpa using hbig
    generalize d.len = n at *
    clear HNO hneg hbig
    go_enter Tryd.func39, Tryd.ntmps39
    go_wp2_with fail
    refine HLEN.out.mono ?_
    rintro e w2 ⟨rfl, hb2⟩
    have HE := Lib.hid (HEND.out w2 _ H1.out HCH.out hb2)
    clear hb2
    go_wp2_with fail
    go_ret2
    exact ⟨by rw [HV.out]; try rfl, HE.out⟩
  have d2 : decide (d.len ≤ j) = false := by simpa using hbig
  have d3 : decide ((d.len : Int) ≤ j) = false := by simpa using hbig
  have HV := Lib.hid (readV_yes d j (by omega))
  have HREP := Lib.hid (fun W => zero_any d.p W HRD.out.few.2.2.1)
  have HLS : Hid (∀ k x, d.q[k]? = some x → DP.last (d.q.take (k + 1)) j = if x.i = j then some x.s else DP.last (d.q.take k) j) := Lib.hid (fun k x hx => by rw [take_succ_w d.q k x hx, DP.last_snoc])
  generalize d.len = n at *
  generalize readV d j = rv at *
  have hkb : d.kept.length ≤ 4096 := HRD.out.few.1
  obtain ⟨m, hm⟩ : ∃ m, m = d.q.length := ⟨_, rfl⟩
  have HM := Lib.hid hm
  rw [← hm] at c4 hq
  obtain ⟨kn, hkn⟩ : ∃ kn, kn = d.kept.length := ⟨_, rfl⟩
  have HKN := Lib.hid hkn
  rw [← hkn] at c3 hkb
  clear HNO hneg hbig hm hkn
  go_enter Tryd.func39, Tryd.ntmps39
  go_wp2_with fail
  refine HLEN.out.mono ?_
  rintro e w2 ⟨rfl, hb2⟩
  have HE := Lib.hid (HEND.out w2 _ H1.out HCH.out hb2)
  have HR2 := Lib.hid (HRD.out.below hb2)
  clear hb2 c0 c1 c2 c3 c4 c5 hf2 HEND H1 HCH HLEN
  obtain ⟨c0, c1, c2, c3, c4, c5⟩ := HR2.out.six.cells
  have hdq : (d.read j).1.q = d.q := rfl
  have hdk : (d.read j).1.kept = d.kept := rfl
  have hdp : (d.read j).1.p = d.p := rfl
  rw [hdq, ← HM.out] at c4
  rw [hdk, ← HKN.out] at c3
  rw [hdp] at c0
  have HPD : Hid (LiesW w2 w2.heap.size P' d.q) := Lib.hid HR2.out.pend
  have HKD : Hid (Lies w2 w2.heap.size K' d.kept) := Lib.hid HR2.out.kept
  clear hdq hdk hdp c1 c2 c5
  go_wp2_with fail
  go_loop [6] (fun kv => ∃ k : Nat, k ≤ m ∧ kv = .int .i64 ((k : Int) - 1) ∧ Hid (DP.last d.q j = DP.last (d.q.take k) j)) (fun kv => ((intOf kv) + 1).toNat)
  case atStart => exact ⟨m, Nat.le_refl _, rfl, Lib.hid (by rw [List.take_of_length_le (by have := HM.out; omega)])⟩
  case round =>
    obtain ⟨k, hk, rfl, HK⟩ := hrel
    cases k with
    | zero =>
      have HN : Hid (DP.last d.q j = none) := Lib.hid (by rw [HK.out]; rfl)
      by_cases hkj : kn ≤ j
      · have d4 : decide (kn ≤ j) = true := by simpa using hkj
        have HV2 : Hid (rv = .tuple #[.string (DP.zero d.p), .int .i64 0]) := Lib.hid (by
          rw [HV.out, HN.out, DP.page, List.getD_eq_getElem?_getD, List.getElem?_eq_none (by have := HKN.out; omega)]
          rfl)
        go_wp2_with fail
        refine (HREP.out _).mono ?_
        rintro e w3 ⟨rfl, hb3⟩
        go_wp2_with fail
        go_ret2
        exact ⟨by rw [HV2.out]; try rfl, HE.out.1.below hb3, HE.out.2.trans' (Chg.of_below hb3)⟩
      · have d4 : decide (kn ≤ j) = false := by simpa using hkj
        obtain ⟨s, hs⟩ : ∃ s, d.kept[j]? = some s := ⟨_, List.getElem?_eq_getElem (by have := HKN.out; omega)⟩
        obtain ⟨a, rfl, hab, x0⟩ := HKD.out j s hs
        have HV2 : Hid (rv = .tuple #[.string s, .int .i64 0]) := Lib.hid (by
          rw [HV.out, HN.out, DP.page, List.getD_eq_getElem?_getD, hs]
          rfl)
        have hj0 : (0 : Int) ≤ j := by omega
        have hjk : (j : Int) < kn := by omega
        clear hs hab
        go_wp2_with fail
        go_ret2
        exact ⟨by rw [HV2.out]; try rfl, HE.out⟩
    | succ k =>
      obtain ⟨x, hx⟩ : ∃ c, d.q[k]? = some c := ⟨_, List.getElem?_eq_getElem (by have := HM.out; omega)⟩
      obtain ⟨a, rfl, hab, x0, x1⟩ := HPD.out k x hx
      have HX := Lib.hid (HLS.out k x hx)
      obtain ⟨xi, xs⟩ := x
      simp only at x0 x1 HX
      have e1 : (((k + 1 : Nat) : Int) - 1) = k := by omega
      have hk0 : (0 : Int) ≤ k := by omega
      have hkm : (k : Int) < m := by omega
      rw [e1]
      clear hx hab
      by_cases hxj : xi = j
      · have d4 : ((xi : Int) == (j : Int)) = true := by rw [hxj]; simp
        have d5 : (xi == j) = true := by rw [hxj]; simp
        have HV2 : Hid (rv = .tuple #[.string xs, .int .i64 0]) := Lib.hid (by
          rw [HV.out, HK.out, HX.out, if_pos hxj]
          rfl)
        clear hxj
        go_wp2_with fail
        go_ret2
        exact ⟨by rw [HV2.out]; try rfl, HE.out⟩
      · have d4 : ((xi : Int) == (j : Int)) = false := by rw [beq_eq_false_iff_ne]; omega
        have d5 : (xi == j) = false := by rw [beq_eq_false_iff_ne]; exact hxj
        have hw : IntKind.i64.wrap ((k : Int) - 1) = (k : Int) - 1 := IntWalk.i64_in _ (by omega)
        have hw2 : wrap64 ((k : Int) - 1) = (k : Int) - 1 := by rw [← IntWalk.i64_left]; exact hw
        have HK2 : Hid (DP.last d.q j = DP.last (d.q.take k) j) := Lib.hid (by rw [HK.out, HX.out, if_neg hxj])
        clear hxj
        go_wp2_with fail
        go_round
        case rel => exact ⟨k, by omega, rfl, HK2⟩
        case measure => simp [intOf]
end Go.Proofs.YtaeiifmdbdhoeaaDoor
