/-
  The walk of the law HeadBack.
-/
import Derived.Test.YtklmmkcbogcbaaaDoorHFixed
import Derived.Test.YtklmmkcbogcbaaaDoorHLBody
namespace Go.Proofs.YtklmmkcbogcbaaaDoor
open Go.RowKit
set_option linter.unusedVariables false
set_option linter.unusedSimpArgs false

theorem neq_head (g h : HP.H) (w : World) :
    (binOp .neq 23 (.agg #[.int .i64 g.k, .int .i64 g.l, .int .i64 g.c, .int .i64 g.r, .int .i64 g.s]) (.agg #[.int .i64 h.k, .int .i64 h.l, .int .i64 h.c, .int .i64 h.r, .int .i64 h.s])).run Tryd.prog w = .ok (.bool (!sameH g h)) w := by
  unfold sameH
  cases h1 : (g.k == h.k) <;> cases h2 : (g.l == h.l) <;> cases h3 : (g.c == h.c) <;> cases h4 : (g.r == h.r) <;> cases h5 : (g.s == h.s) <;> simp [go_sem, h1, h2, h3, h4, h5]

section
attribute [local go_sem high] eql_head neq_head
set_option maxHeartbeats 4000000 in
set_option maxRecDepth 100000 in
theorem headBack_walk (h : HP.H) (S : ByteArray) (p : Int) (s : ByteArray) (w : World) (hs : Sizes w) (wS : S.size ≤ maxLen) (wp : (Lit.int .i64 p).wf = true) (ws : s.size ≤ maxLen) :
    Calls Tryd.prog 4 #[hv h, .agg #[.string S, .int .i64 p], .string s] w fun e w' => e = .returned (.bool true) ∧ Below w.heap.size w w' := by
  unfold maxLen at ws
  obtain ⟨m, hm, hm1, hms, hm2, hts⟩ := cut_min S 1100 (by omega)
  obtain ⟨X, hX⟩ : ∃ X, S.extract 0 m = X := ⟨_, rfl⟩
  obtain ⟨n, hn, hn1, hns, hn2, hus⟩ := cut_min s 1100 (by omega)
  obtain ⟨T, hT⟩ : ∃ T, s.extract 0 n = T := ⟨_, rfl⟩
  rw [hX] at hts
  rw [hT] at hus
  have hXs : X.size ≤ 1100 := by omega
  have hTs : T.size ≤ 1100 := by omega
  have hXl : X.data.toList.length = X.size := by simp
  have SG := tSeal h X p wp (by unfold maxLen; omega)
  have HFX : Hid (Tells 16 #[] (.bool true)) := Lib.hid fun W hW => fixed_any W hW
  obtain ⟨W0, hw0, HWB, HS0, HXH, HXB⟩ := body_boxes h S p w hs
  have HBV : Hid (∀ V, Below W0.heap.size W0 V → Hid (Below W0.heap.size W0 V) ∧ V.cell? ⟨w.heap.size, 0, none⟩ = some (.int .i64 h.k) ∧ V.cell? ⟨w.heap.size, 1, none⟩ = some (.int .i64 h.l) ∧ V.cell? ⟨w.heap.size, 2, none⟩ = some (.int .i64 h.c) ∧ V.cell? ⟨w.heap.size, 3, none⟩ = some (.int .i64 h.r) ∧ V.cell? ⟨w.heap.size, 4, none⟩ = some (.int .i64 h.s) ∧ V.cell? ⟨w.heap.size + 1, 0, none⟩ = some (.string S) ∧ V.cell? ⟨w.heap.size + 1, 1, none⟩ = some (.int .i64 p)) := Lib.hid (fun V hb => by
    obtain ⟨a0, a1, a2, a3, a4⟩ := (HXH.out.below hb).cells
    obtain ⟨b0, b1⟩ := (HXB.out.below hb).cells
    exact ⟨Lib.hid hb, a0, a1, a2, a3, a4, b0, b1⟩)
  obtain ⟨_, a0, a1, a2, a3, a4, b0, b1⟩ := HBV.out _ (Below.refl _ _)
  have hq1 : (m : Int) ≤ S.size := by omega
  have hq2 : (n : Int) ≤ s.size := by omega
  -- what the given bytes are
  have OT0 := tOpen T (by unfold maxLen; omega)
  have hTw : (Lit.int .i64 (T.size : Int)).wf = true := by simp [Lit.wf, IntKind.min, IntKind.max, IntKind.signed, IntKind.bits]; omega
  obtain ⟨d, b, hbw, HOPT⟩ : ∃ (d : HP.H) (b : ByteArray), b.size ≤ maxLen ∧ Hid ((opnV T = .tuple #[hv d, .string b, .int .i64 0] ∧ seaV d b T.size = .tuple #[.string T, .int .i64 0] ∧ HP.right d = true) ∨ (opnV T = .tuple #[.agg #[.int .i64 0, .int .i64 0, .int .i64 0, .int .i64 0, .int .i64 0], .string ⟨#[]⟩, .int .i64 3])) := by
    have hxs : (T.extract 16 T.size).size ≤ maxLen := by unfold maxLen; simp; omega
    refine ⟨HP.headOf T.data.toList, T.extract 16 T.size, hxs, Lib.hid ?_⟩
    by_cases hg : mayBe T.size = true ∧ HP.good T.data.toList
    · left
      have e1 := HP.opn_good hg.1 hg.2
      refine ⟨by unfold opnV; rw [e1], ?_, HP.right_iff.2 hg.2.1⟩
      unfold seaV
      rcases sea_open T hg.1 with ⟨h1, _⟩ | ⟨_, h2⟩ | ⟨U, _, _, h2⟩
      · rw [h1]
      · rw [e1] at h2; exact absurd (congrArg (fun x => x.2.2) h2) (by simp)
      · rw [e1] at h2; exact absurd (congrArg (fun x => x.2.2) h2) (by simp)
    · right
      unfold opnV
      rw [HP.opn_bad hg]
      rfl
  clear hs
  unfold hv at SG ⊢
  go_enter Tryd.func4, Tryd.ntmps4
  go_wp2_with fail
  refine (Tells.at SG HS0 (Below.refl _ _)).mono ?_
  rintro e W1 ⟨rfl, hb1⟩
  have HB1 := Lib.hid hb1
  clear a0 a1 a2 a3 a4 b0 b1 hw0 hX hm hm2 hts hq1 hT hn hn2 hus hq2
  unfold seaV
  rcases sea_parts h X p with ⟨hs1, he⟩ | ⟨q, rfl, hmq, hr, hbq, hq1, hq2, hsea⟩
  · obtain ⟨e1, he1⟩ : ∃ e1, (HP.sea h X p).2 = e1 := ⟨_, rfl⟩
    rw [hs1]
    rw [he1] at he ⊢
    clear hs1 he1
    rcases HOPT.out with ⟨hopt, hsea2, hrd⟩ | hopt
    · -- a page
      have OT := Tells.as OT0 hopt
      have ST := Tells.as (tSeal d b T.size hTw hbw) hsea2
      have TD := Tells.as (tRight d) (show _ = .bool true by rw [hrd])
      unfold hv at OT ST TD
      clear hopt hsea2 hrd OT0 HOPT
      go_wp2_with fail
      refine (Tells.at OT HS0 HB1.out).mono ?_
      rintro e W6 ⟨rfl, hb6⟩
      have HBD := Lib.hid (show Bx 23 W6.heap.size d (W6.alloc (.cells #[.int .i64 d.k, .int .i64 d.l, .int .i64 d.c, .int .i64 d.r, .int .i64 d.s] 23)) from heap_alloc_new _ _)
      have HB7 := Lib.hid (hb6.trans' (below_alloc W6 (.cells #[.int .i64 d.k, .int .i64 d.l, .int .i64 d.c, .int .i64 d.r, .int .i64 d.s] 23)))
      have HS7 := Lib.hid (HS0.out.kept HB7.out)
      clear hb6
      generalize hw7 : W6.alloc (.cells #[.int .i64 d.k, .int .i64 d.l, .int .i64 d.c, .int .i64 d.r, .int .i64 d.s] 23) = W7 at *
      obtain ⟨u0, u1, u2, u3, u4⟩ := HBD.out.cells
      go_wp2_with fail
      refine (Tells.at ST HS7 (Below.refl _ _)).mono ?_
      rintro e W8 ⟨rfl, hb8⟩
      have HB8 := Lib.hid hb8
      clear u0 u1 u2 u3 u4 hw7
      obtain ⟨u0, u1, u2, u3, u4⟩ := (HBD.out.below hb8).cells
      clear hb8
      go_wp2_with fail
      refine (Tells.at TD HS7 HB8.out).mono ?_
      rintro e W9 ⟨rfl, hb9⟩
      have HB9 := Lib.hid hb9
      go_wp2_with fail
      refine (Tells.at HFX HS7 HB9.out).mono ?_
      rintro e W10 ⟨rfl, hb10⟩
      go_wp2_with fail
      go_ret
      exact ⟨rfl, (HWB.out.trans' HB7.out).trans' hb10⟩
    · -- none
      have OT := Tells.as OT0 hopt
      unfold hv at OT
      clear hopt OT0 HOPT
      go_wp2_with fail
      refine (Tells.at OT HS0 HB1.out).mono ?_
      rintro e W6 ⟨rfl, hb6⟩
      have HB7 := Lib.hid (hb6.trans' (below_alloc W6 (.cells #[.int .i64 0, .int .i64 0, .int .i64 0, .int .i64 0, .int .i64 0] 23)))
      go_wp2_with fail
      refine (Tells.at HFX HS0 HB7.out).mono ?_
      rintro e W8 ⟨rfl, hb8⟩
      go_wp2_with fail
      go_ret
      exact ⟨rfl, HWB.out.trans' hb8⟩
  · rw [hsea]
    obtain ⟨E, hE⟩ : ∃ E : ByteArray, ⟨(HP.page (HP.front h) (HP.rest X.data.toList q)).toArray⟩ = E := ⟨_, rfl⟩
    have hEs : E.size = q := by rw [← hE, sizeOf, page_size _ _ _ hbq]
    have hop := page_opened hmq hr hbq
    rw [hE] at hop ⊢
    obtain ⟨k, hk⟩ : ∃ k : Nat, (k : Int) = (q : Int) - 16 - X.size := ⟨((q : Int) - 16 - X.size).toNat, by omega⟩
    obtain ⟨Z, hZ⟩ : ∃ Z : ByteArray, ⟨(List.replicate k (0 : UInt8)).toArray⟩ = Z := ⟨_, rfl⟩
    have RZ := tRepeat 0 k (by omega)
    rw [hZ] at RZ
    have sZ : Z.size = k := by rw [← hZ, sizeOf]; simp
    obtain ⟨R, hR⟩ : ∃ R : ByteArray, ⟨(HP.rest X.data.toList q).toArray⟩ = R := ⟨_, rfl⟩
    rw [hR] at hop
    have hXZ : X ++ Z = R := by
      rw [← hZ, ← hR]
      apply ByteArray.ext
      simp [HP.rest, show q - 16 - X.size = k by omega]
    have sR : R.size = q - 16 := by rw [← hXZ, ByteArray.size_append, sZ]; omega
    have hRX : R.extract 0 X.size = X := by
      apply ByteArray.ext
      apply Array.toList_inj.1
      rw [Lib.extract_data, ← hXZ]
      simp
    have OE := Tells.as (tOpen E (by unfold maxLen; omega)) (show _ = .tuple #[hv h, .string R, .int .i64 0] by unfold opnV; rw [hop])
    unfold hv at OE
    have sR2 : (R.size : Int) = (q : Int) - 16 := by omega
    have hmin : min (X.size : Int) ((q : Int) - 16) = X.size := by omega
    have sbd : (0 : Int) ≤ X.size ∧ (X.size : Int) ≤ R.size ∧ (X.size : Int) ≤ (q : Int) - 16 ∧ X.size ≤ R.size := by omega
    have c1 : ¬ 9223372036854775807 < X.size + Z.size := by omega
    have hwr1 : IntKind.i64.wrap ((q : Int) - 16) = (q : Int) - 16 := IntWalk.i64_in _ (by omega)
    have hwr2 : IntKind.i64.wrap ((q : Int) - 16 - X.size) = k := by rw [← hk]; exact IntWalk.i64_in _ (by omega)
    have hwr3 : (q : Int) - 16 - X.size = k := hk.symm
    have hwr4 : IntKind.i64.wrap (k : Int) = k := IntWalk.i64_in _ (by omega)
    have hRR : (R.toList == R.toList) = true := beq_self_eq_true _
    have hXX : (X.toList == X.toList) = true := beq_self_eq_true _
    have hsm : sameH h h = true := sameH_iff.2 rfl
    have HSR := Lib.hid sR
    obtain ⟨_, a0, a1, a2, a3, a4, b0, b1⟩ := HBV.out _ hb1
    clear hk hsea hop hE hZ sZ hR hb1 sR SG
    go_wp2_with fail
    refine (Tells.at OE HS0 HB1.out).mono ?_
    rintro e W2 ⟨rfl, hb2⟩
    have HB3 := Lib.hid (hb2.trans' (below_alloc W2 (.cells #[.int .i64 h.k, .int .i64 h.l, .int .i64 h.c, .int .i64 h.r, .int .i64 h.s] 23)))
    clear a0 a1 a2 a3 a4 b0 b1
    have HBG := Lib.hid (show Bx 23 W2.heap.size h (W2.alloc (.cells #[.int .i64 h.k, .int .i64 h.l, .int .i64 h.c, .int .i64 h.r, .int .i64 h.s] 23)) from heap_alloc_new _ _)
    generalize hw3 : W2.alloc (.cells #[.int .i64 h.k, .int .i64 h.l, .int .i64 h.c, .int .i64 h.r, .int .i64 h.s] 23) = W3 at *
    obtain ⟨u0, u1, u2, u3, u4⟩ := HBG.out.cells
    obtain ⟨_, a0, a1, a2, a3, a4, b0, b1⟩ := HBV.out _ HB3.out
    clear hb2
    go_wp2_with fail
    refine (Tells.at RZ HS0 HB3.out).mono ?_
    rintro e W4 ⟨rfl, hb4⟩
    have HB4 := Lib.hid hb4
    clear u0 u1 u2 u3 u4 a0 a1 a2 a3 a4 b0 b1 hb4
    rcases HOPT.out with ⟨hopt, hsea2, hrd⟩ | hopt
    · -- a page
      have OT := Tells.as OT0 hopt
      have ST := Tells.as (tSeal d b T.size hTw hbw) hsea2
      have TD := Tells.as (tRight d) (show _ = .bool true by rw [hrd])
      unfold hv at OT ST TD
      clear hopt hsea2 hrd OT0 HOPT
      go_wp2_with fail
      refine (Tells.at OT HS0 HB4.out).mono ?_
      rintro e W6 ⟨rfl, hb6⟩
      have HBD := Lib.hid (show Bx 23 W6.heap.size d (W6.alloc (.cells #[.int .i64 d.k, .int .i64 d.l, .int .i64 d.c, .int .i64 d.r, .int .i64 d.s] 23)) from heap_alloc_new _ _)
      have HB7 := Lib.hid (hb6.trans' (below_alloc W6 (.cells #[.int .i64 d.k, .int .i64 d.l, .int .i64 d.c, .int .i64 d.r, .int .i64 d.s] 23)))
      have HS7 := Lib.hid (HS0.out.kept HB7.out)
      clear hb6
      generalize hw7 : W6.alloc (.cells #[.int .i64 d.k, .int .i64 d.l, .int .i64 d.c, .int .i64 d.r, .int .i64 d.s] 23) = W7 at *
      obtain ⟨u0, u1, u2, u3, u4⟩ := HBD.out.cells
      go_wp2_with fail
      refine (Tells.at ST HS7 (Below.refl _ _)).mono ?_
      rintro e W8 ⟨rfl, hb8⟩
      have HB8 := Lib.hid hb8
      clear u0 u1 u2 u3 u4 hw7
      obtain ⟨u0, u1, u2, u3, u4⟩ := (HBD.out.below hb8).cells
      clear hb8
      go_wp2_with fail
      refine (Tells.at TD HS7 HB8.out).mono ?_
      rintro e W9 ⟨rfl, hb9⟩
      have HB9 := Lib.hid hb9
      go_wp2_with fail
      refine (Tells.at HFX HS7 HB9.out).mono ?_
      rintro e W10 ⟨rfl, hb10⟩
      go_wp2_with fail
      go_ret
      exact ⟨rfl, (HWB.out.trans' HB7.out).trans' hb10⟩
    · -- none
      have OT := Tells.as OT0 hopt
      unfold hv at OT
      clear hopt OT0 HOPT
      go_wp2_with fail
      refine (Tells.at OT HS0 HB4.out).mono ?_
      rintro e W6 ⟨rfl, hb6⟩
      have HB7 := Lib.hid (hb6.trans' (below_alloc W6 (.cells #[.int .i64 0, .int .i64 0, .int .i64 0, .int .i64 0, .int .i64 0] 23)))
      go_wp2_with fail
      refine (Tells.at HFX HS0 HB7.out).mono ?_
      rintro e W8 ⟨rfl, hb8⟩
      go_wp2_with fail
      go_ret
      exact ⟨rfl, HWB.out.trans' hb8⟩
end
end Go.Proofs.YtklmmkcbogcbaaaDoor
