/-
  The walk of the law HeadTells.
-/
import Derived.Test.YtklmmkcbogcbaaaDoorHFixed
import Derived.Test.YtklmmkcbogcbaaaDoorHLBody
import Derived.Test.YtklmmkcbogcbaaaDoorHDocO
namespace Go.Proofs.YtklmmkcbogcbaaaDoor
open Go.RowKit
set_option linter.unusedVariables false
set_option linter.unusedSimpArgs false

theorem eql_headD (g h : HP.H) (w : World) :
    (binOp .eql 30 (.agg #[.int .i64 g.k, .int .i64 g.l, .int .i64 g.c, .int .i64 g.r, .int .i64 g.s]) (.agg #[.int .i64 h.k, .int .i64 h.l, .int .i64 h.c, .int .i64 h.r, .int .i64 h.s])).run Tryd.prog w = .ok (.bool (sameH g h)) w := by
  unfold sameH
  cases h1 : (g.k == h.k) <;> cases h2 : (g.l == h.l) <;> cases h3 : (g.c == h.c) <;> cases h4 : (g.r == h.r) <;> cases h5 : (g.s == h.s) <;> simp [go_sem, h1, h2, h3, h4, h5]

section
attribute [local go_sem high] eql_headD
set_option maxHeartbeats 6000000 in
set_option maxRecDepth 100000 in
theorem headTells_walk (h : HP.H) (S : ByteArray) (p : Int) (s : ByteArray) (w : World) (hs : Sizes w) (wS : S.size ≤ maxLen) (wp : (Lit.int .i64 p).wf = true) (ws : s.size ≤ maxLen) :
    Calls Tryd.prog 3 #[hv h, .agg #[.string S, .int .i64 p], .string s] w fun e w' => e = .returned (.bool true) ∧ Below w.heap.size w w' := by
  unfold maxLen at ws
  obtain ⟨m, hm, hm1, hms, hm2, hts⟩ := cut_min S 1100 (by omega)
  obtain ⟨X, hX⟩ : ∃ X, S.extract 0 m = X := ⟨_, rfl⟩
  obtain ⟨n, hn, hn1, hns, hn2, hus⟩ := cut_min s 1100 (by omega)
  obtain ⟨T, hT⟩ : ∃ T, s.extract 0 n = T := ⟨_, rfl⟩
  rw [hX] at hts
  rw [hT] at hus
  have SG := tSeal h X p wp (by unfold maxLen; omega)
  have SD := tSealD h X p wp (by unfold maxLen; omega)
  have OG := tOpen T (by unfold maxLen; omega)
  have OD := tOpenD T
  have TG := tRight h
  have TD := tRightD h
  have TR := Lib.hid (fun x => (tRef x).out)
  have HFX : Hid (Tells 16 #[] (.bool true)) := Lib.hid fun W hW => fixed_any W hW
  obtain ⟨P1, hP1⟩ : ∃ x, (HP.sea h X p).1 = x := ⟨_, rfl⟩
  obtain ⟨e1, he1⟩ : ∃ x, (HP.sea h X p).2 = x := ⟨_, rfl⟩
  obtain ⟨d, hd⟩ : ∃ x, (HP.opn T).1 = x := ⟨_, rfl⟩
  obtain ⟨b, hb⟩ : ∃ x, (HP.opn T).2.1 = x := ⟨_, rfl⟩
  obtain ⟨e2, he2⟩ : ∃ x, (HP.opn T).2.2 = x := ⟨_, rfl⟩
  obtain ⟨r, hr⟩ : ∃ x, HP.right h = x := ⟨_, rfl⟩
  unfold seaV at SG SD
  unfold opnV at OG OD
  rw [hP1, he1] at SG SD
  rw [hd, hb, he2] at OG OD
  rw [hr] at TG TD
  clear hP1 he1 hd hb he2 hr
  obtain ⟨W0, hw0, HWB, HS0, HXH, HXB⟩ := body_boxes h S p w hs
  have HBV : Hid (∀ V, Below W0.heap.size W0 V → Hid (Below W0.heap.size W0 V) ∧ V.cell? ⟨w.heap.size, 0, none⟩ = some (.int .i64 h.k) ∧ V.cell? ⟨w.heap.size, 1, none⟩ = some (.int .i64 h.l) ∧ V.cell? ⟨w.heap.size, 2, none⟩ = some (.int .i64 h.c) ∧ V.cell? ⟨w.heap.size, 3, none⟩ = some (.int .i64 h.r) ∧ V.cell? ⟨w.heap.size, 4, none⟩ = some (.int .i64 h.s) ∧ V.cell? ⟨w.heap.size + 1, 0, none⟩ = some (.string S) ∧ V.cell? ⟨w.heap.size + 1, 1, none⟩ = some (.int .i64 p)) := Lib.hid (fun V hb => by
    obtain ⟨a0, a1, a2, a3, a4⟩ := (HXH.out.below hb).cells
    obtain ⟨b0, b1⟩ := (HXB.out.below hb).cells
    exact ⟨Lib.hid hb, a0, a1, a2, a3, a4, b0, b1⟩)
  obtain ⟨_, a0, a1, a2, a3, a4, b0, b1⟩ := HBV.out _ (Below.refl _ _)
  have hq1 : (m : Int) ≤ S.size := by omega
  have hq2 : (n : Int) ≤ s.size := by omega
  have hPP : (P1.toList == P1.toList) = true := beq_self_eq_true _
  have hbb : (b.toList == b.toList) = true := beq_self_eq_true _
  have hsm : sameH d d = true := sameH_iff.2 rfl
  have hrr : (r == r) = true := beq_self_eq_true _
  have hee : (e1 == e1) = true := beq_self_eq_true _
  have hff : (e2 == e2) = true := beq_self_eq_true _
  clear hs
  unfold hv at *
  go_enter Tryd.func3, Tryd.ntmps3
  go_wp2_with fail
  refine (Tells.at SG HS0 (Below.refl _ _)).mono ?_
  rintro e W1 ⟨rfl, hb1⟩
  have HB1 := Lib.hid hb1
  have hSd := HBV.out _ hb1.drew
  clear a0 a1 a2 a3 a4 b0 b1 hw0 hX hm hm2 hts hq1 hT hn hn2 hus hq2 hb1
  go_wp2_with fail
  go_region_held3 (fun V => Hid (Below W0.heap.size W0 V) ∧ V.cell? ⟨w.heap.size, 0, none⟩ = some (.int .i64 h.k) ∧ V.cell? ⟨w.heap.size, 1, none⟩ = some (.int .i64 h.l) ∧ V.cell? ⟨w.heap.size, 2, none⟩ = some (.int .i64 h.c) ∧ V.cell? ⟨w.heap.size, 3, none⟩ = some (.int .i64 h.r) ∧ V.cell? ⟨w.heap.size, 4, none⟩ = some (.int .i64 h.s) ∧ V.cell? ⟨w.heap.size + 1, 0, none⟩ = some (.string S) ∧ V.cell? ⟨w.heap.size + 1, 1, none⟩ = some (.int .i64 p))
    (first | assumption | exact hSd)
    (first
      | (go_at_call 11; refine (Tells.held (Lib.hid (TR.out _)) HS0 (by assumption)).mono ?_; rintro e V ⟨rfl, hb⟩; have hSn := HBV.out _ hb; clear hb)
      | (go_at_call 10; refine (Tells.held SD HS0 (by assumption)).mono ?_; rintro e W2 ⟨rfl, hb⟩; have hSn := HBV.out _ hb; have HB2 := Lib.hid hb; clear hb)
      | fail "no arm")
  clear hSd HBV HXB SG SD
  go_wp2_with fail
  refine (Tells.at OG HS0 HB2.out).mono ?_
  rintro e W3 ⟨rfl, hb3⟩
  have HBD := Lib.hid (show Bx 23 W3.heap.size d (W3.alloc (.cells #[.int .i64 d.k, .int .i64 d.l, .int .i64 d.c, .int .i64 d.r, .int .i64 d.s] 23)) from heap_alloc_new _ _)
  have HB4 := Lib.hid (hb3.trans' (below_alloc W3 (.cells #[.int .i64 d.k, .int .i64 d.l, .int .i64 d.c, .int .i64 d.r, .int .i64 d.s] 23)))
  have HS4 := Lib.hid (HS0.out.kept HB4.out)
  have HXH4 := Lib.hid (HXH.out.below HB4.out)
  have HW4 := Lib.hid (HWB.out.trans' HB4.out)
  clear hb3 HB2 HB1 HXH HS0 HWB HB4
  generalize hw4 : W3.alloc (.cells #[.int .i64 d.k, .int .i64 d.l, .int .i64 d.c, .int .i64 d.r, .int .i64 d.s] 23) = W4 at *
  generalize hg1 : W3.heap.size = g1 at *
  go_wp2_with fail
  refine (Tells.at OD HS4 (Below.refl _ _)).mono ?_
  rintro e W5 ⟨rfl, hb5⟩
  have HBE := Lib.hid (show Bx 30 W5.heap.size d (W5.alloc (.cells #[.int .i64 d.k, .int .i64 d.l, .int .i64 d.c, .int .i64 d.r, .int .i64 d.s] 30)) from heap_alloc_new _ _)
  have HB6 := Lib.hid (hb5.trans' (below_alloc W5 (.cells #[.int .i64 d.k, .int .i64 d.l, .int .i64 d.c, .int .i64 d.r, .int .i64 d.s] 30)))
  have HS6 := Lib.hid (HS4.out.kept HB6.out)
  have HXH6 := Lib.hid (HXH4.out.below HB6.out)
  have HBD6 := Lib.hid (HBD.out.below HB6.out)
  have HW6 := Lib.hid (HW4.out.trans' HB6.out)
  clear hb5 hw4 hg1 HBD HXH4 HS4 HW4 HB6 OG OD
  generalize hw6 : W5.alloc (.cells #[.int .i64 d.k, .int .i64 d.l, .int .i64 d.c, .int .i64 d.r, .int .i64 d.s] 30) = W6 at *
  generalize hg2 : W5.heap.size = g2 at *
  have HCV : Hid (∀ V, Below W6.heap.size W6 V → Hid (Below W6.heap.size W6 V) ∧ V.cell? ⟨w.heap.size, 0, none⟩ = some (.int .i64 h.k) ∧ V.cell? ⟨w.heap.size, 1, none⟩ = some (.int .i64 h.l) ∧ V.cell? ⟨w.heap.size, 2, none⟩ = some (.int .i64 h.c) ∧ V.cell? ⟨w.heap.size, 3, none⟩ = some (.int .i64 h.r) ∧ V.cell? ⟨w.heap.size, 4, none⟩ = some (.int .i64 h.s) ∧ V.cell? ⟨g1, 0, none⟩ = some (.int .i64 d.k) ∧ V.cell? ⟨g1, 1, none⟩ = some (.int .i64 d.l) ∧ V.cell? ⟨g1, 2, none⟩ = some (.int .i64 d.c) ∧ V.cell? ⟨g1, 3, none⟩ = some (.int .i64 d.r) ∧ V.cell? ⟨g1, 4, none⟩ = some (.int .i64 d.s) ∧ V.cell? ⟨g2, 0, none⟩ = some (.int .i64 d.k) ∧ V.cell? ⟨g2, 1, none⟩ = some (.int .i64 d.l) ∧ V.cell? ⟨g2, 2, none⟩ = some (.int .i64 d.c) ∧ V.cell? ⟨g2, 3, none⟩ = some (.int .i64 d.r) ∧ V.cell? ⟨g2, 4, none⟩ = some (.int .i64 d.s)) := Lib.hid (fun V hb => by
    obtain ⟨a0, a1, a2, a3, a4⟩ := (HXH6.out.below hb).cells
    obtain ⟨b0, b1, b2, b3, b4⟩ := (HBD6.out.below hb).cells
    obtain ⟨c0, c1, c2, c3, c4⟩ := (HBE.out.below hb).cells
    exact ⟨Lib.hid hb, a0, a1, a2, a3, a4, b0, b1, b2, b3, b4, c0, c1, c2, c3, c4⟩)
  have hSd := HCV.out _ (Below.refl W6.heap.size W6).drew
  go_wp2_with fail
  clear hw6 hg2
  go_region_held3 (fun V => Hid (Below W6.heap.size W6 V) ∧ V.cell? ⟨w.heap.size, 0, none⟩ = some (.int .i64 h.k) ∧ V.cell? ⟨w.heap.size, 1, none⟩ = some (.int .i64 h.l) ∧ V.cell? ⟨w.heap.size, 2, none⟩ = some (.int .i64 h.c) ∧ V.cell? ⟨w.heap.size, 3, none⟩ = some (.int .i64 h.r) ∧ V.cell? ⟨w.heap.size, 4, none⟩ = some (.int .i64 h.s) ∧ V.cell? ⟨g1, 0, none⟩ = some (.int .i64 d.k) ∧ V.cell? ⟨g1, 1, none⟩ = some (.int .i64 d.l) ∧ V.cell? ⟨g1, 2, none⟩ = some (.int .i64 d.c) ∧ V.cell? ⟨g1, 3, none⟩ = some (.int .i64 d.r) ∧ V.cell? ⟨g1, 4, none⟩ = some (.int .i64 d.s) ∧ V.cell? ⟨g2, 0, none⟩ = some (.int .i64 d.k) ∧ V.cell? ⟨g2, 1, none⟩ = some (.int .i64 d.l) ∧ V.cell? ⟨g2, 2, none⟩ = some (.int .i64 d.c) ∧ V.cell? ⟨g2, 3, none⟩ = some (.int .i64 d.r) ∧ V.cell? ⟨g2, 4, none⟩ = some (.int .i64 d.s))
    (first | assumption | exact hSd)
    (first
      | (go_at_call 14; refine (Tells.held TG HS6 (by assumption)).mono ?_; rintro e V ⟨rfl, hb⟩; have hSn := HCV.out _ hb; clear hb)
      | (go_at_call 11; refine (Tells.held (Lib.hid (TR.out _)) HS6 (by assumption)).mono ?_; rintro e V ⟨rfl, hb⟩; have hSn := HCV.out _ hb; clear hb)
      | (go_at_call 15; refine (Tells.held TD HS6 (by assumption)).mono ?_; rintro e V ⟨rfl, hb⟩; have hSn := HCV.out _ hb; clear hb)
      | (go_at_call 16; refine (Tells.held HFX HS6 (by assumption)).mono ?_; rintro e V ⟨rfl, hb⟩; have hSn := HCV.out _ hb; have HBZ := Lib.hid hb; clear hb)
      | fail "no arm")
  all_goals
    go_wp2_with fail
    go_ret
    exact ⟨rfl, HW6.out.trans' HBZ.out⟩
end
end Go.Proofs.YtklmmkcbogcbaaaDoor
