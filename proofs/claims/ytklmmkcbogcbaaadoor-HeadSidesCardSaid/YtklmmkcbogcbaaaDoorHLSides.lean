/-
  The walk of the law HeadSides.
-/
import Derived.Test.YtklmmkcbogcbaaaDoorHFixed
import Derived.Test.YtklmmkcbogcbaaaDoorHCut
namespace Go.Proofs.YtklmmkcbogcbaaaDoor
open Go.RowKit
set_option linter.unusedVariables false
set_option linter.unusedSimpArgs false

section
attribute [local go_sem high] eql_head
set_option maxHeartbeats 4000000 in
set_option maxRecDepth 100000 in
theorem headSides_walk (g h : HP.H) (x y : ByteArray) (w : World) (hs : Sizes w) (wx : x.size ≤ maxLen) (wy : y.size ≤ maxLen) :
    Calls Tryd.prog 7 #[hv g, hv h, .agg #[.string x, .string y]] w fun e w' => e = .returned (.bool true) ∧ Below w.heap.size w w' := by
  unfold maxLen at wx wy
  obtain ⟨m, hm, hm1, hms, hm2, hts⟩ := cut_min x 112 (by omega)
  obtain ⟨n, hn, hn1, hns, hn2, hus⟩ := cut_min y 112 (by omega)
  obtain ⟨X, hX⟩ : ∃ X, x.extract 0 m = X := ⟨_, rfl⟩
  obtain ⟨Y, hY⟩ : ∃ Y, y.extract 0 n = Y := ⟨_, rfl⟩
  rw [hX] at hts
  rw [hY] at hus
  have HX := filled X 112 (by omega) (by omega)
  have HY := filled Y 112 (by omega) (by omega)
  obtain ⟨nx, ZX, A, hnx, RX, hXA, sA, bX, bX2, hAl⟩ := HX
  obtain ⟨ny, ZY, B, hny, RY, hYB, sB, bY, bY2, hBl⟩ := HY
  have hwx : IntKind.i64.wrap (112 - (X.size : Int)) = nx := by rw [hnx]; exact IntWalk.i64_in _ (by omega)
  have hwy : IntKind.i64.wrap (112 - (Y.size : Int)) = ny := by rw [hny]; exact IntWalk.i64_in _ (by omega)
  have hnx' : (112 : Int) - (X.size : Int) = nx := by omega
  have hny' : (112 : Int) - (Y.size : Int) = ny := by omega
  have hwn : IntKind.i64.wrap (nx : Int) = nx := IntWalk.i64_in _ (by omega)
  have hwm : IntKind.i64.wrap (ny : Int) = ny := IntWalk.i64_in _ (by omega)
  clear hnx hny
  have TG := tRight g
  have TH := tRight h
  have SG := tSeal g A 128 (by decide) (by rw [sA]; decide)
  have SH := tSeal h B 128 (by decide) (by rw [sB]; decide)
  have HFX : Hid (Tells 16 #[] (.bool true)) := Lib.hid fun W hW => fixed_any W hW
  have HWB := Lib.hid (show Below w.heap.size w (((w.alloc (.cells #[.int .i64 g.k, .int .i64 g.l, .int .i64 g.c, .int .i64 g.r, .int .i64 g.s] 23)).alloc (.cells #[.int .i64 h.k, .int .i64 h.l, .int .i64 h.c, .int .i64 h.r, .int .i64 h.s] 23)).alloc (.cells #[.string x, .string y] 51)) from ((below_alloc _ _).trans' (below_alloc _ _)).trans' (below_alloc _ _))
  have HS0 := Lib.hid (((hs.alloc (.cells #[.int .i64 g.k, .int .i64 g.l, .int .i64 g.c, .int .i64 g.r, .int .i64 g.s] 23)).alloc (.cells #[.int .i64 h.k, .int .i64 h.l, .int .i64 h.c, .int .i64 h.r, .int .i64 h.s] 23)).alloc (.cells #[.string x, .string y] 51))
  have HXG := Lib.hid ((show Bx 23 w.heap.size g (w.alloc (.cells #[.int .i64 g.k, .int .i64 g.l, .int .i64 g.c, .int .i64 g.r, .int .i64 g.s] 23)) from heap_alloc_new _ _).below ((below_alloc _ (.cells #[.int .i64 h.k, .int .i64 h.l, .int .i64 h.c, .int .i64 h.r, .int .i64 h.s] 23)).trans' (below_alloc _ (.cells #[.string x, .string y] 51))))
  have HXH := Lib.hid ((show Bx 23 (w.heap.size + 1) h ((w.alloc (.cells #[.int .i64 g.k, .int .i64 g.l, .int .i64 g.c, .int .i64 g.r, .int .i64 g.s] 23)).alloc (.cells #[.int .i64 h.k, .int .i64 h.l, .int .i64 h.c, .int .i64 h.r, .int .i64 h.s] 23)) from by have k := heap_alloc_new (w.alloc (.cells #[.int .i64 g.k, .int .i64 g.l, .int .i64 g.c, .int .i64 g.r, .int .i64 g.s] 23)) (.cells #[.int .i64 h.k, .int .i64 h.l, .int .i64 h.c, .int .i64 h.r, .int .i64 h.s] 23); unfold Bx; simpa using k).below (below_alloc _ (.cells #[.string x, .string y] 51)))
  have HXX : Hid ((((w.alloc (.cells #[.int .i64 g.k, .int .i64 g.l, .int .i64 g.c, .int .i64 g.r, .int .i64 g.s] 23)).alloc (.cells #[.int .i64 h.k, .int .i64 h.l, .int .i64 h.c, .int .i64 h.r, .int .i64 h.s] 23)).alloc (.cells #[.string x, .string y] 51)).heap[w.heap.size + 2]? = some (.cells #[.string x, .string y] 51)) := Lib.hid (by have k := heap_alloc_new ((w.alloc (.cells #[.int .i64 g.k, .int .i64 g.l, .int .i64 g.c, .int .i64 g.r, .int .i64 g.s] 23)).alloc (.cells #[.int .i64 h.k, .int .i64 h.l, .int .i64 h.c, .int .i64 h.r, .int .i64 h.s] 23)) (.cells #[.string x, .string y] 51); simpa using k)
  have HAl := Lib.hid hAl
  have HBl := Lib.hid hBl
  have HsA := Lib.hid sA
  have HsB := Lib.hid sB
  clear hs hAl hBl sA sB
  unfold hv at *
  generalize hw0 : ((w.alloc (.cells #[.int .i64 g.k, .int .i64 g.l, .int .i64 g.c, .int .i64 g.r, .int .i64 g.s] 23)).alloc (.cells #[.int .i64 h.k, .int .i64 h.l, .int .i64 h.c, .int .i64 h.r, .int .i64 h.s] 23)).alloc (.cells #[.string x, .string y] 51) = W0 at *
  have z0 : W0.cell? ⟨w.heap.size + 2, 0, none⟩ = some (.string x) := by simp [World.cell?, HXX.out]
  have z1 : W0.cell? ⟨w.heap.size + 2, 1, none⟩ = some (.string y) := by simp [World.cell?, HXX.out]
  have HSV : Hid (∀ V, Below W0.heap.size W0 V → Hid (Below W0.heap.size W0 V) ∧ V.cell? ⟨w.heap.size, 0, none⟩ = some (.int .i64 g.k) ∧ V.cell? ⟨w.heap.size, 1, none⟩ = some (.int .i64 g.l) ∧ V.cell? ⟨w.heap.size, 2, none⟩ = some (.int .i64 g.c) ∧ V.cell? ⟨w.heap.size, 3, none⟩ = some (.int .i64 g.r) ∧ V.cell? ⟨w.heap.size, 4, none⟩ = some (.int .i64 g.s) ∧ V.cell? ⟨w.heap.size + 1, 0, none⟩ = some (.int .i64 h.k) ∧ V.cell? ⟨w.heap.size + 1, 1, none⟩ = some (.int .i64 h.l) ∧ V.cell? ⟨w.heap.size + 1, 2, none⟩ = some (.int .i64 h.c) ∧ V.cell? ⟨w.heap.size + 1, 3, none⟩ = some (.int .i64 h.r) ∧ V.cell? ⟨w.heap.size + 1, 4, none⟩ = some (.int .i64 h.s)) := Lib.hid (fun V hb => by
    obtain ⟨a0, a1, a2, a3, a4⟩ := (HXG.out.below hb).cells
    obtain ⟨b0, b1, b2, b3, b4⟩ := (HXH.out.below hb).cells
    exact ⟨Lib.hid hb, a0, a1, a2, a3, a4, b0, b1, b2, b3, b4⟩)
  have hq1 : (m : Int) ≤ x.size := by omega
  have hq2 : (n : Int) ≤ y.size := by omega
  go_enter Tryd.func7, Tryd.ntmps7
  go_wp2_with fail
  go_quiet (fail)
  have HB1 := Lib.hid (below_drewN (Below.refl W0.heap.size W0) nq)
  generalize W0.drewN nq = W1 at *
  clear z0 z1 hw0 hq1 hq2 hX hY hm hn hm2 hn2 hts hus HXX
  -- which ends there are
  obtain ⟨S, hS⟩ : ∃ S, (HP.sea g A 128).1 = S := ⟨_, rfl⟩
  obtain ⟨T, hT⟩ : ∃ T, (HP.sea h B 128).1 = T := ⟨_, rfl⟩
  obtain ⟨e1, he1⟩ : ∃ S, (HP.sea g A 128).2 = S := ⟨_, rfl⟩
  obtain ⟨e2, he2⟩ : ∃ T, (HP.sea h B 128).2 = T := ⟨_, rfl⟩
  have HEND : Hid ((HP.right g = false ∧ (e1 == 0) = false) ∨
      (HP.right g = true ∧ HP.right h = false ∧ e1 = 0 ∧ (e2 == 0) = false) ∨
      (HP.right g = true ∧ HP.right h = true ∧ e1 = 0 ∧ e2 = 0 ∧ (S = T ↔ g = h ∧ A = B))) := Lib.hid (by
    have hm128 : mayBe 128 = true := by decide
    rw [← hS, ← hT, ← he1, ← he2]
    cases hg : HP.right g with
    | false => exact .inl ⟨rfl, by rw [HP.seal_form A hm128 hg]; decide⟩
    | true =>
      have e1 := HP.seal_good (h := g) (b := A) hm128 hg (by rw [HsA.out]; decide)
      cases hh : HP.right h with
      | false => exact .inr (.inl ⟨rfl, rfl, by rw [e1], by rw [HP.seal_form B hm128 hh]; decide⟩)
      | true =>
        have e2 := HP.seal_good (h := h) (b := B) hm128 hh (by rw [HsB.out]; decide)
        refine .inr (.inr ⟨rfl, rfl, by rw [e1], by rw [e2], ?_⟩)
        rw [e1, e2, show (128 : Int).toNat = 128 from rfl, rest_full A 128 (by rw [HsA.out]), rest_full B 128 (by rw [HsB.out])]
        constructor
        · intro e
          have e3 := congrArg (fun x : ByteArray => x.data.toList) e
          obtain ⟨h1, h2⟩ := HP.page_inj g h _ _ (HP.right_iff.1 hg) (HP.right_iff.1 hh) (by simpa using e3)
          exact ⟨h1, ByteArray.ext (Array.toList_inj.1 h2)⟩
        · rintro ⟨rfl, rfl⟩
          rfl)
  unfold seaV at SG SH
  rw [hS, he1] at SG
  rw [hT, he2] at SH
  clear hS hT he1 he2
  go_wp2_with fail
  have hSd2 := HSV.out _ (below_drewN HB1.out 1)
  go_region_held3 (fun V => Hid (Below W0.heap.size W0 V) ∧ V.cell? ⟨w.heap.size, 0, none⟩ = some (.int .i64 g.k) ∧ V.cell? ⟨w.heap.size, 1, none⟩ = some (.int .i64 g.l) ∧ V.cell? ⟨w.heap.size, 2, none⟩ = some (.int .i64 g.c) ∧ V.cell? ⟨w.heap.size, 3, none⟩ = some (.int .i64 g.r) ∧ V.cell? ⟨w.heap.size, 4, none⟩ = some (.int .i64 g.s) ∧ V.cell? ⟨w.heap.size + 1, 0, none⟩ = some (.int .i64 h.k) ∧ V.cell? ⟨w.heap.size + 1, 1, none⟩ = some (.int .i64 h.l) ∧ V.cell? ⟨w.heap.size + 1, 2, none⟩ = some (.int .i64 h.c) ∧ V.cell? ⟨w.heap.size + 1, 3, none⟩ = some (.int .i64 h.r) ∧ V.cell? ⟨w.heap.size + 1, 4, none⟩ = some (.int .i64 h.s))
    (first | assumption | exact hSd2)
    (first
      | (go_at_call 17; refine (Tells.held RX HS0 (by assumption)).mono ?_; rintro e V ⟨rfl, hb⟩; have hSn := HSV.out _ hb; clear hb)
      | (go_at_call 9; refine (Tells.held SG HS0 (by assumption)).mono ?_; rintro e V2 ⟨rfl, hb⟩; have hSn := HSV.out _ hb; have HB2 := Lib.hid hb; clear hb)
      | fail "no arm")

  go_wp2_with fail
  have hSd3 := HSV.out _ (below_drewN HB2.out 1)
  go_region_held3 (fun V => Hid (Below W0.heap.size W0 V) ∧ V.cell? ⟨w.heap.size, 0, none⟩ = some (.int .i64 g.k) ∧ V.cell? ⟨w.heap.size, 1, none⟩ = some (.int .i64 g.l) ∧ V.cell? ⟨w.heap.size, 2, none⟩ = some (.int .i64 g.c) ∧ V.cell? ⟨w.heap.size, 3, none⟩ = some (.int .i64 g.r) ∧ V.cell? ⟨w.heap.size, 4, none⟩ = some (.int .i64 g.s) ∧ V.cell? ⟨w.heap.size + 1, 0, none⟩ = some (.int .i64 h.k) ∧ V.cell? ⟨w.heap.size + 1, 1, none⟩ = some (.int .i64 h.l) ∧ V.cell? ⟨w.heap.size + 1, 2, none⟩ = some (.int .i64 h.c) ∧ V.cell? ⟨w.heap.size + 1, 3, none⟩ = some (.int .i64 h.r) ∧ V.cell? ⟨w.heap.size + 1, 4, none⟩ = some (.int .i64 h.s))
    (first | assumption | exact hSd3)
    (first
      | (go_at_call 17; refine (Tells.held RY HS0 (by assumption)).mono ?_; rintro e V ⟨rfl, hb⟩; have hSn := HSV.out _ hb; clear hb)
      | (go_at_call 9; refine (Tells.held SH HS0 (by assumption)).mono ?_; rintro e V3 ⟨rfl, hb⟩; have hSn := HSV.out _ hb; have HB3 := Lib.hid hb; clear hb)
      | fail "no arm")

  obtain ⟨a0, a1, a2, a3, a4⟩ := (HXG.out.below HB3.out).cells
  rcases HEND.out with ⟨hg, he⟩ | ⟨hg, hh, rfl, he⟩ | ⟨hg, hh, rfl, rfl, hiff⟩
  · rw [hg] at TG
    clear hg HEND
    go_wp2_with fail
    refine (Tells.at TG HS0 HB3.out).mono ?_
    rintro e V4 ⟨rfl, hb4⟩
    have HB4 := Lib.hid hb4
    go_wp2_with fail
    refine (Tells.at HFX HS0 HB4.out).mono ?_
    rintro e V5 ⟨rfl, hb5⟩
    go_wp2_with fail
    go_ret
    exact ⟨rfl, HWB.out.trans' hb5⟩
  · rw [hg] at TG
    rw [hh] at TH
    clear hg hh HEND
    go_wp2_with fail
    refine (Tells.at TG HS0 HB3.out).mono ?_
    rintro e V4 ⟨rfl, hb4⟩
    have HB4 := Lib.hid hb4
    obtain ⟨c0, c1, c2, c3, c4⟩ := (HXH.out.below hb4).cells
    clear hb4
    go_wp2_with fail
    refine (Tells.at TH HS0 HB4.out).mono ?_
    rintro e V5 ⟨rfl, hb5⟩
    have HB5 := Lib.hid hb5
    go_wp2_with fail
    refine (Tells.at HFX HS0 HB5.out).mono ?_
    rintro e V6 ⟨rfl, hb6⟩
    go_wp2_with fail
    go_ret
    exact ⟨rfl, HWB.out.trans' hb6⟩
  · have HIF := Lib.hid hiff
    clear hg hh hiff HEND TG TH
    obtain ⟨c0, c1, c2, c3, c4⟩ := (HXH.out.below HB3.out).cells
    have HSH := Lib.hid (@sameH_iff g h)
    have hst := same_list S T
    have hab := same_list A B
    by_cases hgh : g = h
    · have hsm : sameH g h = true := sameH_iff.2 hgh
      by_cases hAB : A = B
      · have hST : S = T := HIF.out.2 ⟨hgh, hAB⟩
        rw [decide_eq_true hST] at hst
        rw [decide_eq_true hAB] at hab
        clear hgh hAB hST
        go_wp2_with fail
        refine (Tells.at RX HS0 HB3.out).mono ?_
        rintro e V4 ⟨rfl, hb4⟩
        have HB4 := Lib.hid hb4
        clear hb4
        go_wp2_with fail
        refine (Tells.at RY HS0 HB4.out).mono ?_
        rintro e V5 ⟨rfl, hb5⟩
        have HB5 := Lib.hid hb5
        clear hb5
        go_wp2_with fail
        refine (Tells.at HFX HS0 HB5.out).mono ?_
        rintro e V6 ⟨rfl, hb6⟩
        go_wp2_with fail
        go_ret
        exact ⟨rfl, HWB.out.trans' hb6⟩
      · have hST : ¬ S = T := fun e => hAB (HIF.out.1 e).2
        rw [decide_eq_false hST] at hst
        rw [decide_eq_false hAB] at hab
        clear hgh hAB hST
        go_wp2_with fail
        refine (Tells.at RX HS0 HB3.out).mono ?_
        rintro e V4 ⟨rfl, hb4⟩
        have HB4 := Lib.hid hb4
        clear hb4
        go_wp2_with fail
        refine (Tells.at RY HS0 HB4.out).mono ?_
        rintro e V5 ⟨rfl, hb5⟩
        have HB5 := Lib.hid hb5
        clear hb5
        go_wp2_with fail
        refine (Tells.at HFX HS0 HB5.out).mono ?_
        rintro e V6 ⟨rfl, hb6⟩
        go_wp2_with fail
        go_ret
        exact ⟨rfl, HWB.out.trans' hb6⟩
    · have hsm : sameH g h = false := by
        cases hc : sameH g h with
        | false => rfl
        | true => exact absurd (sameH_iff.1 hc) hgh
      have hST : ¬ S = T := fun e => hgh (HIF.out.1 e).1
      rw [decide_eq_false hST] at hst
      clear hgh hST hab
      go_wp2_with fail
      refine (Tells.at HFX HS0 HB3.out).mono ?_
      rintro e V6 ⟨rfl, hb6⟩
      go_wp2_with fail
      go_ret
      exact ⟨rfl, HWB.out.trans' hb6⟩
end
end Go.Proofs.YtklmmkcbogcbaaaDoor
