/-
  The walk of the law CellBack. Written by wip/gen_vback.py.
-/
import Derived.Test.YtppnchjmbeinkaaVLaw
namespace Go.Proofs.Ytppnchjmbeinkaa
open Go.RowKit
set_option linter.unusedVariables false
set_option linter.unusedSimpArgs false

set_option maxHeartbeats 4000000 in
set_option maxRecDepth 100000 in
theorem cellBack_walk (HSAY : Says) (X : ByteArray) (O : Bool) (S : ByteArray) (L P : Int) (Y : ByteArray) (k : Int) (w : World) (wx : X.size ≤ maxLen) (ws : S.size ≤ maxLen) (wy : Y.size ≤ maxLen) :
    Calls Try.prog 4 #[.string X, vv O S L P, .agg #[.string Y, .int .i64 k]] w fun e w' => e = .returned (.bool true) ∧ Below w.heap.size w w' := by
  have HFX := Lib.hid (fun W => fixed_any HSAY W)
  have hbA := below_alloc w (.cells #[.bool O, .string S, .int .i64 L, .int .i64 P] 23)
  have hbB := below_alloc (w.alloc (.cells #[.bool O, .string S, .int .i64 L, .int .i64 P] 23)) (.cells #[.string Y, .int .i64 k] 25)
  have hb0 := hbA.trans' hbB
  have HK0 := Lib.hid ((Bx.new 23 O S L P w).below hbB)
  have HX0 : Hid (Blk (w.heap.size + 1) #[.string Y, .int .i64 k] 25 ((w.alloc (.cells #[.bool O, .string S, .int .i64 L, .int .i64 P] 23)).alloc (.cells #[.string Y, .int .i64 k] 25))) := Lib.hid (by
    have h := heap_alloc_new (w.alloc (.cells #[.bool O, .string S, .int .i64 L, .int .i64 P] 23)) (.cells #[.string Y, .int .i64 k] 25)
    rw [show (w.alloc (.cells #[.bool O, .string S, .int .i64 L, .int .i64 P] 23)).heap.size = w.heap.size + 1 by simp] at h
    exact h)
  have HCUT := Lib.hid (fun W => vcut_any O S L P W ws)
  have hV := cutV_size S
  unfold maxLen at wx wy
  obtain ⟨m, hm, hm6, hms, hmm, hfs⟩ := cut_min X 140 (by omega)
  obtain ⟨T, hT⟩ : ∃ T, X.extract 0 m = T := ⟨_, rfl⟩
  rw [hT] at hfs
  have hTs : T.size ≤ 140 := by omega
  obtain ⟨n, hn, hn6, hns, hnn, hgs⟩ := cut_min Y 500 (by omega)
  obtain ⟨Y', hY⟩ : ∃ T, Y.extract 0 n = T := ⟨_, rfl⟩
  rw [hY] at hgs
  have hYs : Y'.size ≤ 500 := by omega
  clear hfs hgs ws
  generalize cutV S = V at *
  have HPV := Lib.hid (fun W => HSAY.putV T O V L P (by omega) (by omega) W)
  have HPK := Lib.hid (fun W => HSAY.putK k T (by omega) W)
  have HRI := Lib.hid (fun W => HSAY.right O V L P W)
  obtain ⟨gT, gO, gV, gL, gP, ge, gC, gf, b1, b2, hg1, hg2, HGC⟩ := got_any Y'
  obtain ⟨dk, dT, de, dC, df, b3, hd1, hd2, HDC⟩ := gotk_any Y'
  have HGV := Lib.hid (fun W => HSAY.getV Y' (by omega) W)
  have HGK := Lib.hid (fun W => HSAY.getK Y' (by omega) W)
  rw [hg1] at HGV
  rw [hd1] at HGK
  have HGP := Lib.hid (fun W => HSAY.putV gT gO gV gL gP (by omega) (by omega) W)
  have HDP := Lib.hid (fun W => HSAY.putK dk dT (by omega) W)
  rw [hg2] at HGP
  rw [hd2] at HDP
  have HGC := Lib.hid HGC
  have HDC := Lib.hid HDC
  clear hg1 hg2 hd1 hd2 b1 b2 b3 hYs
  have hts := list_size T
  by_cases hOk : VP.OkV T.data.toList (pv O V L P)
  · rw [putV_yes hOk] at HPV
    have hcb := cell_bound hOk hV
    have HGE := Lib.hid (fun W => HSAY.getV (cellS T (pv O V L P)) (by omega) W)
    rw [got_put hOk] at HGE
    have hT8 : T.size ≤ 128 := by have := hOk.1; omega
    rw [decide_eq_true hOk.2] at HRI
    generalize cellS T (pv O V L P) = C at *
    have d1 : decide ((T.size : Int) ≤ 128) = true := decide_eq_true (by omega)
    have d2 : decide (T.size ≤ 128) = true := decide_eq_true hT8
    clear hcb hOk hT8
    by_cases hK : VP.OkK k T.data.toList
    · have e2 := putK_yes hK
      have hkb := kid_bound (k := k.toNat) (T := T) (by have := hK.2.2; omega)
      have HKE := Lib.hid (fun W => HSAY.getK (kidS k.toNat T) (by omega) W)
      rw [gotk_put (by have h1 := hK.1; rw [show ((k.toNat : Nat) : Int) = k by omega]; exact hK), show ((k.toNat : Nat) : Int) = k by have h1 := hK.1; omega] at HKE
      rw [e2] at HPK
      generalize kidS k.toNat T = D at *
      clear e2 hkb hK HSAY hts hTs hV
      go_enter Try.func4, Try.ntmps4
      go_wp2_with fail
      refine (HCUT.out _).mono ?_
      rintro e w1 ⟨rfl, hb1⟩
      have L0 := HK0.out.below hb1
      have X0 := HX0.out.below hb1
      have hbL := hb0.trans' hb1
      clear hb1 HK0 HX0 hb0 HCUT hbA hbB
      obtain ⟨a0, a1, a2, a3⟩ := L0.cells
      obtain ⟨f0, f1, f2, f3⟩ := L0.free
      have K1 := set4_box L0 O V L P
      have X1 : Blk (w.heap.size + 1) #[.string Y, .int .i64 k] 25 (set4 w1 w.heap.size O V L P) := (set4_other (by omega) O V L P).trans X0
      have hbW := set4_below hbL (Nat.le_refl _) O V L P
      obtain ⟨W, hW⟩ : ∃ W, set4 w1 w.heap.size O V L P = W := ⟨_, rfl⟩
      rw [hW] at K1 X1 hbW
      unfold set4 at hW
      have HC := keep_two K1 X1
      have HBW := Lib.hid hbW
      have HB0 := Lib.hid (Below.refl W.heap.size W)
      clear L0 X0 hbL K1 X1 hbW
      obtain ⟨hv, hx⟩ := HC.out _ HB0.out
      obtain ⟨v0, v1, v2, v3⟩ := hv.cells
      have x0 := hx.cell 0 _ rfl
      have x1 := hx.cell 1 _ rfl
      clear hv hx
      go_wp2_with fail
      refine (HPV.out _).mono ?_
      rintro e u10 ⟨rfl, hb⟩
      have HB10 := Lib.hid (HB0.out.trans' hb)
      clear hb HB0
      clear a0 a1 a2 a3 f0 f1 f2 f3 hW
      clear v0 v1 v2 v3 x0 x1
      obtain ⟨hv, hx⟩ := HC.out _ HB10.out
      obtain ⟨v0, v1, v2, v3⟩ := hv.cells
      have x0 := hx.cell 0 _ rfl
      have x1 := hx.cell 1 _ rfl
      clear hv hx
      go_wp2_with fail
      refine (HGE.out _).mono ?_
      rintro e u11 ⟨rfl, hb⟩
      have HB11 := Lib.hid (HB10.out.trans' hb)
      clear hb HB10
      have HN1 := Lib.hid (Bx.new 23 O V L P u11)
      have HB12 := Lib.hid (HB11.out.trans' (below_alloc u11 (.cells #[.bool O, .string V, .int .i64 L, .int .i64 P] 23)))
      obtain ⟨A12, hA12⟩ : ∃ A, u11.alloc (.cells #[.bool O, .string V, .int .i64 L, .int .i64 P] 23) = A := ⟨_, rfl⟩
      rw [hA12] at HB12 HN1
      clear HB11
      clear v0 v1 v2 v3 x0 x1
      obtain ⟨hv, hx⟩ := HC.out _ HB12.out
      obtain ⟨v0, v1, v2, v3⟩ := hv.cells
      have x0 := hx.cell 0 _ rfl
      have x1 := hx.cell 1 _ rfl
      clear hv hx
      obtain ⟨n0, n1, n2, n3⟩ := HN1.out.cells
      go_wp2_with fail
      refine (HPK.out _).mono ?_
      rintro e u13 ⟨rfl, hb⟩
      have HB13 := Lib.hid (HB12.out.trans' hb)
      clear hb HB12
      clear n0 n1 n2 n3 HN1
      clear v0 v1 v2 v3 x0 x1
      obtain ⟨hv, hx⟩ := HC.out _ HB13.out
      obtain ⟨v0, v1, v2, v3⟩ := hv.cells
      have x0 := hx.cell 0 _ rfl
      have x1 := hx.cell 1 _ rfl
      clear hv hx
      go_wp2_with fail
      refine (HKE.out _).mono ?_
      rintro e u14 ⟨rfl, hb⟩
      have HB14 := Lib.hid (HB13.out.trans' hb)
      clear hb HB13
      clear v0 v1 v2 v3 x0 x1
      obtain ⟨hv, hx⟩ := HC.out _ HB14.out
      obtain ⟨v0, v1, v2, v3⟩ := hv.cells
      have x0 := hx.cell 0 _ rfl
      have x1 := hx.cell 1 _ rfl
      clear hv hx
      go_wp2_with fail
      refine (HGV.out _).mono ?_
      rintro e u15 ⟨rfl, hb⟩
      have HB15 := Lib.hid (HB14.out.trans' hb)
      clear hb HB14
      have HN2 := Lib.hid (Bx.new 23 gO gV gL gP u15)
      have HB16 := Lib.hid (HB15.out.trans' (below_alloc u15 (.cells #[.bool gO, .string gV, .int .i64 gL, .int .i64 gP] 23)))
      obtain ⟨A16, hA16⟩ : ∃ A, u15.alloc (.cells #[.bool gO, .string gV, .int .i64 gL, .int .i64 gP] 23) = A := ⟨_, rfl⟩
      rw [hA16] at HB16 HN2
      clear HB15
      clear v0 v1 v2 v3 x0 x1
      obtain ⟨hv, hx⟩ := HC.out _ HB16.out
      obtain ⟨v0, v1, v2, v3⟩ := hv.cells
      have x0 := hx.cell 0 _ rfl
      have x1 := hx.cell 1 _ rfl
      clear hv hx
      obtain ⟨n0, n1, n2, n3⟩ := HN2.out.cells
      go_wp2_with fail
      refine (HGK.out _).mono ?_
      rintro e u17 ⟨rfl, hb⟩
      have HN3 := Lib.hid (HN2.out.below hb)
      have HB17 := Lib.hid (HB16.out.trans' hb)
      clear hb HB16
      clear v0 v1 v2 v3 x0 x1
      obtain ⟨hv, hx⟩ := HC.out _ HB17.out
      obtain ⟨v0, v1, v2, v3⟩ := hv.cells
      have x0 := hx.cell 0 _ rfl
      have x1 := hx.cell 1 _ rfl
      clear hv hx
      clear n0 n1 n2 n3
      obtain ⟨n0, n1, n2, n3⟩ := HN3.out.cells
      go_wp2_with fail
      refine (HGP.out _).mono ?_
      rintro e u18 ⟨rfl, hb⟩
      have HB18 := Lib.hid (HB17.out.trans' hb)
      clear hb HB17
      clear v0 v1 v2 v3 x0 x1
      obtain ⟨hv, hx⟩ := HC.out _ HB18.out
      obtain ⟨v0, v1, v2, v3⟩ := hv.cells
      have x0 := hx.cell 0 _ rfl
      have x1 := hx.cell 1 _ rfl
      clear hv hx
      clear n0 n1 n2 n3 HN2 HN3
      go_wp2_with fail
      refine (HDP.out _).mono ?_
      rintro e u19 ⟨rfl, hb⟩
      have HB19 := Lib.hid (HB18.out.trans' hb)
      clear hb HB18
      clear v0 v1 v2 v3 x0 x1
      obtain ⟨hv, hx⟩ := HC.out _ HB19.out
      obtain ⟨v0, v1, v2, v3⟩ := hv.cells
      have x0 := hx.cell 0 _ rfl
      have x1 := hx.cell 1 _ rfl
      clear hv hx
      go_wp2_with fail
      refine (HRI.out _).mono ?_
      rintro e u20 ⟨rfl, hb⟩
      have HB20 := Lib.hid (HB19.out.trans' hb)
      clear hb HB19
      clear v0 v1 v2 v3 x0 x1
      rcases HGC.out with ⟨rfl, rfl, rfl⟩ | rfl
      · rcases HDC.out with ⟨rfl, rfl, rfl⟩ | rfl
        · go_wp2_with fail
          refine (HFX.out _).mono ?_
          rintro e u21 ⟨rfl, hb⟩
          have HB21 := Lib.hid (HB20.out.trans' hb)
          clear hb HB20
          go_wp2_with fail
          go_ret
          exact ⟨rfl, HBW.out.trans' HB21.out⟩
        · go_wp2_with fail
          refine (HFX.out _).mono ?_
          rintro e u21 ⟨rfl, hb⟩
          have HB21 := Lib.hid (HB20.out.trans' hb)
          clear hb HB20
          go_wp2_with fail
          go_ret
          exact ⟨rfl, HBW.out.trans' HB21.out⟩
      · rcases HDC.out with ⟨rfl, rfl, rfl⟩ | rfl
        · go_wp2_with fail
          refine (HFX.out _).mono ?_
          rintro e u21 ⟨rfl, hb⟩
          have HB21 := Lib.hid (HB20.out.trans' hb)
          clear hb HB20
          go_wp2_with fail
          go_ret
          exact ⟨rfl, HBW.out.trans' HB21.out⟩
        · go_wp2_with fail
          refine (HFX.out _).mono ?_
          rintro e u21 ⟨rfl, hb⟩
          have HB21 := Lib.hid (HB20.out.trans' hb)
          clear hb HB20
          go_wp2_with fail
          go_ret
          exact ⟨rfl, HBW.out.trans' HB21.out⟩
    · rw [putK_no hK] at HPK
      clear hK HSAY hts hTs hV
      go_enter Try.func4, Try.ntmps4
      go_wp2_with fail
      refine (HCUT.out _).mono ?_
      rintro e w1 ⟨rfl, hb1⟩
      have L0 := HK0.out.below hb1
      have X0 := HX0.out.below hb1
      have hbL := hb0.trans' hb1
      clear hb1 HK0 HX0 hb0 HCUT hbA hbB
      obtain ⟨a0, a1, a2, a3⟩ := L0.cells
      obtain ⟨f0, f1, f2, f3⟩ := L0.free
      have K1 := set4_box L0 O V L P
      have X1 : Blk (w.heap.size + 1) #[.string Y, .int .i64 k] 25 (set4 w1 w.heap.size O V L P) := (set4_other (by omega) O V L P).trans X0
      have hbW := set4_below hbL (Nat.le_refl _) O V L P
      obtain ⟨W, hW⟩ : ∃ W, set4 w1 w.heap.size O V L P = W := ⟨_, rfl⟩
      rw [hW] at K1 X1 hbW
      unfold set4 at hW
      have HC := keep_two K1 X1
      have HBW := Lib.hid hbW
      have HB0 := Lib.hid (Below.refl W.heap.size W)
      clear L0 X0 hbL K1 X1 hbW
      obtain ⟨hv, hx⟩ := HC.out _ HB0.out
      obtain ⟨v0, v1, v2, v3⟩ := hv.cells
      have x0 := hx.cell 0 _ rfl
      have x1 := hx.cell 1 _ rfl
      clear hv hx
      go_wp2_with fail
      refine (HPV.out _).mono ?_
      rintro e u10 ⟨rfl, hb⟩
      have HB10 := Lib.hid (HB0.out.trans' hb)
      clear hb HB0
      clear a0 a1 a2 a3 f0 f1 f2 f3 hW
      clear v0 v1 v2 v3 x0 x1
      obtain ⟨hv, hx⟩ := HC.out _ HB10.out
      obtain ⟨v0, v1, v2, v3⟩ := hv.cells
      have x0 := hx.cell 0 _ rfl
      have x1 := hx.cell 1 _ rfl
      clear hv hx
      go_wp2_with fail
      refine (HGE.out _).mono ?_
      rintro e u11 ⟨rfl, hb⟩
      have HB11 := Lib.hid (HB10.out.trans' hb)
      clear hb HB10
      have HN1 := Lib.hid (Bx.new 23 O V L P u11)
      have HB12 := Lib.hid (HB11.out.trans' (below_alloc u11 (.cells #[.bool O, .string V, .int .i64 L, .int .i64 P] 23)))
      obtain ⟨A12, hA12⟩ : ∃ A, u11.alloc (.cells #[.bool O, .string V, .int .i64 L, .int .i64 P] 23) = A := ⟨_, rfl⟩
      rw [hA12] at HB12 HN1
      clear HB11
      clear v0 v1 v2 v3 x0 x1
      obtain ⟨hv, hx⟩ := HC.out _ HB12.out
      obtain ⟨v0, v1, v2, v3⟩ := hv.cells
      have x0 := hx.cell 0 _ rfl
      have x1 := hx.cell 1 _ rfl
      clear hv hx
      obtain ⟨n0, n1, n2, n3⟩ := HN1.out.cells
      go_wp2_with fail
      refine (HPK.out _).mono ?_
      rintro e u13 ⟨rfl, hb⟩
      have HB13 := Lib.hid (HB12.out.trans' hb)
      clear hb HB12
      clear n0 n1 n2 n3 HN1
      clear v0 v1 v2 v3 x0 x1
      obtain ⟨hv, hx⟩ := HC.out _ HB13.out
      obtain ⟨v0, v1, v2, v3⟩ := hv.cells
      have x0 := hx.cell 0 _ rfl
      have x1 := hx.cell 1 _ rfl
      clear hv hx
      go_wp2_with fail
      refine (HGV.out _).mono ?_
      rintro e u14 ⟨rfl, hb⟩
      have HB14 := Lib.hid (HB13.out.trans' hb)
      clear hb HB13
      have HN2 := Lib.hid (Bx.new 23 gO gV gL gP u14)
      have HB15 := Lib.hid (HB14.out.trans' (below_alloc u14 (.cells #[.bool gO, .string gV, .int .i64 gL, .int .i64 gP] 23)))
      obtain ⟨A15, hA15⟩ : ∃ A, u14.alloc (.cells #[.bool gO, .string gV, .int .i64 gL, .int .i64 gP] 23) = A := ⟨_, rfl⟩
      rw [hA15] at HB15 HN2
      clear HB14
      clear v0 v1 v2 v3 x0 x1
      obtain ⟨hv, hx⟩ := HC.out _ HB15.out
      obtain ⟨v0, v1, v2, v3⟩ := hv.cells
      have x0 := hx.cell 0 _ rfl
      have x1 := hx.cell 1 _ rfl
      clear hv hx
      obtain ⟨n0, n1, n2, n3⟩ := HN2.out.cells
      go_wp2_with fail
      refine (HGK.out _).mono ?_
      rintro e u16 ⟨rfl, hb⟩
      have HN3 := Lib.hid (HN2.out.below hb)
      have HB16 := Lib.hid (HB15.out.trans' hb)
      clear hb HB15
      clear v0 v1 v2 v3 x0 x1
      obtain ⟨hv, hx⟩ := HC.out _ HB16.out
      obtain ⟨v0, v1, v2, v3⟩ := hv.cells
      have x0 := hx.cell 0 _ rfl
      have x1 := hx.cell 1 _ rfl
      clear hv hx
      clear n0 n1 n2 n3
      obtain ⟨n0, n1, n2, n3⟩ := HN3.out.cells
      go_wp2_with fail
      refine (HGP.out _).mono ?_
      rintro e u17 ⟨rfl, hb⟩
      have HB17 := Lib.hid (HB16.out.trans' hb)
      clear hb HB16
      clear v0 v1 v2 v3 x0 x1
      obtain ⟨hv, hx⟩ := HC.out _ HB17.out
      obtain ⟨v0, v1, v2, v3⟩ := hv.cells
      have x0 := hx.cell 0 _ rfl
      have x1 := hx.cell 1 _ rfl
      clear hv hx
      clear n0 n1 n2 n3 HN2 HN3
      go_wp2_with fail
      refine (HDP.out _).mono ?_
      rintro e u18 ⟨rfl, hb⟩
      have HB18 := Lib.hid (HB17.out.trans' hb)
      clear hb HB17
      clear v0 v1 v2 v3 x0 x1
      obtain ⟨hv, hx⟩ := HC.out _ HB18.out
      obtain ⟨v0, v1, v2, v3⟩ := hv.cells
      have x0 := hx.cell 0 _ rfl
      have x1 := hx.cell 1 _ rfl
      clear hv hx
      go_wp2_with fail
      refine (HRI.out _).mono ?_
      rintro e u19 ⟨rfl, hb⟩
      have HB19 := Lib.hid (HB18.out.trans' hb)
      clear hb HB18
      clear v0 v1 v2 v3 x0 x1
      rcases HGC.out with ⟨rfl, rfl, rfl⟩ | rfl
      · rcases HDC.out with ⟨rfl, rfl, rfl⟩ | rfl
        · go_wp2_with fail
          refine (HFX.out _).mono ?_
          rintro e u20 ⟨rfl, hb⟩
          have HB20 := Lib.hid (HB19.out.trans' hb)
          clear hb HB19
          go_wp2_with fail
          go_ret
          exact ⟨rfl, HBW.out.trans' HB20.out⟩
        · go_wp2_with fail
          refine (HFX.out _).mono ?_
          rintro e u20 ⟨rfl, hb⟩
          have HB20 := Lib.hid (HB19.out.trans' hb)
          clear hb HB19
          go_wp2_with fail
          go_ret
          exact ⟨rfl, HBW.out.trans' HB20.out⟩
      · rcases HDC.out with ⟨rfl, rfl, rfl⟩ | rfl
        · go_wp2_with fail
          refine (HFX.out _).mono ?_
          rintro e u20 ⟨rfl, hb⟩
          have HB20 := Lib.hid (HB19.out.trans' hb)
          clear hb HB19
          go_wp2_with fail
          go_ret
          exact ⟨rfl, HBW.out.trans' HB20.out⟩
        · go_wp2_with fail
          refine (HFX.out _).mono ?_
          rintro e u20 ⟨rfl, hb⟩
          have HB20 := Lib.hid (HB19.out.trans' hb)
          clear hb HB19
          go_wp2_with fail
          go_ret
          exact ⟨rfl, HBW.out.trans' HB20.out⟩
  · by_cases hR : VP.Right (pv O V L P)
    · rw [putV_no hOk] at HPV
      have hT8 : 128 < T.size := Nat.lt_of_not_le fun h => hOk ⟨by omega, hR⟩
      rw [decide_eq_true hR] at HRI
      have d1 : decide ((T.size : Int) ≤ 128) = false := decide_eq_false (by omega)
      have d2 : decide (T.size ≤ 128) = false := decide_eq_false (by omega)
      have hK : ¬ VP.OkK k T.data.toList := fun h => by have := h.2.2; omega
      rw [putK_no hK] at HPK
      clear hR hOk hT8 hK HSAY hts hTs hV
      go_enter Try.func4, Try.ntmps4
      go_wp2_with fail
      refine (HCUT.out _).mono ?_
      rintro e w1 ⟨rfl, hb1⟩
      have L0 := HK0.out.below hb1
      have X0 := HX0.out.below hb1
      have hbL := hb0.trans' hb1
      clear hb1 HK0 HX0 hb0 HCUT hbA hbB
      obtain ⟨a0, a1, a2, a3⟩ := L0.cells
      obtain ⟨f0, f1, f2, f3⟩ := L0.free
      have K1 := set4_box L0 O V L P
      have X1 : Blk (w.heap.size + 1) #[.string Y, .int .i64 k] 25 (set4 w1 w.heap.size O V L P) := (set4_other (by omega) O V L P).trans X0
      have hbW := set4_below hbL (Nat.le_refl _) O V L P
      obtain ⟨W, hW⟩ : ∃ W, set4 w1 w.heap.size O V L P = W := ⟨_, rfl⟩
      rw [hW] at K1 X1 hbW
      unfold set4 at hW
      have HC := keep_two K1 X1
      have HBW := Lib.hid hbW
      have HB0 := Lib.hid (Below.refl W.heap.size W)
      clear L0 X0 hbL K1 X1 hbW
      obtain ⟨hv, hx⟩ := HC.out _ HB0.out
      obtain ⟨v0, v1, v2, v3⟩ := hv.cells
      have x0 := hx.cell 0 _ rfl
      have x1 := hx.cell 1 _ rfl
      clear hv hx
      go_wp2_with fail
      refine (HPV.out _).mono ?_
      rintro e u10 ⟨rfl, hb⟩
      have HB10 := Lib.hid (HB0.out.trans' hb)
      clear hb HB0
      clear a0 a1 a2 a3 f0 f1 f2 f3 hW
      clear v0 v1 v2 v3 x0 x1
      obtain ⟨hv, hx⟩ := HC.out _ HB10.out
      obtain ⟨v0, v1, v2, v3⟩ := hv.cells
      have x0 := hx.cell 0 _ rfl
      have x1 := hx.cell 1 _ rfl
      clear hv hx
      go_wp2_with fail
      refine (HPK.out _).mono ?_
      rintro e u11 ⟨rfl, hb⟩
      have HB11 := Lib.hid (HB10.out.trans' hb)
      clear hb HB10
      clear v0 v1 v2 v3 x0 x1
      obtain ⟨hv, hx⟩ := HC.out _ HB11.out
      obtain ⟨v0, v1, v2, v3⟩ := hv.cells
      have x0 := hx.cell 0 _ rfl
      have x1 := hx.cell 1 _ rfl
      clear hv hx
      go_wp2_with fail
      refine (HGV.out _).mono ?_
      rintro e u12 ⟨rfl, hb⟩
      have HB12 := Lib.hid (HB11.out.trans' hb)
      clear hb HB11
      have HN2 := Lib.hid (Bx.new 23 gO gV gL gP u12)
      have HB13 := Lib.hid (HB12.out.trans' (below_alloc u12 (.cells #[.bool gO, .string gV, .int .i64 gL, .int .i64 gP] 23)))
      obtain ⟨A13, hA13⟩ : ∃ A, u12.alloc (.cells #[.bool gO, .string gV, .int .i64 gL, .int .i64 gP] 23) = A := ⟨_, rfl⟩
      rw [hA13] at HB13 HN2
      clear HB12
      clear v0 v1 v2 v3 x0 x1
      obtain ⟨hv, hx⟩ := HC.out _ HB13.out
      obtain ⟨v0, v1, v2, v3⟩ := hv.cells
      have x0 := hx.cell 0 _ rfl
      have x1 := hx.cell 1 _ rfl
      clear hv hx
      obtain ⟨n0, n1, n2, n3⟩ := HN2.out.cells
      go_wp2_with fail
      refine (HGK.out _).mono ?_
      rintro e u14 ⟨rfl, hb⟩
      have HN3 := Lib.hid (HN2.out.below hb)
      have HB14 := Lib.hid (HB13.out.trans' hb)
      clear hb HB13
      clear v0 v1 v2 v3 x0 x1
      obtain ⟨hv, hx⟩ := HC.out _ HB14.out
      obtain ⟨v0, v1, v2, v3⟩ := hv.cells
      have x0 := hx.cell 0 _ rfl
      have x1 := hx.cell 1 _ rfl
      clear hv hx
      clear n0 n1 n2 n3
      obtain ⟨n0, n1, n2, n3⟩ := HN3.out.cells
      go_wp2_with fail
      refine (HGP.out _).mono ?_
      rintro e u15 ⟨rfl, hb⟩
      have HB15 := Lib.hid (HB14.out.trans' hb)
      clear hb HB14
      clear v0 v1 v2 v3 x0 x1
      obtain ⟨hv, hx⟩ := HC.out _ HB15.out
      obtain ⟨v0, v1, v2, v3⟩ := hv.cells
      have x0 := hx.cell 0 _ rfl
      have x1 := hx.cell 1 _ rfl
      clear hv hx
      clear n0 n1 n2 n3 HN2 HN3
      go_wp2_with fail
      refine (HDP.out _).mono ?_
      rintro e u16 ⟨rfl, hb⟩
      have HB16 := Lib.hid (HB15.out.trans' hb)
      clear hb HB15
      clear v0 v1 v2 v3 x0 x1
      obtain ⟨hv, hx⟩ := HC.out _ HB16.out
      obtain ⟨v0, v1, v2, v3⟩ := hv.cells
      have x0 := hx.cell 0 _ rfl
      have x1 := hx.cell 1 _ rfl
      clear hv hx
      go_wp2_with fail
      refine (HRI.out _).mono ?_
      rintro e u17 ⟨rfl, hb⟩
      have HB17 := Lib.hid (HB16.out.trans' hb)
      clear hb HB16
      clear v0 v1 v2 v3 x0 x1
      rcases HGC.out with ⟨rfl, rfl, rfl⟩ | rfl
      · rcases HDC.out with ⟨rfl, rfl, rfl⟩ | rfl
        · go_wp2_with fail
          refine (HFX.out _).mono ?_
          rintro e u18 ⟨rfl, hb⟩
          have HB18 := Lib.hid (HB17.out.trans' hb)
          clear hb HB17
          go_wp2_with fail
          go_ret
          exact ⟨rfl, HBW.out.trans' HB18.out⟩
        · go_wp2_with fail
          refine (HFX.out _).mono ?_
          rintro e u18 ⟨rfl, hb⟩
          have HB18 := Lib.hid (HB17.out.trans' hb)
          clear hb HB17
          go_wp2_with fail
          go_ret
          exact ⟨rfl, HBW.out.trans' HB18.out⟩
      · rcases HDC.out with ⟨rfl, rfl, rfl⟩ | rfl
        · go_wp2_with fail
          refine (HFX.out _).mono ?_
          rintro e u18 ⟨rfl, hb⟩
          have HB18 := Lib.hid (HB17.out.trans' hb)
          clear hb HB17
          go_wp2_with fail
          go_ret
          exact ⟨rfl, HBW.out.trans' HB18.out⟩
        · go_wp2_with fail
          refine (HFX.out _).mono ?_
          rintro e u18 ⟨rfl, hb⟩
          have HB18 := Lib.hid (HB17.out.trans' hb)
          clear hb HB17
          go_wp2_with fail
          go_ret
          exact ⟨rfl, HBW.out.trans' HB18.out⟩
    · rw [putV_no (fun h => hR h.2)] at HPV
      rw [decide_eq_false hR] at HRI
      clear hR hOk
      by_cases hK : VP.OkK k T.data.toList
      · have e2 := putK_yes hK
        have hkb := kid_bound (k := k.toNat) (T := T) (by have := hK.2.2; omega)
        have HKE := Lib.hid (fun W => HSAY.getK (kidS k.toNat T) (by omega) W)
        rw [gotk_put (by have h1 := hK.1; rw [show ((k.toNat : Nat) : Int) = k by omega]; exact hK), show ((k.toNat : Nat) : Int) = k by have h1 := hK.1; omega] at HKE
        rw [e2] at HPK
        generalize kidS k.toNat T = D at *
        clear e2 hkb hK HSAY hts hTs hV
        go_enter Try.func4, Try.ntmps4
        go_wp2_with fail
        refine (HCUT.out _).mono ?_
        rintro e w1 ⟨rfl, hb1⟩
        have L0 := HK0.out.below hb1
        have X0 := HX0.out.below hb1
        have hbL := hb0.trans' hb1
        clear hb1 HK0 HX0 hb0 HCUT hbA hbB
        obtain ⟨a0, a1, a2, a3⟩ := L0.cells
        obtain ⟨f0, f1, f2, f3⟩ := L0.free
        have K1 := set4_box L0 O V L P
        have X1 : Blk (w.heap.size + 1) #[.string Y, .int .i64 k] 25 (set4 w1 w.heap.size O V L P) := (set4_other (by omega) O V L P).trans X0
        have hbW := set4_below hbL (Nat.le_refl _) O V L P
        obtain ⟨W, hW⟩ : ∃ W, set4 w1 w.heap.size O V L P = W := ⟨_, rfl⟩
        rw [hW] at K1 X1 hbW
        unfold set4 at hW
        have HC := keep_two K1 X1
        have HBW := Lib.hid hbW
        have HB0 := Lib.hid (Below.refl W.heap.size W)
        clear L0 X0 hbL K1 X1 hbW
        obtain ⟨hv, hx⟩ := HC.out _ HB0.out
        obtain ⟨v0, v1, v2, v3⟩ := hv.cells
        have x0 := hx.cell 0 _ rfl
        have x1 := hx.cell 1 _ rfl
        clear hv hx
        go_wp2_with fail
        refine (HPV.out _).mono ?_
        rintro e u10 ⟨rfl, hb⟩
        have HB10 := Lib.hid (HB0.out.trans' hb)
        clear hb HB0
        clear a0 a1 a2 a3 f0 f1 f2 f3 hW
        clear v0 v1 v2 v3 x0 x1
        obtain ⟨hv, hx⟩ := HC.out _ HB10.out
        obtain ⟨v0, v1, v2, v3⟩ := hv.cells
        have x0 := hx.cell 0 _ rfl
        have x1 := hx.cell 1 _ rfl
        clear hv hx
        go_wp2_with fail
        refine (HPK.out _).mono ?_
        rintro e u11 ⟨rfl, hb⟩
        have HB11 := Lib.hid (HB10.out.trans' hb)
        clear hb HB10
        clear v0 v1 v2 v3 x0 x1
        obtain ⟨hv, hx⟩ := HC.out _ HB11.out
        obtain ⟨v0, v1, v2, v3⟩ := hv.cells
        have x0 := hx.cell 0 _ rfl
        have x1 := hx.cell 1 _ rfl
        clear hv hx
        go_wp2_with fail
        refine (HKE.out _).mono ?_
        rintro e u12 ⟨rfl, hb⟩
        have HB12 := Lib.hid (HB11.out.trans' hb)
        clear hb HB11
        clear v0 v1 v2 v3 x0 x1
        obtain ⟨hv, hx⟩ := HC.out _ HB12.out
        obtain ⟨v0, v1, v2, v3⟩ := hv.cells
        have x0 := hx.cell 0 _ rfl
        have x1 := hx.cell 1 _ rfl
        clear hv hx
        go_wp2_with fail
        refine (HGV.out _).mono ?_
        rintro e u13 ⟨rfl, hb⟩
        have HB13 := Lib.hid (HB12.out.trans' hb)
        clear hb HB12
        have HN2 := Lib.hid (Bx.new 23 gO gV gL gP u13)
        have HB14 := Lib.hid (HB13.out.trans' (below_alloc u13 (.cells #[.bool gO, .string gV, .int .i64 gL, .int .i64 gP] 23)))
        obtain ⟨A14, hA14⟩ : ∃ A, u13.alloc (.cells #[.bool gO, .string gV, .int .i64 gL, .int .i64 gP] 23) = A := ⟨_, rfl⟩
        rw [hA14] at HB14 HN2
        clear HB13
        clear v0 v1 v2 v3 x0 x1
        obtain ⟨hv, hx⟩ := HC.out _ HB14.out
        obtain ⟨v0, v1, v2, v3⟩ := hv.cells
        have x0 := hx.cell 0 _ rfl
        have x1 := hx.cell 1 _ rfl
        clear hv hx
        obtain ⟨n0, n1, n2, n3⟩ := HN2.out.cells
        go_wp2_with fail
        refine (HGK.out _).mono ?_
        rintro e u15 ⟨rfl, hb⟩
        have HN3 := Lib.hid (HN2.out.below hb)
        have HB15 := Lib.hid (HB14.out.trans' hb)
        clear hb HB14
        clear v0 v1 v2 v3 x0 x1
        obtain ⟨hv, hx⟩ := HC.out _ HB15.out
        obtain ⟨v0, v1, v2, v3⟩ := hv.cells
        have x0 := hx.cell 0 _ rfl
        have x1 := hx.cell 1 _ rfl
        clear hv hx
        clear n0 n1 n2 n3
        obtain ⟨n0, n1, n2, n3⟩ := HN3.out.cells
        go_wp2_with fail
        refine (HGP.out _).mono ?_
        rintro e u16 ⟨rfl, hb⟩
        have HB16 := Lib.hid (HB15.out.trans' hb)
        clear hb HB15
        clear v0 v1 v2 v3 x0 x1
        obtain ⟨hv, hx⟩ := HC.out _ HB16.out
        obtain ⟨v0, v1, v2, v3⟩ := hv.cells
        have x0 := hx.cell 0 _ rfl
        have x1 := hx.cell 1 _ rfl
        clear hv hx
        clear n0 n1 n2 n3 HN2 HN3
        go_wp2_with fail
        refine (HDP.out _).mono ?_
        rintro e u17 ⟨rfl, hb⟩
        have HB17 := Lib.hid (HB16.out.trans' hb)
        clear hb HB16
        clear v0 v1 v2 v3 x0 x1
        obtain ⟨hv, hx⟩ := HC.out _ HB17.out
        obtain ⟨v0, v1, v2, v3⟩ := hv.cells
        have x0 := hx.cell 0 _ rfl
        have x1 := hx.cell 1 _ rfl
        clear hv hx
        go_wp2_with fail
        refine (HRI.out _).mono ?_
        rintro e u18 ⟨rfl, hb⟩
        have HB18 := Lib.hid (HB17.out.trans' hb)
        clear hb HB17
        clear v0 v1 v2 v3 x0 x1
        rcases HGC.out with ⟨rfl, rfl, rfl⟩ | rfl
        · rcases HDC.out with ⟨rfl, rfl, rfl⟩ | rfl
          · go_wp2_with fail
            refine (HFX.out _).mono ?_
            rintro e u19 ⟨rfl, hb⟩
            have HB19 := Lib.hid (HB18.out.trans' hb)
            clear hb HB18
            go_wp2_with fail
            go_ret
            exact ⟨rfl, HBW.out.trans' HB19.out⟩
          · go_wp2_with fail
            refine (HFX.out _).mono ?_
            rintro e u19 ⟨rfl, hb⟩
            have HB19 := Lib.hid (HB18.out.trans' hb)
            clear hb HB18
            go_wp2_with fail
            go_ret
            exact ⟨rfl, HBW.out.trans' HB19.out⟩
        · rcases HDC.out with ⟨rfl, rfl, rfl⟩ | rfl
          · go_wp2_with fail
            refine (HFX.out _).mono ?_
            rintro e u19 ⟨rfl, hb⟩
            have HB19 := Lib.hid (HB18.out.trans' hb)
            clear hb HB18
            go_wp2_with fail
            go_ret
            exact ⟨rfl, HBW.out.trans' HB19.out⟩
          · go_wp2_with fail
            refine (HFX.out _).mono ?_
            rintro e u19 ⟨rfl, hb⟩
            have HB19 := Lib.hid (HB18.out.trans' hb)
            clear hb HB18
            go_wp2_with fail
            go_ret
            exact ⟨rfl, HBW.out.trans' HB19.out⟩
      · rw [putK_no hK] at HPK
        clear hK HSAY hts hTs hV
        go_enter Try.func4, Try.ntmps4
        go_wp2_with fail
        refine (HCUT.out _).mono ?_
        rintro e w1 ⟨rfl, hb1⟩
        have L0 := HK0.out.below hb1
        have X0 := HX0.out.below hb1
        have hbL := hb0.trans' hb1
        clear hb1 HK0 HX0 hb0 HCUT hbA hbB
        obtain ⟨a0, a1, a2, a3⟩ := L0.cells
        obtain ⟨f0, f1, f2, f3⟩ := L0.free
        have K1 := set4_box L0 O V L P
        have X1 : Blk (w.heap.size + 1) #[.string Y, .int .i64 k] 25 (set4 w1 w.heap.size O V L P) := (set4_other (by omega) O V L P).trans X0
        have hbW := set4_below hbL (Nat.le_refl _) O V L P
        obtain ⟨W, hW⟩ : ∃ W, set4 w1 w.heap.size O V L P = W := ⟨_, rfl⟩
        rw [hW] at K1 X1 hbW
        unfold set4 at hW
        have HC := keep_two K1 X1
        have HBW := Lib.hid hbW
        have HB0 := Lib.hid (Below.refl W.heap.size W)
        clear L0 X0 hbL K1 X1 hbW
        obtain ⟨hv, hx⟩ := HC.out _ HB0.out
        obtain ⟨v0, v1, v2, v3⟩ := hv.cells
        have x0 := hx.cell 0 _ rfl
        have x1 := hx.cell 1 _ rfl
        clear hv hx
        go_wp2_with fail
        refine (HPV.out _).mono ?_
        rintro e u10 ⟨rfl, hb⟩
        have HB10 := Lib.hid (HB0.out.trans' hb)
        clear hb HB0
        clear a0 a1 a2 a3 f0 f1 f2 f3 hW
        clear v0 v1 v2 v3 x0 x1
        obtain ⟨hv, hx⟩ := HC.out _ HB10.out
        obtain ⟨v0, v1, v2, v3⟩ := hv.cells
        have x0 := hx.cell 0 _ rfl
        have x1 := hx.cell 1 _ rfl
        clear hv hx
        go_wp2_with fail
        refine (HPK.out _).mono ?_
        rintro e u11 ⟨rfl, hb⟩
        have HB11 := Lib.hid (HB10.out.trans' hb)
        clear hb HB10
        clear v0 v1 v2 v3 x0 x1
        obtain ⟨hv, hx⟩ := HC.out _ HB11.out
        obtain ⟨v0, v1, v2, v3⟩ := hv.cells
        have x0 := hx.cell 0 _ rfl
        have x1 := hx.cell 1 _ rfl
        clear hv hx
        go_wp2_with fail
        refine (HGV.out _).mono ?_
        rintro e u12 ⟨rfl, hb⟩
        have HB12 := Lib.hid (HB11.out.trans' hb)
        clear hb HB11
        have HN2 := Lib.hid (Bx.new 23 gO gV gL gP u12)
        have HB13 := Lib.hid (HB12.out.trans' (below_alloc u12 (.cells #[.bool gO, .string gV, .int .i64 gL, .int .i64 gP] 23)))
        obtain ⟨A13, hA13⟩ : ∃ A, u12.alloc (.cells #[.bool gO, .string gV, .int .i64 gL, .int .i64 gP] 23) = A := ⟨_, rfl⟩
        rw [hA13] at HB13 HN2
        clear HB12
        clear v0 v1 v2 v3 x0 x1
        obtain ⟨hv, hx⟩ := HC.out _ HB13.out
        obtain ⟨v0, v1, v2, v3⟩ := hv.cells
        have x0 := hx.cell 0 _ rfl
        have x1 := hx.cell 1 _ rfl
        clear hv hx
        obtain ⟨n0, n1, n2, n3⟩ := HN2.out.cells
        go_wp2_with fail
        refine (HGK.out _).mono ?_
        rintro e u14 ⟨rfl, hb⟩
        have HN3 := Lib.hid (HN2.out.below hb)
        have HB14 := Lib.hid (HB13.out.trans' hb)
        clear hb HB13
        clear v0 v1 v2 v3 x0 x1
        obtain ⟨hv, hx⟩ := HC.out _ HB14.out
        obtain ⟨v0, v1, v2, v3⟩ := hv.cells
        have x0 := hx.cell 0 _ rfl
        have x1 := hx.cell 1 _ rfl
        clear hv hx
        clear n0 n1 n2 n3
        obtain ⟨n0, n1, n2, n3⟩ := HN3.out.cells
        go_wp2_with fail
        refine (HGP.out _).mono ?_
        rintro e u15 ⟨rfl, hb⟩
        have HB15 := Lib.hid (HB14.out.trans' hb)
        clear hb HB14
        clear v0 v1 v2 v3 x0 x1
        obtain ⟨hv, hx⟩ := HC.out _ HB15.out
        obtain ⟨v0, v1, v2, v3⟩ := hv.cells
        have x0 := hx.cell 0 _ rfl
        have x1 := hx.cell 1 _ rfl
        clear hv hx
        clear n0 n1 n2 n3 HN2 HN3
        go_wp2_with fail
        refine (HDP.out _).mono ?_
        rintro e u16 ⟨rfl, hb⟩
        have HB16 := Lib.hid (HB15.out.trans' hb)
        clear hb HB15
        clear v0 v1 v2 v3 x0 x1
        obtain ⟨hv, hx⟩ := HC.out _ HB16.out
        obtain ⟨v0, v1, v2, v3⟩ := hv.cells
        have x0 := hx.cell 0 _ rfl
        have x1 := hx.cell 1 _ rfl
        clear hv hx
        go_wp2_with fail
        refine (HRI.out _).mono ?_
        rintro e u17 ⟨rfl, hb⟩
        have HB17 := Lib.hid (HB16.out.trans' hb)
        clear hb HB16
        clear v0 v1 v2 v3 x0 x1
        rcases HGC.out with ⟨rfl, rfl, rfl⟩ | rfl
        · rcases HDC.out with ⟨rfl, rfl, rfl⟩ | rfl
          · go_wp2_with fail
            refine (HFX.out _).mono ?_
            rintro e u18 ⟨rfl, hb⟩
            have HB18 := Lib.hid (HB17.out.trans' hb)
            clear hb HB17
            go_wp2_with fail
            go_ret
            exact ⟨rfl, HBW.out.trans' HB18.out⟩
          · go_wp2_with fail
            refine (HFX.out _).mono ?_
            rintro e u18 ⟨rfl, hb⟩
            have HB18 := Lib.hid (HB17.out.trans' hb)
            clear hb HB17
            go_wp2_with fail
            go_ret
            exact ⟨rfl, HBW.out.trans' HB18.out⟩
        · rcases HDC.out with ⟨rfl, rfl, rfl⟩ | rfl
          · go_wp2_with fail
            refine (HFX.out _).mono ?_
            rintro e u18 ⟨rfl, hb⟩
            have HB18 := Lib.hid (HB17.out.trans' hb)
            clear hb HB17
            go_wp2_with fail
            go_ret
            exact ⟨rfl, HBW.out.trans' HB18.out⟩
          · go_wp2_with fail
            refine (HFX.out _).mono ?_
            rintro e u18 ⟨rfl, hb⟩
            have HB18 := Lib.hid (HB17.out.trans' hb)
            clear hb HB17
            go_wp2_with fail
            go_ret
            exact ⟨rfl, HBW.out.trans' HB18.out⟩
end Go.Proofs.Ytppnchjmbeinkaa
