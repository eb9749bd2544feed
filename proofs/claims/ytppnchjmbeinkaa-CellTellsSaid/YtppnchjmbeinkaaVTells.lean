/-
  The walk of the law CellTells. Written by wip/gen_vtells.py.
-/
import Derived.Test.YtppnchjmbeinkaaVLaw
namespace Go.Proofs.Ytppnchjmbeinkaa
open Go.RowKit
set_option linter.unusedVariables false
set_option linter.unusedSimpArgs false

theorem eql_valueD (O : Bool) (S : ByteArray) (L P : Int) (w : World) :
    (binOp .eql 31 (.agg #[.bool O, .string S, .int .i64 L, .int .i64 P]) (.agg #[.bool O, .string S, .int .i64 L, .int .i64 P])).run Try.prog w = .ok (.bool true) w := by
  simp [go_sem]
theorem Tells.held {c : Prop} {f : FuncId} {args : Array Value} {v : Value} {W0 W : World} (t : Hid (Tells f args v)) (b : Hid (Below W0.heap.size W0 W) ∧ c) : Calls Try.prog f args W fun e w' => e = .returned v ∧ Below W0.heap.size W0 w' := Tells.at t.out b.1.out
theorem putVV_form (t : ByteArray) (v : VP.V) : ∃ (C : ByteArray) (e : Int), putVV t v = .tuple #[.string C, .int .i64 e] := by
  unfold putVV
  split
  · exact ⟨_, _, rfl⟩
  · exact ⟨_, _, rfl⟩
theorem gotV_form (x : Option (List UInt8 × VP.V)) : ∃ (t : ByteArray) (O : Bool) (S : ByteArray) (L P e : Int), gotV x = .tuple #[.string t, .agg #[.bool O, .string S, .int .i64 L, .int .i64 P], .int .i64 e] := by
  cases x with
  | none => exact ⟨_, _, _, _, _, _, rfl⟩
  | some x => exact ⟨_, _, _, _, _, _, rfl⟩
theorem gotK_form (x : Option (Nat × List UInt8)) : ∃ (k : Int) (t : ByteArray) (e : Int), gotK x = .tuple #[.int .i64 k, .string t, .int .i64 e] := by
  cases x with
  | none => exact ⟨_, _, _, rfl⟩
  | some x => exact ⟨_, _, _, rfl⟩

section
attribute [local go_sem high] eql_valueD
set_option maxHeartbeats 6000000 in
set_option maxRecDepth 100000 in
theorem cellTells_walk (HSAY : Says) (X : ByteArray) (O : Bool) (S : ByteArray) (L P : Int) (Y : ByteArray) (k : Int) (w : World) (wx : X.size ≤ maxLen) (ws : S.size ≤ maxLen) (wy : Y.size ≤ maxLen) :
    Calls Try.prog 3 #[.string X, vv O S L P, .agg #[.string Y, .int .i64 k]] w fun e w' => e = .returned (.bool true) ∧ Below w.heap.size w w' := by
  have HFX : Hid (Tells 21 #[] (.bool true)) := Lib.hid (fun W => fixed_any HSAY W)
  have hbA := below_alloc w (.cells #[.bool O, .string S, .int .i64 L, .int .i64 P] 23)
  have hbB := below_alloc (w.alloc (.cells #[.bool O, .string S, .int .i64 L, .int .i64 P] 23)) (.cells #[.string Y, .int .i64 k] 25)
  have hb0 := hbA.trans' hbB
  have HK0 := Lib.hid ((Bx.new 23 O S L P w).below hbB)
  have HX0 : Hid (Blk (w.heap.size + 1) #[.string Y, .int .i64 k] 25 ((w.alloc (.cells #[.bool O, .string S, .int .i64 L, .int .i64 P] 23)).alloc (.cells #[.string Y, .int .i64 k] 25))) := Lib.hid (by
    have h := heap_alloc_new (w.alloc (.cells #[.bool O, .string S, .int .i64 L, .int .i64 P] 23)) (.cells #[.string Y, .int .i64 k] 25)
    rw [show (w.alloc (.cells #[.bool O, .string S, .int .i64 L, .int .i64 P] 23)).heap.size = w.heap.size + 1 by simp] at h
    exact h)
  have HCUT := Lib.hid (fun W => vcut_any O S L P W ws)
  have hV := cutV_size S
  unfold maxLen at wx wy
  obtain ⟨m, hm, hm6, hms, hmm, hfs⟩ := cut_min X 140 (by omega)
  obtain ⟨T, hT⟩ : ∃ T, X.extract 0 m = T := ⟨_, rfl⟩
  rw [hT] at hfs
  have hTs : T.size ≤ 140 := by omega
  obtain ⟨n, hn, hn6, hns, hnn, hgs⟩ := cut_min Y 500 (by omega)
  obtain ⟨Y', hY⟩ : ∃ T, Y.extract 0 n = T := ⟨_, rfl⟩
  rw [hY] at hgs
  have hYs : Y'.size ≤ 500 := by omega
  clear hfs hgs ws
  generalize cutV S = V at *
  obtain ⟨pC, pe, hp⟩ := putVV_form T (pv O V L P)
  obtain ⟨qC, qe, hq⟩ := putKV_form k T
  obtain ⟨gT, gO, gV, gL, gP, ge, hg⟩ := gotV_form (VP.getV Y'.data.toList)
  obtain ⟨dk, dT, de, hd⟩ := gotK_form (VP.getK Y'.data.toList)
  obtain ⟨b, hb'⟩ : ∃ b, decide (VP.Right (pv O V L P)) = b := ⟨_, rfl⟩
  have A1 := Lib.hid (HSAY.putV T O V L P (by omega) (by omega))
  have A2 : Hid (Tells 11 #[.string T, vv O V L P] (putVV T (pv O V L P))) := Lib.hid (fun W => rputv_any T O V L P W (by omega) (by omega))
  have A3 := Lib.hid (HSAY.putK k T (by omega))
  have A4 : Hid (Tells 14 #[.int .i64 k, .string T] (putKV k T)) := Lib.hid (fun W => rputk_any k T W (by omega))
  have A5 := Lib.hid (HSAY.getV Y' (by omega))
  have A6 : Hid (Tells 16 #[.string Y'] (gotV (VP.getV Y'.data.toList))) := Lib.hid (fun W => rgetv_any Y' W (by omega))
  have A7 := Lib.hid (HSAY.getK Y' (by omega))
  have A8 : Hid (Tells 18 #[.string Y'] (gotK (VP.getK Y'.data.toList))) := Lib.hid (fun W => rgetk_any Y' W (by omega))
  have TG := Lib.hid (HSAY.right O V L P)
  have TD : Hid (Tells 20 #[vv O V L P] (.bool (decide (VP.Right (pv O V L P))))) := Lib.hid (fun W => rright_any O V L P W)
  have TR : Hid (∀ O S L P, Tells 12 #[vv O S L P] (vv O S L P)) := Lib.hid (fun O S L P W => vref_any O S L P W)
  have TR1 := Lib.hid (TR.out O V L P)
  rw [hp] at A1 A2
  rw [hq] at A3 A4
  rw [hg] at A5 A6
  rw [hd] at A7 A8
  rw [hb'] at TG TD
  have z1 : (pC.toList == pC.toList) = true := beq_self_eq_true _
  have z2 : (qC.toList == qC.toList) = true := beq_self_eq_true _
  have z3 : (gT.toList == gT.toList) = true := beq_self_eq_true _
  have z4 : (dT.toList == dT.toList) = true := beq_self_eq_true _
  have z5 : (pe == pe) = true := beq_self_eq_true _
  have z6 : (qe == qe) = true := beq_self_eq_true _
  have z7 : (ge == ge) = true := beq_self_eq_true _
  have z8 : (de == de) = true := beq_self_eq_true _
  have z9 : (dk == dk) = true := beq_self_eq_true _
  have z10 : (b == b) = true := beq_self_eq_true _
  clear hp hq hg hd hb' hYs hTs HSAY hV
  go_enter Try.func3, Try.ntmps3
  go_wp2_with fail
  refine (HCUT.out _).mono ?_
  rintro e w1 ⟨rfl, hb1⟩
  have L0 := HK0.out.below hb1
  have X0 := HX0.out.below hb1
  have hbL := hb0.trans' hb1
  clear hb1 HK0 HX0 hb0 HCUT hbA hbB
  obtain ⟨a0, a1, a2, a3⟩ := L0.cells
  obtain ⟨f0, f1, f2, f3⟩ := L0.free
  have K1 := set4_box L0 O V L P
  have X1 : Blk (w.heap.size + 1) #[.string Y, .int .i64 k] 25 (set4 w1 w.heap.size O V L P) := (set4_other (by omega) O V L P).trans X0
  have hbW := set4_below hbL (Nat.le_refl _) O V L P
  obtain ⟨W0, hW⟩ : ∃ W, set4 w1 w.heap.size O V L P = W := ⟨_, rfl⟩
  rw [hW] at K1 X1 hbW
  unfold set4 at hW
  have HBV : Hid (∀ Z, Below W0.heap.size W0 Z → Hid (Below W0.heap.size W0 Z) ∧ Z.cell? ⟨w.heap.size, 0, none⟩ = some (.bool O) ∧ Z.cell? ⟨w.heap.size, 1, none⟩ = some (.string V) ∧ Z.cell? ⟨w.heap.size, 2, none⟩ = some (.int .i64 L) ∧ Z.cell? ⟨w.heap.size, 3, none⟩ = some (.int .i64 P) ∧ Z.cell? ⟨w.heap.size + 1, 0, none⟩ = some (.string Y) ∧ Z.cell? ⟨w.heap.size + 1, 1, none⟩ = some (.int .i64 k)) := Lib.hid (fun Z hb => by
    obtain ⟨v0, v1, v2, v3⟩ := (K1.below hb).cells
    have hx := X1.below hb
    exact ⟨Lib.hid hb, v0, v1, v2, v3, hx.cell 0 _ rfl, hx.cell 1 _ rfl⟩)
  have HK := Lib.hid K1
  have HBW := Lib.hid hbW
  have HB0 := Lib.hid (Below.refl W0.heap.size W0)
  clear L0 X0 hbL K1 X1 hbW
  obtain ⟨_, v0, v1, v2, v3, x0, x1⟩ := HBV.out _ HB0.out
  go_wp2_with fail
  refine (Tells.at A1.out HB0.out).mono ?_
  rintro e W1 ⟨rfl, hb⟩
  clear a0 a1 a2 a3 f0 f1 f2 f3 hW
  clear v0 v1 v2 v3 x0 x1
  obtain ⟨_, v0, v1, v2, v3, x0, x1⟩ := HBV.out _ hb
  have HB1 := Lib.hid hb
  clear hb
  go_wp2_with fail
  refine (Tells.at TR1.out HB1.out).mono ?_
  rintro e W2 ⟨rfl, hb⟩
  clear v0 v1 v2 v3 x0 x1
  obtain ⟨_, v0, v1, v2, v3, x0, x1⟩ := HBV.out _ hb
  have HB2 := Lib.hid hb
  clear hb
  go_wp2_with fail
  refine (Tells.at A2.out HB2.out).mono ?_
  rintro e W3 ⟨rfl, hb⟩
  clear v0 v1 v2 v3 x0 x1
  obtain ⟨_, v0, v1, v2, v3, x0, x1⟩ := HBV.out _ hb
  have HB3 := Lib.hid hb
  clear hb
  go_wp2_with fail
  refine (Tells.at A3.out HB3.out).mono ?_
  rintro e W4 ⟨rfl, hb⟩
  clear v0 v1 v2 v3 x0 x1
  obtain ⟨_, v0, v1, v2, v3, x0, x1⟩ := HBV.out _ hb
  have HB4 := Lib.hid hb
  clear hb
  go_wp2_with fail
  refine (Tells.at A4.out HB4.out).mono ?_
  rintro e W5 ⟨rfl, hb⟩
  clear v0 v1 v2 v3 x0 x1
  obtain ⟨_, v0, v1, v2, v3, x0, x1⟩ := HBV.out _ hb
  have HB5 := Lib.hid hb
  clear hb
  go_wp2_with fail
  refine (Tells.at A5.out HB5.out).mono ?_
  rintro e W6 ⟨rfl, hb⟩
  have HBD := Lib.hid (show Bx 23 W6.heap.size gO gV gL gP (W6.alloc (.cells #[.bool gO, .string gV, .int .i64 gL, .int .i64 gP] 23)) from heap_alloc_new _ _)
  have HB6 := Lib.hid (hb.trans' (below_alloc W6 (.cells #[.bool gO, .string gV, .int .i64 gL, .int .i64 gP] 23)))
  clear hb v0 v1 v2 v3 x0 x1
  generalize hwA : W6.alloc (.cells #[.bool gO, .string gV, .int .i64 gL, .int .i64 gP] 23) = WA at *
  generalize hg1 : W6.heap.size = g1 at *
  obtain ⟨_, v0, v1, v2, v3, x0, x1⟩ := HBV.out _ HB6.out
  go_wp2_with fail
  refine (Tells.at A6.out (Below.refl WA.heap.size WA)).mono ?_
  rintro e WB' ⟨rfl, hb⟩
  have HBE := Lib.hid (show Bx 31 WB'.heap.size gO gV gL gP (WB'.alloc (.cells #[.bool gO, .string gV, .int .i64 gL, .int .i64 gP] 31)) from heap_alloc_new _ _)
  have hbz := hb.trans' (below_alloc WB' (.cells #[.bool gO, .string gV, .int .i64 gL, .int .i64 gP] 31))
  have HBD2 := Lib.hid (HBD.out.below hbz)
  have HBQ := Lib.hid (HB6.out.trans' hbz)
  clear hb hbz v0 v1 v2 v3 x0 x1 hwA hg1 HBD
  generalize hwB : WB'.alloc (.cells #[.bool gO, .string gV, .int .i64 gL, .int .i64 gP] 31) = WB at *
  generalize hg2 : WB'.heap.size = g2 at *
  have HCV : Hid (∀ Z, Below WB.heap.size WB Z → Hid (Below WB.heap.size WB Z) ∧ Z.cell? ⟨w.heap.size, 0, none⟩ = some (.bool O) ∧ Z.cell? ⟨w.heap.size, 1, none⟩ = some (.string V) ∧ Z.cell? ⟨w.heap.size, 2, none⟩ = some (.int .i64 L) ∧ Z.cell? ⟨w.heap.size, 3, none⟩ = some (.int .i64 P) ∧ Z.cell? ⟨g1, 0, none⟩ = some (.bool gO) ∧ Z.cell? ⟨g1, 1, none⟩ = some (.string gV) ∧ Z.cell? ⟨g1, 2, none⟩ = some (.int .i64 gL) ∧ Z.cell? ⟨g1, 3, none⟩ = some (.int .i64 gP) ∧ Z.cell? ⟨g2, 0, none⟩ = some (.bool gO) ∧ Z.cell? ⟨g2, 1, none⟩ = some (.string gV) ∧ Z.cell? ⟨g2, 2, none⟩ = some (.int .i64 gL) ∧ Z.cell? ⟨g2, 3, none⟩ = some (.int .i64 gP)) := Lib.hid (fun Z hb => by
    obtain ⟨v0, v1, v2, v3⟩ := ((HK.out.below HBQ.out).below hb).cells
    obtain ⟨b0, b1, b2, b3⟩ := (HBD2.out.below hb).cells
    obtain ⟨c0, c1, c2, c3⟩ := (HBE.out.below hb).cells
    exact ⟨Lib.hid hb, v0, v1, v2, v3, b0, b1, b2, b3, c0, c1, c2, c3⟩)
  have HWQ := Lib.hid (HBW.out.trans' HBQ.out)
  go_wp2_with fail
  refine (Tells.at A7.out (Below.refl WB.heap.size WB)).mono ?_
  rintro e WC ⟨rfl, hb⟩
  have HBC := Lib.hid hb
  clear hb hwB hg2
  go_wp2_with fail
  refine (Tells.at A8.out HBC.out).mono ?_
  rintro e WD ⟨rfl, hb⟩
  have hSd := HCV.out _ hb.drew
  clear hb HBC A1 A2 A3 A4 A5 A6 A7 A8 TR1 HBV HBD2 HBE HBQ HBW HK
  go_wp2_with fail
  go_region_held3 (fun Z => Hid (Below WB.heap.size WB Z) ∧ Z.cell? ⟨w.heap.size, 0, none⟩ = some (.bool O) ∧ Z.cell? ⟨w.heap.size, 1, none⟩ = some (.string V) ∧ Z.cell? ⟨w.heap.size, 2, none⟩ = some (.int .i64 L) ∧ Z.cell? ⟨w.heap.size, 3, none⟩ = some (.int .i64 P) ∧ Z.cell? ⟨g1, 0, none⟩ = some (.bool gO) ∧ Z.cell? ⟨g1, 1, none⟩ = some (.string gV) ∧ Z.cell? ⟨g1, 2, none⟩ = some (.int .i64 gL) ∧ Z.cell? ⟨g1, 3, none⟩ = some (.int .i64 gP) ∧ Z.cell? ⟨g2, 0, none⟩ = some (.bool gO) ∧ Z.cell? ⟨g2, 1, none⟩ = some (.string gV) ∧ Z.cell? ⟨g2, 2, none⟩ = some (.int .i64 gL) ∧ Z.cell? ⟨g2, 3, none⟩ = some (.int .i64 gP))
    (first | assumption | exact hSd)
    (first
      | (go_at_call 19; refine (Tells.held TG (by assumption)).mono ?_; rintro e V ⟨rfl, hb⟩; have hSn := HCV.out _ hb; clear hb)
      | (go_at_call 12; refine (Tells.held (Lib.hid (TR.out _ _ _ _)) (by assumption)).mono ?_; rintro e V ⟨rfl, hb⟩; have hSn := HCV.out _ hb; clear hb)
      | (go_at_call 20; refine (Tells.held TD (by assumption)).mono ?_; rintro e V ⟨rfl, hb⟩; have hSn := HCV.out _ hb; clear hb)
      | (go_at_call 21; refine (Tells.held HFX (by assumption)).mono ?_; rintro e V ⟨rfl, hb⟩; have hSn := HCV.out _ hb; have HBZ := Lib.hid hb; clear hb)
      | fail "no arm")
  all_goals
    go_wp2_with fail
    go_ret
    exact ⟨rfl, HWQ.out.trans' HBZ.out⟩
end
end Go.Proofs.Ytppnchjmbeinkaa
