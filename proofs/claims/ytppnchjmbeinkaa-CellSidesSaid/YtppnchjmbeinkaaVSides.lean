/-
  The walk of the law CellSides. Written by wip/gen_vsides.py.
-/
import Derived.Test.YtppnchjmbeinkaaVLaw
import Derived.Lib.MinMaxS
namespace Go.Proofs.Ytppnchjmbeinkaa
open Go.RowKit
set_option linter.unusedVariables false
set_option linter.unusedSimpArgs false

/-- Two values are the same, field by field. -/
def sameVV (O : Bool) (S : ByteArray) (L P : Int) (O2 : Bool) (S2 : ByteArray) (L2 P2 : Int) : Bool := (O == O2) && ((S.toList == S2.toList) && ((L == L2) && (P == P2)))
theorem eql_value (O : Bool) (S : ByteArray) (L P : Int) (O2 : Bool) (S2 : ByteArray) (L2 P2 : Int) (w : World) :
    (binOp .eql 23 (.agg #[.bool O, .string S, .int .i64 L, .int .i64 P]) (.agg #[.bool O2, .string S2, .int .i64 L2, .int .i64 P2])).run Try.prog w = .ok (.bool (sameVV O S L P O2 S2 L2 P2)) w := by
  unfold sameVV
  cases O <;> cases O2 <;> cases h3 : (L == L2) <;> cases h4 : (P == P2) <;> by_cases h2 : S.toList = S2.toList <;> simp [go_sem, h2, h3, h4]
theorem str_same {s t : ByteArray} : (s.toList == t.toList) = true ↔ s = t := by
  rw [beq_iff_eq, Lib.toList_data, Lib.toList_data]
  exact ⟨fun h => ByteArray.ext (Array.toList_inj.1 h), fun h => by rw [h]⟩
theorem sameVV_iff {O : Bool} {S : ByteArray} {L P : Int} {O2 : Bool} {S2 : ByteArray} {L2 P2 : Int} : sameVV O S L P O2 S2 L2 P2 = true ↔ O = O2 ∧ S = S2 ∧ L = L2 ∧ P = P2 := by
  unfold sameVV
  rw [Bool.and_eq_true, Bool.and_eq_true, Bool.and_eq_true, str_same, beq_iff_eq, beq_iff_eq, beq_iff_eq]
theorem sides_cell {A B V V2 : ByteArray} {O O2 : Bool} {L P L2 P2 : Int} (h1 : VP.OkV A.data.toList (pv O V L P)) (h2 : VP.OkV B.data.toList (pv O2 V2 L2 P2)) :
    ((cellS A (pv O V L P)).toList == (cellS B (pv O2 V2 L2 P2)).toList) = ((A.toList == B.toList) && sameVV O V L P O2 V2 L2 P2) := by
  rw [Bool.eq_iff_iff, Bool.and_eq_true, str_same, str_same, sameVV_iff]
  constructor
  · intro e
    have e' := congrArg (fun x : ByteArray => x.data.toList) e
    simp only [cellS_list] at e'
    obtain ⟨i1, i2, _⟩ := VP.cellV_inj (Y := []) (Y' := []) h1 h2 (by rw [e'])
    simp only [pv, VP.V.mk.injEq] at i2
    exact ⟨ByteArray.ext (Array.toList_inj.1 i1), i2.1, ByteArray.ext (Array.toList_inj.1 i2.2.1), i2.2.2.1, i2.2.2.2⟩
  · rintro ⟨rfl, rfl, rfl, rfl, rfl⟩
    rfl
theorem sides_kid {A B : ByteArray} {k j : Nat} (h1 : VP.OkK k A.data.toList) (h2 : VP.OkK j B.data.toList) :
    ((kidS k A).toList == (kidS j B).toList) = ((A.toList == B.toList) && ((k : Int) == (j : Int))) := by
  rw [Bool.eq_iff_iff, Bool.and_eq_true, str_same, str_same, beq_iff_eq]
  constructor
  · intro e
    have e' := congrArg (fun x : ByteArray => x.data.toList) e
    simp only [kidS_list] at e'
    obtain ⟨i1, i2, _⟩ := VP.cellK_inj (Y := []) (Y' := []) h1 h2 (by rw [e'])
    exact ⟨ByteArray.ext (Array.toList_inj.1 i2), by rw [i1]⟩
  · rintro ⟨rfl, e⟩
    rw [Int.ofNat_inj.1 e]

theorem putVV_form' (t : ByteArray) (v : VP.V) : ∃ (C : ByteArray) (e : Int), putVV t v = .tuple #[.string C, .int .i64 e] := by
  unfold putVV
  split
  · exact ⟨_, _, rfl⟩
  · exact ⟨_, _, rfl⟩
section
attribute [local go_sem high] eql_value
set_option maxHeartbeats 16000000 in
set_option maxRecDepth 100000 in
theorem cellSides_walk (HSAY : Says) (O : Bool) (S : ByteArray) (L P : Int) (O2 : Bool) (S2 : ByteArray) (L2 P2 : Int) (X X2 : ByteArray) (k k2 : Int) (w : World) (ws : S.size ≤ maxLen) (ws2 : S2.size ≤ maxLen) (wx : X.size ≤ maxLen) (wx2 : X2.size ≤ maxLen) :
    Calls Try.prog 6 #[vv O S L P, vv O2 S2 L2 P2, .agg #[.string X, .string X2, .int .i64 k, .int .i64 k2]] w fun e w' => e = .returned (.bool true) ∧ Below w.heap.size w w' := by
  have HFX : Hid (Tells 21 #[] (.bool true)) := Lib.hid (fun W => fixed_any HSAY W)
  have hb0 := Lib.hid (((below_alloc w (.cells #[.bool O, .string S, .int .i64 L, .int .i64 P] 23)).trans' (below_alloc (w.alloc (.cells #[.bool O, .string S, .int .i64 L, .int .i64 P] 23)) (.cells #[.bool O2, .string S2, .int .i64 L2, .int .i64 P2] 23))).trans' (below_alloc ((w.alloc (.cells #[.bool O, .string S, .int .i64 L, .int .i64 P] 23)).alloc (.cells #[.bool O2, .string S2, .int .i64 L2, .int .i64 P2] 23)) (.cells #[.string X, .string X2, .int .i64 k, .int .i64 k2] 52)))
  have HK1 := Lib.hid ((Bx.new 23 O S L P w).below ((below_alloc (w.alloc (.cells #[.bool O, .string S, .int .i64 L, .int .i64 P] 23)) (.cells #[.bool O2, .string S2, .int .i64 L2, .int .i64 P2] 23)).trans' (below_alloc ((w.alloc (.cells #[.bool O, .string S, .int .i64 L, .int .i64 P] 23)).alloc (.cells #[.bool O2, .string S2, .int .i64 L2, .int .i64 P2] 23)) (.cells #[.string X, .string X2, .int .i64 k, .int .i64 k2] 52))))
  have HK2 : Hid (Bx 23 (w.heap.size + 1) O2 S2 L2 P2 (((w.alloc (.cells #[.bool O, .string S, .int .i64 L, .int .i64 P] 23)).alloc (.cells #[.bool O2, .string S2, .int .i64 L2, .int .i64 P2] 23)).alloc (.cells #[.string X, .string X2, .int .i64 k, .int .i64 k2] 52))) := Lib.hid (by
    have h := (Bx.new 23 O2 S2 L2 P2 (w.alloc (.cells #[.bool O, .string S, .int .i64 L, .int .i64 P] 23))).below (below_alloc _ (.cells #[.string X, .string X2, .int .i64 k, .int .i64 k2] 52))
    rw [show (w.alloc (.cells #[.bool O, .string S, .int .i64 L, .int .i64 P] 23)).heap.size = w.heap.size + 1 by simp] at h
    exact h)
  have HX0 : Hid (Blk (w.heap.size + 2) #[.string X, .string X2, .int .i64 k, .int .i64 k2] 52 (((w.alloc (.cells #[.bool O, .string S, .int .i64 L, .int .i64 P] 23)).alloc (.cells #[.bool O2, .string S2, .int .i64 L2, .int .i64 P2] 23)).alloc (.cells #[.string X, .string X2, .int .i64 k, .int .i64 k2] 52))) := Lib.hid (by
    have h := heap_alloc_new ((w.alloc (.cells #[.bool O, .string S, .int .i64 L, .int .i64 P] 23)).alloc (.cells #[.bool O2, .string S2, .int .i64 L2, .int .i64 P2] 23)) (.cells #[.string X, .string X2, .int .i64 k, .int .i64 k2] 52)
    rw [show ((w.alloc (.cells #[.bool O, .string S, .int .i64 L, .int .i64 P] 23)).alloc (.cells #[.bool O2, .string S2, .int .i64 L2, .int .i64 P2] 23)).heap.size = w.heap.size + 2 by simp] at h
    exact h)
  obtain ⟨y0, y1, y2, y3⟩ := HK1.out.cells
  have HCUT1 := Lib.hid (fun W => vcut_any O S L P W ws)
  have HCUT2 := Lib.hid (fun W => vcut_any O2 S2 L2 P2 W ws2)
  have hV := cutV_size S
  have hV2 := cutV_size S2
  unfold maxLen at wx wx2
  obtain ⟨m, hm, hm6, hms, hmm, hfs⟩ := cut_min X 128 (by omega)
  obtain ⟨T, hT⟩ : ∃ T, X.extract 0 m = T := ⟨_, rfl⟩
  rw [hT] at hfs
  have hTs : T.size ≤ 128 := by omega
  obtain ⟨m2, hm2, hm62, hms2, hmm2, hfs2⟩ := cut_min X2 128 (by omega)
  obtain ⟨T2, hT2⟩ : ∃ T, X2.extract 0 m2 = T := ⟨_, rfl⟩
  rw [hT2] at hfs2
  have hTs2 : T2.size ≤ 128 := by omega
  clear hfs hfs2 ws ws2
  generalize cutV S = V at *
  generalize cutV S2 = V2 at *
  have g1 : (m : Int) ≤ X.size := by omega
  have g2 : (m2 : Int) ≤ X2.size := by omega
  have g3 : (0 : Int) ≤ (m : Int) := by omega
  have g4 : (0 : Int) ≤ (m2 : Int) := by omega
  have HPV1 := Lib.hid (HSAY.putV T O V L P (by omega) (by omega))
  have HPV2 := Lib.hid (HSAY.putV T2 O2 V2 L2 P2 (by omega) (by omega))
  have HPK1 := Lib.hid (HSAY.putK k T (by omega))
  have HPK2 := Lib.hid (HSAY.putK k2 T2 (by omega))
  have hts := list_size T
  have hts2 := list_size T2
  obtain ⟨C, e, hp⟩ := putVV_form' T (pv O V L P)
  obtain ⟨C2, e2, hp2⟩ := putVV_form' T2 (pv O2 V2 L2 P2)
  obtain ⟨D, f, hq⟩ := putKV_form k T
  obtain ⟨D2, f2, hq2⟩ := putKV_form k2 T2
  have HV : Hid (e = 3 ∨ (e = 0 ∧ e2 = 3) ∨ (e = 0 ∧ e2 = 0 ∧ (C.toList == C2.toList) = ((T.toList == T2.toList) && sameVV O V L P O2 V2 L2 P2))) := Lib.hid (by
    by_cases h1 : VP.OkV T.data.toList (pv O V L P)
    · rw [putV_yes h1] at hp
      simp only [Value.tuple.injEq, Array.mk.injEq, List.cons.injEq, Value.string.injEq, Value.int.injEq, true_and, and_true] at hp
      obtain ⟨rfl, rfl⟩ := hp
      by_cases h2 : VP.OkV T2.data.toList (pv O2 V2 L2 P2)
      · rw [putV_yes h2] at hp2
        simp only [Value.tuple.injEq, Array.mk.injEq, List.cons.injEq, Value.string.injEq, Value.int.injEq, true_and, and_true] at hp2
        obtain ⟨rfl, rfl⟩ := hp2
        exact .inr (.inr ⟨rfl, rfl, sides_cell h1 h2⟩)
      · rw [putV_no h2] at hp2
        simp only [Value.tuple.injEq, Array.mk.injEq, List.cons.injEq, Value.string.injEq, Value.int.injEq, true_and, and_true] at hp2
        exact .inr (.inl ⟨rfl, hp2.2.symm⟩)
    · rw [putV_no h1] at hp
      simp only [Value.tuple.injEq, Array.mk.injEq, List.cons.injEq, Value.string.injEq, Value.int.injEq, true_and, and_true] at hp
      exact .inl hp.2.symm)
  have HQ : Hid (f = 3 ∨ (f = 0 ∧ f2 = 3) ∨ (f = 0 ∧ f2 = 0 ∧ (D.toList == D2.toList) = ((T.toList == T2.toList) && (k == k2)))) := Lib.hid (by
    by_cases h1 : VP.OkK k T.data.toList
    · rw [putK_yes h1] at hq
      simp only [Value.tuple.injEq, Array.mk.injEq, List.cons.injEq, Value.string.injEq, Value.int.injEq, true_and, and_true] at hq
      obtain ⟨rfl, rfl⟩ := hq
      by_cases h2 : VP.OkK k2 T2.data.toList
      · rw [putK_yes h2] at hq2
        simp only [Value.tuple.injEq, Array.mk.injEq, List.cons.injEq, Value.string.injEq, Value.int.injEq, true_and, and_true] at hq2
        obtain ⟨rfl, rfl⟩ := hq2
        obtain ⟨j, rfl⟩ := Int.eq_ofNat_of_zero_le (show 0 ≤ k by have := h1.1; omega)
        obtain ⟨j2, rfl⟩ := Int.eq_ofNat_of_zero_le (show 0 ≤ k2 by have := h2.1; omega)
        exact .inr (.inr ⟨rfl, rfl, sides_kid h1 h2⟩)
      · rw [putK_no h2] at hq2
        simp only [Value.tuple.injEq, Array.mk.injEq, List.cons.injEq, Value.string.injEq, Value.int.injEq, true_and, and_true] at hq2
        exact .inr (.inl ⟨rfl, hq2.2.symm⟩)
    · rw [putK_no h1] at hq
      simp only [Value.tuple.injEq, Array.mk.injEq, List.cons.injEq, Value.string.injEq, Value.int.injEq, true_and, and_true] at hq
      exact .inl hq.2.symm)
  rw [hp] at HPV1
  rw [hp2] at HPV2
  rw [hq] at HPK1
  rw [hq2] at HPK2
  clear HSAY hV hV2 hTs hTs2 hts hts2 hm6 hm62 wx wx2 hp hp2 hq hq2
  go_enter Try.func6, Try.ntmps6
  go_wp2_with fail
  refine (HCUT1.out _).mono ?_
  rintro e w1 ⟨rfl, hb1⟩
  have L1 := HK1.out.below hb1
  have L2' := HK2.out.below hb1
  have X1 := HX0.out.below hb1
  have hbL := hb0.out.trans' hb1
  clear hb1 HK1 HK2 HX0 hb0 HCUT1 y0 y1 y2 y3
  obtain ⟨a0, a1, a2, a3⟩ := L1.cells
  obtain ⟨f0, f1, f2, f3⟩ := L1.free
  have M1 := set4_box L1 O V L P
  have M2 : Bx 23 (w.heap.size + 1) O2 S2 L2 P2 (set4 w1 w.heap.size O V L P) := (set4_other (by omega) O V L P).trans L2'
  have X2' : Blk (w.heap.size + 2) #[.string X, .string X2, .int .i64 k, .int .i64 k2] 52 (set4 w1 w.heap.size O V L P) := (set4_other (by omega) O V L P).trans X1
  have hbW := set4_below hbL (Nat.le_refl _) O V L P
  obtain ⟨Wa, hW⟩ : ∃ W, set4 w1 w.heap.size O V L P = W := ⟨_, rfl⟩
  rw [hW] at M1 M2 X2' hbW
  unfold set4 at hW
  obtain ⟨y0, y1, y2, y3⟩ := M2.cells
  have HM1 := Lib.hid M1
  have HM2 := Lib.hid M2
  have HX2 := Lib.hid X2'
  have HBA := Lib.hid hbW
  clear L1 L2' X1 hbL M1 M2 X2' hbW
  go_wp2_with fail
  refine (HCUT2.out _).mono ?_
  rintro e w2 ⟨rfl, hb1⟩
  clear a0 a1 a2 a3 f0 f1 f2 f3 hW y0 y1 y2 y3
  have L1 := HM1.out.below hb1
  have L2' := HM2.out.below hb1
  have X1 := HX2.out.below hb1
  have hbL := HBA.out.trans' hb1
  clear hb1 HM1 HM2 HX2 HBA HCUT2
  obtain ⟨a0, a1, a2, a3⟩ := L2'.cells
  obtain ⟨f0, f1, f2, f3⟩ := L2'.free
  have M2 := set4_box L2' O2 V2 L2 P2
  have M1 : Bx 23 w.heap.size O V L P (set4 w2 (w.heap.size + 1) O2 V2 L2 P2) := (set4_other (by omega) O2 V2 L2 P2).trans L1
  have X2' : Blk (w.heap.size + 2) #[.string X, .string X2, .int .i64 k, .int .i64 k2] 52 (set4 w2 (w.heap.size + 1) O2 V2 L2 P2) := (set4_other (by omega) O2 V2 L2 P2).trans X1
  have hbW := set4_below hbL (Nat.le_succ _) O2 V2 L2 P2
  obtain ⟨Wb, hW⟩ : ∃ W, set4 w2 (w.heap.size + 1) O2 V2 L2 P2 = W := ⟨_, rfl⟩
  rw [hW] at M1 M2 X2' hbW
  unfold set4 at hW
  have HBV : Hid (∀ Z, Below Wb.heap.size Wb Z → Hid (Below Wb.heap.size Wb Z) ∧ Z.cell? ⟨w.heap.size, 0, none⟩ = some (.bool O) ∧ Z.cell? ⟨w.heap.size, 1, none⟩ = some (.string V) ∧ Z.cell? ⟨w.heap.size, 2, none⟩ = some (.int .i64 L) ∧ Z.cell? ⟨w.heap.size, 3, none⟩ = some (.int .i64 P) ∧ Z.cell? ⟨w.heap.size + 1, 0, none⟩ = some (.bool O2) ∧ Z.cell? ⟨w.heap.size + 1, 1, none⟩ = some (.string V2) ∧ Z.cell? ⟨w.heap.size + 1, 2, none⟩ = some (.int .i64 L2) ∧ Z.cell? ⟨w.heap.size + 1, 3, none⟩ = some (.int .i64 P2) ∧ Z.cell? ⟨w.heap.size + 2, 0, none⟩ = some (.string X) ∧ Z.cell? ⟨w.heap.size + 2, 1, none⟩ = some (.string X2) ∧ Z.cell? ⟨w.heap.size + 2, 2, none⟩ = some (.int .i64 k) ∧ Z.cell? ⟨w.heap.size + 2, 3, none⟩ = some (.int .i64 k2)) := Lib.hid (fun Z hb => by
    obtain ⟨v0, v1, v2, v3⟩ := (M1.below hb).cells
    obtain ⟨u0, u1, u2, u3⟩ := (M2.below hb).cells
    have hx := X2'.below hb
    exact ⟨Lib.hid hb, v0, v1, v2, v3, u0, u1, u2, u3, hx.cell 0 _ rfl, hx.cell 1 _ rfl, hx.cell 2 _ rfl, hx.cell 3 _ rfl⟩)
  have HBW := Lib.hid hbW
  clear L1 L2' X1 hbL M1 M2 X2' hbW
  obtain ⟨_, v0, v1, v2, v3, u0, u1, u2, u3, x0, x1, x2, x3⟩ := HBV.out _ (Below.refl _ _)
  go_wp2_with fail
  clear a0 a1 a2 a3 f0 f1 f2 f3 hW v0 v1 v2 v3 u0 u1 u2 u3
  go_quiet (fail)
  have HB0 := Lib.hid (below_drewN (Below.refl Wb.heap.size Wb) nq)
  generalize Wb.drewN nq = W0 at *
  clear x0 x1 x2 x3 hT hT2 hm hm2 g1 g2 g3 g4
  obtain ⟨_, v0, v1, v2, v3, u0, u1, u2, u3, x0, x1, x2, x3⟩ := HBV.out _ HB0.out
  go_wp2_with fail
  refine (Tells.at HPV1.out HB0.out).mono ?_
  rintro e W1 ⟨rfl, hb⟩
  clear v0 v1 v2 v3 u0 u1 u2 u3 x0 x1 x2 x3
  have HB1 := Lib.hid hb
  clear hb
  obtain ⟨_, v0, v1, v2, v3, u0, u1, u2, u3, x0, x1, x2, x3⟩ := HBV.out _ HB1.out
  go_wp2_with fail
  refine (Tells.at HPV2.out HB1.out).mono ?_
  rintro e W2 ⟨rfl, hb⟩
  clear v0 v1 v2 v3 u0 u1 u2 u3 x0 x1 x2 x3
  have HB2 := Lib.hid hb
  clear hb
  obtain ⟨_, v0, v1, v2, v3, u0, u1, u2, u3, x0, x1, x2, x3⟩ := HBV.out _ HB2.out
  cases hs : (T.toList == T2.toList)
  · rcases HV.out with rfl | ⟨rfl, rfl⟩ | ⟨rfl, rfl, hcc⟩
    · go_wp2_with fail
      refine (Tells.at HPK1.out HB2.out).mono ?_
      rintro e W3 ⟨rfl, hb⟩
      clear v0 v1 v2 v3 u0 u1 u2 u3 x0 x1 x2 x3
      have HB3 := Lib.hid hb
      clear hb
      obtain ⟨_, v0, v1, v2, v3, u0, u1, u2, u3, x0, x1, x2, x3⟩ := HBV.out _ HB3.out
      go_wp2_with fail
      refine (Tells.at HPK2.out HB3.out).mono ?_
      rintro e W4 ⟨rfl, hb⟩
      clear v0 v1 v2 v3 u0 u1 u2 u3 x0 x1 x2 x3
      have HB4 := Lib.hid hb
      clear hb
      obtain ⟨_, v0, v1, v2, v3, u0, u1, u2, u3, x0, x1, x2, x3⟩ := HBV.out _ HB4.out
      rcases HQ.out with rfl | ⟨rfl, rfl⟩ | ⟨rfl, rfl, hkk⟩
      · go_wp2_with fail
        refine (Tells.at HFX.out HB4.out).mono ?_
        rintro e WZ ⟨rfl, hb⟩
        go_wp2_with fail
        go_ret
        exact ⟨rfl, HBW.out.trans' hb⟩
      · go_wp2_with fail
        refine (Tells.at HFX.out HB4.out).mono ?_
        rintro e WZ ⟨rfl, hb⟩
        go_wp2_with fail
        go_ret
        exact ⟨rfl, HBW.out.trans' hb⟩
      · rw [hs, Bool.false_and] at hkk
        go_wp2_with fail
        refine (Tells.at HFX.out HB4.out).mono ?_
        rintro e WZ ⟨rfl, hb⟩
        go_wp2_with fail
        go_ret
        exact ⟨rfl, HBW.out.trans' hb⟩
    · go_wp2_with fail
      refine (Tells.at HPK1.out HB2.out).mono ?_
      rintro e W3 ⟨rfl, hb⟩
      clear v0 v1 v2 v3 u0 u1 u2 u3 x0 x1 x2 x3
      have HB3 := Lib.hid hb
      clear hb
      obtain ⟨_, v0, v1, v2, v3, u0, u1, u2, u3, x0, x1, x2, x3⟩ := HBV.out _ HB3.out
      go_wp2_with fail
      refine (Tells.at HPK2.out HB3.out).mono ?_
      rintro e W4 ⟨rfl, hb⟩
      clear v0 v1 v2 v3 u0 u1 u2 u3 x0 x1 x2 x3
      have HB4 := Lib.hid hb
      clear hb
      obtain ⟨_, v0, v1, v2, v3, u0, u1, u2, u3, x0, x1, x2, x3⟩ := HBV.out _ HB4.out
      rcases HQ.out with rfl | ⟨rfl, rfl⟩ | ⟨rfl, rfl, hkk⟩
      · go_wp2_with fail
        refine (Tells.at HFX.out HB4.out).mono ?_
        rintro e WZ ⟨rfl, hb⟩
        go_wp2_with fail
        go_ret
        exact ⟨rfl, HBW.out.trans' hb⟩
      · go_wp2_with fail
        refine (Tells.at HFX.out HB4.out).mono ?_
        rintro e WZ ⟨rfl, hb⟩
        go_wp2_with fail
        go_ret
        exact ⟨rfl, HBW.out.trans' hb⟩
      · rw [hs, Bool.false_and] at hkk
        go_wp2_with fail
        refine (Tells.at HFX.out HB4.out).mono ?_
        rintro e WZ ⟨rfl, hb⟩
        go_wp2_with fail
        go_ret
        exact ⟨rfl, HBW.out.trans' hb⟩
    · rw [hs, Bool.false_and] at hcc
      go_wp2_with fail
      refine (Tells.at HPK1.out HB2.out).mono ?_
      rintro e W3 ⟨rfl, hb⟩
      clear v0 v1 v2 v3 u0 u1 u2 u3 x0 x1 x2 x3
      have HB3 := Lib.hid hb
      clear hb
      obtain ⟨_, v0, v1, v2, v3, u0, u1, u2, u3, x0, x1, x2, x3⟩ := HBV.out _ HB3.out
      go_wp2_with fail
      refine (Tells.at HPK2.out HB3.out).mono ?_
      rintro e W4 ⟨rfl, hb⟩
      clear v0 v1 v2 v3 u0 u1 u2 u3 x0 x1 x2 x3
      have HB4 := Lib.hid hb
      clear hb
      obtain ⟨_, v0, v1, v2, v3, u0, u1, u2, u3, x0, x1, x2, x3⟩ := HBV.out _ HB4.out
      rcases HQ.out with rfl | ⟨rfl, rfl⟩ | ⟨rfl, rfl, hkk⟩
      · go_wp2_with fail
        refine (Tells.at HFX.out HB4.out).mono ?_
        rintro e WZ ⟨rfl, hb⟩
        go_wp2_with fail
        go_ret
        exact ⟨rfl, HBW.out.trans' hb⟩
      · go_wp2_with fail
        refine (Tells.at HFX.out HB4.out).mono ?_
        rintro e WZ ⟨rfl, hb⟩
        go_wp2_with fail
        go_ret
        exact ⟨rfl, HBW.out.trans' hb⟩
      · rw [hs, Bool.false_and] at hkk
        go_wp2_with fail
        refine (Tells.at HFX.out HB4.out).mono ?_
        rintro e WZ ⟨rfl, hb⟩
        go_wp2_with fail
        go_ret
        exact ⟨rfl, HBW.out.trans' hb⟩
  · rcases HV.out with rfl | ⟨rfl, rfl⟩ | ⟨rfl, rfl, hcc⟩
    · go_wp2_with fail
      refine (Tells.at HPK1.out HB2.out).mono ?_
      rintro e W3 ⟨rfl, hb⟩
      clear v0 v1 v2 v3 u0 u1 u2 u3 x0 x1 x2 x3
      have HB3 := Lib.hid hb
      clear hb
      obtain ⟨_, v0, v1, v2, v3, u0, u1, u2, u3, x0, x1, x2, x3⟩ := HBV.out _ HB3.out
      go_wp2_with fail
      refine (Tells.at HPK2.out HB3.out).mono ?_
      rintro e W4 ⟨rfl, hb⟩
      clear v0 v1 v2 v3 u0 u1 u2 u3 x0 x1 x2 x3
      have HB4 := Lib.hid hb
      clear hb
      obtain ⟨_, v0, v1, v2, v3, u0, u1, u2, u3, x0, x1, x2, x3⟩ := HBV.out _ HB4.out
      rcases HQ.out with rfl | ⟨rfl, rfl⟩ | ⟨rfl, rfl, hkk⟩
      · go_wp2_with fail
        refine (Tells.at HFX.out HB4.out).mono ?_
        rintro e WZ ⟨rfl, hb⟩
        go_wp2_with fail
        go_ret
        exact ⟨rfl, HBW.out.trans' hb⟩
      · go_wp2_with fail
        refine (Tells.at HFX.out HB4.out).mono ?_
        rintro e WZ ⟨rfl, hb⟩
        go_wp2_with fail
        go_ret
        exact ⟨rfl, HBW.out.trans' hb⟩
      · rw [hs, Bool.true_and] at hkk
        obtain ⟨γ, hγ⟩ : ∃ γ, (k == k2) = γ := ⟨_, rfl⟩
        rw [hγ] at hkk
        have hγ2 : (γ == γ) = true := beq_self_eq_true _
        go_wp2_with fail
        refine (Tells.at HFX.out HB4.out).mono ?_
        rintro e WZ ⟨rfl, hb⟩
        go_wp2_with fail
        go_ret
        exact ⟨rfl, HBW.out.trans' hb⟩
    · go_wp2_with fail
      refine (Tells.at HPK1.out HB2.out).mono ?_
      rintro e W3 ⟨rfl, hb⟩
      clear v0 v1 v2 v3 u0 u1 u2 u3 x0 x1 x2 x3
      have HB3 := Lib.hid hb
      clear hb
      obtain ⟨_, v0, v1, v2, v3, u0, u1, u2, u3, x0, x1, x2, x3⟩ := HBV.out _ HB3.out
      go_wp2_with fail
      refine (Tells.at HPK2.out HB3.out).mono ?_
      rintro e W4 ⟨rfl, hb⟩
      clear v0 v1 v2 v3 u0 u1 u2 u3 x0 x1 x2 x3
      have HB4 := Lib.hid hb
      clear hb
      obtain ⟨_, v0, v1, v2, v3, u0, u1, u2, u3, x0, x1, x2, x3⟩ := HBV.out _ HB4.out
      rcases HQ.out with rfl | ⟨rfl, rfl⟩ | ⟨rfl, rfl, hkk⟩
      · go_wp2_with fail
        refine (Tells.at HFX.out HB4.out).mono ?_
        rintro e WZ ⟨rfl, hb⟩
        go_wp2_with fail
        go_ret
        exact ⟨rfl, HBW.out.trans' hb⟩
      · go_wp2_with fail
        refine (Tells.at HFX.out HB4.out).mono ?_
        rintro e WZ ⟨rfl, hb⟩
        go_wp2_with fail
        go_ret
        exact ⟨rfl, HBW.out.trans' hb⟩
      · rw [hs, Bool.true_and] at hkk
        obtain ⟨γ, hγ⟩ : ∃ γ, (k == k2) = γ := ⟨_, rfl⟩
        rw [hγ] at hkk
        have hγ2 : (γ == γ) = true := beq_self_eq_true _
        go_wp2_with fail
        refine (Tells.at HFX.out HB4.out).mono ?_
        rintro e WZ ⟨rfl, hb⟩
        go_wp2_with fail
        go_ret
        exact ⟨rfl, HBW.out.trans' hb⟩
    · rw [hs, Bool.true_and] at hcc
      obtain ⟨β, hβ⟩ : ∃ β, sameVV O V L P O2 V2 L2 P2 = β := ⟨_, rfl⟩
      rw [hβ] at hcc
      have hβ2 : (β != β) = false := bne_self_eq_false _
      go_wp2_with fail
      refine (Tells.at HPK1.out HB2.out).mono ?_
      rintro e W3 ⟨rfl, hb⟩
      clear v0 v1 v2 v3 u0 u1 u2 u3 x0 x1 x2 x3
      have HB3 := Lib.hid hb
      clear hb
      obtain ⟨_, v0, v1, v2, v3, u0, u1, u2, u3, x0, x1, x2, x3⟩ := HBV.out _ HB3.out
      go_wp2_with fail
      refine (Tells.at HPK2.out HB3.out).mono ?_
      rintro e W4 ⟨rfl, hb⟩
      clear v0 v1 v2 v3 u0 u1 u2 u3 x0 x1 x2 x3
      have HB4 := Lib.hid hb
      clear hb
      obtain ⟨_, v0, v1, v2, v3, u0, u1, u2, u3, x0, x1, x2, x3⟩ := HBV.out _ HB4.out
      rcases HQ.out with rfl | ⟨rfl, rfl⟩ | ⟨rfl, rfl, hkk⟩
      · go_wp2_with fail
        refine (Tells.at HFX.out HB4.out).mono ?_
        rintro e WZ ⟨rfl, hb⟩
        go_wp2_with fail
        go_ret
        exact ⟨rfl, HBW.out.trans' hb⟩
      · go_wp2_with fail
        refine (Tells.at HFX.out HB4.out).mono ?_
        rintro e WZ ⟨rfl, hb⟩
        go_wp2_with fail
        go_ret
        exact ⟨rfl, HBW.out.trans' hb⟩
      · rw [hs, Bool.true_and] at hkk
        obtain ⟨γ, hγ⟩ : ∃ γ, (k == k2) = γ := ⟨_, rfl⟩
        rw [hγ] at hkk
        have hγ2 : (γ == γ) = true := beq_self_eq_true _
        go_wp2_with fail
        refine (Tells.at HFX.out HB4.out).mono ?_
        rintro e WZ ⟨rfl, hb⟩
        go_wp2_with fail
        go_ret
        exact ⟨rfl, HBW.out.trans' hb⟩
end
end Go.Proofs.Ytppnchjmbeinkaa
