/-
  The walk of the law ColOrder.
-/
import Derived.Test.YtfclpoceaolgiaaDoorCCut
import Derived.Test.YtfclpoceaolgiaaDoorCCmp
namespace Go.Proofs.YtfclpoceaolgiaaDoor
open Go.RowKit
set_option linter.unusedVariables false

theorem eqb_ne {x y : List UInt8} (h : x ≠ y) : (x == y) = false := beq_eq_false_iff_ne.2 h

section
attribute [local go_sem high] eql_col
set_option maxHeartbeats 4000000 in
set_option maxRecDepth 100000 in
theorem colOrder_walk (K I U : Int) (S : ByteArray) (K' I' U' : Int) (S' x y : ByteArray) (w : World) (M : MaxIs w) (ho : CP.Ok ⟨K, I, U, S.data.toList⟩) (hS : S.size ≤ maxLen) (ho' : CP.Ok ⟨K', I', U', S'.data.toList⟩) (hS' : S'.size ≤ maxLen) (wx : x.size ≤ maxLen) (wy : y.size ≤ maxLen) :
    Calls Tryd.prog 4 #[.agg #[.int .i64 K, .int .i64 I, .int .u64 U, .string S], .agg #[.int .i64 K', .int .i64 I', .int .u64 U', .string S'], .agg #[.string x, .string y]] w fun e w' => e = .returned (.bool true) ∧ Below w.heap.size w w' := by
  unfold maxLen at wx wy
  obtain ⟨T, hT, HC'⟩ := cut_any K I U S hS
  have HC := Lib.hid HC'
  have hoT : CP.Ok ⟨K, I, U, T.data.toList⟩ := ho
  clear HC' ho hS
  obtain ⟨T', hT', HC'⟩ := cut_any K' I' U' S' hS'
  have HD := Lib.hid HC'
  have hoT' : CP.Ok ⟨K', I', U', T'.data.toList⟩ := ho'
  clear HC' ho' hS'
  have HF := Lib.hid fixed_tells
  have L0 : Below w.heap.size w (((w.alloc (.cells #[.int .i64 K, .int .i64 I, .int .u64 U, .string S] 24)).alloc (.cells #[.int .i64 K', .int .i64 I', .int .u64 U', .string S'] 24)).alloc (.cells #[.string x, .string y] 44)) := ((below_alloc _ _).trans' (below_alloc _ _)).trans' (below_alloc _ _)
  have A0 := Lib.hid (((Box.new K I U S w).below (below_alloc _ (.cells #[.int .i64 K', .int .i64 I', .int .u64 U', .string S'] 24))).below (below_alloc _ (.cells #[.string x, .string y] 44)))
  have E0 : Hid (Box (w.heap.size + 1) K' I' U' S' (((w.alloc (.cells #[.int .i64 K, .int .i64 I, .int .u64 U, .string S] 24)).alloc (.cells #[.int .i64 K', .int .i64 I', .int .u64 U', .string S'] 24)).alloc (.cells #[.string x, .string y] 44))) := Lib.hid (by
    have h := (Box.new K' I' U' S' (w.alloc (.cells #[.int .i64 K, .int .i64 I, .int .u64 U, .string S] 24))).below (below_alloc _ (.cells #[.string x, .string y] 44))
    rw [show (w.alloc (.cells #[.int .i64 K, .int .i64 I, .int .u64 U, .string S] 24)).heap.size = w.heap.size + 1 by simp] at h; exact h)
  have P0 : Hid (Pair (w.heap.size + 1 + 1) x y (((w.alloc (.cells #[.int .i64 K, .int .i64 I, .int .u64 U, .string S] 24)).alloc (.cells #[.int .i64 K', .int .i64 I', .int .u64 U', .string S'] 24)).alloc (.cells #[.string x, .string y] 44))) := Lib.hid (by
    have h := heap_alloc_new ((w.alloc (.cells #[.int .i64 K, .int .i64 I, .int .u64 U, .string S] 24)).alloc (.cells #[.int .i64 K', .int .i64 I', .int .u64 U', .string S'] 24)) (.cells #[.string x, .string y] 44)
    rw [show ((w.alloc (.cells #[.int .i64 K, .int .i64 I, .int .u64 U, .string S] 24)).alloc (.cells #[.int .i64 K', .int .i64 I', .int .u64 U', .string S'] 24)).heap.size = w.heap.size + 1 + 1 by simp] at h; exact h)
  go_enter Tryd.func4, Tryd.ntmps4
  go_wp2_with fail
  refine (HC.out _).mono ?_
  rintro e w1 ⟨rfl, hb1⟩
  obtain ⟨c0, c1, c2, c3⟩ := (A0.out.below hb1).cells
  obtain ⟨f0, f1, f2, f3⟩ := (A0.out.below hb1).free
  have A1 := Lib.hid (set4_box (A0.out.below hb1) K I U T)
  have E1 := Lib.hid ((E0.out.below hb1).set4 (g := w.heap.size) (by omega) K I U T)
  have P1 := Lib.hid ((P0.out.below hb1).set4 (g := w.heap.size) (by omega) K I U T)
  have L1 := set4_below (L0.trans' hb1) (Nat.le_refl _) K I U T
  unfold set4 at A1 E1 P1 L1
  clear A0 E0 P0 L0 hb1 HC
  obtain ⟨j0, j1, j2, j3⟩ := E1.out.cells
  go_wp2_with fail
  generalize (((w1.setCell ⟨w.heap.size, 0, none⟩ (.int .i64 K)).setCell ⟨w.heap.size, 1, none⟩ (.int .i64 I)).setCell ⟨w.heap.size, 2, none⟩ (.int .u64 U)).setCell ⟨w.heap.size, 3, none⟩ (.string T) = W1 at *
  clear c0 c1 c2 c3 f0 f1 f2 f3 j0 j1 j2 j3
  refine (HD.out _).mono ?_
  rintro e w2 ⟨rfl, hb2⟩
  obtain ⟨c0, c1, c2, c3⟩ := (E1.out.below hb2).cells
  obtain ⟨f0, f1, f2, f3⟩ := (E1.out.below hb2).free
  have E2 := Lib.hid (set4_box (E1.out.below hb2) K' I' U' T')
  have A2 := Lib.hid ((A1.out.below hb2).set4 (g := w.heap.size + 1) (by omega) K' I' U' T')
  have P2 := Lib.hid ((P1.out.below hb2).set4 (g := w.heap.size + 1) (by omega) K' I' U' T')
  have L2 := set4_below (L1.trans' hb2) (Nat.le_succ _) K' I' U' T'
  unfold set4 at A2 E2 P2 L2
  clear A1 E1 P1 L1 hb2 HD
  obtain ⟨j0, j1, j2, j3⟩ := A2.out.cells
  go_wp2_with fail
  generalize (((w2.setCell ⟨w.heap.size + 1, 0, none⟩ (.int .i64 K')).setCell ⟨w.heap.size + 1, 1, none⟩ (.int .i64 I')).setCell ⟨w.heap.size + 1, 2, none⟩ (.int .u64 U')).setCell ⟨w.heap.size + 1, 3, none⟩ (.string T') = W2 at *
  clear c0 c1 c2 c3 f0 f1 f2 f3 j0 j1 j2 j3
  have M2 := M.below L2
  clear M
  have HPa : Hid (Tells 10 #[.agg #[.int .i64 K, .int .i64 I, .int .u64 U, .string T]] (putV K I U T)) := Lib.hid (fp K I U T _ hoT (by omega) rfl)
  have HPb : Hid (Tells 10 #[.agg #[.int .i64 K', .int .i64 I', .int .u64 U', .string T']] (putV K' I' U' T')) := Lib.hid (fp K' I' U' T' _ hoT' (by omega) rfl)
  unfold putV at HPa HPb
  cases hrt : rt K I U T with
  | false =>
    rw [hrt, if_neg (by decide)] at HPa
    refine (HPa.out _ M2).mono ?_
    rintro e w3 ⟨rfl, hb3, M3⟩
    obtain ⟨c0, c1, c2, c3⟩ := (E2.out.below hb3).cells
    cases hrt' : rt K' I' U' T' with
    | false =>
      rw [hrt', if_neg (by decide)] at HPb
      go_wp2_with fail
      refine (HPb.out _ M3).mono ?_
      rintro e w4 ⟨rfl, hb4, M4⟩
      go_wp2_with fail
      refine (HF.out _ M4).mono ?_
      rintro e w5 ⟨rfl, hb5, M5⟩
      go_wp2_with fail
      go_ret
      exact ⟨rfl, ((L2.trans' hb3).trans' hb4).trans' hb5⟩
    | true =>
      rw [hrt', if_pos rfl] at HPb
      generalize (⟨(CP.put ⟨K', I', U', T'.data.toList⟩).toArray⟩ : ByteArray) = Q at *
      go_wp2_with fail
      refine (HPb.out _ M3).mono ?_
      rintro e w4 ⟨rfl, hb4, M4⟩
      go_wp2_with fail
      refine (HF.out _ M4).mono ?_
      rintro e w5 ⟨rfl, hb5, M5⟩
      go_wp2_with fail
      go_ret
      exact ⟨rfl, ((L2.trans' hb3).trans' hb4).trans' hb5⟩
  | true =>
    rw [hrt, if_pos rfl] at HPa
    have hr : CP.Right ⟨K, I, U, T.data.toList⟩ := of_decide_eq_true hrt
    cases hrt' : rt K' I' U' T' with
    | false =>
      rw [hrt', if_neg (by decide)] at HPb
      generalize (⟨(CP.put ⟨K, I, U, T.data.toList⟩).toArray⟩ : ByteArray) = P at *
      refine (HPa.out _ M2).mono ?_
      rintro e w3 ⟨rfl, hb3, M3⟩
      obtain ⟨c0, c1, c2, c3⟩ := (E2.out.below hb3).cells
      go_wp2_with fail
      refine (HPb.out _ M3).mono ?_
      rintro e w4 ⟨rfl, hb4, M4⟩
      go_wp2_with fail
      refine (HF.out _ M4).mono ?_
      rintro e w5 ⟨rfl, hb5, M5⟩
      go_wp2_with fail
      go_ret
      exact ⟨rfl, ((L2.trans' hb3).trans' hb4).trans' hb5⟩
    | true =>
      rw [hrt', if_pos rfl] at HPb
      have hr' : CP.Right ⟨K', I', U', T'.data.toList⟩ := of_decide_eq_true hrt'
      have HX := Lib.hid (CP.cmp_cases hoT hoT' hr hr')
      have hlT : T.data.toList.length = T.size := by simp
      have hlT' : T'.data.toList.length = T'.size := by simp
      have h9a := CP.put_le hoT hr
      have h9b := CP.put_le hoT' hr'
      have HCm := Lib.hid (fun W => compare_any K I U T K' I' U' T' W)
      obtain ⟨P, HPe⟩ : ∃ P : ByteArray, P = ⟨(CP.put ⟨K, I, U, T.data.toList⟩).toArray⟩ := ⟨_, rfl⟩
      obtain ⟨Q, HQe⟩ : ∃ Q : ByteArray, Q = ⟨(CP.put ⟨K', I', U', T'.data.toList⟩).toArray⟩ := ⟨_, rfl⟩
      have hPl : P.data.toList = CP.put ⟨K, I, U, T.data.toList⟩ := by rw [HPe]
      have hQl : Q.data.toList = CP.put ⟨K', I', U', T'.data.toList⟩ := by rw [HQe]
      rw [← hPl] at h9a
      rw [← hQl] at h9b
      have hPs : P.size ≤ 130 := by have e : P.data.toList.length = P.size := (by simp); simp only at h9a; omega
      have hQs : Q.size ≤ 130 := by have e : Q.data.toList.length = Q.size := (by simp); simp only at h9b; omega
      have HPQ : Hid ((⟨K, I, U, T.data.toList⟩ : CP.Col) = ⟨K', I', U', T'.data.toList⟩ → P = Q) := Lib.hid (fun h => by rw [HPe, HQe, h])
      rw [← HPe] at HPa
      rw [← HQe] at HPb
      rw [← hPl, ← hQl] at HX
      clear h9a h9b HPe HQe hPl hQl hrt hrt' hlT hlT'
      refine (HPa.out _ M2).mono ?_
      rintro e w3 ⟨rfl, hb3, M3⟩
      obtain ⟨c0, c1, c2, c3⟩ := (E2.out.below hb3).cells
      go_wp2_with fail
      refine (HPb.out _ M3).mono ?_
      rintro e w4 ⟨rfl, hb4, M4⟩
      have A4 := Lib.hid ((A2.out.below hb3).below hb4)
      have E4 := Lib.hid ((E2.out.below hb3).below hb4)
      have P4 := Lib.hid ((P2.out.below hb3).below hb4)
      have L4 := (L2.trans' hb3).trans' hb4
      clear A2 E2 P2 L2 hb3 hb4 M2 M3 c0 c1 c2 c3 HPa HPb hr hr' hoT hoT'
      obtain ⟨d0, d1⟩ := P4.out.cells
      obtain ⟨m, hm, hm20, hms, hm2, hts⟩ := cut_min x 20 (by omega)
      obtain ⟨m', hm', hm20', hms', hm2', hts'⟩ := cut_min y 20 (by omega)
      go_wp2_with fail
      go_quiet (fail)
      clear hm hm' hm2 hm2' d0 d1 P4
      have A5 : Hid (Box w.heap.size K I U T (w4.drewN nq)) := A4
      have E5 : Hid (Box (w.heap.size + 1) K' I' U' T' (w4.drewN nq)) := E4
      have L5 : Below w.heap.size w (w4.drewN nq) := ⟨L4.os, L4.tape, L4.output, L4.size, L4.block⟩
      have M5 : MaxIs (w4.drewN nq) := M4
      clear A4 E4 L4 M4
      generalize w4.drewN nq = W5 at *
      generalize x.extract 0 m = X at *
      generalize y.extract 0 m' = Y at *
      clear hts hts' hms hms' hm20 hm20'
      obtain ⟨c0, c1, c2, c3⟩ := A5.out.cells
      obtain ⟨e0, e1, e2, e3⟩ := E5.out.cells
      rcases HX.out with ⟨hc, heq⟩ | ⟨hc, hne, hp⟩ | ⟨hc, hne, hp⟩
      · obtain rfl := HPQ.out heq
        rw [CP.Col.eq_iff] at heq
        obtain ⟨h1, h2, h3, h4⟩ := heq
        simp only at h1 h2 h3 h4
        have hsame : sameV K I U T K' I' U' T' = true := (sameV_iff _ _ _ _ _ _ _ _).2 (CP.Col.eq h1 h2 h3 h4)
        have g1 : Op.bytesLess P.toList P.toList = false := by rw [Lib.toList_data]; exact WP.less_irrefl _
        have HCm' : Hid (∀ W, Calls Tryd.prog 17 #[.agg #[.int .i64 K, .int .i64 I, .int .u64 U, .string T], .agg #[.int .i64 K', .int .i64 I', .int .u64 U', .string T']] W fun e w' => e = .returned (.int .i64 0) ∧ Below W.heap.size W w') := Lib.hid (by rw [hc] at HCm; exact HCm.out)
        clear HX HPQ HCm hc h1 h2 h3 h4
        go_wp2_with fail
        all_goals
          refine (HCm'.out _).mono ?_
          rintro e w6 ⟨rfl, hb6⟩
          obtain ⟨k0, k1, k2, k3⟩ := (A5.out.below hb6).cells
          obtain ⟨l0, l1, l2, l3⟩ := (E5.out.below hb6).cells
          have M6 := M5.below hb6
          go_wp2_with fail
          refine (HF.out _ M6).mono ?_
          rintro e w7 ⟨rfl, hb7, _⟩
          go_wp2_with fail
          go_ret
          exact ⟨rfl, (L5.trans' hb6).trans' hb7⟩
      · have hsame : sameV K I U T K' I' U' T' = false := sameV_eq (Iff.intro (fun e => absurd e (by decide)) (fun e => absurd e hne))
        have g1 : Op.bytesLess P.toList Q.toList = true := by rw [Lib.toList_data, Lib.toList_data]; exact hp.less'.1
        have g2 : Op.bytesLess (P ++ X).toList (Q ++ Y).toList = true := by rw [Lib.toList_data, Lib.toList_data]; simpa using (hp.less X.data.toList Y.data.toList).1
        have g3 : P.size ≤ Q.size → ((Q.extract 0 P.size).toList == P.toList) = false := fun _ => by rw [Lib.extract_toList, Lib.toList_data]; exact eqb_ne (by simpa using (hp.takes _).1)
        have g4 : Q.size ≤ P.size → ((P.extract 0 Q.size).toList == Q.toList) = false := fun _ => by rw [Lib.extract_toList, Lib.toList_data]; exact eqb_ne (by simpa using (hp.takes _).2)
        have g5 : (P.toList == Q.toList) = false := by rw [Lib.toList_data, Lib.toList_data]; exact eqb_ne hp.ne
        have HCm' : Hid (∀ W, Calls Tryd.prog 17 #[.agg #[.int .i64 K, .int .i64 I, .int .u64 U, .string T], .agg #[.int .i64 K', .int .i64 I', .int .u64 U', .string T']] W fun e w' => e = .returned (.int .i64 (-1)) ∧ Below W.heap.size W w') := Lib.hid (by rw [hc] at HCm; exact HCm.out)
        clear HX HPQ HCm hc hp hne
        go_wp2_with fail
        all_goals
          refine (HCm'.out _).mono ?_
          rintro e w6 ⟨rfl, hb6⟩
          obtain ⟨k0, k1, k2, k3⟩ := (A5.out.below hb6).cells
          obtain ⟨l0, l1, l2, l3⟩ := (E5.out.below hb6).cells
          have M6 := M5.below hb6
          go_wp2_with fail
          refine (HF.out _ M6).mono ?_
          rintro e w7 ⟨rfl, hb7, _⟩
          go_wp2_with fail
          go_ret
          exact ⟨rfl, (L5.trans' hb6).trans' hb7⟩
      · have hsame : sameV K I U T K' I' U' T' = false := sameV_eq (Iff.intro (fun e => absurd e (by decide)) (fun e => absurd e hne))
        have g1 : Op.bytesLess P.toList Q.toList = false := by rw [Lib.toList_data, Lib.toList_data]; exact hp.less'.2
        have g2 : Op.bytesLess (P ++ X).toList (Q ++ Y).toList = false := by rw [Lib.toList_data, Lib.toList_data]; simpa using (hp.less Y.data.toList X.data.toList).2
        have g3 : P.size ≤ Q.size → ((Q.extract 0 P.size).toList == P.toList) = false := fun _ => by rw [Lib.extract_toList, Lib.toList_data]; exact eqb_ne (by simpa using (hp.takes _).2)
        have g4 : Q.size ≤ P.size → ((P.extract 0 Q.size).toList == Q.toList) = false := fun _ => by rw [Lib.extract_toList, Lib.toList_data]; exact eqb_ne (by simpa using (hp.takes _).1)
        have g5 : (P.toList == Q.toList) = false := by rw [Lib.toList_data, Lib.toList_data]; exact eqb_ne hp.ne.symm
        have HCm' : Hid (∀ W, Calls Tryd.prog 17 #[.agg #[.int .i64 K, .int .i64 I, .int .u64 U, .string T], .agg #[.int .i64 K', .int .i64 I', .int .u64 U', .string T']] W fun e w' => e = .returned (.int .i64 1) ∧ Below W.heap.size W w') := Lib.hid (by rw [hc] at HCm; exact HCm.out)
        clear HX HPQ HCm hc hp hne
        go_wp2_with fail
        all_goals
          refine (HCm'.out _).mono ?_
          rintro e w6 ⟨rfl, hb6⟩
          obtain ⟨k0, k1, k2, k3⟩ := (A5.out.below hb6).cells
          obtain ⟨l0, l1, l2, l3⟩ := (E5.out.below hb6).cells
          have M6 := M5.below hb6
          go_wp2_with fail
          refine (HF.out _ M6).mono ?_
          rintro e w7 ⟨rfl, hb7, _⟩
          go_wp2_with fail
          go_ret
          exact ⟨rfl, (L5.trans' hb6).trans' hb7⟩
end
end Go.Proofs.YtfclpoceaolgiaaDoor
