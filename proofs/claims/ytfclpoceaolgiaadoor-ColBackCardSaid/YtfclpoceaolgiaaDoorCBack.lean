/-
  The walk of the law ColBack.
-/
import Derived.Test.YtfclpoceaolgiaaDoorCCut
namespace Go.Proofs.YtfclpoceaolgiaaDoor
open Go.RowKit
set_option linter.unusedVariables false

section
attribute [local go_sem high] eql_col
set_option maxHeartbeats 2000000 in
set_option maxRecDepth 100000 in
theorem colBack_walk (K I U : Int) (S x y : ByteArray) (a : Int) (w : World) (M : MaxIs w) (ho : CP.Ok ⟨K, I, U, S.data.toList⟩) (hS : S.size ≤ maxLen) (wx : x.size ≤ maxLen) (wy : y.size ≤ maxLen) (wa : (Lit.int .u8 a).wf = true) :
    Calls Tryd.prog 5 #[.agg #[.int .i64 K, .int .i64 I, .int .u64 U, .string S], .agg #[.string x, .string y], .int .u8 a] w fun e w' => e = .returned (.bool true) ∧ Below w.heap.size w w' := by
  unfold maxLen at wx wy
  obtain ⟨T, hT, HC'⟩ := cut_any K I U S hS
  have HC := Lib.hid HC'
  have hoT : CP.Ok ⟨K, I, U, T.data.toList⟩ := ho
  have hu0 : 0 ≤ U := ho.2.2.1
  have hab := bounds_u8 wa
  clear HC' ho hS wa
  obtain ⟨m, hm, hm1, hms, hm2, hts⟩ := cut_min x 20 (by omega)
  obtain ⟨n, hn, hn1, hns, hn2, hus⟩ := cut_min y 20 (by omega)
  have HTS := Lib.hid hts
  have HUS := Lib.hid hus
  have HF := Lib.hid fixed_tells
  clear hts hus
  have BX0 := Lib.hid ((Box.new K I U S w).below (below_alloc _ (.cells #[.string x, .string y] 44)))
  have PR0 : Hid (Pair (w.heap.size + 1) x y ((w.alloc (.cells #[.int .i64 K, .int .i64 I, .int .u64 U, .string S] 24)).alloc (.cells #[.string x, .string y] 44))) := Lib.hid (by have h := heap_alloc_new (w.alloc (.cells #[.int .i64 K, .int .i64 I, .int .u64 U, .string S] 24)) (.cells #[.string x, .string y] 44); rw [show (w.alloc (.cells #[.int .i64 K, .int .i64 I, .int .u64 U, .string S] 24)).heap.size = w.heap.size + 1 by simp] at h; exact h)
  go_enter Tryd.func5, Tryd.ntmps5
  go_wp2_with fail
  refine (HC.out _).mono ?_
  rintro e w1 ⟨rfl, hb1⟩
  obtain ⟨c0, c1, c2, c3⟩ := (BX0.out.below hb1).cells
  obtain ⟨f0, f1, f2, f3⟩ := (BX0.out.below hb1).free
  go_wp2_with fail
  have B2 := Lib.hid (set4_box (BX0.out.below hb1) K I U T)
  have P2 := Lib.hid ((PR0.out.below hb1).set4 (g := w.heap.size) (by omega) K I U T)
  have L2 := set4_below ((below_alloc2 w _ _).trans' hb1) (Nat.le_refl _) K I U T
  unfold set4 at B2 P2 L2
  generalize (((w1.setCell ⟨w.heap.size, 0, none⟩ (.int .i64 K)).setCell ⟨w.heap.size, 1, none⟩ (.int .i64 I)).setCell ⟨w.heap.size, 2, none⟩ (.int .u64 U)).setCell ⟨w.heap.size, 3, none⟩ (.string T) = W2 at *
  clear c0 c1 c2 c3 f0 f1 f2 f3 BX0 PR0 hb1 HC
  have M2 := M.below L2
  clear M
  obtain ⟨d0, d1⟩ := P2.out.cells
  go_quiet (fail)
  clear d0 d1 hm hn hm2 hn2 P2
  have B3 : Hid (Box w.heap.size K I U T (W2.drewN nq)) := B2
  have L3 : Below w.heap.size w (W2.drewN nq) := ⟨L2.os, L2.tape, L2.output, L2.size, L2.block⟩
  have M3 : MaxIs (W2.drewN nq) := M2
  clear B2 L2 M2
  generalize W2.drewN nq = W3 at *
  generalize x.extract 0 m = X at *
  generalize y.extract 0 n = Y at *
  obtain rfl := HTS.out
  obtain rfl := HUS.out
  obtain ⟨c0, c1, c2, c3⟩ := B3.out.cells
  cases hrt : rt K I U T with
  | false =>
    have HP : Hid (Tells 10 #[.agg #[.int .i64 K, .int .i64 I, .int .u64 U, .string T]] (.tuple #[.string ⟨#[]⟩, .int .i64 3])) := Lib.hid (fp K I U T _ hoT (by omega) (by unfold putV; rw [if_neg (by rw [hrt]; decide)]))
    have HRt : Hid (Tells 15 #[.agg #[.int .i64 K, .int .i64 I, .int .u64 U, .string T]] (.bool false)) := Lib.hid (Tells.of fun W _ => by have h := right_any K I U T W hu0; rwa [hrt] at h)
    clear hrt hoT
    go_wp2_with fail
    refine (HP.out _ M3).mono ?_
    rintro e w4 ⟨rfl, hb4, M4⟩
    obtain ⟨e0, e1, e2, e3⟩ := (B3.out.below hb4).cells
    go_wp2_with fail
    refine (HRt.out _ M4).mono ?_
    rintro e w5 ⟨rfl, hb5, M5⟩
    go_wp2_with fail
    refine (HF.out _ M5).mono ?_
    rintro e w6 ⟨rfl, hb6, M6⟩
    go_wp2_with fail
    go_ret
    exact ⟨rfl, ((L3.trans' hb4).trans' hb5).trans' hb6⟩
  | true =>
    have hr : CP.Right ⟨K, I, U, T.data.toList⟩ := of_decide_eq_true hrt
    obtain ⟨P, HPe⟩ : ∃ P : ByteArray, Hid (P = ⟨(CP.put ⟨K, I, U, T.data.toList⟩).toArray⟩) := ⟨_, Lib.hid rfl⟩
    have hPl : P.data.toList = CP.put ⟨K, I, U, T.data.toList⟩ := by rw [HPe.out]
    have hPs : P.size = (CP.put ⟨K, I, U, T.data.toList⟩).length := by rw [← hPl]; simp
    have hp1 : 0 < P.size := by rw [hPs]; exact CP.put_pos hoT hr
    have hp9 : P.size ≤ 130 := by rw [hPs]; have h := CP.put_le hoT hr; have h2 : T.data.toList.length = T.size := (by simp); simp only at h; omega
    have HP : Hid (Tells 10 #[.agg #[.int .i64 K, .int .i64 I, .int .u64 U, .string T]] (.tuple #[.string P, .int .i64 0])) := Lib.hid (fp K I U T _ hoT (by omega) (by unfold putV; rw [if_pos hrt, HPe.out]))
    have HG1 : Hid (Tells 13 #[.string (X ++ P ++ Y), .int .i64 X.size] (.tuple #[.agg #[.int .i64 K, .int .i64 I, .int .u64 U, .string T], .int .i64 (X.size + P.size : Nat), .int .i64 0])) := Lib.hid (fg _ _ _ (by simp only [ByteArray.size_append]; omega) (by simp only [ByteArray.size_append]; omega) (by
      rw [show (X ++ P ++ Y).data.toList = X.data.toList ++ CP.put ⟨K, I, U, T.data.toList⟩ ++ Y.data.toList by rw [← hPl]; simp, show X.size = X.data.toList.length by simp, CP.get_put _ _ _ hoT hr, gotV_eq, ← hPs, show X.data.toList.length = X.size by simp, show (⟨T.data.toList.toArray⟩ : ByteArray) = T from bytes_of_list (by simp)]
      rfl))
    obtain ⟨k, hk⟩ : ∃ k : Nat, k = a.toNat % P.size := ⟨_, rfl⟩
    have hkl : k < P.size := by rw [hk]; exact Nat.mod_lt _ hp1
    have hka : (a.tmod (P.size : Int)) = (k : Int) := by
      obtain ⟨b, rfl⟩ := Int.eq_ofNat_of_zero_le hab.1
      rw [hk, Int.toNat_natCast]
      rfl
    have HG2 : Hid (Tells 13 #[.string (X ++ P.extract 0 k), .int .i64 X.size] (.tuple #[.agg #[.int .i64 0, .int .i64 0, .int .u64 0, .string ⟨#[]⟩], .int .i64 0, .int .i64 7])) := Lib.hid (fg _ _ _ (by simp only [ByteArray.size_append]; omega) (by simp only [ByteArray.size_append, ByteArray.size_extract]; omega) (by
      rw [show (X ++ P.extract 0 k).data.toList = X.data.toList ++ (CP.put ⟨K, I, U, T.data.toList⟩).take k by rw [ByteArray.data_append, Array.toList_append, Lib.extract_data, hPl]; simp, show X.size = X.data.toList.length by simp, CP.get_cut _ _ hoT hr k (by omega)]
      rfl))
    have hsame : sameV K I U T K I U T = true := (sameV_iff _ _ _ _ _ _ _ _).2 rfl
    have hes : (P.extract 0 k).size = k := by simp; omega
    clear hrt hoT hr hPl hPs hk HPe
    have q1 : ((P.size : Int) == 0) = false := beq_eq_false_iff_ne.2 (by omega)
    go_wp2_with fail
    refine (HP.out _ M3).mono ?_
    rintro e w4 ⟨rfl, hb4, M4⟩
    go_wp2_with fail
    refine (HG1.out _ M4).mono ?_
    rintro e w5 ⟨rfl, hb5, M5⟩
    have M5' := M5.alloc (.cells #[.int .i64 K, .int .i64 I, .int .u64 U, .string T] 24)
    have X5 := Lib.hid (Box.new K I U T w5)
    have X3 := Lib.hid (((B3.out.below hb4).below hb5).below (below_alloc _ (.cells #[.int .i64 K, .int .i64 I, .int .u64 U, .string T] 24)))
    go_wp2_with fail
    refine (HG2.out _ M5').mono ?_
    rintro e w6 ⟨rfl, hb6, M6⟩
    have M6' := M6.alloc (.cells #[.int .i64 0, .int .i64 0, .int .u64 0, .string ⟨#[]⟩] 24)
    have Y5 := Lib.hid ((X5.out.below hb6).below (below_alloc _ (.cells #[.int .i64 0, .int .i64 0, .int .u64 0, .string ⟨#[]⟩] 24)))
    have Y3 := Lib.hid ((X3.out.below hb6).below (below_alloc _ (.cells #[.int .i64 0, .int .i64 0, .int .u64 0, .string ⟨#[]⟩] 24)))
    obtain ⟨g0, g1, g2, g3⟩ := Y5.out.cells
    obtain ⟨e0, e1, e2, e3⟩ := Y3.out.cells
    go_wp2_with fail
    refine (HF.out _ M6').mono ?_
    rintro e w7 ⟨rfl, hb7, _⟩
    go_wp2_with fail
    go_ret
    exact ⟨rfl, ((((L3.trans' hb4).trans' hb5).trans' (below_alloc _ _)).trans' hb6).trans' ((below_alloc _ _).trans' hb7)⟩
end
end Go.Proofs.YtfclpoceaolgiaaDoor
