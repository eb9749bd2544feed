/-
  The walk of the law ColSizes.
-/
import Derived.Test.YtfclpoceaolgiaaDoorCCut
import Derived.StillTailTactics
namespace Go.Proofs.YtfclpoceaolgiaaDoor
open Go.RowKit
set_option linter.unusedVariables false

theorem zeros_snoc (T : ByteArray) (k : Nat) (h : k < T.size) : CP.zeros (T.data.toList.take (k + 1)) = CP.zeros (T.data.toList.take k) + if T[k] = 0 then 1 else 0 := by
  rw [WP.take_snoc T k h, CP.zeros_append, CP.zeros_cons]
  split <;> rfl
theorem put_size (K I U : Int) (T : ByteArray) (ho : CP.Ok ⟨K, I, U, T.data.toList⟩) (hr : CP.Right ⟨K, I, U, T.data.toList⟩) :
    (K = 2 → (CP.put ⟨K, I, U, T.data.toList⟩).length = 9) ∧ (K = 4 → (CP.put ⟨K, I, U, T.data.toList⟩).length = 3 + T.size + CP.zeros T.data.toList) ∧ (K = 0 ∨ K = 1 → (CP.put ⟨K, I, U, T.data.toList⟩).length = 1) := by
  refine ⟨fun h => ?_, fun h => ?_, fun h => ?_⟩
  · rw [CP.put2 h]; simp [Lib.beBytes_length]
  · rw [CP.put4 h]; simp [CP.esc_length]; omega
  · rcases h with h | h
    · rw [CP.put0 h]; rfl
    · rw [CP.put1 h]; rfl

section
attribute [local go_sem high] eql_col
set_option maxHeartbeats 4000000 in
set_option maxRecDepth 100000 in
theorem colSizes_walk (K I U : Int) (S : ByteArray) (w : World) (M : MaxIs w) (ho : CP.Ok ⟨K, I, U, S.data.toList⟩) (hS : S.size ≤ maxLen) :
    Calls Tryd.prog 8 #[.agg #[.int .i64 K, .int .i64 I, .int .u64 U, .string S]] w fun e w' => e = .returned (.bool true) ∧ Below w.heap.size w w' := by
  obtain ⟨T, hT, HC'⟩ := cut_any K I U S hS
  have HC := Lib.hid HC'
  have hoT : CP.Ok ⟨K, I, U, T.data.toList⟩ := ho
  have hu0 : 0 ≤ U := ho.2.2.1
  clear HC' ho hS
  have HF := Lib.hid fixed_tells
  have A0 := Lib.hid (Box.new K I U S w)
  go_enter Tryd.func8, Tryd.ntmps8
  go_wp2_with fail
  refine (HC.out _).mono ?_
  rintro e w1 ⟨rfl, hb1⟩
  obtain ⟨c0, c1, c2, c3⟩ := (A0.out.below hb1).cells
  obtain ⟨f0, f1, f2, f3⟩ := (A0.out.below hb1).free
  have A1 := Lib.hid (set4_box (A0.out.below hb1) K I U T)
  have L1 := set4_below ((below_alloc w _).trans' hb1) (Nat.le_refl _) K I U T
  unfold set4 at A1 L1
  clear A0 hb1 HC
  obtain ⟨j0, j1, j2, j3⟩ := A1.out.cells
  go_wp2_with fail
  generalize (((w1.setCell ⟨w.heap.size, 0, none⟩ (.int .i64 K)).setCell ⟨w.heap.size, 1, none⟩ (.int .i64 I)).setCell ⟨w.heap.size, 2, none⟩ (.int .u64 U)).setCell ⟨w.heap.size, 3, none⟩ (.string T) = W1 at *
  clear c0 c1 c2 c3 f0 f1 f2 f3
  have M1 := M.below L1
  clear M
  have HP : Hid (Tells 10 #[.agg #[.int .i64 K, .int .i64 I, .int .u64 U, .string T]] (putV K I U T)) := Lib.hid (fp K I U T _ hoT (by omega) rfl)
  unfold putV at HP
  cases hrt : rt K I U T with
  | false =>
    rw [hrt, if_neg (by decide)] at HP
    have HRt : Hid (Tells 15 #[.agg #[.int .i64 K, .int .i64 I, .int .u64 U, .string T]] (.bool false)) := Lib.hid (Tells.of fun W _ => by have h := right_any K I U T W hu0; rwa [hrt] at h)
    clear hrt hoT
    refine (HP.out _ M1).mono ?_
    rintro e w3 ⟨rfl, hb3, M3⟩
    obtain ⟨c0, c1, c2, c3⟩ := (A1.out.below hb3).cells
    go_wp2_with fail
    refine (HRt.out _ M3).mono ?_
    rintro e w4 ⟨rfl, hb4, M4⟩
    go_wp2_with fail
    refine (HF.out _ M4).mono ?_
    rintro e w5 ⟨rfl, hb5, M5⟩
    go_wp2_with fail
    go_ret
    exact ⟨rfl, ((L1.trans' hb3).trans' hb4).trans' hb5⟩
  | true =>
    rw [hrt, if_pos rfl] at HP
    have hr : CP.Right ⟨K, I, U, T.data.toList⟩ := of_decide_eq_true hrt
    have hk := hr.kind
    simp only at hk
    obtain ⟨b, r, hbr, hb16⟩ := CP.put_head hoT hr
    obtain ⟨z2, z4, z1⟩ := put_size K I U T hoT hr
    have h9 := CP.put_le hoT hr
    obtain ⟨P, HPe⟩ : ∃ P : ByteArray, P = ⟨(CP.put ⟨K, I, U, T.data.toList⟩).toArray⟩ := ⟨_, rfl⟩
    have hPl : P.data.toList = CP.put ⟨K, I, U, T.data.toList⟩ := by rw [HPe]
    rw [← HPe] at HP
    rw [← hPl] at z2 z4 z1 hbr h9
    have hPs : P.data.toList.length = P.size := by simp
    have hlT : T.data.toList.length = T.size := by simp
    rw [hPs] at z2 z4 z1 h9
    simp only [hlT] at h9
    have hp0 : 0 < P.size := by rw [← hPs, hbr]; simp
    have hP0 : P[0].toNat = b.toNat := by
      have e1 : P.data.toList[0]? = some b := by rw [hbr]; rfl
      have e2 : P.data.toList[0]? = some P[0] := by rw [List.getElem?_eq_getElem (by omega)]; rfl
      rw [e1] at e2
      rw [Option.some.inj e2]
    have hq : ((P[0].toNat : Int)).tdiv 16 = K + 1 := by
      rw [hP0, Int.tdiv_eq_ediv_of_nonneg (by omega)]
      simp only at hb16
      exact hb16
    have hne : P.toList.isEmpty = false := by
      rw [Lib.toList_data, hbr]; rfl
    clear hrt hoT hr hbr HPe hPl hPs hlT hb16 hP0
    refine (HP.out _ M1).mono ?_
    rintro e w3 ⟨rfl, hb3, M3⟩
    have A3 := Lib.hid (A1.out.below hb3)
    have L3 := L1.trans' hb3
    clear A1 L1 hb3 M1 j0 j1 j2 j3 HP
    rcases (show K = 0 ∨ K = 1 ∨ K = 2 ∨ K = 3 ∨ K = 4 by omega) with rfl | rfl | rfl | rfl | rfl
    · have hn : ((P.size : Int) == 1) = true := beq_iff_eq.2 (by have := z1 (.inl rfl); omega)
      clear z1 z2 z4 hk h9
      have H3 : Hid ((Hid (MaxIs w3) ∧ Hid (Box w.heap.size 0 I U T w3) ∧ w3.cell? ⟨w.heap.size, 0, none⟩ = some (.int .i64 0) ∧ w3.cell? ⟨w.heap.size, 1, none⟩ = some (.int .i64 I) ∧ w3.cell? ⟨w.heap.size, 2, none⟩ = some (.int .u64 U) ∧ w3.cell? ⟨w.heap.size, 3, none⟩ = some (.string T))) := Lib.hid ⟨Lib.hid M3, A3, A3.out.cells⟩
      have H3' : Hid ((Hid (MaxIs w3.drew) ∧ Hid (Box w.heap.size 0 I U T w3.drew) ∧ w3.drew.cell? ⟨w.heap.size, 0, none⟩ = some (.int .i64 0) ∧ w3.drew.cell? ⟨w.heap.size, 1, none⟩ = some (.int .i64 I) ∧ w3.drew.cell? ⟨w.heap.size, 2, none⟩ = some (.int .u64 U) ∧ w3.drew.cell? ⟨w.heap.size, 3, none⟩ = some (.string T))) := Lib.hid ⟨Lib.hid M3.drew, A3, A3.out.cells⟩
      have HKeep : Hid (∀ W W' : World, Below W.heap.size W W' → (Hid (MaxIs W) ∧ Hid (Box w.heap.size 0 I U T W) ∧ W.cell? ⟨w.heap.size, 0, none⟩ = some (.int .i64 0) ∧ W.cell? ⟨w.heap.size, 1, none⟩ = some (.int .i64 I) ∧ W.cell? ⟨w.heap.size, 2, none⟩ = some (.int .u64 U) ∧ W.cell? ⟨w.heap.size, 3, none⟩ = some (.string T)) → (Hid (MaxIs W') ∧ Hid (Box w.heap.size 0 I U T W') ∧ W'.cell? ⟨w.heap.size, 0, none⟩ = some (.int .i64 0) ∧ W'.cell? ⟨w.heap.size, 1, none⟩ = some (.int .i64 I) ∧ W'.cell? ⟨w.heap.size, 2, none⟩ = some (.int .u64 U) ∧ W'.cell? ⟨w.heap.size, 3, none⟩ = some (.string T))) := Lib.hid (fun W W' b h => ⟨Lib.hid (h.1.out.below b), Lib.hid (h.2.1.out.below b), (h.2.1.out.below b).cells⟩)
      have HQ : Hid (∀ W : World, (Hid (MaxIs W) ∧ Hid (Box w.heap.size 0 I U T W) ∧ W.cell? ⟨w.heap.size, 0, none⟩ = some (.int .i64 0) ∧ W.cell? ⟨w.heap.size, 1, none⟩ = some (.int .i64 I) ∧ W.cell? ⟨w.heap.size, 2, none⟩ = some (.int .u64 U) ∧ W.cell? ⟨w.heap.size, 3, none⟩ = some (.string T)) → MaxIs W) := Lib.hid (fun W h => h.1.out)
      have q0 : (0 : Int) < P.size := by omega
      have hq2 : (P[0].toNat : Int) / 16 = 1 := by rw [← Int.tdiv_eq_ediv_of_nonneg (by omega), hq]; rfl
      have hq4 : ((P[0].toNat : Int)).tdiv 16 = 1 := by rw [hq]; rfl
      have hq3 : ((P[0].toNat : Int) / 16 == 1) = true := beq_iff_eq.2 hq2
      clear hq
      obtain ⟨c0, c1, c2, c3⟩ := A3.out.cells
      go_wp2_with fail
      go_still_tail 20, (by kernel_rfl)
      have M3' := M3.drew
      go_wp2_with fail
      all_goals
        refine (HF.out _ M3').mono ?_
        rintro e w5 ⟨rfl, hb5, _⟩
        go_wp2_with fail
        go_ret
        exact ⟨rfl, L3.trans' (below_of_drew hb5)⟩
    · have hn : ((P.size : Int) == 1) = true := beq_iff_eq.2 (by have := z1 (.inr rfl); omega)
      clear z1 z2 z4 hk h9
      have H3 : Hid ((Hid (MaxIs w3) ∧ Hid (Box w.heap.size 1 I U T w3) ∧ w3.cell? ⟨w.heap.size, 0, none⟩ = some (.int .i64 1) ∧ w3.cell? ⟨w.heap.size, 1, none⟩ = some (.int .i64 I) ∧ w3.cell? ⟨w.heap.size, 2, none⟩ = some (.int .u64 U) ∧ w3.cell? ⟨w.heap.size, 3, none⟩ = some (.string T))) := Lib.hid ⟨Lib.hid M3, A3, A3.out.cells⟩
      have H3' : Hid ((Hid (MaxIs w3.drew) ∧ Hid (Box w.heap.size 1 I U T w3.drew) ∧ w3.drew.cell? ⟨w.heap.size, 0, none⟩ = some (.int .i64 1) ∧ w3.drew.cell? ⟨w.heap.size, 1, none⟩ = some (.int .i64 I) ∧ w3.drew.cell? ⟨w.heap.size, 2, none⟩ = some (.int .u64 U) ∧ w3.drew.cell? ⟨w.heap.size, 3, none⟩ = some (.string T))) := Lib.hid ⟨Lib.hid M3.drew, A3, A3.out.cells⟩
      have HKeep : Hid (∀ W W' : World, Below W.heap.size W W' → (Hid (MaxIs W) ∧ Hid (Box w.heap.size 1 I U T W) ∧ W.cell? ⟨w.heap.size, 0, none⟩ = some (.int .i64 1) ∧ W.cell? ⟨w.heap.size, 1, none⟩ = some (.int .i64 I) ∧ W.cell? ⟨w.heap.size, 2, none⟩ = some (.int .u64 U) ∧ W.cell? ⟨w.heap.size, 3, none⟩ = some (.string T)) → (Hid (MaxIs W') ∧ Hid (Box w.heap.size 1 I U T W') ∧ W'.cell? ⟨w.heap.size, 0, none⟩ = some (.int .i64 1) ∧ W'.cell? ⟨w.heap.size, 1, none⟩ = some (.int .i64 I) ∧ W'.cell? ⟨w.heap.size, 2, none⟩ = some (.int .u64 U) ∧ W'.cell? ⟨w.heap.size, 3, none⟩ = some (.string T))) := Lib.hid (fun W W' b h => ⟨Lib.hid (h.1.out.below b), Lib.hid (h.2.1.out.below b), (h.2.1.out.below b).cells⟩)
      have HQ : Hid (∀ W : World, (Hid (MaxIs W) ∧ Hid (Box w.heap.size 1 I U T W) ∧ W.cell? ⟨w.heap.size, 0, none⟩ = some (.int .i64 1) ∧ W.cell? ⟨w.heap.size, 1, none⟩ = some (.int .i64 I) ∧ W.cell? ⟨w.heap.size, 2, none⟩ = some (.int .u64 U) ∧ W.cell? ⟨w.heap.size, 3, none⟩ = some (.string T)) → MaxIs W) := Lib.hid (fun W h => h.1.out)
      have q0 : (0 : Int) < P.size := by omega
      have hq2 : (P[0].toNat : Int) / 16 = 2 := by rw [← Int.tdiv_eq_ediv_of_nonneg (by omega), hq]; rfl
      have hq4 : ((P[0].toNat : Int)).tdiv 16 = 2 := by rw [hq]; rfl
      have hq3 : ((P[0].toNat : Int) / 16 == 2) = true := beq_iff_eq.2 hq2
      clear hq
      obtain ⟨c0, c1, c2, c3⟩ := A3.out.cells
      go_wp2_with fail
      go_still_tail 20, (by kernel_rfl)
      have M3' := M3.drew
      go_wp2_with fail
      all_goals
        refine (HF.out _ M3').mono ?_
        rintro e w5 ⟨rfl, hb5, _⟩
        go_wp2_with fail
        go_ret
        exact ⟨rfl, L3.trans' (below_of_drew hb5)⟩
    · have hn : ((P.size : Int) == 9) = true := beq_iff_eq.2 (by have := z2 rfl; omega)
      clear z1 z2 z4 hk h9
      have H3 : Hid ((Hid (MaxIs w3) ∧ Hid (Box w.heap.size 2 I U T w3) ∧ w3.cell? ⟨w.heap.size, 0, none⟩ = some (.int .i64 2) ∧ w3.cell? ⟨w.heap.size, 1, none⟩ = some (.int .i64 I) ∧ w3.cell? ⟨w.heap.size, 2, none⟩ = some (.int .u64 U) ∧ w3.cell? ⟨w.heap.size, 3, none⟩ = some (.string T))) := Lib.hid ⟨Lib.hid M3, A3, A3.out.cells⟩
      have H3' : Hid ((Hid (MaxIs w3.drew) ∧ Hid (Box w.heap.size 2 I U T w3.drew) ∧ w3.drew.cell? ⟨w.heap.size, 0, none⟩ = some (.int .i64 2) ∧ w3.drew.cell? ⟨w.heap.size, 1, none⟩ = some (.int .i64 I) ∧ w3.drew.cell? ⟨w.heap.size, 2, none⟩ = some (.int .u64 U) ∧ w3.drew.cell? ⟨w.heap.size, 3, none⟩ = some (.string T))) := Lib.hid ⟨Lib.hid M3.drew, A3, A3.out.cells⟩
      have HKeep : Hid (∀ W W' : World, Below W.heap.size W W' → (Hid (MaxIs W) ∧ Hid (Box w.heap.size 2 I U T W) ∧ W.cell? ⟨w.heap.size, 0, none⟩ = some (.int .i64 2) ∧ W.cell? ⟨w.heap.size, 1, none⟩ = some (.int .i64 I) ∧ W.cell? ⟨w.heap.size, 2, none⟩ = some (.int .u64 U) ∧ W.cell? ⟨w.heap.size, 3, none⟩ = some (.string T)) → (Hid (MaxIs W') ∧ Hid (Box w.heap.size 2 I U T W') ∧ W'.cell? ⟨w.heap.size, 0, none⟩ = some (.int .i64 2) ∧ W'.cell? ⟨w.heap.size, 1, none⟩ = some (.int .i64 I) ∧ W'.cell? ⟨w.heap.size, 2, none⟩ = some (.int .u64 U) ∧ W'.cell? ⟨w.heap.size, 3, none⟩ = some (.string T))) := Lib.hid (fun W W' b h => ⟨Lib.hid (h.1.out.below b), Lib.hid (h.2.1.out.below b), (h.2.1.out.below b).cells⟩)
      have HQ : Hid (∀ W : World, (Hid (MaxIs W) ∧ Hid (Box w.heap.size 2 I U T W) ∧ W.cell? ⟨w.heap.size, 0, none⟩ = some (.int .i64 2) ∧ W.cell? ⟨w.heap.size, 1, none⟩ = some (.int .i64 I) ∧ W.cell? ⟨w.heap.size, 2, none⟩ = some (.int .u64 U) ∧ W.cell? ⟨w.heap.size, 3, none⟩ = some (.string T)) → MaxIs W) := Lib.hid (fun W h => h.1.out)
      have q0 : (0 : Int) < P.size := by omega
      have hq2 : (P[0].toNat : Int) / 16 = 3 := by rw [← Int.tdiv_eq_ediv_of_nonneg (by omega), hq]; rfl
      have hq4 : ((P[0].toNat : Int)).tdiv 16 = 3 := by rw [hq]; rfl
      have hq3 : ((P[0].toNat : Int) / 16 == 3) = true := beq_iff_eq.2 hq2
      clear hq
      obtain ⟨c0, c1, c2, c3⟩ := A3.out.cells
      go_wp2_with fail
      go_still_tail 20, (by kernel_rfl)
      have M3' := M3.drew
      go_wp2_with fail
      all_goals
        refine (HF.out _ M3').mono ?_
        rintro e w5 ⟨rfl, hb5, _⟩
        go_wp2_with fail
        go_ret
        exact ⟨rfl, L3.trans' (below_of_drew hb5)⟩
    · have hn : True := trivial
      clear z1 z2 z4 hk h9
      have H3 : Hid ((Hid (MaxIs w3) ∧ Hid (Box w.heap.size 3 I U T w3) ∧ w3.cell? ⟨w.heap.size, 0, none⟩ = some (.int .i64 3) ∧ w3.cell? ⟨w.heap.size, 1, none⟩ = some (.int .i64 I) ∧ w3.cell? ⟨w.heap.size, 2, none⟩ = some (.int .u64 U) ∧ w3.cell? ⟨w.heap.size, 3, none⟩ = some (.string T))) := Lib.hid ⟨Lib.hid M3, A3, A3.out.cells⟩
      have H3' : Hid ((Hid (MaxIs w3.drew) ∧ Hid (Box w.heap.size 3 I U T w3.drew) ∧ w3.drew.cell? ⟨w.heap.size, 0, none⟩ = some (.int .i64 3) ∧ w3.drew.cell? ⟨w.heap.size, 1, none⟩ = some (.int .i64 I) ∧ w3.drew.cell? ⟨w.heap.size, 2, none⟩ = some (.int .u64 U) ∧ w3.drew.cell? ⟨w.heap.size, 3, none⟩ = some (.string T))) := Lib.hid ⟨Lib.hid M3.drew, A3, A3.out.cells⟩
      have HKeep : Hid (∀ W W' : World, Below W.heap.size W W' → (Hid (MaxIs W) ∧ Hid (Box w.heap.size 3 I U T W) ∧ W.cell? ⟨w.heap.size, 0, none⟩ = some (.int .i64 3) ∧ W.cell? ⟨w.heap.size, 1, none⟩ = some (.int .i64 I) ∧ W.cell? ⟨w.heap.size, 2, none⟩ = some (.int .u64 U) ∧ W.cell? ⟨w.heap.size, 3, none⟩ = some (.string T)) → (Hid (MaxIs W') ∧ Hid (Box w.heap.size 3 I U T W') ∧ W'.cell? ⟨w.heap.size, 0, none⟩ = some (.int .i64 3) ∧ W'.cell? ⟨w.heap.size, 1, none⟩ = some (.int .i64 I) ∧ W'.cell? ⟨w.heap.size, 2, none⟩ = some (.int .u64 U) ∧ W'.cell? ⟨w.heap.size, 3, none⟩ = some (.string T))) := Lib.hid (fun W W' b h => ⟨Lib.hid (h.1.out.below b), Lib.hid (h.2.1.out.below b), (h.2.1.out.below b).cells⟩)
      have HQ : Hid (∀ W : World, (Hid (MaxIs W) ∧ Hid (Box w.heap.size 3 I U T W) ∧ W.cell? ⟨w.heap.size, 0, none⟩ = some (.int .i64 3) ∧ W.cell? ⟨w.heap.size, 1, none⟩ = some (.int .i64 I) ∧ W.cell? ⟨w.heap.size, 2, none⟩ = some (.int .u64 U) ∧ W.cell? ⟨w.heap.size, 3, none⟩ = some (.string T)) → MaxIs W) := Lib.hid (fun W h => h.1.out)
      have q0 : (0 : Int) < P.size := by omega
      have hq2 : (P[0].toNat : Int) / 16 = 4 := by rw [← Int.tdiv_eq_ediv_of_nonneg (by omega), hq]; rfl
      have hq4 : ((P[0].toNat : Int)).tdiv 16 = 4 := by rw [hq]; rfl
      have hq3 : ((P[0].toNat : Int) / 16 == 4) = true := beq_iff_eq.2 hq2
      clear hq
      obtain ⟨c0, c1, c2, c3⟩ := A3.out.cells
      go_wp2_with fail
      go_still_tail 20, (by kernel_rfl)
      have M3' := M3.drew
      go_wp2_with fail
      all_goals
        refine (HF.out _ M3').mono ?_
        rintro e w5 ⟨rfl, hb5, _⟩
        go_wp2_with fail
        go_ret
        exact ⟨rfl, L3.trans' (below_of_drew hb5)⟩
    · have HN := Lib.hid (z4 rfl)
      clear z1 z2 z4 hk
      have H3 : Hid ((Hid (MaxIs w3) ∧ Hid (Box w.heap.size 4 I U T w3) ∧ w3.cell? ⟨w.heap.size, 0, none⟩ = some (.int .i64 4) ∧ w3.cell? ⟨w.heap.size, 1, none⟩ = some (.int .i64 I) ∧ w3.cell? ⟨w.heap.size, 2, none⟩ = some (.int .u64 U) ∧ w3.cell? ⟨w.heap.size, 3, none⟩ = some (.string T))) := Lib.hid ⟨Lib.hid M3, A3, A3.out.cells⟩
      have H3' : Hid ((Hid (MaxIs w3.drew) ∧ Hid (Box w.heap.size 4 I U T w3.drew) ∧ w3.drew.cell? ⟨w.heap.size, 0, none⟩ = some (.int .i64 4) ∧ w3.drew.cell? ⟨w.heap.size, 1, none⟩ = some (.int .i64 I) ∧ w3.drew.cell? ⟨w.heap.size, 2, none⟩ = some (.int .u64 U) ∧ w3.drew.cell? ⟨w.heap.size, 3, none⟩ = some (.string T))) := Lib.hid ⟨Lib.hid M3.drew, A3, A3.out.cells⟩
      have HKeep : Hid (∀ W W' : World, Below W.heap.size W W' → (Hid (MaxIs W) ∧ Hid (Box w.heap.size 4 I U T W) ∧ W.cell? ⟨w.heap.size, 0, none⟩ = some (.int .i64 4) ∧ W.cell? ⟨w.heap.size, 1, none⟩ = some (.int .i64 I) ∧ W.cell? ⟨w.heap.size, 2, none⟩ = some (.int .u64 U) ∧ W.cell? ⟨w.heap.size, 3, none⟩ = some (.string T)) → (Hid (MaxIs W') ∧ Hid (Box w.heap.size 4 I U T W') ∧ W'.cell? ⟨w.heap.size, 0, none⟩ = some (.int .i64 4) ∧ W'.cell? ⟨w.heap.size, 1, none⟩ = some (.int .i64 I) ∧ W'.cell? ⟨w.heap.size, 2, none⟩ = some (.int .u64 U) ∧ W'.cell? ⟨w.heap.size, 3, none⟩ = some (.string T))) := Lib.hid (fun W W' b h => ⟨Lib.hid (h.1.out.below b), Lib.hid (h.2.1.out.below b), (h.2.1.out.below b).cells⟩)
      have HQ : Hid (∀ W : World, (Hid (MaxIs W) ∧ Hid (Box w.heap.size 4 I U T W) ∧ W.cell? ⟨w.heap.size, 0, none⟩ = some (.int .i64 4) ∧ W.cell? ⟨w.heap.size, 1, none⟩ = some (.int .i64 I) ∧ W.cell? ⟨w.heap.size, 2, none⟩ = some (.int .u64 U) ∧ W.cell? ⟨w.heap.size, 3, none⟩ = some (.string T)) → MaxIs W) := Lib.hid (fun W h => h.1.out)
      have q0 : (0 : Int) < P.size := by omega
      have hq2 : (P[0].toNat : Int) / 16 = 5 := by rw [← Int.tdiv_eq_ediv_of_nonneg (by omega), hq]; rfl
      have hq4 : ((P[0].toNat : Int)).tdiv 16 = 5 := by rw [hq]; rfl
      have hq3 : ((P[0].toNat : Int) / 16 == 5) = true := beq_iff_eq.2 hq2
      clear hq
      obtain ⟨c0, c1, c2, c3⟩ := A3.out.cells
      go_wp2_with fail
      go_loop [5, 6] (fun n i => ∃ k : Nat, k ≤ T.size ∧ i = .int .i64 k ∧ n = .int .i64 (3 + T.size + CP.zeros (T.data.toList.take k) : Nat)) (fun _ i => T.size - (intOf i).toNat)
      case atStart => exact ⟨0, Nat.zero_le _, rfl, by go_num⟩
      case round =>
        obtain ⟨k, hkT, rfl, rfl⟩ := hrel
        have hzl := CP.zeros_le (T.data.toList.take k)
        have hzk : (T.data.toList.take k).length ≤ 60 := by simp; omega
        by_cases hlt : k < T.size
        · have HZ := Lib.hid (zeros_snoc T k hlt)
          generalize CP.zeros (T.data.toList.take k) = z at *
          by_cases h0 : T[k] = 0
          · have e0 : ((T[k].toNat : Int) == 0) = true := by rw [h0]; rfl
            go_wp2_with fail
            go_round
            case rel => exact ⟨k + 1, by omega, by go_num, by rw [HZ.out, if_pos h0]; go_num⟩
            case measure => simp [intOf]; omega
          · have e0 : ((T[k].toNat : Int) == 0) = false := beq_eq_false_iff_ne.2 (fun e => h0 (UInt8.toNat_inj.1 (by show T[k].toNat = 0; omega)))
            go_wp2_with fail
            go_round
            case rel => exact ⟨k + 1, by omega, by go_num, by rw [HZ.out, if_neg h0]; rfl⟩
            case measure => simp [intOf]; omega
        · obtain rfl : k = T.size := by omega
          rw [show T.data.toList.take T.size = T.data.toList from List.take_of_length_le (by simp)] at *
          rw [← HN.out]
          have hnn : ((P.size : Int) == (P.size : Int)) = true := beq_iff_eq.2 rfl
          go_wp2_with fail
          go_still_tail 20, (by kernel_rfl)
          have M3' := M3.drew
          go_wp2_with fail
          all_goals
            refine (HF.out _ M3').mono ?_
            rintro e w5 ⟨rfl, hb5, _⟩
            go_wp2_with fail
            go_ret
            exact ⟨rfl, L3.trans' (below_of_drew hb5)⟩
end
end Go.Proofs.YtfclpoceaolgiaaDoor
