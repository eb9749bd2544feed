/-
  The walk of the law ColOnce.
-/
import Derived.Test.YtfclpoceaolgiaaDoorCFixed
namespace Go.Proofs.YtfclpoceaolgiaaDoor
open Go.RowKit
set_option linter.unusedVariables false

theorem gotV_eq (K I U : Int) (S : List UInt8) (to e : Nat) : gotV (⟨K, I, U, S⟩, to, e) = .tuple #[.agg #[.int .i64 K, .int .i64 I, .int .u64 U, .string ⟨S.toArray⟩], .int .i64 to, .int .i64 e] := rfl

section
attribute [local go_sem high] eql_col
set_option maxHeartbeats 2000000 in
set_option maxRecDepth 100000 in
theorem colOnce_walk (s : ByteArray) (a : Int) (w : World) (M : MaxIs w) (ws : s.size ≤ maxLen) (wa : (Lit.int .i64 a).wf = true) :
    Calls Tryd.prog 6 #[.string s, .int .i64 a] w fun e w' => e = .returned (.bool true) ∧ Below w.heap.size w w' := by
  unfold maxLen at ws
  clear wa
  have hsz : sameV 0 0 0 ⟨#[]⟩ 0 0 0 ⟨#[]⟩ = true := by decide +kernel
  obtain ⟨m, hm, hm1, hms, hm2, hts⟩ := cut_min s 100 (by omega)
  have HTS := Lib.hid hts
  have HF := Lib.hid fixed_tells
  clear hts
  go_enter Tryd.func6, Tryd.ntmps6
  go_wp2_with fail
  clear hm hm2
  generalize s.extract 0 m = t at *
  obtain rfl := HTS.out
  clear HTS
  have none_arm : ∀ (er : Nat) (W : World), er ≠ 0 → True := fun _ _ _ => trivial
  clear none_arm
  by_cases hr : a < 0 ∨ (t.size : Int) < a
  · refine (colGet_arg t a w hr).mono ?_
    unfold CP.none_
    rw [gotV_eq]
    rintro e w1 ⟨rfl, hb1⟩
    have M1 := (M.below hb1).alloc (.cells #[.int .i64 0, .int .i64 0, .int .u64 0, .string ⟨#[]⟩] 24)
    clear hr
    go_wp2_with fail
    refine (HF.out _ M1).mono ?_
    rintro e w2 ⟨rfl, hb2, _⟩
    go_wp2_with fail
    go_ret
    exact ⟨rfl, (hb1.trans' (below_alloc _ _)).trans' hb2⟩
  · obtain ⟨i, rfl⟩ := Int.eq_ofNat_of_zero_le (show 0 ≤ a by omega)
    have hit : i ≤ t.size := by omega
    clear hr
    have hg := colGet_any t i w hit (by omega)
    rcases CP.get_spec t.data.toList i with h | h | ⟨⟨K, I, U, S⟩, to, h, ho, hrt, h1, h2, h3, h4⟩
    · rw [h] at hg
      unfold CP.none_ at hg
      rw [gotV_eq] at hg
      refine hg.mono ?_
      clear hg h
      rintro e w1 ⟨rfl, hb1⟩
      have M1 := (M.below hb1).alloc (.cells #[.int .i64 0, .int .i64 0, .int .u64 0, .string ⟨#[]⟩] 24)
      go_wp2_with fail
      refine (HF.out _ M1).mono ?_
      rintro e w2 ⟨rfl, hb2, _⟩
      go_wp2_with fail
      go_ret
      exact ⟨rfl, (hb1.trans' (below_alloc _ _)).trans' hb2⟩
    · rw [h] at hg
      unfold CP.none_ at hg
      rw [gotV_eq] at hg
      refine hg.mono ?_
      clear hg h
      rintro e w1 ⟨rfl, hb1⟩
      have M1 := (M.below hb1).alloc (.cells #[.int .i64 0, .int .i64 0, .int .u64 0, .string ⟨#[]⟩] 24)
      go_wp2_with fail
      refine (HF.out _ M1).mono ?_
      rintro e w2 ⟨rfl, hb2, _⟩
      go_wp2_with fail
      go_ret
      exact ⟨rfl, (hb1.trans' (below_alloc _ _)).trans' hb2⟩
    · rw [h, gotV_eq] at hg
      refine hg.mono ?_
      clear hg h
      have hto : to ≤ t.size := by simpa using h2
      simp only at h4
      have hu0 : 0 ≤ U := ho.2.2.1
      have hex : (⟨(CP.put ⟨K, I, U, S⟩).toArray⟩ : ByteArray) = t.extract i to := by
        rw [h3]
        exact (bytes_of_list (by rw [Lib.extract_data])).symm
      obtain ⟨B, hB⟩ : ∃ B : ByteArray, B = ⟨S.toArray⟩ := ⟨_, rfl⟩
      have hBl : B.data.toList = S := by rw [hB]
      have hBs : B.size ≤ 1000 := by rw [hB]; show S.toArray.size ≤ 1000; simp at h4 ⊢; omega
      rw [← hBl] at ho hrt hex
      have hrt' : rt K I U B = true := decide_eq_true hrt
      have HP : Hid (Tells 10 #[.agg #[.int .i64 K, .int .i64 I, .int .u64 U, .string B]] (.tuple #[.string (t.extract i to), .int .i64 0])) := Lib.hid (fp K I U B _ ho hBs (by unfold putV; rw [if_pos hrt', hex]))
      have HRt : Hid (Tells 15 #[.agg #[.int .i64 K, .int .i64 I, .int .u64 U, .string B]] (.bool true)) := Lib.hid (Tells.of fun W _ => by have h := right_any K I U B W hu0; rwa [hrt'] at h)
      rw [← hB]
      clear hB hBl hBs hrt hrt' ho hex h3 h2 h4 hu0
      rintro e w1 ⟨rfl, hb1⟩
      have X0 := Lib.hid (Box.new K I U B w1)
      have M1 := (M.below hb1).alloc (.cells #[.int .i64 K, .int .i64 I, .int .u64 U, .string B] 24)
      go_wp2_with fail
      refine (HP.out _ M1).mono ?_
      rintro e w2 ⟨rfl, hb2, M2⟩
      obtain ⟨c0, c1, c2, c3⟩ := (X0.out.below hb2).cells
      have q1 : (i : Int) < to := by omega
      have q2 : (to : Int) ≤ t.size := by omega
      have q3 : (i : Int) ≤ to := by omega
      go_wp2_with fail
      refine (HRt.out _ M2).mono ?_
      rintro e w3 ⟨rfl, hb3, M3⟩
      go_wp2_with fail
      refine (HF.out _ M3).mono ?_
      rintro e w4 ⟨rfl, hb4, _⟩
      go_wp2_with fail
      go_ret
      exact ⟨rfl, (((hb1.trans' (below_alloc _ _)).trans' hb2).trans' hb3).trans' hb4⟩
end
end Go.Proofs.YtfclpoceaolgiaaDoor
