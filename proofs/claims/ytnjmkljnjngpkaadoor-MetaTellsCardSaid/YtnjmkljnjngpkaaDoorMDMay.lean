/-
  The walk of the document's May of layer 13. Written by wip/gen_mdoc.py.
-/
import Derived.Test.YtnjmkljnjngpkaaDoorMEnc
namespace Go.Proofs.YtnjmkljnjngpkaaDoor
open Go.RowKit MP
set_option linter.unusedVariables false
set_option linter.unusedSimpArgs false

set_option maxHeartbeats 2000000 in
set_option maxRecDepth 100000 in
theorem rmay_any (P G R L C : Int) (w : World) :
    Calls Tryd.prog 15 #[mv P G R L C] w fun e w' => e = .returned (.bool (decide (May ⟨P, G, R, L, C⟩))) ∧ Below w.heap.size w w' := by
  have hb := mbox_below 29 P G R L C w
  have HB := Lib.hid hb
  have HK := Lib.hid (mbox_new 29 P G R L C w)
  have HSZ : Hid (∀ W, Calls Tryd.prog 22 #[.int .i64 P] W fun e w' => e = .returned (.bool (L7.mayBe P)) ∧ W = w') := Lib.hid (fun W => L7.sizeRef_any P W)
  obtain ⟨r, HRS⟩ : ∃ r, Hid (r = decide (May ⟨P, G, R, L, C⟩)) := ⟨_, Lib.hid rfl⟩
  rw [← HRS.out]
  obtain ⟨c0, c1, c2, c3, c4⟩ := HK.out.cells
  clear hb
  cases hm : L7.mayBe P with
  | false =>
    have HX : Hid (r = false) := Lib.hid (by rw [HRS.out]; exact decide_eq_false (fun h => by have := h.1; simp only at this; rw [hm] at this; cases this))
    rw [hm] at HSZ
    clear hm
    go_enter Tryd.func15, Tryd.ntmps15
    go_wp2_with fail
    refine (HSZ.out _).mono ?_
    rintro e w2 ⟨rfl, rfl⟩
    go_wp2_with fail
    go_ret
    exact ⟨by rw [HX.out] <;> rfl, HB.out⟩
  | true =>
    rcases (show (2 ≤ G ∧ G ≤ 4096 ∧ 1 ≤ R ∧ R < G ∧ 0 ≤ L ∧ L ≤ 255 ∧ 0 ≤ C ∧ C ≤ 2147483647) ∨ (¬ 2 ≤ G) ∨ (2 ≤ G ∧ ¬ G ≤ 4096) ∨ (2 ≤ G ∧ G ≤ 4096 ∧ ¬ 1 ≤ R) ∨ (2 ≤ G ∧ G ≤ 4096 ∧ 1 ≤ R ∧ ¬ R < G) ∨ (2 ≤ G ∧ G ≤ 4096 ∧ 1 ≤ R ∧ R < G ∧ ¬ 0 ≤ L) ∨ (2 ≤ G ∧ G ≤ 4096 ∧ 1 ≤ R ∧ R < G ∧ 0 ≤ L ∧ ¬ L ≤ 255) ∨ (2 ≤ G ∧ G ≤ 4096 ∧ 1 ≤ R ∧ R < G ∧ 0 ≤ L ∧ L ≤ 255 ∧ ¬ 0 ≤ C) ∨ (2 ≤ G ∧ G ≤ 4096 ∧ 1 ≤ R ∧ R < G ∧ 0 ≤ L ∧ L ≤ 255 ∧ 0 ≤ C ∧ ¬ C ≤ 2147483647) by omega) with h | h | h | h | h | h | h | h | h
    · have HX : Hid (r = true) := Lib.hid (by rw [HRS.out]; exact decide_eq_true ⟨hm, by simp only; omega, by simp only; omega, by simp only; omega, by simp only; omega, by simp only; omega, by simp only; omega, by simp only; omega, by simp only; omega⟩)
      have d0 : decide (2 ≤ G) = true := decide_eq_true (by omega)
      have d1 : decide (G ≤ 4096) = true := decide_eq_true (by omega)
      have d2 : decide (1 ≤ R) = true := decide_eq_true (by omega)
      have d3 : decide (R < G) = true := decide_eq_true (by omega)
      have d4 : decide (0 ≤ L) = true := decide_eq_true (by omega)
      have d5 : decide (L ≤ 255) = true := decide_eq_true (by omega)
      have d6 : decide (0 ≤ C) = true := decide_eq_true (by omega)
      have d7 : decide (C ≤ 2147483647) = true := decide_eq_true (by omega)
      rw [hm] at HSZ
      clear hm h
      go_enter Tryd.func15, Tryd.ntmps15
      go_wp2_with fail
      refine (HSZ.out _).mono ?_
      rintro e w2 ⟨rfl, rfl⟩
      go_wp2_with fail
      go_ret
      exact ⟨by rw [HX.out] <;> rfl, HB.out⟩
    · have HX : Hid (r = false) := Lib.hid (by rw [HRS.out]; exact decide_eq_false (fun hh => by unfold May at hh; simp only at hh; omega))
      have d0 : decide (2 ≤ G) = false := decide_eq_false (by omega)
      rw [hm] at HSZ
      clear hm h
      go_enter Tryd.func15, Tryd.ntmps15
      go_wp2_with fail
      refine (HSZ.out _).mono ?_
      rintro e w2 ⟨rfl, rfl⟩
      go_wp2_with fail
      go_ret
      exact ⟨by rw [HX.out] <;> rfl, HB.out⟩
    · have HX : Hid (r = false) := Lib.hid (by rw [HRS.out]; exact decide_eq_false (fun hh => by unfold May at hh; simp only at hh; omega))
      have d0 : decide (2 ≤ G) = true := decide_eq_true (by omega)
      have d1 : decide (G ≤ 4096) = false := decide_eq_false (by omega)
      rw [hm] at HSZ
      clear hm h
      go_enter Tryd.func15, Tryd.ntmps15
      go_wp2_with fail
      refine (HSZ.out _).mono ?_
      rintro e w2 ⟨rfl, rfl⟩
      go_wp2_with fail
      go_ret
      exact ⟨by rw [HX.out] <;> rfl, HB.out⟩
    · have HX : Hid (r = false) := Lib.hid (by rw [HRS.out]; exact decide_eq_false (fun hh => by unfold May at hh; simp only at hh; omega))
      have d0 : decide (2 ≤ G) = true := decide_eq_true (by omega)
      have d1 : decide (G ≤ 4096) = true := decide_eq_true (by omega)
      have d2 : decide (1 ≤ R) = false := decide_eq_false (by omega)
      rw [hm] at HSZ
      clear hm h
      go_enter Tryd.func15, Tryd.ntmps15
      go_wp2_with fail
      refine (HSZ.out _).mono ?_
      rintro e w2 ⟨rfl, rfl⟩
      go_wp2_with fail
      go_ret
      exact ⟨by rw [HX.out] <;> rfl, HB.out⟩
    · have HX : Hid (r = false) := Lib.hid (by rw [HRS.out]; exact decide_eq_false (fun hh => by unfold May at hh; simp only at hh; omega))
      have d0 : decide (2 ≤ G) = true := decide_eq_true (by omega)
      have d1 : decide (G ≤ 4096) = true := decide_eq_true (by omega)
      have d2 : decide (1 ≤ R) = true := decide_eq_true (by omega)
      have d3 : decide (R < G) = false := decide_eq_false (by omega)
      rw [hm] at HSZ
      clear hm h
      go_enter Tryd.func15, Tryd.ntmps15
      go_wp2_with fail
      refine (HSZ.out _).mono ?_
      rintro e w2 ⟨rfl, rfl⟩
      go_wp2_with fail
      go_ret
      exact ⟨by rw [HX.out] <;> rfl, HB.out⟩
    · have HX : Hid (r = false) := Lib.hid (by rw [HRS.out]; exact decide_eq_false (fun hh => by unfold May at hh; simp only at hh; omega))
      have d0 : decide (2 ≤ G) = true := decide_eq_true (by omega)
      have d1 : decide (G ≤ 4096) = true := decide_eq_true (by omega)
      have d2 : decide (1 ≤ R) = true := decide_eq_true (by omega)
      have d3 : decide (R < G) = true := decide_eq_true (by omega)
      have d4 : decide (0 ≤ L) = false := decide_eq_false (by omega)
      rw [hm] at HSZ
      clear hm h
      go_enter Tryd.func15, Tryd.ntmps15
      go_wp2_with fail
      refine (HSZ.out _).mono ?_
      rintro e w2 ⟨rfl, rfl⟩
      go_wp2_with fail
      go_ret
      exact ⟨by rw [HX.out] <;> rfl, HB.out⟩
    · have HX : Hid (r = false) := Lib.hid (by rw [HRS.out]; exact decide_eq_false (fun hh => by unfold May at hh; simp only at hh; omega))
      have d0 : decide (2 ≤ G) = true := decide_eq_true (by omega)
      have d1 : decide (G ≤ 4096) = true := decide_eq_true (by omega)
      have d2 : decide (1 ≤ R) = true := decide_eq_true (by omega)
      have d3 : decide (R < G) = true := decide_eq_true (by omega)
      have d4 : decide (0 ≤ L) = true := decide_eq_true (by omega)
      have d5 : decide (L ≤ 255) = false := decide_eq_false (by omega)
      rw [hm] at HSZ
      clear hm h
      go_enter Tryd.func15, Tryd.ntmps15
      go_wp2_with fail
      refine (HSZ.out _).mono ?_
      rintro e w2 ⟨rfl, rfl⟩
      go_wp2_with fail
      go_ret
      exact ⟨by rw [HX.out] <;> rfl, HB.out⟩
    · have HX : Hid (r = false) := Lib.hid (by rw [HRS.out]; exact decide_eq_false (fun hh => by unfold May at hh; simp only at hh; omega))
      have d0 : decide (2 ≤ G) = true := decide_eq_true (by omega)
      have d1 : decide (G ≤ 4096) = true := decide_eq_true (by omega)
      have d2 : decide (1 ≤ R) = true := decide_eq_true (by omega)
      have d3 : decide (R < G) = true := decide_eq_true (by omega)
      have d4 : decide (0 ≤ L) = true := decide_eq_true (by omega)
      have d5 : decide (L ≤ 255) = true := decide_eq_true (by omega)
      have d6 : decide (0 ≤ C) = false := decide_eq_false (by omega)
      rw [hm] at HSZ
      clear hm h
      go_enter Tryd.func15, Tryd.ntmps15
      go_wp2_with fail
      refine (HSZ.out _).mono ?_
      rintro e w2 ⟨rfl, rfl⟩
      go_wp2_with fail
      go_ret
      exact ⟨by rw [HX.out] <;> rfl, HB.out⟩
    · have HX : Hid (r = false) := Lib.hid (by rw [HRS.out]; exact decide_eq_false (fun hh => by unfold May at hh; simp only at hh; omega))
      have d0 : decide (2 ≤ G) = true := decide_eq_true (by omega)
      have d1 : decide (G ≤ 4096) = true := decide_eq_true (by omega)
      have d2 : decide (1 ≤ R) = true := decide_eq_true (by omega)
      have d3 : decide (R < G) = true := decide_eq_true (by omega)
      have d4 : decide (0 ≤ L) = true := decide_eq_true (by omega)
      have d5 : decide (L ≤ 255) = true := decide_eq_true (by omega)
      have d6 : decide (0 ≤ C) = true := decide_eq_true (by omega)
      have d7 : decide (C ≤ 2147483647) = false := decide_eq_false (by omega)
      rw [hm] at HSZ
      clear hm h
      go_enter Tryd.func15, Tryd.ntmps15
      go_wp2_with fail
      refine (HSZ.out _).mono ?_
      rintro e w2 ⟨rfl, rfl⟩
      go_wp2_with fail
      go_ret
      exact ⟨by rw [HX.out] <;> rfl, HB.out⟩
end Go.Proofs.YtnjmkljnjngpkaaDoor
