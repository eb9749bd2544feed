/-
  The walk of the document's May of layer 12. Written by wip/gen_cdmay.py.
-/
import Derived.Test.YtahkigabapdleaaDoorCBox
import Derived.Test.YtahkigabapdleaaDoorHRef
import Derived.IntWalk
namespace Go.Proofs.YtahkigabapdleaaDoor
open Go.RowKit CP
set_option linter.unusedVariables false
set_option linter.unusedSimpArgs false

set_option maxHeartbeats 2000000 in
set_option maxRecDepth 100000 in
theorem rmay_any (F N : Int) (D : ByteArray) (p : Int) (w : World) :
    Calls Tryd.prog 16 #[cv F N D, .int .i64 p] w fun e w' => e = .returned (.bool (decide (May F N D.size p))) ∧ Below w.heap.size w w' := by
  have HB := Lib.hid (cbox_below 31 F N D w)
  obtain ⟨c0, c1, c2⟩ := (cbox_new 31 F N D w).cells
  simp only [cbox] at c0 c1 c2
  have HSR : Hid (∀ W, Calls Tryd.prog 17 #[.int .i64 p] W fun e w' => e = .returned (.bool (L7.mayBe p)) ∧ W = w') := Lib.hid (fun W => L7.sizeRef_any p W)
  obtain ⟨r, HRS⟩ : ∃ r, Hid (r = decide (May F N D.size p)) := ⟨_, Lib.hid rfl⟩
  rw [← HRS.out]
  have hall : F < 1 ∨ (1 ≤ F ∧ 4095 < F) ∨ (1 ≤ F ∧ F ≤ 4095 ∧ N < 0) ∨ (1 ≤ F ∧ F ≤ 4095 ∧ 0 ≤ N ∧ 4095 < N) ∨ (1 ≤ F ∧ F ≤ 4095 ∧ 0 ≤ N ∧ N ≤ 4095 ∧ N = F) ∨ NumOk F N := by unfold NumOk; omega
  have hm0 : L7.mayBe p = false ∨ L7.mayBe p = true := by cases L7.mayBe p <;> simp
  rcases hm0 with h | hm
  · have HX : Hid (r = false) := Lib.hid (by rw [HRS.out]; exact decide_eq_false (fun hh => by have := hh.1; rw [h] at this; cases this))
    rw [h] at HSR
    clear h hall
    go_enter Tryd.func16, Tryd.ntmps16
    go_wp2_with fail
    refine (HSR.out _).mono ?_
    rintro e w2 ⟨rfl, rfl⟩
    go_wp2_with fail
    go_ret
    exact ⟨by rw [HX.out] <;> rfl, HB.out⟩
  rcases hall with h | h | h | h | h | h
  · have HX : Hid (r = false) := Lib.hid (by rw [HRS.out]; exact decide_eq_false (fun hh => by have := hh.2.1; unfold NumOk at this; omega))
    rw [hm] at HSR
    have d0 : decide (F < 1) = true := decide_eq_true (by omega)
    clear h hm
    go_enter Tryd.func16, Tryd.ntmps16
    go_wp2_with fail
    refine (HSR.out _).mono ?_
    rintro e w2 ⟨rfl, rfl⟩
    go_wp2_with fail
    go_ret
    exact ⟨by rw [HX.out] <;> rfl, HB.out⟩
  · have HX : Hid (r = false) := Lib.hid (by rw [HRS.out]; exact decide_eq_false (fun hh => by have := hh.2.1; unfold NumOk at this; omega))
    rw [hm] at HSR
    have d0 : decide (F < 1) = false := decide_eq_false (by omega)
    have d1 : decide (4095 < F) = true := decide_eq_true (by omega)
    clear h hm
    go_enter Tryd.func16, Tryd.ntmps16
    go_wp2_with fail
    refine (HSR.out _).mono ?_
    rintro e w2 ⟨rfl, rfl⟩
    go_wp2_with fail
    go_ret
    exact ⟨by rw [HX.out] <;> rfl, HB.out⟩
  · have HX : Hid (r = false) := Lib.hid (by rw [HRS.out]; exact decide_eq_false (fun hh => by have := hh.2.1; unfold NumOk at this; omega))
    rw [hm] at HSR
    have d0 : decide (F < 1) = false := decide_eq_false (by omega)
    have d1 : decide (4095 < F) = false := decide_eq_false (by omega)
    have d2 : decide (N < 0) = true := decide_eq_true (by omega)
    clear h hm
    go_enter Tryd.func16, Tryd.ntmps16
    go_wp2_with fail
    refine (HSR.out _).mono ?_
    rintro e w2 ⟨rfl, rfl⟩
    go_wp2_with fail
    go_ret
    exact ⟨by rw [HX.out] <;> rfl, HB.out⟩
  · have HX : Hid (r = false) := Lib.hid (by rw [HRS.out]; exact decide_eq_false (fun hh => by have := hh.2.1; unfold NumOk at this; omega))
    rw [hm] at HSR
    have d0 : decide (F < 1) = false := decide_eq_false (by omega)
    have d1 : decide (4095 < F) = false := decide_eq_false (by omega)
    have d2 : decide (N < 0) = false := decide_eq_false (by omega)
    have d3 : decide (4095 < N) = true := decide_eq_true (by omega)
    clear h hm
    go_enter Tryd.func16, Tryd.ntmps16
    go_wp2_with fail
    refine (HSR.out _).mono ?_
    rintro e w2 ⟨rfl, rfl⟩
    go_wp2_with fail
    go_ret
    exact ⟨by rw [HX.out] <;> rfl, HB.out⟩
  · have HX : Hid (r = false) := Lib.hid (by rw [HRS.out]; exact decide_eq_false (fun hh => by have := hh.2.1; unfold NumOk at this; omega))
    rw [hm] at HSR
    have d0 : decide (F < 1) = false := decide_eq_false (by omega)
    have d1 : decide (4095 < F) = false := decide_eq_false (by omega)
    have d2 : decide (N < 0) = false := decide_eq_false (by omega)
    have d3 : decide (4095 < N) = false := decide_eq_false (by omega)
    have d4 : (N == F) = true := by simp; omega
    clear h hm
    go_enter Tryd.func16, Tryd.ntmps16
    go_wp2_with fail
    refine (HSR.out _).mono ?_
    rintro e w2 ⟨rfl, rfl⟩
    go_wp2_with fail
    go_ret
    exact ⟨by rw [HX.out] <;> rfl, HB.out⟩
  · have hp := mayBe_le hm
    have hw : IntKind.i64.wrap (p - 16) = p - 16 := IntWalk.i64_in _ (by omega)
    have hw2 : (D.size : Int) ≤ p - 16 ↔ (D.size : Int) + 16 ≤ p := by omega
    rw [hm] at HSR
    have hok := h
    unfold NumOk at h
    have d0 : decide (F < 1) = false := decide_eq_false (by omega)
    have d1 : decide (4095 < F) = false := decide_eq_false (by omega)
    have d2 : decide (N < 0) = false := decide_eq_false (by omega)
    have d3 : decide (4095 < N) = false := decide_eq_false (by omega)
    have d4 : (N == F) = false := by simp; omega
    clear hw2
    by_cases z1 : 1 ≤ D.size
    · have e1 : decide ((1 : Int) ≤ (D.size : Int)) = true := decide_eq_true (by omega)
      have e1' : decide (1 ≤ D.size) = true := decide_eq_true z1
      by_cases z2 : (D.size : Int) ≤ p - 16
      · have e2 : decide ((D.size : Int) ≤ p - 16) = true := decide_eq_true z2
        by_cases z3 : N = 0
        · have e3 : (N == 0) = true := by simpa using z3
          have HX : Hid (r = true) := Lib.hid (by rw [HRS.out]; exact decide_eq_true ⟨hm, hok, z1, z2, .inl z3⟩)
          clear h hm hok hp z1 z2 z3
          go_enter Tryd.func16, Tryd.ntmps16
          go_wp2_with fail
          refine (HSR.out _).mono ?_
          rintro e w2 ⟨rfl, rfl⟩
          go_wp2_with fail
          go_ret
          exact ⟨by rw [HX.out] <;> rfl, HB.out⟩
        · have e3 : (N == 0) = false := by simpa using z3
          by_cases z4 : (D.size : Int) = p - 16
          · have e4 : ((D.size : Int) == p - 16) = true := by simpa using z4
            have HX : Hid (r = true) := Lib.hid (by rw [HRS.out]; exact decide_eq_true ⟨hm, hok, z1, z2, .inr z4⟩)
            clear h hm hok hp z1 z2 z3 z4
            go_enter Tryd.func16, Tryd.ntmps16
            go_wp2_with fail
            refine (HSR.out _).mono ?_
            rintro e w2 ⟨rfl, rfl⟩
            go_wp2_with fail
            go_ret
            exact ⟨by rw [HX.out] <;> rfl, HB.out⟩
          · have e4 : ((D.size : Int) == p - 16) = false := by simpa using z4
            have HX : Hid (r = false) := Lib.hid (by rw [HRS.out]; exact decide_eq_false (fun hh => by rcases hh.2.2.2.2 with q | q; exact z3 q; exact z4 q))
            clear h hm hok hp z1 z2 z3 z4
            go_enter Tryd.func16, Tryd.ntmps16
            go_wp2_with fail
            refine (HSR.out _).mono ?_
            rintro e w2 ⟨rfl, rfl⟩
            go_wp2_with fail
            go_ret
            exact ⟨by rw [HX.out] <;> rfl, HB.out⟩
      · have e2 : decide ((D.size : Int) ≤ p - 16) = false := decide_eq_false z2
        have HX : Hid (r = false) := Lib.hid (by rw [HRS.out]; exact decide_eq_false (fun hh => z2 hh.2.2.2.1))
        clear h hm hok hp z1 z2
        go_enter Tryd.func16, Tryd.ntmps16
        go_wp2_with fail
        refine (HSR.out _).mono ?_
        rintro e w2 ⟨rfl, rfl⟩
        go_wp2_with fail
        go_ret
        exact ⟨by rw [HX.out] <;> rfl, HB.out⟩
    · have e1 : decide ((1 : Int) ≤ (D.size : Int)) = false := decide_eq_false (by omega)
      have e1' : decide (1 ≤ D.size) = false := decide_eq_false z1
      have HX : Hid (r = false) := Lib.hid (by rw [HRS.out]; exact decide_eq_false (fun hh => z1 hh.2.2.1))
      clear h hm hok hp z1
      go_enter Tryd.func16, Tryd.ntmps16
      go_wp2_with fail
      refine (HSR.out _).mono ?_
      rintro e w2 ⟨rfl, rfl⟩
      go_wp2_with fail
      go_ret
      exact ⟨by rw [HX.out] <;> rfl, HB.out⟩
end Go.Proofs.YtahkigabapdleaaDoor
