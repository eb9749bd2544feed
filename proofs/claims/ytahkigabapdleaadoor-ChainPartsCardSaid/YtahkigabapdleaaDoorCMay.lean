/-
  The walks of chain.room, rightSize, rightNumbers, rightData, and May.
-/
import Derived.Test.YtahkigabapdleaaDoorCBox
import Derived.Test.YtahkigabapdleaaDoorHSize
import Derived.BigQuiet
import Derived.IntWalk
import Derived.Deep.QuietTactic
namespace Go.Proofs.YtahkigabapdleaaDoor
open Go.RowKit CP
set_option linter.unusedVariables false
set_option linter.unusedSimpArgs false

theorem quiet_of_eq {P : Program} {f : FuncId} {args : Array Value} {w : World} {n : Nat} {v : Value}
    (h : Calls P f args (w.drewN n) fun e w' => e = .returned v ∧ w.drewN n = w') : Calls P f args (w.drewN n) fun e w'' => e = .returned v ∧ ∃ m, w'' = w.drewN m :=
  h.mono fun _ _ ⟨he, hm⟩ => ⟨he, n, hm.symm⟩
theorem room_any (p : Int) (w : World) (hp : 128 ≤ p ∧ p ≤ 1024) : Calls Tryd.prog 35 #[.int .i64 p] w fun e w' => e = .returned (.int .i64 (p - 16)) ∧ w = w' := by
  have hw : IntKind.i64.wrap (p - 16) = p - 16 := IntWalk.i64_in _ (by omega)
  clear hp
  go_enter Tryd.func35, Tryd.ntmps35
  go_wp2_with fail
  go_ret
  exact ⟨rfl, rfl⟩
theorem rsize_any (F N : Int) (D : ByteArray) (p : Int) (w : World) (hs : L7.Sizes w) : Calls Tryd.prog 30 #[cv F N D, .int .i64 p] w fun e w' => e = .returned (.bool (L7.mayBe p)) ∧ Below w.heap.size w w' := by
  have hb := cbox_below 23 F N D w
  have HB := Lib.hid hb
  have HS := Lib.hid (L7.size_any p _ (hs.below hs.lt hb))
  generalize L7.mayBe p = b at *
  clear hb hs
  go_enter Tryd.func30, Tryd.ntmps30
  go_wp2_with fail
  refine HS.out.mono ?_
  rintro e w2 ⟨rfl, rfl⟩
  go_wp2_with fail
  go_ret
  exact ⟨rfl, HB.out⟩
set_option maxHeartbeats 1000000 in
theorem rnumbers_any (F N : Int) (D : ByteArray) (p : Int) (w : World) : Calls Tryd.prog 31 #[cv F N D, .int .i64 p] w fun e w' => e = .returned (.bool (decide (NumOk F N))) ∧ Below w.heap.size w w' := by
  have HB := Lib.hid (cbox_below 23 F N D w)
  rcases (show NumOk F N ∨ F < 1 ∨ (1 ≤ F ∧ 4095 < F) ∨ (1 ≤ F ∧ F ≤ 4095 ∧ N < 0) ∨ (1 ≤ F ∧ F ≤ 4095 ∧ 0 ≤ N ∧ 4095 < N) ∨ (1 ≤ F ∧ F ≤ 4095 ∧ 0 ≤ N ∧ N ≤ 4095 ∧ N = F) by unfold NumOk; omega) with h | h | h | h | h | h
  · rw [decide_eq_true h]
    unfold NumOk at h
    have d1 : decide (1 ≤ F) = true := decide_eq_true (by omega)
    have d2 : decide (F ≤ 4095) = true := decide_eq_true (by omega)
    have d3 : decide (0 ≤ N) = true := decide_eq_true (by omega)
    have d4 : decide (N ≤ 4095) = true := decide_eq_true (by omega)
    have d5 : (N != F) = true := by simp; omega
    clear h
    go_enter Tryd.func31, Tryd.ntmps31
    go_wp2_with fail
    go_ret
    exact ⟨rfl, HB.out⟩
  · rw [decide_eq_false (show ¬ NumOk F N by unfold NumOk; omega)]
    have d1 : decide (1 ≤ F) = false := decide_eq_false (by omega)
    clear h
    go_enter Tryd.func31, Tryd.ntmps31
    go_wp2_with fail
    go_ret
    exact ⟨rfl, HB.out⟩
  · rw [decide_eq_false (show ¬ NumOk F N by unfold NumOk; omega)]
    have d1 : decide (1 ≤ F) = true := decide_eq_true (by omega)
    have d2 : decide (F ≤ 4095) = false := decide_eq_false (by omega)
    clear h
    go_enter Tryd.func31, Tryd.ntmps31
    go_wp2_with fail
    go_ret
    exact ⟨rfl, HB.out⟩
  · rw [decide_eq_false (show ¬ NumOk F N by unfold NumOk; omega)]
    have d1 : decide (1 ≤ F) = true := decide_eq_true (by omega)
    have d2 : decide (F ≤ 4095) = true := decide_eq_true (by omega)
    have d3 : decide (0 ≤ N) = false := decide_eq_false (by omega)
    clear h
    go_enter Tryd.func31, Tryd.ntmps31
    go_wp2_with fail
    go_ret
    exact ⟨rfl, HB.out⟩
  · rw [decide_eq_false (show ¬ NumOk F N by unfold NumOk; omega)]
    have d1 : decide (1 ≤ F) = true := decide_eq_true (by omega)
    have d2 : decide (F ≤ 4095) = true := decide_eq_true (by omega)
    have d3 : decide (0 ≤ N) = true := decide_eq_true (by omega)
    have d4 : decide (N ≤ 4095) = false := decide_eq_false (by omega)
    clear h
    go_enter Tryd.func31, Tryd.ntmps31
    go_wp2_with fail
    go_ret
    exact ⟨rfl, HB.out⟩
  · rw [decide_eq_false (show ¬ NumOk F N by unfold NumOk; omega)]
    have d1 : decide (1 ≤ F) = true := decide_eq_true (by omega)
    have d2 : decide (F ≤ 4095) = true := decide_eq_true (by omega)
    have d3 : decide (0 ≤ N) = true := decide_eq_true (by omega)
    have d4 : decide (N ≤ 4095) = true := decide_eq_true (by omega)
    have d5 : (N != F) = false := by simp; omega
    clear h
    go_enter Tryd.func31, Tryd.ntmps31
    go_wp2_with fail
    go_ret
    exact ⟨rfl, HB.out⟩

set_option maxHeartbeats 2000000 in
theorem rdata_any (F N : Int) (D : ByteArray) (p : Int) (w : World) (hp : 128 ≤ p ∧ p ≤ 1024) : Calls Tryd.prog 32 #[cv F N D, .int .i64 p] w fun e w' => e = .returned (.bool (decide (DataOk N D.size p))) ∧ Below w.heap.size w w' := by
  have HB := Lib.hid (cbox_below 23 F N D w)
  have HBD : ∀ W, Below w.heap.size w W → ∀ n, Below w.heap.size w (W.drewN n) := fun W h n => L5.below_drewN h n
  have HR := Lib.hid (fun W => room_any p W hp)
  obtain ⟨r, HRS⟩ : ∃ r, Hid (r = decide (DataOk N D.size p)) := ⟨_, Lib.hid rfl⟩
  obtain ⟨c0, c1, c2⟩ := (cbox_new 23 F N D w).cells
  rw [← HRS.out]
  by_cases h0 : N = 0
  · subst h0
    by_cases h1 : 1 ≤ D.size
    · have d1 : decide ((1 : Int) ≤ (D.size : Int)) = true := decide_eq_true (by omega)
      have HX : Hid (r = decide ((D.size : Int) ≤ p - 16)) := Lib.hid (by rw [HRS.out]; unfold DataOk; exact decide_eq_decide.2 ⟨fun h => h.2.1, fun h => ⟨h1, h, .inl rfl⟩⟩)
      clear h1 hp
      go_enter Tryd.func32, Tryd.ntmps32
      go_wp2_with fail
      go_quiet ((go_at_call 35; exact quiet_of_eq (HR.out _)))
      go_wp2_with fail
      go_ret
      exact ⟨by rw [HX.out] <;> rfl, HBD _ HB.out _⟩
    · have d1 : decide ((1 : Int) ≤ (D.size : Int)) = false := decide_eq_false (by omega)
      have HX : Hid (r = false) := Lib.hid (by rw [HRS.out]; exact decide_eq_false (fun h => h1 h.1))
      clear h1 hp
      go_enter Tryd.func32, Tryd.ntmps32
      go_wp2_with fail
      go_quiet ((go_at_call 35; exact quiet_of_eq (HR.out _)))
      go_wp2_with fail
      go_ret
      exact ⟨by rw [HX.out] <;> rfl, HBD _ HB.out _⟩
  · have d0 : (N != 0) = true := by simpa using h0
    by_cases h1 : p - 16 ≤ (D.size : Int)
    · have d1 : decide (p - 16 ≤ (D.size : Int)) = true := decide_eq_true (by omega)
      have HX : Hid (r = decide ((D.size : Int) ≤ p - 16)) := Lib.hid (by rw [HRS.out]; unfold DataOk; exact decide_eq_decide.2 ⟨fun h => h.2.1, fun h => ⟨by omega, h, .inr (by omega)⟩⟩)
      clear h1 hp h0
      go_enter Tryd.func32, Tryd.ntmps32
      go_wp2_with fail
      refine (HR.out _).mono ?_
      rintro e w2 ⟨rfl, rfl⟩
      go_wp2_with fail
      go_quiet ((go_at_call 35; exact quiet_of_eq (HR.out _)))
      go_wp2_with fail
      go_ret
      exact ⟨by rw [HX.out] <;> rfl, HBD _ HB.out _⟩
    · have d1 : decide (p - 16 ≤ (D.size : Int)) = false := decide_eq_false (by omega)
      have HX : Hid (r = false) := Lib.hid (by rw [HRS.out]; exact decide_eq_false (fun h => by unfold DataOk at h; omega))
      clear h1 hp h0
      go_enter Tryd.func32, Tryd.ntmps32
      go_wp2_with fail
      refine (HR.out _).mono ?_
      rintro e w2 ⟨rfl, rfl⟩
      go_wp2_with fail
      go_quiet ((go_at_call 35; exact quiet_of_eq (HR.out _)))
      go_wp2_with fail
      go_ret
      exact ⟨by rw [HX.out] <;> rfl, HBD _ HB.out _⟩
end Go.Proofs.YtahkigabapdleaaDoor
