/-
  The walk of the document's Right: whether a head may be.
-/
import Derived.Test.YtnjmkljnjngpkaaDoorHRef
import Derived.Test.YtnjmkljnjngpkaaDoorHPlain
namespace Go.Proofs.YtnjmkljnjngpkaaDoor.L7
open Go.RowKit
set_option linter.unusedVariables false

/-- A head, as the program and the document hold one. -/
def hv (h : HP.H) : Value := .agg #[.int .i64 h.k, .int .i64 h.l, .int .i64 h.c, .int .i64 h.r, .int .i64 h.s]
set_option maxHeartbeats 1000000 in
theorem refRight_any (h : HP.H) (w : World) :
    Calls Tryd.prog 42 #[hv h] w fun e w' => e = .returned (.bool (HP.right h)) ∧ Below w.heap.size w w' := by
  obtain ⟨k, l, c, r, s⟩ := h
  unfold hv
  by_cases h0 : 1 ≤ k
  · by_cases h1 : k ≤ 4
    · by_cases h2 : 0 ≤ l
      · by_cases h3 : l ≤ 255
        · by_cases h4 : 0 ≤ c
          · by_cases h5 : c ≤ 65535
            · by_cases h6 : 0 ≤ r
              · by_cases h7 : r ≤ 4095
                · by_cases h8 : 0 ≤ s
                  · by_cases h9 : s ≤ 4095
                    · have hv : HP.right ⟨k, l, c, r, s⟩ = true := by
                        unfold HP.right HP.Ok
                        exact decide_eq_true (by simp only; omega)
                      rw [hv]
                      clear hv
                      go_enter Tryd.func42, Tryd.ntmps42
                      go_wp2_with fail
                      go_ret
                      exact ⟨rfl, (Below.refl _ w).alloc (Nat.le_refl _) _⟩
                    · have hv : HP.right ⟨k, l, c, r, s⟩ = false := by
                        unfold HP.right HP.Ok
                        exact decide_eq_false (by simp only; omega)
                      rw [hv]
                      clear hv
                      go_enter Tryd.func42, Tryd.ntmps42
                      go_wp2_with fail
                      go_ret
                      exact ⟨rfl, (Below.refl _ w).alloc (Nat.le_refl _) _⟩
                  · have hv : HP.right ⟨k, l, c, r, s⟩ = false := by
                      unfold HP.right HP.Ok
                      exact decide_eq_false (by simp only; omega)
                    rw [hv]
                    clear hv
                    go_enter Tryd.func42, Tryd.ntmps42
                    go_wp2_with fail
                    go_ret
                    exact ⟨rfl, (Below.refl _ w).alloc (Nat.le_refl _) _⟩
                · have hv : HP.right ⟨k, l, c, r, s⟩ = false := by
                    unfold HP.right HP.Ok
                    exact decide_eq_false (by simp only; omega)
                  rw [hv]
                  clear hv
                  go_enter Tryd.func42, Tryd.ntmps42
                  go_wp2_with fail
                  go_ret
                  exact ⟨rfl, (Below.refl _ w).alloc (Nat.le_refl _) _⟩
              · have hv : HP.right ⟨k, l, c, r, s⟩ = false := by
                  unfold HP.right HP.Ok
                  exact decide_eq_false (by simp only; omega)
                rw [hv]
                clear hv
                go_enter Tryd.func42, Tryd.ntmps42
                go_wp2_with fail
                go_ret
                exact ⟨rfl, (Below.refl _ w).alloc (Nat.le_refl _) _⟩
            · have hv : HP.right ⟨k, l, c, r, s⟩ = false := by
                unfold HP.right HP.Ok
                exact decide_eq_false (by simp only; omega)
              rw [hv]
              clear hv
              go_enter Tryd.func42, Tryd.ntmps42
              go_wp2_with fail
              go_ret
              exact ⟨rfl, (Below.refl _ w).alloc (Nat.le_refl _) _⟩
          · have hv : HP.right ⟨k, l, c, r, s⟩ = false := by
              unfold HP.right HP.Ok
              exact decide_eq_false (by simp only; omega)
            rw [hv]
            clear hv
            go_enter Tryd.func42, Tryd.ntmps42
            go_wp2_with fail
            go_ret
            exact ⟨rfl, (Below.refl _ w).alloc (Nat.le_refl _) _⟩
        · have hv : HP.right ⟨k, l, c, r, s⟩ = false := by
            unfold HP.right HP.Ok
            exact decide_eq_false (by simp only; omega)
          rw [hv]
          clear hv
          go_enter Tryd.func42, Tryd.ntmps42
          go_wp2_with fail
          go_ret
          exact ⟨rfl, (Below.refl _ w).alloc (Nat.le_refl _) _⟩
      · have hv : HP.right ⟨k, l, c, r, s⟩ = false := by
          unfold HP.right HP.Ok
          exact decide_eq_false (by simp only; omega)
        rw [hv]
        clear hv
        go_enter Tryd.func42, Tryd.ntmps42
        go_wp2_with fail
        go_ret
        exact ⟨rfl, (Below.refl _ w).alloc (Nat.le_refl _) _⟩
    · have hv : HP.right ⟨k, l, c, r, s⟩ = false := by
        unfold HP.right HP.Ok
        exact decide_eq_false (by simp only; omega)
      rw [hv]
      clear hv
      go_enter Tryd.func42, Tryd.ntmps42
      go_wp2_with fail
      go_ret
      exact ⟨rfl, (Below.refl _ w).alloc (Nat.le_refl _) _⟩
  · have hv : HP.right ⟨k, l, c, r, s⟩ = false := by
      unfold HP.right HP.Ok
      exact decide_eq_false (by simp only; omega)
    rw [hv]
    clear hv
    go_enter Tryd.func42, Tryd.ntmps42
    go_wp2_with fail
    go_ret
    exact ⟨rfl, (Below.refl _ w).alloc (Nat.le_refl _) _⟩
end Go.Proofs.YtnjmkljnjngpkaaDoor.L7
