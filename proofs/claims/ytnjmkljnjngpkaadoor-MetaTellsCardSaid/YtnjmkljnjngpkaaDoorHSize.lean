/-
  The walk of the program's disk.Size.
-/
import Derived.Test.YtnjmkljnjngpkaaDoorRows
import Derived.Test.YtnjmkljnjngpkaaDoorHPlain
import Derived.WalkKit
import Derived.WalkSpells
import Derived.WalkLawsBesides
import Derived.Lib.LaidTab
import Derived.Lib.Walk
import Derived.Lib.Hide
import Derived.Below
namespace Go.Proofs.YtnjmkljnjngpkaaDoor.L7
open Go.RowKit
open Go.ChangeShapes
set_option linter.unusedVariables false
set_option linter.unusedSimpArgs false

/-- The sizes that a page may have, as the program's variable has them. -/
def Sizes (w : World) : Prop := w.cell? ⟨0, 0, none⟩ = some (.int .i64 128) ∧ w.cell? ⟨0, 1, none⟩ = some (.int .i64 256) ∧ w.cell? ⟨0, 2, none⟩ = some (.int .i64 512) ∧ w.cell? ⟨0, 3, none⟩ = some (.int .i64 1024)

theorem Sizes.lt {w : World} (h : Sizes w) : 0 < w.heap.size := by
  refine Nat.lt_of_not_le fun hn => ?_
  have := h.1
  simp [World.cell?, Array.getElem?_eq_none hn] at this

theorem Sizes.below {w w' : World} {c : Nat} (h : Sizes w) (hc : 0 < c) (k : Below c w w') : Sizes w' :=
  ⟨(k.cell hc).trans h.1, (k.cell hc).trans h.2.1, (k.cell hc).trans h.2.2.1, (k.cell hc).trans h.2.2.2⟩

theorem sizes_of {W : World} (h : laidMet Tryd.prog [("withy/disk.sizes", Rows.laid_withy_disk_sizes)] W) : Sizes W := by
  have t : Lib.TabIs Tryd.prog W "withy/disk.sizes" .i64 [128, 256, 512, 1024] :=
    Lib.tabIs_of_head (g := 0) (t := 88) (e := 3) (n := 4) (rest := []) (by kernel_rfl) (by kernel_rfl) Tryd.underlying88 Tryd.underlying3 (by kernel_rfl) (by kernel_rfl) h
  have hg : Tryd.prog.globalNamed "withy/disk.sizes" = some 0 := by kernel_rfl
  exact ⟨t.cell hg 0 (by decide), t.cell hg 1 (by decide), t.cell hg 2 (by decide), t.cell hg 3 (by decide)⟩

def four : Value := .agg #[.int .i64 128, .int .i64 256, .int .i64 512, .int .i64 1024]

theorem ix0 : ∀ W : World, (Instr.index 88 (.agg #[.int .i64 128, .int .i64 256, .int .i64 512, .int .i64 1024]) (.int .i64 0)).run Tryd.prog W = .ok (.int .i64 128) W := fun W => by kernel_rfl

theorem ix1 : ∀ W : World, (Instr.index 88 (.agg #[.int .i64 128, .int .i64 256, .int .i64 512, .int .i64 1024]) (.int .i64 1)).run Tryd.prog W = .ok (.int .i64 256) W := fun W => by kernel_rfl

theorem ix2 : ∀ W : World, (Instr.index 88 (.agg #[.int .i64 128, .int .i64 256, .int .i64 512, .int .i64 1024]) (.int .i64 2)).run Tryd.prog W = .ok (.int .i64 512) W := fun W => by kernel_rfl

theorem ix3 : ∀ W : World, (Instr.index 88 (.agg #[.int .i64 128, .int .i64 256, .int .i64 512, .int .i64 1024]) (.int .i64 3)).run Tryd.prog W = .ok (.int .i64 1024) W := fun W => by kernel_rfl

set_option maxHeartbeats 1000000 in
set_option maxRecDepth 100000 in
theorem size_any (p : Int) (w : World) (h : Sizes w) : Calls Tryd.prog 29 #[.int .i64 p] w fun e w' => e = .returned (.bool (mayBe p)) ∧ w = w' := by
  obtain ⟨s0, s1, s2, s3⟩ := h
  have ix0 := ix0
  have ix1 := ix1
  have ix2 := ix2
  have ix3 := ix3
  obtain ⟨r, hr⟩ : ∃ r, r = mayBe p := ⟨_, rfl⟩
  have HR := Lib.hid hr
  rw [← hr]
  clear hr
  go_enter Tryd.func29, Tryd.ntmps29
  go_wp2_with fail
  go_loopw [6] (fun iv wr => ∃ k : Nat, k ≤ 4 ∧ iv = .int .i64 k ∧ Hid (wr = w) ∧ Hid ((0 < k → p ≠ 128) ∧ (1 < k → p ≠ 256) ∧ (2 < k → p ≠ 512) ∧ (3 < k → p ≠ 1024))) (fun iv _ => 4 - (intOf iv).toNat)
  case atStart => exact ⟨0, by omega, rfl, Lib.hid rfl, Lib.hid ⟨by omega, by omega, by omega, by omega⟩⟩
  case round =>
    obtain ⟨k, hk, rfl, HW, HP⟩ := hrel
    obtain rfl := HW.out
    by_cases h4 : k = 4
    · subst h4
      have HF : Hid (r = false) := Lib.hid (by
        rw [HR.out]
        obtain ⟨a, b, c, d⟩ := HP.out
        have := a (by omega); have := b (by omega); have := c (by omega); have := d (by omega)
        unfold mayBe
        simp [*])
      go_wp2_with fail
      go_ret
      exact ⟨by rw [HF.out]; try rfl, rfl⟩
    · have hcase : k = 0 ∨ k = 1 ∨ k = 2 ∨ k = 3 := by omega
      clear hk h4
      rcases hcase with rfl | rfl | rfl | rfl
      · by_cases hp : p = 128
        · subst hp
          have HT : Hid (r = true) := Lib.hid (by rw [HR.out]; rfl)
          go_wp2_with fail
          go_ret
          exact ⟨by rw [HT.out]; try rfl, rfl⟩
        · have q1 : (p == 128) = false := beq_eq_false_iff_ne.2 hp
          go_wp2_with fail
          go_roundw
          case rel => exact ⟨1, by omega, rfl, (by first | exact Lib.hid rfl | exact Lib.hid trivial), Lib.hid ⟨fun _ => hp, by omega, by omega, by omega⟩⟩
          case measure => simp [intOf]
      · by_cases hp : p = 256
        · subst hp
          have HT : Hid (r = true) := Lib.hid (by rw [HR.out]; rfl)
          go_wp2_with fail
          go_ret
          exact ⟨by rw [HT.out]; try rfl, rfl⟩
        · have q1 : (p == 256) = false := beq_eq_false_iff_ne.2 hp
          go_wp2_with fail
          go_roundw
          case rel => exact ⟨2, by omega, rfl, (by first | exact Lib.hid rfl | exact Lib.hid trivial), Lib.hid ⟨fun _ => HP.out.1 (by omega), fun _ => hp, by omega, by omega⟩⟩
          case measure => simp [intOf]
      · by_cases hp : p = 512
        · subst hp
          have HT : Hid (r = true) := Lib.hid (by rw [HR.out]; rfl)
          go_wp2_with fail
          go_ret
          exact ⟨by rw [HT.out]; try rfl, rfl⟩
        · have q1 : (p == 512) = false := beq_eq_false_iff_ne.2 hp
          go_wp2_with fail
          go_roundw
          case rel => exact ⟨3, by omega, rfl, (by first | exact Lib.hid rfl | exact Lib.hid trivial), Lib.hid ⟨fun _ => HP.out.1 (by omega), fun _ => HP.out.2.1 (by omega), fun _ => hp, by omega⟩⟩
          case measure => simp [intOf]
      · by_cases hp : p = 1024
        · subst hp
          have HT : Hid (r = true) := Lib.hid (by rw [HR.out]; rfl)
          go_wp2_with fail
          go_ret
          exact ⟨by rw [HT.out]; try rfl, rfl⟩
        · have q1 : (p == 1024) = false := beq_eq_false_iff_ne.2 hp
          go_wp2_with fail
          go_roundw
          case rel => exact ⟨4, by omega, rfl, (by first | exact Lib.hid rfl | exact Lib.hid trivial), Lib.hid ⟨fun _ => HP.out.1 (by omega), fun _ => HP.out.2.1 (by omega), fun _ => HP.out.2.2.1 (by omega), fun _ => hp⟩⟩
          case measure => simp [intOf]

end Go.Proofs.YtnjmkljnjngpkaaDoor.L7
