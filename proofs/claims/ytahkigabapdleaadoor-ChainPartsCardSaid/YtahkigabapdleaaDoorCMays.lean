/-
  The walk of chain.May.
-/
import Derived.Test.YtahkigabapdleaaDoorCMay
namespace Go.Proofs.YtahkigabapdleaaDoor
open Go.RowKit CP
set_option linter.unusedVariables false
set_option linter.unusedSimpArgs false

theorem ixR0 (W : World) : (Instr.index 64 (.agg #[.func (.func 30) #[] #[], .func (.func 31) #[] #[], .func (.func 32) #[] #[]]) (.int .i64 0)).run Tryd.prog W = .ok (.func (.func 30) #[] #[]) W := by kernel_rfl
theorem ixR1 (W : World) : (Instr.index 64 (.agg #[.func (.func 30) #[] #[], .func (.func 31) #[] #[], .func (.func 32) #[] #[]]) (.int .i64 1)).run Tryd.prog W = .ok (.func (.func 31) #[] #[]) W := by kernel_rfl
theorem ixR2 (W : World) : (Instr.index 64 (.agg #[.func (.func 30) #[] #[], .func (.func 31) #[] #[], .func (.func 32) #[] #[]]) (.int .i64 2)).run Tryd.prog W = .ok (.func (.func 32) #[] #[]) W := by kernel_rfl

set_option maxHeartbeats 2000000 in
set_option maxRecDepth 100000 in
theorem may_any (F N : Int) (D : ByteArray) (p : Int) (w : World) (hs : L7.Sizes w) :
    Calls Tryd.prog 15 #[cv F N D, .int .i64 p] w fun e w' => e = .returned (.bool (decide (May F N D.size p))) ∧ Below w.heap.size w w' := by
  have hb := cbox_below 23 F N D w
  have HB := Lib.hid hb
  have HK := Lib.hid (cbox_new 23 F N D w)
  have HS := Lib.hid (hs.below hs.lt hb)
  have HSZ := Lib.hid (fun W (h : L7.Sizes W) => rsize_any F N D p W h)
  have HNU := Lib.hid (fun W => rnumbers_any F N D p W)
  have HDA := Lib.hid (fun W (h : L7.mayBe p = true) => rdata_any F N D p W (mayBe_le h))
  obtain ⟨r, HRS⟩ : ∃ r, Hid (r = decide (May F N D.size p)) := ⟨_, Lib.hid rfl⟩
  rw [← HRS.out]
  have ix0 := ixR0
  have ix1 := ixR1
  have ix2 := ixR2
  clear hb hs
  go_enter Tryd.func15, Tryd.ntmps15
  go_wp2_with fail
  go_loopw [8] (fun iv wr => ∃ k : Nat, k ≤ 3 ∧ iv = .int .i64 k ∧ Hid (Cx 23 w.heap.size F N D wr) ∧ Hid (L7.Sizes wr) ∧ Hid (Below w.heap.size w wr) ∧ Hid (0 < k → L7.mayBe p = true) ∧ Hid (1 < k → NumOk F N) ∧ Hid (2 < k → DataOk N D.size p)) (fun iv _ => 3 - (intOf iv).toNat)
  case atStart => exact ⟨0, by omega, rfl, HK, HS, HB, Lib.hid (fun h => absurd h (by omega)), Lib.hid (fun h => absurd h (by omega)), Lib.hid (fun h => absurd h (by omega))⟩
  case round =>
    obtain ⟨k, hk, rfl, HK, HS, HB, H0, H1, H2⟩ := hrel
    obtain ⟨c0, c1, c2⟩ := HK.out.cells
    rcases (show k = 0 ∨ k = 1 ∨ k = 2 ∨ k = 3 by omega) with rfl | rfl | rfl | rfl
    · cases hm : L7.mayBe p with
      | true =>
        have HM := Lib.hid hm
        rw [hm] at HSZ
        clear hm
        go_wp2_with fail
        refine (HSZ.out _ HS.out).mono ?_
        rintro e w2 ⟨rfl, hb⟩
        have HK2 := Lib.hid (HK.out.below hb)
        have HB2 := Lib.hid (HB.out.trans' hb)
        have HS2 := Lib.hid (HS.out.below HS.out.lt hb)
        clear hb
        go_wp2_with fail
        go_roundw
        case rel => exact ⟨1, by omega, by go_num, HK2, HS2, HB2, Lib.hid (fun _ => trivial), Lib.hid (fun h => absurd h (by omega)), Lib.hid (fun h => absurd h (by omega))⟩
        case measure => simp [intOf]
      | false =>
        have HX : Hid (r = false) := Lib.hid (by rw [HRS.out]; exact decide_eq_false (fun h => by have := h.1; rw [hm] at this; cases this))
        rw [hm] at HSZ
        clear hm
        go_wp2_with fail
        refine (HSZ.out _ HS.out).mono ?_
        rintro e w2 ⟨rfl, hb⟩
        go_wp2_with fail
        go_ret
        exact ⟨by rw [HX.out] <;> rfl, HB.out.trans' hb⟩
    · by_cases hm : NumOk F N
      · have HM := Lib.hid hm
        rw [decide_eq_true hm] at HNU
        clear hm
        go_wp2_with fail
        refine (HNU.out _).mono ?_
        rintro e w2 ⟨rfl, hb⟩
        have HK2 := Lib.hid (HK.out.below hb)
        have HB2 := Lib.hid (HB.out.trans' hb)
        have HS2 := Lib.hid (HS.out.below HS.out.lt hb)
        clear hb
        go_wp2_with fail
        go_roundw
        case rel => exact ⟨2, by omega, by go_num, HK2, HS2, HB2, Lib.hid (fun _ => H0.out (by omega)), Lib.hid (fun _ => HM.out), Lib.hid (fun h => absurd h (by omega))⟩
        case measure => simp [intOf]
      · have HX : Hid (r = false) := Lib.hid (by rw [HRS.out]; exact decide_eq_false (fun h => hm h.2.1))
        rw [decide_eq_false hm] at HNU
        clear hm
        go_wp2_with fail
        refine (HNU.out _).mono ?_
        rintro e w2 ⟨rfl, hb⟩
        go_wp2_with fail
        go_ret
        exact ⟨by rw [HX.out] <;> rfl, HB.out.trans' hb⟩
    · by_cases hm : DataOk N D.size p
      · have HM := Lib.hid hm
        rw [decide_eq_true hm] at HDA
        clear hm
        go_wp2_with fail
        refine (HDA.out _ (H0.out (by omega))).mono ?_
        rintro e w2 ⟨rfl, hb⟩
        have HK2 := Lib.hid (HK.out.below hb)
        have HB2 := Lib.hid (HB.out.trans' hb)
        have HS2 := Lib.hid (HS.out.below HS.out.lt hb)
        clear hb
        go_wp2_with fail
        go_roundw
        case rel => exact ⟨3, by omega, by go_num, HK2, HS2, HB2, Lib.hid (fun _ => H0.out (by omega)), Lib.hid (fun _ => H1.out (by omega)), Lib.hid (fun _ => HM.out)⟩
        case measure => simp [intOf]
      · have HX : Hid (r = false) := Lib.hid (by rw [HRS.out]; exact decide_eq_false (fun h => hm h.2.2))
        rw [decide_eq_false hm] at HDA
        clear hm
        go_wp2_with fail
        refine (HDA.out _ (H0.out (by omega))).mono ?_
        rintro e w2 ⟨rfl, hb⟩
        go_wp2_with fail
        go_ret
        exact ⟨by rw [HX.out] <;> rfl, HB.out.trans' hb⟩
    · have HX : Hid (r = true) := Lib.hid (by rw [HRS.out]; exact decide_eq_true ⟨H0.out (by omega), H1.out (by omega), H2.out (by omega)⟩)
      go_wp2_with fail
      go_ret
      exact ⟨by rw [HX.out] <;> rfl, HB.out⟩
end Go.Proofs.YtahkigabapdleaaDoor
