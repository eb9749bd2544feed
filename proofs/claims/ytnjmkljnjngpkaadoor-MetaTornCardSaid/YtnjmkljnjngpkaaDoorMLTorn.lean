/-
  The walk of MetaTorn. Written by wip/gen_mlaws.py.
-/
import Derived.Test.YtnjmkljnjngpkaaDoorMFixed
import Derived.Deep.RegionHeld3
namespace Go.Proofs.YtnjmkljnjngpkaaDoor
open Go.RowKit MP
set_option linter.unusedVariables false
set_option linter.unusedSimpArgs false

theorem decV_form (s : ByteArray) : ∃ P G R L C e, decV s = .tuple #[mv P G R L C, .int .i64 e] := by
  cases h : dec s with
  | some x => exact ⟨_, _, _, _, _, _, decV_some h⟩
  | none => exact ⟨_, _, _, _, _, _, decV_none h⟩
theorem rem_of (a n k : Nat) (h : a % (n + 1) = k) : (a : Int).tmod ((n : Int) + 1) = (k : Int) := by
  subst h
  exact (Int.ofNat_tmod a (n + 1)).symm
set_option maxHeartbeats 4000000 in
set_option maxRecDepth 100000 in
theorem metaTorn_any (hfx : Fixes) (P G R L C a : Int) (c : UInt8) (w : World) (hg : L7.Sizes w) (ha : 0 ≤ a ∧ a ≤ 65535) :
    Calls Tryd.prog 5 #[mv P G R L C, .int .u16 a, .int .u8 c.toNat] w fun e w' => e = .returned (.bool true) ∧ Below w.heap.size w w' := by
  have hb0 := mbox_below 23 P G R L C w
  have HB := Lib.hid hb0
  have HC := Lib.hid (mbox_new 23 P G R L C w)
  have HG0 := Lib.hid hg
  have HG := Lib.hid (hg.below hg.lt hb0)
  have HFX : Hid (L7.Tells 18 #[] (.bool true)) := Lib.hid hfx
  simp only [mbox] at HB HC HG
  clear hb0 hfx hg
  obtain ⟨a, rfl⟩ := Int.eq_ofNat_of_zero_le ha.1
  have wa : IntKind.i64.wrap (a : Int) = (a : Int) := IntWalk.i64_in _ (by omega)
  clear ha
  by_cases hm : May ⟨P, G, R, L, C⟩
  · obtain ⟨S, he⟩ : ∃ S, enc ⟨P, G, R, L, C⟩ = (S, 0) := ⟨_, enc_good hm⟩
    have hsz := enc_size he
    have hp := mayBe_le hm.1
    simp only at hsz hp
    have hd := (enc_facts he).2.2
    have HE := tEnc P G R L C he
    have d1 : decide ((S.size : Int) < 128) = false := decide_eq_false (by omega)
    have ws : IntKind.i64.wrap ((S.size : Int) + 1) = (S.size : Int) + 1 := IntWalk.i64_in _ (by omega)
    have nz : ((S.size : Int) + 1 == 0) = false := by simp; omega
    have nz2 : ¬ ((S.size : Int) + 1 = 0) := by omega
    have R1 : Hid (L7.Tells 19 #[.int .u8 0, .int .i64 S.size] (.string (rep 0 S.size))) := tRep 0 S.size (by omega)
    have R2 := tRep c S.size (by omega)
    obtain ⟨k, hk⟩ : ∃ k, a % (S.size + 1) = k := ⟨_, rfl⟩
    have hkl : k ≤ S.size := by rw [← hk]; exact Nat.le_of_lt_succ (Nat.mod_lt _ (by omega))
    have hrem := rem_of a S.size k hk
    have kwf : (Lit.int .i64 (k : Int)).wf = true := by simp [Lit.wf, IntKind.min, IntKind.max, IntKind.signed, IntKind.bits]; omega
    have T1 := tTear S (rep 0 S.size) k rfl (by omega) (by rw [rep_size]; unfold maxLen; omega) kwf
    have T2 := tTear S (rep c S.size) k rfl (by omega) (by rw [rep_size]; unfold maxLen; omega) kwf
    have t1 := tear_size (a := S) (b := rep 0 S.size) (at' := k) (rep_size 0 S.size).symm
    have t2 := tear_size (a := S) (b := rep c S.size) (at' := k) (rep_size c S.size).symm
    rw [rep_size] at t1 t2
    have hc1 : (c.toNat : Int) ≥ 0 := by omega
    clear hk kwf
    by_cases hkn : k = S.size
    · have D1 := tDec _ (decV_some (torn_whole (i := k) he (rep_size 0 S.size) (by omega))) (by rw [t1]; unfold maxLen; omega)
      rw [hkn] at hrem T1 T2 D1
      have ke : ((S.size : Int) == (S.size : Int)) = true := by simp
      by_cases h87 : c = 87
      · subst h87
        obtain ⟨P2, G2, R2', L2, C2, e2, hv⟩ := decV_form (tear S (rep 87 S.size) S.size)
        have D2 := tDec _ hv (by rw [hkn] at t2; rw [t2]; unfold maxLen; omega)
        have u87 : (((87 : UInt8).toNat : Int) == 87) = true := by decide
        clear hp hsz hd hm t1 t2 hkl he
        generalize tear S (rep 0 S.size) (S.size : Int) = Z1 at *
        generalize tear S (rep 87 S.size) (S.size : Int) = Z2 at *
        generalize rep 0 S.size = Y1 at *
        generalize rep 87 S.size = Y2 at *
        obtain ⟨c0, c1, c2, c3, c4⟩ := HC.out.cells
        go_enter Tryd.func5, Tryd.ntmps5
        go_wp2_with fail
        refine (HE.out _ HG.out).mono ?_
        rintro e V ⟨rfl, hb⟩
        replace HB := Lib.hid (HB.out.trans' hb)
        replace HG := Lib.hid (HG0.out.below HG0.out.lt HB.out)
        replace HC := Lib.hid (HC.out.below hb)
        clear hb
        clear c0 c1 c2 c3 c4
        go_wp2_with fail
        refine (R1.out _ HG.out).mono ?_
        rintro e V ⟨rfl, hb⟩
        replace HB := Lib.hid (HB.out.trans' hb)
        replace HG := Lib.hid (HG0.out.below HG0.out.lt HB.out)
        replace HC := Lib.hid (HC.out.below hb)
        clear hb
        go_wp2_with fail
        refine (T1.out _ HG.out).mono ?_
        rintro e V ⟨rfl, hb⟩
        replace HB := Lib.hid (HB.out.trans' hb)
        replace HG := Lib.hid (HG0.out.below HG0.out.lt HB.out)
        replace HC := Lib.hid (HC.out.below hb)
        clear hb
        go_wp2_with fail
        refine (D1.out _ HG.out).mono ?_
        rintro e V ⟨rfl, hb⟩
        have HX := Lib.hid (mbox_new 23 P G R L C V)
        have hb := hb.trans' (mbox_below 23 P G R L C V)
        replace HB := Lib.hid (HB.out.trans' hb)
        replace HG := Lib.hid (HG0.out.below HG0.out.lt HB.out)
        replace HC := Lib.hid (HC.out.below hb)
        clear hb
        obtain ⟨c0, c1, c2, c3, c4⟩ := HC.out.cells
        obtain ⟨x0, x1, x2, x3, x4⟩ := HX.out.cells
        simp only [mbox] at HB HG HC HX c0 c1 c2 c3 c4 x0 x1 x2 x3 x4
        go_wp2_with fail
        clear c0 c1 c2 c3 c4 x0 x1 x2 x3 x4
        generalize V.alloc (.cells #[.int .i64 P, .int .i64 G, .int .i64 R, .int .i64 L, .int .i64 C] 23) = V' at *
        clear HX
        refine (R2.out _ HG.out).mono ?_
        rintro e V ⟨rfl, hb⟩
        replace HB := Lib.hid (HB.out.trans' hb)
        replace HG := Lib.hid (HG0.out.below HG0.out.lt HB.out)
        replace HC := Lib.hid (HC.out.below hb)
        clear hb
        go_wp2_with fail
        refine (T2.out _ HG.out).mono ?_
        rintro e V ⟨rfl, hb⟩
        replace HB := Lib.hid (HB.out.trans' hb)
        replace HG := Lib.hid (HG0.out.below HG0.out.lt HB.out)
        replace HC := Lib.hid (HC.out.below hb)
        clear hb
        go_wp2_with fail
        refine (D2.out _ HG.out).mono ?_
        rintro e V ⟨rfl, hb⟩
        have HX := Lib.hid (mbox_new 23 P2 G2 R2' L2 C2 V)
        have hb := hb.trans' (mbox_below 23 P2 G2 R2' L2 C2 V)
        replace HB := Lib.hid (HB.out.trans' hb)
        replace HG := Lib.hid (HG0.out.below HG0.out.lt HB.out)
        replace HC := Lib.hid (HC.out.below hb)
        clear hb
        obtain ⟨x0, x1, x2, x3, x4⟩ := HX.out.cells
        simp only [mbox] at HB HG HC HX x0 x1 x2 x3 x4
        go_wp2_with fail
        clear x0 x1 x2 x3 x4
        generalize V.alloc (.cells #[.int .i64 P2, .int .i64 G2, .int .i64 R2', .int .i64 L2, .int .i64 C2] 23) = V' at *
        clear HX
        refine (HFX.out _ HG.out).mono ?_
        rintro e V ⟨rfl, hb⟩
        replace HB := Lib.hid (HB.out.trans' hb)
        replace HG := Lib.hid (HG0.out.below HG0.out.lt HB.out)
        clear hb
        go_wp2_with fail
        go_ret
        exact ⟨rfl, HB.out⟩
      · have D2 := tDec _ (decV_some (torn_whole (b := rep c S.size) (i := S.size) he (rep_size c S.size) (by omega))) (by rw [hkn] at t2; rw [t2]; unfold maxLen; omega)
        have u87 : ((c.toNat : Int) == 87) = false := by simp; intro h; exact h87 (UInt8.toNat_inj.1 (by have e : (87 : UInt8).toNat = 87 := rfl; omega))
        clear hp hsz hd hm t1 t2 hkl he
        generalize tear S (rep 0 S.size) (S.size : Int) = Z1 at *
        generalize tear S (rep c S.size) (S.size : Int) = Z2 at *
        generalize rep 0 S.size = Y1 at *
        generalize rep c S.size = Y2 at *
        obtain ⟨c0, c1, c2, c3, c4⟩ := HC.out.cells
        go_enter Tryd.func5, Tryd.ntmps5
        go_wp2_with fail
        refine (HE.out _ HG.out).mono ?_
        rintro e V ⟨rfl, hb⟩
        replace HB := Lib.hid (HB.out.trans' hb)
        replace HG := Lib.hid (HG0.out.below HG0.out.lt HB.out)
        replace HC := Lib.hid (HC.out.below hb)
        clear hb
        clear c0 c1 c2 c3 c4
        go_wp2_with fail
        refine (R1.out _ HG.out).mono ?_
        rintro e V ⟨rfl, hb⟩
        replace HB := Lib.hid (HB.out.trans' hb)
        replace HG := Lib.hid (HG0.out.below HG0.out.lt HB.out)
        replace HC := Lib.hid (HC.out.below hb)
        clear hb
        go_wp2_with fail
        refine (T1.out _ HG.out).mono ?_
        rintro e V ⟨rfl, hb⟩
        replace HB := Lib.hid (HB.out.trans' hb)
        replace HG := Lib.hid (HG0.out.below HG0.out.lt HB.out)
        replace HC := Lib.hid (HC.out.below hb)
        clear hb
        go_wp2_with fail
        refine (D1.out _ HG.out).mono ?_
        rintro e V ⟨rfl, hb⟩
        have HX := Lib.hid (mbox_new 23 P G R L C V)
        have hb := hb.trans' (mbox_below 23 P G R L C V)
        replace HB := Lib.hid (HB.out.trans' hb)
        replace HG := Lib.hid (HG0.out.below HG0.out.lt HB.out)
        replace HC := Lib.hid (HC.out.below hb)
        clear hb
        obtain ⟨c0, c1, c2, c3, c4⟩ := HC.out.cells
        obtain ⟨x0, x1, x2, x3, x4⟩ := HX.out.cells
        simp only [mbox] at HB HG HC HX c0 c1 c2 c3 c4 x0 x1 x2 x3 x4
        go_wp2_with fail
        clear c0 c1 c2 c3 c4 x0 x1 x2 x3 x4
        generalize V.alloc (.cells #[.int .i64 P, .int .i64 G, .int .i64 R, .int .i64 L, .int .i64 C] 23) = V' at *
        clear HX
        refine (R2.out _ HG.out).mono ?_
        rintro e V ⟨rfl, hb⟩
        replace HB := Lib.hid (HB.out.trans' hb)
        replace HG := Lib.hid (HG0.out.below HG0.out.lt HB.out)
        replace HC := Lib.hid (HC.out.below hb)
        clear hb
        go_wp2_with fail
        refine (T2.out _ HG.out).mono ?_
        rintro e V ⟨rfl, hb⟩
        replace HB := Lib.hid (HB.out.trans' hb)
        replace HG := Lib.hid (HG0.out.below HG0.out.lt HB.out)
        replace HC := Lib.hid (HC.out.below hb)
        clear hb
        go_wp2_with fail
        refine (D2.out _ HG.out).mono ?_
        rintro e V ⟨rfl, hb⟩
        have HX := Lib.hid (mbox_new 23 P G R L C V)
        have hb := hb.trans' (mbox_below 23 P G R L C V)
        replace HB := Lib.hid (HB.out.trans' hb)
        replace HG := Lib.hid (HG0.out.below HG0.out.lt HB.out)
        replace HC := Lib.hid (HC.out.below hb)
        clear hb
        obtain ⟨x0, x1, x2, x3, x4⟩ := HX.out.cells
        simp only [mbox] at HB HG HC HX x0 x1 x2 x3 x4
        go_wp2_with fail
        clear x0 x1 x2 x3 x4
        generalize V.alloc (.cells #[.int .i64 P, .int .i64 G, .int .i64 R, .int .i64 L, .int .i64 C] 23) = V' at *
        clear HX
        refine (HFX.out _ HG.out).mono ?_
        rintro e V ⟨rfl, hb⟩
        replace HB := Lib.hid (HB.out.trans' hb)
        replace HG := Lib.hid (HG0.out.below HG0.out.lt HB.out)
        clear hb
        go_wp2_with fail
        go_ret
        exact ⟨rfl, HB.out⟩
    · have D1 := tDec _ (decV_none (torn_none (i := k) he (rep_size 0 S.size) (rep_last 0 S.size (by omega)) (by decide) (by omega))) (by rw [t1]; unfold maxLen; omega)
      have ke : ((k : Int) == (S.size : Int)) = false := by simp; omega
      by_cases h87 : c = 87
      · subst h87
        obtain ⟨P2, G2, R2', L2, C2, e2, hv⟩ := decV_form (tear S (rep 87 S.size) k)
        have D2 := tDec _ hv (by rw [t2]; unfold maxLen; omega)
        have u87 : (((87 : UInt8).toNat : Int) == 87) = true := by decide
        clear hp hsz hd hm t1 t2 hkl he
        generalize tear S (rep 0 S.size) (k : Int) = Z1 at *
        generalize tear S (rep 87 S.size) (k : Int) = Z2 at *
        generalize rep 0 S.size = Y1 at *
        generalize rep 87 S.size = Y2 at *
        obtain ⟨c0, c1, c2, c3, c4⟩ := HC.out.cells
        go_enter Tryd.func5, Tryd.ntmps5
        go_wp2_with fail
        refine (HE.out _ HG.out).mono ?_
        rintro e V ⟨rfl, hb⟩
        replace HB := Lib.hid (HB.out.trans' hb)
        replace HG := Lib.hid (HG0.out.below HG0.out.lt HB.out)
        replace HC := Lib.hid (HC.out.below hb)
        clear hb
        clear c0 c1 c2 c3 c4
        go_wp2_with fail
        refine (R1.out _ HG.out).mono ?_
        rintro e V ⟨rfl, hb⟩
        replace HB := Lib.hid (HB.out.trans' hb)
        replace HG := Lib.hid (HG0.out.below HG0.out.lt HB.out)
        replace HC := Lib.hid (HC.out.below hb)
        clear hb
        go_wp2_with fail
        refine (T1.out _ HG.out).mono ?_
        rintro e V ⟨rfl, hb⟩
        replace HB := Lib.hid (HB.out.trans' hb)
        replace HG := Lib.hid (HG0.out.below HG0.out.lt HB.out)
        replace HC := Lib.hid (HC.out.below hb)
        clear hb
        go_wp2_with fail
        refine (D1.out _ HG.out).mono ?_
        rintro e V ⟨rfl, hb⟩
        have HX := Lib.hid (mbox_new 23 0 0 0 0 0 V)
        have hb := hb.trans' (mbox_below 23 0 0 0 0 0 V)
        replace HB := Lib.hid (HB.out.trans' hb)
        replace HG := Lib.hid (HG0.out.below HG0.out.lt HB.out)
        replace HC := Lib.hid (HC.out.below hb)
        clear hb
        obtain ⟨c0, c1, c2, c3, c4⟩ := HC.out.cells
        obtain ⟨x0, x1, x2, x3, x4⟩ := HX.out.cells
        simp only [mbox] at HB HG HC HX c0 c1 c2 c3 c4 x0 x1 x2 x3 x4
        go_wp2_with fail
        clear c0 c1 c2 c3 c4 x0 x1 x2 x3 x4
        generalize V.alloc (.cells #[.int .i64 0, .int .i64 0, .int .i64 0, .int .i64 0, .int .i64 0] 23) = V' at *
        clear HX
        refine (R2.out _ HG.out).mono ?_
        rintro e V ⟨rfl, hb⟩
        replace HB := Lib.hid (HB.out.trans' hb)
        replace HG := Lib.hid (HG0.out.below HG0.out.lt HB.out)
        replace HC := Lib.hid (HC.out.below hb)
        clear hb
        go_wp2_with fail
        refine (T2.out _ HG.out).mono ?_
        rintro e V ⟨rfl, hb⟩
        replace HB := Lib.hid (HB.out.trans' hb)
        replace HG := Lib.hid (HG0.out.below HG0.out.lt HB.out)
        replace HC := Lib.hid (HC.out.below hb)
        clear hb
        go_wp2_with fail
        refine (D2.out _ HG.out).mono ?_
        rintro e V ⟨rfl, hb⟩
        have HX := Lib.hid (mbox_new 23 P2 G2 R2' L2 C2 V)
        have hb := hb.trans' (mbox_below 23 P2 G2 R2' L2 C2 V)
        replace HB := Lib.hid (HB.out.trans' hb)
        replace HG := Lib.hid (HG0.out.below HG0.out.lt HB.out)
        replace HC := Lib.hid (HC.out.below hb)
        clear hb
        obtain ⟨x0, x1, x2, x3, x4⟩ := HX.out.cells
        simp only [mbox] at HB HG HC HX x0 x1 x2 x3 x4
        go_wp2_with fail
        clear x0 x1 x2 x3 x4
        generalize V.alloc (.cells #[.int .i64 P2, .int .i64 G2, .int .i64 R2', .int .i64 L2, .int .i64 C2] 23) = V' at *
        clear HX
        refine (HFX.out _ HG.out).mono ?_
        rintro e V ⟨rfl, hb⟩
        replace HB := Lib.hid (HB.out.trans' hb)
        replace HG := Lib.hid (HG0.out.below HG0.out.lt HB.out)
        clear hb
        go_wp2_with fail
        go_ret
        exact ⟨rfl, HB.out⟩
      · have D2 := tDec _ (decV_none (torn_none (b := rep c S.size) (i := k) he (rep_size c S.size) (rep_last c S.size (by omega)) h87 (by omega))) (by rw [t2]; unfold maxLen; omega)
        have u87 : ((c.toNat : Int) == 87) = false := by simp; intro h; exact h87 (UInt8.toNat_inj.1 (by have e : (87 : UInt8).toNat = 87 := rfl; omega))
        clear hp hsz hd hm t1 t2 hkl he
        generalize tear S (rep 0 S.size) (k : Int) = Z1 at *
        generalize tear S (rep c S.size) (k : Int) = Z2 at *
        generalize rep 0 S.size = Y1 at *
        generalize rep c S.size = Y2 at *
        obtain ⟨c0, c1, c2, c3, c4⟩ := HC.out.cells
        go_enter Tryd.func5, Tryd.ntmps5
        go_wp2_with fail
        refine (HE.out _ HG.out).mono ?_
        rintro e V ⟨rfl, hb⟩
        replace HB := Lib.hid (HB.out.trans' hb)
        replace HG := Lib.hid (HG0.out.below HG0.out.lt HB.out)
        replace HC := Lib.hid (HC.out.below hb)
        clear hb
        clear c0 c1 c2 c3 c4
        go_wp2_with fail
        refine (R1.out _ HG.out).mono ?_
        rintro e V ⟨rfl, hb⟩
        replace HB := Lib.hid (HB.out.trans' hb)
        replace HG := Lib.hid (HG0.out.below HG0.out.lt HB.out)
        replace HC := Lib.hid (HC.out.below hb)
        clear hb
        go_wp2_with fail
        refine (T1.out _ HG.out).mono ?_
        rintro e V ⟨rfl, hb⟩
        replace HB := Lib.hid (HB.out.trans' hb)
        replace HG := Lib.hid (HG0.out.below HG0.out.lt HB.out)
        replace HC := Lib.hid (HC.out.below hb)
        clear hb
        go_wp2_with fail
        refine (D1.out _ HG.out).mono ?_
        rintro e V ⟨rfl, hb⟩
        have HX := Lib.hid (mbox_new 23 0 0 0 0 0 V)
        have hb := hb.trans' (mbox_below 23 0 0 0 0 0 V)
        replace HB := Lib.hid (HB.out.trans' hb)
        replace HG := Lib.hid (HG0.out.below HG0.out.lt HB.out)
        replace HC := Lib.hid (HC.out.below hb)
        clear hb
        obtain ⟨c0, c1, c2, c3, c4⟩ := HC.out.cells
        obtain ⟨x0, x1, x2, x3, x4⟩ := HX.out.cells
        simp only [mbox] at HB HG HC HX c0 c1 c2 c3 c4 x0 x1 x2 x3 x4
        go_wp2_with fail
        clear c0 c1 c2 c3 c4 x0 x1 x2 x3 x4
        generalize V.alloc (.cells #[.int .i64 0, .int .i64 0, .int .i64 0, .int .i64 0, .int .i64 0] 23) = V' at *
        clear HX
        refine (R2.out _ HG.out).mono ?_
        rintro e V ⟨rfl, hb⟩
        replace HB := Lib.hid (HB.out.trans' hb)
        replace HG := Lib.hid (HG0.out.below HG0.out.lt HB.out)
        replace HC := Lib.hid (HC.out.below hb)
        clear hb
        go_wp2_with fail
        refine (T2.out _ HG.out).mono ?_
        rintro e V ⟨rfl, hb⟩
        replace HB := Lib.hid (HB.out.trans' hb)
        replace HG := Lib.hid (HG0.out.below HG0.out.lt HB.out)
        replace HC := Lib.hid (HC.out.below hb)
        clear hb
        go_wp2_with fail
        refine (D2.out _ HG.out).mono ?_
        rintro e V ⟨rfl, hb⟩
        have HX := Lib.hid (mbox_new 23 0 0 0 0 0 V)
        have hb := hb.trans' (mbox_below 23 0 0 0 0 0 V)
        replace HB := Lib.hid (HB.out.trans' hb)
        replace HG := Lib.hid (HG0.out.below HG0.out.lt HB.out)
        replace HC := Lib.hid (HC.out.below hb)
        clear hb
        obtain ⟨x0, x1, x2, x3, x4⟩ := HX.out.cells
        simp only [mbox] at HB HG HC HX x0 x1 x2 x3 x4
        go_wp2_with fail
        clear x0 x1 x2 x3 x4
        generalize V.alloc (.cells #[.int .i64 0, .int .i64 0, .int .i64 0, .int .i64 0, .int .i64 0] 23) = V' at *
        clear HX
        refine (HFX.out _ HG.out).mono ?_
        rintro e V ⟨rfl, hb⟩
        replace HB := Lib.hid (HB.out.trans' hb)
        replace HG := Lib.hid (HG0.out.below HG0.out.lt HB.out)
        clear hb
        go_wp2_with fail
        go_ret
        exact ⟨rfl, HB.out⟩
  · have HE := tEnc P G R L C (enc_form hm)
    have HM := tMay P G R L C (decide_eq_false hm)
    clear hm
    obtain ⟨c0, c1, c2, c3, c4⟩ := HC.out.cells
    go_enter Tryd.func5, Tryd.ntmps5
    go_wp2_with fail
    refine (HE.out _ HG.out).mono ?_
    rintro e V ⟨rfl, hb⟩
    replace HB := Lib.hid (HB.out.trans' hb)
    replace HG := Lib.hid (HG0.out.below HG0.out.lt HB.out)
    replace HC := Lib.hid (HC.out.below hb)
    clear hb
    clear c0 c1 c2 c3 c4
    obtain ⟨c0, c1, c2, c3, c4⟩ := HC.out.cells
    go_wp2_with fail
    refine (HM.out _ HG.out).mono ?_
    rintro e V ⟨rfl, hb⟩
    replace HB := Lib.hid (HB.out.trans' hb)
    replace HG := Lib.hid (HG0.out.below HG0.out.lt HB.out)
    clear hb
    clear c0 c1 c2 c3 c4
    go_wp2_with fail
    refine (HFX.out _ HG.out).mono ?_
    rintro e V ⟨rfl, hb⟩
    replace HB := Lib.hid (HB.out.trans' hb)
    replace HG := Lib.hid (HG0.out.below HG0.out.lt HB.out)
    clear hb
    go_wp2_with fail
    go_ret
    exact ⟨rfl, HB.out⟩
theorem metaTorn_walk (P G R L C a c : Int) (w : World) (hg : L7.Sizes w) (h0 : (Lit.int .i64 P).wf = true) (h1 : (Lit.int .i64 G).wf = true) (h2 : (Lit.int .i64 R).wf = true) (h3 : (Lit.int .i64 L).wf = true) (h4 : (Lit.int .i64 C).wf = true) (ha : (Lit.int .u16 a).wf = true) (hc : (Lit.int .u8 c).wf = true) :
    Calls Tryd.prog 5 #[mv P G R L C, .int .u16 a, .int .u8 c] w fun e w' => e = .returned (.bool true) ∧ Below w.heap.size w w' := by
  have ha2 : 0 ≤ a ∧ a ≤ 65535 := by simp [Lit.wf, IntKind.min, IntKind.max, IntKind.signed, IntKind.bits] at ha; omega
  have hc2 : 0 ≤ c ∧ c ≤ 255 := by simp [Lit.wf, IntKind.min, IntKind.max, IntKind.signed, IntKind.bits] at hc; omega
  have hc3 : c = ((UInt8.ofNat c.toNat).toNat : Int) := by
    have : (UInt8.ofNat c.toNat).toNat = c.toNat := by simp; omega
    omega
  rw [hc3]
  exact metaTorn_any fixed_any P G R L C a _ w hg ha2
end Go.Proofs.YtnjmkljnjngpkaaDoor
