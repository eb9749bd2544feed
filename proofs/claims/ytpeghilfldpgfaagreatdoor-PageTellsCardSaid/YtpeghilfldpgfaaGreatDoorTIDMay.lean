import Derived.Test.YtpeghilfldpgfaaGreatDoorT12
set_option linter.unusedVariables false
set_option linter.unusedSimpArgs false
set_option maxHeartbeats 8000000
set_option maxRecDepth 100000
namespace Go.Proofs.YtpeghilfldpgfaaGreatDoor.L11
open Go.RowKit IP
def StepOk (R : Int) (H : ByteArray) (ss : List ByteArray) (p : Int) (j : Nat) : Prop := ∀ s, ss[j]? = some s → SepOk p s ∧ (∀ t, 0 < j → ss[j - 1]? = some t → L5.B t < L5.B s) ∧ (R ≠ 0 → L5.B s < L5.B H)
theorem steps_all {R : Int} {H : ByteArray} {ss : List ByteArray} {p : Int} : (∀ j, j < ss.length → StepOk R H ss p j) ↔ Rise ss ∧ (∀ s ∈ ss, SepOk p s) ∧ (R ≠ 0 → ∀ s ∈ ss, L5.B s < L5.B H) := by
 constructor
 ·intro h
  refine ⟨rise_steps fun i x y hx hy => ?_, fun s hs => ?_, fun hR s hs => ?_⟩
  ·exact (h (i + 1) (List.getElem?_eq_some_iff.1 hy).1 y hy).2.1 x (by omega) (by simpa using hx)
  ·obtain ⟨i, hi, rfl⟩ := List.getElem_of_mem hs
   exact (h i hi _ (List.getElem?_eq_getElem hi)).1
  ·obtain ⟨i, hi, rfl⟩ := List.getElem_of_mem hs
   exact (h i hi _ (List.getElem?_eq_getElem hi)).2.2 hR
 ·rintro ⟨h1, h2, h3⟩ j hj s hs
  exact ⟨h2 s (List.mem_of_getElem? hs), fun t h0 ht => rise_get h1 ht hs (by omega), fun hR => h3 hR s (List.mem_of_getElem? hs)⟩
theorem may_steps {F L R : Int} {H : ByteArray} {ks : List Int} {ss : List ByteArray} {p : Int} (h1 : L7.mayBe p = true) (h2 : NumOk' F L R) (h3 : ks.length = ss.length + 1) (h4 : (R = 0 → H.size = 0) ∧ (R ≠ 0 → H.size ≠ 0 ∧ (H.size : Int) ≤ p / 8)) : May ⟨F, L, R, H, ks, ss⟩ p ↔ (∀ k ∈ ks, KidOk k) ∧ ∀ j, j < ss.length → StepOk R H ss p j := by
 rw [may_parts, steps_all]; constructor
 ·rintro ⟨_, _, ⟨_, g1⟩, ⟨_, g2⟩, g3, g4⟩
  exact ⟨g1, g3, g4, fun hR => (g2 hR).2.2⟩
 ·rintro ⟨g1, g3, g4, g5⟩
  exact ⟨h1, h2, ⟨h3, g1⟩, ⟨h4.1, fun hR => ⟨(h4.2 hR).1, (h4.2 hR).2, g5 hR⟩⟩, g3, g4⟩
theorem addr_pos (a : Addr) (i : Nat) : a.add (i + 1) = ⟨a.block, a.off + (i + 1), none⟩ := by unfold Addr.add; simp
theorem empty_of (H : ByteArray) : (H.toList == (⟨#[]⟩ : ByteArray).toList) = decide (H.size = 0) ∧ (H.toList == []) = decide (H.size = 0) ∧ H.toList.isEmpty = decide (H.size = 0) := by
 rw [Lib.toList_data ⟨#[]⟩, Lib.toList_data]
 have h : H.data.toList.length = H.size := by simp
 by_cases h0 : H.size = 0
 ·have e : H.data.toList = [] := List.eq_nil_of_length_eq_zero (by omega)
  rw [dT h0, e]; exact ⟨rfl, rfl, rfl⟩
 ·rw [dF h0]
  cases e : H.data.toList with
  | nil => rw [e] at h; exact absurd h.symm h0
  | cons c l => exact ⟨rfl, rfl, rfl⟩
theorem rmay_size (F L R : Int) (H : ByteArray) (A : Option Addr) (n ca : Nat) (C : Option Addr) (m cb : Nat) (ks : List Int) (ss : List ByteArray) (p : Int) (w : World) (hn : n ≤ 1000000) (hm : m ≤ 1000000) (hh : H.size ≤ 1000000) (hp : L7.mayBe p = false)  :
  Calls Tryz.prog 142 #[nv F L R H A n ca C m cb, .int .i64 p] w fun e w' => e = .returned (.bool false) ∧ Below w.heap.size w w' := by
 have HB := zj (nbox_below 42 F L R H A n ca C m cb w); have HK := zj (nbox_new 42 F L R H A n ca C m cb w); have HSR : Hid (∀ W, Calls Tryz.prog 130 #[.int .i64 p] W fun e w' => e = .returned (.bool (L7.mayBe p)) ∧ W = w') := zj (fun W => L7.sizeRef_any p W); rw [hp] at HSR; obtain ⟨c0, c1, c2, c3, c4, c5⟩ := HK.out.cells; go_enter Tryz.func142, Tryz.ntmps142; go_wp2_with fail; refine (HSR.out _).mono ?_; rintro e w2 ⟨rfl, rfl⟩; go_wp2_with fail
 all_goals (first | (go_ret; exact ⟨rfl, HB.out⟩) | (rename_i e1 e2; exact absurd (Option.some.inj e1) (by simp [undef])) | (rename_i e1; exact absurd (Option.some.inj e1) (by simp [undef])))
theorem rmay_f1 (F L R : Int) (H : ByteArray) (A : Option Addr) (n ca : Nat) (C : Option Addr) (m cb : Nat) (ks : List Int) (ss : List ByteArray) (p : Int) (w : World) (hn : n ≤ 1000000) (hm : m ≤ 1000000) (hh : H.size ≤ 1000000) (hp : L7.mayBe p = true) (hg : (F < 1)) :
  Calls Tryz.prog 142 #[nv F L R H A n ca C m cb, .int .i64 p] w fun e w' => e = .returned (.bool false) ∧ Below w.heap.size w w' := by
 have HB := zj (nbox_below 42 F L R H A n ca C m cb w); have HK := zj (nbox_new 42 F L R H A n ca C m cb w); have HSR : Hid (∀ W, Calls Tryz.prog 130 #[.int .i64 p] W fun e w' => e = .returned (.bool (L7.mayBe p)) ∧ W = w') := zj (fun W => L7.sizeRef_any p W); rw [hp] at HSR; have f1' : decide (F < 1) = true := dT (by omega); clear hg hp; obtain ⟨c0, c1, c2, c3, c4, c5⟩ := HK.out.cells; go_enter Tryz.func142, Tryz.ntmps142; go_wp2_with fail; refine (HSR.out _).mono ?_; rintro e w2 ⟨rfl, rfl⟩; go_wp2_with fail
 all_goals (first | (go_ret; exact ⟨rfl, HB.out⟩) | (rename_i e1 e2; exact absurd (Option.some.inj e1) (by simp [undef])) | (rename_i e1; exact absurd (Option.some.inj e1) (by simp [undef])))
theorem rmay_f2 (F L R : Int) (H : ByteArray) (A : Option Addr) (n ca : Nat) (C : Option Addr) (m cb : Nat) (ks : List Int) (ss : List ByteArray) (p : Int) (w : World) (hn : n ≤ 1000000) (hm : m ≤ 1000000) (hh : H.size ≤ 1000000) (hp : L7.mayBe p = true) (hg : ¬ (F < 1) ∧ (4095 < F)) :
  Calls Tryz.prog 142 #[nv F L R H A n ca C m cb, .int .i64 p] w fun e w' => e = .returned (.bool false) ∧ Below w.heap.size w w' := by
 have HB := zj (nbox_below 42 F L R H A n ca C m cb w); have HK := zj (nbox_new 42 F L R H A n ca C m cb w); have HSR : Hid (∀ W, Calls Tryz.prog 130 #[.int .i64 p] W fun e w' => e = .returned (.bool (L7.mayBe p)) ∧ W = w') := zj (fun W => L7.sizeRef_any p W); rw [hp] at HSR; have f1' : decide (F < 1) = false := dF (by omega); have f2' : decide (4095 < F) = true := dT (by omega); clear hg hp; obtain ⟨c0, c1, c2, c3, c4, c5⟩ := HK.out.cells; go_enter Tryz.func142, Tryz.ntmps142; go_wp2_with fail; refine (HSR.out _).mono ?_; rintro e w2 ⟨rfl, rfl⟩; go_wp2_with fail
 all_goals (first | (go_ret; exact ⟨rfl, HB.out⟩) | (rename_i e1 e2; exact absurd (Option.some.inj e1) (by simp [undef])) | (rename_i e1; exact absurd (Option.some.inj e1) (by simp [undef])))
theorem rmay_l1 (F L R : Int) (H : ByteArray) (A : Option Addr) (n ca : Nat) (C : Option Addr) (m cb : Nat) (ks : List Int) (ss : List ByteArray) (p : Int) (w : World) (hn : n ≤ 1000000) (hm : m ≤ 1000000) (hh : H.size ≤ 1000000) (hp : L7.mayBe p = true) (hg : ¬ (F < 1) ∧ ¬ (4095 < F) ∧ (L < 1)) :
  Calls Tryz.prog 142 #[nv F L R H A n ca C m cb, .int .i64 p] w fun e w' => e = .returned (.bool false) ∧ Below w.heap.size w w' := by
 have HB := zj (nbox_below 42 F L R H A n ca C m cb w); have HK := zj (nbox_new 42 F L R H A n ca C m cb w); have HSR : Hid (∀ W, Calls Tryz.prog 130 #[.int .i64 p] W fun e w' => e = .returned (.bool (L7.mayBe p)) ∧ W = w') := zj (fun W => L7.sizeRef_any p W); rw [hp] at HSR; have f1' : decide (F < 1) = false := dF (by omega); have f2' : decide (4095 < F) = false := dF (by omega); have l1' : decide (L < 1) = true := dT (by omega); clear hg hp; obtain ⟨c0, c1, c2, c3, c4, c5⟩ := HK.out.cells; go_enter Tryz.func142, Tryz.ntmps142; go_wp2_with fail; refine (HSR.out _).mono ?_; rintro e w2 ⟨rfl, rfl⟩; go_wp2_with fail
 all_goals (first | (go_ret; exact ⟨rfl, HB.out⟩) | (rename_i e1 e2; exact absurd (Option.some.inj e1) (by simp [undef])) | (rename_i e1; exact absurd (Option.some.inj e1) (by simp [undef])))
theorem rmay_l2 (F L R : Int) (H : ByteArray) (A : Option Addr) (n ca : Nat) (C : Option Addr) (m cb : Nat) (ks : List Int) (ss : List ByteArray) (p : Int) (w : World) (hn : n ≤ 1000000) (hm : m ≤ 1000000) (hh : H.size ≤ 1000000) (hp : L7.mayBe p = true) (hg : ¬ (F < 1) ∧ ¬ (4095 < F) ∧ ¬ (L < 1) ∧ (255 < L)) :
  Calls Tryz.prog 142 #[nv F L R H A n ca C m cb, .int .i64 p] w fun e w' => e = .returned (.bool false) ∧ Below w.heap.size w w' := by
 have HB := zj (nbox_below 42 F L R H A n ca C m cb w); have HK := zj (nbox_new 42 F L R H A n ca C m cb w); have HSR : Hid (∀ W, Calls Tryz.prog 130 #[.int .i64 p] W fun e w' => e = .returned (.bool (L7.mayBe p)) ∧ W = w') := zj (fun W => L7.sizeRef_any p W); rw [hp] at HSR; have f1' : decide (F < 1) = false := dF (by omega); have f2' : decide (4095 < F) = false := dF (by omega); have l1' : decide (L < 1) = false := dF (by omega); have l2' : decide (255 < L) = true := dT (by omega); clear hg hp; obtain ⟨c0, c1, c2, c3, c4, c5⟩ := HK.out.cells; go_enter Tryz.func142, Tryz.ntmps142; go_wp2_with fail; refine (HSR.out _).mono ?_; rintro e w2 ⟨rfl, rfl⟩; go_wp2_with fail
 all_goals (first | (go_ret; exact ⟨rfl, HB.out⟩) | (rename_i e1 e2; exact absurd (Option.some.inj e1) (by simp [undef])) | (rename_i e1; exact absurd (Option.some.inj e1) (by simp [undef])))
theorem rmay_r1 (F L R : Int) (H : ByteArray) (A : Option Addr) (n ca : Nat) (C : Option Addr) (m cb : Nat) (ks : List Int) (ss : List ByteArray) (p : Int) (w : World) (hn : n ≤ 1000000) (hm : m ≤ 1000000) (hh : H.size ≤ 1000000) (hp : L7.mayBe p = true) (hg : ¬ (F < 1) ∧ ¬ (4095 < F) ∧ ¬ (L < 1) ∧ ¬ (255 < L) ∧ (R < 0)) :
  Calls Tryz.prog 142 #[nv F L R H A n ca C m cb, .int .i64 p] w fun e w' => e = .returned (.bool false) ∧ Below w.heap.size w w' := by
 have HB := zj (nbox_below 42 F L R H A n ca C m cb w); have HK := zj (nbox_new 42 F L R H A n ca C m cb w); have HSR : Hid (∀ W, Calls Tryz.prog 130 #[.int .i64 p] W fun e w' => e = .returned (.bool (L7.mayBe p)) ∧ W = w') := zj (fun W => L7.sizeRef_any p W); rw [hp] at HSR; have f1' : decide (F < 1) = false := dF (by omega); have f2' : decide (4095 < F) = false := dF (by omega); have l1' : decide (L < 1) = false := dF (by omega); have l2' : decide (255 < L) = false := dF (by omega); have r1' : decide (R < 0) = true := dT (by omega); clear hg hp; obtain ⟨c0, c1, c2, c3, c4, c5⟩ := HK.out.cells; go_enter Tryz.func142, Tryz.ntmps142; go_wp2_with fail; refine (HSR.out _).mono ?_; rintro e w2 ⟨rfl, rfl⟩; go_wp2_with fail
 all_goals (first | (go_ret; exact ⟨rfl, HB.out⟩) | (rename_i e1 e2; exact absurd (Option.some.inj e1) (by simp [undef])) | (rename_i e1; exact absurd (Option.some.inj e1) (by simp [undef])))
theorem rmay_r2 (F L R : Int) (H : ByteArray) (A : Option Addr) (n ca : Nat) (C : Option Addr) (m cb : Nat) (ks : List Int) (ss : List ByteArray) (p : Int) (w : World) (hn : n ≤ 1000000) (hm : m ≤ 1000000) (hh : H.size ≤ 1000000) (hp : L7.mayBe p = true) (hg : ¬ (F < 1) ∧ ¬ (4095 < F) ∧ ¬ (L < 1) ∧ ¬ (255 < L) ∧ ¬ (R < 0) ∧ (4095 < R)) :
  Calls Tryz.prog 142 #[nv F L R H A n ca C m cb, .int .i64 p] w fun e w' => e = .returned (.bool false) ∧ Below w.heap.size w w' := by
 have HB := zj (nbox_below 42 F L R H A n ca C m cb w); have HK := zj (nbox_new 42 F L R H A n ca C m cb w); have HSR : Hid (∀ W, Calls Tryz.prog 130 #[.int .i64 p] W fun e w' => e = .returned (.bool (L7.mayBe p)) ∧ W = w') := zj (fun W => L7.sizeRef_any p W); rw [hp] at HSR; have f1' : decide (F < 1) = false := dF (by omega); have f2' : decide (4095 < F) = false := dF (by omega); have l1' : decide (L < 1) = false := dF (by omega); have l2' : decide (255 < L) = false := dF (by omega); have r1' : decide (R < 0) = false := dF (by omega); have r2' : decide (4095 < R) = true := dT (by omega); clear hg hp; obtain ⟨c0, c1, c2, c3, c4, c5⟩ := HK.out.cells; go_enter Tryz.func142, Tryz.ntmps142; go_wp2_with fail; refine (HSR.out _).mono ?_; rintro e w2 ⟨rfl, rfl⟩; go_wp2_with fail
 all_goals (first | (go_ret; exact ⟨rfl, HB.out⟩) | (rename_i e1 e2; exact absurd (Option.some.inj e1) (by simp [undef])) | (rename_i e1; exact absurd (Option.some.inj e1) (by simp [undef])))
theorem rmay_self (F L R : Int) (H : ByteArray) (A : Option Addr) (n ca : Nat) (C : Option Addr) (m cb : Nat) (ks : List Int) (ss : List ByteArray) (p : Int) (w : World) (hn : n ≤ 1000000) (hm : m ≤ 1000000) (hh : H.size ≤ 1000000) (hp : L7.mayBe p = true) (hg : ¬ (F < 1) ∧ ¬ (4095 < F) ∧ ¬ (L < 1) ∧ ¬ (255 < L) ∧ ¬ (R < 0) ∧ ¬ (4095 < R) ∧ R = F) :
  Calls Tryz.prog 142 #[nv F L R H A n ca C m cb, .int .i64 p] w fun e w' => e = .returned (.bool false) ∧ Below w.heap.size w w' := by
 have HB := zj (nbox_below 42 F L R H A n ca C m cb w); have HK := zj (nbox_new 42 F L R H A n ca C m cb w); have HSR : Hid (∀ W, Calls Tryz.prog 130 #[.int .i64 p] W fun e w' => e = .returned (.bool (L7.mayBe p)) ∧ W = w') := zj (fun W => L7.sizeRef_any p W); rw [hp] at HSR; have f1' : decide (F < 1) = false := dF (by omega); have f2' : decide (4095 < F) = false := dF (by omega); have l1' : decide (L < 1) = false := dF (by omega); have l2' : decide (255 < L) = false := dF (by omega); have r1' : decide (R < 0) = false := dF (by omega); have r2' : decide (4095 < R) = false := dF (by omega)
 have he : (R == F) = true := by simp [hg.2.2.2.2.2.2]
 clear hg hp; obtain ⟨c0, c1, c2, c3, c4, c5⟩ := HK.out.cells; go_enter Tryz.func142, Tryz.ntmps142; go_wp2_with fail; refine (HSR.out _).mono ?_; rintro e w2 ⟨rfl, rfl⟩; go_wp2_with fail
 all_goals (first | (go_ret; exact ⟨rfl, HB.out⟩) | (rename_i e1 e2; exact absurd (Option.some.inj e1) (by simp [undef])) | (rename_i e1; exact absurd (Option.some.inj e1) (by simp [undef])))
theorem rmay_len (F L R : Int) (H : ByteArray) (A : Option Addr) (n ca : Nat) (C : Option Addr) (m cb : Nat) (ks : List Int) (ss : List ByteArray) (p : Int) (w : World) (hn : n ≤ 1000000) (hm : m ≤ 1000000) (hh : H.size ≤ 1000000) (hp : L7.mayBe p = true) (hg : ¬ (F < 1) ∧ ¬ (4095 < F) ∧ ¬ (L < 1) ∧ ¬ (255 < L) ∧ ¬ (R < 0) ∧ ¬ (4095 < R) ∧ R ≠ F ∧ n ≠ m + 1) :
  Calls Tryz.prog 142 #[nv F L R H A n ca C m cb, .int .i64 p] w fun e w' => e = .returned (.bool false) ∧ Below w.heap.size w w' := by
 have HB := zj (nbox_below 42 F L R H A n ca C m cb w); have HK := zj (nbox_new 42 F L R H A n ca C m cb w); have HSR : Hid (∀ W, Calls Tryz.prog 130 #[.int .i64 p] W fun e w' => e = .returned (.bool (L7.mayBe p)) ∧ W = w') := zj (fun W => L7.sizeRef_any p W); rw [hp] at HSR; have f1' : decide (F < 1) = false := dF (by omega); have f2' : decide (4095 < F) = false := dF (by omega); have l1' : decide (L < 1) = false := dF (by omega); have l2' : decide (255 < L) = false := dF (by omega); have r1' : decide (R < 0) = false := dF (by omega); have r2' : decide (4095 < R) = false := dF (by omega); have hw : IntKind.i64.wrap ((m : Int) + 1) = (m : Int) + 1 := IntWalk.i64_in _ (by omega); have he : (R == F) = false := beq_eq_false_iff_ne.2 (by omega)
 have hq : ((n : Int) != (m : Int) + 1) = true := by simp; omega
 clear hg hp; obtain ⟨c0, c1, c2, c3, c4, c5⟩ := HK.out.cells; go_enter Tryz.func142, Tryz.ntmps142; go_wp2_with fail; refine (HSR.out _).mono ?_; rintro e w2 ⟨rfl, rfl⟩; go_wp2_with fail
 all_goals (first | (go_ret; exact ⟨rfl, HB.out⟩) | (rename_i e1 e2; exact absurd (Option.some.inj e1) (by simp [undef])) | (rename_i e1; exact absurd (Option.some.inj e1) (by simp [undef])))
theorem rmay_long (F L R : Int) (H : ByteArray) (A : Option Addr) (n ca : Nat) (C : Option Addr) (m cb : Nat) (ks : List Int) (ss : List ByteArray) (p : Int) (w : World) (hn : n ≤ 1000000) (hm : m ≤ 1000000) (hh : H.size ≤ 1000000) (hp : L7.mayBe p = true) (hg : (¬ (F < 1) ∧ ¬ (4095 < F) ∧ ¬ (L < 1) ∧ ¬ (255 < L) ∧ ¬ (R < 0) ∧ ¬ (4095 < R) ∧ R ≠ F ∧ n = m + 1)) (hx : p / 8 < (H.size : Int)) :
  Calls Tryz.prog 142 #[nv F L R H A n ca C m cb, .int .i64 p] w fun e w' => e = .returned (.bool false) ∧ Below w.heap.size w w' := by
 have HB := zj (nbox_below 42 F L R H A n ca C m cb w); have HK := zj (nbox_new 42 F L R H A n ca C m cb w); have HSR : Hid (∀ W, Calls Tryz.prog 130 #[.int .i64 p] W fun e w' => e = .returned (.bool (L7.mayBe p)) ∧ W = w') := zj (fun W => L7.sizeRef_any p W); rw [hp] at HSR; obtain ⟨q, rfl⟩ : ∃ q : Nat, p = q := Int.eq_ofNat_of_zero_le (by have := mayBe_le hp; omega); have f1' : decide (F < 1) = false := dF (by omega); have f2' : decide (4095 < F) = false := dF (by omega); have l1' : decide (L < 1) = false := dF (by omega); have l2' : decide (255 < L) = false := dF (by omega); have r1' : decide (R < 0) = false := dF (by omega); have r2' : decide (4095 < R) = false := dF (by omega); have hw : IntKind.i64.wrap ((m : Int) + 1) = (m : Int) + 1 := IntWalk.i64_in _ (by omega); have he : (R == F) = false := beq_eq_false_iff_ne.2 (by omega)
 have hq : ((n : Int) != (m : Int) + 1) = false := by simp; omega
 have hp' := mayBe_le hp; have hw8 : IntKind.i64.wrap ((q : Int) / 8) = (q : Int) / 8 := IntWalk.i64_in _ (by omega); have x1 : decide ((q : Int) / 8 < (H.size : Int)) = true := dT (by omega); have x2 : decide (q / 8 < H.size) = true := dT (by omega); clear hg hp hp' hx hh; obtain ⟨c0, c1, c2, c3, c4, c5⟩ := HK.out.cells; go_enter Tryz.func142, Tryz.ntmps142; go_wp2_with fail; refine (HSR.out _).mono ?_; rintro e w2 ⟨rfl, rfl⟩; go_wp2_with fail
 all_goals (first | (go_ret; exact ⟨rfl, HB.out⟩) | (rename_i e1 e2; exact absurd (Option.some.inj e1) (by simp [undef])) | (rename_i e1; exact absurd (Option.some.inj e1) (by simp [undef])))
theorem rmay_zero (F L R : Int) (H : ByteArray) (A : Option Addr) (n ca : Nat) (C : Option Addr) (m cb : Nat) (ks : List Int) (ss : List ByteArray) (p : Int) (w : World) (hn : n ≤ 1000000) (hm : m ≤ 1000000) (hh : H.size ≤ 1000000) (hp : L7.mayBe p = true) (hg : (¬ (F < 1) ∧ ¬ (4095 < F) ∧ ¬ (L < 1) ∧ ¬ (255 < L) ∧ ¬ (R < 0) ∧ ¬ (4095 < R) ∧ R ≠ F ∧ n = m + 1)) (hx : ¬ p / 8 < (H.size : Int)) (hR : R = 0) (hz : H.size ≠ 0) :
  Calls Tryz.prog 142 #[nv F L R H A n ca C m cb, .int .i64 p] w fun e w' => e = .returned (.bool false) ∧ Below w.heap.size w w' := by
 have HB := zj (nbox_below 42 F L R H A n ca C m cb w); have HK := zj (nbox_new 42 F L R H A n ca C m cb w); have HSR : Hid (∀ W, Calls Tryz.prog 130 #[.int .i64 p] W fun e w' => e = .returned (.bool (L7.mayBe p)) ∧ W = w') := zj (fun W => L7.sizeRef_any p W); rw [hp] at HSR; obtain ⟨q, rfl⟩ : ∃ q : Nat, p = q := Int.eq_ofNat_of_zero_le (by have := mayBe_le hp; omega); have f1' : decide (F < 1) = false := dF (by omega); have f2' : decide (4095 < F) = false := dF (by omega); have l1' : decide (L < 1) = false := dF (by omega); have l2' : decide (255 < L) = false := dF (by omega); have r1' : decide (R < 0) = false := dF (by omega); have r2' : decide (4095 < R) = false := dF (by omega); have hw : IntKind.i64.wrap ((m : Int) + 1) = (m : Int) + 1 := IntWalk.i64_in _ (by omega); have he : (R == F) = false := beq_eq_false_iff_ne.2 (by omega)
 have hq : ((n : Int) != (m : Int) + 1) = false := by simp; omega
 have hp' := mayBe_le hp; have hw8 : IntKind.i64.wrap ((q : Int) / 8) = (q : Int) / 8 := IntWalk.i64_in _ (by omega); have x1 : decide ((q : Int) / 8 < (H.size : Int)) = false := dF (by omega); have x2 : decide (q / 8 < H.size) = false := dF (by omega); obtain ⟨e1, e2, e3⟩ := empty_of H; rw [dF hz] at e1 e2 e3
 have z1 : (R == 0) = true := by simp [hR]
 clear hg hp hp' hx hR hz hh; obtain ⟨c0, c1, c2, c3, c4, c5⟩ := HK.out.cells; go_enter Tryz.func142, Tryz.ntmps142; go_wp2_with fail; refine (HSR.out _).mono ?_; rintro e w2 ⟨rfl, rfl⟩; go_wp2_with fail
 all_goals (first | (go_ret; exact ⟨rfl, HB.out⟩) | (rename_i e1 e2; exact absurd (Option.some.inj e1) (by simp [undef])) | (rename_i e1; exact absurd (Option.some.inj e1) (by simp [undef])))
theorem rmay_none (F L R : Int) (H : ByteArray) (A : Option Addr) (n ca : Nat) (C : Option Addr) (m cb : Nat) (ks : List Int) (ss : List ByteArray) (p : Int) (w : World) (hn : n ≤ 1000000) (hm : m ≤ 1000000) (hh : H.size ≤ 1000000) (hp : L7.mayBe p = true) (hg : (¬ (F < 1) ∧ ¬ (4095 < F) ∧ ¬ (L < 1) ∧ ¬ (255 < L) ∧ ¬ (R < 0) ∧ ¬ (4095 < R) ∧ R ≠ F ∧ n = m + 1)) (hx : ¬ p / 8 < (H.size : Int)) (hR : R ≠ 0) (hz : H.size = 0) :
  Calls Tryz.prog 142 #[nv F L R H A n ca C m cb, .int .i64 p] w fun e w' => e = .returned (.bool false) ∧ Below w.heap.size w w' := by
 have HB := zj (nbox_below 42 F L R H A n ca C m cb w); have HK := zj (nbox_new 42 F L R H A n ca C m cb w); have HSR : Hid (∀ W, Calls Tryz.prog 130 #[.int .i64 p] W fun e w' => e = .returned (.bool (L7.mayBe p)) ∧ W = w') := zj (fun W => L7.sizeRef_any p W); rw [hp] at HSR; obtain ⟨q, rfl⟩ : ∃ q : Nat, p = q := Int.eq_ofNat_of_zero_le (by have := mayBe_le hp; omega); have f1' : decide (F < 1) = false := dF (by omega); have f2' : decide (4095 < F) = false := dF (by omega); have l1' : decide (L < 1) = false := dF (by omega); have l2' : decide (255 < L) = false := dF (by omega); have r1' : decide (R < 0) = false := dF (by omega); have r2' : decide (4095 < R) = false := dF (by omega); have hw : IntKind.i64.wrap ((m : Int) + 1) = (m : Int) + 1 := IntWalk.i64_in _ (by omega); have he : (R == F) = false := beq_eq_false_iff_ne.2 (by omega)
 have hq : ((n : Int) != (m : Int) + 1) = false := by simp; omega
 have hp' := mayBe_le hp; have hw8 : IntKind.i64.wrap ((q : Int) / 8) = (q : Int) / 8 := IntWalk.i64_in _ (by omega); have x1 : decide ((q : Int) / 8 < (H.size : Int)) = false := dF (by omega); have x2 : decide (q / 8 < H.size) = false := dF (by omega); obtain ⟨e1, e2, e3⟩ := empty_of H; rw [dT hz] at e1 e2 e3; have z1 : (R == 0) = false := beq_eq_false_iff_ne.2 hR; have z2 : decide (0 < R) = true := dT (by omega); clear hg hp hp' hx hR hz hh; obtain ⟨c0, c1, c2, c3, c4, c5⟩ := HK.out.cells; go_enter Tryz.func142, Tryz.ntmps142; go_wp2_with fail; refine (HSR.out _).mono ?_; rintro e w2 ⟨rfl, rfl⟩; go_wp2_with fail
 all_goals (first | (go_ret; exact ⟨rfl, HB.out⟩) | (rename_i e1 e2; exact absurd (Option.some.inj e1) (by simp [undef])) | (rename_i e1; exact absurd (Option.some.inj e1) (by simp [undef])))
theorem rmay_z (F L R : Int) (H : ByteArray) (A : Option Addr) (n ca : Nat) (C : Option Addr) (m cb : Nat) (ks : List Int) (ss : List ByteArray) (p : Int) (w : World) (hn : n ≤ 1000000) (hm : m ≤ 1000000) (hh : H.size ≤ 1000000) (hss : ∀ s ∈ ss, s.size ≤ maxLen) (hp : L7.mayBe p = true) (hr : Rows2 w A n ca C m cb ks ss) (hg : (¬ (F < 1) ∧ ¬ (4095 < F) ∧ ¬ (L < 1) ∧ ¬ (255 < L) ∧ ¬ (R < 0) ∧ ¬ (4095 < R) ∧ R ≠ F ∧ n = m + 1)) (hx : ¬ p / 8 < (H.size : Int)) (hR : R = 0) (hz : H.size = 0) :
  Calls Tryz.prog 142 #[nv F L R H A n ca C m cb, .int .i64 p] w fun e w' => e = .returned (.bool (decide (May ⟨F, L, R, H, ks, ss⟩ p))) ∧ Below w.heap.size w w' := by
 obtain ⟨q, rfl⟩ : ∃ q : Nat, p = q := Int.eq_ofNat_of_zero_le (by have := mayBe_le hp; omega); have hb0 := nbox_below 42 F L R H A n ca C m cb w; have HB := zj hb0; have HK := zj (nbox_new 42 F L R H A n ca C m cb w); have HSR : Hid (∀ W, Calls Tryz.prog 130 #[.int .i64 q] W fun e w' => e = .returned (.bool (L7.mayBe q)) ∧ W = w') := zj (fun W => L7.sizeRef_any q W); rw [hp] at HSR; obtain ⟨r, HR⟩ : ∃ r, Hid (r = decide (May ⟨F, L, R, H, ks, ss⟩ q)) := ⟨_, zj rfl⟩; rw [← HR.out]; have HLK := zj (hr.kids.below' hb0 (Nat.le_refl _)); have HLS := zj (lies_below' hr.seps hb0 (Nat.le_refl _)); have HNK := zj hr.nk; have HNM := zj hr.nm; have hms := may_steps (F := F) (L := L) (R := R) (H := H) (ks := ks) (ss := ss) hp (by unfold NumOk'; omega) (by rw [hr.nk, hr.nm]; omega) ⟨fun _ => hz, fun h => absurd hR h⟩; have HNK0 : Hid (∀ k ∈ ks, ¬ KidOk k → r = false) := zj (fun k hk h => by rw [HR.out]; exact dF (fun hq => h ((hms.1 hq).1 k hk))); have HNO : Hid (∀ j, j < m → ¬ StepOk R H ss q j → decide (May ⟨F, L, R, H, ks, ss⟩ q) = false) := zj (fun j hj h => dF (fun hq => h ((hms.1 hq).2 j (by rw [hr.nm]; exact hj)))); have HYES : Hid ((∀ k ∈ ks, KidOk k) → (∀ j, j < m → StepOk R H ss q j) → r = true) := zj (fun h1 h2 => by rw [HR.out]; exact dT (hms.2 ⟨h1, fun j hj => h2 j (by rw [← hr.nm]; exact hj)⟩)); have HSZ := zj hss; have f1' : decide (F < 1) = false := dF (by omega); have f2' : decide (4095 < F) = false := dF (by omega); have l1' : decide (L < 1) = false := dF (by omega); have l2' : decide (255 < L) = false := dF (by omega); have r1' : decide (R < 0) = false := dF (by omega); have r2' : decide (4095 < R) = false := dF (by omega); have hw : IntKind.i64.wrap ((m : Int) + 1) = (m : Int) + 1 := IntWalk.i64_in _ (by omega); have he : (R == F) = false := beq_eq_false_iff_ne.2 (by omega)
 have hq : ((n : Int) != (m : Int) + 1) = false := by simp; omega
 have hp' := mayBe_le hp; have hw8 : IntKind.i64.wrap ((q : Int) / 8) = (q : Int) / 8 := IntWalk.i64_in _ (by omega); have x1 : decide ((q : Int) / 8 < (H.size : Int)) = false := dF (by omega); have x2 : decide (q / 8 < H.size) = false := dF (by omega); obtain ⟨e1, e2, e3⟩ := empty_of H; rw [dT hz] at e1 e2 e3
 have z1 : (R == 0) = true := by simp [hR]
 have z2 : decide (0 < R) = false := dF (by omega); have HRN := zj hR; clear hg hp hx hR hz hh; clear hms hr hss hb0; obtain ⟨c0, c1, c2, c3, c4, c5⟩ := HK.out.cells; go_enter Tryz.func142, Tryz.ntmps142; go_wp2_with fail; refine (HSR.out _).mono ?_; rintro e w2 ⟨rfl, rfl⟩; go_wp2_with fail
 go_loopw [5] (fun iv wr => ∃ k : Nat, k ≤ n ∧ iv = .int .i64 k ∧ Hid (∀ x ∈ ks.take k, KidOk x) ∧ Hid (wr = nbox 42 F L R H A n ca C m cb w)) (fun iv _ => n - (intOf iv).toNat)
 case atStart => exact ⟨0, by omega, rfl, zj (by simp), zj rfl⟩
 case round =>
  obtain ⟨k, hk, rfl, HX, HW⟩ := hrel; rw [← HW.out] at c2 c3 c4 c5; by_cases hlt : k < n
  ·obtain ⟨x, hc⟩ : ∃ c, ks[k]? = some c := ⟨_, List.getElem?_eq_getElem (by have := HNK.out; omega)⟩
   obtain ⟨a, rfl, hab, x0⟩ := HLK.out k x hc; rw [← HW.out] at x0
   have h0 : (0 : Int) ≤ k := by omega
   have hkn : (k : Int) < n := by omega
   have HMEM := zj (List.mem_of_getElem? hc); by_cases h1 : x < 1
   ·have y1 : decide (x < 1) = true := dT h1
    have HF : Hid (r = false) := zj (HNK0.out x HMEM.out (by unfold KidOk; omega)); clear hc hab h1; go_wp2_with fail; go_ret; exact ⟨by rw [HF.out]; rfl, by rw [HW.out]; exact HB.out⟩
   have y1 : decide (x < 1) = false := dF h1; by_cases h2 : 4095 < x
   ·have y2 : decide (4095 < x) = true := dT h2
    have HF : Hid (r = false) := zj (HNK0.out x HMEM.out (by unfold KidOk; omega)); clear hc hab h1 h2; go_wp2_with fail; go_ret; exact ⟨by rw [HF.out]; rfl, by rw [HW.out]; exact HB.out⟩
   have y2 : decide (4095 < x) = false := dF h2; have HX2 := zj (all_nextK hc HX.out (show KidOk x by unfold KidOk; omega)); clear hc hab h1 h2; go_wp2_with fail
   go_roundw
   case rel => exact ⟨k + 1, by omega, by simp, HX2, HW⟩
   case measure => simp [intOf]; omega
  obtain rfl : k = n := by omega
  have HALL : Hid (∀ x ∈ ks, KidOk x) := zj (by
   have h := HX.out
   rwa [List.take_of_length_le (by have := HNK.out; omega)] at h)
  have hlt' : ¬ (k : Int) < k := by omega
  clear hlt hk; go_wp2_with fail
  go_loopw [6] (fun iv wr2 => ∃ j : Nat, j ≤ m ∧ iv = .int .i64 j ∧ Hid (∀ i, i < j → StepOk R H ss q i) ∧ Hid (wr2 = nbox 42 F L R H A k ca C m cb w)) (fun iv _ => m - (intOf iv).toNat)
  case atStart => exact ⟨0, by omega, rfl, zj (fun i h => by omega), HW⟩
  case round =>
   obtain ⟨j, hj, rfl, HX3, HW3⟩ := hrel; rw [HW.out, ← HW3.out] at c2 c3 c5; by_cases hlt : j < m
   ·obtain ⟨s, hc⟩ : ∃ c, ss[j]? = some c := ⟨_, List.getElem?_eq_getElem (by have := HNM.out; omega)⟩
    obtain ⟨a, rfl, hab, x0⟩ := HLS.out j s hc; rw [← HW3.out] at x0
    have h0 : (0 : Int) ≤ j := by omega
    have hkn : (j : Int) < m := by omega
    have HC := zj hc; have HLT := zj hlt; have hsz := HSZ.out s (List.mem_of_getElem? hc); unfold maxLen at hsz; obtain ⟨g1, g2, g3⟩ := empty_of s; by_cases h1 : s.size = 0
    ·rw [dT h1] at g1 g2 g3
     have HF : Hid (r = false) := zj (by rw [HR.out]; exact HNO.out j HLT.out (fun h => (h s HC.out).1.1 h1)); clear hc hab h1 hlt; go_wp2_with fail
     all_goals (first | (go_ret; exact ⟨by rw [HF.out]; rfl, by rw [HW3.out]; exact HB.out⟩) | (rename_i e1 e2; exact absurd (Option.some.inj e1) (by simp [undef])) | (rename_i e1; exact absurd (Option.some.inj e1) (by simp [undef])))
    rw [dF h1] at g1 g2 g3; by_cases h2 : q / 8 < s.size
    ·have y2 : decide ((q : Int) / 8 < (s.size : Int)) = true := dT (by omega)
     have y2n : decide (q / 8 < s.size) = true := dT h2; have HF : Hid (r = false) := zj (by rw [HR.out]; exact HNO.out j HLT.out (fun h => by have := (h s HC.out).1.2; omega)); clear hc hab h1 h2 hlt; go_wp2_with fail
     all_goals (first | (go_ret; exact ⟨by rw [HF.out]; rfl, by rw [HW3.out]; exact HB.out⟩) | (rename_i e1 e2; exact absurd (Option.some.inj e1) (by simp [undef])) | (rename_i e1; exact absurd (Option.some.inj e1) (by simp [undef])))
    have y2 : decide ((q : Int) / 8 < (s.size : Int)) = false := dF (by omega); have y2n : decide (q / 8 < s.size) = false := dF h2; have HSO : Hid (SepOk q s) := zj ⟨h1, by omega⟩; rcases Nat.eq_zero_or_pos j with hj0 | hj0
    ·have dk : decide ((0 : Int) < (j : Int)) = false := dF (by omega)
     have dk2 : decide (0 < j) = false := dF (by omega); have HT : Hid (∀ t, 0 < j → ss[j - 1]? = some t → L5.B t < L5.B s) := zj (fun t h => by omega); clear hj0
     have HX4 : Hid (∀ i', i' < j + 1 → StepOk R H ss q i') := zj (fun i' hi' => by
      by_cases hq5 : i' = j
      ·subst hq5
       intro s' hs'; rw [HC.out] at hs'; obtain rfl := Option.some.inj hs'; exact ⟨HSO.out, HT.out, fun h => absurd HRN.out h⟩
      ·exact HX3.out i' (by omega))
     clear hc hab h1 h2 hlt; go_wp2_with fail
     all_goals (first | skip)
     go_roundw
     case rel => exact ⟨j + 1, by have := HLT.out; omega, by simp, HX4, HW3⟩
     case measure => simp [intOf]; have := HLT.out; omega
    ·obtain ⟨i, rfl⟩ : ∃ i, j = i + 1 := ⟨j - 1, by omega⟩
     have dk : decide ((0 : Int) < ((i + 1 : Nat) : Int)) = true := dT (by omega); have dk2 : decide (0 < i + 1) = true := dT (by omega); have dk3 : decide ((0 : Int) < (i : Int) + 1) = true := dT (by omega); obtain ⟨t, hct⟩ : ∃ c, ss[i]? = some c := ⟨_, List.getElem?_eq_getElem (by have := HNM.out; omega)⟩; obtain ⟨b, hbe, hbb, x1⟩ := HLS.out i t hct; obtain rfl := Option.some.inj hbe; rw [← HW3.out] at x1; have hw1 : IntKind.i64.wrap ((i : Int) + 1 - 1) = i := (IntWalk.i64_in _ (by omega)).trans (by omega)
     have hi0 : (0 : Int) ≤ i := by omega
     have him : (i : Int) < m := by omega
     have hz := leq_of s t
     have x0p : wr.cell? ⟨a.block, a.off + (i + 1), none⟩ = some (.string s) := by rw [← addr_pos]; exact x0
     clear hbe hbb hj0; by_cases hq : L5.B t < L5.B s; rotate_left
     ·rw [dF hq] at hz
      simp only [Bool.not_false] at hz; have HF : Hid (r = false) := zj (by rw [HR.out]; exact HNO.out (i + 1) HLT.out (fun h => hq ((h s HC.out).2.1 t (by omega) (by simpa using hct)))); clear hc hab h1 h2 hlt hct hq; go_wp2_with fail
      all_goals (first | (go_ret; exact ⟨by rw [HF.out]; rfl, by rw [HW3.out]; exact HB.out⟩) | (rename_i e1 e2; exact absurd (Option.some.inj e1) (by simp [undef])) | (rename_i e1; exact absurd (Option.some.inj e1) (by simp [undef])))
     rw [dT hq] at hz; simp only [Bool.not_true] at hz
     have HT : Hid (∀ u, 0 < i + 1 → ss[i + 1 - 1]? = some u → L5.B u < L5.B s) := zj (fun u _ hu => by
      rw [show i + 1 - 1 = i by omega, hct] at hu; obtain rfl := Option.some.inj hu
      exact hq)
     clear hct hq
     have HX4 : Hid (∀ i', i' < i + 1 + 1 → StepOk R H ss q i') := zj (fun i' hi' => by
      by_cases hq5 : i' = i + 1
      ·subst hq5
       intro s' hs'; rw [HC.out] at hs'; obtain rfl := Option.some.inj hs'; exact ⟨HSO.out, HT.out, fun h => absurd HRN.out h⟩
      ·exact HX3.out i' (by omega))
     clear hc hab h1 h2 hlt; go_wp2_with fail
     all_goals (first | skip)
     go_roundw
     case rel => exact ⟨i + 1 + 1, by have := HLT.out; omega, by simp, HX4, HW3⟩
     case measure => simp [intOf]; have := HLT.out; omega
   ·obtain rfl : j = m := by omega
    have HF : Hid (r = true) := zj (HYES.out HALL.out (fun i hi => HX3.out i hi))
    have hlt' : ¬ (j : Int) < j := by omega
    clear hlt hj; go_wp2_with fail; go_ret; exact ⟨by rw [HF.out]; rfl, by rw [HW3.out]; exact HB.out⟩
theorem rmay_h (F L R : Int) (H : ByteArray) (A : Option Addr) (n ca : Nat) (C : Option Addr) (m cb : Nat) (ks : List Int) (ss : List ByteArray) (p : Int) (w : World) (hn : n ≤ 1000000) (hm : m ≤ 1000000) (hh : H.size ≤ 1000000) (hss : ∀ s ∈ ss, s.size ≤ maxLen) (hp : L7.mayBe p = true) (hr : Rows2 w A n ca C m cb ks ss) (hg : (¬ (F < 1) ∧ ¬ (4095 < F) ∧ ¬ (L < 1) ∧ ¬ (255 < L) ∧ ¬ (R < 0) ∧ ¬ (4095 < R) ∧ R ≠ F ∧ n = m + 1)) (hx : ¬ p / 8 < (H.size : Int)) (hR : R ≠ 0) (hz : H.size ≠ 0) :
  Calls Tryz.prog 142 #[nv F L R H A n ca C m cb, .int .i64 p] w fun e w' => e = .returned (.bool (decide (May ⟨F, L, R, H, ks, ss⟩ p))) ∧ Below w.heap.size w w' := by
 obtain ⟨q, rfl⟩ : ∃ q : Nat, p = q := Int.eq_ofNat_of_zero_le (by have := mayBe_le hp; omega); have hb0 := nbox_below 42 F L R H A n ca C m cb w; have HB := zj hb0; have HK := zj (nbox_new 42 F L R H A n ca C m cb w); have HSR : Hid (∀ W, Calls Tryz.prog 130 #[.int .i64 q] W fun e w' => e = .returned (.bool (L7.mayBe q)) ∧ W = w') := zj (fun W => L7.sizeRef_any q W); rw [hp] at HSR; obtain ⟨r, HR⟩ : ∃ r, Hid (r = decide (May ⟨F, L, R, H, ks, ss⟩ q)) := ⟨_, zj rfl⟩; rw [← HR.out]; have HLK := zj (hr.kids.below' hb0 (Nat.le_refl _)); have HLS := zj (lies_below' hr.seps hb0 (Nat.le_refl _)); have HNK := zj hr.nk; have HNM := zj hr.nm; have hms := may_steps (F := F) (L := L) (R := R) (H := H) (ks := ks) (ss := ss) hp (by unfold NumOk'; omega) (by rw [hr.nk, hr.nm]; omega) ⟨fun h => absurd h hR, fun _ => ⟨hz, by omega⟩⟩; have HNK0 : Hid (∀ k ∈ ks, ¬ KidOk k → r = false) := zj (fun k hk h => by rw [HR.out]; exact dF (fun hq => h ((hms.1 hq).1 k hk))); have HNO : Hid (∀ j, j < m → ¬ StepOk R H ss q j → decide (May ⟨F, L, R, H, ks, ss⟩ q) = false) := zj (fun j hj h => dF (fun hq => h ((hms.1 hq).2 j (by rw [hr.nm]; exact hj)))); have HYES : Hid ((∀ k ∈ ks, KidOk k) → (∀ j, j < m → StepOk R H ss q j) → r = true) := zj (fun h1 h2 => by rw [HR.out]; exact dT (hms.2 ⟨h1, fun j hj => h2 j (by rw [← hr.nm]; exact hj)⟩)); have HSZ := zj hss; have f1' : decide (F < 1) = false := dF (by omega); have f2' : decide (4095 < F) = false := dF (by omega); have l1' : decide (L < 1) = false := dF (by omega); have l2' : decide (255 < L) = false := dF (by omega); have r1' : decide (R < 0) = false := dF (by omega); have r2' : decide (4095 < R) = false := dF (by omega); have hw : IntKind.i64.wrap ((m : Int) + 1) = (m : Int) + 1 := IntWalk.i64_in _ (by omega); have he : (R == F) = false := beq_eq_false_iff_ne.2 (by omega)
 have hq : ((n : Int) != (m : Int) + 1) = false := by simp; omega
 have hp' := mayBe_le hp; have hw8 : IntKind.i64.wrap ((q : Int) / 8) = (q : Int) / 8 := IntWalk.i64_in _ (by omega); have x1 : decide ((q : Int) / 8 < (H.size : Int)) = false := dF (by omega); have x2 : decide (q / 8 < H.size) = false := dF (by omega); obtain ⟨e1, e2, e3⟩ := empty_of H; rw [dF hz] at e1 e2 e3; have z1 : (R == 0) = false := beq_eq_false_iff_ne.2 hR; have z2 : decide (0 < R) = true := dT (by omega); have HRN := zj hR; clear hg hp hx hR hz hh; clear hms hr hss hb0; obtain ⟨c0, c1, c2, c3, c4, c5⟩ := HK.out.cells; go_enter Tryz.func142, Tryz.ntmps142; go_wp2_with fail; refine (HSR.out _).mono ?_; rintro e w2 ⟨rfl, rfl⟩; go_wp2_with fail
 go_loopw [5] (fun iv wr => ∃ k : Nat, k ≤ n ∧ iv = .int .i64 k ∧ Hid (∀ x ∈ ks.take k, KidOk x) ∧ Hid (wr = nbox 42 F L R H A n ca C m cb w)) (fun iv _ => n - (intOf iv).toNat)
 case atStart => exact ⟨0, by omega, rfl, zj (by simp), zj rfl⟩
 case round =>
  obtain ⟨k, hk, rfl, HX, HW⟩ := hrel; rw [← HW.out] at c2 c3 c4 c5; by_cases hlt : k < n
  ·obtain ⟨x, hc⟩ : ∃ c, ks[k]? = some c := ⟨_, List.getElem?_eq_getElem (by have := HNK.out; omega)⟩
   obtain ⟨a, rfl, hab, x0⟩ := HLK.out k x hc; rw [← HW.out] at x0
   have h0 : (0 : Int) ≤ k := by omega
   have hkn : (k : Int) < n := by omega
   have HMEM := zj (List.mem_of_getElem? hc); by_cases h1 : x < 1
   ·have y1 : decide (x < 1) = true := dT h1
    have HF : Hid (r = false) := zj (HNK0.out x HMEM.out (by unfold KidOk; omega)); clear hc hab h1; go_wp2_with fail; go_ret; exact ⟨by rw [HF.out]; rfl, by rw [HW.out]; exact HB.out⟩
   have y1 : decide (x < 1) = false := dF h1; by_cases h2 : 4095 < x
   ·have y2 : decide (4095 < x) = true := dT h2
    have HF : Hid (r = false) := zj (HNK0.out x HMEM.out (by unfold KidOk; omega)); clear hc hab h1 h2; go_wp2_with fail; go_ret; exact ⟨by rw [HF.out]; rfl, by rw [HW.out]; exact HB.out⟩
   have y2 : decide (4095 < x) = false := dF h2; have HX2 := zj (all_nextK hc HX.out (show KidOk x by unfold KidOk; omega)); clear hc hab h1 h2; go_wp2_with fail
   go_roundw
   case rel => exact ⟨k + 1, by omega, by simp, HX2, HW⟩
   case measure => simp [intOf]; omega
  obtain rfl : k = n := by omega
  have HALL : Hid (∀ x ∈ ks, KidOk x) := zj (by
   have h := HX.out
   rwa [List.take_of_length_le (by have := HNK.out; omega)] at h)
  have hlt' : ¬ (k : Int) < k := by omega
  clear hlt hk; go_wp2_with fail
  go_loopw [6] (fun iv wr2 => ∃ j : Nat, j ≤ m ∧ iv = .int .i64 j ∧ Hid (∀ i, i < j → StepOk R H ss q i) ∧ Hid (wr2 = nbox 42 F L R H A k ca C m cb w)) (fun iv _ => m - (intOf iv).toNat)
  case atStart => exact ⟨0, by omega, rfl, zj (fun i h => by omega), HW⟩
  case round =>
   obtain ⟨j, hj, rfl, HX3, HW3⟩ := hrel; rw [HW.out, ← HW3.out] at c2 c3 c5; by_cases hlt : j < m
   ·obtain ⟨s, hc⟩ : ∃ c, ss[j]? = some c := ⟨_, List.getElem?_eq_getElem (by have := HNM.out; omega)⟩
    obtain ⟨a, rfl, hab, x0⟩ := HLS.out j s hc; rw [← HW3.out] at x0
    have h0 : (0 : Int) ≤ j := by omega
    have hkn : (j : Int) < m := by omega
    have HC := zj hc; have HLT := zj hlt; have hsz := HSZ.out s (List.mem_of_getElem? hc); unfold maxLen at hsz; obtain ⟨g1, g2, g3⟩ := empty_of s; by_cases h1 : s.size = 0
    ·rw [dT h1] at g1 g2 g3
     have HF : Hid (r = false) := zj (by rw [HR.out]; exact HNO.out j HLT.out (fun h => (h s HC.out).1.1 h1)); clear hc hab h1 hlt; go_wp2_with fail
     all_goals (first | (go_ret; exact ⟨by rw [HF.out]; rfl, by rw [HW3.out]; exact HB.out⟩) | (rename_i e1 e2; exact absurd (Option.some.inj e1) (by simp [undef])) | (rename_i e1; exact absurd (Option.some.inj e1) (by simp [undef])))
    rw [dF h1] at g1 g2 g3; by_cases h2 : q / 8 < s.size
    ·have y2 : decide ((q : Int) / 8 < (s.size : Int)) = true := dT (by omega)
     have y2n : decide (q / 8 < s.size) = true := dT h2; have HF : Hid (r = false) := zj (by rw [HR.out]; exact HNO.out j HLT.out (fun h => by have := (h s HC.out).1.2; omega)); clear hc hab h1 h2 hlt; go_wp2_with fail
     all_goals (first | (go_ret; exact ⟨by rw [HF.out]; rfl, by rw [HW3.out]; exact HB.out⟩) | (rename_i e1 e2; exact absurd (Option.some.inj e1) (by simp [undef])) | (rename_i e1; exact absurd (Option.some.inj e1) (by simp [undef])))
    have y2 : decide ((q : Int) / 8 < (s.size : Int)) = false := dF (by omega); have y2n : decide (q / 8 < s.size) = false := dF h2; have HSO : Hid (SepOk q s) := zj ⟨h1, by omega⟩; rcases Nat.eq_zero_or_pos j with hj0 | hj0
    ·have dk : decide ((0 : Int) < (j : Int)) = false := dF (by omega)
     have dk2 : decide (0 < j) = false := dF (by omega); have HT : Hid (∀ t, 0 < j → ss[j - 1]? = some t → L5.B t < L5.B s) := zj (fun t h => by omega); clear hj0; by_cases hq3 : L5.B s < L5.B H; rotate_left
     ·have y3 : Op.bytesLess s.toList H.toList = false := L5.less_no hq3
      have HF : Hid (r = false) := zj (by rw [HR.out]; exact HNO.out (j) HLT.out (fun h => hq3 ((h s HC.out).2.2 HRN.out))); clear hc hab h1 h2 hlt hq3; go_wp2_with fail
      all_goals (first | (go_ret; exact ⟨by rw [HF.out]; rfl, by rw [HW3.out]; exact HB.out⟩) | (rename_i e1 e2; exact absurd (Option.some.inj e1) (by simp [undef])) | (rename_i e1; exact absurd (Option.some.inj e1) (by simp [undef])))
     have y3 : Op.bytesLess s.toList H.toList = true := L5.less_yes hq3
     have HX4 : Hid (∀ i', i' < j + 1 → StepOk R H ss q i') := zj (fun i' hi' => by
      by_cases hq5 : i' = j
      ·subst hq5
       intro s' hs'; rw [HC.out] at hs'; obtain rfl := Option.some.inj hs'; exact ⟨HSO.out, HT.out, fun _ => hq3⟩
      ·exact HX3.out i' (by omega))
     clear hc hab h1 h2 hlt hq3; go_wp2_with fail
     all_goals (first | skip)
     go_roundw
     case rel => exact ⟨j + 1, by have := HLT.out; omega, by simp, HX4, HW3⟩
     case measure => simp [intOf]; have := HLT.out; omega
    ·obtain ⟨i, rfl⟩ : ∃ i, j = i + 1 := ⟨j - 1, by omega⟩
     have dk : decide ((0 : Int) < ((i + 1 : Nat) : Int)) = true := dT (by omega); have dk2 : decide (0 < i + 1) = true := dT (by omega); have dk3 : decide ((0 : Int) < (i : Int) + 1) = true := dT (by omega); obtain ⟨t, hct⟩ : ∃ c, ss[i]? = some c := ⟨_, List.getElem?_eq_getElem (by have := HNM.out; omega)⟩; obtain ⟨b, hbe, hbb, x1⟩ := HLS.out i t hct; obtain rfl := Option.some.inj hbe; rw [← HW3.out] at x1; have hw1 : IntKind.i64.wrap ((i : Int) + 1 - 1) = i := (IntWalk.i64_in _ (by omega)).trans (by omega)
     have hi0 : (0 : Int) ≤ i := by omega
     have him : (i : Int) < m := by omega
     have hz := leq_of s t
     have x0p : wr.cell? ⟨a.block, a.off + (i + 1), none⟩ = some (.string s) := by rw [← addr_pos]; exact x0
     clear hbe hbb hj0; by_cases hq : L5.B t < L5.B s; rotate_left
     ·rw [dF hq] at hz
      simp only [Bool.not_false] at hz; have HF : Hid (r = false) := zj (by rw [HR.out]; exact HNO.out (i + 1) HLT.out (fun h => hq ((h s HC.out).2.1 t (by omega) (by simpa using hct)))); clear hc hab h1 h2 hlt hct hq; go_wp2_with fail
      all_goals (first | (go_ret; exact ⟨by rw [HF.out]; rfl, by rw [HW3.out]; exact HB.out⟩) | (rename_i e1 e2; exact absurd (Option.some.inj e1) (by simp [undef])) | (rename_i e1; exact absurd (Option.some.inj e1) (by simp [undef])))
     rw [dT hq] at hz; simp only [Bool.not_true] at hz
     have HT : Hid (∀ u, 0 < i + 1 → ss[i + 1 - 1]? = some u → L5.B u < L5.B s) := zj (fun u _ hu => by
      rw [show i + 1 - 1 = i by omega, hct] at hu; obtain rfl := Option.some.inj hu
      exact hq)
     clear hct hq; by_cases hq3 : L5.B s < L5.B H; rotate_left
     ·have y3 : Op.bytesLess s.toList H.toList = false := L5.less_no hq3
      have HF : Hid (r = false) := zj (by rw [HR.out]; exact HNO.out (i + 1) HLT.out (fun h => hq3 ((h s HC.out).2.2 HRN.out))); clear hc hab h1 h2 hlt hq3; go_wp2_with fail
      all_goals (first | (go_ret; exact ⟨by rw [HF.out]; rfl, by rw [HW3.out]; exact HB.out⟩) | (rename_i e1 e2; exact absurd (Option.some.inj e1) (by simp [undef])) | (rename_i e1; exact absurd (Option.some.inj e1) (by simp [undef])))
     have y3 : Op.bytesLess s.toList H.toList = true := L5.less_yes hq3
     have HX4 : Hid (∀ i', i' < i + 1 + 1 → StepOk R H ss q i') := zj (fun i' hi' => by
      by_cases hq5 : i' = i + 1
      ·subst hq5
       intro s' hs'; rw [HC.out] at hs'; obtain rfl := Option.some.inj hs'; exact ⟨HSO.out, HT.out, fun _ => hq3⟩
      ·exact HX3.out i' (by omega))
     clear hc hab h1 h2 hlt hq3; go_wp2_with fail
     all_goals (first | skip)
     go_roundw
     case rel => exact ⟨i + 1 + 1, by have := HLT.out; omega, by simp, HX4, HW3⟩
     case measure => simp [intOf]; have := HLT.out; omega
   ·obtain rfl : j = m := by omega
    have HF : Hid (r = true) := zj (HYES.out HALL.out (fun i hi => HX3.out i hi))
    have hlt' : ¬ (j : Int) < j := by omega
    clear hlt hj; go_wp2_with fail; go_ret; exact ⟨by rw [HF.out]; rfl, by rw [HW3.out]; exact HB.out⟩
theorem rmay_any (F L R : Int) (H : ByteArray) (A : Option Addr) (n ca : Nat) (C : Option Addr) (m cb : Nat) (ks : List Int) (ss : List ByteArray) (p : Int) (w : World) (hr : Rows2 w A n ca C m cb ks ss) (hn : n ≤ 1000000) (hm : m ≤ 1000000) (hh : H.size ≤ 1000000) (hss : ∀ s ∈ ss, s.size ≤ maxLen) :
  Calls Tryz.prog 142 #[nv F L R H A n ca C m cb, .int .i64 p] w fun e w' => e = .returned (.bool (decide (May ⟨F, L, R, H, ks, ss⟩ p))) ∧ Below w.heap.size w w' := by
 have no : ¬ May ⟨F, L, R, H, ks, ss⟩ p → ∀ (e : Ending) (w' : World), (e = .returned (.bool false) ∧ Below w.heap.size w w') → e = .returned (.bool (decide (May ⟨F, L, R, H, ks, ss⟩ p))) ∧ Below w.heap.size w w' := fun h e w' hq => by rw [dF h]; exact hq
 cases hp : L7.mayBe p with
 | false => exact (rmay_size F L R H A n ca C m cb ks ss p w hn hm hh hp).mono (no (fun h => by have := h.1; rw [hp] at this; cases this))
 | true =>
  by_cases f1 : F < 1
  ·exact (rmay_f1 F L R H A n ca C m cb ks ss p w hn hm hh hp f1).mono (no (fun h => by have := (may_parts.1 h).2.1; unfold NumOk' at this; omega))
  by_cases f2 : 4095 < F
  ·exact (rmay_f2 F L R H A n ca C m cb ks ss p w hn hm hh hp ⟨f1, f2⟩).mono (no (fun h => by have := (may_parts.1 h).2.1; unfold NumOk' at this; omega))
  by_cases l1 : L < 1
  ·exact (rmay_l1 F L R H A n ca C m cb ks ss p w hn hm hh hp ⟨f1, f2, l1⟩).mono (no (fun h => by have := (may_parts.1 h).2.1; unfold NumOk' at this; omega))
  by_cases l2 : 255 < L
  ·exact (rmay_l2 F L R H A n ca C m cb ks ss p w hn hm hh hp ⟨f1, f2, l1, l2⟩).mono (no (fun h => by have := (may_parts.1 h).2.1; unfold NumOk' at this; omega))
  by_cases r1 : R < 0
  ·exact (rmay_r1 F L R H A n ca C m cb ks ss p w hn hm hh hp ⟨f1, f2, l1, l2, r1⟩).mono (no (fun h => by have := (may_parts.1 h).2.1; unfold NumOk' at this; omega))
  by_cases r2 : 4095 < R
  ·exact (rmay_r2 F L R H A n ca C m cb ks ss p w hn hm hh hp ⟨f1, f2, l1, l2, r1, r2⟩).mono (no (fun h => by have := (may_parts.1 h).2.1; unfold NumOk' at this; omega))
  by_cases rs : R = F
  ·exact (rmay_self F L R H A n ca C m cb ks ss p w hn hm hh hp ⟨f1, f2, l1, l2, r1, r2, rs⟩).mono (no (fun h => by have := (may_parts.1 h).2.1; unfold NumOk' at this; omega))
  by_cases hl : n = m + 1; rotate_left
  ·exact (rmay_len F L R H A n ca C m cb ks ss p w hn hm hh hp ⟨f1, f2, l1, l2, r1, r2, rs, hl⟩).mono (no (fun h => by have := (may_parts.1 h).2.2.1.1; rw [hr.nk, hr.nm] at this; omega))
  have hg := (⟨f1, f2, l1, l2, r1, r2, rs, hl⟩ : ¬ (F < 1) ∧ ¬ (4095 < F) ∧ ¬ (L < 1) ∧ ¬ (255 < L) ∧ ¬ (R < 0) ∧ ¬ (4095 < R) ∧ R ≠ F ∧ n = m + 1); have hp8 := mayBe_le hp; by_cases hx : p / 8 < (H.size : Int)
  ·exact (rmay_long F L R H A n ca C m cb ks ss p w hn hm hh hp hg hx).mono (no (fun h => by
    have h2 := (may_parts.1 h).2.2.2.1; by_cases hR : R = 0
    ·have := h2.1 hR; omega
    ·have := (h2.2 hR).2.1; omega))
  by_cases hR : R = 0
  ·by_cases hz : H.size = 0
   ·exact rmay_z F L R H A n ca C m cb ks ss p w hn hm hh hss hp hr hg hx hR hz
   ·exact (rmay_zero F L R H A n ca C m cb ks ss p w hn hm hh hp hg hx hR hz).mono (no (fun h => hz ((may_parts.1 h).2.2.2.1.1 hR)))
  ·by_cases hz : H.size = 0
   ·exact (rmay_none F L R H A n ca C m cb ks ss p w hn hm hh hp hg hx hR hz).mono (no (fun h => ((may_parts.1 h).2.2.2.1.2 hR).1 hz))
   ·exact rmay_h F L R H A n ca C m cb ks ss p w hn hm hh hss hp hr hg hx hR hz
end Go.Proofs.YtpeghilfldpgfaaGreatDoor.L11
