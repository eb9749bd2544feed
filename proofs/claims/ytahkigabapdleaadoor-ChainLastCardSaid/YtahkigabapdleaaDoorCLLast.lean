/-
  The walk of ChainLast.
-/
import Derived.Test.YtahkigabapdleaaDoorCFixed
namespace Go.Proofs.YtahkigabapdleaaDoor
open Go.RowKit CP
set_option linter.unusedVariables false
set_option linter.unusedSimpArgs false

theorem w64' (x : Int) (h1 : -4611686018427387904 ≤ x) (h2 : x ≤ 4611686018427387904) : wrap64 x = x := IntWalk.wrap64_in _ (by omega)
/-- What the numbers are. -/
theorem last_nums (n x0 x1 p : Int) (hn : (Lit.int .u16 n).wf = true) (h0 : (Lit.int .u16 x0).wf = true) (h1 : (Lit.int .u16 x1).wf = true) (hp : L7.mayBe p = true) :
    ∃ p' r k a b p2 a0 b0 : Nat, p = (p' : Int) ∧ p' = r + 16 ∧ 112 ≤ r ∧ r ≤ 1008 ∧ k ≤ r + 17 ∧ 1 ≤ a ∧ a ≤ 4095 ∧ 1 ≤ b ∧ b ≤ 4095 ∧ wrap64 n = n ∧ wrap64 x0 = x0 ∧ wrap64 x1 = x1 ∧ x0.tmod 4095 = a0 ∧ x1.tmod 4095 = b0 ∧ wrap64 (1 + (a0 : Int)) = a ∧ wrap64 (1 + (b0 : Int)) = b ∧ wrap64 (p + 2) = p2 ∧ n % (p2 : Int) = k ∧ n.tmod (p2 : Int) = k ∧ ¬ (p2 : Int) = 0 ∧ wrap64 (p - 16) = r ∧ x0 % 4095 = a0 ∧ x1 % 4095 = b0 := by
  have hp2 := mayBe_le hp
  have hn2 := bounds_u16 hn
  have h02 := bounds_u16 h0
  have h12 := bounds_u16 h1
  clear hp hn h0 h1
  obtain ⟨n, rfl⟩ := Int.eq_ofNat_of_zero_le (show 0 ≤ n by omega)
  obtain ⟨x0, rfl⟩ := Int.eq_ofNat_of_zero_le (show 0 ≤ x0 by omega)
  obtain ⟨x1, rfl⟩ := Int.eq_ofNat_of_zero_le (show 0 ≤ x1 by omega)
  obtain ⟨p, rfl⟩ := Int.eq_ofNat_of_zero_le (show 0 ≤ p by omega)
  have k1 : n % (p + 2) < p + 2 := Nat.mod_lt _ (by omega)
  have k2 : x0 % 4095 < 4095 := Nat.mod_lt _ (by omega)
  have k3 : x1 % 4095 < 4095 := Nat.mod_lt _ (by omega)
  refine ⟨p, p - 16, n % (p + 2), 1 + x0 % 4095, 1 + x1 % 4095, p + 2, x0 % 4095, x1 % 4095, rfl, by omega, by omega, by omega, ?_, by omega, ?_, by omega, ?_, w64' _ (by omega) (by omega), w64' _ (by omega) (by omega), w64' _ (by omega) (by omega), ?_, ?_, ?_, ?_, (w64' _ (by omega) (by omega)).trans rfl, ?_, ?_, by omega, (w64' _ (by omega) (by omega)).trans (by omega), ?_, ?_⟩
  · generalize n % (p + 2) = z at *
    omega
  · generalize x0 % 4095 = z at *
    omega
  · generalize x1 % 4095 = z at *
    omega
  · exact (Int.ofNat_tmod x0 4095).symm
  · exact (Int.ofNat_tmod x1 4095).symm
  · generalize x0 % 4095 = z at *
    exact (w64' _ (by omega) (by omega)).trans rfl
  · generalize x1 % 4095 = z at *
    exact (w64' _ (by omega) (by omega)).trans rfl
  · exact (Int.natCast_emod n (p + 2)).symm
  · exact (Int.ofNat_tmod n (p + 2)).symm
  · exact (Int.natCast_emod x0 4095).symm
  · exact (Int.natCast_emod x1 4095).symm
theorem last_may {r k a b p : Nat} (hp : L7.mayBe p = true) (hr : p = r + 16) (ha : 1 ≤ a) (ha2 : a ≤ 4095) (hb : 1 ≤ b) (hb2 : b ≤ 4095) (hr1 : 112 ≤ r) :
    (May a 0 (rep 5 k).size p ↔ 1 ≤ k ∧ k ≤ r) ∧ (May a b (rep 5 k).size p ↔ k = r ∧ a ≠ b) := by
  rw [rep_size]
  unfold May NumOk DataOk
  simp only [hp, true_and]
  refine ⟨⟨fun h => ?_, fun h => ?_⟩, ⟨fun h => ?_, fun h => ?_⟩⟩
  · omega
  · exact ⟨by omega, by omega, by omega, .inl trivial⟩
  · refine ⟨?_, by omega⟩
    rcases h.2.2.2 with h2 | h2 <;> omega
  · exact ⟨by omega, by omega, by omega, .inr (by omega)⟩

set_option maxHeartbeats 4000000 in
set_option maxRecDepth 100000 in
theorem chainLast_any (hfx : Fixes) (p n x0 x1 : Int) (w : World) (hg : L7.Sizes w) (hn : (Lit.int .u16 n).wf = true) (h0 : (Lit.int .u16 x0).wf = true) (h1 : (Lit.int .u16 x1).wf = true) :
    Calls Tryd.prog 8 #[.int .i64 p, .int .u16 n, .agg #[.int .u16 x0, .int .u16 x1]] w fun e w' => e = .returned (.bool true) ∧ Below w.heap.size w w' := by
  have HFX : Hid (L7.Tells 18 #[] (.bool true)) := Lib.hid hfx
  have hbx := L5.below_alloc w (.cells #[.int .u16 x0, .int .u16 x1] 53)
  have HBX := Lib.hid hbx
  have HG := Lib.hid (hg.below hg.lt hbx)
  have HSR : Hid (∀ W, Calls Tryd.prog 17 #[.int .i64 p] W fun e w' => e = .returned (.bool (L7.mayBe p)) ∧ W = w') := Lib.hid (fun W => L7.sizeRef_any p W)
  cases hp : L7.mayBe p with
  | false =>
    rw [hp] at HSR
    have M0 : Hid (L7.Tells 15 #[cv 1 0 ⟨#[120]⟩, .int .i64 p] (.bool false)) := tMay 1 0 ⟨#[120]⟩ p (decide_eq_false (fun h => by have h2 := h.1; rw [hp] at h2; cases h2))
    clear hp hg hn h0 h1 hfx hbx
    go_enter Tryd.func8, Tryd.ntmps8
    go_wp2_with fail
    refine (HSR.out _).mono ?_
    rintro e V ⟨rfl, rfl⟩
    go_wp2_with fail
    refine (M0.out _ HG.out).mono ?_
    rintro e V1 ⟨rfl, hb⟩
    have HB1 := Lib.hid (HBX.out.trans' hb)
    have HG1 := Lib.hid (HG.out.below HG.out.lt hb)
    clear hb
    go_wp2_with fail
    refine (HFX.out _ HG1.out).mono ?_
    rintro e V2 ⟨rfl, hb2⟩
    go_wp2_with fail
    go_ret
    exact ⟨rfl, HB1.out.trans' hb2⟩
  | true =>
    obtain ⟨p', r, k, a, b, p2, a0, b0, rfl, hr, hr1, hr2, hk, ha1, ha2, hb1, hb2, f1, f2, f3, f4, f5, f6, f7, f8, f9, f10, f11, f12, f13, f14⟩ := last_nums n x0 x1 p hn h0 h1 hp
    have FF := Lib.hid (And.intro f1 (And.intro f2 (And.intro f3 (And.intro f4 (And.intro f5 (And.intro f6 (And.intro f7 (And.intro f8 (And.intro f9 (And.intro f10 (And.intro f11 (And.intro f12 (And.intro f13 f14)))))))))))))
    clear f1 f2 f3 f4 f5 f6 f7 f8 f9 f10 f11 f12 f13 f14
    obtain ⟨hm1, hm2⟩ := last_may (k := k) hp hr ha1 ha2 hb1 hb2 hr1
    have R1 : Hid (L7.Tells 24 #[.int .u8 5, .int .i64 k] (.string (rep 5 k))) := tRep 5 k (by omega)
    have M1 := tMay a 0 (rep 5 k) p' rfl
    have M2 := tMay a b (rep 5 k) p' rfl
    rw [hp] at HSR
    have HBd := Lib.hid (L5.below_drewN hbx 1)
    have HGd := Lib.hid (hg.below hg.lt HBd.out)
    have hcd : (w.alloc (.cells #[.int .u16 x0, .int .u16 x1] 53)).drew.cell? ⟨w.heap.size, 0, none⟩ = some (.int .u16 x0) ∧ (w.alloc (.cells #[.int .u16 x0, .int .u16 x1] 53)).drew.cell? ⟨w.heap.size, 1, none⟩ = some (.int .u16 x1) := by
      have h := heap_alloc_new w (.cells #[.int .u16 x0, .int .u16 x1] 53)
      constructor
      · show (w.alloc (.cells #[.int .u16 x0, .int .u16 x1] 53)).cell? ⟨w.heap.size, 0, none⟩ = _
        unfold World.cell?
        rw [h]
        rfl
      · show (w.alloc (.cells #[.int .u16 x0, .int .u16 x1] 53)).cell? ⟨w.heap.size, 1, none⟩ = _
        unfold World.cell?
        rw [h]
        rfl
    generalize rep 5 k = D at *
    rcases (show k = 0 ∨ (1 ≤ k ∧ k < r) ∨ (k = r ∧ a ≠ b) ∨ (k = r ∧ a = b) ∨ r < k by omega) with hc | hc | hc | hc | hc
    · rw [decide_eq_false (by rw [hm1]; omega)] at M1
      rw [decide_eq_false (by rw [hm2]; omega)] at M2
      have d1 : decide ((1 : Int) ≤ (k : Int)) = false := decide_eq_false (by omega)
      have d1' : decide (1 ≤ k) = false := decide_eq_false (by omega)
      have d2 : decide ((k : Int) ≤ (r : Int)) = true := decide_eq_true (by omega)
      have d2' : decide (k ≤ r) = true := decide_eq_true (by omega)
      have d3 : ((k : Int) == (r : Int)) = false := by rw [beq_eq_false_iff_ne]; omega
      clear hc hm1 hm2 hp hr hr1 hr2 hk ha1 ha2 hb1 hb2 hg hn h0 h1 hfx hbx
      obtain ⟨f1, f2, f3, f4, f5, f6, f7, f8, f9, f10, f11, f12, f13, f14⟩ := FF.out
      clear FF
      go_enter Tryd.func8, Tryd.ntmps8
      go_wp2_with fail
      refine (HSR.out _).mono ?_
      rintro e V ⟨rfl, rfl⟩
      go_wp2_with fail
      go_region_held3 (fun V => V.cell? ⟨w.heap.size, 0, none⟩ = some (.int .u16 x0) ∧ V.cell? ⟨w.heap.size, 1, none⟩ = some (.int .u16 x1)) (first | assumption | exact hcd) (fail "no arm")
      go_wp2_with fail
      refine (R1.out _ HGd.out).mono ?_
      rintro e V1 ⟨rfl, hb⟩
      have HB1 := Lib.hid (HBd.out.trans' hb)
      have HG1 := Lib.hid (HGd.out.below HGd.out.lt hb)
      clear hb
      go_wp2_with fail
      refine (M1.out _ HG1.out).mono ?_
      rintro e V2 ⟨rfl, hb⟩
      have HB2 := Lib.hid (HB1.out.trans' hb)
      have HG2 := Lib.hid (HG1.out.below HG1.out.lt hb)
      clear hb
      go_wp2_with fail
      refine (M2.out _ HG2.out).mono ?_
      rintro e V3 ⟨rfl, hb⟩
      have HB3 := Lib.hid (HB2.out.trans' hb)
      have HG3 := Lib.hid (HG2.out.below HG2.out.lt hb)
      clear hb
      go_wp2_with fail
      refine (HFX.out _ HG3.out).mono ?_
      rintro e V4 ⟨rfl, hb⟩
      have HB4 := Lib.hid (HB3.out.trans' hb)
      clear hb
      go_wp2_with fail
      go_ret
      exact ⟨rfl, HB4.out⟩
    · rw [decide_eq_true (by rw [hm1]; omega)] at M1
      rw [decide_eq_false (by rw [hm2]; omega)] at M2
      have d1 : decide ((1 : Int) ≤ (k : Int)) = true := decide_eq_true (by omega)
      have d1' : decide (1 ≤ k) = true := decide_eq_true (by omega)
      have d2 : decide ((k : Int) ≤ (r : Int)) = true := decide_eq_true (by omega)
      have d2' : decide (k ≤ r) = true := decide_eq_true (by omega)
      have d3 : ((k : Int) == (r : Int)) = false := by rw [beq_eq_false_iff_ne]; omega
      clear hc hm1 hm2 hp hr hr1 hr2 hk ha1 ha2 hb1 hb2 hg hn h0 h1 hfx hbx
      obtain ⟨f1, f2, f3, f4, f5, f6, f7, f8, f9, f10, f11, f12, f13, f14⟩ := FF.out
      clear FF
      go_enter Tryd.func8, Tryd.ntmps8
      go_wp2_with fail
      refine (HSR.out _).mono ?_
      rintro e V ⟨rfl, rfl⟩
      go_wp2_with fail
      go_region_held3 (fun V => V.cell? ⟨w.heap.size, 0, none⟩ = some (.int .u16 x0) ∧ V.cell? ⟨w.heap.size, 1, none⟩ = some (.int .u16 x1)) (first | assumption | exact hcd) (fail "no arm")
      go_wp2_with fail
      refine (R1.out _ HGd.out).mono ?_
      rintro e V1 ⟨rfl, hb⟩
      have HB1 := Lib.hid (HBd.out.trans' hb)
      have HG1 := Lib.hid (HGd.out.below HGd.out.lt hb)
      clear hb
      go_wp2_with fail
      refine (M1.out _ HG1.out).mono ?_
      rintro e V2 ⟨rfl, hb⟩
      have HB2 := Lib.hid (HB1.out.trans' hb)
      have HG2 := Lib.hid (HG1.out.below HG1.out.lt hb)
      clear hb
      go_wp2_with fail
      refine (M2.out _ HG2.out).mono ?_
      rintro e V3 ⟨rfl, hb⟩
      have HB3 := Lib.hid (HB2.out.trans' hb)
      have HG3 := Lib.hid (HG2.out.below HG2.out.lt hb)
      clear hb
      go_wp2_with fail
      refine (HFX.out _ HG3.out).mono ?_
      rintro e V4 ⟨rfl, hb⟩
      have HB4 := Lib.hid (HB3.out.trans' hb)
      clear hb
      go_wp2_with fail
      go_ret
      exact ⟨rfl, HB4.out⟩
    · rw [decide_eq_true (by rw [hm1]; omega)] at M1
      rw [decide_eq_true (hm2.2 hc)] at M2
      have d1 : decide ((1 : Int) ≤ (k : Int)) = true := decide_eq_true (by omega)
      have d1' : decide (1 ≤ k) = true := decide_eq_true (by omega)
      have d2 : decide ((k : Int) ≤ (r : Int)) = true := decide_eq_true (by omega)
      have d2' : decide (k ≤ r) = true := decide_eq_true (by omega)
      have d3 : ((k : Int) == (r : Int)) = true := by rw [beq_iff_eq]; omega
      have d4 : ((a : Int) != (b : Int)) = true := bne_iff_ne.2 (fun h => hc.2 (Int.ofNat_inj.1 h))
      clear hc hm1 hm2 hp hr hr1 hr2 hk ha1 ha2 hb1 hb2 hg hn h0 h1 hfx hbx
      obtain ⟨f1, f2, f3, f4, f5, f6, f7, f8, f9, f10, f11, f12, f13, f14⟩ := FF.out
      clear FF
      go_enter Tryd.func8, Tryd.ntmps8
      go_wp2_with fail
      refine (HSR.out _).mono ?_
      rintro e V ⟨rfl, rfl⟩
      go_wp2_with fail
      go_region_held3 (fun V => V.cell? ⟨w.heap.size, 0, none⟩ = some (.int .u16 x0) ∧ V.cell? ⟨w.heap.size, 1, none⟩ = some (.int .u16 x1)) (first | assumption | exact hcd) (fail "no arm")
      go_wp2_with fail
      refine (R1.out _ HGd.out).mono ?_
      rintro e V1 ⟨rfl, hb⟩
      have HB1 := Lib.hid (HBd.out.trans' hb)
      have HG1 := Lib.hid (HGd.out.below HGd.out.lt hb)
      clear hb
      go_wp2_with fail
      refine (M1.out _ HG1.out).mono ?_
      rintro e V2 ⟨rfl, hb⟩
      have HB2 := Lib.hid (HB1.out.trans' hb)
      have HG2 := Lib.hid (HG1.out.below HG1.out.lt hb)
      clear hb
      go_wp2_with fail
      refine (M2.out _ HG2.out).mono ?_
      rintro e V3 ⟨rfl, hb⟩
      have HB3 := Lib.hid (HB2.out.trans' hb)
      have HG3 := Lib.hid (HG2.out.below HG2.out.lt hb)
      clear hb
      go_wp2_with fail
      refine (HFX.out _ HG3.out).mono ?_
      rintro e V4 ⟨rfl, hb⟩
      have HB4 := Lib.hid (HB3.out.trans' hb)
      clear hb
      go_wp2_with fail
      go_ret
      exact ⟨rfl, HB4.out⟩
    · rw [decide_eq_true (by rw [hm1]; omega)] at M1
      rw [decide_eq_false (by rw [hm2]; omega)] at M2
      have d1 : decide ((1 : Int) ≤ (k : Int)) = true := decide_eq_true (by omega)
      have d1' : decide (1 ≤ k) = true := decide_eq_true (by omega)
      have d2 : decide ((k : Int) ≤ (r : Int)) = true := decide_eq_true (by omega)
      have d2' : decide (k ≤ r) = true := decide_eq_true (by omega)
      have d3 : ((k : Int) == (r : Int)) = true := by rw [beq_iff_eq]; omega
      have d4 : ((a : Int) != (b : Int)) = false := by simp; omega
      clear hc hm1 hm2 hp hr hr1 hr2 hk ha1 ha2 hb1 hb2 hg hn h0 h1 hfx hbx
      obtain ⟨f1, f2, f3, f4, f5, f6, f7, f8, f9, f10, f11, f12, f13, f14⟩ := FF.out
      clear FF
      go_enter Tryd.func8, Tryd.ntmps8
      go_wp2_with fail
      refine (HSR.out _).mono ?_
      rintro e V ⟨rfl, rfl⟩
      go_wp2_with fail
      go_region_held3 (fun V => V.cell? ⟨w.heap.size, 0, none⟩ = some (.int .u16 x0) ∧ V.cell? ⟨w.heap.size, 1, none⟩ = some (.int .u16 x1)) (first | assumption | exact hcd) (fail "no arm")
      go_wp2_with fail
      refine (R1.out _ HGd.out).mono ?_
      rintro e V1 ⟨rfl, hb⟩
      have HB1 := Lib.hid (HBd.out.trans' hb)
      have HG1 := Lib.hid (HGd.out.below HGd.out.lt hb)
      clear hb
      go_wp2_with fail
      refine (M1.out _ HG1.out).mono ?_
      rintro e V2 ⟨rfl, hb⟩
      have HB2 := Lib.hid (HB1.out.trans' hb)
      have HG2 := Lib.hid (HG1.out.below HG1.out.lt hb)
      clear hb
      go_wp2_with fail
      refine (M2.out _ HG2.out).mono ?_
      rintro e V3 ⟨rfl, hb⟩
      have HB3 := Lib.hid (HB2.out.trans' hb)
      have HG3 := Lib.hid (HG2.out.below HG2.out.lt hb)
      clear hb
      go_wp2_with fail
      refine (HFX.out _ HG3.out).mono ?_
      rintro e V4 ⟨rfl, hb⟩
      have HB4 := Lib.hid (HB3.out.trans' hb)
      clear hb
      go_wp2_with fail
      go_ret
      exact ⟨rfl, HB4.out⟩
    · rw [decide_eq_false (by rw [hm1]; omega)] at M1
      rw [decide_eq_false (by rw [hm2]; omega)] at M2
      have d1 : decide ((1 : Int) ≤ (k : Int)) = true := decide_eq_true (by omega)
      have d1' : decide (1 ≤ k) = true := decide_eq_true (by omega)
      have d2 : decide ((k : Int) ≤ (r : Int)) = false := decide_eq_false (by omega)
      have d2' : decide (k ≤ r) = false := decide_eq_false (by omega)
      have d3 : ((k : Int) == (r : Int)) = false := by rw [beq_eq_false_iff_ne]; omega
      clear hc hm1 hm2 hp hr hr1 hr2 hk ha1 ha2 hb1 hb2 hg hn h0 h1 hfx hbx
      obtain ⟨f1, f2, f3, f4, f5, f6, f7, f8, f9, f10, f11, f12, f13, f14⟩ := FF.out
      clear FF
      go_enter Tryd.func8, Tryd.ntmps8
      go_wp2_with fail
      refine (HSR.out _).mono ?_
      rintro e V ⟨rfl, rfl⟩
      go_wp2_with fail
      go_region_held3 (fun V => V.cell? ⟨w.heap.size, 0, none⟩ = some (.int .u16 x0) ∧ V.cell? ⟨w.heap.size, 1, none⟩ = some (.int .u16 x1)) (first | assumption | exact hcd) (fail "no arm")
      go_wp2_with fail
      refine (R1.out _ HGd.out).mono ?_
      rintro e V1 ⟨rfl, hb⟩
      have HB1 := Lib.hid (HBd.out.trans' hb)
      have HG1 := Lib.hid (HGd.out.below HGd.out.lt hb)
      clear hb
      go_wp2_with fail
      refine (M1.out _ HG1.out).mono ?_
      rintro e V2 ⟨rfl, hb⟩
      have HB2 := Lib.hid (HB1.out.trans' hb)
      have HG2 := Lib.hid (HG1.out.below HG1.out.lt hb)
      clear hb
      go_wp2_with fail
      refine (M2.out _ HG2.out).mono ?_
      rintro e V3 ⟨rfl, hb⟩
      have HB3 := Lib.hid (HB2.out.trans' hb)
      have HG3 := Lib.hid (HG2.out.below HG2.out.lt hb)
      clear hb
      go_wp2_with fail
      refine (HFX.out _ HG3.out).mono ?_
      rintro e V4 ⟨rfl, hb⟩
      have HB4 := Lib.hid (HB3.out.trans' hb)
      clear hb
      go_wp2_with fail
      go_ret
      exact ⟨rfl, HB4.out⟩
theorem chainLast_walk (p n x0 x1 : Int) (w : World) (hg : L7.Sizes w) (hp : (Lit.int .i64 p).wf = true) (hn : (Lit.int .u16 n).wf = true) (h0 : (Lit.int .u16 x0).wf = true) (h1 : (Lit.int .u16 x1).wf = true) :
    Calls Tryd.prog 8 #[.int .i64 p, .int .u16 n, .agg #[.int .u16 x0, .int .u16 x1]] w fun e w' => e = .returned (.bool true) ∧ Below w.heap.size w w' := chainLast_any fixed_any p n x0 x1 w hg hn h0 h1
end Go.Proofs.YtahkigabapdleaaDoor
