/-
  The walk of ChainPages.
-/
import Derived.Test.YtahkigabapdleaaDoorCFixed
namespace Go.Proofs.YtahkigabapdleaaDoor
open Go.RowKit CP
set_option linter.unusedVariables false
set_option linter.unusedSimpArgs false

theorem pages_unique {n r k : Nat} (hr : 0 < r) (h1 : n ≤ k * r) (h2 : ∀ i, i < k → i * r < n) : pages n r = k := by
  refine Nat.le_antisymm (Nat.le_of_not_lt fun h => ?_) (Nat.le_of_not_lt fun h => ?_)
  · have := (pages_lt hr).1 h
    omega
  · have h3 := h2 _ h
    have h4 := pages_le (n := n) hr
    omega
theorem pages_succ (a r : Nat) (hr : 0 < r) : pages (a + 1) r = pages a r + (if a % r = 0 then 1 else 0) := by
  have h1 := pages_le (n := a) hr
  have h2 := fun i => (pages_lt (n := a) (i := i) hr).1
  generalize pages a r = x at *
  by_cases h0 : a % r = 0
  · rw [if_pos h0]
    refine pages_unique hr (by rw [Nat.succ_mul]; omega) (fun i hi => ?_)
    rcases Nat.lt_or_ge i x with h | h
    · have := h2 i h
      omega
    · obtain rfl : i = x := by omega
      obtain ⟨q, rfl⟩ := Nat.dvd_of_mod_eq_zero h0
      have hle : i ≤ q := by
        rcases Nat.eq_zero_or_pos i with hz | hz
        · omega
        · have h3 := h2 (i - 1) (by omega)
          rw [Nat.mul_comm r q] at h3
          have := Nat.lt_of_mul_lt_mul_right h3
          omega
      have := Nat.mul_le_mul_right r hle
      rw [Nat.mul_comm r q]
      omega
  · rw [if_neg h0]
    show pages (a + 1) r = x
    refine pages_unique hr ?_ (fun i hi => by have := h2 i hi; omega)
    have hne : a ≠ x * r := fun h => h0 (by rw [h]; exact Nat.mul_mod_left x r)
    omega
theorem pages_sum (a b r : Nat) (hr : 0 < r) : pages (a + b) r ≤ pages a r + pages b r := Nat.le_of_not_lt fun h => by
  have h1 := (pages_lt hr).1 h
  have h2 := pages_le (n := a) hr
  have h3 := pages_le (n := b) hr
  rw [Nat.add_mul] at h1
  omega
theorem pages_mono {a b : Nat} (r : Nat) (hr : 0 < r) (h : a ≤ b) : pages a r ≤ pages b r := Nat.le_of_not_lt fun h' => by
  have h1 := (pages_lt hr).1 h'
  have h2 := pages_le (n := b) hr
  omega
theorem w64 (x : Int) (h1 : -4611686018427387904 ≤ x) (h2 : x ≤ 4611686018427387904) : wrap64 x = x := IntWalk.wrap64_in _ (by omega)
theorem wraps_of (p r a b x y : Nat) (hr : p = r + 16) (hr0 : 0 < r) (hr3 : r ≤ 1008) (ha3 : a ≤ 1048576) (hb3 : b ≤ 1048576) (hx3 : x ≤ 1048576) (hy3 : y ≤ 1048576) :
    wrap64 ((p : Int) - 16) = (r : Int) ∧ ¬ (r : Int) = 0 ∧ wrap64 ((a : Int) + (b : Int)) = (a : Int) + (b : Int) ∧ wrap64 ((a : Int) + 1) = (a : Int) + 1 ∧ wrap64 ((x : Int) + (y : Int)) = (x : Int) + (y : Int) ∧ wrap64 (-(a : Int)) = -(a : Int) ∧ wrap64 ((x : Int) - 1) = (x : Int) - 1 ∧ wrap64 ((x : Int) + 1) = (x : Int) + 1 ∧ wrap64 (x : Int) = (x : Int) :=
  ⟨(w64 _ (by omega) (by omega)).trans (by omega), by omega, w64 _ (by omega) (by omega), w64 _ (by omega) (by omega), w64 _ (by omega) (by omega), w64 _ (by omega) (by omega), w64 _ (by omega) (by omega), w64 _ (by omega) (by omega), w64 _ (by omega) (by omega)⟩
theorem eq_one {u x : Nat} (h : u = x + 1) : ((u : Int) == (x : Int) + 1) = true := by
  subst h
  simp
theorem eq_same {u x : Nat} (h : u = x + 0) : ((u : Int) == (x : Int)) = true := by
  subst h
  simp
theorem leqs_of (x y z a q : Nat) (h1 : z ≤ x + y) (h2 : x ≤ z) (h3 : y ≤ z) (h4 : a ≤ q) : decide ((z : Int) ≤ (x : Int) + (y : Int)) = true ∧ decide (max (x : Int) (y : Int) ≤ (z : Int)) = true ∧ decide ((a : Int) ≤ (q : Int)) = true ∧ decide (a ≤ q) = true ∧ decide (z ≤ x + y) = true ∧ decide (max x y ≤ z) = true :=
  ⟨decide_eq_true (by omega), decide_eq_true (by omega), decide_eq_true (by omega), decide_eq_true (by omega), decide_eq_true (by omega), decide_eq_true (by omega)⟩
theorem tPagesN (a p r : Nat) (hp : L7.mayBe p = true) (hr : p = r + 16) (ha : a ≤ 100000000) : Hid (L7.Tells 22 #[.int .i64 a, .int .i64 p] (.int .i64 (pages a r : Nat))) :=
  tPages a p r hp hr (by simp [Lit.wf, IntKind.min, IntKind.max, IntKind.signed, IntKind.bits]; omega) (pagesI_nat a r)

set_option maxHeartbeats 4000000 in
set_option maxRecDepth 100000 in
theorem chainPages_any (hfx : Fixes) (n m : Int) (p : Int) (w : World) (hg : L7.Sizes w) (hn : (Lit.int .u32 n).wf = true) (hm : (Lit.int .u32 m).wf = true) :
    Calls Tryd.prog 6 #[.int .u32 n, .int .u32 m, .int .i64 p] w fun e w' => e = .returned (.bool true) ∧ Below w.heap.size w w' := by
  have HFX : Hid (L7.Tells 18 #[] (.bool true)) := Lib.hid hfx
  have HG := Lib.hid hg
  have HSR : Hid (∀ W, Calls Tryd.prog 17 #[.int .i64 p] W fun e w' => e = .returned (.bool (L7.mayBe p)) ∧ W = w') := Lib.hid (fun W => L7.sizeRef_any p W)
  have hn2 := bounds_u32 hn
  have hm2 := bounds_u32 hm
  obtain ⟨n, rfl⟩ := Int.eq_ofNat_of_zero_le (show 0 ≤ n by omega)
  obtain ⟨m, rfl⟩ := Int.eq_ofNat_of_zero_le (show 0 ≤ m by omega)
  clear hn hm hfx
  cases hp : L7.mayBe p with
  | false =>
    rw [hp] at HSR
    clear hp hg hn2 hm2
    go_enter Tryd.func6, Tryd.ntmps6
    go_wp2_with fail
    refine (HSR.out _).mono ?_
    rintro e V ⟨rfl, rfl⟩
    go_wp2_with fail
    refine (HFX.out _ HG.out).mono ?_
    rintro e V2 ⟨rfl, hb2⟩
    go_wp2_with fail
    go_ret
    exact ⟨rfl, hb2⟩
  | true =>
    have hp2 := mayBe_le hp
    obtain ⟨p, rfl⟩ := Int.eq_ofNat_of_zero_le (show 0 ≤ p by omega)
    obtain ⟨r, hr⟩ : ∃ r, p = r + 16 := ⟨p - 16, by omega⟩
    obtain ⟨a, ha⟩ : ∃ a, n % 1048576 = a := ⟨_, rfl⟩
    obtain ⟨b, hb⟩ : ∃ b, m % 1048576 = b := ⟨_, rfl⟩
    have T1 := tPagesN a p r hp hr (by omega)
    have T2 := tPagesN b p r hp hr (by omega)
    have T3 : Hid (L7.Tells 22 #[.int .i64 ((a : Int) + (b : Int)), .int .i64 p] (.int .i64 (pages (a + b) r : Nat))) := tPagesN (a + b) p r hp hr (by omega)
    have T4 : Hid (L7.Tells 22 #[.int .i64 ((a : Int) + 1), .int .i64 p] (.int .i64 (pages (a + 1) r : Nat))) := tPagesN (a + 1) p r hp hr (by omega)
    have hr0 : 0 < r := by omega
    have e1 := pages_succ a r hr0
    have e2 := pages_sum a b r hr0
    have e3 := pages_mono r hr0 (show a ≤ a + b by omega)
    have e4 := pages_mono r hr0 (show b ≤ a + b by omega)
    have e5 := pages_le (n := a) hr0
    have e6 := fun i => (pages_lt (n := a) (i := i) hr0).1
    have e7 := pages_few (n := a) hr0
    have e8 := pages_few (n := b) hr0
    have hcm : (a : Int).tmod (r : Int) = ((a % r : Nat) : Int) := (Int.ofNat_tmod a r).symm
    have hxr : pages a r * r ≤ a * r := Nat.mul_le_mul_right r e7
    have T5 : Hid (L7.Tells 22 #[.int .i64 (-(a : Int)), .int .i64 p] (.int .i64 0)) := tPages (-(a : Int)) p r hp hr (by simp [Lit.wf, IntKind.min, IntKind.max, IntKind.signed, IntKind.bits]; omega) (by unfold pagesI; rw [if_pos (by omega)])
    rw [hp] at HSR
    generalize pages (a + b) r = z at *
    generalize pages (a + 1) r = u at *
    generalize pages b r = y at *
    have hs : ∃ s : Int, ((pages a r : Nat) : Int) * (r : Int) - (r : Int) = s := ⟨_, rfl⟩
    obtain ⟨s, hs⟩ := hs
    have hs2 : (((pages a r : Nat) : Int) - 1) * (r : Int) = s := by rw [Int.sub_mul, Int.one_mul]; exact hs
    have hs1 : s < max (a : Int) 1 := by
      rcases Nat.eq_zero_or_pos (pages a r) with h | h
      · rw [h] at hs
        have h2 : ((0 : Nat) : Int) * (r : Int) = 0 := by simp
        rw [h2] at hs
        omega
      · have h2 := e6 (pages a r - 1) (by omega)
        have h3 : (((pages a r - 1) * r : Nat) : Int) = s := by
          rw [← hs2, Int.natCast_mul, Int.natCast_sub h]
          rfl
        omega
    generalize pages a r = x at *
    obtain ⟨q, hq⟩ : ∃ q : Nat, x * r = q := ⟨_, rfl⟩
    have hq2 : (x : Int) * (r : Int) = (q : Int) := by rw [← hq]; exact (Int.natCast_mul x r).symm
    rw [hq] at e5
    have hx6 : x ≤ 1048576 := by omega
    have hr6 : r ≤ 1100 := by omega
    have hq3 : q ≤ 1153433600 := by
      have h := Nat.mul_le_mul hx6 hr6
      rw [hq] at h
      exact h
    have hsl : -1100 ≤ s ∧ s ≤ 1153433600 := by
      rw [hq2] at hs
      omega
    obtain ⟨c, hc⟩ : ∃ c : Nat, a % r = c := ⟨_, rfl⟩
    have hcm2 : (a : Int) % (r : Int) = (c : Int) := by rw [← hc]; exact (Int.natCast_emod a r).symm
    rw [hc] at e1
    have t1 : (n : Int).tmod 1048576 = (a : Int) := by rw [← ha]; exact (Int.ofNat_tmod n 1048576).symm
    have t2 : (m : Int).tmod 1048576 = (b : Int) := by rw [← hb]; exact (Int.ofNat_tmod m 1048576).symm
    have T1' := Lib.hid t1
    have T2' := Lib.hid t2
    have C1' := Lib.hid hcm2
    have v1 : wrap64 (n : Int) = n := IntWalk.wrap64_in _ (by omega)
    have v2 : wrap64 (m : Int) = m := IntWalk.wrap64_in _ (by omega)
    have ha3 : a ≤ 1048576 := by rw [← ha]; exact Nat.le_of_lt (Nat.mod_lt _ (by decide))
    have hb3 : b ≤ 1048576 := by rw [← hb]; exact Nat.le_of_lt (Nat.mod_lt _ (by decide))
    have HE : Hid (u = x + if c = 0 then 1 else 0) := Lib.hid e1
    clear ha hb hxr hs hq hcm hcm2 hc t1 t2 e1 e6 hn2 hm2 hg
    have hx3 : x ≤ 1048576 := Nat.le_trans e7 ha3
    have hy3 : y ≤ 1048576 := Nat.le_trans e8 hb3
    have hr3 : r ≤ 1008 := by omega
    obtain ⟨f1, f0, f2, f3, f5, f6, f8, f10, f11⟩ := wraps_of p r a b x y hr hr0 hr3 ha3 hb3 hx3 hy3
    have f7 : wrap64 ((x : Int) * (r : Int)) = (q : Int) := by rw [hq2]; exact w64 _ (by omega) (by clear hsl hs1; omega)
    have f9 : wrap64 (((x : Int) - 1) * (r : Int)) = s := by rw [hs2]; exact w64 _ (by clear hs1; omega) (by clear hs1; omega)
    obtain ⟨g1, g2, g3, g5, g6, g7⟩ := leqs_of x y z a q e2 e3 e4 e5
    have g4 : decide (s < max (a : Int) 1) = true := decide_eq_true hs1
    have t1 := T1'.out
    have t2 := T2'.out
    have hcm2 := C1'.out
    clear hx3 hy3 hr3 T1' T2' C1' ha3 hb3 hx6 hr6 hp2 hp hr e2 e3 e4 e5 e7 e8 hs2 hs1 hq2 hq3 hsl hr0
    go_enter Tryd.func6, Tryd.ntmps6
    go_wp2_with fail
    refine (HSR.out _).mono ?_
    rintro e V ⟨rfl, rfl⟩
    go_wp2_with fail
    refine (T1.out _ HG.out).mono ?_
    rintro e V1 ⟨rfl, hb⟩
    have HB1 := Lib.hid hb
    have HG1 := Lib.hid (HG.out.below HG.out.lt hb)
    clear hb
    go_wp2_with fail
    refine (T2.out _ HG1.out).mono ?_
    rintro e V2 ⟨rfl, hb⟩
    have HB2 := Lib.hid (HB1.out.trans' hb)
    have HG2 := Lib.hid (HG1.out.below HG1.out.lt hb)
    clear hb HB1 HG1
    by_cases hc0 : c = 0
    · have k1 : ((c : Int) == 0) = true := by simpa using hc0
      have k2 : ((u : Int) == (x : Int) + 1) = true := by
        have h := HE.out
        rw [if_pos hc0] at h
        exact eq_one h
      clear hc0
      go_wp2_with fail
      refine (T3.out _ HG2.out).mono ?_
      rintro e V3 ⟨rfl, hb⟩
      have HB3 := Lib.hid (HB2.out.trans' hb)
      have HG3 := Lib.hid (HG2.out.below HG2.out.lt hb)
      clear hb
      go_wp2_with fail
      refine (T4.out _ HG3.out).mono ?_
      rintro e V4 ⟨rfl, hb⟩
      have HB4 := Lib.hid (HB3.out.trans' hb)
      have HG4 := Lib.hid (HG3.out.below HG3.out.lt hb)
      clear hb
      go_wp2_with fail
      refine (T5.out _ HG4.out).mono ?_
      rintro e V5 ⟨rfl, hb⟩
      have HB5 := Lib.hid (HB4.out.trans' hb)
      have HG5 := Lib.hid (HG4.out.below HG4.out.lt hb)
      clear hb
      go_wp2_with fail
      refine (HFX.out _ HG5.out).mono ?_
      rintro e V6 ⟨rfl, hb⟩
      have HB6 := Lib.hid (HB5.out.trans' hb)
      clear hb
      go_wp2_with fail
      go_ret
      exact ⟨rfl, HB6.out⟩
    · have k1 : ((c : Int) == 0) = false := by simpa using hc0
      have k2 : ((u : Int) == (x : Int)) = true := by
        have h := HE.out
        rw [if_neg hc0] at h
        exact eq_same h
      clear hc0
      go_wp2_with fail
      refine (T3.out _ HG2.out).mono ?_
      rintro e V3 ⟨rfl, hb⟩
      have HB3 := Lib.hid (HB2.out.trans' hb)
      have HG3 := Lib.hid (HG2.out.below HG2.out.lt hb)
      clear hb
      go_wp2_with fail
      refine (T4.out _ HG3.out).mono ?_
      rintro e V4 ⟨rfl, hb⟩
      have HB4 := Lib.hid (HB3.out.trans' hb)
      have HG4 := Lib.hid (HG3.out.below HG3.out.lt hb)
      clear hb
      go_wp2_with fail
      refine (T5.out _ HG4.out).mono ?_
      rintro e V5 ⟨rfl, hb⟩
      have HB5 := Lib.hid (HB4.out.trans' hb)
      have HG5 := Lib.hid (HG4.out.below HG4.out.lt hb)
      clear hb
      go_wp2_with fail
      refine (HFX.out _ HG5.out).mono ?_
      rintro e V6 ⟨rfl, hb⟩
      have HB6 := Lib.hid (HB5.out.trans' hb)
      clear hb
      go_wp2_with fail
      go_ret
      exact ⟨rfl, HB6.out⟩
theorem chainPages_walk (n m p : Int) (w : World) (hg : L7.Sizes w) (hn : (Lit.int .u32 n).wf = true) (hm : (Lit.int .u32 m).wf = true) (hp : (Lit.int .i64 p).wf = true) :
    Calls Tryd.prog 6 #[.int .u32 n, .int .u32 m, .int .i64 p] w fun e w' => e = .returned (.bool true) ∧ Below w.heap.size w w' := chainPages_any fixed_any n m p w hg hn hm
end Go.Proofs.YtahkigabapdleaaDoor
