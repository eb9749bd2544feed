/-
  The walk of ChainParts.
-/
import Derived.Test.YtahkigabapdleaaDoorCFixed
namespace Go.Proofs.YtahkigabapdleaaDoor
open Go.RowKit CP
set_option linter.unusedVariables false
set_option linter.unusedSimpArgs false

theorem w64p (x : Int) (h1 : -4611686018427387904 ≤ x) (h2 : x ≤ 4611686018427387904) : wrap64 x = x := IntWalk.wrap64_in _ (by omega)
theorem nums_parts (p r n i : Nat) (hr : p = r + 16) (hr3 : r ≤ 1008) (hn : n ≤ 3000) (hi : i < n) : wrap64 ((p : Int) - 16) = (r : Int) ∧ wrap64 ((i : Int) + 1) = (i : Int) + 1 ∧ wrap64 ((n : Int) - 1) = (n : Int) - 1 ∧ wrap64 ((n : Int) - 1 - (i : Int)) = ((n - 1 - i : Nat) : Int) :=
  ⟨(w64p _ (by omega) (by omega)).trans (by omega), w64p _ (by omega) (by omega), w64p _ (by omega) (by omega), (w64p _ (by omega) (by omega)).trans (by omega)⟩
theorem meas_lt {n i : Nat} (h : i < n) : n - ((i : Int) + 1).toNat < n - (i : Int).toNat := by omega
theorem meas_w {n i : Nat} (h : wrap64 ((i : Int) + 1) = (i : Int) + 1) (hl : i < n) : n - (intOf (.int .i64 (wrap64 ((i : Int) + 1)))).toNat < n - (intOf (.int .i64 (i : Int))).toNat := by
  rw [h]
  show n - ((i : Int) + 1).toNat < n - (i : Int).toNat
  omega
theorem int_succ {i : Nat} (h : wrap64 ((i : Int) + 1) = (i : Int) + 1) : Value.int .i64 (wrap64 ((i : Int) + 1)) = .int .i64 ((i + 1 : Nat) : Int) := by
  rw [h]
  rfl
theorem may_mid {s : ByteArray} {r p : Nat} (hp : L7.mayBe p = true) (hr : p = r + 16) (h : s.size = r) (hr1 : 112 ≤ r) : decide (May 1 2 s.size p) = true := decide_eq_true (by
  refine ⟨hp, by unfold NumOk; omega, ?_⟩
  unfold DataOk
  omega)
theorem may_end {s : ByteArray} {r p : Nat} (hp : L7.mayBe p = true) (hr : p = r + 16) (h : 1 ≤ s.size) (h2 : s.size ≤ r) : decide (May 1 0 s.size p) = true := decide_eq_true (by
  refine ⟨hp, by unfold NumOk; omega, ?_⟩
  unfold DataOk
  omega)

set_option maxHeartbeats 4000000 in
set_option maxRecDepth 100000 in
theorem chainParts_any (hfx : Fixes) (v : ByteArray) (p : Int) (w : World) (hg : L7.Sizes w) (hv : v.size ≤ maxLen) :
    Calls Tryd.prog 5 #[.string v, .int .i64 p] w fun e w' => e = .returned (.bool true) ∧ Below w.heap.size w w' := by
  have HFX : Hid (L7.Tells 18 #[] (.bool true)) := Lib.hid hfx
  have HG := Lib.hid hg
  have HSR : Hid (∀ W, Calls Tryd.prog 17 #[.int .i64 p] W fun e w' => e = .returned (.bool (L7.mayBe p)) ∧ W = w') := Lib.hid (fun W => L7.sizeRef_any p W)
  obtain ⟨m, hm1, hm2, hm3⟩ : ∃ m : Nat, min (v.size : Int) 3000 = m ∧ m ≤ 3000 ∧ m ≤ v.size := ⟨min v.size 3000, by omega, by omega, by omega⟩
  obtain ⟨U, hU⟩ : ∃ U, v.extract 0 m = U := ⟨_, rfl⟩
  have hU2 : U.size ≤ 3000 := by rw [← hU, ByteArray.size_extract]; omega
  have q1 : (0 : Int) ≤ m := by omega
  have q2 : (m : Int) ≤ v.size := by omega
  clear hm2 hm3 hv hfx
  cases hp : L7.mayBe p with
  | false =>
    rw [hp] at HSR
    have M0 : Hid (L7.Tells 15 #[cv 1 0 ⟨#[120]⟩, .int .i64 p] (.bool false)) := tMay 1 0 ⟨#[120]⟩ p (decide_eq_false (fun h => by have h2 := h.1; rw [hp] at h2; cases h2))
    clear hp hg hU2
    go_enter Tryd.func5, Tryd.ntmps5
    go_wp2_with fail
    refine (HSR.out _).mono ?_
    rintro e V ⟨rfl, rfl⟩
    go_wp2_with fail
    refine (M0.out _ HG.out).mono ?_
    rintro e V1 ⟨rfl, hb⟩
    have HB1 := Lib.hid hb
    have HG1 := Lib.hid (HG.out.below HG.out.lt hb)
    clear hb
    go_wp2_with fail
    refine (HFX.out _ HG1.out).mono ?_
    rintro e V2 ⟨rfl, hb2⟩
    go_wp2_with fail
    go_ret
    exact ⟨rfl, HB1.out.trans' hb2⟩
  | true =>
    rw [hp] at HSR
    have hp2 := mayBe_le hp
    obtain ⟨p, rfl⟩ : ∃ q : Nat, p = q := Int.eq_ofNat_of_zero_le (by omega)
    obtain ⟨r, hr⟩ : ∃ r, p = r + 16 := ⟨p - 16, by omega⟩
    have hr1 : 112 ≤ r ∧ r ≤ 1008 := by omega
    have hr0 : 0 < r := by omega
    have HPT := Lib.hid (parts_any U p r w hp hr (by omega) hg)
    have GP : Hid (L7.Tells 22 #[.int .i64 U.size, .int .i64 p] (.int .i64 (pages U.size r : Nat))) := tPages U.size p r hp hr (by simp [Lit.wf, IntKind.min, IntKind.max, IntKind.signed, IntKind.bits]; omega) (pagesI_nat U.size r)
    have HPARTS : Hid (∀ i, i < pages U.size r → ∃ s, (cuts U r)[i]? = some s ∧ 1 ≤ s.size ∧ s.size ≤ r ∧ (i + 1 < pages U.size r → s.size = r) ∧ upto U r i ++ s = upto U r (i + 1)) := Lib.hid (fun i hi => ⟨_, cuts_get hi, part_pos hr0 hi, part_le U r i, fun h => part_full hr0 h, upto_next hr0 hi⟩)
    have HUP : Hid (∀ i, (upto U r i).size ≤ 3000) := Lib.hid (fun i => by rw [upto_size]; omega)
    have HU0 : Hid (upto U r 0 = ⟨#[]⟩) := Lib.hid (upto_zero U r)
    have HUN : Hid (upto U r (pages U.size r) = U) := Lib.hid (upto_all hr0)
    have hn3 : pages U.size r ≤ 3000 := by have := pages_few (n := U.size) hr0; omega
    have HNUM : Hid (∀ i, i < pages U.size r → wrap64 ((p : Int) - 16) = (r : Int) ∧ wrap64 ((i : Int) + 1) = (i : Int) + 1 ∧ wrap64 ((pages U.size r : Nat) - 1 : Int) = ((pages U.size r : Nat) : Int) - 1 ∧ wrap64 (((pages U.size r : Nat) : Int) - 1 - (i : Int)) = ((pages U.size r - 1 - i : Nat) : Int)) := Lib.hid (fun i hi => nums_parts p r _ i hr hr1.2 hn3 hi)
    have HMM : Hid (∀ s : ByteArray, s.size = r → Hid (L7.Tells 15 #[cv 1 2 s, .int .i64 p] (.bool true))) := Lib.hid (fun s h => tMay 1 2 s p (may_mid hp hr h hr1.1))
    have HME : Hid (∀ s : ByteArray, 1 ≤ s.size → s.size ≤ r → Hid (L7.Tells 15 #[cv 1 0 s, .int .i64 p] (.bool true))) := Lib.hid (fun s h h2 => tMay 1 0 s p (may_end hp hr h h2))
    have HN3 := Lib.hid hn3
    have HRR := Lib.hid hr1
    generalize cuts U r = L at *
    generalize pages U.size r = n at *
    generalize upto U r = up at *
    clear hp hr hp2 hr1 hr0 hn3 hg hU2
    go_enter Tryd.func5, Tryd.ntmps5
    go_wp2_with fail
    refine (HSR.out _).mono ?_
    rintro e V ⟨rfl, rfl⟩
    go_wp2_with fail
    (try rw [hU])
    refine HPT.out.mono ?_
    rintro e V1 ⟨G, gc, rfl, hL, hb⟩
    have HL := Lib.hid hL
    have HB1 := Lib.hid hb
    have HG1 := Lib.hid (HG.out.below HG.out.lt hb)
    clear hL hb
    go_wp2_with fail
    go_loopw [6, 7] (fun av iv wr => ∃ (i : Nat) (A : ByteArray), i ≤ n ∧ iv = .int .i64 i ∧ av = .string A ∧ Hid (A = up i) ∧ Hid (Below V1.heap.size V1 wr)) (fun _ iv _ => n - (intOf iv).toNat)
    case atStart => exact ⟨0, ⟨#[]⟩, by omega, rfl, rfl, Lib.hid HU0.out.symm, Lib.hid (Below.refl _ _)⟩
    case round =>
      obtain ⟨i, A, hi, rfl, rfl, HA, HBk⟩ := hrel
      have HLk := Lib.hid (HL.out.on HBk.out)
      by_cases hlt : i < n
      · obtain ⟨s, hs1, hs2, hs3, hs4, hs5⟩ := HPARTS.out i hlt
        obtain ⟨a, rfl, hab, hcell⟩ := HLk.out i s hs1
        have d1 : decide ((i : Int) < (n : Int)) = true := decide_eq_true (by omega)
        have d2 : decide (i < n) = true := decide_eq_true hlt
        have d3 : (0 : Int) ≤ i := by omega
        have d4 : (i : Int) < n := by omega
        have d5 : decide ((s.size : Int) < 1) = false := decide_eq_false (by omega)
        have d6 : decide (s.size < 1) = false := decide_eq_false (by omega)
        have d7 : decide ((r : Int) < (s.size : Int)) = false := decide_eq_false (by omega)
        have d8 : decide (r < s.size) = false := decide_eq_false (by omega)
        have hAs : A.size ≤ 3000 := by rw [HA.out]; exact HUP.out i
        have d9 : ¬ 9223372036854775807 < A.size + s.size := by have := HRR.out; omega
        have d10 : ¬ (9223372036854775807 : Int) < (A.size : Int) + (s.size : Int) := by have := HRR.out; omega
        have HAN : Hid (A ++ s = up (i + 1)) := Lib.hid (by rw [HA.out]; exact hs5)
        by_cases hl : i + 1 < n
        · have e1 : decide ((i : Int) + 1 < (n : Int)) = true := decide_eq_true (by omega)
          have e2 : decide (i + 1 < n) = true := decide_eq_true hl
          have e3 : ((s.size : Int) != (r : Int)) = false := by rw [hs4 hl]; simp
          obtain ⟨j, hj, hj1⟩ : ∃ j : Nat, n - 1 - i = j ∧ 1 ≤ j := ⟨_, rfl, by omega⟩
          have e4 : min (1 : Int) (j : Int) = 1 := by omega
          have HM := HMM.out s (hs4 hl)
          have hN := HNUM.out i hlt
          rw [hj] at hN
          have HS1 := Lib.hid hs1
          have HLT := Lib.hid hlt
          clear hj hj1 hs1 hs2 hs3 hs4 hs5 hAs hl hlt hi hab
          obtain ⟨f1, f2, f3, f4⟩ := hN
          go_wp2_with fail
          refine (L7.Tells.at HM HG1 HBk.out).mono ?_
          rintro e V2 ⟨rfl, hb⟩
          have HBv := Lib.hid hb
          obtain ⟨a', ha', hab', hcell'⟩ := (HL.out.on hb) i s HS1.out
          obtain rfl := Option.some.inj ha'
          clear hb ha' hcell
          go_wp2_with fail
          go_roundw
          case rel => exact ⟨i + 1, A ++ s, HLT.out, int_succ f2, rfl, HAN, HBv⟩
          case measure =>
            exact meas_w f2 HLT.out
        · have e1 : decide ((i : Int) + 1 < (n : Int)) = false := decide_eq_false (by omega)
          have e2 : decide (i + 1 < n) = false := decide_eq_false hl
          obtain ⟨j, hj, hj1⟩ : ∃ j : Nat, n - 1 - i = j ∧ j = 0 := ⟨_, rfl, by omega⟩
          have e4 : min (1 : Int) (j : Int) = 0 := by omega
          have HM := HME.out s hs2 hs3
          have hN := HNUM.out i hlt
          rw [hj] at hN
          have HS1 := Lib.hid hs1
          have HLT := Lib.hid hlt
          clear hj hj1 hs1 hs2 hs3 hs4 hs5 hAs hl hlt hi hab
          obtain ⟨f1, f2, f3, f4⟩ := hN
          go_wp2_with fail
          refine (L7.Tells.at HM HG1 HBk.out).mono ?_
          rintro e V2 ⟨rfl, hb⟩
          have HBv := Lib.hid hb
          obtain ⟨a', ha', hab', hcell'⟩ := (HL.out.on hb) i s HS1.out
          obtain rfl := Option.some.inj ha'
          clear hb ha' hcell
          go_wp2_with fail
          go_roundw
          case rel => exact ⟨i + 1, A ++ s, HLT.out, int_succ f2, rfl, HAN, HBv⟩
          case measure =>
            exact meas_w f2 HLT.out
      · obtain rfl : i = n := by omega
        obtain rfl : A = U := by rw [HA.out]; exact HUN.out
        have e1 : (A.toList == A.toList) = true := by simp
        have e2 : ((i : Int) == (i : Int)) = true := by simp
        go_wp2_with fail
        refine (L7.Tells.at GP HG1 HBk.out).mono ?_
        rintro e V2 ⟨rfl, hb⟩
        have HB2 := Lib.hid hb
        clear hb
        go_wp2_with fail
        refine (L7.Tells.at HFX HG1 HB2.out).mono ?_
        rintro e V3 ⟨rfl, hb⟩
        have HB3 := Lib.hid hb
        clear hb
        go_wp2_with fail
        go_ret
        exact ⟨rfl, HB1.out.trans' HB3.out⟩
theorem chainParts_walk (v : ByteArray) (p : Int) (w : World) (hg : L7.Sizes w) (hv : v.size ≤ maxLen) (hp : (Lit.int .i64 p).wf = true) :
    Calls Tryd.prog 5 #[.string v, .int .i64 p] w fun e w' => e = .returned (.bool true) ∧ Below w.heap.size w w' := chainParts_any fixed_any v p w hg hv
end Go.Proofs.YtahkigabapdleaaDoor
