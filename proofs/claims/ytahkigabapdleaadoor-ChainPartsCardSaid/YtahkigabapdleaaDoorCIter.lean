/-
  The walks of chain.cuts, and of the iterator that it makes.
-/
import Derived.Test.YtahkigabapdleaaDoorCRound
import Derived.Test.YtahkigabapdleaaDoorCMay
import Derived.Stop.RegionWithIn
namespace Go.Proofs.YtahkigabapdleaaDoor
open Go.RowKit CP
set_option linter.unusedVariables false
set_option linter.unusedSimpArgs false
attribute [local go_sem] Oper.semAt_some

/-- Places of parts. -/
abbrev Pl (n : Nat) := { k : Nat // k < n }
def paVals (v : ByteArray) (r : Nat) {n : Nat} (x : Pl n) : Array Value := #[.string (CP.part v r x.1)]

theorem boxed_isCells {w : World} {b : Nat} {t : TypeId} {v : Value} (h : Boxed w b t v) : IsCells w b := ⟨_, _, _, h⟩
/-- What follows is walked once. -/
theorem share2 {A T : Bool → World → Prop} {G : Prop} (main : (∀ b W, A b W → T b W) → G) (tail : ∀ b W, A b W → T b W) : G := main tail

set_option maxRecDepth 100000 in
set_option maxHeartbeats 4000000 in
theorem cuts1_in (n0 : Nat) (hn0 : 1 ≤ n0) (l Bp Bv X : Nat) (p r : Nat) (v : ByteArray) (hp : L7.mayBe p = true) (hr : p = r + 16) (hv : v.size ≤ 1000000) (J Jx : List (Pl (pages v.size r)) → World → Prop) (W0 : World) (hJ : AbidesFrom W0.heap.size J) (hJx : AbidesFrom W0.heap.size Jx)
    (hY : ∀ pre x W, J pre W → pre.length < pages v.size r + 1 → YieldAt Fence.wide (n0 - 1) Tryd.prog l (paVals v r x) W fun e W' =>
      (e = .returned (.bool true) ∧ J (pre ++ [x]) W' ∧ KpR X W W') ∨ (e = .returned (.bool false) ∧ Jx (pre ++ [x]) W'))
    (hBp : Boxed W0 Bp 3 (.int .i64 p)) (hBv : Boxed W0 Bv 9 (.string v)) (hS : L7.Sizes W0) (hX : IsCells W0 X) (hXr : ∀ k, RowAt X W0 k → k ≠ Bp ∧ k ≠ Bv) (hXp : Bp ≠ X) (hXv : Bv ≠ X) (h0 : J [] W0) :
    CallsIn Fence.wide n0 Tryd.prog 44 #[.func (.yield l) #[] #[], .pointer (some ⟨Bp, 0, none⟩), .pointer (some ⟨Bv, 0, none⟩)] W0 fun e W' => (∃ v, e = .returned v) ∧
      ((∃ xs, xs.map (·.1) = List.range (pages v.size r) ∧ J xs W') ∨ (∃ pre, True ∧ Jx pre W')) := by
  have hp2 := mayBe_le hp
  refine callsIn_of_wp Tryd.func44 rfl trivial ?_ rfl
  simp only [Tryd.ntmps44, List.size_toArray, List.length_cons, List.length_nil, Nat.reduceAdd, Nat.reduceSub, Array.replicate_succ, Array.replicate_zero, List.push_toArray, List.append_toArray, List.nil_append, List.cons_append]
  have HSZ := Lib.hid (L7.size_any p W0 hS)
  rw [hp] at HSZ
  have HRM := Lib.hid (fun W => room_any p W hp2)
  have HLT : Hid (∀ i, i < pages v.size r ↔ i * r < v.size) := Lib.hid (fun i => pages_lt (by omega))
  have HLE : Hid (v.size ≤ pages v.size r * r) := Lib.hid (pages_le (by omega))
  have HRb : Hid (112 ≤ r ∧ r ≤ 1008) := Lib.hid (by omega)
  have hpr : (p : Int) - 16 = (r : Int) := by omega
  rw [hpr] at HRM
  have HX := Lib.hid hX
  have HXR := Lib.hid hXr
  have HXP := Lib.hid hXp
  have HXV := Lib.hid hXv
  have H0 := Lib.hid h0
  have HBP := Lib.hid hBp
  have HBV := Lib.hid hBv
  have cp := hBp.cell
  have cv := hBv.cell
  have HV : Hid (v.size ≤ 1000000) := Lib.hid hv
  clear hp hp2 hr hpr hX hXr hXp hXv h0 hBp hBv hS hv
  gi_wp2_with fail
  refine ⟨trivial, ?_⟩
  refine (callsIn_wide.2 HSZ.out).mono ?_
  rintro e w1 ⟨rfl, rfl⟩
  gi_wp2_with fail
  clear cp cv
  gi_loopw [4] (fun av wr => ∃ (k a : Nat) (xs : List (Pl (pages v.size r))), k ≤ pages v.size r ∧ Hid (a = k * r) ∧ av = .int .i64 a ∧ Hid (xs.map (·.1) = List.range k) ∧ Hid (J xs wr) ∧ Hid (Boxed wr Bp 3 (.int .i64 p)) ∧ Hid (Boxed wr Bv 9 (.string v)) ∧ Hid (IsCells wr X) ∧ Hid (∀ k, RowAt X wr k → k ≠ Bp ∧ k ≠ Bv) ∧ Hid (W0.heap.size ≤ wr.heap.size)) (fun av _ => v.size - (intOf av).toNat)
  case atStart => exact ⟨0, 0, [], by omega, Lib.hid (by simp), rfl, Lib.hid rfl, H0, HBP, HBV, HX, HXR, Lib.hid (Nat.le_refl _)⟩
  case round =>
    obtain ⟨k, a, xs, hk, HA, rfl, HXS, HJ3, HP3, HV3, HX3, HXR3, HS3⟩ := hrel
    have cp := HP3.out.cell
    have cv := HV3.out.cell
    by_cases hlt : a < v.size
    · have d1 : decide ((a : Int) < (v.size : Int)) = true := decide_eq_true (by omega)
      have d2 : decide (a < v.size) = true := decide_eq_true hlt
      have hkl : k < pages v.size r := (HLT.out k).2 (by rw [← HA.out]; exact hlt)
      have hlen : xs.length < pages v.size r + 1 := by
        have := congrArg List.length HXS.out
        simp at this
        omega
      obtain ⟨m, hm1, hm2, hm3, hm4⟩ : ∃ m : Nat, min ((a : Int) + (r : Int)) (v.size : Int) = m ∧ m = min (a + r) v.size ∧ a ≤ m ∧ m ≤ v.size := ⟨min (a + r) v.size, by omega, rfl, by omega, by omega⟩
      have hpart : CP.part v r k = v.extract a m := by unfold CP.part; rw [← HA.out, hm2]
      obtain ⟨fn, tmps, assign, body, hy, hR⟩ := hY xs ⟨k, hkl⟩ wr.drew (abides_below' hJ HJ3.out (L5.below_drewN (Below.refl _ wr) 1)) hlen
      have hR2 := hR.mono (R' := fun e W' => ∃ b : Bool, e = .returned (.bool b) ∧ Hid ((b = true ∧ J (xs ++ [⟨k, hkl⟩]) W' ∧ KpR X wr.drew W') ∨ (b = false ∧ Jx (xs ++ [⟨k, hkl⟩]) W'))) (fun e W' h => by
        rcases h with ⟨rfl, h1, h2⟩ | ⟨rfl, h1⟩
        · exact ⟨true, rfl, Lib.hid (.inl ⟨rfl, h1, h2⟩)⟩
        · exact ⟨false, rfl, Lib.hid (.inr ⟨rfl, h1⟩)⟩)
      dsimp only [paVals] at hy
      rw [hpart] at hy
      have hw : IntKind.i64.wrap ((a : Int) + (r : Int)) = (a : Int) + (r : Int) := IntWalk.i64_in _ (by have := HV.out; have := HRb.out; omega)
      have q1 : (0 : Int) ≤ a := by omega
      have q2 : (a : Int) ≤ m := by omega
      have q3 : (m : Int) ≤ v.size := by omega
      clear hR hm2 hm3 hm4 hpart
      gi_wp2_with fail
      clear hY hJ hJx H0 HX HXR HBP HBV HSZ hk hlen HLT HLE HV
      apply share2 (A := fun b W' => Hid ((b = true ∧ J (xs ++ [⟨k, hkl⟩]) W' ∧ KpR X wr.drew W') ∨ (b = false ∧ Jx (xs ++ [⟨k, hkl⟩]) W')))
      · intro JJ
        have HJJ := Lib.hid JJ
        clear JJ
        gi_region_with (first
          | (refine ⟨trivial, ?_⟩; refine (callsIn_wide.2 (HRM.out _)).mono ?_; rintro e w2 ⟨rfl, rfl⟩)
          | (refine hR2.mono ?_; rintro e W3 ⟨b, rfl, HP⟩))
        all_goals exact HJJ.out b W3 HP
      rintro b W3 HP
      cases b with
      | true =>
        obtain ⟨hJ4, hk4⟩ : J (xs ++ [⟨k, hkl⟩]) W3 ∧ KpR X wr.drew W3 := by
          rcases HP.out with ⟨_, h1, h2⟩ | ⟨h, _⟩
          · exact ⟨h1, h2⟩
          · cases h
        obtain ⟨k1, k2, k3, k4⟩ := hk4 HX3.out
        have HP4 : Hid (Boxed W3 Bp 3 (.int .i64 p)) := Lib.hid ((k3 Bp (boxed_isCells HP3.out) HXP.out (fun h => (HXR3.out Bp h).1 rfl)).trans HP3.out)
        have HV4 : Hid (Boxed W3 Bv 9 (.string v)) := Lib.hid ((k3 Bv (boxed_isCells HV3.out) HXV.out (fun h => (HXR3.out Bv h).2 rfl)).trans HV3.out)
        have HXR4 : Hid (∀ k, RowAt X W3 k → k ≠ Bp ∧ k ≠ Bv) := Lib.hid (fun i hi => by
          rcases k4 i hi with h | h
          · exact HXR3.out i h
          · have h1 : wr.heap.size ≤ i := h
            have h2 := HP3.out.lt
            have h3 := HV3.out.lt
            omega)
        have HS4 : Hid (W0.heap.size ≤ W3.heap.size) := Lib.hid (Nat.le_trans HS3.out k2)
        have HX4 := Lib.hid k1
        have HJ4 := Lib.hid hJ4
        have cp4 := HP4.out.cell
        clear k1 k2 k3 k4 hk4 HP hJ4 cp cv
        gi_wp2_with fail
        refine ⟨trivial, ?_⟩
        refine (callsIn_wide.2 (HRM.out _)).mono ?_
        rintro e w2 ⟨rfl, rfl⟩
        gi_wp2_with fail
        go_roundw
        case rel => exact ⟨k + 1, a + r, xs ++ [⟨k, hkl⟩], by omega, Lib.hid (by rw [HA.out, Nat.succ_mul]), by first | rfl | simp, Lib.hid (by rw [List.map_append, HXS.out, List.range_succ]; rfl), HJ4, HP4, HV4, HX4, HXR4, HS4⟩
        case measure => simp [intOf]; have := HRb.out; omega
      | false =>
        have HJx : Hid (Jx (xs ++ [⟨k, hkl⟩]) W3) := Lib.hid (by
          rcases HP.out with ⟨h, _, _⟩ | ⟨_, h⟩
          · cases h
          · exact h)
        clear HP
        gi_wp2_with fail
        refine bodyPost_ret (results_none rfl _ _ _) rfl ?_
        exact ⟨⟨_, rfl⟩, .inr ⟨_, trivial, HJx.out⟩⟩
    · have d1 : decide ((a : Int) < (v.size : Int)) = false := decide_eq_false (by omega)
      have d2 : decide (a < v.size) = false := decide_eq_false hlt
      obtain rfl : k = pages v.size r := by
        rcases Nat.lt_or_ge k (pages v.size r) with h | h
        · exact absurd (by rw [HA.out]; exact (HLT.out k).1 h) hlt
        · omega
      gi_wp2_with fail
      go_end0
      exact ⟨⟨_, rfl⟩, .inl ⟨xs, HXS.out, HJ3.out⟩⟩
end Go.Proofs.YtahkigabapdleaaDoor
