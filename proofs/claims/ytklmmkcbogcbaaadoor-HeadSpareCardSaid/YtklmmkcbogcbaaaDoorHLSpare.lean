/-
  The walk of the law HeadSpare.
-/
import Derived.Test.YtklmmkcbogcbaaaDoorHFixed
import Derived.Test.YtklmmkcbogcbaaaDoorHLBody
namespace Go.Proofs.YtklmmkcbogcbaaaDoor
open Go.RowKit
set_option linter.unusedVariables false
set_option linter.unusedSimpArgs false

theorem rest_more (b : List UInt8) (k p : Nat) (h : b.length + k + 16 ≤ p) : HP.rest (b ++ List.replicate k 0) p = HP.rest b p := by
  unfold HP.rest
  rw [List.length_append, List.length_replicate, List.append_assoc, List.replicate_append_replicate]
  congr 2
  omega
theorem rest_one (b : List UInt8) (k p : Nat) (h : b.length + k + 1 + 16 ≤ p) : HP.rest (b ++ List.replicate k 0 ++ [1]) p ≠ HP.rest b p := by
  intro e
  have e2 := congrArg (fun l => l[b.length + k]?) e
  obtain ⟨n, hn⟩ : ∃ n, n = p - 16 - (b ++ List.replicate k 0 ++ [1]).length := ⟨_, rfl⟩
  have h1 : (HP.rest (b ++ List.replicate k 0 ++ [1]) p)[b.length + k]? = some 1 := by
    unfold HP.rest
    rw [← hn, List.append_assoc, List.getElem?_append_right (by simp)]
    simp
  have h2 : (HP.rest b p)[b.length + k]? = some 0 := by
    unfold HP.rest
    rw [List.getElem?_append_right (by omega), List.getElem?_replicate, if_pos (by omega)]
  simp only [h1, h2] at e2
  exact absurd (Option.some.inj e2) (by decide)

set_option maxHeartbeats 4000000 in
set_option maxRecDepth 100000 in
theorem headSpare_walk (h : HP.H) (S : ByteArray) (p : Int) (c : Int) (w : World) (hs : Sizes w) (wS : S.size ≤ maxLen) (wp : (Lit.int .i64 p).wf = true) (wc : (Lit.int .u8 c).wf = true) :
    Calls Tryd.prog 8 #[hv h, .agg #[.string S, .int .i64 p], .int .u8 c] w fun e w' => e = .returned (.bool true) ∧ Below w.heap.size w w' := by
  have hcb := bounds_u8 wc
  have hpb := bounds_i64 wp
  obtain ⟨c, rfl⟩ := Int.eq_ofNat_of_zero_le hcb.1
  obtain ⟨m, hm, hm1, hms, hm2, hts⟩ := cut_min S 1100 (by omega)
  obtain ⟨X, hX⟩ : ∃ X, S.extract 0 m = X := ⟨_, rfl⟩
  rw [hX] at hts
  have hXs : X.size ≤ 1100 := by omega
  have hXl : X.data.toList.length = X.size := by simp
  have SG := tSeal h X p wp (by unfold maxLen; omega)
  have HFX : Hid (Tells 16 #[] (.bool true)) := Lib.hid fun W hW => fixed_any W hW
  obtain ⟨W0, hw0, HWB, HS0, HXH, HXB⟩ := body_boxes h S p w hs
  have HBV : Hid (∀ V, Below W0.heap.size W0 V → Hid (Below W0.heap.size W0 V) ∧ V.cell? ⟨w.heap.size, 0, none⟩ = some (.int .i64 h.k) ∧ V.cell? ⟨w.heap.size, 1, none⟩ = some (.int .i64 h.l) ∧ V.cell? ⟨w.heap.size, 2, none⟩ = some (.int .i64 h.c) ∧ V.cell? ⟨w.heap.size, 3, none⟩ = some (.int .i64 h.r) ∧ V.cell? ⟨w.heap.size, 4, none⟩ = some (.int .i64 h.s) ∧ V.cell? ⟨w.heap.size + 1, 0, none⟩ = some (.string S) ∧ V.cell? ⟨w.heap.size + 1, 1, none⟩ = some (.int .i64 p)) := Lib.hid (fun V hb => by
    obtain ⟨a0, a1, a2, a3, a4⟩ := (HXH.out.below hb).cells
    obtain ⟨b0, b1⟩ := (HXB.out.below hb).cells
    exact ⟨Lib.hid hb, a0, a1, a2, a3, a4, b0, b1⟩)
  obtain ⟨_, a0, a1, a2, a3, a4, b0, b1⟩ := HBV.out _ (Below.refl _ _)
  have hq1 : (m : Int) ≤ S.size := by omega
  clear hs
  unfold hv at *
  go_enter Tryd.func8, Tryd.ntmps8
  go_wp2_with fail
  refine (Tells.at SG HS0 (Below.refl _ _)).mono ?_
  rintro e W1 ⟨rfl, hb1⟩
  have HB1 := Lib.hid hb1
  clear a0 a1 a2 a3 a4 b0 b1 hw0 hX hm hm2 hts hq1
  unfold seaV
  rcases sea_parts h X p with ⟨hs1, he⟩ | ⟨q, rfl, hmq, hr, hbq, hq1, hq2, hsea⟩
  · rw [hs1]
    obtain ⟨e1, he1⟩ : ∃ e1, (HP.sea h X p).2 = e1 := ⟨_, rfl⟩
    rw [he1] at he ⊢
    clear hs1 he1
    have hem : ((⟨#[]⟩ : ByteArray).toList == (⟨#[]⟩ : ByteArray).toList) = true := beq_self_eq_true _
    go_wp2_with fail
    refine (Tells.at HFX HS0 hb1).mono ?_
    rintro e W2 ⟨rfl, hb2⟩
    go_wp2_with fail
    go_ret
    exact ⟨rfl, HWB.out.trans' hb2⟩
  · rw [hsea]
    -- what is filled up, is the same page
    obtain ⟨k, hk, hk2⟩ : ∃ k : Nat, min (c : Int) ((q : Int) - 16 - X.size) = k ∧ X.size + k + 16 ≤ q := ⟨(min (c : Int) ((q : Int) - 16 - X.size)).toNat, by omega, by omega⟩
    obtain ⟨Z, hZ⟩ : ∃ Z : ByteArray, ⟨(List.replicate k (0 : UInt8)).toArray⟩ = Z := ⟨_, rfl⟩
    have RZ := tRepeat 0 k (by omega)
    rw [hZ] at RZ
    have sZ : Z.size = k := by rw [← hZ, sizeOf]; simp
    obtain ⟨A, hA⟩ : ∃ A, X ++ Z = A := ⟨_, rfl⟩
    have hAl : A.data.toList = X.data.toList ++ List.replicate k 0 := by rw [← hA, ← hZ]; simp
    have sA : A.size = X.size + k := by rw [← hA, ByteArray.size_append, sZ]
    obtain ⟨E, hE⟩ : ∃ E : ByteArray, ⟨(HP.page (HP.front h) (HP.rest X.data.toList q)).toArray⟩ = E := ⟨_, rfl⟩
    have SA := Tells.as (tSeal h A q wp (by unfold maxLen; omega)) (show _ = .tuple #[.string E, .int .i64 0] by
      unfold seaV
      rw [HP.seal_good hmq (HP.right_iff.2 hr) (by omega), Int.toNat_natCast, hAl, rest_more _ _ _ (by omega), hE])
    rw [hE]
    have b1 : ¬ 9223372036854775807 < X.size + Z.size := by omega
    have HWR : Hid (IntKind.i64.wrap ((q : Int) - 16 - X.size) = (q : Int) - 16 - X.size ∧ IntKind.i64.wrap ((q : Int) - 16) = (q : Int) - 16) := Lib.hid ⟨IntWalk.i64_in _ (by omega), IntWalk.i64_in _ (by omega)⟩
    obtain ⟨hwr1, hwr2⟩ := HWR.out
    have hEE : (E.toList == E.toList) = true := beq_self_eq_true _
    have HHK := Lib.hid hk2
    have HSA := Lib.hid sA
    have HAL := Lib.hid hAl
    have HEE := Lib.hid hE
    have HMQ := Lib.hid hmq
    have HRO := Lib.hid hr
    obtain ⟨_, a0, a1, a2, a3, a4, b0, b1'⟩ := HBV.out _ hb1
    clear hZ sZ sA hAl hE hsea hb1 hmq hr
    unfold hv at SA
    have hc0 : (c : Int) % 18446744073709551616 = c := by omega
    go_wp2_with fail
    -- filled up
    have hSd2 := HBV.out _ (below_drewN HB1.out 1)
    go_region_held3 (fun V => Hid (Below W0.heap.size W0 V) ∧ V.cell? ⟨w.heap.size, 0, none⟩ = some (.int .i64 h.k) ∧ V.cell? ⟨w.heap.size, 1, none⟩ = some (.int .i64 h.l) ∧ V.cell? ⟨w.heap.size, 2, none⟩ = some (.int .i64 h.c) ∧ V.cell? ⟨w.heap.size, 3, none⟩ = some (.int .i64 h.r) ∧ V.cell? ⟨w.heap.size, 4, none⟩ = some (.int .i64 h.s) ∧ V.cell? ⟨w.heap.size + 1, 0, none⟩ = some (.string S) ∧ V.cell? ⟨w.heap.size + 1, 1, none⟩ = some (.int .i64 q))
      (first | assumption | exact hSd2)
      (first
        | (go_at_call 17; refine (Tells.held RZ HS0 (by assumption)).mono ?_; rintro e V ⟨rfl, hb⟩; have hSn := HBV.out _ hb; clear hb)
        | (go_at_call 9; refine (Tells.held SA HS0 (by assumption)).mono ?_; rintro e V2 ⟨rfl, hb⟩; have hSn := HBV.out _ hb; have HB2 := Lib.hid hb; clear hb)
        | fail "no arm")
    clear a0 a1 a2 a3 a4 b0 b1' hwr1 hwr2 hk hSd2
    cases k with
    | zero =>
      go_wp2_with fail
      refine (Tells.at HFX HS0 HB2.out).mono ?_
      rintro e W2 ⟨rfl, hb2⟩
      go_wp2_with fail
      go_ret
      exact ⟨rfl, HWB.out.trans' hb2⟩
    | succ j =>
      obtain ⟨Y, hY⟩ : ∃ Y : ByteArray, ⟨(List.replicate j (0 : UInt8)).toArray⟩ = Y := ⟨_, rfl⟩
      have RY := tRepeat 0 j (by have := HHK.out; omega)
      rw [hY] at RY
      have sY : Y.size = j := by rw [← hY, sizeOf]; simp
      obtain ⟨D, hD⟩ : ∃ D, X ++ Y = D := ⟨_, rfl⟩
      have sD : D.size = X.size + j := by rw [← hD, ByteArray.size_append, sY]
      obtain ⟨F, hF⟩ : ∃ F, D ++ ⟨#[1]⟩ = F := ⟨_, rfl⟩
      have sF : F.size = X.size + j + 1 := by rw [← hF, ByteArray.size_append, sD]; rfl
      have hFl : F.data.toList = X.data.toList ++ List.replicate j 0 ++ [1] := by rw [← hF, ← hD, ← hY]; simp
      obtain ⟨U, hU⟩ : ∃ U : ByteArray, ⟨(HP.page (HP.front h) (HP.rest F.data.toList q)).toArray⟩ = U := ⟨_, rfl⟩
      have SF := Tells.as (tSeal h F q wp (by unfold maxLen; omega)) (show _ = .tuple #[.string U, .int .i64 0] by
        unfold seaV
        have := HHK.out
        rw [HP.seal_good HMQ.out (HP.right_iff.2 HRO.out) (by omega), Int.toNat_natCast, hU])
      have hne : (U.toList == E.toList) = false := by
        rw [same_list]
        refine decide_eq_false fun e => ?_
        have hk := HHK.out
        rw [← hU, ← HEE.out] at e
        have e3 := congrArg (fun x : ByteArray => x.data.toList) e
        obtain ⟨_, h2⟩ := HP.page_inj h h _ _ HRO.out HRO.out (by simpa using e3)
        rw [hFl] at h2
        exact rest_one _ _ _ (by omega) h2
      have d1 : ¬ 9223372036854775807 < X.size + Y.size := by have := HHK.out; omega
      have d2 : ¬ 9223372036854775807 < D.size + (ByteArray.mk #[1]).size := by
        have h1 : (ByteArray.mk #[1]).size = 1 := rfl
        have := HHK.out
        omega
      have d3 : ¬ 9223372036854775807 < D.size + 1 := by have := HHK.out; omega
      have d4 : ¬ (9223372036854775807 : Int) < (D.size : Int) + 1 := by have := HHK.out; omega
      have d5 : D.size + 1 ≤ 9223372036854775807 := by have := HHK.out; omega
      have hj : IntKind.i64.wrap ((j : Int) + 1 - 1) = j := by
        rw [show (j : Int) + 1 - 1 = j by omega]
        have := HHK.out
        exact IntWalk.i64_in _ (by omega)
      have hj2 : IntKind.i64.wrap (j : Int) = j := by have := HHK.out; exact IntWalk.i64_in _ (by omega)
      have HFL := Lib.hid hFl
      obtain ⟨_, a0, a1, a2, a3, a4, b0, b1'⟩ := HBV.out _ HB2.out
      clear hY sY sD sF hFl hU SG SA
      unfold hv at SF
      have SF' := SF
      go_wp2_with fail
      have hSd3 := HBV.out _ (below_drewN HB2.out 1)
      go_region_held3 (fun V => Hid (Below W0.heap.size W0 V) ∧ V.cell? ⟨w.heap.size, 0, none⟩ = some (.int .i64 h.k) ∧ V.cell? ⟨w.heap.size, 1, none⟩ = some (.int .i64 h.l) ∧ V.cell? ⟨w.heap.size, 2, none⟩ = some (.int .i64 h.c) ∧ V.cell? ⟨w.heap.size, 3, none⟩ = some (.int .i64 h.r) ∧ V.cell? ⟨w.heap.size, 4, none⟩ = some (.int .i64 h.s) ∧ V.cell? ⟨w.heap.size + 1, 0, none⟩ = some (.string S) ∧ V.cell? ⟨w.heap.size + 1, 1, none⟩ = some (.int .i64 q))
        (first | assumption | exact hSd3)
        (first
          | (go_at_call 17; refine (Tells.held RY HS0 (by assumption)).mono ?_; rintro e V ⟨rfl, hb⟩; have hSn := HBV.out _ hb; clear hb)
          | (go_at_call 9; refine (Tells.held SF HS0 (by assumption)).mono ?_; rintro e V3 ⟨rfl, hb⟩; have hSn := HBV.out _ hb; have HB3 := Lib.hid hb; clear hb)
          | fail "no arm")

      go_wp2_with fail
      refine (Tells.at HFX HS0 HB3.out).mono ?_
      rintro e W2 ⟨rfl, hb2⟩
      go_wp2_with fail
      go_ret
      exact ⟨rfl, HWB.out.trans' hb2⟩
end Go.Proofs.YtklmmkcbogcbaaaDoor
