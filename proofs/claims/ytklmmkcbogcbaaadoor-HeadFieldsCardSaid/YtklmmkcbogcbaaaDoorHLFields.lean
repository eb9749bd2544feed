/-
  The walk of the law HeadFields.
-/
import Derived.Test.YtklmmkcbogcbaaaDoorHFixed
import Derived.Test.YtklmmkcbogcbaaaDoorHLBody
namespace Go.Proofs.YtklmmkcbogcbaaaDoor
open Go.RowKit
set_option linter.unusedVariables false
set_option linter.unusedSimpArgs false

theorem tRead (s : ByteArray) (i : Nat) (hi : i + 4 ≤ s.size) (hs : s.size ≤ maxLen) : Hid (Tells 18 #[.string s, .int .i64 i] (.tuple #[.int .u32 (Lib.leNat ((s.data.toList.drop i).take 4)), .int .i64 0])) := Lib.hid fun W _ => by
  have h := rread_any s i W (by omega) (by omega) hs
  rw [Int.toNat_natCast] at h
  exact h.mono fun e w' ⟨h1, h2⟩ => ⟨h1, h2 ▸ Below.refl _ _⟩
theorem tSum (s : ByteArray) (hs : s.size ≤ maxLen) : Hid (Tells 19 #[.string s] (.int .u32 (SP.sum s.data.toList : Nat))) := Lib.hid fun W _ => (refSum_any s W hs).mono fun e w' ⟨h1, h2⟩ => ⟨h1, h2 ▸ Below.refl _ _⟩
theorem getD_of (s : ByteArray) (i : Nat) (hi : i < s.size) : s.data.toList.getD i 0 = s[i] := by
  rw [List.getD_eq_getElem?_getD, List.getElem?_eq_getElem (by simpa using hi)]
  rfl

set_option maxHeartbeats 4000000 in
set_option maxRecDepth 100000 in
theorem headFields_walk (h : HP.H) (S : ByteArray) (p : Int) (w : World) (hs : Sizes w) (wS : S.size ≤ maxLen) (wp : (Lit.int .i64 p).wf = true) :
    Calls Tryd.prog 6 #[hv h, .agg #[.string S, .int .i64 p]] w fun e w' => e = .returned (.bool true) ∧ Below w.heap.size w w' := by
  obtain ⟨m, hm, hm1, hms, hm2, hts⟩ := cut_min S 1100 (by omega)
  obtain ⟨X, hX⟩ : ∃ X, S.extract 0 m = X := ⟨_, rfl⟩
  rw [hX] at hts
  have hXs : X.size ≤ 1100 := by omega
  have hXl : X.data.toList.length = X.size := by simp
  have SG := tSeal h X p wp (by unfold maxLen; omega)
  have HFX : Hid (Tells 16 #[] (.bool true)) := Lib.hid fun W hW => fixed_any W hW
  obtain ⟨W0, hw0, HWB, HS0, HXH, HXB⟩ := body_boxes h S p w hs
  have HBV : Hid (∀ V, Below W0.heap.size W0 V → Hid (Below W0.heap.size W0 V) ∧ V.cell? ⟨w.heap.size, 0, none⟩ = some (.int .i64 h.k) ∧ V.cell? ⟨w.heap.size, 1, none⟩ = some (.int .i64 h.l) ∧ V.cell? ⟨w.heap.size, 2, none⟩ = some (.int .i64 h.c) ∧ V.cell? ⟨w.heap.size, 3, none⟩ = some (.int .i64 h.r) ∧ V.cell? ⟨w.heap.size, 4, none⟩ = some (.int .i64 h.s) ∧ V.cell? ⟨w.heap.size + 1, 0, none⟩ = some (.string S) ∧ V.cell? ⟨w.heap.size + 1, 1, none⟩ = some (.int .i64 p)) := Lib.hid (fun V hb => by
    obtain ⟨a0, a1, a2, a3, a4⟩ := (HXH.out.below hb).cells
    obtain ⟨b0, b1⟩ := (HXB.out.below hb).cells
    exact ⟨Lib.hid hb, a0, a1, a2, a3, a4, b0, b1⟩)
  obtain ⟨_, a0, a1, a2, a3, a4, b0, b1⟩ := HBV.out _ (Below.refl _ _)
  have hq1 : (m : Int) ≤ S.size := by omega
  clear hs
  unfold hv at *
  go_enter Tryd.func6, Tryd.ntmps6
  go_wp2_with fail
  refine (Tells.at SG HS0 (Below.refl _ _)).mono ?_
  rintro e W1 ⟨rfl, hb1⟩
  have HB1 := Lib.hid hb1
  clear a0 a1 a2 a3 a4 b0 b1 hw0 hX hm hm2 hts hq1
  unfold seaV
  rcases sea_parts h X p with ⟨hs1, he⟩ | ⟨q, rfl, hmq, hr, hbq, hq1, hq2, hsea⟩
  · rw [hs1]
    obtain ⟨e1, he1⟩ : ∃ e1, (HP.sea h X p).2 = e1 := ⟨_, rfl⟩
    rw [he1] at he ⊢
    have h3 : e1 = 4 ∨ e1 = 3 ∨ e1 = 8 := by
      rcases HP.seal_cases h X p with (e | e | e) | ⟨_, _, _, e⟩
      · rw [e] at he1; exact .inl he1.symm
      · rw [e] at he1; exact .inr (.inl he1.symm)
      · rw [e] at he1; exact .inr (.inr he1.symm)
      · rw [e] at he1; subst he1; exact absurd he (by simp)
    clear hs1 he1 he
    rcases h3 with rfl | rfl | rfl
    all_goals
      go_wp2_with fail
      refine (Tells.at HFX HS0 hb1).mono ?_
      rintro e W2 ⟨rfl, hb2⟩
      go_wp2_with fail
      go_ret
      exact ⟨rfl, HWB.out.trans' hb2⟩
  · rw [hsea]
    have hg := HP.good_page h (HP.rest X.data.toList q) hr
    have hho := HP.headOf_page h (HP.rest X.data.toList q) hr
    obtain ⟨E, hE⟩ : ∃ E : ByteArray, ⟨(HP.page (HP.front h) (HP.rest X.data.toList q)).toArray⟩ = E := ⟨_, rfl⟩
    have hEs : E.size = q := by rw [← hE, sizeOf, page_size _ _ _ hbq]
    have hEd : HP.page (HP.front h) (HP.rest X.data.toList q) = E.data.toList := by rw [← hE]
    rw [hEd] at hg hho
    rw [hE]
    have R4 := tRead E 4 (by omega) (by unfold maxLen; omega)
    have R8 := tRead E 8 (by omega) (by unfold maxLen; omega)
    have R12 := tRead E 12 (by omega) (by unfold maxLen; omega)
    have hsum := hg.2
    obtain ⟨F, hF⟩ : ∃ F, E.extract 0 12 = F := ⟨_, rfl⟩
    obtain ⟨G, hG⟩ : ∃ G, E.extract 16 q = G := ⟨_, rfl⟩
    have sF : F.size = 12 := by rw [← hF]; simp; omega
    have sG : G.size = q - 16 := by rw [← hG]; simp; omega
    obtain ⟨F4, hF4⟩ : ∃ F4, F ++ ⟨#[0, 0, 0, 0]⟩ = F4 := ⟨_, rfl⟩
    have sF4 : F4.size = 16 := by rw [← hF4, ByteArray.size_append, sF]; rfl
    obtain ⟨Y, hY⟩ : ∃ Y, F4 ++ G = Y := ⟨_, rfl⟩
    have sY : Y.size = q := by rw [← hY, ByteArray.size_append]; omega
    have hYs : SP.sum Y.data.toList = Lib.leNat ((E.data.toList.drop 12).take 4) := by
      rw [hsum, ← hY, ← hF4, ← hF, ← hG]
      unfold HP.crc
      congr 1
      have e1 : (E.extract 0 12).data.toList = E.data.toList.take 12 := by rw [Lib.extract_data]; simp
      have e2 : (E.extract 16 q).data.toList = E.data.toList.drop 16 := by rw [Lib.extract_data]; exact List.take_of_length_le (by simp; omega)
      simp only [ByteArray.data_append, Array.toList_append, e1, e2]
    have TS := tSum Y (by unfold maxLen; omega)
    rw [hYs] at TS
    -- the fields
    unfold HP.headOf at hho
    rw [getD_of E 0 (by omega), getD_of E 1 (by omega), getD_of E 2 (by omega), getD_of E 3 (by omega)] at hho
    have i0 : 0 < E.size := Nat.lt_of_lt_of_le (by omega) (Nat.le_of_eq hEs.symm)
    have i1 : 1 < E.size := Nat.lt_of_lt_of_le (by omega) (Nat.le_of_eq hEs.symm)
    have i2 : 2 < E.size := Nat.lt_of_lt_of_le (by omega) (Nat.le_of_eq hEs.symm)
    have i3 : 3 < E.size := Nat.lt_of_lt_of_le (by omega) (Nat.le_of_eq hEs.symm)
    obtain ⟨c0, hc0⟩ : ∃ c, E[0]'i0 = c := ⟨_, rfl⟩
    obtain ⟨c1, hc1⟩ : ∃ c, E[1]'i1 = c := ⟨_, rfl⟩
    obtain ⟨c2, hc2⟩ : ∃ c, E[2]'i2 = c := ⟨_, rfl⟩
    obtain ⟨c3, hc3⟩ : ∃ c, E[3]'i3 = c := ⟨_, rfl⟩
    rw [hc0, hc1, hc2, hc3] at hho
    obtain ⟨r, hr4⟩ : ∃ r, Lib.leNat ((E.data.toList.drop 4).take 4) = r := ⟨_, rfl⟩
    obtain ⟨f, hf8⟩ : ∃ f, Lib.leNat ((E.data.toList.drop 8).take 4) = f := ⟨_, rfl⟩
    obtain ⟨v, hv12⟩ : ∃ v, Lib.leNat ((E.data.toList.drop 12).take 4) = v := ⟨_, rfl⟩
    rw [hr4, hf8] at hho
    rw [hr4] at R4
    rw [hf8] at R8
    rw [hv12] at R12 TS
    have k0 : (c0.toNat : Int) = h.k := congrArg HP.H.k hho
    have k1 : (c1.toNat : Int) = h.l := congrArg HP.H.l hho
    have k2 : ((c2.toNat + 256 * c3.toNat : Nat) : Int) = h.c := congrArg HP.H.c hho
    have k3 : (r : Int) = h.r := congrArg HP.H.r hho
    have k4 : (f : Int) = h.s := congrArg HP.H.s hho
    have hok := HP.Ok.eq_1 h ▸ hr
    have l3 : c3.toNat < 256 := c3.toNat_lt
    have l2 : c2.toNat < 256 := c2.toNat_lt
    have k2' : (c2.toNat : Int) + 256 * (c3.toNat : Int) = h.c := by omega
    have w1 : IntKind.i64.wrap (256 * (c3.toNat : Int)) = 256 * (c3.toNat : Int) := IntWalk.i64_in _ (by omega)
    have w2 : IntKind.i64.wrap ((c2.toNat : Int) + 256 * (c3.toNat : Int)) = h.c := by rw [k2']; exact IntWalk.i64_in _ (by omega)
    have w6 : IntKind.i64.wrap h.k = h.k := IntWalk.i64_in _ (by omega)
    have w7 : IntKind.i64.wrap h.l = h.l := IntWalk.i64_in _ (by omega)
    have w8 : IntKind.i64.wrap (c2.toNat : Int) = c2.toNat := IntWalk.i64_in _ (by omega)
    have w9 : IntKind.i64.wrap (c3.toNat : Int) = c3.toNat := IntWalk.i64_in _ (by omega)
    have w3 : IntKind.i64.wrap h.c = h.c := IntWalk.i64_in _ (by omega)
    have w4 : IntKind.i64.wrap h.r = h.r := IntWalk.i64_in _ (by omega)
    have w5 : IntKind.i64.wrap h.s = h.s := IntWalk.i64_in _ (by omega)
    have e1 : (0 : Int) ≤ 12 ∧ (12 : Int) ≤ (q : Int) ∧ (0 : Int) ≤ 16 ∧ (16 : Int) ≤ (q : Int) := by omega
    have e2 : ¬ 9223372036854775807 < F.size + (ByteArray.mk #[0, 0, 0, 0]).size := by rw [sF]; decide
    have e3 : ¬ 9223372036854775807 < F.size + 4 := by omega
    have e4 : ¬ 9223372036854775807 < F4.size + G.size := by omega
    have e5 : ¬ (9223372036854775807 : Int) < (F4.size : Int) + (G.size : Int) := by omega
    have e6 : ¬ (q : Int) < 128 := by omega
    have hSV : Hid (∀ V, Below W0.heap.size W0 V → Hid (Below W0.heap.size W0 V) ∧ V.cell? ⟨w.heap.size, 0, none⟩ = some (.int .i64 h.k) ∧ V.cell? ⟨w.heap.size, 1, none⟩ = some (.int .i64 h.l) ∧ V.cell? ⟨w.heap.size, 2, none⟩ = some (.int .i64 h.c) ∧ V.cell? ⟨w.heap.size, 3, none⟩ = some (.int .i64 h.r) ∧ V.cell? ⟨w.heap.size, 4, none⟩ = some (.int .i64 h.s)) := Lib.hid (fun V hb => ⟨Lib.hid hb, (HXH.out.below hb).cells⟩)
    clear hsea hg hho hE hEd hsum sF sG sF4 sY hYs hr4 hf8 hv12 k2 hok hb1 SG HBV
    go_wp2_with fail
    refine (Tells.at R4 HS0 HB1.out).mono ?_
    rintro e W2 ⟨rfl, hb2⟩
    have HB2 := Lib.hid hb2
    clear hb2
    go_wp2_with fail
    refine (Tells.at R8 HS0 HB2.out).mono ?_
    rintro e W3 ⟨rfl, hb3⟩
    have HB3 := Lib.hid hb3
    clear hb3
    go_wp2_with fail
    refine (Tells.at R12 HS0 HB3.out).mono ?_
    rintro e W4 ⟨rfl, hb4⟩
    have HB4 := Lib.hid hb4
    clear hb4
    go_wp2_with fail
    simp only [List.append]
    have hSd := hSV.out _ (below_drewN HB4.out 1)
    clear R4 R8 R12
    go_region_held3 (fun V => Hid (Below W0.heap.size W0 V) ∧ V.cell? ⟨w.heap.size, 0, none⟩ = some (.int .i64 h.k) ∧ V.cell? ⟨w.heap.size, 1, none⟩ = some (.int .i64 h.l) ∧ V.cell? ⟨w.heap.size, 2, none⟩ = some (.int .i64 h.c) ∧ V.cell? ⟨w.heap.size, 3, none⟩ = some (.int .i64 h.r) ∧ V.cell? ⟨w.heap.size, 4, none⟩ = some (.int .i64 h.s))
      (first | assumption | exact hSd)
      (first
        | (go_at_call 19; refine (Tells.held TS HS0 (by assumption)).mono ?_; rintro e V ⟨rfl, hb⟩; have hSn := hSV.out _ hb; clear hb)
        | (go_at_call 16; refine (Tells.held HFX HS0 (by assumption)).mono ?_; rintro e V ⟨rfl, hb⟩; have hSn := hSV.out _ hb; have HBZ := Lib.hid hb; clear hb)
        | fail "no arm")
    all_goals
      go_wp2_with fail
      go_ret
      exact ⟨rfl, HWB.out.trans' HBZ.out⟩
end Go.Proofs.YtklmmkcbogcbaaaDoor
