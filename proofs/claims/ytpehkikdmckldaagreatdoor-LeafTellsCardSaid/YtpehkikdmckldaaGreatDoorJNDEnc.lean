/-
  The walk of the document's Encode.
-/
import Derived.Test.YtpehkikdmckldaaGreatDoorJNDSize
import Derived.Test.YtpehkikdmckldaaGreatDoorJNDMay
import Derived.Test.YtpehkikdmckldaaGreatDoorJ13
import Derived.Test.YtpehkikdmckldaaGreatDoorJ11
import Derived.Test.YtpehkikdmckldaaGreatDoorJHDocO
namespace Go.Proofs.YtpehkikdmckldaaGreatDoor
open Go.RowKit NP
set_option linter.unusedVariables false
set_option linter.unusedSimpArgs false

set_option maxHeartbeats 4000000 in
set_option maxRecDepth 100000 in
theorem renc_any (F R : Int) (H : ByteArray) (A : Option Addr) (l : List It) (ca : Nat) (p : Int) (w : World) (ha : Lies5 w w.heap.size A l) (hl : l.length ≤ 1000) (hh : H.size ≤ maxLen) (hpw : (Lit.int .i64 p).wf = true) :
    Calls Tryz.prog 11 #[lv F R H A l.length ca, .int .i64 p] w fun e w' => e = .returned (encV ⟨F, R, H, l⟩ p) ∧ Below w.heap.size w w' := by
  have hb0 := lbox_below 34 F R H A l.length ca w
  have HB0 := Lib.hid hb0
  have HA := Lib.hid (ha.on hb0)
  have HK := Lib.hid (lbox_new 34 F R H A l.length ca w)
  have HSZ : Hid (∀ W, Calls Tryz.prog 25 #[.int .i64 p] W fun e w' => e = .returned (.bool (L7.mayBe p)) ∧ W = w') := Lib.hid (fun W => L7.sizeRef_any p W)
  have HM := Lib.hid (fun W (h2 : Lies5 W W.heap.size A l) => rmay_any F R H A l ca p W h2 (by omega) hh)
  obtain ⟨r, HR⟩ : ∃ r, Hid (r = encV ⟨F, R, H, l⟩ p) := ⟨_, Lib.hid rfl⟩
  rw [← HR.out]
  have hcases := enc_cases ⟨F, R, H, l⟩ p
  obtain ⟨n, hn⟩ : ∃ n, n = l.length := ⟨_, rfl⟩
  have HN := Lib.hid hn
  rw [← hn] at HM HK HB0 HA
  rw [← hn]
  simp only [lbox] at HK HB0 HA
  rcases hcases with ⟨hm, he⟩ | ⟨hm, hmay, he⟩ | ⟨hmay, hbig, he⟩ | ⟨hmay, hfit, he⟩
  · have HX : Hid (r = .tuple #[.string ⟨#[]⟩, .int .i64 4]) := Lib.hid (by rw [HR.out, encV, he])
    rw [hm] at HSZ
    clear hm he hn ha hl hh hb0 HM
    go_enter Tryz.func11, Tryz.ntmps11
    go_wp2_with fail
    refine (HSZ.out _).mono ?_
    rintro e w2 ⟨rfl, rfl⟩
    go_wp2_with fail
    go_ret2
    exact ⟨by rw [HX.out] <;> rfl, HB0.out⟩
  · have HX : Hid (r = .tuple #[.string ⟨#[]⟩, .int .i64 3]) := Lib.hid (by rw [HR.out, encV, he])
    rw [hm] at HSZ
    rw [decide_eq_false hmay] at HM
    clear hm hmay he hn ha hl hh hb0
    go_enter Tryz.func11, Tryz.ntmps11
    go_wp2_with fail
    refine (HSZ.out _).mono ?_
    rintro e w2 ⟨rfl, rfl⟩
    go_wp2_with fail
    refine (HM.out _ HA.out).mono ?_
    rintro e w2 ⟨rfl, hb2⟩
    go_wp2_with fail
    go_ret2
    exact ⟨by rw [HX.out] <;> rfl, HB0.out.trans' hb2⟩
  · have HX : Hid (r = .tuple #[.string ⟨#[]⟩, .int .i64 8]) := Lib.hid (by rw [HR.out, encV, he])
    have hp := mayBe_le hmay.1
    obtain ⟨q, rfl⟩ : ∃ q : Nat, p = q := Int.eq_ofNat_of_zero_le (by omega)
    have hf := May.fit hmay (by omega)
    have HF := Lib.hid (fun W (h : Lies5 W W.heap.size A l) => rfixed_any F R H A l ca W h hf)
    have HC := Lib.hid (fun W (h : Lies5 W W.heap.size A l) => rcells_any F R H A l ca W h hf)
    have HK8 := Lib.hid (fun G cap W (h : L5.Lies W W.heap.size G (cellsS l)) => L8.pack8_any ((q : Int) - 16) (fixedS H l) G (cellsS l) cap W h (by rw [cellsS_length]; omega) (by have := fixedS_size hf; omega) (fun s hs => by have := cellsS_size hf s hs; omega))
    rw [packV_big (F := F) (R := R) (by omega) (by omega) (by omega), cellsS_length] at HK8
    rw [hmay.1] at HSZ
    rw [decide_eq_true hmay] at HM
    rw [← hn] at HF HC HK8
    have hw : IntKind.i64.wrap ((q : Int) - 16) = (q : Int) - 16 := IntWalk.i64_in _ (by omega)
    generalize fixedS H l = fx at *
    clear hmay he hn ha hl hh hb0 hbig hf hp
    go_enter Tryz.func11, Tryz.ntmps11
    go_wp2_with fail
    refine (HSZ.out _).mono ?_
    rintro e w2 ⟨rfl, rfl⟩
    go_wp2_with fail
    refine (HM.out _ HA.out).mono ?_
    rintro e w2 ⟨rfl, hb2⟩
    have HB3 := Lib.hid (HB0.out.trans' hb2)
    have HK3 := Lib.hid (HK.out.below hb2)
    have HA3 := Lib.hid (HA.out.on hb2)
    clear hb2 HM HSZ
    go_wp2_with fail
    have HST : Hid (∀ V, Below w2.heap.size w2 V → (Hid (Below w2.heap.size w2 V) ∧ V.cell? ⟨w.heap.size, 0, none⟩ = some (.int .i64 F) ∧ V.cell? ⟨w.heap.size, 1, none⟩ = some (.int .i64 R) ∧ V.cell? ⟨w.heap.size, 2, none⟩ = some (.string H) ∧ V.cell? ⟨w.heap.size, 3, none⟩ = some (.slice A n ca))) := Lib.hid (fun V hb => ⟨Lib.hid hb, (HK3.out.below hb).cells⟩)
    have HLI : Hid (∀ V (X : Prop), (Hid (Below w2.heap.size w2 V) ∧ X) → Lies5 V V.heap.size A l) := Lib.hid (fun V X h => HA3.out.on h.1.out)
    have hSd := HST.out _ (L5.below_drewN (Below.refl _ w2) 1)
    go_region_held3 (fun V => Hid (Below w2.heap.size w2 V) ∧ V.cell? ⟨w.heap.size, 0, none⟩ = some (.int .i64 F) ∧ V.cell? ⟨w.heap.size, 1, none⟩ = some (.int .i64 R) ∧ V.cell? ⟨w.heap.size, 2, none⟩ = some (.string H) ∧ V.cell? ⟨w.heap.size, 3, none⟩ = some (.slice A n ca))
      (first | assumption | exact hSd)
      (first
        | (go_at_call 37; refine (HF.out _ (HLI.out _ _ (by assumption))).mono ?_; rintro e V ⟨rfl, hb⟩; have HBV := Lib.hid ((by assumption : Hid (Below w2.heap.size w2 _) ∧ _).1.out.trans' hb); (try have RA := Lib.hid (RA.out.on hb)); have hSn := HST.out _ HBV.out; clear hb)
        | (go_at_call 38; refine (HC.out _ (HLI.out _ _ (by assumption))).mono ?_; rintro e V ⟨G, cap, rfl, hl, hb⟩; have HBV := Lib.hid ((by assumption : Hid (Below w2.heap.size w2 _) ∧ _).1.out.trans' hb); have RA := Lib.hid hl; have hSn := HST.out _ HBV.out; clear hl hb)
        | (go_at_call 36; refine (HK8.out _ _ _ RA.out).mono ?_; rintro e V ⟨rfl, hb⟩; have HBV := Lib.hid ((by assumption : Hid (Below w2.heap.size w2 _) ∧ _).1.out.trans' hb); have hSn := HST.out _ HBV.out; clear hb)
        | fail "no arm")
    all_goals
      go_wp2_with fail
      go_ret2
      exact ⟨by rw [HX.out] <;> rfl, HB3.out.trans' HBV.out⟩
  · have HX : Hid (r = .tuple #[.string ⟨(page ⟨F, R, H, l⟩ p.toNat).toArray⟩, .int .i64 0]) := Lib.hid (by rw [HR.out, encV, he])
    have hp := mayBe_le hmay.1
    obtain ⟨q, rfl⟩ : ∃ q : Nat, p = q := Int.eq_ofNat_of_zero_le (by omega)
    have hf := May.fit hmay (by omega)
    have HF := Lib.hid (fun W (h : Lies5 W W.heap.size A l) => rfixed_any F R H A l ca W h hf)
    have HC := Lib.hid (fun W (h : Lies5 W W.heap.size A l) => rcells_any F R H A l ca W h hf)
    have HK8 := Lib.hid (fun G cap W (h : L5.Lies W W.heap.size G (cellsS l)) => L8.pack8_any ((q : Int) - 16) (fixedS H l) G (cellsS l) cap W h (by rw [cellsS_length]; omega) (by have := fixedS_size hf; omega) (fun s hs => by have := cellsS_size hf s hs; omega))
    rw [packV_ok (F := F) (R := R) (by omega) (by omega) (by omega), cellsS_length] at HK8
    rw [hmay.1] at HSZ
    rw [decide_eq_true hmay] at HM
    rw [← hn] at HF HC HK8
    have hw : IntKind.i64.wrap ((q : Int) - 16) = (q : Int) - 16 := IntWalk.i64_in _ (by omega)
    rw [Int.toNat_natCast] at HX
    have hbl : (body ⟨F, R, H, l⟩ q).length = q - 16 := body_length (by omega)
    have HSE := Lib.hid (fun W => L7.refSeal_any (hd ⟨F, R, H, l⟩) ⟨(body ⟨F, R, H, l⟩ q).toArray⟩ q W hpw (by show (body ⟨F, R, H, l⟩ q).toArray.size ≤ _; rw [List.size_toArray, hbl]; unfold maxLen; omega))
    have hsv := seal_ok hmay (by omega)
    rw [hsv] at HSE
    rw [show L7.hv (hd ⟨F, R, H, l⟩) = .agg #[.int .i64 2, .int .i64 0, .int .i64 n, .int .i64 R, .int .i64 F] by rw [hn]; rfl] at HSE
    generalize (⟨(page ⟨F, R, H, l⟩ q).toArray⟩ : ByteArray) = PG at *
    generalize (⟨(body ⟨F, R, H, l⟩ q).toArray⟩ : ByteArray) = BD at *
    generalize fixedS H l = fx at *
    clear hmay he hn ha hl hh hb0 hfit hf hp hbl hsv hpw
    go_enter Tryz.func11, Tryz.ntmps11
    go_wp2_with fail
    refine (HSZ.out _).mono ?_
    rintro e w2 ⟨rfl, rfl⟩
    go_wp2_with fail
    refine (HM.out _ HA.out).mono ?_
    rintro e w2 ⟨rfl, hb2⟩
    have HB3 := Lib.hid (HB0.out.trans' hb2)
    have HK3 := Lib.hid (HK.out.below hb2)
    have HA3 := Lib.hid (HA.out.on hb2)
    clear hb2 HM HSZ
    go_wp2_with fail
    have HST : Hid (∀ V, Below w2.heap.size w2 V → (Hid (Below w2.heap.size w2 V) ∧ V.cell? ⟨w.heap.size, 0, none⟩ = some (.int .i64 F) ∧ V.cell? ⟨w.heap.size, 1, none⟩ = some (.int .i64 R) ∧ V.cell? ⟨w.heap.size, 2, none⟩ = some (.string H) ∧ V.cell? ⟨w.heap.size, 3, none⟩ = some (.slice A n ca))) := Lib.hid (fun V hb => ⟨Lib.hid hb, (HK3.out.below hb).cells⟩)
    have HLI : Hid (∀ V (X : Prop), (Hid (Below w2.heap.size w2 V) ∧ X) → Lies5 V V.heap.size A l) := Lib.hid (fun V X h => HA3.out.on h.1.out)
    have hSd := HST.out _ (L5.below_drewN (Below.refl _ w2) 1)
    go_region_held3 (fun V => Hid (Below w2.heap.size w2 V) ∧ V.cell? ⟨w.heap.size, 0, none⟩ = some (.int .i64 F) ∧ V.cell? ⟨w.heap.size, 1, none⟩ = some (.int .i64 R) ∧ V.cell? ⟨w.heap.size, 2, none⟩ = some (.string H) ∧ V.cell? ⟨w.heap.size, 3, none⟩ = some (.slice A n ca))
      (first | assumption | exact hSd)
      (first
        | (go_at_call 37; refine (HF.out _ (HLI.out _ _ (by assumption))).mono ?_; rintro e V ⟨rfl, hb⟩; have HBV := Lib.hid ((by assumption : Hid (Below w2.heap.size w2 _) ∧ _).1.out.trans' hb); (try have RA := Lib.hid (RA.out.on hb)); have hSn := HST.out _ HBV.out; clear hb)
        | (go_at_call 38; refine (HC.out _ (HLI.out _ _ (by assumption))).mono ?_; rintro e V ⟨G, cap, rfl, hl, hb⟩; have HBV := Lib.hid ((by assumption : Hid (Below w2.heap.size w2 _) ∧ _).1.out.trans' hb); have RA := Lib.hid hl; have hSn := HST.out _ HBV.out; clear hl hb)
        | (go_at_call 36; refine (HK8.out _ _ _ RA.out).mono ?_; rintro e V ⟨rfl, hb⟩; have HBV := Lib.hid ((by assumption : Hid (Below w2.heap.size w2 _) ∧ _).1.out.trans' hb); have hSn := HST.out _ HBV.out; clear hb)
        | fail "no arm")
    all_goals
      go_wp2_with fail
      refine (HSE.out _).mono ?_
      rintro e w5 ⟨rfl, hb5⟩
      go_wp2_with fail
      go_ret2
      exact ⟨by rw [HX.out] <;> rfl, (HB3.out.trans' HBV.out).trans' hb5⟩
end Go.Proofs.YtpehkikdmckldaaGreatDoor
