/-
  The walks of chain.Encode and Decode.
-/
import Derived.Test.YtahkigabapdleaaDoorCMays
import Derived.Test.YtahkigabapdleaaDoorEClone
import Derived.Deep.RegionHeld3
namespace Go.Proofs.YtahkigabapdleaaDoor
open Go.RowKit CP
set_option linter.unusedVariables false
set_option linter.unusedSimpArgs false

def encV (F N : Int) (D : ByteArray) (p : Int) : Value := .tuple #[.string (enc F N D p).1, .int .i64 (enc F N D p).2]
set_option maxHeartbeats 2000000 in
set_option maxRecDepth 100000 in
theorem enc_any (F N : Int) (D : ByteArray) (p : Int) (w : World) (hs : L7.Sizes w) :
    Calls Tryd.prog 10 #[cv F N D, .int .i64 p] w fun e w' => e = .returned (encV F N D p) ∧ Below w.heap.size w w' := by
  have hb0 := cbox_below 23 F N D w
  have HB0 := Lib.hid hb0
  have HS0 := Lib.hid (hs.below hs.lt hb0)
  have HK := Lib.hid (cbox_new 23 F N D w)
  have HSZ := Lib.hid (fun W (h : L7.Sizes W) => L7.size_any p W h)
  have HM := Lib.hid (fun W (h : L7.Sizes W) => may_any F N D p W h)
  obtain ⟨r, HRS⟩ : ∃ r, Hid (r = encV F N D p) := ⟨_, Lib.hid rfl⟩
  rw [← HRS.out]
  rcases enc_cases F N D p with ⟨hmb, hmay, he⟩ | ⟨hmb, hmay, he⟩ | ⟨hmb, hmay, he⟩
  · have HX : Hid (r = .tuple #[.string ⟨#[]⟩, .int .i64 4]) := Lib.hid (by rw [HRS.out, encV, he])
    rw [hmb] at HSZ
    clear hmb he hmay hs hb0 HM
    go_enter Tryd.func10, Tryd.ntmps10
    go_wp2_with fail
    refine (HSZ.out _ HS0.out).mono ?_
    rintro e w2 ⟨rfl, rfl⟩
    go_wp2_with fail
    go_ret2
    exact ⟨by rw [HX.out] <;> rfl, HB0.out⟩
  · have HX : Hid (r = .tuple #[.string ⟨#[]⟩, .int .i64 3]) := Lib.hid (by rw [HRS.out, encV, he])
    rw [hmb] at HSZ
    rw [decide_eq_false hmay] at HM
    clear hmb hmay he hs hb0
    obtain ⟨c0, c1, c2⟩ := HK.out.cells
    go_enter Tryd.func10, Tryd.ntmps10
    go_wp2_with fail
    refine (HSZ.out _ HS0.out).mono ?_
    rintro e w2 ⟨rfl, rfl⟩
    go_wp2_with fail
    refine (HM.out _ HS0.out).mono ?_
    rintro e w2 ⟨rfl, hb2⟩
    go_wp2_with fail
    go_ret2
    exact ⟨by rw [HX.out] <;> rfl, HB0.out.trans' hb2⟩
  · have hp := mayBe_le hmay.1
    have hz := hmay.2.2.2.1
    obtain ⟨q, rfl⟩ : ∃ q : Nat, p = q := Int.eq_ofNat_of_zero_le (by omega)
    have HX : Hid (r = .tuple #[.string ⟨(page F N D q).toArray⟩, .int .i64 0]) := Lib.hid (by rw [HRS.out, encV, he, Int.toNat_natCast])
    rw [hmb] at HSZ
    rw [decide_eq_true hmay] at HM
    have HSE := Lib.hid (fun W (h : L7.Sizes W) => L7.seal_any (hd F N D) D q W h (by simp [Lit.wf, IntKind.min, IntKind.max, IntKind.signed, IntKind.bits]; omega) (by unfold maxLen; omega))
    have hsv := seal_ok hmay
    rw [hsv, Int.toNat_natCast] at HSE
    rw [show L7.hv (hd F N D) = .agg #[.int .i64 4, .int .i64 0, .int .i64 D.size, .int .i64 N, .int .i64 F] by rfl] at HSE
    generalize (⟨(page F N D q).toArray⟩ : ByteArray) = PG at *
    clear hmay hmb he hs hb0 hp hsv hz
    obtain ⟨c0, c1, c2⟩ := HK.out.cells
    go_enter Tryd.func10, Tryd.ntmps10
    go_wp2_with fail
    refine (HSZ.out _ HS0.out).mono ?_
    rintro e w2 ⟨rfl, rfl⟩
    go_wp2_with fail
    refine (HM.out _ HS0.out).mono ?_
    rintro e w2 ⟨rfl, hb2⟩
    clear c0 c1 c2
    have HS2 := Lib.hid (HS0.out.below HS0.out.lt hb2)
    have HB2 := Lib.hid (HB0.out.trans' hb2)
    obtain ⟨c0, c1, c2⟩ := (HK.out.below hb2).cells
    clear hb2
    go_wp2_with fail
    refine (HSE.out _ HS2.out).mono ?_
    rintro e w5 ⟨rfl, hb5⟩
    go_wp2_with fail
    go_ret2
    exact ⟨by rw [HX.out] <;> rfl, HB2.out.trans' hb5⟩

/-- What Decode answers. -/
def decV (s : ByteArray) : Value := match dec s with
  | some (F, N, D) => .tuple #[cv F N D, .int .i64 0]
  | none => .tuple #[cv0, .int .i64 3]
theorem decV_some {s : ByteArray} {F N : Int} {D : ByteArray} (h : dec s = some (F, N, D)) : decV s = .tuple #[cv F N D, .int .i64 0] := by unfold decV; rw [h]
theorem decV_none {s : ByteArray} (h : dec s = none) : decV s = .tuple #[cv0, .int .i64 3] := by unfold decV; rw [h]
end Go.Proofs.YtahkigabapdleaaDoor
