/-
  The walk of the document's Encode of layer 13. Written by wip/gen_mdoc.py.
-/
import Derived.Test.YtnjmkljnjngpkaaDoorMDMay
import Derived.Test.YtnjmkljnjngpkaaDoorHDocO
namespace Go.Proofs.YtnjmkljnjngpkaaDoor
open Go.RowKit MP
set_option linter.unusedVariables false
set_option linter.unusedSimpArgs false

theorem heldW {c : Prop} {f : FuncId} {args : Array Value} {v : Value} {W0 W : World} (t : Hid (∀ W, Calls Tryd.prog f args W fun e w' => e = .returned v ∧ Below W.heap.size W w')) (b : Hid (Below W0.heap.size W0 W) ∧ c) : Calls Tryd.prog f args W fun e w' => e = .returned v ∧ Below W0.heap.size W0 w' :=
  (t.out W).mono fun e w' ⟨h1, h2⟩ => ⟨h1, b.1.out.trans' h2⟩
set_option maxHeartbeats 2000000 in
set_option maxRecDepth 100000 in
theorem renc_any (P G R L C : Int) (w : World) (hs : L7.Sizes w) :
    Calls Tryd.prog 10 #[mv P G R L C] w fun e w' => e = .returned (encV P G R L C) ∧ Below w.heap.size w w' := by
  have hb0 := mbox_below 29 P G R L C w
  have HB0 := Lib.hid hb0
  have HS0 := Lib.hid (hs.below hs.lt hb0)
  have HK := Lib.hid (mbox_new 29 P G R L C w)
  have HM := Lib.hid (fun W (h : L7.Sizes W) => rmay_any P G R L C W)
  obtain ⟨r, HRS⟩ : ∃ r, Hid (r = encV P G R L C) := ⟨_, Lib.hid rfl⟩
  rw [← HRS.out]
  by_cases hmay : May ⟨P, G, R, L, C⟩
  · obtain ⟨n, hn, hn2, _, hbody, hbl⟩ := enc_parts hmay
    have hp : 128 ≤ P ∧ P ≤ 1024 := mayBe_le hmay.1
    have HX : Hid (r = .tuple #[.string ⟨(page ⟨P, G, R, L, C⟩).toArray⟩, .int .i64 0]) := Lib.hid (by rw [HRS.out, encV, enc_good hmay])
    obtain ⟨X1, h1⟩ : ∃ X1 : ByteArray, ⟨#[119, 105, 116, 104, 121]⟩ ++ four P = X1 := ⟨_, rfl⟩
    obtain ⟨X2, h2⟩ : ∃ X2, X1 ++ four G = X2 := ⟨_, rfl⟩
    obtain ⟨X3, h3⟩ : ∃ X3, X2 ++ four C = X3 := ⟨_, rfl⟩
    obtain ⟨X4, h4⟩ : ∃ X4, X3 ++ rep 0 n = X4 := ⟨_, rfl⟩
    obtain ⟨X5, h5⟩ : ∃ X5 : ByteArray, X4 ++ ⟨#[87]⟩ = X5 := ⟨_, rfl⟩
    obtain ⟨s1, s2, s3, s4, s5⟩ := enc_sizes n h1 h2 h3 h4 h5
    have hX5 : X5 = ⟨(body ⟨P, G, R, L, C⟩).toArray⟩ := by rw [← h5, ← h4, ← h3, ← h2, ← h1]; exact hbody
    have hg2 : 2 ≤ G ∧ G ≤ 4096 ∧ 0 ≤ C ∧ C ≤ 2147483647 ∧ 0 ≤ L ∧ L ≤ 255 ∧ 1 ≤ R ∧ R < G := by
      obtain ⟨_, h2, h3, h4, h5, h6, h7, h8, h9⟩ := hmay
      exact ⟨h2, h3, h8, h9, h6, h7, h4, h5⟩
    have H4 : Hid (∀ n W, U32 n → Calls Tryd.prog 26 #[.int .u32 n] W fun e w' => e = .returned (.string (four n)) ∧ Below W.heap.size W w') := Lib.hid (fun n W h => L7.rfour_any n W h.1 h.2)
    have v1 : U32 P := ⟨by omega, by omega⟩
    have v2 : U32 G := ⟨by omega, by omega⟩
    have v3 : U32 C := ⟨by omega, by omega⟩
    have HREP : Hid (∀ W, Calls Tryd.prog 19 #[.int .u8 0, .int .i64 n] W fun e w' => e = .returned (.string (rep 0 n)) ∧ Below W.heap.size W w') := Lib.hid (fun W => L7.repeat0_any n W (by omega))
    have HSE : Hid (L7.Tells 27 #[L7.hv (hd ⟨P, G, R, L, C⟩), .string X5, .int .i64 P] (L7.seaV (hd ⟨P, G, R, L, C⟩) X5 P)) := Lib.hid (fun W (h : L7.Sizes W) => L7.refSeal_any (hd ⟨P, G, R, L, C⟩) X5 P W (by simp [Lit.wf, IntKind.min, IntKind.max, IntKind.signed, IntKind.bits]; omega) (by unfold maxLen; omega))
    have hsv := seal_ok hmay
    simp only at hsv
    unfold L7.seaV at HSE
    rw [hX5, hsv, ← hX5] at HSE
    rw [show L7.hv (hd ⟨P, G, R, L, C⟩) = .agg #[.int .i64 1, .int .i64 L, .int .i64 0, .int .i64 R, .int .i64 0] by rfl] at HSE
    generalize (⟨(page ⟨P, G, R, L, C⟩).toArray⟩ : ByteArray) = PG at *
    rw [decide_eq_true hmay] at HM
    have Z1 : Hid (¬ 9223372036854775807 < 5 + (four P).size) := Lib.hid (by rw [four_size]; decide)
    have Z2 : Hid (¬ 9223372036854775807 < X1.size + (four G).size) := Lib.hid (by rw [four_size]; omega)
    have Z3 : Hid (¬ 9223372036854775807 < X2.size + (four C).size) := Lib.hid (by rw [four_size]; omega)
    have Z4 : Hid (¬ 9223372036854775807 < X3.size + (rep 0 n).size) := Lib.hid (by rw [rep_size]; omega)
    have Z5 : Hid (¬ 9223372036854775807 < X4.size + 1) := Lib.hid (by omega)
    have U1 : Hid (IntKind.u32.wrap P = P) := Lib.hid (by rw [IntKind.wrap_u32]; omega)
    have U2 : Hid (IntKind.u32.wrap G = G) := Lib.hid (by rw [IntKind.wrap_u32]; omega)
    have U3 : Hid (IntKind.u32.wrap C = C) := Lib.hid (by rw [IntKind.wrap_u32]; omega)
    have I1 : Hid (IntKind.i64.wrap (P - 16) = P - 16) := Lib.hid (IntWalk.i64_in _ (by omega))
    have I2 : Hid (IntKind.i64.wrap (P - 16 - 17) = P - 16 - 17) := Lib.hid (IntWalk.i64_in _ (by omega))
    have I3 : Hid (IntKind.i64.wrap (P - 16 - 17 - 1) = n) := Lib.hid (by rw [IntWalk.i64_in _ (by omega)]; omega)
    clear hmay hs hb0 hbody hbl hX5 hsv s1 s2 s3 s4 s5 hp hg2 hn2 hn
    generalize four = F4 at *
    generalize rep 0 n = Z at *
    obtain ⟨c0, c1, c2, c3, c4⟩ := HK.out.cells
    go_enter Tryd.func10, Tryd.ntmps10
    go_wp2_with fail
    refine (HM.out _ HS0.out).mono ?_
    rintro e w2 ⟨rfl, hb2⟩
    clear c0 c1 c2 c3 c4
    have HS2 := Lib.hid (HS0.out.below HS0.out.lt hb2)
    have HB2 := Lib.hid (HB0.out.trans' hb2)
    have HK2 := Lib.hid (HK.out.below hb2)
    clear hb2 HB0 HS0 HK
    have HSA : Hid (∀ V, Below w2.heap.size w2 V → (fun V => Hid (Below w2.heap.size w2 V) ∧ V.cell? ⟨w.heap.size, 0, none⟩ = some (.int .i64 P) ∧ V.cell? ⟨w.heap.size, 1, none⟩ = some (.int .i64 G) ∧ V.cell? ⟨w.heap.size, 4, none⟩ = some (.int .i64 C)) V) := Lib.hid (fun V hb => ⟨Lib.hid hb, (HK2.out.below hb).cells.1, (HK2.out.below hb).cells.2.1, (HK2.out.below hb).cells.2.2.2.2⟩)
    have hSA := HSA.out _ (Below.refl _ _)
    have hSd := HSA.out _ (L5.below_drewN (Below.refl _ w2) 1)
    go_wp2_with fail
    have z1 := Z1.out
    have z2 := Z2.out
    have z3 := Z3.out
    have u1 := U1.out
    have u2 := U2.out
    have u3 := U3.out
    go_region_held3 (fun V => Hid (Below w2.heap.size w2 V) ∧ V.cell? ⟨w.heap.size, 0, none⟩ = some (.int .i64 P) ∧ V.cell? ⟨w.heap.size, 1, none⟩ = some (.int .i64 G) ∧ V.cell? ⟨w.heap.size, 4, none⟩ = some (.int .i64 C)) (first | assumption | exact hSd)
      (first
        | (go_at_call 26; refine (held4 H4 (by assumption) (by assumption)).mono ?_; rintro e V5 ⟨rfl, hb⟩; have hSn := HSA.out _ hb)
        | fail "no arm")
    have HS5 := Lib.hid (HS2.out.below HS2.out.lt hb)
    have HB5 := Lib.hid (HB2.out.trans' hb)
    have HK5 := Lib.hid (HK2.out.below hb)
    clear hb hSA hSd hSn HSA u1 u2 u3 U1 U2 U3 z1 z2 z3 Z1 Z2 Z3 HS2 HB2 HK2
    have HSB : Hid (∀ V, Below V5.heap.size V5 V → (fun V => Hid (Below V5.heap.size V5 V) ∧ V.cell? ⟨w.heap.size, 0, none⟩ = some (.int .i64 P) ∧ V.cell? ⟨w.heap.size, 2, none⟩ = some (.int .i64 R) ∧ V.cell? ⟨w.heap.size, 3, none⟩ = some (.int .i64 L)) V) := Lib.hid (fun V hb => ⟨Lib.hid hb, (HK5.out.below hb).cells.1, (HK5.out.below hb).cells.2.2.1, (HK5.out.below hb).cells.2.2.2.1⟩)
    have hSB := HSB.out _ (Below.refl _ _)
    have hSe := HSB.out _ (L5.below_drewN (Below.refl _ V5) 1)
    have i1 := I1.out
    have i2 := I2.out
    have i3 := I3.out
    have z4 := Z4.out
    have z5 := Z5.out
    go_wp2_with fail
    go_region_held3 (fun V => Hid (Below V5.heap.size V5 V) ∧ V.cell? ⟨w.heap.size, 0, none⟩ = some (.int .i64 P) ∧ V.cell? ⟨w.heap.size, 2, none⟩ = some (.int .i64 R) ∧ V.cell? ⟨w.heap.size, 3, none⟩ = some (.int .i64 L)) (first | assumption | exact hSe)
      (first
        | (go_at_call 19; refine (heldW HREP (by assumption)).mono ?_; rintro e V6 ⟨rfl, hb⟩; have hSn := HSB.out _ hb)
        | (go_at_call 27; refine (L7.Tells.held HSE HS5 (by assumption)).mono ?_; rintro e V6 ⟨rfl, hb⟩; have hSn := HSB.out _ hb)
        | fail "no arm")
    go_wp2_with fail
    go_ret2
    exact ⟨by rw [HX.out] <;> rfl, HB5.out.trans' hb⟩
  · have HX : Hid (r = .tuple #[.string ⟨#[]⟩, .int .i64 3]) := Lib.hid (by rw [HRS.out, encV, enc_form hmay])
    rw [decide_eq_false hmay] at HM
    clear hmay hs hb0
    obtain ⟨c0, c1, c2, c3, c4⟩ := HK.out.cells
    go_enter Tryd.func10, Tryd.ntmps10
    go_wp2_with fail
    refine (HM.out _ HS0.out).mono ?_
    rintro e w2 ⟨rfl, hb2⟩
    go_wp2_with fail
    go_ret2
    exact ⟨by rw [HX.out] <;> rfl, HB0.out.trans' hb2⟩

end Go.Proofs.YtnjmkljnjngpkaaDoor
