/-
  The walk of meta.Encode.
-/
import Derived.Test.YtnjmkljnjngpkaaDoorMMay
import Derived.Test.YtnjmkljnjngpkaaDoorEClone
import Derived.Deep.RegionHeld3
namespace Go.Proofs.YtnjmkljnjngpkaaDoor
open Go.RowKit MP
set_option linter.unusedVariables false
set_option linter.unusedSimpArgs false

def encV (P G R L C : Int) : Value := .tuple #[.string (enc ⟨P, G, R, L, C⟩).1, .int .i64 (enc ⟨P, G, R, L, C⟩).2]
def U32 (n : Int) : Prop := 0 ≤ n ∧ n ≤ 4294967295
/-- A number's four bytes. -/
abbrev four (n : Int) : ByteArray := ⟨(Lib.leBytes 4 n.toNat).toArray⟩
theorem four_size (n : Int) : (four n).size = 4 := L7.le4_size _
/-- What Encode puts together. -/
theorem enc_parts {P G R L C : Int} (h : May ⟨P, G, R, L, C⟩) : ∃ n : Nat, P = n + 34 ∧ n ≤ 990 ∧
    (⟨#[119, 105, 116, 104, 121]⟩ ++ four P ++ four G ++ four C : ByteArray).size = 17 ∧
    (⟨#[119, 105, 116, 104, 121]⟩ ++ four P ++ four G ++ four C ++ rep 0 n ++ ⟨#[87]⟩ : ByteArray) = ⟨(body ⟨P, G, R, L, C⟩).toArray⟩ ∧ (body ⟨P, G, R, L, C⟩).length = n + 18 := by
  have hp := mayBe_le h.1
  simp only at hp
  obtain ⟨n, hn⟩ := Int.eq_ofNat_of_zero_le (show 0 ≤ P - 34 by omega)
  refine ⟨n, by omega, by omega, ?_, ?_, ?_⟩
  · simp only [ByteArray.size_append, four_size]
    rfl
  · have e : P.toNat - 34 = n := by omega
    apply ByteArray.ext
    simp [body, front, rep, e]
  · rw [body_length _ (by simp only; omega)]
    simp only
    omega
theorem enc_sizes {P G C : Int} (n : Nat) {X1 X2 X3 X4 X5 : ByteArray} (h1 : ⟨#[119, 105, 116, 104, 121]⟩ ++ four P = X1) (h2 : X1 ++ four G = X2) (h3 : X2 ++ four C = X3) (h4 : X3 ++ rep 0 n = X4) (h5 : X4 ++ ⟨#[87]⟩ = X5) : X1.size = 9 ∧ X2.size = 13 ∧ X3.size = 17 ∧ X4.size = 17 + n ∧ X5.size = 18 + n := by
  subst h1 h2 h3 h4 h5
  simp only [ByteArray.size_append, four_size, rep_size]
  refine ⟨rfl, rfl, rfl, ?_, ?_⟩
  · show 5 + 4 + 4 + 4 + n = _
    omega
  · show 5 + 4 + 4 + 4 + n + 1 = _
    omega
theorem held4 {c : Prop} {f : FuncId} {F4 : Int → ByteArray} {n : Int} {W0 W : World} (t : Hid (∀ n W, U32 n → Calls Tryd.prog f #[.int .u32 n] W fun e w' => e = .returned (.string (F4 n)) ∧ Below W.heap.size W w')) (u : U32 n) (b : Hid (Below W0.heap.size W0 W) ∧ c) : Calls Tryd.prog f #[.int .u32 n] W fun e w' => e = .returned (.string (F4 n)) ∧ Below W0.heap.size W0 w' :=
  (t.out n W u).mono fun e w' ⟨h1, h2⟩ => ⟨h1, b.1.out.trans' h2⟩
set_option maxHeartbeats 2000000 in
set_option maxRecDepth 100000 in
theorem enc_any (P G R L C : Int) (w : World) (hs : L7.Sizes w) :
    Calls Tryd.prog 9 #[mv P G R L C] w fun e w' => e = .returned (encV P G R L C) ∧ Below w.heap.size w w' := by
  have hb0 := mbox_below 23 P G R L C w
  have HB0 := Lib.hid hb0
  have HS0 := Lib.hid (hs.below hs.lt hb0)
  have HK := Lib.hid (mbox_new 23 P G R L C w)
  have HM := Lib.hid (fun W (h : L7.Sizes W) => may_any P G R L C W h)
  obtain ⟨r, HRS⟩ : ∃ r, Hid (r = encV P G R L C) := ⟨_, Lib.hid rfl⟩
  rw [← HRS.out]
  by_cases hmay : May ⟨P, G, R, L, C⟩
  · obtain ⟨n, hn, hn2, _, hbody, hbl⟩ := enc_parts hmay
    have hp : 128 ≤ P ∧ P ≤ 1024 := mayBe_le hmay.1
    have HX : Hid (r = .tuple #[.string ⟨(page ⟨P, G, R, L, C⟩).toArray⟩, .int .i64 0]) := Lib.hid (by rw [HRS.out, encV, enc_good hmay])
    obtain ⟨X1, h1⟩ : ∃ X1 : ByteArray, ⟨#[119, 105, 116, 104, 121]⟩ ++ four P = X1 := ⟨_, rfl⟩
    obtain ⟨X2, h2⟩ : ∃ X2, X1 ++ four G = X2 := ⟨_, rfl⟩
    obtain ⟨X3, h3⟩ : ∃ X3, X2 ++ four C = X3 := ⟨_, rfl⟩
    obtain ⟨X4, h4⟩ : ∃ X4, X3 ++ rep 0 n = X4 := ⟨_, rfl⟩
    obtain ⟨X5, h5⟩ : ∃ X5 : ByteArray, X4 ++ ⟨#[87]⟩ = X5 := ⟨_, rfl⟩
    obtain ⟨s1, s2, s3, s4, s5⟩ := enc_sizes n h1 h2 h3 h4 h5
    have hX5 : X5 = ⟨(body ⟨P, G, R, L, C⟩).toArray⟩ := by rw [← h5, ← h4, ← h3, ← h2, ← h1]; exact hbody
    have hg2 : 2 ≤ G ∧ G ≤ 4096 ∧ 0 ≤ C ∧ C ≤ 2147483647 ∧ 0 ≤ L ∧ L ≤ 255 ∧ 1 ≤ R ∧ R < G := by
      obtain ⟨_, h2, h3, h4, h5, h6, h7, h8, h9⟩ := hmay
      exact ⟨h2, h3, h8, h9, h6, h7, h4, h5⟩
    have H4 : Hid (∀ n W, U32 n → Calls Tryd.prog 23 #[.int .u32 n] W fun e w' => e = .returned (.string (four n)) ∧ Below W.heap.size W w') := Lib.hid (fun n W h => L7.four_any n W h.1 h.2)
    have v1 : U32 P := ⟨by omega, by omega⟩
    have v2 : U32 G := ⟨by omega, by omega⟩
    have v3 : U32 C := ⟨by omega, by omega⟩
    have HREP : Hid (∀ W, Calls Tryd.prog 24 #[.string ⟨#[0]⟩, .int .i64 n] W fun e w' => e = .returned (.string (rep 0 n)) ∧ Below W.heap.size W w') := Lib.hid (fun W => L7.repeat_zeros n W (by omega))
    have HSE := Lib.hid (fun W (h : L7.Sizes W) => L7.seal_any (hd ⟨P, G, R, L, C⟩) X5 P W h (by simp [Lit.wf, IntKind.min, IntKind.max, IntKind.signed, IntKind.bits]; omega) (by unfold maxLen; omega))
    have hsv := seal_ok hmay
    simp only at hsv
    rw [hX5, hsv, ← hX5] at HSE
    rw [show L7.hv (hd ⟨P, G, R, L, C⟩) = .agg #[.int .i64 1, .int .i64 L, .int .i64 0, .int .i64 R, .int .i64 0] by rfl] at HSE
    generalize (⟨(page ⟨P, G, R, L, C⟩).toArray⟩ : ByteArray) = PG at *
    rw [decide_eq_true hmay] at HM
    have Z1 : Hid (¬ 9223372036854775807 < 5 + (four P).size) := Lib.hid (by rw [four_size]; decide)
    have Z2 : Hid (¬ 9223372036854775807 < X1.size + (four G).size) := Lib.hid (by rw [four_size]; omega)
    have Z3 : Hid (¬ 9223372036854775807 < X2.size + (four C).size) := Lib.hid (by rw [four_size]; omega)
    have Z4 : Hid (¬ 9223372036854775807 < X3.size + (rep 0 n).size) := Lib.hid (by rw [rep_size]; omega)
    have Z5 : Hid (¬ 9223372036854775807 < X4.size + (⟨#[87]⟩ : ByteArray).size) := Lib.hid (by show ¬ _ < X4.size + 1; omega)
    have U1 : Hid (IntKind.u32.wrap P = P) := Lib.hid (by rw [IntKind.wrap_u32]; omega)
    have U2 : Hid (IntKind.u32.wrap G = G) := Lib.hid (by rw [IntKind.wrap_u32]; omega)
    have U3 : Hid (IntKind.u32.wrap C = C) := Lib.hid (by rw [IntKind.wrap_u32]; omega)
    have I1 : Hid (IntKind.i64.wrap (P - 16) = P - 16) := Lib.hid (IntWalk.i64_in _ (by omega))
    have I2 : Hid (IntKind.i64.wrap (P - 16 - (X3.size : Int)) = P - 16 - X3.size) := Lib.hid (IntWalk.i64_in _ (by omega))
    have I3 : Hid (IntKind.i64.wrap (P - 16 - (X3.size : Int) - 1) = n) := Lib.hid (by rw [IntWalk.i64_in _ (by omega)]; omega)
    clear hmay hs hb0 hbody hbl hX5 hsv s1 s2 s3 s4 s5 hp hg2 hn2 hn
    generalize four = F4 at *
    generalize rep 0 n = Z at *
    obtain ⟨c0, c1, c2, c3, c4⟩ := HK.out.cells
    go_enter Tryd.func9, Tryd.ntmps9
    go_wp2_with fail
    refine (HM.out _ HS0.out).mono ?_
    rintro e w2 ⟨rfl, hb2⟩
    clear c0 c1 c2 c3 c4
    have HS2 := Lib.hid (HS0.out.below HS0.out.lt hb2)
    have HB2 := Lib.hid (HB0.out.trans' hb2)
    have HK2 := Lib.hid (HK.out.below hb2)
    clear hb2 HB0 HS0 HK
    have HSA : Hid (∀ V, Below w2.heap.size w2 V → (fun V => Hid (Below w2.heap.size w2 V) ∧ V.cell? ⟨w.heap.size, 0, none⟩ = some (.int .i64 P) ∧ V.cell? ⟨w.heap.size, 1, none⟩ = some (.int .i64 G) ∧ V.cell? ⟨w.heap.size, 4, none⟩ = some (.int .i64 C)) V) := Lib.hid (fun V hb => ⟨Lib.hid hb, (HK2.out.below hb).cells.1, (HK2.out.below hb).cells.2.1, (HK2.out.below hb).cells.2.2.2.2⟩)
    have hSA := HSA.out _ (Below.refl _ _)
    have hSd := HSA.out _ (L5.below_drewN (Below.refl _ w2) 1)
    go_wp2_with fail
    have z1 := Z1.out
    have z2 := Z2.out
    have z3 := Z3.out
    have u1 := U1.out
    have u2 := U2.out
    have u3 := U3.out
    go_region_held3 (fun V => Hid (Below w2.heap.size w2 V) ∧ V.cell? ⟨w.heap.size, 0, none⟩ = some (.int .i64 P) ∧ V.cell? ⟨w.heap.size, 1, none⟩ = some (.int .i64 G) ∧ V.cell? ⟨w.heap.size, 4, none⟩ = some (.int .i64 C)) (first | assumption | exact hSd)
      (first
        | (go_at_call 23; refine (held4 H4 (by assumption) (by assumption)).mono ?_; rintro e V5 ⟨rfl, hb⟩; have hSn := HSA.out _ hb)
        | fail "no arm")
    have HS5 := Lib.hid (HS2.out.below HS2.out.lt hb)
    have HB5 := Lib.hid (HB2.out.trans' hb)
    have HK5 := Lib.hid (HK2.out.below hb)
    clear hb hSA hSd hSn HSA u1 u2 u3 U1 U2 U3 z1 z2 z3 Z1 Z2 Z3 HS2 HB2 HK2
    obtain ⟨c0, c1, c2, c3, c4⟩ := HK5.out.cells
    have i1 := I1.out
    have i2 := I2.out
    have i3 := I3.out
    go_wp2_with fail
    refine (HREP.out _).mono ?_
    rintro e V6 ⟨rfl, hb⟩
    have HS6 := Lib.hid (HS5.out.below HS5.out.lt hb)
    have HB6 := Lib.hid (HB5.out.trans' hb)
    have HK6 := Lib.hid (HK5.out.below hb)
    clear hb c0 c1 c2 c3 c4 i1 i2 i3 HS5 HB5 HK5
    obtain ⟨c0, c1, c2, c3, c4⟩ := HK6.out.cells
    have z4 := Z4.out
    have z5 := Z5.out
    go_wp2_with fail
    refine (HSE.out _ HS6.out).mono ?_
    rintro e V7 ⟨rfl, hb⟩
    go_wp2_with fail
    go_ret2
    exact ⟨by rw [HX.out] <;> rfl, HB6.out.trans' hb⟩
  · have HX : Hid (r = .tuple #[.string ⟨#[]⟩, .int .i64 3]) := Lib.hid (by rw [HRS.out, encV, enc_form hmay])
    rw [decide_eq_false hmay] at HM
    clear hmay hs hb0
    obtain ⟨c0, c1, c2, c3, c4⟩ := HK.out.cells
    go_enter Tryd.func9, Tryd.ntmps9
    go_wp2_with fail
    refine (HM.out _ HS0.out).mono ?_
    rintro e w2 ⟨rfl, hb2⟩
    go_wp2_with fail
    go_ret2
    exact ⟨by rw [HX.out] <;> rfl, HB0.out.trans' hb2⟩

/-- What Decode answers. -/
def decV (s : ByteArray) : Value := match dec s with
  | some m => .tuple #[mv m.p m.pg m.r m.l m.n, .int .i64 0]
  | none => .tuple #[mv 0 0 0 0 0, .int .i64 3]
theorem decV_some {s : ByteArray} {m : Mt} (h : dec s = some m) : decV s = .tuple #[mv m.p m.pg m.r m.l m.n, .int .i64 0] := by unfold decV; rw [h]
theorem decV_none {s : ByteArray} (h : dec s = none) : decV s = .tuple #[mv 0 0 0 0 0, .int .i64 3] := by unfold decV; rw [h]
end Go.Proofs.YtnjmkljnjngpkaaDoor
