import Derived.Test.YtpeghilfldpgfaaGreatDoorTHDocO
import Derived.Test.YtpeghilfldpgfaaGreatDoorTIIter
import Derived.RangeFuncWrites
import Derived.RegionIn
import Derived.Stop.RegionWithIn
set_option linter.unusedVariables false
set_option linter.unusedSimpArgs false
set_option maxHeartbeats 8000000
set_option maxRecDepth 100000
namespace Go.Proofs.YtpeghilfldpgfaaGreatDoor.L11
open Go.RowKit IP
def SBx (g : Nat) (lo hi : ByteArray) (d : Bool) (w : World) : Prop := w.heap[g]? = some (.cells #[.string lo, .string hi, .bool d] 225 (0, 0))
theorem SBx.cells {g : Nat} {lo hi : ByteArray} {d : Bool} {w : World} (k : SBx g lo hi d w) : w.cell? ⟨g, 0, none⟩ = some (.string lo) ∧ w.cell? ⟨g, 1, none⟩ = some (.string hi) ∧ w.cell? ⟨g, 2, none⟩ = some (.bool d) := by
 unfold SBx at k
 refine ⟨?_, ?_, ?_⟩ <;> simp [World.cell?, k]
theorem SBx.lt {g : Nat} {lo hi : ByteArray} {d : Bool} {w : World} (k : SBx g lo hi d w) : g < w.heap.size := (Array.getElem?_eq_some_iff.1 k).1
theorem SBx.new (lo hi : ByteArray) (d : Bool) (w : World) : SBx w.heap.size lo hi d (w.alloc (.cells #[.string lo, .string hi, .bool d] 225)) := heap_alloc_new _ _
theorem SBx.own {g : Nat} {lo hi : ByteArray} {d : Bool} {X Y : World} {row : Option Nat} (h : SBx g lo hi d X) (hg : X.grownBy Y row) (hr : ∀ r, row = some r → ∃ o : Obj, X.heap[r]? = some o ∧ o.isCells = false) : SBx g lo hi d Y := by
 refine (hg.block g h.lt (fun e => ?_)).trans h; obtain ⟨o, ho, hc⟩ := hr g e.symm; unfold SBx at h; rw [h] at ho; cases ho; cases hc
def OkAt (R : Int) (H : ByteArray) (ss : List ByteArray) (p : Nat) (i : Nat) : Prop := doesAt ss.length R i = true → L5.B (loAt ⟨#[]⟩ ss i) < L5.B (hiAt ss H i) ∧ (hiAt ss H i).size ≤ p / 8
instance (R : Int) (H : ByteArray) (ss : List ByteArray) (p : Nat) (i : Nat) : Decidable (OkAt R H ss p i) := by unfold OkAt; infer_instance
def EndsP (R : Int) (H : ByteArray) (ss : List ByteArray) (p : Nat) : Prop := (R = 0 → H.size = 0) ∧ ∀ i, i < ss.length + 1 → OkAt R H ss p i
def EndsQ (R : Int) (H : ByteArray) (ss : List ByteArray) (p : Int) : Prop := ((R = 0 → H.size = 0) ∧ (R ≠ 0 → H.size ≠ 0 ∧ (H.size : Int) ≤ p / 8 ∧ ∀ s ∈ ss, L5.B s < L5.B H)) ∧ Rise ss ∧ ∀ s ∈ ss, SepOk p s
instance (R : Int) (H : ByteArray) (ss : List ByteArray) (p : Int) : Decidable (EndsQ R H ss p) := by unfold EndsQ; infer_instance
theorem lt_empty {s : ByteArray} : L5.B (⟨#[]⟩ : ByteArray) < L5.B s ↔ s.size ≠ 0 := by
 have h : (L5.B s).length = s.size := L5.b_size s; show ([] : List UInt8) < _ ↔ _
 cases hs : L5.B s with
 | nil =>
  rw [hs] at h
  have h' : s.size = 0 := by simpa using h.symm
  constructor
  ·intro h2; exact absurd h2 (List.not_lt_nil _)
  ·intro h2; exact absurd h' h2
 | cons c l =>
  rw [hs] at h
  have h' : l.length + 1 = s.size := by simpa using h
  constructor
  ·intro _; omega
  ·intro _; exact List.nil_lt_cons _ _
theorem hi_low {ss : List ByteArray} {H : ByteArray} {i : Nat} {s : ByteArray} (h : ss[i]? = some s) : hiAt ss H i = s := by
 have hi : i < ss.length := (List.getElem?_eq_some_iff.1 h).1; unfold hiAt; rw [List.getD_eq_getElem?_getD, List.getElem?_append_left hi, h]; rfl
theorem hi_last (ss : List ByteArray) (H : ByteArray) : hiAt ss H ss.length = H := by
 unfold hiAt; rw [List.getD_eq_getElem?_getD, List.getElem?_append_right (Nat.le_refl _), Nat.sub_self]; rfl
theorem lo_at {low : ByteArray} {ss : List ByteArray} {i : Nat} {s : ByteArray} (h : ss[i]? = some s) : loAt low ss (i + 1) = s := by
 show ss.getD i _ = s; rw [List.getD_eq_getElem?_getD, h]; rfl
theorem does_low {m : Nat} {R : Int} {i : Nat} (h : i < m) : doesAt m R i = true := by unfold doesAt; rw [dT h]; rfl
theorem does_last {m : Nat} {R : Int} : doesAt m R m = decide (R ≠ 0) := by unfold doesAt; rw [dF (Nat.lt_irrefl m)]; rfl
theorem rise_get {l : List ByteArray} (h : Rise l) {i j : Nat} {x y : ByteArray} (hx : l[i]? = some x) (hy : l[j]? = some y) (hij : i < j) : L5.B x < L5.B y := by
 obtain ⟨h1, rfl⟩ := List.getElem?_eq_some_iff.1 hx; obtain ⟨h2, rfl⟩ := List.getElem?_eq_some_iff.1 hy; exact List.pairwise_iff_getElem.1 h i j h1 h2 hij
theorem rise_steps {l : List ByteArray} (h : ∀ i x y, l[i]? = some x → l[i + 1]? = some y → L5.B x < L5.B y) : Rise l := by
 refine List.pairwise_iff_getElem.2 fun i j hi hj hij => ?_
 have key : ∀ d i, (hi : i < l.length) → (hj : i + (d + 1) < l.length) → L5.B l[i] < L5.B l[i + (d + 1)] := by
  intro d
  induction d with
  | zero => intro i hi hj; exact h i _ _ (List.getElem?_eq_getElem hi) (List.getElem?_eq_getElem hj)
  | succ d ih =>
   intro i hi hj; exact L5.EP.lt_trans (ih i hi (by omega)) (h (i + (d + 1)) _ _ (List.getElem?_eq_getElem (by omega)) (List.getElem?_eq_getElem hj))
 have h2 := key (j - i - 1) i hi (by omega)
 have e : i + (j - i - 1 + 1) = j := by omega
 simp only [e] at h2; exact h2
theorem ends_iff {R : Int} {H : ByteArray} {ss : List ByteArray} {p : Nat} : EndsP R H ss p ↔ EndsQ R H ss p := by
 constructor
 ·rintro ⟨h0, h⟩
  have hs : ∀ i s, ss[i]? = some s → L5.B (loAt ⟨#[]⟩ ss i) < L5.B s ∧ s.size ≤ p / 8 := fun i s hi => by
   have hl : i < ss.length := (List.getElem?_eq_some_iff.1 hi).1; have h1 := h i (by omega) (does_low hl); rwa [hi_low hi] at h1
  have hr : Rise ss := rise_steps fun i x y hx hy => by
   have h1 := (hs (i + 1) y hy).1; rwa [lo_at hx] at h1
  have hne : ∀ s ∈ ss, s.size ≠ 0 := fun s hm => by
   obtain ⟨i, hi, rfl⟩ := List.getElem_of_mem hm; have h1 := (hs i _ (List.getElem?_eq_getElem hi)).1
   cases i with
   | zero => exact lt_empty.1 h1
   | succ i =>
    intro e; have e2 : L5.B ss[i + 1] = [] := List.eq_nil_of_length_eq_zero (by rw [L5.b_size]; exact e); rw [e2] at h1; exact absurd h1 (List.not_lt_nil _)
  refine ⟨⟨h0, fun hR => ?_⟩, hr, fun s hm => ⟨hne s hm, ?_⟩⟩
  ·have h1 := h ss.length (by omega) (by rw [does_last]; exact dT hR)
   rw [hi_last] at h1; obtain ⟨h2, h3⟩ := h1; refine ⟨fun e => ?_, by omega, fun s hm => ?_⟩
   ·have e2 : L5.B H = [] := List.eq_nil_of_length_eq_zero (by rw [L5.b_size]; exact e)
    rw [e2] at h2; exact absurd h2 (List.not_lt_nil _)
   ·obtain ⟨i, hi, rfl⟩ := List.getElem_of_mem hm
    obtain ⟨j, hj⟩ : ∃ j, ss.length = j + 1 := ⟨ss.length - 1, by omega⟩; have hlast : ss[j]? = some ss[j] := List.getElem?_eq_getElem (by omega); rw [hj, lo_at hlast] at h2; by_cases e : i = j
    ·subst e; exact h2
    ·exact L5.EP.lt_trans (rise_get hr (List.getElem?_eq_getElem hi) hlast (by omega)) h2
  ·obtain ⟨i, hi, rfl⟩ := List.getElem_of_mem hm
   have := (hs i _ (List.getElem?_eq_getElem hi)).2; omega
 ·rintro ⟨⟨h0, h1⟩, hr, hs⟩
  refine ⟨h0, fun i hi hd => ?_⟩
  have hlo : ∀ s : ByteArray, (∀ t, i = t + 1 → ∀ x, ss[t]? = some x → L5.B x < L5.B s) → s.size ≠ 0 → L5.B (loAt ⟨#[]⟩ ss i) < L5.B s := fun s ht hz => by
   cases i with
   | zero => exact lt_empty.2 hz
   | succ t =>
    have hx : ss[t]? = some ss[t] := List.getElem?_eq_getElem (by omega); rw [lo_at hx]; exact ht t rfl _ hx
  by_cases hl : i < ss.length
  ·have hx : ss[i]? = some ss[i] := List.getElem?_eq_getElem hl
   have h2 := hs _ (List.mem_of_getElem? hx); rw [hi_low hx]; refine ⟨hlo _ (fun t e x hxt => rise_get hr hxt hx (by omega)) h2.1, ?_⟩; have := h2.2; omega
  ·obtain rfl : i = ss.length := by omega
   rw [does_last] at hd; obtain ⟨h3, h4, h5⟩ := h1 (of_decide_eq_true hd); rw [hi_last]; exact ⟨hlo _ (fun t e x hxt => h5 x (List.mem_of_getElem? hxt)) h3, by omega⟩
theorem leq_of (a b : ByteArray) : (Op.bytesLess a.toList b.toList || (a.toList == b.toList)) = !decide (L5.B b < L5.B a) := by
 rcases L5.EP.tri (L5.B a) (L5.B b) with h | h | h
 ·rw [L5.less_yes h, dF (fun h2 => L5.EP.lt_irrefl _ (L5.EP.lt_trans h h2))]; rfl
 ·rw [L5.same_yes h, Bool.or_true, dF (fun h2 => by rw [h] at h2; exact L5.EP.lt_irrefl _ h2)]; rfl
 ·rw [dT h, L5.less_no (fun h2 => L5.EP.lt_irrefl _ (L5.EP.lt_trans h h2)), L5.same_no (fun h2 => by rw [h2] at h; exact L5.EP.lt_irrefl _ h)]; rfl
end Go.Proofs.YtpeghilfldpgfaaGreatDoor.L11
namespace Go.Proofs.YtpeghilfldpgfaaGreatDoor.L12
open Go.RowKit CP
theorem ixR0 (W : World) : (Instr.index 227 (.agg #[.func (.func 127) #[] #[], .func (.func 128) #[] #[], .func (.func 129) #[] #[]]) (.int .i64 0)).run Tryz.prog W = .ok (.func (.func 127) #[] #[]) W := by kernel_rfl
theorem ixR1 (W : World) : (Instr.index 227 (.agg #[.func (.func 127) #[] #[], .func (.func 128) #[] #[], .func (.func 129) #[] #[]]) (.int .i64 1)).run Tryz.prog W = .ok (.func (.func 128) #[] #[]) W := by kernel_rfl
theorem ixR2 (W : World) : (Instr.index 227 (.agg #[.func (.func 127) #[] #[], .func (.func 128) #[] #[], .func (.func 129) #[] #[]]) (.int .i64 2)).run Tryz.prog W = .ok (.func (.func 129) #[] #[]) W := by kernel_rfl
theorem may_any (F N : Int) (D : ByteArray) (p : Int) (w : World) (hs : L7.Sizes w) :
  Calls Tryz.prog 72 #[cv F N D, .int .i64 p] w fun e w' => e = .returned (.bool (decide (May F N D.size p))) ∧ Below w.heap.size w w' := by
 have hb := cbox_below 31 F N D w; have HB := zj hb; have HK := zj (cbox_new 31 F N D w); have HS := zj (hs.below hs.lt hb); have HSZ := zj (fun W (h : L7.Sizes W) => rsize_any F N D p W h); have HNU := zj (fun W => rnumbers_any F N D p W); have HDA := zj (fun W (h : L7.mayBe p = true) => rdata_any F N D p W (mayBe_le h)); obtain ⟨r, HRS⟩ : ∃ r, Hid (r = decide (May F N D.size p)) := ⟨_, zj rfl⟩; rw [← HRS.out]; have ix0 := ixR0; have ix1 := ixR1; have ix2 := ixR2; clear hb hs; go_enter Tryz.func72, Tryz.ntmps72; go_wp2_with fail
 go_loopw [8] (fun iv wr => ∃ k : Nat, k ≤ 3 ∧ iv = .int .i64 k ∧ Hid (Cx 31 w.heap.size F N D wr) ∧ Hid (L7.Sizes wr) ∧ Hid (Below w.heap.size w wr) ∧ Hid (0 < k → L7.mayBe p = true) ∧ Hid (1 < k → NumOk F N) ∧ Hid (2 < k → DataOk N D.size p)) (fun iv _ => 3 - (intOf iv).toNat)
 case atStart => exact ⟨0, by omega, rfl, HK, HS, HB, zj (fun h => absurd h (by omega)), zj (fun h => absurd h (by omega)), zj (fun h => absurd h (by omega))⟩
 case round =>
  obtain ⟨k, hk, rfl, HK, HS, HB, H0, H1, H2⟩ := hrel; obtain ⟨c0, c1, c2⟩ := HK.out.cells; rcases (show k = 0 ∨ k = 1 ∨ k = 2 ∨ k = 3 by omega) with rfl | rfl | rfl | rfl
  ·cases hm : L7.mayBe p with
   | true =>
    have HM := zj hm; rw [hm] at HSZ; clear hm; go_wp2_with fail; refine (HSZ.out _ HS.out).mono ?_; rintro e w2 ⟨rfl, hb⟩; have HK2 := zj (HK.out.below hb); have HB2 := zj (HB.out.trans' hb); have HS2 := zj (HS.out.below HS.out.lt hb); clear hb; go_wp2_with fail
    go_roundw
    case rel => exact ⟨1, by omega, by go_num, HK2, HS2, HB2, zj (fun _ => trivial), zj (fun h => absurd h (by omega)), zj (fun h => absurd h (by omega))⟩
    case measure => simp [intOf]
   | false =>
    have HX : Hid (r = false) := zj (by rw [HRS.out]; exact dF (fun h => by have := h.1; rw [hm] at this; cases this)); rw [hm] at HSZ; clear hm; go_wp2_with fail; refine (HSZ.out _ HS.out).mono ?_; rintro e w2 ⟨rfl, hb⟩; go_wp2_with fail; go_ret
    exact ⟨by rw [HX.out] <;> rfl, HB.out.trans' hb⟩
  ·by_cases hm : NumOk F N
   ·have HM := zj hm
    rw [dT hm] at HNU; clear hm; go_wp2_with fail; refine (HNU.out _).mono ?_; rintro e w2 ⟨rfl, hb⟩; have HK2 := zj (HK.out.below hb); have HB2 := zj (HB.out.trans' hb); have HS2 := zj (HS.out.below HS.out.lt hb); clear hb; go_wp2_with fail
    go_roundw
    case rel => exact ⟨2, by omega, by go_num, HK2, HS2, HB2, zj (fun _ => H0.out (by omega)), zj (fun _ => HM.out), zj (fun h => absurd h (by omega))⟩
    case measure => simp [intOf]
   ·have HX : Hid (r = false) := zj (by rw [HRS.out]; exact dF (fun h => hm h.2.1))
    rw [dF hm] at HNU; clear hm; go_wp2_with fail; refine (HNU.out _).mono ?_; rintro e w2 ⟨rfl, hb⟩; go_wp2_with fail; go_ret
    exact ⟨by rw [HX.out] <;> rfl, HB.out.trans' hb⟩
  ·by_cases hm : DataOk N D.size p
   ·have HM := zj hm
    rw [dT hm] at HDA; clear hm; go_wp2_with fail; refine (HDA.out _ (H0.out (by omega))).mono ?_; rintro e w2 ⟨rfl, hb⟩; have HK2 := zj (HK.out.below hb); have HB2 := zj (HB.out.trans' hb); have HS2 := zj (HS.out.below HS.out.lt hb); clear hb; go_wp2_with fail
    go_roundw
    case rel => exact ⟨3, by omega, by go_num, HK2, HS2, HB2, zj (fun _ => H0.out (by omega)), zj (fun _ => H1.out (by omega)), zj (fun _ => HM.out)⟩
    case measure => simp [intOf]
   ·have HX : Hid (r = false) := zj (by rw [HRS.out]; exact dF (fun h => hm h.2.2))
    rw [dF hm] at HDA; clear hm; go_wp2_with fail; refine (HDA.out _ (H0.out (by omega))).mono ?_; rintro e w2 ⟨rfl, hb⟩; go_wp2_with fail; go_ret
    exact ⟨by rw [HX.out] <;> rfl, HB.out.trans' hb⟩
  ·have HX : Hid (r = true) := zj (by rw [HRS.out]; exact dT ⟨H0.out (by omega), H1.out (by omega), H2.out (by omega)⟩)
   go_wp2_with fail; go_ret
   exact ⟨by rw [HX.out] <;> rfl, HB.out⟩
def encV (F N : Int) (D : ByteArray) (p : Int) : Value := .tuple #[.string (enc F N D p).1, .int .i64 (enc F N D p).2]
theorem enc_any (F N : Int) (D : ByteArray) (p : Int) (w : World) (hs : L7.Sizes w) :
  Calls Tryz.prog 36 #[cv F N D, .int .i64 p] w fun e w' => e = .returned (encV F N D p) ∧ Below w.heap.size w w' := by
 have hb0 := cbox_below 31 F N D w; have HB0 := zj hb0; have HS0 := zj (hs.below hs.lt hb0); have HK := zj (cbox_new 31 F N D w); have HSZ := zj (fun W (h : L7.Sizes W) => L7.size_any p W h); have HM := zj (fun W (h : L7.Sizes W) => may_any F N D p W h); obtain ⟨r, HRS⟩ : ∃ r, Hid (r = encV F N D p) := ⟨_, zj rfl⟩; rw [← HRS.out]; rcases enc_cases F N D p with ⟨hmb, hmay, he⟩ | ⟨hmb, hmay, he⟩ | ⟨hmb, hmay, he⟩
 ·have HX : Hid (r = .tuple #[.string ⟨#[]⟩, .int .i64 4]) := zj (by rw [HRS.out, encV, he])
  rw [hmb] at HSZ; clear hmb he hmay hs hb0 HM; go_enter Tryz.func36, Tryz.ntmps36; go_wp2_with fail; refine (HSZ.out _ HS0.out).mono ?_; rintro e w2 ⟨rfl, rfl⟩; go_wp2_with fail
  go_ret2
  exact ⟨by rw [HX.out] <;> rfl, HB0.out⟩
 ·have HX : Hid (r = .tuple #[.string ⟨#[]⟩, .int .i64 3]) := zj (by rw [HRS.out, encV, he])
  rw [hmb] at HSZ; rw [dF hmay] at HM; clear hmb hmay he hs hb0; obtain ⟨c0, c1, c2⟩ := HK.out.cells; go_enter Tryz.func36, Tryz.ntmps36; go_wp2_with fail; refine (HSZ.out _ HS0.out).mono ?_; rintro e w2 ⟨rfl, rfl⟩; go_wp2_with fail; refine (HM.out _ HS0.out).mono ?_; rintro e w2 ⟨rfl, hb2⟩; go_wp2_with fail
  go_ret2
  exact ⟨by rw [HX.out] <;> rfl, HB0.out.trans' hb2⟩
 ·have hp := mayBe_le hmay.1
  have hz := hmay.2.2.2.1; obtain ⟨q, rfl⟩ : ∃ q : Nat, p = q := Int.eq_ofNat_of_zero_le (by omega); have HX : Hid (r = .tuple #[.string ⟨(page F N D q).toArray⟩, .int .i64 0]) := zj (by rw [HRS.out, encV, he, Int.toNat_natCast]); rw [hmb] at HSZ; rw [dT hmay] at HM; have HSE := zj (fun W (h : L7.Sizes W) => L7.seal_any (hd F N D) D q W h (by simp [Lit.wf, IntKind.min, IntKind.max, IntKind.signed, IntKind.bits]; omega) (by unfold maxLen; omega)); have hsv := seal_ok hmay; rw [hsv, Int.toNat_natCast] at HSE; rw [show L7.hv (hd F N D) = .agg #[.int .i64 4, .int .i64 0, .int .i64 D.size, .int .i64 N, .int .i64 F] by rfl] at HSE; generalize (⟨(page F N D q).toArray⟩ : ByteArray) = PG at *; clear hmay hmb he hs hb0 hp hsv hz; obtain ⟨c0, c1, c2⟩ := HK.out.cells; go_enter Tryz.func36, Tryz.ntmps36; go_wp2_with fail; refine (HSZ.out _ HS0.out).mono ?_; rintro e w2 ⟨rfl, rfl⟩; go_wp2_with fail; refine (HM.out _ HS0.out).mono ?_; rintro e w2 ⟨rfl, hb2⟩; clear c0 c1 c2; have HS2 := zj (HS0.out.below HS0.out.lt hb2); have HB2 := zj (HB0.out.trans' hb2); obtain ⟨c0, c1, c2⟩ := (HK.out.below hb2).cells; clear hb2; go_wp2_with fail; refine (HSE.out _ HS2.out).mono ?_; rintro e w5 ⟨rfl, hb5⟩; go_wp2_with fail
  go_ret2
  exact ⟨by rw [HX.out] <;> rfl, HB2.out.trans' hb5⟩
def decV (s : ByteArray) : Value := match dec s with
 | some (F, N, D) => .tuple #[cv F N D, .int .i64 0]
 | none => .tuple #[cv0, .int .i64 3]
theorem decV_some {s : ByteArray} {F N : Int} {D : ByteArray} (h : dec s = some (F, N, D)) : decV s = .tuple #[cv F N D, .int .i64 0] := by unfold decV; rw [h]
theorem decV_none {s : ByteArray} (h : dec s = none) : decV s = .tuple #[cv0, .int .i64 3] := by unfold decV; rw [h]
theorem text_yes {a b : ByteArray} (h : a = b) : (a.toList == b.toList) = true := L5.same_yes (by rw [h])
theorem text_no {a b : ByteArray} (h : a ≠ b) : (a.toList == b.toList) = false := L5.same_no (fun e => h (ByteArray.ext (Array.toList_inj.1 e)))
theorem opn_count {s : ByteArray} (h : (L7.HP.opn s).2.2 = 0) : 0 ≤ (L7.HP.opn s).1.c := by
 by_cases hg : L7.mayBe s.size = true ∧ L7.HP.good s.data.toList
 ·rw [L7.HP.opn_good hg.1 hg.2]
  exact hg.2.1.2.2.2.2.1
 ·rw [L7.HP.opn_bad hg] at h
  cases h
theorem opn_size {s : ByteArray} : (L7.HP.opn s).2.1.size ≤ s.size := by
 by_cases hg : L7.mayBe s.size = true ∧ L7.HP.good s.data.toList
 ·rw [L7.HP.opn_good hg.1 hg.2]
  show (s.extract 16 s.size).size ≤ _; rw [ByteArray.size_extract]; omega
 ·rw [L7.HP.opn_bad hg]
  exact Nat.zero_le _
theorem dec_any (s : ByteArray) (w : World) (hz : L7.Sizes w) (hs : s.size ≤ maxLen) :
  Calls Tryz.prog 27 #[.string s] w fun e w' => e = .returned (decV s) ∧ Below w.heap.size w w' := by
 have hb0 := cbox_below 31 0 0 ⟨#[]⟩ w; have hsz0 := cbox_size 31 0 0 ⟨#[]⟩ w; have HB := zj hb0; have HK := zj (cbox_new 31 0 0 ⟨#[]⟩ w); have HG := zj (hz.below hz.lt hb0); have HO := zj (L7.open_any s _ (hz.below hz.lt hb0) hs); have hcount := @opn_count s; have hbs := @opn_size s; have hbad := @dec_bad s; have hyes := @dec_yes s; have hno := @dec_no s; unfold L7.opnV at HO; generalize L7.HP.opn s = x at *; obtain ⟨⟨k, l, c, r, f⟩, b, e⟩ := x; simp only [L7.hv] at HO; simp only at hcount hbs hbad hyes hno; unfold maxLen at hs; clear hb0 hz; by_cases he : e = 0
 ·subst he
  have hc0 := hcount rfl; obtain ⟨n, rfl⟩ := Int.eq_ofNat_of_zero_le hc0; by_cases hn : n ≤ b.size
  ·have hd : decide ((b.size : Int) < (n : Int)) = false := dF (by omega)
   have h0n : (0 : Int) ≤ n := by omega
   have hnb : (n : Int) ≤ b.size := by omega
   obtain ⟨D, hD⟩ : ∃ D, b.extract 0 n = D := ⟨_, rfl⟩; rw [Int.toNat_natCast, hD] at hyes hno; have HE := zj (fun W (h : L7.Sizes W) => enc_any f r D s.size W h); obtain ⟨S2, c2, he⟩ : ∃ S2 c2, enc f r D s.size = (S2, c2) := ⟨_, _, rfl⟩; rw [encV, he] at HE; rw [he] at hyes hno; have HD : Hid (b.extract 0 n = D) := zj hD; have HYES := zj (hyes ⟨rfl, by omega⟩); have HNO := zj (hno ⟨rfl, by omega⟩); clear hcount hbs hbad hyes hno he hc0 hn; go_enter Tryz.func27, Tryz.ntmps27; go_wp2_with fail; refine HO.out.mono ?_; rintro e V ⟨rfl, hb⟩; have HBV := zj (HB.out.trans' hb); have HKV := zj (HK.out.below hb); have hbh := L5.below_alloc V (.cells #[.int .i64 k, .int .i64 l, .int .i64 n, .int .i64 r, .int .i64 f] 120); have HBH := zj (HBV.out.trans' hbh); have HKH := zj (HKV.out.below hbh); have HHX := zj (show L7.Bx 120 V.heap.size ⟨k, l, n, r, f⟩ (V.alloc (.cells #[.int .i64 k, .int .i64 l, .int .i64 n, .int .i64 r, .int .i64 f] 120)) from heap_alloc_new _ _); have HGH := zj (HG.out.below HG.out.lt (hb.trans' hbh)); obtain ⟨y0, y1, y2, y3, y4⟩ := HHX.out.cells; clear hb hbh; go_wp2_with fail; generalize V.alloc (.cells #[.int .i64 k, .int .i64 l, .int .i64 n, .int .i64 r, .int .i64 f] 120) = W1 at *; have hb3 := cbox_below 31 0 0 ⟨#[]⟩ W1; obtain ⟨y0, y1, y2, y3, y4⟩ := (HHX.out.below hb3).cells; obtain ⟨x0, x1, x2⟩ := (cbox_new 31 0 0 ⟨#[]⟩ W1).cells; obtain ⟨f0, f1, f2⟩ := (cbox_new 31 0 0 ⟨#[]⟩ W1).free; simp only [cbox] at y0 y1 y2 y3 y4 x0 x1 x2 f0 f1 f2; clear hb3
   go_region
   have hb4 : Below W1.heap.size W1 (W1.alloc (.cells #[.int .i64 f, .int .i64 r, .string D] 31)).drew := L5.below_drewN (L5.below_alloc W1 _) 1; have HC : Hid (Cx 31 W1.heap.size f r D (W1.alloc (.cells #[.int .i64 f, .int .i64 r, .string D] 31)).drew) := zj (cbox_new 31 f r D W1); have HB2 := zj (HBH.out.trans' hb4); have HK2 := zj (HKH.out.below hb4); have HG2 := zj (HGH.out.below HGH.out.lt hb4); generalize (W1.alloc (.cells #[.int .i64 f, .int .i64 r, .string D] 31)).drew = W2 at *; clear hb4 y0 y1 y2 y3 y4 x0 x1 x2 f0 f1 f2 HBH HKH HGH HHX HBV HKV HB HK HG HO; obtain ⟨x0, x1, x2⟩ := HC.out.cells; generalize hq1 : W1.heap.size = gc at *; go_wp2_with fail; refine (HE.out _ HG2.out).mono ?_; rintro e V3 ⟨rfl, hb⟩; have HKQ := zj (HK2.out.below hb); have HBQ := zj (HB2.out.trans' hb); clear x0 x1 x2; obtain ⟨x0, x1, x2⟩ := (HC.out.below hb).cells; obtain ⟨u0, u1, u2⟩ := HKQ.out.cells; obtain ⟨f0, f1, f2⟩ := HKQ.out.free; clear hb; by_cases hc0 : c2 = 0
   ·subst hc0
    by_cases hS : S2 = s
    ·subst hS
     have hz := text_yes (rfl : S2 = S2)
     have hz2 : (S2.toList != S2.toList) = false := by simp
     have HX : Hid (decV S2 = .tuple #[cv f r D, .int .i64 0]) := zj (decV_some (HYES.out rfl)); go_wp2_with fail; obtain ⟨r0, r1, r2⟩ := (setC_box HKQ.out f r D).cells; unfold setC at r0 r1 r2; refine bodyPost_ret (v := .tuple #[cv f r D, .int .i64 0]) (by simp [results, Tryz.results27, go_sem, r0, r1, r2]) rfl ⟨by rw [HX.out], ?_⟩; exact setC_below HBQ.out (Nat.le_refl _) f r D
    ·have hz := text_no hS
     have hz2 : (S2.toList != s.toList) = true := by simp only [bne, hz]; rfl
     have HX : Hid (decV s = .tuple #[cv0, .int .i64 3]) := zj (decV_none (HNO.out (fun h => hS (congrArg Prod.fst h)))); clear hS; go_wp2_with fail; obtain ⟨r0, r1, r2⟩ := (setC_box HKQ.out 0 0 ⟨#[]⟩).cells; unfold setC at r0 r1 r2; refine bodyPost_ret (v := .tuple #[cv0, .int .i64 3]) (by simp [results, Tryz.results27, go_sem, r0, r1, r2]) rfl ⟨by rw [HX.out], ?_⟩; exact setC_below HBQ.out (Nat.le_refl _) 0 0 ⟨#[]⟩
   ·have hcn : (c2 != 0) = true := by simpa using hc0
    have hce : (c2 == 0) = false := by simpa using hc0
    have HX : Hid (decV s = .tuple #[cv0, .int .i64 3]) := zj (decV_none (HNO.out (fun h => hc0 (congrArg Prod.snd h)))); clear hc0; go_wp2_with fail; obtain ⟨r0, r1, r2⟩ := (setC_box HKQ.out 0 0 ⟨#[]⟩).cells; unfold setC at r0 r1 r2; refine bodyPost_ret (v := .tuple #[cv0, .int .i64 3]) (by simp [results, Tryz.results27, go_sem, r0, r1, r2]) rfl ⟨by rw [HX.out], ?_⟩; exact setC_below HBQ.out (Nat.le_refl _) 0 0 ⟨#[]⟩
  ·have hd : decide ((b.size : Int) < (n : Int)) = true := dT (by omega)
   have hd2 : decide (b.size < n) = true := dT (by omega); have HX : Hid (decV s = .tuple #[cv0, .int .i64 3]) := zj (decV_none (hbad (fun h => by have := h.2; omega))); clear hcount hbs hbad hyes hno hc0 hn; go_enter Tryz.func27, Tryz.ntmps27; go_wp2_with fail; refine HO.out.mono ?_; rintro e V ⟨rfl, hb⟩; have hb := hb.trans' (L5.below_alloc V (.cells #[.int .i64 k, .int .i64 l, .int .i64 n, .int .i64 r, .int .i64 f] 120)); have HBQ := zj (HB.out.trans' hb); have HKQ := zj (HK.out.below hb); have HHX := zj (show L7.Bx 120 V.heap.size ⟨k, l, n, r, f⟩ (V.alloc (.cells #[.int .i64 k, .int .i64 l, .int .i64 n, .int .i64 r, .int .i64 f] 120)) from heap_alloc_new _ _); obtain ⟨y0, y1, y2, y3, y4⟩ := HHX.out.cells; obtain ⟨u0, u1, u2⟩ := HKQ.out.cells; obtain ⟨f0, f1, f2⟩ := HKQ.out.free; clear hb; go_wp2_with fail; obtain ⟨r0, r1, r2⟩ := (setC_box HKQ.out 0 0 ⟨#[]⟩).cells; unfold setC at r0 r1 r2; refine bodyPost_ret (v := .tuple #[cv0, .int .i64 3]) (by simp [results, Tryz.results27, go_sem, r0, r1, r2]) rfl ⟨by rw [HX.out], ?_⟩; exact setC_below HBQ.out (Nat.le_refl _) 0 0 ⟨#[]⟩
 ·have hcn : (e != 0) = true := by simpa using he
  have hce : (e == 0) = false := by simpa using he
  have HX : Hid (decV s = .tuple #[cv0, .int .i64 3]) := zj (decV_none (hbad (fun h => he h.1))); clear hcount hbs hbad hyes hno he; go_enter Tryz.func27, Tryz.ntmps27; go_wp2_with fail; refine HO.out.mono ?_; rintro e V ⟨rfl, hb⟩; have hb := hb.trans' (L5.below_alloc V (.cells #[.int .i64 k, .int .i64 l, .int .i64 c, .int .i64 r, .int .i64 f] 120)); have HBQ := zj (HB.out.trans' hb); have HKQ := zj (HK.out.below hb); obtain ⟨u0, u1, u2⟩ := HKQ.out.cells; obtain ⟨f0, f1, f2⟩ := HKQ.out.free; clear hb; go_wp2_with fail; obtain ⟨r0, r1, r2⟩ := (setC_box HKQ.out 0 0 ⟨#[]⟩).cells; unfold setC at r0 r1 r2; refine bodyPost_ret (v := .tuple #[cv0, .int .i64 3]) (by simp [results, Tryz.results27, go_sem, r0, r1, r2]) rfl ⟨by rw [HX.out], ?_⟩; exact setC_below HBQ.out (Nat.le_refl _) 0 0 ⟨#[]⟩
theorem rmay_any (F N : Int) (D : ByteArray) (p : Int) (w : World) :
  Calls Tryz.prog 145 #[cv F N D, .int .i64 p] w fun e w' => e = .returned (.bool (decide (May F N D.size p))) ∧ Below w.heap.size w w' := by
 have HB := zj (cbox_below 43 F N D w); obtain ⟨c0, c1, c2⟩ := (cbox_new 43 F N D w).cells; simp only [cbox] at c0 c1 c2; have HSR : Hid (∀ W, Calls Tryz.prog 130 #[.int .i64 p] W fun e w' => e = .returned (.bool (L7.mayBe p)) ∧ W = w') := zj (fun W => L7.sizeRef_any p W); obtain ⟨r, HRS⟩ : ∃ r, Hid (r = decide (May F N D.size p)) := ⟨_, zj rfl⟩; rw [← HRS.out]
 have hall : F < 1 ∨ (1 ≤ F ∧ 4095 < F) ∨ (1 ≤ F ∧ F ≤ 4095 ∧ N < 0) ∨ (1 ≤ F ∧ F ≤ 4095 ∧ 0 ≤ N ∧ 4095 < N) ∨ (1 ≤ F ∧ F ≤ 4095 ∧ 0 ≤ N ∧ N ≤ 4095 ∧ N = F) ∨ NumOk F N := by unfold NumOk; omega
 have hm0 : L7.mayBe p = false ∨ L7.mayBe p = true := by cases L7.mayBe p <;> simp
 rcases hm0 with h | hm
 ·have HX : Hid (r = false) := zj (by rw [HRS.out]; exact dF (fun hh => by have := hh.1; rw [h] at this; cases this))
  rw [h] at HSR; clear h hall; go_enter Tryz.func145, Tryz.ntmps145; go_wp2_with fail; refine (HSR.out _).mono ?_; rintro e w2 ⟨rfl, rfl⟩; go_wp2_with fail; go_ret
  exact ⟨by rw [HX.out] <;> rfl, HB.out⟩
 rcases hall with h | h | h | h | h | h
 ·have HX : Hid (r = false) := zj (by rw [HRS.out]; exact dF (fun hh => by have := hh.2.1; unfold NumOk at this; omega))
  rw [hm] at HSR; have d0 : decide (F < 1) = true := dT (by omega); clear h hm; go_enter Tryz.func145, Tryz.ntmps145; go_wp2_with fail; refine (HSR.out _).mono ?_; rintro e w2 ⟨rfl, rfl⟩; go_wp2_with fail; go_ret
  exact ⟨by rw [HX.out] <;> rfl, HB.out⟩
 ·have HX : Hid (r = false) := zj (by rw [HRS.out]; exact dF (fun hh => by have := hh.2.1; unfold NumOk at this; omega))
  rw [hm] at HSR; have d0 : decide (F < 1) = false := dF (by omega); have d1 : decide (4095 < F) = true := dT (by omega); clear h hm; go_enter Tryz.func145, Tryz.ntmps145; go_wp2_with fail; refine (HSR.out _).mono ?_; rintro e w2 ⟨rfl, rfl⟩; go_wp2_with fail; go_ret
  exact ⟨by rw [HX.out] <;> rfl, HB.out⟩
 ·have HX : Hid (r = false) := zj (by rw [HRS.out]; exact dF (fun hh => by have := hh.2.1; unfold NumOk at this; omega))
  rw [hm] at HSR; have d0 : decide (F < 1) = false := dF (by omega); have d1 : decide (4095 < F) = false := dF (by omega); have d2 : decide (N < 0) = true := dT (by omega); clear h hm; go_enter Tryz.func145, Tryz.ntmps145; go_wp2_with fail; refine (HSR.out _).mono ?_; rintro e w2 ⟨rfl, rfl⟩; go_wp2_with fail; go_ret
  exact ⟨by rw [HX.out] <;> rfl, HB.out⟩
 ·have HX : Hid (r = false) := zj (by rw [HRS.out]; exact dF (fun hh => by have := hh.2.1; unfold NumOk at this; omega))
  rw [hm] at HSR; have d0 : decide (F < 1) = false := dF (by omega); have d1 : decide (4095 < F) = false := dF (by omega); have d2 : decide (N < 0) = false := dF (by omega); have d3 : decide (4095 < N) = true := dT (by omega); clear h hm; go_enter Tryz.func145, Tryz.ntmps145; go_wp2_with fail; refine (HSR.out _).mono ?_; rintro e w2 ⟨rfl, rfl⟩; go_wp2_with fail; go_ret
  exact ⟨by rw [HX.out] <;> rfl, HB.out⟩
 ·have HX : Hid (r = false) := zj (by rw [HRS.out]; exact dF (fun hh => by have := hh.2.1; unfold NumOk at this; omega))
  rw [hm] at HSR; have d0 : decide (F < 1) = false := dF (by omega); have d1 : decide (4095 < F) = false := dF (by omega); have d2 : decide (N < 0) = false := dF (by omega); have d3 : decide (4095 < N) = false := dF (by omega)
  have d4 : (N == F) = true := by simp; omega
  clear h hm; go_enter Tryz.func145, Tryz.ntmps145; go_wp2_with fail; refine (HSR.out _).mono ?_; rintro e w2 ⟨rfl, rfl⟩; go_wp2_with fail; go_ret
  exact ⟨by rw [HX.out] <;> rfl, HB.out⟩
 ·have hp := mayBe_le hm
  have hw : IntKind.i64.wrap (p - 16) = p - 16 := IntWalk.i64_in _ (by omega)
  have hw2 : (D.size : Int) ≤ p - 16 ↔ (D.size : Int) + 16 ≤ p := by omega
  rw [hm] at HSR; have hok := h; unfold NumOk at h; have d0 : decide (F < 1) = false := dF (by omega); have d1 : decide (4095 < F) = false := dF (by omega); have d2 : decide (N < 0) = false := dF (by omega); have d3 : decide (4095 < N) = false := dF (by omega)
  have d4 : (N == F) = false := by simp; omega
  clear hw2; by_cases z1 : 1 ≤ D.size
  ·have e1 : decide ((1 : Int) ≤ (D.size : Int)) = true := dT (by omega)
   have e1' : decide (1 ≤ D.size) = true := dT z1; by_cases z2 : (D.size : Int) ≤ p - 16
   ·have e2 : decide ((D.size : Int) ≤ p - 16) = true := dT z2
    by_cases z3 : N = 0
    ·have e3 : (N == 0) = true := by simpa using z3
     have HX : Hid (r = true) := zj (by rw [HRS.out]; exact dT ⟨hm, hok, z1, z2, .inl z3⟩); clear h hm hok hp z1 z2 z3; go_enter Tryz.func145, Tryz.ntmps145; go_wp2_with fail; refine (HSR.out _).mono ?_; rintro e w2 ⟨rfl, rfl⟩; go_wp2_with fail; go_ret
     exact ⟨by rw [HX.out] <;> rfl, HB.out⟩
    ·have e3 : (N == 0) = false := by simpa using z3
     by_cases z4 : (D.size : Int) = p - 16
     ·have e4 : ((D.size : Int) == p - 16) = true := by simpa using z4
      have HX : Hid (r = true) := zj (by rw [HRS.out]; exact dT ⟨hm, hok, z1, z2, .inr z4⟩); clear h hm hok hp z1 z2 z3 z4; go_enter Tryz.func145, Tryz.ntmps145; go_wp2_with fail; refine (HSR.out _).mono ?_; rintro e w2 ⟨rfl, rfl⟩; go_wp2_with fail; go_ret
      exact ⟨by rw [HX.out] <;> rfl, HB.out⟩
     ·have e4 : ((D.size : Int) == p - 16) = false := by simpa using z4
      have HX : Hid (r = false) := zj (by rw [HRS.out]; exact dF (fun hh => by rcases hh.2.2.2.2 with q | q; exact z3 q; exact z4 q)); clear h hm hok hp z1 z2 z3 z4; go_enter Tryz.func145, Tryz.ntmps145; go_wp2_with fail; refine (HSR.out _).mono ?_; rintro e w2 ⟨rfl, rfl⟩; go_wp2_with fail; go_ret
      exact ⟨by rw [HX.out] <;> rfl, HB.out⟩
   ·have e2 : decide ((D.size : Int) ≤ p - 16) = false := dF z2
    have HX : Hid (r = false) := zj (by rw [HRS.out]; exact dF (fun hh => z2 hh.2.2.2.1)); clear h hm hok hp z1 z2; go_enter Tryz.func145, Tryz.ntmps145; go_wp2_with fail; refine (HSR.out _).mono ?_; rintro e w2 ⟨rfl, rfl⟩; go_wp2_with fail; go_ret
    exact ⟨by rw [HX.out] <;> rfl, HB.out⟩
  ·have e1 : decide ((1 : Int) ≤ (D.size : Int)) = false := dF (by omega)
   have e1' : decide (1 ≤ D.size) = false := dF z1; have HX : Hid (r = false) := zj (by rw [HRS.out]; exact dF (fun hh => z1 hh.2.2.1)); clear h hm hok hp z1; go_enter Tryz.func145, Tryz.ntmps145; go_wp2_with fail; refine (HSR.out _).mono ?_; rintro e w2 ⟨rfl, rfl⟩; go_wp2_with fail; go_ret
   exact ⟨by rw [HX.out] <;> rfl, HB.out⟩
theorem renc_any (F N : Int) (D : ByteArray) (p : Int) (w : World) (hs : L7.Sizes w) :
  Calls Tryz.prog 82 #[cv F N D, .int .i64 p] w fun e w' => e = .returned (encV F N D p) ∧ Below w.heap.size w w' := by
 have hb0 := cbox_below 43 F N D w; have HB0 := zj hb0; have HS0 := zj (hs.below hs.lt hb0); have HK := zj (cbox_new 43 F N D w); have HSZ : Hid (∀ W, L7.Sizes W → Calls Tryz.prog 130 #[.int .i64 p] W fun e w' => e = .returned (.bool (L7.mayBe p)) ∧ W = w') := zj (fun W _ => L7.sizeRef_any p W); have HM := zj (fun W (h : L7.Sizes W) => rmay_any F N D p W); obtain ⟨r, HRS⟩ : ∃ r, Hid (r = encV F N D p) := ⟨_, zj rfl⟩; rw [← HRS.out]; rcases enc_cases F N D p with ⟨hmb, hmay, he⟩ | ⟨hmb, hmay, he⟩ | ⟨hmb, hmay, he⟩
 ·have HX : Hid (r = .tuple #[.string ⟨#[]⟩, .int .i64 4]) := zj (by rw [HRS.out, encV, he])
  rw [hmb] at HSZ; clear hmb he hmay hs hb0 HM; go_enter Tryz.func82, Tryz.ntmps82; go_wp2_with fail; refine (HSZ.out _ HS0.out).mono ?_; rintro e w2 ⟨rfl, rfl⟩; go_wp2_with fail
  go_ret2
  exact ⟨by rw [HX.out] <;> rfl, HB0.out⟩
 ·have HX : Hid (r = .tuple #[.string ⟨#[]⟩, .int .i64 3]) := zj (by rw [HRS.out, encV, he])
  rw [hmb] at HSZ; rw [dF hmay] at HM; clear hmb hmay he hs hb0; obtain ⟨c0, c1, c2⟩ := HK.out.cells; go_enter Tryz.func82, Tryz.ntmps82; go_wp2_with fail; refine (HSZ.out _ HS0.out).mono ?_; rintro e w2 ⟨rfl, rfl⟩; go_wp2_with fail; refine (HM.out _ HS0.out).mono ?_; rintro e w2 ⟨rfl, hb2⟩; go_wp2_with fail
  go_ret2
  exact ⟨by rw [HX.out] <;> rfl, HB0.out.trans' hb2⟩
 ·have hp := mayBe_le hmay.1
  have hz := hmay.2.2.2.1; obtain ⟨q, rfl⟩ : ∃ q : Nat, p = q := Int.eq_ofNat_of_zero_le (by omega); have HX : Hid (r = .tuple #[.string ⟨(page F N D q).toArray⟩, .int .i64 0]) := zj (by rw [HRS.out, encV, he, Int.toNat_natCast]); rw [hmb] at HSZ; rw [dT hmay] at HM; have HSE := zj (fun W (h : L7.Sizes W) => L7.refSeal_any (hd F N D) D q W (by simp [Lit.wf, IntKind.min, IntKind.max, IntKind.signed, IntKind.bits]; omega) (by unfold maxLen; omega)); have hsv := seal_ok hmay; unfold L7.seaV at HSE; rw [hsv, Int.toNat_natCast] at HSE; rw [show L7.hv (hd F N D) = .agg #[.int .i64 4, .int .i64 0, .int .i64 D.size, .int .i64 N, .int .i64 F] by rfl] at HSE; generalize (⟨(page F N D q).toArray⟩ : ByteArray) = PG at *; clear hmay hmb he hs hb0 hp hsv hz; obtain ⟨c0, c1, c2⟩ := HK.out.cells; go_enter Tryz.func82, Tryz.ntmps82; go_wp2_with fail; refine (HSZ.out _ HS0.out).mono ?_; rintro e w2 ⟨rfl, rfl⟩; go_wp2_with fail; refine (HM.out _ HS0.out).mono ?_; rintro e w2 ⟨rfl, hb2⟩; clear c0 c1 c2; have HS2 := zj (HS0.out.below HS0.out.lt hb2); have HB2 := zj (HB0.out.trans' hb2); obtain ⟨c0, c1, c2⟩ := (HK.out.below hb2).cells; clear hb2; go_wp2_with fail; refine (HSE.out _ HS2.out).mono ?_; rintro e w5 ⟨rfl, hb5⟩; go_wp2_with fail
  go_ret2
  exact ⟨by rw [HX.out] <;> rfl, HB2.out.trans' hb5⟩
end Go.Proofs.YtpeghilfldpgfaaGreatDoor.L12
