import Derived.Test.YtpeghilfldpgfaaGreatDoorQT
import Derived.Test.YtpeghilfldpgfaaGreatDoorT11
import Derived.Test.YtpeghilfldpgfaaGreatDoorTIEnds1
import Derived.Test.YtpeghilfldpgfaaGreatDoorTNDMay
set_option linter.unusedVariables false
set_option linter.unusedSimpArgs false
set_option maxHeartbeats 8000000
set_option maxRecDepth 100000
namespace Go.Proofs.YtpeghilfldpgfaaGreatDoor.L10
open Go.RowKit NP
theorem renc_any (F R : Int) (H : ByteArray) (A : Option Addr) (l : List It) (ca : Nat) (p : Int) (w : World) (ha : Lies5 w w.heap.size A l) (hl : l.length ≤ 1000) (hh : H.size ≤ maxLen) (hpw : (Lit.int .i64 p).wf = true) :
  Calls Tryz.prog 79 #[lv F R H A l.length ca, .int .i64 p] w fun e w' => e = .returned (encV ⟨F, R, H, l⟩ p) ∧ Below w.heap.size w w' := by
 have hb0 := lbox_below 41 F R H A l.length ca w; have HB0 := zj hb0; have HA := zj (ha.on hb0); have HK := zj (lbox_new 41 F R H A l.length ca w); have HSZ : Hid (∀ W, Calls Tryz.prog 130 #[.int .i64 p] W fun e w' => e = .returned (.bool (L7.mayBe p)) ∧ W = w') := zj (fun W => L7.sizeRef_any p W); have HM := zj (fun W (h2 : Lies5 W W.heap.size A l) => rmay_any F R H A l ca p W h2 (by omega) hh); obtain ⟨r, HR⟩ : ∃ r, Hid (r = encV ⟨F, R, H, l⟩ p) := ⟨_, zj rfl⟩; rw [← HR.out]; have hcases := enc_cases ⟨F, R, H, l⟩ p; obtain ⟨n, hn⟩ : ∃ n, n = l.length := ⟨_, rfl⟩; have HN := zj hn; rw [← hn] at HM HK HB0 HA; rw [← hn]; simp only [lbox] at HK HB0 HA; rcases hcases with ⟨hm, he⟩ | ⟨hm, hmay, he⟩ | ⟨hmay, hbig, he⟩ | ⟨hmay, hfit, he⟩
 ·have HX : Hid (r = .tuple #[.string ⟨#[]⟩, .int .i64 4]) := zj (by rw [HR.out, encV, he])
  rw [hm] at HSZ; clear hm he hn ha hl hh hb0 HM; go_enter Tryz.func79, Tryz.ntmps79; go_wp2_with fail; refine (HSZ.out _).mono ?_; rintro e w2 ⟨rfl, rfl⟩; go_wp2_with fail
  go_ret2
  exact ⟨by rw [HX.out] <;> rfl, HB0.out⟩
 ·have HX : Hid (r = .tuple #[.string ⟨#[]⟩, .int .i64 3]) := zj (by rw [HR.out, encV, he])
  rw [hm] at HSZ; rw [dF hmay] at HM; clear hm hmay he hn ha hl hh hb0; go_enter Tryz.func79, Tryz.ntmps79; go_wp2_with fail; refine (HSZ.out _).mono ?_; rintro e w2 ⟨rfl, rfl⟩; go_wp2_with fail; refine (HM.out _ HA.out).mono ?_; rintro e w2 ⟨rfl, hb2⟩; go_wp2_with fail
  go_ret2
  exact ⟨by rw [HX.out] <;> rfl, HB0.out.trans' hb2⟩
 ·have HX : Hid (r = .tuple #[.string ⟨#[]⟩, .int .i64 8]) := zj (by rw [HR.out, encV, he])
  have hp := mayBe_le hmay.1; obtain ⟨q, rfl⟩ : ∃ q : Nat, p = q := Int.eq_ofNat_of_zero_le (by omega); have hf := May.fit hmay (by omega); have HF := zj (fun W (h : Lies5 W W.heap.size A l) => rfixed_any F R H A l ca W h hf); have HC := zj (fun W (h : Lies5 W W.heap.size A l) => rcells_any F R H A l ca W h hf); have HK8 := zj (fun G cap W (h : L5.Lies W W.heap.size G (cellsS l)) => L8.pack8_any ((q : Int) - 16) (fixedS H l) G (cellsS l) cap W h (by rw [cellsS_length]; omega) (by have := fixedS_size hf; omega) (fun s hs => by have := cellsS_size hf s hs; omega)); rw [packV_big (F := F) (R := R) (by omega) (by omega) (by omega), cellsS_length] at HK8; rw [hmay.1] at HSZ; rw [dT hmay] at HM; rw [← hn] at HF HC HK8; have hw : IntKind.i64.wrap ((q : Int) - 16) = (q : Int) - 16 := IntWalk.i64_in _ (by omega); generalize fixedS H l = fx at *; clear hmay he hn ha hl hh hb0 hbig hf hp; go_enter Tryz.func79, Tryz.ntmps79; go_wp2_with fail; refine (HSZ.out _).mono ?_; rintro e w2 ⟨rfl, rfl⟩; go_wp2_with fail; refine (HM.out _ HA.out).mono ?_; rintro e w2 ⟨rfl, hb2⟩; have HB3 := zj (HB0.out.trans' hb2); have HK3 := zj (HK.out.below hb2); have HA3 := zj (HA.out.on hb2); clear hb2 HM HSZ; go_wp2_with fail; have HST : Hid (∀ V, Below w2.heap.size w2 V → (Hid (Below w2.heap.size w2 V) ∧ V.cell? ⟨w.heap.size, 0, none⟩ = some (.int .i64 F) ∧ V.cell? ⟨w.heap.size, 1, none⟩ = some (.int .i64 R) ∧ V.cell? ⟨w.heap.size, 2, none⟩ = some (.string H) ∧ V.cell? ⟨w.heap.size, 3, none⟩ = some (.slice A n ca))) := zj (fun V hb => ⟨zj hb, (HK3.out.below hb).cells⟩); have HLI : Hid (∀ V (X : Prop), (Hid (Below w2.heap.size w2 V) ∧ X) → Lies5 V V.heap.size A l) := zj (fun V X h => HA3.out.on h.1.out); have hSd := HST.out _ (L5.below_drewN (Below.refl _ w2) 1)
  go_region_held3 (fun V => Hid (Below w2.heap.size w2 V) ∧ V.cell? ⟨w.heap.size, 0, none⟩ = some (.int .i64 F) ∧ V.cell? ⟨w.heap.size, 1, none⟩ = some (.int .i64 R) ∧ V.cell? ⟨w.heap.size, 2, none⟩ = some (.string H) ∧ V.cell? ⟨w.heap.size, 3, none⟩ = some (.slice A n ca))
   (first | assumption | exact hSd)
   (first
    | (go_at_call 139; refine (HF.out _ (HLI.out _ _ (by assumption))).mono ?_; rintro e V ⟨rfl, hb⟩; have HBV := zj ((by assumption : Hid (Below w2.heap.size w2 _) ∧ _).1.out.trans' hb); (try have RA := zj (RA.out.on hb)); have hSn := HST.out _ HBV.out; clear hb)
    | (go_at_call 140; refine (HC.out _ (HLI.out _ _ (by assumption))).mono ?_; rintro e V ⟨G, cap, rfl, hl, hb⟩; have HBV := zj ((by assumption : Hid (Below w2.heap.size w2 _) ∧ _).1.out.trans' hb); have RA := zj hl; have hSn := HST.out _ HBV.out; clear hl hb)
    | (go_at_call 135; refine (HK8.out _ _ _ RA.out).mono ?_; rintro e V ⟨rfl, hb⟩; have HBV := zj ((by assumption : Hid (Below w2.heap.size w2 _) ∧ _).1.out.trans' hb); have hSn := HST.out _ HBV.out; clear hb)
    | fail "no arm")
  all_goals
   go_wp2_with fail
   go_ret2
   exact ⟨by rw [HX.out] <;> rfl, HB3.out.trans' HBV.out⟩
 ·have HX : Hid (r = .tuple #[.string ⟨(page ⟨F, R, H, l⟩ p.toNat).toArray⟩, .int .i64 0]) := zj (by rw [HR.out, encV, he])
  have hp := mayBe_le hmay.1; obtain ⟨q, rfl⟩ : ∃ q : Nat, p = q := Int.eq_ofNat_of_zero_le (by omega); have hf := May.fit hmay (by omega); have HF := zj (fun W (h : Lies5 W W.heap.size A l) => rfixed_any F R H A l ca W h hf); have HC := zj (fun W (h : Lies5 W W.heap.size A l) => rcells_any F R H A l ca W h hf); have HK8 := zj (fun G cap W (h : L5.Lies W W.heap.size G (cellsS l)) => L8.pack8_any ((q : Int) - 16) (fixedS H l) G (cellsS l) cap W h (by rw [cellsS_length]; omega) (by have := fixedS_size hf; omega) (fun s hs => by have := cellsS_size hf s hs; omega)); rw [packV_ok (F := F) (R := R) (by omega) (by omega) (by omega), cellsS_length] at HK8; rw [hmay.1] at HSZ; rw [dT hmay] at HM; rw [← hn] at HF HC HK8; have hw : IntKind.i64.wrap ((q : Int) - 16) = (q : Int) - 16 := IntWalk.i64_in _ (by omega); rw [Int.toNat_natCast] at HX; have hbl : (body ⟨F, R, H, l⟩ q).length = q - 16 := body_length (by omega); have HSE := zj (fun W => L7.refSeal_any (hd ⟨F, R, H, l⟩) ⟨(body ⟨F, R, H, l⟩ q).toArray⟩ q W hpw (by show (body ⟨F, R, H, l⟩ q).toArray.size ≤ _; rw [List.size_toArray, hbl]; unfold maxLen; omega)); have hsv := seal_ok hmay (by omega); rw [hsv] at HSE; rw [show L7.hv (hd ⟨F, R, H, l⟩) = .agg #[.int .i64 2, .int .i64 0, .int .i64 n, .int .i64 R, .int .i64 F] by rw [hn]; rfl] at HSE; generalize (⟨(page ⟨F, R, H, l⟩ q).toArray⟩ : ByteArray) = PG at *; generalize (⟨(body ⟨F, R, H, l⟩ q).toArray⟩ : ByteArray) = BD at *; generalize fixedS H l = fx at *; clear hmay he hn ha hl hh hb0 hfit hf hp hbl hsv hpw; go_enter Tryz.func79, Tryz.ntmps79; go_wp2_with fail; refine (HSZ.out _).mono ?_; rintro e w2 ⟨rfl, rfl⟩; go_wp2_with fail; refine (HM.out _ HA.out).mono ?_; rintro e w2 ⟨rfl, hb2⟩; have HB3 := zj (HB0.out.trans' hb2); have HK3 := zj (HK.out.below hb2); have HA3 := zj (HA.out.on hb2); clear hb2 HM HSZ; go_wp2_with fail; have HST : Hid (∀ V, Below w2.heap.size w2 V → (Hid (Below w2.heap.size w2 V) ∧ V.cell? ⟨w.heap.size, 0, none⟩ = some (.int .i64 F) ∧ V.cell? ⟨w.heap.size, 1, none⟩ = some (.int .i64 R) ∧ V.cell? ⟨w.heap.size, 2, none⟩ = some (.string H) ∧ V.cell? ⟨w.heap.size, 3, none⟩ = some (.slice A n ca))) := zj (fun V hb => ⟨zj hb, (HK3.out.below hb).cells⟩); have HLI : Hid (∀ V (X : Prop), (Hid (Below w2.heap.size w2 V) ∧ X) → Lies5 V V.heap.size A l) := zj (fun V X h => HA3.out.on h.1.out); have hSd := HST.out _ (L5.below_drewN (Below.refl _ w2) 1)
  go_region_held3 (fun V => Hid (Below w2.heap.size w2 V) ∧ V.cell? ⟨w.heap.size, 0, none⟩ = some (.int .i64 F) ∧ V.cell? ⟨w.heap.size, 1, none⟩ = some (.int .i64 R) ∧ V.cell? ⟨w.heap.size, 2, none⟩ = some (.string H) ∧ V.cell? ⟨w.heap.size, 3, none⟩ = some (.slice A n ca))
   (first | assumption | exact hSd)
   (first
    | (go_at_call 139; refine (HF.out _ (HLI.out _ _ (by assumption))).mono ?_; rintro e V ⟨rfl, hb⟩; have HBV := zj ((by assumption : Hid (Below w2.heap.size w2 _) ∧ _).1.out.trans' hb); (try have RA := zj (RA.out.on hb)); have hSn := HST.out _ HBV.out; clear hb)
    | (go_at_call 140; refine (HC.out _ (HLI.out _ _ (by assumption))).mono ?_; rintro e V ⟨G, cap, rfl, hl, hb⟩; have HBV := zj ((by assumption : Hid (Below w2.heap.size w2 _) ∧ _).1.out.trans' hb); have RA := zj hl; have hSn := HST.out _ HBV.out; clear hl hb)
    | (go_at_call 135; refine (HK8.out _ _ _ RA.out).mono ?_; rintro e V ⟨rfl, hb⟩; have HBV := zj ((by assumption : Hid (Below w2.heap.size w2 _) ∧ _).1.out.trans' hb); have hSn := HST.out _ HBV.out; clear hb)
    | fail "no arm")
  all_goals
   go_wp2_with fail; refine (HSE.out _).mono ?_; rintro e w5 ⟨rfl, hb5⟩; go_wp2_with fail
   go_ret2
   exact ⟨by rw [HX.out] <;> rfl, (HB3.out.trans' HBV.out).trans' hb5⟩
def WR (ti tt : TypeId) (F R : Int) (H : ByteArray) (A : Option Addr) (n ca : Nat) (w : World) : World := (lbox ti F R H A n ca w).alloc (.cells #[.int .i64 0, .int .i64 0, .string ⟨#[]⟩, .slice none 0 0] tt)
theorem WR_size (ti tt : TypeId) (F R : Int) (H : ByteArray) (A : Option Addr) (n ca : Nat) (w : World) : (WR ti tt F R H A n ca w).heap.size = w.heap.size + 1 + 1 := by simp [WR, lbox]
theorem WR_boxes (ti tt : TypeId) (F R : Int) (H : ByteArray) (A : Option Addr) (n ca : Nat) (w : World) :
  LBx ti w.heap.size F R H A n ca (WR ti tt F R H A n ca w) ∧ LBx tt (w.heap.size + 1) 0 0 ⟨#[]⟩ none 0 0 (WR ti tt F R H A n ca w) ∧ Below w.heap.size w (WR ti tt F R H A n ca w) := by
 have h1 := lbox_new ti F R H A n ca w; have h2 := lbox_new tt 0 0 ⟨#[]⟩ none 0 0 (lbox ti F R H A n ca w); rw [lbox_size] at h2; exact ⟨h1.below (L5.below_alloc _ _), h2, (lbox_below _ _ _ _ _ _ _ _).trans' (L5.below_alloc _ _)⟩
theorem own5_block {w : World} {base e n g : Nat} {v : Value} {xs : List Value} (h : w.ownsRow base e 5 v n xs) (hv : v.ownBlock = some g) : base ≤ g := by
 rcases h.2 with ⟨rfl, _⟩ | ⟨g', cap, cur, rfl, hg', _⟩
 ·simp [Value.ownBlock] at hv
 ·simp [Value.ownBlock] at hv; omega
theorem own5_set {w : World} {base e n q o : Nat} {v : Value} {xs : List Value} {u : Value} (h : w.ownsRow base e 5 v n xs) (hq : q < base) : (w.setCell ⟨q, o, none⟩ u).ownsRow base e 5 v n xs := by
 refine h.kept (row := some q) ⟨rfl, rfl, rfl, by simp, fun i hi hr => Below.heap_setCell w ⟨q, o, none⟩ u i (fun e => hr (by simp [e]))⟩ ?_
 cases hv : v.ownBlock with
 | none => exact .inl rfl
 | some x => exact .inr (by have := own5_block h hv; simp; omega)
theorem LBx.set3 {t : TypeId} {w : World} {g : Nat} {F R : Int} {H : ByteArray} {A : Option Addr} {n ca : Nat} (k : LBx t g F R H A n ca w) (A' : Option Addr) (n' ca' : Nat) : LBx t g F R H A' n' ca' (w.setCell ⟨g, 3, none⟩ (.slice A' n' ca')) := by
 unfold LBx at *; exact heap_setCell_same w g 3 _ _ (.slice A' n' ca') k
theorem Tryz.infoItemD : (Tryz.prog.info? 145).map (fun i => (i.zero, i.size, i.bytes)) = some (some (.agg #[.string ⟨#[]⟩, .bool false, .string ⟨#[]⟩, .int .i64 0, .int .i64 0]), 5, 56) := by kernel_rfl
theorem drew_below {c : Nat} {w v : World} (h : Below c w v) : Below c w v.drew := L5.below_drewN h 1
theorem take_op' {P : Program} {ops : Array Oper} {Q : Exit → Act → World → Prop} {md : Region.Mode} {S : World → Prop} {i : Nat} {oi : Oper} {d : Option Tmp} {v : Value} {fuel : Nat} {listed : Array Bool} {a : Act} {w : World} (hi : ops[i]? = some oi) (hd : oi.dst = d)
  (hs : Region.noSelect ops = true) (hf : Region.free md ops listed i = true) (hr : (Region.ready md ops listed).contains i = true)
  (hQ : ∀ c a w, Q (.panic c) (a.put d v) w → Q (.panic c) a w) (hy : YieldsIf P ops S oi v a) (hS : S w)
  (h : wpAnyH P md ops Q S fuel (listed.setIfInBounds i true) (a.put d v) w) : wpAnyH P md ops Q S (fuel + 1) listed a w := by
 subst hd; exact wpAnyH_take hi hs hf hr hQ hy hS h
theorem ref_any (F R : Int) (H : ByteArray) (A : Option Addr) (l : List It) (ca : Nat) (w : World) (ha : Lies5 w w.heap.size A l) (hl : l.length ≤ 1000000) :
  Calls Tryz.prog 41 #[lv F R H A l.length ca] w fun e w' => ∃ G cap, e = .returned (lv F R H G (l).length cap) ∧ Lies5 w' w'.heap.size G (l) ∧ (∀ a, G = some a → w.heap.size ≤ a.block) ∧ Below w.heap.size w w' := by
 obtain ⟨i0, hi, hz0, hz1, hz2⟩ := info_parts Tryz.infoItemD; obtain ⟨B1, B2, hb0⟩ := WR_boxes 26 41 F R H A l.length ca w; have HA := zj (ha.below hb0); obtain ⟨n, hn⟩ : ∃ n, n = l.length := ⟨_, rfl⟩; have HN := zj hn; rw [← hn]; rw [← hn] at hl B1 B2 hb0 HA; have H1 := zj B1; have H2 := zj B2; have HZ := zj hb0; have HWS := zj (WR_size 26 41 F R H A n ca w); clear ha hn B1 B2 hb0; go_enter Tryz.func41, Tryz.ntmps41; go_wp2_with fail
 go_loopw [4] (fun iv wr => ∃ (k : Nat) (K : Option Addr) (kc : Nat), k ≤ n ∧ iv = .int .i64 k ∧ Hid (LBx 41 (w.heap.size + 1 + 1) F R H K k kc wr) ∧ Hid (wr.ownsRow (w.heap.size + 1 + 1 + 1) 145 5 (.slice K k kc) k (fives (l.take k))) ∧ Hid (Below (w.heap.size + 1 + 1) (WR 26 41 F R H A n ca w) wr) ∧ w.heap.size + 1 + 1 + 1 ≤ wr.heap.size) (fun iv _ => n - (intOf iv).toNat)
 case atStart =>
  exact ⟨0, none, 0, by omega, rfl, zj (by have h := lbox_new 41 F R H none 0 0 (WR 26 41 F R H A n ca w); rw [HWS.out] at h; exact h), zj (own5_nil _ _ _), zj (by have h := lbox_below 41 F R H none 0 0 (WR 26 41 F R H A n ca w); rw [HWS.out] at h; exact h), by simp⟩
 case round =>
  obtain ⟨k, K, kc, hk, rfl, HB, HO, HW, hsz⟩ := hrel; have HI := zj (H1.out.on HW.out (by omega)); obtain ⟨p0, p1, p2, p3⟩ := HI.out.cells; obtain ⟨q0, q1, q2, q3⟩ := HB.out.cells; by_cases hlt : k < n
  ·obtain ⟨⟨KK, O, S, L, P⟩, hc⟩ : ∃ c, l[k]? = some c := ⟨_, List.getElem?_eq_getElem (by have := HN.out; omega)⟩
   obtain ⟨a, rfl, hab, x0, x1, x2, x3, x4⟩ := (HA.out.below' HW.out (by omega)).load hc
   have hab2 : (a.add (k * 5)).block < w.heap.size := by rw [L5.addr_block]; exact hab
   have h0 : (0 : Int) ≤ k := by omega
   have hkn : (k : Int) < n := by omega
   have HRF := zj (fun W => L9.vref_any O S L P W); have HC := zj (fives_snoc l k _ hc); have HCC := zj hc; clear hc hab; have HNE : Hid (∀ g, (Value.slice K k kc).ownBlock = some g → g ≠ w.heap.size + 1 + 1) := zj (fun g hg => by have := own5_block HO.out hg; omega)
   have HSV : Hid (∀ V, Below (w.heap.size + 1 + 1) (WR 26 41 F R H (some a) n ca w) V → (Hid (Below (w.heap.size + 1 + 1) (WR 26 41 F R H (some a) n ca w) V) ∧ V.cell? ⟨w.heap.size, 3, none⟩ = some (.slice (some a) n ca) ∧ V.cell? (a.add (k * 5)) = some (.string KK) ∧ V.cell? ⟨(a.add (k * 5)).block, (a.add (k * 5)).off + 1, none⟩ = some (.bool O) ∧ V.cell? ⟨(a.add (k * 5)).block, (a.add (k * 5)).off + 2, none⟩ = some (.string S) ∧ V.cell? ⟨(a.add (k * 5)).block, (a.add (k * 5)).off + 3, none⟩ = some (.int .i64 L) ∧ V.cell? ⟨(a.add (k * 5)).block, (a.add (k * 5)).off + 4, none⟩ = some (.int .i64 P))) := zj (fun V hb => by
    obtain ⟨z0, z1, z2, z3⟩ := (H1.out.on hb (by omega)).cells; obtain ⟨b, e, hbb, u0, u1, u2, u3, u4⟩ := (HA.out.below' hb (by omega)).load HCC.out; obtain rfl := Option.some.inj e
    exact ⟨zj hb, z3, u0, u1, u2, u3, u4⟩)
   have hS0 := HSV.out _ HW.out; have hSd := HSV.out _ (drew_below HW.out); clear p0 p1 p2 p3 x0 x1 x2 x3 x4; go_wp2_with fail; have HB := zj (show LBx 41 (w.heap.size + 1 + 1) F R H (K) k kc wr.drew from HB.out); have HO := zj HO.out.drew; have HW := zj (drew_below HW.out); have hsz : w.heap.size + 1 + 1 + 1 ≤ wr.drew.heap.size := hsz; refine wp_region_held_drew (S := fun V => Hid (Below (w.heap.size + 1 + 1) (WR 26 41 F R H (some a) n ca w) V) ∧ V.cell? ⟨w.heap.size, 3, none⟩ = some (.slice (some a) n ca) ∧ V.cell? (a.add (k * 5)) = some (.string KK) ∧ V.cell? ⟨(a.add (k * 5)).block, (a.add (k * 5)).off + 1, none⟩ = some (.bool O) ∧ V.cell? ⟨(a.add (k * 5)).block, (a.add (k * 5)).off + 2, none⟩ = some (.string S) ∧ V.cell? ⟨(a.add (k * 5)).block, (a.add (k * 5)).off + 3, none⟩ = some (.int .i64 L) ∧ V.cell? ⟨(a.add (k * 5)).block, (a.add (k * 5)).off + 4, none⟩ = some (.int .i64 P)) (by kernel_rfl) hSd (fun hHeld => ?_); clear hSd hS0 q0 q1 q2 q3; generalize wr.drew = D at *; refine tk 0 (some 19) ?_ rfl rfl ?_ ?_; rotate_left
   ·intro W h; (try dsimp only at h); go_simp; (try with_reducible rfl)
   try simp only [Act.put, jA, jZ, jS]
   refine tk 2 (some 21) ?_ rfl rfl ?_ ?_; rotate_left
   ·intro W h; (try dsimp only at h); go_simp; (try with_reducible rfl)
   try simp only [Act.put, jA, jZ, jS]
   refine tk 3 (some 22) ?_ rfl rfl ?_ ?_; rotate_left
   ·intro W h; (try dsimp only at h); go_simp; (try with_reducible rfl)
   try simp only [Act.put, jA, jZ, jS]
   refine tk 4 (some 23) ?_ rfl rfl ?_ ?_; rotate_left
   ·intro W h; (try dsimp only at h); go_simp; (try with_reducible rfl)
   try simp only [Act.put, jA, jZ, jS]
   refine tk 5 (some 24) ?_ rfl rfl ?_ ?_; rotate_left
   ·intro W h; (try dsimp only at h); go_simp; (try with_reducible rfl)
   try simp only [Act.put, jA, jZ, jS]
   refine tk 6 (some 25) ?_ rfl rfl ?_ ?_; rotate_left
   ·intro W h; (try dsimp only at h); go_simp; (try with_reducible rfl)
   try simp only [Act.put, jA, jZ, jS]
   refine tk 7 (some 26) ?_ rfl rfl ?_ ?_; rotate_left
   ·intro W h; (try dsimp only at h); go_simp; (try with_reducible rfl)
   try simp only [Act.put, jA, jZ, jS]
   refine tk 8 (some 27) ?_ rfl rfl ?_ ?_; rotate_left
   ·intro W h; (try dsimp only at h); go_simp; (try with_reducible rfl)
   try simp only [Act.put, jA, jZ, jS]
   refine tk 9 (some 28) ?_ rfl rfl ?_ ?_; rotate_left
   ·intro W h; (try dsimp only at h); go_simp; (try with_reducible rfl)
   try simp only [Act.put, jA, jZ, jS]
   refine tk 10 (some 29) ?_ rfl rfl ?_ ?_; rotate_left
   ·intro W h; (try dsimp only at h); go_simp; (try with_reducible rfl)
   try simp only [Act.put, jA, jZ, jS]
   refine tk 11 (some 30) ?_ rfl rfl ?_ ?_; rotate_left
   ·intro W h; (try dsimp only at h); go_simp; (try with_reducible rfl)
   try simp only [Act.put, jA, jZ, jS]
   refine tk 12 (some 31) ?_ rfl rfl ?_ ?_; rotate_left
   ·intro W h; (try dsimp only at h); go_simp; (try with_reducible rfl)
   try simp only [Act.put, jA, jZ, jS]
   refine tk 13 (some 32) ?_ rfl rfl ?_ ?_; rotate_left
   ·intro W h; (try dsimp only at h); go_simp; (try with_reducible rfl)
   try simp only [Act.put, jA, jZ, jS]
   refine wpAnyH_ready (rs := [1, 14]) (by kernel_rfl) (by simp) (AllReadyH.cons rfl (fun QQ hK => ?_) (AllReadyH.cons rfl (fun QQ hK => ?_) AllReadyH.nil))
   ·have qq := HB.out.cells.2.2.2
    go_simp; refine hK.out _ _ hHeld (fun _ => ?_); clear qq hK; try simp only [Act.put, jA, jZ, jS]
    refine rd1 14 rfl (fun QQ hK => ?_); go_simp; refine (HRF.out _).mono ?_; rintro e V ⟨rfl, hb⟩; go_wp2_with fail; have HB := zj (HB.out.below hb); have HO := zj (own5_below HO.out hb); have HW := zj (HW.out.trans (hb.mono (by omega))); have hs2 := hb.size
    have hsz : w.heap.size + 1 + 1 + 1 ≤ V.heap.size := by omega
    have hHeld := HSV.out _ HW.out; refine hK.out _ _ hHeld (fun _ => ?_); clear hK hb hs2; try simp only [Act.put, jA, jZ, jS]
    refine tk 15 (some 34) ?_ rfl rfl ?_ ?_; rotate_left
    ·intro W h; (try dsimp only at h); go_simp; (try with_reducible rfl)
    try simp only [Act.put, jA, jZ, jS]
    refine rd1 16 rfl (fun QQ hK => ?_); go_simp; have hb := L5.below_alloc V (.cells #[.string KK, .bool O, .string S, .int .i64 L, .int .i64 P] 145); have hblk := heap_alloc_new V (.cells #[.string KK, .bool O, .string S, .int .i64 L, .int .i64 P] 145)
    have hq : (V.alloc (.cells #[.string KK, .bool O, .string S, .int .i64 L, .int .i64 P] 145)).heap.size = V.heap.size + 1 := by simp
    have HB := zj (HB.out.below hb); have HO := zj (own5_below HO.out hb); have HW := zj (HW.out.trans (hb.mono (by omega))); have hs2 := hb.size
    have hsz : w.heap.size + 1 + 1 + 1 ≤ (V.alloc (.cells #[.string KK, .bool O, .string S, .int .i64 L, .int .i64 P] 145)).heap.size := by omega
    have hHeld := HSV.out _ HW.out; refine hK.out _ _ hHeld (fun _ => ?_); clear hK hb hs2; generalize V.alloc (.cells #[.string KK, .bool O, .string S, .int .i64 L, .int .i64 P] 145) = V3 at *; generalize V.heap.size = q at *; try simp only [Act.put, jA, jZ, jS]
    refine rd1 17 rfl (fun QQ hK => ?_); refine step_append_lies _ (by rfl) _ _ _ (by rfl) (w.heap.size + 1 + 1 + 1) 145 i0 (.agg #[.string ⟨#[]⟩, .bool false, .string ⟨#[]⟩, .int .i64 0, .int .i64 0]) 5 56 Tryz.underlying39 hi hz0 hz1 hz2 rfl (by decide) (.slice K k kc) k _ (by rfl) HO.out ⟨q, 0, none⟩ 1 1 [.string KK, .bool O, .string S, .int .i64 L, .int .i64 P] (by rfl) (by rfl) (World.news_of_block (cs := #[.string KK, .bool O, .string S, .int .i64 L, .int .i64 P]) (t := 145) (fr := (0, 0)) hblk) (five_one _ _ _ _ _) (by omega) (by unfold maxLen; omega) (by omega) (by omega) V3.heap.size rfl ?_; intro g' cap' w3 hown3 hgrow3 hat3 hlt3; have hbA := own5_apart (q := w.heap.size + 1 + 1) HO.out hgrow3 (by omega) (by omega); have HBX := zj (show LBx 41 (w.heap.size + 1 + 1) F R H (K) k kc w3 from (hgrow3.block (w.heap.size + 1 + 1) (by omega) (fun e => HNE.out _ e.symm rfl)).trans HB.out); have HW := zj (HW.out.trans hbA); have hs3 := hgrow3.size; have hHeld := HSV.out _ HW.out; refine hK.out _ _ hHeld (fun _ => ?_); clear hK hat3 hlt3 hgrow3 hbA; try simp only [Act.put, jA, jZ, jS]
    refine tk 18 (some 37) ?_ rfl rfl ?_ ?_; rotate_left
    ·intro W h; (try dsimp only at h); go_simp; (try with_reducible rfl)
    try simp only [Act.put, jA, jZ, jS]
    refine rd1 19 rfl (fun QQ hK => ?_); have E6 := HBX.out.cells.2.2.2; have F6 := HBX.out.free.2.2.2; go_simp; have HWN := zj (HW.out.setCell (p := ⟨w.heap.size + 1 + 1, 3, none⟩) (Nat.le_refl _) (.slice (some ⟨g', 0, none⟩) (k + 1) cap')); have hHeld := HSV.out _ HWN.out; refine hK.out _ _ hHeld (fun _ => ?_); clear hK E6 F6; try simp only [Act.put, jA, jZ, jS]
    refine wpAnyH_done (by kernel_rfl) ?_ _; have HON : Hid ((w3.setCell ⟨w.heap.size + 1 + 1, 3, none⟩ (.slice (some ⟨g', 0, none⟩) (k + 1) cap')).ownsRow (w.heap.size + 1 + 1 + 1) 145 5 (.slice (some ⟨g', 0, none⟩) (k + 1) cap') (k + 1) (fives (l.take (k + 1)))) := zj (own5_set (by rw [HC.out]; exact hown3) (by omega)); have HBN := zj (HBX.out.set3 (some ⟨g', 0, none⟩) (k + 1) cap')
    have hszN : w.heap.size + 1 + 1 + 1 ≤ (w3.setCell ⟨w.heap.size + 1 + 1, 3, none⟩ (.slice (some ⟨g', 0, none⟩) (k + 1) cap')).heap.size := by simp; omega
    clear hown3; go_wp2_with fail; refine ⟨⟨k + 1, some ⟨g', 0, none⟩, cap', by omega, by simp, HBN, HON, HWN, hszN⟩, ?_⟩; clear HBN HON HWN hszN HW HO HB HBX hHeld hsz hs3 hq hblk HSV hab2
    (try clear HWs HBs hszs)
    simp only [intOf]; omega
   ·go_simp
    refine (HRF.out _).mono ?_; rintro e V ⟨rfl, hb⟩; go_wp2_with fail; have HB := zj (HB.out.below hb); have HO := zj (own5_below HO.out hb); have HW := zj (HW.out.trans (hb.mono (by omega))); have hs2 := hb.size
    have hsz : w.heap.size + 1 + 1 + 1 ≤ V.heap.size := by omega
    have hHeld := HSV.out _ HW.out; refine hK.out _ _ hHeld (fun _ => ?_); clear hK hb hs2; try simp only [Act.put, jA, jZ, jS]
    refine tk 15 (some 34) ?_ rfl rfl ?_ ?_; rotate_left
    ·intro W h; (try dsimp only at h); go_simp; (try with_reducible rfl)
    try simp only [Act.put, jA, jZ, jS]
    refine wpAnyH_ready (rs := [1, 16]) (by kernel_rfl) (by simp) (AllReadyH.cons rfl (fun QQ hK => ?_) (AllReadyH.cons rfl (fun QQ hK => ?_) AllReadyH.nil))
    ·have qq := HB.out.cells.2.2.2
     go_simp; refine hK.out _ _ hHeld (fun _ => ?_); clear qq hK; try simp only [Act.put, jA, jZ, jS]
     refine rd1 16 rfl (fun QQ hK => ?_); go_simp; have hb := L5.below_alloc V (.cells #[.string KK, .bool O, .string S, .int .i64 L, .int .i64 P] 145); have hblk := heap_alloc_new V (.cells #[.string KK, .bool O, .string S, .int .i64 L, .int .i64 P] 145)
     have hq : (V.alloc (.cells #[.string KK, .bool O, .string S, .int .i64 L, .int .i64 P] 145)).heap.size = V.heap.size + 1 := by simp
     have HB := zj (HB.out.below hb); have HO := zj (own5_below HO.out hb); have HW := zj (HW.out.trans (hb.mono (by omega))); have hs2 := hb.size
     have hsz : w.heap.size + 1 + 1 + 1 ≤ (V.alloc (.cells #[.string KK, .bool O, .string S, .int .i64 L, .int .i64 P] 145)).heap.size := by omega
     have hHeld := HSV.out _ HW.out; refine hK.out _ _ hHeld (fun _ => ?_); clear hK hb hs2; generalize V.alloc (.cells #[.string KK, .bool O, .string S, .int .i64 L, .int .i64 P] 145) = V3 at *; generalize V.heap.size = q at *; try simp only [Act.put, jA, jZ, jS]
     refine rd1 17 rfl (fun QQ hK => ?_); refine step_append_lies _ (by rfl) _ _ _ (by rfl) (w.heap.size + 1 + 1 + 1) 145 i0 (.agg #[.string ⟨#[]⟩, .bool false, .string ⟨#[]⟩, .int .i64 0, .int .i64 0]) 5 56 Tryz.underlying39 hi hz0 hz1 hz2 rfl (by decide) (.slice K k kc) k _ (by rfl) HO.out ⟨q, 0, none⟩ 1 1 [.string KK, .bool O, .string S, .int .i64 L, .int .i64 P] (by rfl) (by rfl) (World.news_of_block (cs := #[.string KK, .bool O, .string S, .int .i64 L, .int .i64 P]) (t := 145) (fr := (0, 0)) hblk) (five_one _ _ _ _ _) (by omega) (by unfold maxLen; omega) (by omega) (by omega) V3.heap.size rfl ?_; intro g' cap' w3 hown3 hgrow3 hat3 hlt3; have hbA := own5_apart (q := w.heap.size + 1 + 1) HO.out hgrow3 (by omega) (by omega); have HBX := zj (show LBx 41 (w.heap.size + 1 + 1) F R H (K) k kc w3 from (hgrow3.block (w.heap.size + 1 + 1) (by omega) (fun e => HNE.out _ e.symm rfl)).trans HB.out); have HW := zj (HW.out.trans hbA); have hs3 := hgrow3.size; have hHeld := HSV.out _ HW.out; refine hK.out _ _ hHeld (fun _ => ?_); clear hK hat3 hlt3 hgrow3 hbA; try simp only [Act.put, jA, jZ, jS]
     refine tk 18 (some 37) ?_ rfl rfl ?_ ?_; rotate_left
     ·intro W h; (try dsimp only at h); go_simp; (try with_reducible rfl)
     try simp only [Act.put, jA, jZ, jS]
     refine rd1 19 rfl (fun QQ hK => ?_); have E6 := HBX.out.cells.2.2.2; have F6 := HBX.out.free.2.2.2; go_simp; have HWN := zj (HW.out.setCell (p := ⟨w.heap.size + 1 + 1, 3, none⟩) (Nat.le_refl _) (.slice (some ⟨g', 0, none⟩) (k + 1) cap')); have hHeld := HSV.out _ HWN.out; refine hK.out _ _ hHeld (fun _ => ?_); clear hK E6 F6; try simp only [Act.put, jA, jZ, jS]
     refine wpAnyH_done (by kernel_rfl) ?_ _; have HON : Hid ((w3.setCell ⟨w.heap.size + 1 + 1, 3, none⟩ (.slice (some ⟨g', 0, none⟩) (k + 1) cap')).ownsRow (w.heap.size + 1 + 1 + 1) 145 5 (.slice (some ⟨g', 0, none⟩) (k + 1) cap') (k + 1) (fives (l.take (k + 1)))) := zj (own5_set (by rw [HC.out]; exact hown3) (by omega)); have HBN := zj (HBX.out.set3 (some ⟨g', 0, none⟩) (k + 1) cap')
     have hszN : w.heap.size + 1 + 1 + 1 ≤ (w3.setCell ⟨w.heap.size + 1 + 1, 3, none⟩ (.slice (some ⟨g', 0, none⟩) (k + 1) cap')).heap.size := by simp; omega
     clear hown3; go_wp2_with fail; refine ⟨⟨k + 1, some ⟨g', 0, none⟩, cap', by omega, by simp, HBN, HON, HWN, hszN⟩, ?_⟩; clear HBN HON HWN hszN HW HO HB HBX hHeld hsz hs3 hq hblk HSV hab2
     (try clear HWs HBs hszs)
     simp only [intOf]; omega
    ·go_simp
     have hb := L5.below_alloc V (.cells #[.string KK, .bool O, .string S, .int .i64 L, .int .i64 P] 145); have hblk := heap_alloc_new V (.cells #[.string KK, .bool O, .string S, .int .i64 L, .int .i64 P] 145)
     have hq : (V.alloc (.cells #[.string KK, .bool O, .string S, .int .i64 L, .int .i64 P] 145)).heap.size = V.heap.size + 1 := by simp
     have HB := zj (HB.out.below hb); have HO := zj (own5_below HO.out hb); have HW := zj (HW.out.trans (hb.mono (by omega))); have hs2 := hb.size
     have hsz : w.heap.size + 1 + 1 + 1 ≤ (V.alloc (.cells #[.string KK, .bool O, .string S, .int .i64 L, .int .i64 P] 145)).heap.size := by omega
     have hHeld := HSV.out _ HW.out; refine hK.out _ _ hHeld (fun _ => ?_); clear hK hb hs2; generalize V.alloc (.cells #[.string KK, .bool O, .string S, .int .i64 L, .int .i64 P] 145) = V3 at *; generalize V.heap.size = q at *; try simp only [Act.put, jA, jZ, jS]
     refine rd1 1 rfl (fun QQ hK => ?_); have qq := HB.out.cells.2.2.2; go_simp; refine hK.out _ _ hHeld (fun _ => ?_); clear qq hK; try simp only [Act.put, jA, jZ, jS]
     refine rd1 17 rfl (fun QQ hK => ?_); refine step_append_lies _ (by rfl) _ _ _ (by rfl) (w.heap.size + 1 + 1 + 1) 145 i0 (.agg #[.string ⟨#[]⟩, .bool false, .string ⟨#[]⟩, .int .i64 0, .int .i64 0]) 5 56 Tryz.underlying39 hi hz0 hz1 hz2 rfl (by decide) (.slice K k kc) k _ (by rfl) HO.out ⟨q, 0, none⟩ 1 1 [.string KK, .bool O, .string S, .int .i64 L, .int .i64 P] (by rfl) (by rfl) (World.news_of_block (cs := #[.string KK, .bool O, .string S, .int .i64 L, .int .i64 P]) (t := 145) (fr := (0, 0)) hblk) (five_one _ _ _ _ _) (by omega) (by unfold maxLen; omega) (by omega) (by omega) V3.heap.size rfl ?_; intro g' cap' w3 hown3 hgrow3 hat3 hlt3; have hbA := own5_apart (q := w.heap.size + 1 + 1) HO.out hgrow3 (by omega) (by omega); have HBX := zj (show LBx 41 (w.heap.size + 1 + 1) F R H (K) k kc w3 from (hgrow3.block (w.heap.size + 1 + 1) (by omega) (fun e => HNE.out _ e.symm rfl)).trans HB.out); have HW := zj (HW.out.trans hbA); have hs3 := hgrow3.size; have hHeld := HSV.out _ HW.out; refine hK.out _ _ hHeld (fun _ => ?_); clear hK hat3 hlt3 hgrow3 hbA; try simp only [Act.put, jA, jZ, jS]
     refine tk 18 (some 37) ?_ rfl rfl ?_ ?_; rotate_left
     ·intro W h; (try dsimp only at h); go_simp; (try with_reducible rfl)
     try simp only [Act.put, jA, jZ, jS]
     refine rd1 19 rfl (fun QQ hK => ?_); have E6 := HBX.out.cells.2.2.2; have F6 := HBX.out.free.2.2.2; go_simp; have HWN := zj (HW.out.setCell (p := ⟨w.heap.size + 1 + 1, 3, none⟩) (Nat.le_refl _) (.slice (some ⟨g', 0, none⟩) (k + 1) cap')); have hHeld := HSV.out _ HWN.out; refine hK.out _ _ hHeld (fun _ => ?_); clear hK E6 F6; try simp only [Act.put, jA, jZ, jS]
     refine wpAnyH_done (by kernel_rfl) ?_ _; have HON : Hid ((w3.setCell ⟨w.heap.size + 1 + 1, 3, none⟩ (.slice (some ⟨g', 0, none⟩) (k + 1) cap')).ownsRow (w.heap.size + 1 + 1 + 1) 145 5 (.slice (some ⟨g', 0, none⟩) (k + 1) cap') (k + 1) (fives (l.take (k + 1)))) := zj (own5_set (by rw [HC.out]; exact hown3) (by omega)); have HBN := zj (HBX.out.set3 (some ⟨g', 0, none⟩) (k + 1) cap')
     have hszN : w.heap.size + 1 + 1 + 1 ≤ (w3.setCell ⟨w.heap.size + 1 + 1, 3, none⟩ (.slice (some ⟨g', 0, none⟩) (k + 1) cap')).heap.size := by simp; omega
     clear hown3; go_wp2_with fail; refine ⟨⟨k + 1, some ⟨g', 0, none⟩, cap', by omega, by simp, HBN, HON, HWN, hszN⟩, ?_⟩; clear HBN HON HWN hszN HW HO HB HBX hHeld hsz hs3 hq hblk HSV hab2
     (try clear HWs HBs hszs)
     simp only [intOf]; omega
  ·have HLN : Hid (l.take k = l) := zj (List.take_of_length_le (by have := HN.out; omega))
   have HKN : Hid (k = (l).length) := zj (by have := HN.out; omega)
   have HLI : Hid (Lies5 wr wr.heap.size K (l)) := zj (by
    have h := HO.out; rw [HLN.out] at h
    exact lies5_own h HKN.out)
   have HKB := zj (H2.out.on HW.out (by omega)); have HBW := zj (HZ.out.trans (HW.out.mono (by omega)))
   have HKL : Hid (∀ a, K = some a → w.heap.size + 1 < a.block) := zj (fun a h => by
    subst h; rcases HO.out.2 with ⟨h', _⟩ | ⟨g, cap, cur, h', hg, _⟩
    ·simp at h'
    ·simp only [Value.slice.injEq, Option.some.injEq] at h'
     rw [h'.1]; show _ < g
     omega)
   obtain ⟨y0, y1, y2, y3⟩ := HKB.out.cells; obtain ⟨f0, f1, f2, f3⟩ := HKB.out.free
   have hlt' : ¬ (k : Int) < n := by omega
   clear hk; go_wp2_with fail; obtain ⟨r0, r1, r2, r3⟩ := (setL_box HKB.out F R H K k kc).cells; unfold setL at r0 r1 r2 r3; refine bodyPost_ret (v := lv F R H K k kc) (by simp [results, Tryz.results41, go_sem, r0, r1, r2, r3]) rfl ?_
   have hlies : Lies5 (setL wr (w.heap.size + 1) F R H K k kc) (setL wr (w.heap.size + 1) F R H K k kc).heap.size K (l) := by
    rw [setL_size]; exact setL_lies HLI.out (fun a h => Nat.ne_of_gt (HKL.out a h)) F R H K k kc
   have HKM : ∀ a, K = some a → w.heap.size ≤ a.block := fun a h => by have := HKL.out a h; omega
   first | exact ⟨K, kc, by rw [HKN.out], hlies, HKM, setL_below (g := w.heap.size + 1) HBW.out (by omega) F R H K k kc⟩ | exact ⟨K, ⟨kc, by rw [HKN.out, ← HN.out]⟩, hlies, HKM, setL_below (g := w.heap.size + 1) HBW.out (by omega) F R H K k kc⟩
def DecD (s : ByteArray) (b : Nat) (e : Ending) (w' : World) : Prop :=
 (∃ l G cap, dec s = some l ∧ e = .returned (.tuple #[lv l.self l.right l.high G l.items.length cap, .int .i64 0]) ∧ Lies5 w' w'.heap.size G l.items ∧ (∀ a, G = some a → b ≤ a.block)) ∨
 (dec s = none ∧ e = .returned (.tuple #[lv 0 0 ⟨#[]⟩ none 0 0, .int .i64 3]))
theorem allI_none {l : List (Option It)} (h : none ∈ l) : allI l = none := by
 induction l with
 | nil => simp at h
 | cons x l ih =>
  cases x with
  | none => rfl
  | some x =>
   have h' : none ∈ l := by simpa using h
   unfold allI; rw [ih h']; rfl
theorem allI_some (xs : List It) : allI (xs.map some) = some xs := by
 induction xs with
 | nil => rfl
 | cons x xs ih =>
  simp only [List.map_cons]; unfold allI; rw [ih]; rfl
theorem rdec_any (s : ByteArray) (w : World) (hg : Glo w) (hs : s.size ≤ 1000000) :
  Calls Tryz.prog 47 #[.string s] w fun e w' => DecD s w.heap.size e w' ∧ Below w.heap.size w w' := by
 obtain ⟨i0, hi, hz0, hz1, hz2⟩ := info_parts Tryz.infoItemD; have hb0 := lbox_below 41 0 0 ⟨#[]⟩ none 0 0 w; have HB := zj hb0; have HK := zj (lbox_new 41 0 0 ⟨#[]⟩ none 0 0 w); have HG0 := zj hg; have HG := zj (hg.on hb0); have HOP := zj (fun W (h : L7.Sizes W) => L7.refOpen_any s W h); clear hb0 hg; by_cases hgood : ¬ (L7.mayBe s.size = true ∧ L7.HP.good s.data.toList)
 ·have HD : Hid (dec s = none) := zj (dec_parse_none (by unfold parse; rw [if_neg hgood]))
  have hv : L7.opnV s = .tuple #[.agg #[.int .i64 0, .int .i64 0, .int .i64 0, .int .i64 0, .int .i64 0], .string ⟨#[]⟩, .int .i64 3] := by
   unfold L7.opnV; rw [L7.HP.opn_bad hgood]; rfl
  rw [hv] at HOP; clear hgood hv; go_enter Tryz.func47, Tryz.ntmps47; go_wp2_with fail; refine (HOP.out _ HG.out.sizes).mono ?_; rintro e w2 ⟨rfl, hb⟩; replace hb := hb.trans' (L5.below_alloc w2 (.cells #[.int .i64 0, .int .i64 0, .int .i64 0, .int .i64 0, .int .i64 0] 153)); replace HB := zj (HB.out.trans' hb); replace HK := zj (HK.out.below hb); clear hb HG; obtain ⟨x0, x1, x2, x3⟩ := HK.out.cells; obtain ⟨f0, f1, f2, f3⟩ := HK.out.free; go_wp2_with fail; obtain ⟨r0, r1, r2, r3⟩ := (setL_box HK.out 0 0 ⟨#[]⟩ none 0 0).cells; unfold setL at r0 r1 r2 r3; refine bodyPost_ret (v := .tuple #[lv 0 0 ⟨#[]⟩ none 0 0, .int .i64 3]) (by simp [results, Tryz.results47, go_sem, r0, r1, r2, r3]) rfl ⟨.inr ⟨HD.out, rfl⟩, ?_⟩; exact setL_below HB.out (Nat.le_refl _) 0 0 ⟨#[]⟩ none 0 0
 have hgd : L7.mayBe s.size = true ∧ L7.HP.good s.data.toList := Classical.not_not.1 hgood; have hok : L7.HP.Ok (L7.HP.headOf s.data.toList) := hgd.2.1; have hsz := mayBe_le hgd.1; obtain ⟨B0, hB0⟩ : ∃ B0, s.extract 16 s.size = B0 := ⟨_, rfl⟩
 have hBl : B0.data.toList = s.data.toList.drop 16 := by
  rw [← hB0, Lib.extract_data, List.take_of_length_le (by simp)]
 have hBs : B0.size + 16 = s.size := by rw [← hB0]; simp; omega
 have hv : L7.opnV s = .tuple #[L7.hv (L7.HP.headOf s.data.toList), .string B0, .int .i64 0] := by
  unfold L7.opnV; rw [L7.HP.opn_good hgd.1 hgd.2, hB0]
 obtain ⟨hk, hl, hc, hr, hs5, hhd⟩ : ∃ k l c r f, L7.HP.headOf s.data.toList = ⟨k, l, c, r, f⟩ := ⟨_, _, _, _, _, rfl⟩; rw [hhd] at hv hok; obtain ⟨n, rfl⟩ : ∃ n : Nat, hc = n := Int.eq_ofNat_of_zero_le hok.2.2.2.2.1
 have hn : n ≤ 65535 := by have h := hok.2.2.2.2.2.1; simp only at h; omega
 have HP := zj (reads_of hgd hBl hhd); simp only [L7.hv] at hv; rw [hv] at HOP; by_cases hk2 : hk ≠ 2
 ·have HD : Hid (dec s = none) := zj (dec_kind (by rw [hhd]; exact hk2))
  have hkn : (hk != 2) = true := by simpa using hk2
  clear hgood hgd hok hBl hB0 hv hhd hk2; go_enter Tryz.func47, Tryz.ntmps47; go_wp2_with fail; refine (HOP.out _ HG.out.sizes).mono ?_; rintro e w2 ⟨rfl, hb⟩; have HH := zj (show L7.Bx 153 w2.heap.size ⟨hk, hl, n, hr, hs5⟩ (w2.alloc (.cells #[.int .i64 hk, .int .i64 hl, .int .i64 n, .int .i64 hr, .int .i64 hs5] 153)) from heap_alloc_new _ _); replace hb := hb.trans' (L5.below_alloc w2 (.cells #[.int .i64 hk, .int .i64 hl, .int .i64 n, .int .i64 hr, .int .i64 hs5] 153)); replace HB := zj (HB.out.trans' hb); replace HK := zj (HK.out.below hb); clear hb HG; obtain ⟨y0, y1, y2, y3, y4⟩ := HH.out.cells; simp only at y0 y1 y2 y3 y4; obtain ⟨x0, x1, x2, x3⟩ := HK.out.cells; obtain ⟨f0, f1, f2, f3⟩ := HK.out.free; go_wp2_with fail; obtain ⟨r0, r1, r2, r3⟩ := (setL_box HK.out 0 0 ⟨#[]⟩ none 0 0).cells; unfold setL at r0 r1 r2 r3; refine bodyPost_ret (v := .tuple #[lv 0 0 ⟨#[]⟩ none 0 0, .int .i64 3]) (by simp [results, Tryz.results47, go_sem, r0, r1, r2, r3]) rfl ⟨.inr ⟨HD.out, rfl⟩, ?_⟩; exact setL_below HB.out (Nat.le_refl _) 0 0 ⟨#[]⟩ none 0 0
 obtain rfl : hk = 2 := Classical.not_not.1 hk2; clear hgood hgd hok hBl hB0 hv hhd hk2; have HRT := zj (fun (i : Nat) W (hi : i ≤ B0.size) => rtext_any B0 i W hi (by omega)); have HRN := zj (fun W => rtext_neg B0 (-1) W (by omega)); go_enter Tryz.func47, Tryz.ntmps47; go_wp2_with fail; refine (HOP.out _ HG.out.sizes).mono ?_; rintro e w2 ⟨rfl, hb⟩; have HH := zj (show L7.Bx 153 w2.heap.size ⟨2, hl, n, hr, hs5⟩ (w2.alloc (.cells #[.int .i64 2, .int .i64 hl, .int .i64 n, .int .i64 hr, .int .i64 hs5] 153)) from heap_alloc_new _ _)
 have hlt2 : w.heap.size < w2.heap.size := by have := HK.out.lt; have := hb.size; omega
 replace hb := hb.trans' (L5.below_alloc w2 (.cells #[.int .i64 2, .int .i64 hl, .int .i64 n, .int .i64 hr, .int .i64 hs5] 153)); replace HB := zj (HB.out.trans' hb); replace HK := zj (HK.out.below hb); replace HG := zj (HG.out.on hb); clear hb HOP; obtain ⟨y0, y1, y2, y3, y4⟩ := HH.out.cells; simp only at y0 y1 y2 y3 y4; go_wp2_with fail; refine (HRT.out 0 _ (by omega)).mono ?_; rintro e w4 ⟨h4, hb⟩; replace HB := zj (HB.out.trans' hb); replace HK := zj (HK.out.below hb); replace HG := zj (HG.out.on hb); replace HH := zj (HH.out.below hb); clear hb y0 y1 y2 y3 y4; rcases h4 with ⟨h4, rfl⟩ | ⟨T1, i1, h4, rfl⟩
 ·have HD := zj (HP.out.n1 h4)
  clear h4; go_wp2_with fail; refine (HRN.out _).mono ?_; rintro e w6 ⟨rfl, hb⟩; replace HB := zj (HB.out.trans' hb); replace HK := zj (HK.out.below hb); clear hb HG HH; obtain ⟨x0, x1, x2, x3⟩ := HK.out.cells; obtain ⟨f0, f1, f2, f3⟩ := HK.out.free; go_wp2_with fail; obtain ⟨r0, r1, r2, r3⟩ := (setL_box HK.out 0 0 ⟨#[]⟩ none 0 0).cells; unfold setL at r0 r1 r2 r3; refine bodyPost_ret (v := .tuple #[lv 0 0 ⟨#[]⟩ none 0 0, .int .i64 3]) (by simp [results, Tryz.results47, go_sem, r0, r1, r2, r3]) rfl ⟨.inr ⟨HD.out, rfl⟩, ?_⟩; exact setL_below HB.out (Nat.le_refl _) 0 0 ⟨#[]⟩ none 0 0
 have hi1 := (L9.gtext_some h4); have H4 := zj h4
 have hBl : B0.data.toList.length = B0.size := by simp
 have hT1 : T1.data.toList.length = T1.size := by simp
 have hT1s : T1.size ≤ 1000000 := by omega
 have hi1' : i1 ≤ B0.size := by omega
 clear h4 hi1; go_wp2_with fail; refine (HRT.out i1 _ hi1').mono ?_; rintro e w6 ⟨h6, hb⟩; replace HB := zj (HB.out.trans' hb); replace HK := zj (HK.out.below hb); replace HG := zj (HG.out.on hb); replace HH := zj (HH.out.below hb); clear hb; rcases h6 with ⟨h6, rfl⟩ | ⟨T2, i2, h6, rfl⟩
 ·have HD := zj (HP.out.n2 _ _ H4.out h6)
  clear h6 HG HH; obtain ⟨x0, x1, x2, x3⟩ := HK.out.cells; obtain ⟨f0, f1, f2, f3⟩ := HK.out.free; go_wp2_with fail; obtain ⟨r0, r1, r2, r3⟩ := (setL_box HK.out 0 0 ⟨#[]⟩ none 0 0).cells; unfold setL at r0 r1 r2 r3; refine bodyPost_ret (v := .tuple #[lv 0 0 ⟨#[]⟩ none 0 0, .int .i64 3]) (by simp [results, Tryz.results47, go_sem, r0, r1, r2, r3]) rfl ⟨.inr ⟨HD.out, rfl⟩, ?_⟩; exact setL_below HB.out (Nat.le_refl _) 0 0 ⟨#[]⟩ none 0 0
 have hi2 := (L9.gtext_some h6); have H6 := zj h6
 have hT2 : T2.data.toList.length = T2.size := by simp
 have hT2s : T2.size ≤ 1000000 := by omega
 have hi2' : i2 ≤ B0.size := by omega
 have HU := zj (fun W => L8.unpack8_any B0 (i2 : Int) (n : Int) W (by simp [Lit.wf, IntKind.min, IntKind.max, IntKind.signed, IntKind.bits]; omega) (by simp [Lit.wf, IntKind.min, IntKind.max, IntKind.signed, IntKind.bits]; omega) (by unfold maxLen; omega)); have di2 : decide ((i2 : Int) < 0) = false := dF (by omega); obtain ⟨y0, y1, y2, y3, y4⟩ := HH.out.cells; simp only at y0 y1 y2 y3 y4; clear h6 hi2; go_wp2_with fail; refine (HU.out _).mono ?_; rintro e w7 ⟨h7, hb⟩; replace HB := zj (HB.out.trans' hb); replace HK := zj (HK.out.below hb); replace HG := zj (HG.out.on hb); replace HH := zj (HH.out.below hb); clear hb HU y0 y1 y2 y3 y4; rcases h7 with ⟨h7, -⟩ | ⟨-, h7, rfl⟩ | ⟨-, h7, g, cap, rfl, hgw, hcap, hL7⟩
 ·exfalso
  omega
 ·rw [Int.toNat_natCast, Int.toNat_natCast] at h7
  have HD := zj (HP.out.n3 _ _ _ _ H4.out H6.out h7); clear h7 HG HH; obtain ⟨x0, x1, x2, x3⟩ := HK.out.cells; obtain ⟨f0, f1, f2, f3⟩ := HK.out.free; go_wp2_with fail; obtain ⟨r0, r1, r2, r3⟩ := (setL_box HK.out 0 0 ⟨#[]⟩ none 0 0).cells; unfold setL at r0 r1 r2 r3; refine bodyPost_ret (v := .tuple #[lv 0 0 ⟨#[]⟩ none 0 0, .int .i64 3]) (by simp [results, Tryz.results47, go_sem, r0, r1, r2, r3]) rfl ⟨.inr ⟨HD.out, rfl⟩, ?_⟩; exact setL_below HB.out (Nat.le_refl _) 0 0 ⟨#[]⟩ none 0 0
 rw [Int.toNat_natCast, Int.toNat_natCast] at h7; rw [Int.toNat_natCast] at hcap hL7 ⊢; have H7 := zj h7; have hcl := L8.cellsB_length B0 n; have HCS := zj (L8.cellsB_size B0 n)
 have hmap : allI ((L8.cellsB B0 n).map fun t => told3 t T1) = (mapV (L8.LP.cells B0.data.toList n)).map (List.map (item T1.data.toList)) := by
  rw [← L8.bs_cellsB B0 n]; exact allI_mapV T1.data.toList (L8.cellsB B0 n)
 have HM := zj hmap; have hfew := L8.good_few h7
 have hn1 : n ≤ 1000 := by
  have h1 : (L5.B B0).length = B0.size := L5.b_size B0; omega
 obtain ⟨y0, y1, y2, y3, y4⟩ := HH.out.cells; simp only at y0 y1 y2 y3 y4; have HN9 := zj (show LBx 41 w7.heap.size hs5 hr T2 none 0 0 (w7.alloc (.cells #[.int .i64 hs5, .int .i64 hr, .string T2, .slice none 0 0] 41)) from heap_alloc_new _ _); have HB9 := zj (L5.below_alloc w7 (.cells #[.int .i64 hs5, .int .i64 hr, .string T2, .slice none 0 0] 41))
 have hsz9 : w7.heap.size + 1 ≤ (w7.alloc (.cells #[.int .i64 hs5, .int .i64 hr, .string T2, .slice none 0 0] 41)).heap.size := by simp
 have HL8 := zj hL7; have hq : w.heap.size < w7.heap.size := HK.out.lt; clear h7 hmap hL7 hgw hfew HG HH; generalize (⟨g, 0, none⟩ : Addr) = a8 at *; go_wp2_with fail; clear y0 y1 y2 y3 y4; generalize w7.alloc (.cells #[.int .i64 hs5, .int .i64 hr, .string T2, .slice none 0 0] 41) = w9 at *; have HL8 := zj (HL8.out.below HB9.out); have HK := zj (HK.out.below HB9.out); have HB := zj (HB.out.trans' HB9.out); generalize w7.heap.size = q8 at *; generalize hw8 : w7 = w8 at *
 go_loopw [14] (fun iv wr => ∃ (k : Nat) (K : Option Addr) (kc : Nat) (xs : List It), k ≤ n ∧ iv = .int .i64 k ∧ Hid (LBx 41 q8 hs5 hr T2 K k kc wr) ∧ Hid (wr.ownsRow (q8 + 1) 145 5 (.slice K k kc) k (fives xs)) ∧ Hid (((L8.cellsB B0 n).take k).map (fun t => told3 t T1) = xs.map some) ∧ Hid (Below q8 w8 wr) ∧ q8 + 1 ≤ wr.heap.size) (fun iv _ => n - (intOf iv).toNat)
 case atStart => exact ⟨0, none, 0, [], by omega, rfl, HN9, zj (own5_nil _ _ _), zj (by simp), HB9, hsz9⟩
 case round =>
  obtain ⟨k, K, kc, xs, hk, rfl, HX, HO, HT, HW, hsz⟩ := hrel; have HKr := zj (HK.out.on HW.out hq); have HBr := zj (HB.out.trans (HW.out.mono (by omega))); have HGr := zj (HG0.out.on HBr.out); by_cases hlt : k < n
  ·obtain ⟨t, ht⟩ : ∃ t, (L8.cellsB B0 n)[k]? = some t := ⟨_, List.getElem?_eq_getElem (by omega)⟩
   obtain ⟨a, ha, hab, x0⟩ := (HL8.out.below HW.out) k t ht; obtain rfl := Option.some.inj ha; have hts := HCS.out t (List.mem_of_getElem? ht)
   have h0 : (0 : Int) ≤ k := by omega
   have hkn : (k : Int) < n := by omega
   have HGV := zj (fun W => L9.rgetv_any t W (by omega))
   cases hgv : L9.VP.getV t.data.toList with
   | none =>
    have HD : Hid (dec s = none) := zj (by
     refine HP.out.n4 _ _ _ _ H4.out H6.out H7.out ?_; have h := HM.out; rw [allI_none (List.mem_map.2 ⟨t, List.mem_of_getElem? ht, by unfold told3; rw [hgv]; rfl⟩)] at h
     exact Option.map_eq_none_iff.1 h.symm)
    rw [hgv] at HGV; unfold L9.gotV at HGV; clear ht ha hab hgv HT HO HX; go_wp2_with fail; refine (HGV.out _).mono ?_; rintro e V ⟨rfl, hb⟩; replace hb := hb.trans' (L5.below_alloc V (.cells #[.bool false, .string ⟨#[]⟩, .int .i64 0, .int .i64 0] 143)); replace HKr := zj (HKr.out.below hb); replace HBr := zj (HBr.out.trans' hb); clear hb x0; obtain ⟨x0, x1, x2, x3⟩ := HKr.out.cells; obtain ⟨f0, f1, f2, f3⟩ := HKr.out.free; go_wp2_with fail; obtain ⟨r0, r1, r2, r3⟩ := (setL_box HKr.out 0 0 ⟨#[]⟩ none 0 0).cells; unfold setL at r0 r1 r2 r3; refine bodyPost_ret (v := .tuple #[lv 0 0 ⟨#[]⟩ none 0 0, .int .i64 3]) (by simp [results, Tryz.results47, go_sem, r0, r1, r2, r3]) rfl ⟨.inr ⟨HD.out, rfl⟩, ?_⟩; exact setL_below HBr.out (Nat.le_refl _) 0 0 ⟨#[]⟩ none 0 0
   | some x =>
    obtain ⟨T', v⟩ := x; have hok := L9.VP.getV_some hgv; have hT : T'.length ≤ 128 := hok.1.1
    have HT1 : Hid (((L8.cellsB B0 n).take (k + 1)).map (fun t => told3 t T1) = (xs ++ [item T1.data.toList (T', v)]).map some) := zj (by
     rw [List.take_add_one, ht, Option.toList_some, List.map_append, HT.out, List.map_append]; simp only [List.map_cons, List.map_nil]; unfold told3; rw [hgv]
     rfl)
    rw [hgv] at HGV; unfold L9.gotV at HGV; simp only at HGV; obtain ⟨KR, hKR⟩ : ∃ KR : ByteArray, ⟨T'.toArray⟩ = KR := ⟨_, rfl⟩
    have hKRs : KR.size ≤ 128 := by rw [← hKR]; show T'.toArray.size ≤ 128; simpa using hT
    have hcat : ¬ 9223372036854775807 < T1.size + KR.size := by omega
    have hcat' : ¬ (9223372036854775807 : Int) < (T1.size : Int) + (KR.size : Int) := by omega
    rw [hKR] at HGV
    have hfive : five (item T1.data.toList (T', v)) = [.string (T1 ++ KR), .bool v.over, .string ⟨v.s.toArray⟩, .int .i64 v.len, .int .i64 v.page] := by
     rw [← hKR]
     have e1 : T1 ++ (⟨T'.toArray⟩ : ByteArray) = ⟨(T1.data.toList ++ T').toArray⟩ := by
      apply ByteArray.ext; simp
     rw [e1]; rfl
    have HC : Hid (fives (xs ++ [item T1.data.toList (T', v)]) = fives xs ++ [.string (T1 ++ KR), .bool v.over, .string ⟨v.s.toArray⟩, .int .i64 v.len, .int .i64 v.page]) := zj (by rw [fives_append, fives_one, hfive]); generalize item T1.data.toList (T', v) = ni at *; obtain ⟨O, S, L, P⟩ := v; simp only at HGV HC; generalize (⟨S.toArray⟩ : ByteArray) = S at *; have HNE : Hid (∀ g, (Value.slice K k kc).ownBlock = some g → g ≠ q8) := zj (fun g hg => by have := own5_block HO.out hg; omega); clear ht ha hab hgv hok hT HT hfive hKR; go_wp2_with fail; refine (HGV.out _).mono ?_; rintro e V ⟨rfl, hb⟩; have hb2 := hb.trans' (L5.below_alloc V (.cells #[.bool O, .string S, .int .i64 L, .int .i64 P] 143)); have HX2 := zj (HX.out.below hb2); have HO2 := zj (own5_below HO.out hb2); have HW2 := zj (HW.out.trans (hb2.mono (by omega))); have HV2 := zj (L9.Bx.new 143 O S L P V); have hs2 := hb2.size; clear hb hb2 HX HO HW x0 HKr HBr HGr; obtain ⟨p0, p1, p2, p3⟩ := HX2.out.cells; obtain ⟨f0, f1, f2, f3⟩ := HX2.out.free; obtain ⟨v0, v1, v2, v3⟩ := HV2.out.cells
    have HBK : Hid (((V.alloc (.cells #[.bool O, .string S, .int .i64 L, .int .i64 P] 143)).alloc (.cells #[.string (T1 ++ KR), .bool O, .string S, .int .i64 L, .int .i64 P] 145)).heap[V.heap.size + 1]? = some (.cells #[.string (T1 ++ KR), .bool O, .string S, .int .i64 L, .int .i64 P] 145)) := zj (by
     have h := heap_alloc_new (V.alloc (.cells #[.bool O, .string S, .int .i64 L, .int .i64 P] 143)) (.cells #[.string (T1 ++ KR), .bool O, .string S, .int .i64 L, .int .i64 P] 145); rw [show (V.alloc (.cells #[.bool O, .string S, .int .i64 L, .int .i64 P] 143)).heap.size = V.heap.size + 1 by simp] at h
     exact h)
    go_wp2_with (at_builtin; refine wpList_append_lies _ rfl _ _ 39 rfl (q8 + 1) 145 i0 (.agg #[.string ⟨#[]⟩, .bool false, .string ⟨#[]⟩, .int .i64 0, .int .i64 0]) 5 56 Tryz.underlying39 hi hz0 hz1 hz2 rfl (by decide) (.slice K k kc) k _ rfl (HO2.out.alloc _) ⟨V.heap.size + 1, 0, none⟩ 1 1 [.string (T1 ++ KR), .bool O, .string S, .int .i64 L, .int .i64 P] rfl rfl (World.news_of_block (cs := #[.string (T1 ++ KR), .bool O, .string S, .int .i64 L, .int .i64 P]) (t := 145) (fr := (0, 0)) HBK.out) (five_one _ _ _ _ _) (by omega) (by unfold maxLen; omega) (by omega) (by simp at hs2 ⊢; omega) (V.heap.size + 1 + 1) (by simp) ?_; intro g' cap' w3 hown3 hgrow3 hat3 hlt3; have hbA := L5.below_alloc (V.alloc (.cells #[.bool O, .string S, .int .i64 L, .int .i64 P] 143)) (.cells #[.string (T1 ++ KR), .bool O, .string S, .int .i64 L, .int .i64 P] 145); have hbB := own5_apart (q := q8) (HO2.out.alloc (.cells #[.string (T1 ++ KR), .bool O, .string S, .int .i64 L, .int .i64 P] 145)) hgrow3 (by omega) (by simp at hs2 ⊢; omega); have HX3 := zj (show LBx 41 q8 hs5 hr T2 K k kc w3 from (hgrow3.block q8 (by simp at hs2 ⊢; omega) (fun e => HNE.out _ e.symm rfl)).trans (HX2.out.below hbA)); have HW3 := zj ((HW2.out.trans (hbA.mono (by simp at hs2 ⊢; omega))).trans hbB); have hs3 := hgrow3.size; clear p0 p1 p2 p3 f0 f1 f2 f3 hat3 hlt3 hgrow3 hbA hbB; obtain ⟨p0, p1, p2, p3⟩ := HX3.out.cells; obtain ⟨f0, f1, f2, f3⟩ := HX3.out.free); have HX4 := zj (HX3.out.set3 (some ⟨g', 0, none⟩) (k + 1) cap'); have HO4 := zj (own5_set (q := q8) (o := 3) (u := .slice (some ⟨g', 0, none⟩) (k + 1) cap') (show w3.ownsRow (q8 + 1) 145 5 (.slice (some ⟨g', 0, none⟩) (k + 1) cap') (k + 1) (fives (xs ++ [ni])) by rw [HC.out]; exact hown3) (by omega)); have HW4 := zj (HW3.out.setCell (p := ⟨q8, 3, none⟩) (Nat.le_refl _) (.slice (some ⟨g', 0, none⟩) (k + 1) cap'))
    have hsz4 : q8 + 1 ≤ (w3.setCell ⟨q8, 3, none⟩ (.slice (some ⟨g', 0, none⟩) (k + 1) cap')).heap.size := by simp at hs2 hs3 ⊢; omega
    go_roundw
    case rel => exact ⟨k + 1, some ⟨g', 0, none⟩, cap', xs ++ [ni], by omega, by simp, HX4, HO4, HT1, HW4, hsz4⟩
    case measure => simp [intOf]; omega
  ·obtain rfl : k = n := by omega
   have hxl : xs.length = k := by
    have h := congrArg List.length HT.out; simp only [List.length_map, List.length_take] at h; omega
   have hall : allI ((L8.cellsB B0 k).map fun t => told3 t T1) = some xs := by
    have h := HT.out; rw [List.take_of_length_le (by omega)] at h; rw [h, allI_some]
   have HD : Hid (dec s = if enc ⟨hs5, hr, T2, xs⟩ s.size = (s, 0) then some ⟨hs5, hr, T2, xs⟩ else none) := zj (by
    have h := HM.out; rw [hall] at h; obtain ⟨ys, hy, hxy⟩ := Option.map_eq_some_iff.1 h.symm; have h2 := HP.out.ok _ _ _ _ _ H4.out H6.out H7.out hy; rw [hxy, bytes_eq] at h2
    exact h2)
   have HRW := zj (lies5_own HO.out hxl.symm)
   have HKN : Hid (∀ a, K = some a → w.heap.size < a.block) := zj (fun a h => by
    subst h; have := own5_block HO.out (g := a.block) rfl
    omega)
   obtain ⟨S2, c2, he⟩ : ∃ S2 c2, enc ⟨hs5, hr, T2, xs⟩ s.size = (S2, c2) := ⟨_, _, rfl⟩; have HE := zj (fun W (h2 : Lies5 W W.heap.size K xs) => renc_any hs5 hr T2 K xs kc s.size W h2 (by omega) (by unfold maxLen; omega) (by simp [Lit.wf, IntKind.min, IntKind.max, IntKind.signed, IntKind.bits]; omega)); rw [encV, he, hxl] at HE; rw [he] at HD
   have hlt' : ¬ (k : Int) < k := by omega
   have hXL := zj hxl; obtain ⟨p0, p1, p2, p3⟩ := HX.out.cells; clear hlt hk HT HO hall he hxl; go_wp2_with fail; refine (HE.out _ HRW.out).mono ?_; rintro e V ⟨rfl, hb⟩; have HX3 := zj (HX.out.below hb); have HR3 := zj (HRW.out.on hb); have HK3 := zj (HKr.out.below hb); have HB3 := zj (HBr.out.trans' hb); clear hb p0 p1 p2 p3 HX HRW HKr HBr HGr HE; by_cases hc0 : c2 = 0
   ·subst hc0
    by_cases hS : S2 = s
    ·subst hS
     have hz := text_yes (rfl : S2 = S2); rw [if_pos rfl] at HD; obtain ⟨x0, x1, x2, x3⟩ := HK3.out.cells; obtain ⟨f0, f1, f2, f3⟩ := HK3.out.free; obtain ⟨p0, p1, p2, p3⟩ := HX3.out.cells; go_wp2_with fail; obtain ⟨r0, r1, r2, r3⟩ := (setL_box HK3.out hs5 hr T2 K k kc).cells; unfold setL at r0 r1 r2 r3; refine bodyPost_ret (v := .tuple #[lv hs5 hr T2 K k kc, .int .i64 0]) (by simp [results, Tryz.results47, go_sem, r0, r1, r2, r3]) rfl ⟨.inl ⟨⟨hs5, hr, T2, xs⟩, K, kc, HD.out, by simp only [hXL.out], ?_⟩, ?_⟩
     ·have hlies : Lies5 (setL V w.heap.size hs5 hr T2 K k kc) (setL V w.heap.size hs5 hr T2 K k kc).heap.size K xs := by
       rw [setL_size]; exact setL_lies HR3.out (fun a h => Nat.ne_of_gt (HKN.out a h)) hs5 hr T2 K k kc
      exact ⟨hlies, fun a h => Nat.le_of_lt (HKN.out a h)⟩
     ·exact setL_below HB3.out (Nat.le_refl _) hs5 hr T2 K k kc
    ·rw [if_neg (fun h => hS (congrArg Prod.fst h))] at HD
     have hz := text_no hS; obtain ⟨x0, x1, x2, x3⟩ := HK3.out.cells; obtain ⟨f0, f1, f2, f3⟩ := HK3.out.free; go_wp2_with fail; obtain ⟨r0, r1, r2, r3⟩ := (setL_box HK3.out 0 0 ⟨#[]⟩ none 0 0).cells; unfold setL at r0 r1 r2 r3; refine bodyPost_ret (v := .tuple #[lv 0 0 ⟨#[]⟩ none 0 0, .int .i64 3]) (by simp [results, Tryz.results47, go_sem, r0, r1, r2, r3]) rfl ⟨.inr ⟨HD.out, rfl⟩, ?_⟩; exact setL_below HB3.out (Nat.le_refl _) 0 0 ⟨#[]⟩ none 0 0
   ·rw [if_neg (fun h => hc0 (congrArg Prod.snd h))] at HD
    have hcn : (c2 != 0) = true := by simpa using hc0
    have hce : (c2 == 0) = false := by simpa using hc0
    obtain ⟨x0, x1, x2, x3⟩ := HK3.out.cells; obtain ⟨f0, f1, f2, f3⟩ := HK3.out.free; go_wp2_with fail; obtain ⟨r0, r1, r2, r3⟩ := (setL_box HK3.out 0 0 ⟨#[]⟩ none 0 0).cells; unfold setL at r0 r1 r2 r3; refine bodyPost_ret (v := .tuple #[lv 0 0 ⟨#[]⟩ none 0 0, .int .i64 3]) (by simp [results, Tryz.results47, go_sem, r0, r1, r2, r3]) rfl ⟨.inr ⟨HD.out, rfl⟩, ?_⟩; exact setL_below HB3.out (Nat.le_refl _) 0 0 ⟨#[]⟩ none 0 0
end Go.Proofs.YtpeghilfldpgfaaGreatDoor.L10
namespace Go.Proofs.YtpeghilfldpgfaaGreatDoor.L11
open Go.RowKit IP
theorem may_parts {F L R : Int} {H : ByteArray} {ks : List Int} {ss : List ByteArray} {p : Int} : May ⟨F, L, R, H, ks, ss⟩ p ↔ L7.mayBe p = true ∧ NumOk' F L R ∧ KidsOk' ks ss.length ∧ EndsQ R H ss p := Iff.rfl
theorem may_any (F L R : Int) (H : ByteArray) (A : Option Addr) (n ca : Nat) (C : Option Addr) (m cb : Nat) (ks : List Int) (ss : List ByteArray) (p : Int) (w : World) (hs : L7.Sizes w) (hr : Rows2 w A n ca C m cb ks ss) (hn : n ≤ 100000) (hm : m ≤ 100000) :
  Calls Tryz.prog 69 #[nv F L R H A n ca C m cb, .int .i64 p] w fun e w' => e = .returned (.bool (decide (May ⟨F, L, R, H, ks, ss⟩ p))) ∧ Below w.heap.size w w' := by
 have hb := nbox_below 29 F L R H A n ca C m cb w; have HB := zj hb; have HK := zj (nbox_new 29 F L R H A n ca C m cb w); have HS := zj (hs.below hs.lt hb); have HR := zj (hr.on hb); have HSZ := zj (fun W (h : L7.Sizes W) => L7.size_any p W h); have HNU := zj (fun W => nums_any F L R H A n ca C m cb W); have HKI := zj (fun W (h : Rows2 W A n ca C m cb ks ss) => kids_any F L R H A n ca C m cb ks W h.kids h.nk (by omega) (by omega)); have hms := hr.nm; by_cases c1 : L7.mayBe p = true
 ·by_cases c2 : NumOk' F L R
  ·rw [dT c2] at HNU
   by_cases c3 : KidsOk' ks m
   ·rw [dT c3] at HKI
    have hp := mayBe_le c1; obtain ⟨q, rfl⟩ : ∃ q : Nat, p = q := Int.eq_ofNat_of_zero_le (by omega); have HEN := zj (fun W (h : Rows2 W A n ca C m cb ks ss) => rightEnds_any F L R H A n ca C m cb ss q W h.seps (h.nk.symm.trans c3.1) h.nm h.cm hm (by omega))
    have e : decide (EndsQ R H ss q) = decide (May ⟨F, L, R, H, ks, ss⟩ q) := by
     by_cases hq : EndsQ R H ss q
     ·rw [dT hq, dT (may_parts.2 ⟨c1, c2, by rw [hms]; exact c3, hq⟩)]
     ·rw [dF hq, dF (fun h => hq (may_parts.1 h).2.2.2)]
    rw [e] at HEN; rw [c1] at HSZ; generalize decide (May ⟨F, L, R, H, ks, ss⟩ q) = r at *; clear hb hs hr hms c1 c2 c3 e hp; go_enter Tryz.func69, Tryz.ntmps69; go_wp2_with fail; refine (HSZ.out _ HS.out).mono ?_; rintro e w2 ⟨rfl, rfl⟩; obtain ⟨x0, x1, x2, x3, x4, x5⟩ := HK.out.cells; go_wp2_with fail; refine (HNU.out _).mono ?_; rintro e w3 ⟨rfl, hb3⟩; obtain ⟨y0, y1, y2, y3, y4, y5⟩ := (HK.out.below hb3).cells; have HR3 := zj (HR.out.on hb3); have HB3 := zj (HB.out.trans' hb3); have HK3 := zj (HK.out.below hb3); clear hb3 x0 x1 x2 x3 x4 x5; go_wp2_with fail; refine (HKI.out _ HR3.out).mono ?_; rintro e w4 ⟨rfl, hb4⟩; clear y0 y1 y2 y3 y4 y5; obtain ⟨z0, z1, z2, z3, z4, z5⟩ := (HK3.out.below hb4).cells; have HR4 := zj (HR3.out.on hb4); have HB4 := zj (HB3.out.trans' hb4); clear hb4; go_wp2_with fail; refine (HEN.out _ HR4.out).mono ?_; rintro e w5 ⟨rfl, hb5⟩; go_wp2_with fail; go_ret; exact ⟨rfl, HB4.out.trans' hb5⟩
   ·rw [dF c3] at HKI
    rw [dF (fun h : May ⟨F, L, R, H, ks, ss⟩ p => c3 (by have := (may_parts.1 h).2.2.1; rwa [hms] at this)), ]; rw [c1] at HSZ; clear hb hs hr hms c1 c2 c3; go_enter Tryz.func69, Tryz.ntmps69; go_wp2_with fail; refine (HSZ.out _ HS.out).mono ?_; rintro e w2 ⟨rfl, rfl⟩; obtain ⟨x0, x1, x2, x3, x4, x5⟩ := HK.out.cells; go_wp2_with fail; refine (HNU.out _).mono ?_; rintro e w3 ⟨rfl, hb3⟩; obtain ⟨y0, y1, y2, y3, y4, y5⟩ := (HK.out.below hb3).cells; have HR3 := zj (HR.out.on hb3); have HB3 := zj (HB.out.trans' hb3); clear hb3 x0 x1 x2 x3 x4 x5; go_wp2_with fail; refine (HKI.out _ HR3.out).mono ?_; rintro e w4 ⟨rfl, hb4⟩; go_wp2_with fail; go_ret; exact ⟨rfl, HB3.out.trans' hb4⟩
  ·rw [dF c2] at HNU
   rw [dF (fun h : May ⟨F, L, R, H, ks, ss⟩ p => c2 (may_parts.1 h).2.1)]; rw [c1] at HSZ; clear hb hs hr hms c1 c2; go_enter Tryz.func69, Tryz.ntmps69; go_wp2_with fail; refine (HSZ.out _ HS.out).mono ?_; rintro e w2 ⟨rfl, rfl⟩; obtain ⟨x0, x1, x2, x3, x4, x5⟩ := HK.out.cells; go_wp2_with fail; refine (HNU.out _).mono ?_; rintro e w3 ⟨rfl, hb3⟩; go_wp2_with fail; go_ret; exact ⟨rfl, HB.out.trans' hb3⟩
 ·rw [dF (fun h : May ⟨F, L, R, H, ks, ss⟩ p => c1 (may_parts.1 h).1)]
  have c1' : L7.mayBe p = false := by simpa using c1
  rw [c1'] at HSZ; clear hb hs hr hms c1 c1'; go_enter Tryz.func69, Tryz.ntmps69; go_wp2_with fail; refine (HSZ.out _ HS.out).mono ?_; rintro e w2 ⟨rfl, rfl⟩; go_wp2_with fail; go_ret; exact ⟨rfl, HB.out⟩
def fixedS (H : ByteArray) (ss : List ByteArray) : ByteArray := L9.textS (L5.headS ss) ++ L9.textS H
def cellAt (ks : List Int) (rs : List ByteArray) (i : Nat) : ByteArray := L9.kidS (ks.getD i 0).toNat (loAt ⟨#[]⟩ rs i)
def cellsS (ks : List Int) (ss : List ByteArray) : List ByteArray := List.zipWith (fun (k : Int) t => L9.kidS k.toNat t) ks (⟨#[]⟩ :: L5.bares ss)
theorem cellsS_length {ks : List Int} {ss : List ByteArray} (h : ks.length = ss.length + 1) : (cellsS ks ss).length = ks.length := by simp [cellsS, L5.bares_length, h]
theorem cells_range {ks : List Int} {ss : List ByteArray} (h : ks.length = ss.length + 1) : (List.range ks.length).map (cellAt ks (L5.bares ss)) = cellsS ks ss := by
 unfold cellsS; apply List.ext_getElem
 ·simp [L5.bares_length, h]
 ·intro i h1 h2
  have hi : i < ks.length := by simpa using h1
  have hb : i < ((⟨#[]⟩ : ByteArray) :: L5.bares ss).length := by simp [L5.bares_length]; omega
  rw [List.getElem_map, List.getElem_range]; unfold cellAt; rw [List.getElem_zipWith]
  have e1 : ks.getD i 0 = ks[i] := by rw [List.getD_eq_getElem?_getD, List.getElem?_eq_getElem hi]; rfl
  have e2 : loAt ⟨#[]⟩ (L5.bares ss) i = ((⟨#[]⟩ : ByteArray) :: L5.bares ss)[i] := by
   cases i with
   | zero => rfl
   | succ j =>
    have hj : j < (L5.bares ss).length := by simpa using hb
    show (L5.bares ss).getD j ⟨#[]⟩ = (L5.bares ss)[j]; rw [List.getD_eq_getElem?_getD, List.getElem?_eq_getElem hj]; rfl
  rw [e1, e2]
theorem bare_list (p : Nat) (s : ByteArray) : L5.B (L5.bare p s) = (L5.B s).drop p := by
 show (s.extract p s.size).data.toList = _; rw [Lib.extract_data, List.take_of_length_le (by simp)]
theorem bares_list (ss : List ByteArray) : L5.Bs (L5.bares ss) = (L5.Bs ss).map (List.drop (L5.EP.span (L5.Bs ss))) := by
 unfold L5.bares L5.Bs; rw [List.map_map, List.map_map]; exact List.map_congr_left fun s _ => bare_list _ s
theorem zip_list : ∀ (ks : List Int) (rs : List ByteArray), L5.Bs (List.zipWith (fun (k : Int) t => L9.kidS k.toNat t) ks rs) = cellsOf ks (L5.Bs rs)
 | [], _ => rfl
 | _ :: _, [] => rfl
 | k :: ks, r :: rs => by
  have ih := zip_list ks rs; unfold cellsOf at ih ⊢; show L5.B (L9.kidS k.toNat r) :: L5.Bs _ = L9.VP.cellK k.toNat (L5.B r) :: _; rw [ih]; rfl
theorem cellsS_list (ks : List Int) (ss : List ByteArray) : L5.Bs (cellsS ks ss) = cellsOf ks (rests ss) := by
 unfold cellsS; rw [zip_list]; show cellsOf ks ([] :: L5.Bs (L5.bares ss)) = _; rw [bares_list]; rfl
theorem head_com (ss : List ByteArray) : (L5.headS ss).data.toList = com ss := by
 cases ss with
 | nil => rfl
 | cons x l =>
  show (x.extract 0 (L5.sp (x :: l))).data.toList = (L5.B x).take _; rw [Lib.extract_data]; rfl
theorem fixedS_list (F L R : Int) (H : ByteArray) (ks : List Int) (ss : List ByteArray) : (fixedS H ss).data.toList = fixed ⟨F, L, R, H, ks, ss⟩ := by
 have h := head_com ss; simp only [fixedS, fixed, L9.textS, h]; simp
theorem size_eq (F L R : Int) (H : ByteArray) (ks : List Int) (ss : List ByteArray) : L8.LP.need (fixedS H ss).size (L5.Bs (cellsS ks ss)) = size ⟨F, L, R, H, ks, ss⟩ := by
 unfold size; rw [cellsS_list, ← fixedS_list F L R H ks ss]
 congr 1
structure Fit (H : ByteArray) (ks : List Int) (ss : List ByteArray) : Prop where
 few : ss.length ≤ 1000
 len : ks.length = ss.length + 1
 kids : ∀ k ∈ ks, KidOk k
 sep : ∀ s ∈ ss, s.size ≤ 128
 high : H.size ≤ 1000
theorem May.fit {F L R : Int} {H : ByteArray} {ks : List Int} {ss : List ByteArray} {p : Int} (h : May ⟨F, L, R, H, ks, ss⟩ p) (hn : ss.length ≤ 1000) : Fit H ks ss := by
 have hp := mayBe_le h.1; refine ⟨hn, h.2.2.1.1, h.2.2.1.2, fun s hs => ?_, ?_⟩
 ·have := (h.2.2.2.2.2 s hs).2
  omega
 ·by_cases h0 : R = 0
  ·rw [show H.size = 0 from h.2.2.2.1.1 h0]; omega
  ·have : (H.size : Int) ≤ p / 8 := (h.2.2.2.1.2 h0).2.1
   omega
theorem headS_size {ss : List ByteArray} (h : ∀ s ∈ ss, s.size ≤ 128) : (L5.headS ss).size ≤ 128 := by
 cases ss with
 | nil => exact Nat.zero_le _
 | cons x l =>
  have := h x (List.mem_cons_self); show (x.extract 0 _).size ≤ 128; simp; omega
theorem fixedS_size {H : ByteArray} {ks : List Int} {ss : List ByteArray} (hf : Fit H ks ss) : (fixedS H ss).size ≤ 1300 := by
 have z3 := headS_size hf.sep; have z4 := hf.high; have z1 := L9.textS_size (L5.headS ss) (by omega); have z2 := L9.textS_size H (by omega); unfold fixedS; simp only [ByteArray.size_append]; omega
theorem lo_size {rs : List ByteArray} (h : ∀ s ∈ rs, s.size ≤ 128) (i : Nat) : (loAt ⟨#[]⟩ rs i).size ≤ 128 := by
 cases i with
 | zero => exact Nat.zero_le _
 | succ j =>
  show (rs.getD j ⟨#[]⟩).size ≤ 128; rw [List.getD_eq_getElem?_getD]
  cases hj : rs[j]? with
  | none => exact Nat.zero_le _
  | some s => exact h s (List.mem_of_getElem? hj)
theorem bares_size {ss : List ByteArray} (h : ∀ s ∈ ss, s.size ≤ 128) : ∀ s ∈ L5.bares ss, s.size ≤ 128 := by
 intro s hs; obtain ⟨t, ht, rfl⟩ := List.mem_map.1 hs; have := h t ht; show (t.extract _ t.size).size ≤ 128; simp; omega
theorem kidS_size (k : Nat) (t : ByteArray) (h : t.size ≤ 128) : (L9.kidS k t).size ≤ 135 := by
 have h1 : (L9.kidS k t).data.toList.length = (L9.kidS k t).size := by simp
 have h2 : t.data.toList.length = t.size := by simp
 have h3 := cellK_few k t.data.toList (by omega)
 have e : (L9.kidS k t).data.toList = L9.VP.cellK k t.data.toList := by simp [L9.kidS]
 rw [← h1, e]; omega
theorem cellsS_size {H : ByteArray} {ks : List Int} {ss : List ByteArray} (hf : Fit H ks ss) : ∀ s ∈ cellsS ks ss, s.size ≤ 135 := by
 intro s hs; rw [← cells_range hf.len] at hs; obtain ⟨i, -, rfl⟩ := List.mem_map.1 hs; exact kidS_size _ _ (lo_size (bares_size hf.sep) i)
theorem putk_ok {k : Int} {t : ByteArray} (hk : KidOk k) (ht : t.size ≤ 128) : L9.putKV k t = .tuple #[.string (L9.kidS k.toNat t), .int .i64 0] := by
 unfold L9.putKV; unfold KidOk at hk
 have hl : t.data.toList.length = t.size := by simp
 rw [if_pos ⟨hk.1, hk.2, by omega⟩]
theorem NBx.own {t : TypeId} {g : Nat} {F L R : Int} {H : ByteArray} {A : Option Addr} {n ca : Nat} {C : Option Addr} {m cb : Nat} {X Y : World} {row : Option Nat} (h : NBx t g F L R H A n ca C m cb X) (hg : X.grownBy Y row) (hr : ∀ r, row = some r → ∃ o : Obj, X.heap[r]? = some o ∧ o.isCells = false) : NBx t g F L R H A n ca C m cb Y := by
 refine (hg.block g h.lt (fun e => ?_)).trans h; obtain ⟨o, ho, hc⟩ := hr g e.symm; unfold NBx at h; rw [h] at ho; cases ho; cases hc
section
variable {l n : Nat} {P : Program} {ops : Array Oper} {Q : Exit → Act → World → Prop} {md : Region.Mode} {S : World → Prop}
theorem rows_round {row : String} {args : Array Value} {w : World} {R : Value → World → Prop} (h : Rows P row args w R) : RowsIn (Fence.wide.inRound l) n P row args w R :=
 fun c cs _ => let ⟨v, w', r, s⟩ := h c cs; ⟨v, w', r, stepsIn_wide.2 s⟩
theorem calls_round {f : FuncId} {args : Array Value} {w : World} {R : Ending → World → Prop} (h : Calls P f args w R) : CallsIn (Fence.wide.inRound l) n P f args w R := CallsIn.inRound l (callsIn_wide.2 h)
theorem wp_round {o : Oper} {K : Act → World → Prop} {a : Act} {w : World} (hnd : ∀ c, o.op ≠ .defer c) (h : o.wp P a w K Q) : o.wpIn (Fence.wide.inRound l) n P a w K Q := by
 refine ⟨fun f _ => trivial, ?_⟩; rw [Oper.semAt_eq _ _ _ hnd]; unfold Oper.wp at h; generalize (execOp a.eval o).run P w = r at *
 cases r with
 | ok x w' =>
  cases x <;> simp only [Oper.upon, Oper.uponIn] at h ⊢ <;>
   first
    | exact h
    | exact ⟨fun h => (by cases h), calls_round h⟩
    | exact ⟨fun h => (by cases h), rows_round h⟩
 | halt x w' => cases x <;> simp only [Oper.upon, Oper.uponIn] at h ⊢ <;> exact h
theorem wpOp_round {i : Nat} {K : Act → World → Prop} {a : Act} {w : World} (hnd : ∀ o, ops[i]? = some o → ∀ c, o.op ≠ .defer c) (hQ : ¬ LetsOut Q) (h : wpOp P ops Q i K a w) : wpOpIn (Fence.wide.inRound l) n P ops Q i K a w := by
 unfold wpOp at h; unfold wpOpIn
 cases ho : ops[i]? with
 | none => rw [ho] at h; exact h
 | some o =>
  rw [ho] at h; simp only at h ⊢
  split
  ·rename_i hw
   rw [if_pos hw] at h; rcases h with h | h
   ·exact wp_round (hnd o ho) h
   ·exact absurd h.2 hQ
  ·rename_i hw
   rw [if_neg hw] at h; exact ⟨fun f _ => trivial, h⟩
theorem wpAny_round (hnd : ∀ (i : Nat) (o : Oper), ops[i]? = some o → ∀ c, o.op ≠ .defer c) (hQ : ¬ LetsOut Q) : ∀ (fuel : Nat) (listed : Array Bool) (a : Act) (w : World), wpAny P md ops Q fuel listed a w → wpAnyIn (Fence.wide.inRound l) n P md ops Q fuel listed a w
 | 0, _, _, _, h => h
 | fuel + 1, listed, a, w, h => ⟨h.1, fun i hi => wpOpIn_mono (fun a' w' h' => wpAny_round hnd hQ fuel _ a' w' h') (wpOp_round (hnd i) hQ (h.2 i hi))⟩
theorem rows_wideC {row : String} {args : Array Value} {w : World} {R : Value → World → Prop} (h : Rows P row args w R) : RowsIn Fence.wide n P row args w R :=
 fun c cs _ => let ⟨v, w', r, s⟩ := h c cs; ⟨v, w', r, stepsIn_wide.2 s⟩
theorem calls_wideC {f : FuncId} {args : Array Value} {w : World} {R : Ending → World → Prop} (h : Calls P f args w R) : CallsIn Fence.wide n P f args w R := callsIn_wide.2 h
theorem wp_wideC {o : Oper} {K : Act → World → Prop} {a : Act} {w : World} (hnd : ∀ c, o.op ≠ .defer c) (h : o.wp P a w K Q) : o.wpIn Fence.wide n P a w K Q := by
 refine ⟨fun f _ => trivial, ?_⟩; rw [Oper.semAt_eq _ _ _ hnd]; unfold Oper.wp at h; generalize (execOp a.eval o).run P w = r at *
 cases r with
 | ok x w' =>
  cases x <;> simp only [Oper.upon, Oper.uponIn] at h ⊢ <;>
   first
    | exact h
    | exact ⟨fun h => (by cases h), calls_wideC h⟩
    | exact ⟨fun h => (by cases h), rows_wideC h⟩
 | halt x w' => cases x <;> simp only [Oper.upon, Oper.uponIn] at h ⊢ <;> exact h
theorem wpOp_wideC {i : Nat} {K : Act → World → Prop} {a : Act} {w : World} (hnd : ∀ o, ops[i]? = some o → ∀ c, o.op ≠ .defer c) (hQ : ¬ LetsOut Q) (h : wpOp P ops Q i K a w) : wpOpIn Fence.wide n P ops Q i K a w := by
 unfold wpOp at h; unfold wpOpIn
 cases ho : ops[i]? with
 | none => rw [ho] at h; exact h
 | some o =>
  rw [ho] at h; simp only at h ⊢
  split
  ·rename_i hw
   rw [if_pos hw] at h; rcases h with h | h
   ·exact wp_wideC (hnd o ho) h
   ·exact absurd h.2 hQ
  ·rename_i hw
   rw [if_neg hw] at h; exact ⟨fun f _ => trivial, h⟩
theorem wpAny_wideC (hnd : ∀ (i : Nat) (o : Oper), ops[i]? = some o → ∀ c, o.op ≠ .defer c) (hQ : ¬ LetsOut Q) : ∀ (fuel : Nat) (listed : Array Bool) (a : Act) (w : World), wpAny P md ops Q fuel listed a w → wpAnyIn Fence.wide n P md ops Q fuel listed a w
 | 0, _, _, _, h => h
 | fuel + 1, listed, a, w, h => ⟨h.1, fun i hi => wpOpIn_mono (fun a' w' h' => wpAny_wideC hnd hQ fuel _ a' w' h') (wpOp_wideC (hnd i) hQ (h.2 i hi))⟩
def noDefer (ops : Array Oper) : Bool := ops.toList.all fun o => match o.op with | .defer _ => false | _ => true
theorem noDefer_spec (h : noDefer ops = true) : ∀ (i : Nat) (o : Oper), ops[i]? = some o → ∀ c, o.op ≠ .defer c := fun i o ho c e => by
 have h1 : o ∈ ops.toList := by rw [Array.mem_toList_iff]; exact Array.mem_of_getElem? ho
 have h2 := List.all_eq_true.1 h o h1; rw [e] at h2; cases h2
theorem wpIn_region_held {id : Nat} {a : Act} {w : World} (hm : P.follows .mixedOrders = true) (hnd : noDefer ops = true) (hQ : ¬ LetsOut Q) (hS : S w.drew)
  (h : S w.drew → wpAnyH P .any ops Q S ops.size (Array.replicate ops.size false) a w.drew) : (Code.region id ops true).wpIn (Fence.wide.inRound l) n P Q a w :=
 wpIn_region_any hm (wpAny_round (noDefer_spec hnd) hQ _ _ _ _ (wpAny_of_held _ _ _ _ (h hS)))
theorem wpIn_region_heldW {id : Nat} {a : Act} {w : World} (hm : P.follows .mixedOrders = true) (hnd : noDefer ops = true) (hQ : ¬ LetsOut Q) (hS : S w.drew)
  (h : S w.drew → wpAnyH P .any ops Q S ops.size (Array.replicate ops.size false) a w.drew) : (Code.region id ops true).wpIn Fence.wide n P Q a w :=
 wpIn_region_any hm (wpAny_wideC (noDefer_spec hnd) hQ _ _ _ _ (wpAny_of_held _ _ _ _ (h hS)))
end
theorem take_op {P : Program} {ops : Array Oper} {Q : Exit → Act → World → Prop} {md : Region.Mode} {S : World → Prop} {i : Nat} {oi : Oper} {d : Option Tmp} {v : Value} {fuel : Nat} {listed : Array Bool} {a : Act} {w : World} (hi : ops[i]? = some oi) (hd : oi.dst = d)
  (hs : Region.noSelect ops = true) (hf : Region.free md ops listed i = true) (hr : (Region.ready md ops listed).contains i = true)
  (hQ : ∀ c a w, Q (.panic c) (a.put d v) w → Q (.panic c) a w) (hy : YieldsIf P ops S oi v a) (hS : S w)
  (h : wpAnyH P md ops Q S fuel (listed.setIfInBounds i true) (a.put d v) w) : wpAnyH P md ops Q S (fuel + 1) listed a w := by
 subst hd; exact wpAnyH_take hi hs hf hr hQ hy hS h
end Go.Proofs.YtpeghilfldpgfaaGreatDoor.L11
