/-
  The walk of InnerTells. Written by wip/gen_itells.py.
-/
import Derived.Test.YtembccehokodeaaGreatDoorJIBack
import Derived.Test.YtembccehokodeaaGreatDoorJIDDec
import Derived.Test.YtembccehokodeaaGreatDoorJ07
import Derived.Test.YtembccehokodeaaGreatDoorJ06
import Derived.Deep.RegionHeld3
import Derived.BigQuiet
namespace Go.Proofs.YtembccehokodeaaGreatDoor
open Go.RowKit IP
set_option linter.unusedVariables false
set_option linter.unusedSimpArgs false

/-- What both Decodes answer: the same page, or none. -/
theorem dec_both (T : ByteArray) (hT : T.size ≤ 1100) : ∃ (F L R : Int) (H : ByteArray) (ks : List Int) (ss : List ByteArray) (n m : Nat) (c : Int), n ≤ 1000 ∧ m ≤ 1000 ∧
    (∀ W, L7.Sizes W → Calls Tryz.prog 13 #[.string T] W fun e w' => ∃ A ca C cb, e = .returned (.tuple #[nv F L R H A n ca C m cb, .int .i64 c]) ∧ Rows2 w' A n ca C m cb ks ss ∧ Below W.heap.size W w') ∧
    (∀ W, L7.Sizes W → Calls Tryz.prog 14 #[.string T] W fun e w' => ∃ A ca C cb, e = .returned (.tuple #[nv F L R H A n ca C m cb, .int .i64 c]) ∧ Rows2 w' A n ca C m cb ks ss ∧ Below W.heap.size W w') := by
  cases hX : dec T with
  | none =>
    have main : ∀ (W : World) (f : FuncId), (Calls Tryz.prog f #[.string T] W fun e w' => DecS T e w' ∧ Below W.heap.size W w') → Calls Tryz.prog f #[.string T] W fun e w' => ∃ A ca C cb, e = .returned (.tuple #[nv 0 0 0 ⟨#[]⟩ A 0 ca C 0 cb, .int .i64 3]) ∧ Rows2 w' A 0 ca C 0 cb [] [] ∧ Below W.heap.size W w' := fun W f h => h.mono fun e w' ⟨h1, h2⟩ => by
      rcases h1 with ⟨_, _, _, _, _, _, _, _, _, _, _, _, hm, _⟩ | ⟨_, rfl⟩
      · rw [hX] at hm; exact nomatch hm
      · exact ⟨none, 0, none, 0, rfl, Rows2.empty _, h2⟩
    exact ⟨0, 0, 0, ⟨#[]⟩, [], [], 0, 0, 3, by omega, by omega, fun W h => main W _ (dec_any T W h (by omega)), fun W h => main W _ (rdec_any T W h (by omega))⟩
  | some Y =>
    obtain ⟨F, L, R, H, ks, ss⟩ := Y
    obtain ⟨e1, e2, e3, e4, e5, e6⟩ := dec_facts hX
    simp only at e3 e4
    have main : ∀ (W : World) (f : FuncId), (Calls Tryz.prog f #[.string T] W fun e w' => DecS T e w' ∧ Below W.heap.size W w') → Calls Tryz.prog f #[.string T] W fun e w' => ∃ A ca C cb, e = .returned (.tuple #[nv F L R H A ks.length ca C ss.length cb, .int .i64 0]) ∧ Rows2 w' A ks.length ca C ss.length cb ks ss ∧ Below W.heap.size W w' := fun W f h => h.mono fun e w' ⟨h1, h2⟩ => by
      rcases h1 with ⟨F', L', R', H', A, n, ca, C, m, cb, ks', ss', hm, rfl, hL⟩ | ⟨h1, _⟩
      · rw [hX] at hm
        obtain ⟨rfl, rfl, rfl, rfl, rfl, rfl⟩ := Inn.mk.inj (Option.some.inj hm)
        obtain rfl := hL.nk
        obtain rfl := hL.nm
        exact ⟨A, ca, C, cb, rfl, hL, h2⟩
      · rw [hX] at h1; exact nomatch h1
    exact ⟨F, L, R, H, ks, ss, ks.length, ss.length, 0, by omega, by omega, fun W h => main W _ (dec_any T W h (by omega)), fun W h => main W _ (rdec_any T W h (by omega))⟩
/-- A page with a key and a kid, in its box. -/
def PBx (t : TypeId) (g : Nat) (s k : ByteArray) (i : Int) (w : World) : Prop := w.heap[g]? = some (.cells #[.string s, .string k, .int .i64 i] t (0, 0))
theorem PBx.cells {t : TypeId} {g : Nat} {s k : ByteArray} {i : Int} {w : World} (h : PBx t g s k i w) : w.cell? ⟨g, 0, none⟩ = some (.string s) ∧ w.cell? ⟨g, 1, none⟩ = some (.string k) ∧ w.cell? ⟨g, 2, none⟩ = some (.int .i64 i) := by
  unfold PBx at h
  refine ⟨?_, ?_, ?_⟩ <;> simp [World.cell?, h]
theorem PBx.lt {t : TypeId} {g : Nat} {s k : ByteArray} {i : Int} {w : World} (h : PBx t g s k i w) : g < w.heap.size := (Array.getElem?_eq_some_iff.1 h).1
theorem PBx.below {t : TypeId} {g : Nat} {s k : ByteArray} {i : Int} {w w' : World} (h : PBx t g s k i w) (b : Below w.heap.size w w') : PBx t g s k i w' := (b.block g h.lt).trans h
theorem PBx.on {t : TypeId} {g : Nat} {s k : ByteArray} {i : Int} {w w' : World} {c : Nat} (h : PBx t g s k i w) (b : Below c w w') (hg : g < c) : PBx t g s k i w' := (b.block g hg).trans h
theorem PBx.setN {t : TypeId} {g q : Nat} {s k : ByteArray} {i : Int} {w : World} (h : PBx t g s k i w) (hq : g ≠ q) (F L R : Int) (H : ByteArray) (A : Option Addr) (n ca : Nat) (C : Option Addr) (m cb : Nat) : PBx t g s k i (setN w q F L R H A n ca C m cb) := (setN_other hq F L R H A n ca C m cb).trans h
theorem ends_form (low : ByteArray) (ss : List ByteArray) (H : ByteArray) (n m : Nat) (R i : Int) : ∃ a b d, endsV low ss H n m R i = .tuple #[.string a, .string b, .bool d] := by
  unfold endsV
  split
  · exact ⟨_, _, _, rfl⟩
  · exact ⟨_, _, _, rfl⟩
theorem tells_share1 {G : Prop} {A T : World → Prop} (main : (∀ U, A U → T U) → G) (tail : ∀ U, A U → T U) : G := main tail
set_option maxHeartbeats 4000000 in
set_option maxRecDepth 100000 in
theorem innerTells_any (hfx : Fixes) (F L R : Int) (H : ByteArray) (A : Option Addr) (n ca : Nat) (C : Option Addr) (m cb : Nat) (ks : List Int) (ss : List ByteArray) (p : Int) (s0 y0 : ByteArray) (ix : Int) (w : World) (hg : L7.Sizes w) (hr : Rows2 w A n ca C m cb ks ss) (hn : n ≤ maxLen) (hca : ca ≤ maxLen) (hm : m ≤ maxLen) (hH : H.size ≤ maxLen) (hs : ∀ s ∈ ss, s.size ≤ maxLen) (hss : s0.size ≤ maxLen) (hys : y0.size ≤ maxLen) (hpw : (Lit.int .i64 p).wf = true) (hiw : (Lit.int .i64 ix).wf = true) :
    Calls Tryz.prog 3 #[nv F L R H A n ca C m cb, .int .i64 p, .agg #[.string s0, .string y0, .int .i64 ix]] w fun e w' => e = .returned (.bool true) ∧ Below w.heap.size w w' := by
  have hb0 := nbox_below 25 F L R H A n ca C m cb w
  have hsz1 := nbox_size 25 F L R H A n ca C m cb w
  have hb1 := hb0.trans' (L5.below_alloc (nbox 25 F L R H A n ca C m cb w) (.cells #[.string s0, .string y0, .int .i64 ix] 27))
  have hsz0 : ((nbox 25 F L R H A n ca C m cb w).alloc (.cells #[.string s0, .string y0, .int .i64 ix] 27)).heap.size = w.heap.size + 1 + 1 := by simp [nbox]
  have HB0 := Lib.hid hb1
  have HK0 := Lib.hid ((nbox_new 25 F L R H A n ca C m cb w).below (L5.below_alloc _ (.cells #[.string s0, .string y0, .int .i64 ix] 27)))
  have HP0 : Hid (PBx 27 (w.heap.size + 1) s0 y0 ix ((nbox 25 F L R H A n ca C m cb w).alloc (.cells #[.string s0, .string y0, .int .i64 ix] 27))) := Lib.hid (by have h := heap_alloc_new (nbox 25 F L R H A n ca C m cb w) (.cells #[.string s0, .string y0, .int .i64 ix] 27); rw [hsz1] at h; exact h)
  have HFX := Lib.hid hfx
  have HG0 := Lib.hid hg
  have HC := Lib.hid (cutR_any F L R H A n ca C m cb ks ss _ (hr.on hb1) hn hca hm hH hs)
  obtain ⟨HH, hHH⟩ : ∃ HH, cutH H = HH := ⟨_, rfl⟩
  obtain ⟨K1, hK1⟩ : ∃ K1, ks.take 30 = K1 := ⟨_, rfl⟩
  obtain ⟨S1, hS1⟩ : ∃ S1, cutSs ss = S1 := ⟨_, rfl⟩
  obtain ⟨kn, hkn⟩ : ∃ kn, min 30 n = kn := ⟨_, rfl⟩
  obtain ⟨mn, hmn⟩ : ∃ mn, min 30 m = mn := ⟨_, rfl⟩
  have hK1n : K1.length = kn := by rw [← hK1, List.length_take, hr.nk, hkn]
  have hS1n : S1.length = mn := by rw [← hS1, cutSs_length, hr.nm, hmn]
  have hHHs : HH.size ≤ 140 := by rw [← hHH]; exact cutH_size H
  have HS1s : Hid (∀ s ∈ S1, s.size ≤ 140) := Lib.hid (by rw [← hS1]; exact cutSs_size ss)
  rw [hHH, hK1, hS1, hkn, hmn] at HC
  have hk30 : kn ≤ 30 := by omega
  have hm30 : mn ≤ 30 := by omega
  simp only [nbox] at HC HB0 HK0 HP0 hsz0
  clear hb0 hb1 hsz1 hr hs hn hca hm hg hfx hH hHH hK1 hS1 hkn hmn
  obtain ⟨m1, hm1, hm2, hm3⟩ := cut_1100 s0
  obtain ⟨T, hT⟩ : ∃ T, s0.extract 0 m1 = T := ⟨_, rfl⟩
  have hT2 : T.size ≤ 1100 := by rw [← hT, ByteArray.size_extract]; omega
  obtain ⟨m2, hm4, hm5, hm6⟩ := cut_60 y0
  obtain ⟨Y, hY⟩ : ∃ Y, y0.extract 0 m2 = Y := ⟨_, rfl⟩
  have hY2 : Y.size ≤ 60 := by rw [← hY, ByteArray.size_extract]; omega
  unfold maxLen at hss hys
  obtain ⟨F', L', R', H', ks', ss', n', m', cd, hn', hm', HD1, HD2⟩ := dec_both T hT2
  replace HD1 := Lib.hid HD1
  replace HD2 := Lib.hid HD2
  obtain ⟨S, c, he⟩ : ∃ S c, enc ⟨F, L, R, HH, K1, S1⟩ p = (S, c) := ⟨_, _, rfl⟩
  have HE := Lib.hid (fun A gc D dc W (h : L7.Sizes W) (h2 : Rows2 W A kn gc D mn dc K1 S1) => encT F L R HH A kn gc D mn dc K1 S1 p S c he (by omega) (by omega) W h h2)
  have HSM : Hid (∀ s ∈ S1, s.size ≤ maxLen) := Lib.hid (fun s h => by have := HS1s.out s h; unfold maxLen; omega)
  have HRE := Lib.hid (fun A gc D dc W (h2 : Rows2 W A kn gc D mn dc K1 S1) => renc_any F L R HH A kn gc D mn dc K1 S1 p W h2 (by omega) (by omega) (by omega) HSM.out hpw)
  rw [encV, he] at HRE
  have HM := Lib.hid (fun A gc D dc W (h : L7.Sizes W) (h2 : Rows2 W A kn gc D mn dc K1 S1) => may_any F L R HH A kn gc D mn dc K1 S1 p W h h2 (by omega) (by omega))
  have HRM := Lib.hid (fun A gc D dc W (h2 : Rows2 W A kn gc D mn dc K1 S1) => rmay_any F L R HH A kn gc D mn dc K1 S1 p W h2 (by omega) (by omega) (by omega) HSM.out)
  obtain ⟨sb, hsb⟩ : ∃ sb, decide ((⟨F, L, R, HH, K1, S1⟩ : Inn) = ⟨F', L', R', H', ks', ss'⟩) = sb := ⟨_, rfl⟩
  have HSXY := Lib.hid (fun A c1 D c2 A' c3 D' c4 W (h1 : Rows2 W A kn c1 D mn c2 K1 S1) (h2 : Rows2 W A' n' c3 D' m' c4 ks' ss') => same_any F L R HH A kn c1 D mn c2 K1 S1 F' L' R' H' A' n' c3 D' m' c4 ks' ss' W h1 h2 (by omega) (by omega) (by omega) (by omega))
  have HRXZ := Lib.hid (fun A c1 D c2 A' c3 D' c4 W (h1 : Rows2 W A kn c1 D mn c2 K1 S1) (h2 : Rows2 W A' n' c3 D' m' c4 ks' ss') => rsame_any F L R HH A kn c1 D mn c2 K1 S1 F' L' R' H' A' n' c3 D' m' c4 ks' ss' W h1 h2 (by omega) (by omega) (by omega) (by omega))
  have HRYZ := Lib.hid (fun A c1 D c2 A' c3 D' c4 W (h1 : Rows2 W A n' c1 D m' c2 ks' ss') (h2 : Rows2 W A' n' c3 D' m' c4 ks' ss') => rsame_any F' L' R' H' A n' c1 D m' c2 ks' ss' F' L' R' H' A' n' c3 D' m' c4 ks' ss' W h1 h2 (by omega) (by omega) (by omega) (by omega))
  rw [hsb] at HSXY HRXZ
  rw [decide_eq_true rfl] at HRYZ
  have hzS := text_yes (rfl : S = S)
  have hcc : (c == c) = true := beq_self_eq_true _
  have hdd : (cd == cd) = true := beq_self_eq_true _
  have hbb : (sb == sb) = true := beq_self_eq_true _
  obtain ⟨p0, p1, p2⟩ := HP0.out.cells
  obtain ⟨c0, c1, c2, c3, c4, c5⟩ := HK0.out.cells
  clear he hsb
  obtain ⟨mb, hmb⟩ : ∃ mb, decide (May ⟨F, L, R, HH, K1, S1⟩ p) = mb := ⟨_, rfl⟩
  rw [hmb] at HM HRM
  have hmm : (mb == mb) = true := beq_self_eq_true _
  have HMB := Lib.hid hmb
  have HK1N := Lib.hid hK1n
  have HS1N := Lib.hid hS1n
  clear hmb
  go_enter Tryz.func3, Tryz.ntmps3
  go_wp2_with fail
  refine HC.out.mono ?_
  rintro e V ⟨G, gc, D, dc, rfl, hG, hD, hrw, hb⟩
  clear c0 c1 c2 c3 c4 c5 p0 p1 p2
  have HK1 := Lib.hid (HK0.out.below hb)
  have HP := Lib.hid (HP0.out.below hb)
  have HB1 := Lib.hid (HB0.out.trans' hb)
  have hGn : ∀ a, some (⟨G, 0, none⟩ : Addr) = some a → a.block ≠ w.heap.size := fun a e => by
    obtain rfl := Option.some.inj e
    rw [hsz0] at hG
    show G ≠ _
    omega
  have hDn : ∀ a, some (⟨D, 0, none⟩ : Addr) = some a → a.block ≠ w.heap.size := fun a e => by
    obtain rfl := Option.some.inj e
    rw [hsz0] at hD
    show D ≠ _
    omega
  obtain ⟨c0, c1, c2, c3, c4, c5⟩ := HK1.out.cells
  obtain ⟨f0, f1, f2, f3, f4, f5⟩ := HK1.out.free
  have HX := Lib.hid (show NR 25 w.heap.size F L R HH (some ⟨G, 0, none⟩) kn gc (some ⟨D, 0, none⟩) mn dc K1 S1 (setN V w.heap.size F L R HH (some ⟨G, 0, none⟩) kn gc (some ⟨D, 0, none⟩) mn dc) from ⟨setN_box HK1.out F L R HH (some ⟨G, 0, none⟩) kn gc (some ⟨D, 0, none⟩) mn dc, hrw.stored hGn hDn F L R HH (some ⟨G, 0, none⟩) kn gc (some ⟨D, 0, none⟩) mn dc⟩)
  have HP := Lib.hid (HP.out.setN (show w.heap.size + 1 ≠ w.heap.size by omega) F L R HH (some ⟨G, 0, none⟩) kn gc (some ⟨D, 0, none⟩) mn dc)
  have HB := Lib.hid (setN_below HB1.out (Nat.le_refl _) F L R HH (some ⟨G, 0, none⟩) kn gc (some ⟨D, 0, none⟩) mn dc)
  have HG := Lib.hid (HG0.out.below HG0.out.lt HB.out)
  have hck := hrw.ck
  have hcm := hrw.cm
  unfold setN at HX HB HG HP
  obtain ⟨r0, r1, r2, r3, r4, r5⟩ := HX.out.box.cells
  obtain ⟨p0, p1, p2⟩ := HP.out.cells
  clear hb hrw HK1 HB1 hGn hDn HC hG hD
  go_wp2_with fail
  clear c0 c1 c2 c3 c4 c5 f0 f1 f2 f3 f4 f5 r0 r1 r2 r3 r4 r5
  generalize ((((((V.setCell ⟨w.heap.size, 0, none⟩ (.int .i64 F)).setCell ⟨w.heap.size, 1, none⟩ (.int .i64 L)).setCell ⟨w.heap.size, 2, none⟩ (.int .i64 R)).setCell ⟨w.heap.size, 3, none⟩ (.string HH)).setCell ⟨w.heap.size, 4, none⟩ (.slice (some ⟨G, 0, none⟩) kn gc)).setCell ⟨w.heap.size, 5, none⟩ (.slice (some ⟨D, 0, none⟩) mn dc)) = W2 at *
  go_quiet (fail)
  have hb : Below W2.heap.size W2 (W2.drewN nq) := L5.below_drewN (Below.refl _ W2) nq
  replace HB := Lib.hid (HB.out.trans' hb)
  replace HG := Lib.hid (HG0.out.below HG0.out.lt HB.out)
  replace HX := Lib.hid (HX.out.on hb)
  replace HP := Lib.hid (HP.out.below hb)
  clear hb p0 p1 p2
  obtain ⟨p0, p1, p2⟩ := HP.out.cells
  obtain ⟨c0, c1, c2, c3, c4, c5⟩ := HX.out.box.cells
  generalize W2.drewN nq = W3 at *
  go_wp2_with fail
  (try rw [hT])
  (try rw [hY])
  refine (HE.out _ gc _ dc _ HG.out HX.out.rows).mono ?_
  rintro e V1 ⟨rfl, hb⟩
  replace HB := Lib.hid (HB.out.trans' hb)
  replace HG := Lib.hid (HG0.out.below HG0.out.lt HB.out)
  replace HX := Lib.hid (HX.out.on hb)
  replace HP := Lib.hid (HP.out.below hb)
  clear hb HE p0 p1 p2 c0 c1 c2 c3 c4 c5
  obtain ⟨c0, c1, c2, c3, c4, c5⟩ := HX.out.box.cells
  go_wp2_with fail
  refine (ref_any _ _ _ _ _ _ _ _ _ _ _).mono ?_
  rintro e V2 ⟨rfl, hb⟩
  replace HB := Lib.hid (HB.out.trans' hb)
  replace HG := Lib.hid (HG0.out.below HG0.out.lt HB.out)
  replace HX := Lib.hid (HX.out.on hb)
  replace HP := Lib.hid (HP.out.below hb)
  clear hb c0 c1 c2 c3 c4 c5
  go_wp2_with fail
  refine (HRE.out _ gc _ dc _ HX.out.rows).mono ?_
  rintro e V3 ⟨rfl, hb⟩
  replace HB := Lib.hid (HB.out.trans' hb)
  replace HG := Lib.hid (HG0.out.below HG0.out.lt HB.out)
  replace HX := Lib.hid (HX.out.on hb)
  replace HP := Lib.hid (HP.out.below hb)
  clear hb HRE
  go_wp2_with fail
  refine (HD1.out _ HG.out).mono ?_
  rintro e V4 ⟨AY, cY, CY, dY, rfl, hLY, hb⟩
  have HY := Lib.hid (NR.new (t := 25) (F := F') (L := L') (R := R') (H := H') hLY)
  have hb := hb.trans' (nbox_below 25 F' L' R' H' AY n' cY CY m' dY V4)
  replace HB := Lib.hid (HB.out.trans' hb)
  replace HG := Lib.hid (HG0.out.below HG0.out.lt HB.out)
  replace HX := Lib.hid (HX.out.on hb)
  replace HP := Lib.hid (HP.out.below hb)
  clear hb
  simp only [nbox] at HB HG HY HX HP
  clear hLY HD1
  go_wp2_with fail
  generalize V4.alloc (.cells #[.int .i64 F', .int .i64 L', .int .i64 R', .string H', .slice AY n' cY, .slice CY m' dY] 25) = V5 at *
  generalize V4.heap.size = bY at *
  refine (HD2.out _ HG.out).mono ?_
  rintro e V6 ⟨AZ, cZ, CZ, dZ, rfl, hLZ, hb⟩
  have HZ := Lib.hid (NR.new (t := 33) (F := F') (L := L') (R := R') (H := H') hLZ)
  have hb := hb.trans' (nbox_below 33 F' L' R' H' AZ n' cZ CZ m' dZ V6)
  replace HB := Lib.hid (HB.out.trans' hb)
  replace HG := Lib.hid (HG0.out.below HG0.out.lt HB.out)
  replace HX := Lib.hid (HX.out.on hb)
  replace HP := Lib.hid (HP.out.below hb)
  replace HY := Lib.hid (HY.out.on hb)
  clear hb
  simp only [nbox] at HB HG HZ HX HP HY
  clear hLZ HD2
  go_wp2_with fail
  generalize V6.alloc (.cells #[.int .i64 F', .int .i64 L', .int .i64 R', .string H', .slice AZ n' cZ, .slice CZ m' dZ] 33) = D7 at *
  generalize V6.heap.size = bZ at *
  apply tells_share1 (A := fun U => Below D7.heap.size D7 U)
  · intro J0
    have J := Lib.hid J0
    clear J0
    have HST : Hid (∀ V, Below D7.heap.size D7 V → (Hid (Below D7.heap.size D7 V) ∧ V.cell? ⟨w.heap.size, 0, none⟩ = some (.int .i64 F) ∧ V.cell? ⟨w.heap.size, 1, none⟩ = some (.int .i64 L) ∧ V.cell? ⟨w.heap.size, 2, none⟩ = some (.int .i64 R) ∧ V.cell? ⟨w.heap.size, 3, none⟩ = some (.string HH) ∧ V.cell? ⟨w.heap.size, 4, none⟩ = some (.slice (some ⟨G, 0, none⟩) kn gc) ∧ V.cell? ⟨w.heap.size, 5, none⟩ = some (.slice (some ⟨D, 0, none⟩) mn dc) ∧ V.cell? ⟨bY, 0, none⟩ = some (.int .i64 F') ∧ V.cell? ⟨bY, 1, none⟩ = some (.int .i64 L') ∧ V.cell? ⟨bY, 2, none⟩ = some (.int .i64 R') ∧ V.cell? ⟨bY, 3, none⟩ = some (.string H') ∧ V.cell? ⟨bY, 4, none⟩ = some (.slice AY n' cY) ∧ V.cell? ⟨bY, 5, none⟩ = some (.slice CY m' dY) ∧ V.cell? ⟨bZ, 0, none⟩ = some (.int .i64 F') ∧ V.cell? ⟨bZ, 1, none⟩ = some (.int .i64 L') ∧ V.cell? ⟨bZ, 2, none⟩ = some (.int .i64 R') ∧ V.cell? ⟨bZ, 3, none⟩ = some (.string H') ∧ V.cell? ⟨bZ, 4, none⟩ = some (.slice AZ n' cZ) ∧ V.cell? ⟨bZ, 5, none⟩ = some (.slice CZ m' dZ))) := Lib.hid (fun V hb => by
      obtain ⟨a0, a1, a2, a3, a4, a5⟩ := (HX.out.box.below hb).cells
      obtain ⟨b0, b1, b2, b3, b4, b5⟩ := (HY.out.box.below hb).cells
      obtain ⟨d0, d1, d2, d3, d4, d5⟩ := (HZ.out.box.below hb).cells
      exact ⟨Lib.hid hb, a0, a1, a2, a3, a4, a5, b0, b1, b2, b3, b4, b5, d0, d1, d2, d3, d4, d5⟩)
    have HRX : Hid (∀ V (X : Prop), (Hid (Below D7.heap.size D7 V) ∧ X) → Rows2 V (some ⟨G, 0, none⟩) kn gc (some ⟨D, 0, none⟩) mn dc K1 S1) := Lib.hid (fun V X h => HX.out.rows.on h.1.out)
    have HRY : Hid (∀ V (X : Prop), (Hid (Below D7.heap.size D7 V) ∧ X) → Rows2 V AY n' cY CY m' dY ks' ss') := Lib.hid (fun V X h => HY.out.rows.on h.1.out)
    have HRZ : Hid (∀ V (X : Prop), (Hid (Below D7.heap.size D7 V) ∧ X) → Rows2 V AZ n' cZ CZ m' dZ ks' ss') := Lib.hid (fun V X h => HZ.out.rows.on h.1.out)
    have HSZ : Hid (∀ V (X : Prop), (Hid (Below D7.heap.size D7 V) ∧ X) → L7.Sizes V) := Lib.hid (fun V X h => HG.out.below HG.out.lt h.1.out)
    have hSd := HST.out _ (L5.below_drewN (Below.refl _ D7) 1)
    go_region_held3 (fun V => Hid (Below D7.heap.size D7 V) ∧ V.cell? ⟨w.heap.size, 0, none⟩ = some (.int .i64 F) ∧ V.cell? ⟨w.heap.size, 1, none⟩ = some (.int .i64 L) ∧ V.cell? ⟨w.heap.size, 2, none⟩ = some (.int .i64 R) ∧ V.cell? ⟨w.heap.size, 3, none⟩ = some (.string HH) ∧ V.cell? ⟨w.heap.size, 4, none⟩ = some (.slice (some ⟨G, 0, none⟩) kn gc) ∧ V.cell? ⟨w.heap.size, 5, none⟩ = some (.slice (some ⟨D, 0, none⟩) mn dc) ∧ V.cell? ⟨bY, 0, none⟩ = some (.int .i64 F') ∧ V.cell? ⟨bY, 1, none⟩ = some (.int .i64 L') ∧ V.cell? ⟨bY, 2, none⟩ = some (.int .i64 R') ∧ V.cell? ⟨bY, 3, none⟩ = some (.string H') ∧ V.cell? ⟨bY, 4, none⟩ = some (.slice AY n' cY) ∧ V.cell? ⟨bY, 5, none⟩ = some (.slice CY m' dY) ∧ V.cell? ⟨bZ, 0, none⟩ = some (.int .i64 F') ∧ V.cell? ⟨bZ, 1, none⟩ = some (.int .i64 L') ∧ V.cell? ⟨bZ, 2, none⟩ = some (.int .i64 R') ∧ V.cell? ⟨bZ, 3, none⟩ = some (.string H') ∧ V.cell? ⟨bZ, 4, none⟩ = some (.slice AZ n' cZ) ∧ V.cell? ⟨bZ, 5, none⟩ = some (.slice CZ m' dZ))
      (first | assumption | exact hSd)
      (first
        | (go_at_call 12; refine (ref_any _ _ _ _ _ _ _ _ _ _ _).mono ?_; rintro e V ⟨rfl, hb⟩; have HBV := Lib.hid ((by assumption : Hid (Below D7.heap.size D7 _) ∧ _).1.out.trans' hb); have hSn := HST.out _ HBV.out; clear hb)
        | (go_at_call 15; refine (HM.out _ gc _ dc _ (HSZ.out _ _ (by assumption)) (HRX.out _ _ (by assumption))).mono ?_; rintro e V ⟨rfl, hb⟩; have HBV := Lib.hid ((by assumption : Hid (Below D7.heap.size D7 _) ∧ _).1.out.trans' hb); have hSn := HST.out _ HBV.out; clear hb)
        | (go_at_call 16; refine (HRM.out _ gc _ dc _ (HRX.out _ _ (by assumption))).mono ?_; rintro e V ⟨rfl, hb⟩; have HBV := Lib.hid ((by assumption : Hid (Below D7.heap.size D7 _) ∧ _).1.out.trans' hb); have hSn := HST.out _ HBV.out; clear hb)
        | (go_at_call 17; refine (HSXY.out _ _ _ _ _ _ _ _ _ (HRX.out _ _ (by assumption)) (HRY.out _ _ (by assumption))).mono ?_; rintro e V ⟨rfl, hb⟩; have HBV := Lib.hid ((by assumption : Hid (Below D7.heap.size D7 _) ∧ _).1.out.trans' hb); have hSn := HST.out _ HBV.out; clear hb)
        | (go_at_call 18; refine Calls.mono (fit (HRXZ.out _ _ _ _ _ _ _ _ _ (HRX.out _ _ (by assumption)) (HRZ.out _ _ (by assumption))) (by rfl)) ?_; rintro e V ⟨rfl, hb⟩; have HBV := Lib.hid ((by assumption : Hid (Below D7.heap.size D7 _) ∧ _).1.out.trans' hb); have hSn := HST.out _ HBV.out; clear hb)
        | (go_at_call 18; refine Calls.mono (fit (HRYZ.out _ _ _ _ _ _ _ _ _ (HRY.out _ _ (by assumption)) (HRZ.out _ _ (by assumption))) (by rfl)) ?_; rintro e V ⟨rfl, hb⟩; have HBV := Lib.hid ((by assumption : Hid (Below D7.heap.size D7 _) ∧ _).1.out.trans' hb); have hSn := HST.out _ HBV.out; clear hb)
        | fail "no arm")
    exact J.out _ HBV.out
  rintro D8 hb
  replace HB := Lib.hid (HB.out.trans' hb)
  replace HG := Lib.hid (HG0.out.below HG0.out.lt HB.out)
  replace HX := Lib.hid (HX.out.on hb)
  replace HP := Lib.hid (HP.out.below hb)
  clear hb
  clear HY HZ
  obtain ⟨c0, c1, c2, c3, c4, c5⟩ := HX.out.box.cells
  go_wp2_with fail
  refine (ref_any _ _ _ _ _ _ _ _ _ _ _).mono ?_
  rintro e V2 ⟨rfl, hb⟩
  replace HB := Lib.hid (HB.out.trans' hb)
  replace HG := Lib.hid (HG0.out.below HG0.out.lt HB.out)
  replace HX := Lib.hid (HX.out.on hb)
  replace HP := Lib.hid (HP.out.below hb)
  clear hb c0 c1 c2 c3 c4 c5
  go_wp2_with fail
  refine (HRM.out _ gc _ dc _ HX.out.rows).mono ?_
  rintro e V3 ⟨rfl, hb⟩
  replace HB := Lib.hid (HB.out.trans' hb)
  replace HG := Lib.hid (HG0.out.below HG0.out.lt HB.out)
  replace HX := Lib.hid (HX.out.on hb)
  replace HP := Lib.hid (HP.out.below hb)
  clear hb
  obtain ⟨c0, c1, c2, c3, c4, c5⟩ := HX.out.box.cells
  obtain ⟨p0, p1, p2⟩ := HP.out.cells
  cases mb with
  | false =>
    go_wp2_with fail
    refine (HFX.out _ HG.out).mono ?_
    rintro e V9 ⟨rfl, hb⟩
    go_wp2_with fail
    go_ret
    exact ⟨rfl, HB.out.trans' hb⟩
  | true =>
    have hmay := of_decide_eq_true HMB.out
    have HKM : Hid (kn = mn + 1) := Lib.hid (by have h := hmay.2.2.1.1; have h1 := HK1N.out; have h2 := HS1N.out; simp only at h; omega)
    have HRI : Hid (Rise S1) := Lib.hid hmay.2.2.2.2.1
    have hf := Lib.hid (May.fit hmay (by have := HS1N.out; omega))
    obtain ⟨ea, eb, ed, hen⟩ := ends_form Y S1 HH kn mn R ix
    have HEN := Lib.hid (fun A gc dd dc W (h2 : Rows2 W A kn gc (some dd) mn dc K1 S1) => endsC_any F L R HH A kn gc (some dd) mn dc S1 Y ix W h2.seps (fun h => nomatch h) HKM.out HS1N.out h2.cm (by omega) (fun s h => by have := HS1s.out s h; omega) (by omega) (by omega))
    have HRN := Lib.hid (fun A gc D dc W (h2 : Rows2 W A kn gc D mn dc K1 S1) => rends_any F L R HH A kn gc D mn dc S1 Y ix W h2.seps HKM.out HS1N.out (by omega) hiw)
    rw [hen] at HEN HRN
    have HRT := Lib.hid (fun A gc D dc W (h2 : Rows2 W A kn gc D mn dc K1 S1) => route_any F L R HH A kn gc D mn dc S1 Y W h2.seps HS1N.out (by omega))
    have HRR := Lib.hid (fun A gc D dc W (h2 : Rows2 W A kn gc D mn dc K1 S1) => rroute_any F L R HH A kn gc D mn dc S1 Y W h2.seps HS1N.out (by omega) HRI.out)
    have HZ1 := Lib.hid (fun A gc D dc W (h2 : Rows2 W A kn gc D mn dc K1 S1) => nsize_any F L R HH A kn gc D mn dc K1 S1 W h2 hf.out)
    have HZ2 := Lib.hid (fun A gc D dc W (h2 : Rows2 W A kn gc D mn dc K1 S1) => rsize_any F L R HH A kn gc D mn dc K1 S1 W h2 hf.out)
    generalize size ⟨F, L, R, HH, K1, S1⟩ = zz at *
    generalize notAbove Y S1 = ra at *
    have hza := text_yes (rfl : ea = ea)
    have hzb := text_yes (rfl : eb = eb)
    have hzd : (ed == ed) = true := beq_self_eq_true _
    have hzz : ((zz : Int) == (zz : Int)) = true := beq_self_eq_true _
    have hra : ((ra : Int) == (ra : Int)) = true := beq_self_eq_true _
    clear hmay hen
    go_wp2_with fail
    refine (HEN.out _ gc _ dc _ HX.out.rows).mono ?_
    rintro e D10 ⟨rfl, hb⟩
    replace HB := Lib.hid (HB.out.trans' hb)
    replace HG := Lib.hid (HG0.out.below HG0.out.lt HB.out)
    replace HX := Lib.hid (HX.out.on hb)
    replace HP := Lib.hid (HP.out.below hb)
    clear hb c0 c1 c2 c3 c4 c5 p0 p1 p2
    go_wp2_with fail
    apply tells_share1 (A := fun U => Below D10.heap.size D10 U)
    · intro J0
      have J := Lib.hid J0
      clear J0
      have HST : Hid (∀ V, Below D10.heap.size D10 V → (Hid (Below D10.heap.size D10 V) ∧ V.cell? ⟨w.heap.size, 0, none⟩ = some (.int .i64 F) ∧ V.cell? ⟨w.heap.size, 1, none⟩ = some (.int .i64 L) ∧ V.cell? ⟨w.heap.size, 2, none⟩ = some (.int .i64 R) ∧ V.cell? ⟨w.heap.size, 3, none⟩ = some (.string HH) ∧ V.cell? ⟨w.heap.size, 4, none⟩ = some (.slice (some ⟨G, 0, none⟩) kn gc) ∧ V.cell? ⟨w.heap.size, 5, none⟩ = some (.slice (some ⟨D, 0, none⟩) mn dc) ∧ V.cell? ⟨w.heap.size + 1, 2, none⟩ = some (.int .i64 ix))) := Lib.hid (fun V hb => by
        obtain ⟨a0, a1, a2, a3, a4, a5⟩ := (HX.out.box.below hb).cells
        obtain ⟨b0, b1, b2⟩ := (HP.out.below hb).cells
        exact ⟨Lib.hid hb, a0, a1, a2, a3, a4, a5, b2⟩
      )
      have HRX : Hid (∀ V (X : Prop), (Hid (Below D10.heap.size D10 V) ∧ X) → Rows2 V (some ⟨G, 0, none⟩) kn gc (some ⟨D, 0, none⟩) mn dc K1 S1) := Lib.hid (fun V X h => HX.out.rows.on h.1.out)
      have HSZ : Hid (∀ V (X : Prop), (Hid (Below D10.heap.size D10 V) ∧ X) → L7.Sizes V) := Lib.hid (fun V X h => HG.out.below HG.out.lt h.1.out)
      have hSd := HST.out _ (L5.below_drewN (Below.refl _ D10) 1)
      go_region_held3 (fun V => Hid (Below D10.heap.size D10 V) ∧ V.cell? ⟨w.heap.size, 0, none⟩ = some (.int .i64 F) ∧ V.cell? ⟨w.heap.size, 1, none⟩ = some (.int .i64 L) ∧ V.cell? ⟨w.heap.size, 2, none⟩ = some (.int .i64 R) ∧ V.cell? ⟨w.heap.size, 3, none⟩ = some (.string HH) ∧ V.cell? ⟨w.heap.size, 4, none⟩ = some (.slice (some ⟨G, 0, none⟩) kn gc) ∧ V.cell? ⟨w.heap.size, 5, none⟩ = some (.slice (some ⟨D, 0, none⟩) mn dc) ∧ V.cell? ⟨w.heap.size + 1, 2, none⟩ = some (.int .i64 ix))
        (first | assumption | exact hSd)
        (first
          | (go_at_call 12; refine (ref_any _ _ _ _ _ _ _ _ _ _ _).mono ?_; rintro e V ⟨rfl, hb⟩; have HBV := Lib.hid ((by assumption : Hid (Below D10.heap.size D10 _) ∧ _).1.out.trans' hb); have hSn := HST.out _ HBV.out; clear hb)
          | (go_at_call 21; refine (HRN.out _ gc _ dc _ (HRX.out _ _ (by assumption))).mono ?_; rintro e V ⟨rfl, hb⟩; have HBV := Lib.hid ((by assumption : Hid (Below D10.heap.size D10 _) ∧ _).1.out.trans' hb); have hSn := HST.out _ HBV.out; clear hb)
          | fail "no arm")
      exact J.out _ HBV.out
    rintro D11 hb
    replace HB := Lib.hid (HB.out.trans' hb)
    replace HG := Lib.hid (HG0.out.below HG0.out.lt HB.out)
    replace HX := Lib.hid (HX.out.on hb)
    clear hb
    go_wp2_with fail
    apply tells_share1 (A := fun U => Below D11.heap.size D11 U)
    · intro J0
      have J := Lib.hid J0
      clear J0
      have HST : Hid (∀ V, Below D11.heap.size D11 V → (Hid (Below D11.heap.size D11 V) ∧ V.cell? ⟨w.heap.size, 0, none⟩ = some (.int .i64 F) ∧ V.cell? ⟨w.heap.size, 1, none⟩ = some (.int .i64 L) ∧ V.cell? ⟨w.heap.size, 2, none⟩ = some (.int .i64 R) ∧ V.cell? ⟨w.heap.size, 3, none⟩ = some (.string HH) ∧ V.cell? ⟨w.heap.size, 4, none⟩ = some (.slice (some ⟨G, 0, none⟩) kn gc) ∧ V.cell? ⟨w.heap.size, 5, none⟩ = some (.slice (some ⟨D, 0, none⟩) mn dc))) := Lib.hid (fun V hb => by
        obtain ⟨a0, a1, a2, a3, a4, a5⟩ := (HX.out.box.below hb).cells
        exact ⟨Lib.hid hb, a0, a1, a2, a3, a4, a5⟩
      )
      have HRX : Hid (∀ V (X : Prop), (Hid (Below D11.heap.size D11 V) ∧ X) → Rows2 V (some ⟨G, 0, none⟩) kn gc (some ⟨D, 0, none⟩) mn dc K1 S1) := Lib.hid (fun V X h => HX.out.rows.on h.1.out)
      have HSZ : Hid (∀ V (X : Prop), (Hid (Below D11.heap.size D11 V) ∧ X) → L7.Sizes V) := Lib.hid (fun V X h => HG.out.below HG.out.lt h.1.out)
      have hSd := HST.out _ (L5.below_drewN (Below.refl _ D11) 1)
      go_region_held3 (fun V => Hid (Below D11.heap.size D11 V) ∧ V.cell? ⟨w.heap.size, 0, none⟩ = some (.int .i64 F) ∧ V.cell? ⟨w.heap.size, 1, none⟩ = some (.int .i64 L) ∧ V.cell? ⟨w.heap.size, 2, none⟩ = some (.int .i64 R) ∧ V.cell? ⟨w.heap.size, 3, none⟩ = some (.string HH) ∧ V.cell? ⟨w.heap.size, 4, none⟩ = some (.slice (some ⟨G, 0, none⟩) kn gc) ∧ V.cell? ⟨w.heap.size, 5, none⟩ = some (.slice (some ⟨D, 0, none⟩) mn dc))
        (first | assumption | exact hSd)
        (first
          | (go_at_call 12; refine (ref_any _ _ _ _ _ _ _ _ _ _ _).mono ?_; rintro e V ⟨rfl, hb⟩; have HBV := Lib.hid ((by assumption : Hid (Below D11.heap.size D11 _) ∧ _).1.out.trans' hb); have hSn := HST.out _ HBV.out; clear hb)
          | (go_at_call 22; refine (HZ1.out _ gc _ dc _ (HRX.out _ _ (by assumption))).mono ?_; rintro e V ⟨rfl, hb⟩; have HBV := Lib.hid ((by assumption : Hid (Below D11.heap.size D11 _) ∧ _).1.out.trans' hb); have hSn := HST.out _ HBV.out; clear hb)
          | (go_at_call 23; refine (HZ2.out _ gc _ dc _ (HRX.out _ _ (by assumption))).mono ?_; rintro e V ⟨rfl, hb⟩; have HBV := Lib.hid ((by assumption : Hid (Below D11.heap.size D11 _) ∧ _).1.out.trans' hb); have hSn := HST.out _ HBV.out; clear hb)
          | (go_at_call 24; refine (HRT.out _ gc _ dc _ (HRX.out _ _ (by assumption))).mono ?_; rintro e V ⟨rfl, hb⟩; have HBV := Lib.hid ((by assumption : Hid (Below D11.heap.size D11 _) ∧ _).1.out.trans' hb); have hSn := HST.out _ HBV.out; clear hb)
          | (go_at_call 25; refine (HRR.out _ gc _ dc _ (HRX.out _ _ (by assumption))).mono ?_; rintro e V ⟨rfl, hb⟩; have HBV := Lib.hid ((by assumption : Hid (Below D11.heap.size D11 _) ∧ _).1.out.trans' hb); have hSn := HST.out _ HBV.out; clear hb)
          | (go_at_call 19; refine (HFX.out _ (HSZ.out _ _ (by assumption))).mono ?_; rintro e V ⟨rfl, hb⟩; have HBV := Lib.hid ((by assumption : Hid (Below D11.heap.size D11 _) ∧ _).1.out.trans' hb); have hSn := HST.out _ HBV.out; clear hb)
          | fail "no arm")
      exact J.out _ HBV.out
    rintro D12 hb
    go_wp2_with fail
    go_ret
    exact ⟨rfl, HB.out.trans' hb⟩
end Go.Proofs.YtembccehokodeaaGreatDoor
