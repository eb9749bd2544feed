/-
  The walk of InnerBack. Written by wip/gen_iback.py.
-/
import Derived.Test.YtembccehokodeaaGreatDoorJIOne
import Derived.Test.YtembccehokodeaaGreatDoorJISame
namespace Go.Proofs.YtembccehokodeaaGreatDoor
open Go.RowKit IP
set_option linter.unusedVariables false
set_option linter.unusedSimpArgs false

theorem cut_1100 (s : ByteArray) : ∃ m : Nat, min (s.size : Int) 1100 = m ∧ m ≤ 1100 ∧ m ≤ s.size := ⟨min s.size 1100, by omega, by omega, by omega⟩
theorem cut_60 (s : ByteArray) : ∃ m : Nat, min (s.size : Int) 60 = m ∧ m ≤ 60 ∧ m ≤ s.size := ⟨min s.size 60, by omega, by omega, by omega⟩
theorem Rows2.empty (w : World) : Rows2 w Option.none 0 0 Option.none 0 0 [] [] := ⟨LiesN.nil _ _ _, L5.Lies.nil _ _ _, rfl, rfl, Nat.le_refl _, Nat.le_refl _⟩
set_option maxHeartbeats 4000000 in
set_option maxRecDepth 100000 in
theorem innerBack_any (hfx : Fixes) (F L R : Int) (H : ByteArray) (A : Option Addr) (n ca : Nat) (C : Option Addr) (m cb : Nat) (ks : List Int) (ss : List ByteArray) (p : Int) (s : ByteArray) (w : World) (hg : L7.Sizes w) (hr : Rows2 w A n ca C m cb ks ss) (hn : n ≤ maxLen) (hca : ca ≤ maxLen) (hm : m ≤ maxLen) (hH : H.size ≤ maxLen) (hs : ∀ s ∈ ss, s.size ≤ maxLen) (hss : s.size ≤ maxLen) :
    Calls Tryz.prog 4 #[nv F L R H A n ca C m cb, .int .i64 p, .string s] w fun e w' => e = .returned (.bool true) ∧ Below w.heap.size w w' := by
  have hb0 := nbox_below 25 F L R H A n ca C m cb w
  have hsz0 := nbox_size 25 F L R H A n ca C m cb w
  have HB0 := Lib.hid hb0
  have HK0 := Lib.hid (nbox_new 25 F L R H A n ca C m cb w)
  have HFX := Lib.hid hfx
  have HG0 := Lib.hid hg
  have HC := Lib.hid (cutR_any F L R H A n ca C m cb ks ss _ (hr.on hb0) hn hca hm hH hs)
  obtain ⟨HH, hHH⟩ : ∃ HH, cutH H = HH := ⟨_, rfl⟩
  obtain ⟨K1, hK1⟩ : ∃ K1, ks.take 30 = K1 := ⟨_, rfl⟩
  obtain ⟨S1, hS1⟩ : ∃ S1, cutSs ss = S1 := ⟨_, rfl⟩
  obtain ⟨kn, hkn⟩ : ∃ kn, min 30 n = kn := ⟨_, rfl⟩
  obtain ⟨mn, hmn⟩ : ∃ mn, min 30 m = mn := ⟨_, rfl⟩
  have hK1n : K1.length = kn := by rw [← hK1, List.length_take, hr.nk, hkn]
  have hS1n : S1.length = mn := by rw [← hS1, cutSs_length, hr.nm, hmn]
  have hHHs : HH.size ≤ 140 := by rw [← hHH]; exact cutH_size H
  have HS1s : Hid (∀ s ∈ S1, s.size ≤ 140) := Lib.hid (by rw [← hS1]; exact cutSs_size ss)
  rw [hHH, hK1, hS1, hkn, hmn] at HC
  have hk30 : kn ≤ 30 := by omega
  have hm30 : mn ≤ 30 := by omega
  simp only [nbox] at HC HB0 HK0 hsz0
  clear hb0 hr hs hn hca hm hg hfx hH hHH hK1 hS1 hkn hmn
  obtain ⟨m, hm1, hm2, hm3⟩ := cut_1100 s
  obtain ⟨T, hT⟩ : ∃ T, s.extract 0 m = T := ⟨_, rfl⟩
  have hT2 : T.size ≤ 1100 := by rw [← hT, ByteArray.size_extract]; omega
  unfold maxLen at hss
  obtain ⟨S, c, he⟩ : ∃ S c, enc ⟨F, L, R, HH, K1, S1⟩ p = (S, c) := ⟨_, _, rfl⟩
  by_cases hc : c = 0
  · subst hc
    cases hX : dec T with
    | some X =>
      obtain ⟨hmay, hsz, hS, hdS⟩ := enc0_facts he
      have hsz16 : (16 : Int) ≤ p ∧ p ≤ 1024 := by have := mayBe_le hmay.1; omega
      have HE := Lib.hid (fun A gc D dc W (h : L7.Sizes W) (h2 : Rows2 W A kn gc D mn dc K1 S1) => encT F L R HH A kn gc D mn dc K1 S1 p S 0 he (by omega) (by omega) W h h2)
      have HD1 := Lib.hid (fun W (h : L7.Sizes W) => decT S F L R HH K1 S1 hdS W h (by omega))
      rw [hK1n, hS1n] at HD1
      have HSA := Lib.hid (fun A c1 D c2 A' c3 D' c4 W (h1 : Rows2 W A kn c1 D mn c2 K1 S1) (h2 : Rows2 W A' kn c3 D' mn c4 K1 S1) => same_any F L R HH A kn c1 D mn c2 K1 S1 F L R HH A' kn c3 D' mn c4 K1 S1 W h1 h2 (by omega) (by omega) (by omega) (by omega))
      rw [decide_eq_true rfl] at HSA
      have HM := Lib.hid (fun A gc D dc W (h : L7.Sizes W) (h2 : Rows2 W A kn gc D mn dc K1 S1) => may_any F L R HH A kn gc D mn dc K1 S1 p W h h2 (by omega) (by omega))
      rw [decide_eq_true hmay] at HM
      have HZ := Lib.hid (fun A gc D dc W (h2 : Rows2 W A kn gc D mn dc K1 S1) => nsize_any F L R HH A kn gc D mn dc K1 S1 W h2 (May.fit hmay (by omega)))
      generalize size ⟨F, L, R, HH, K1, S1⟩ = z at *
      have hw : IntKind.i64.wrap (p - 16) = p - 16 := IntWalk.i64_in _ (by omega)
      clear hmay hdS he
      subst hS
      obtain ⟨F', L', R', H', ks', ss'⟩ := X
      obtain ⟨e1, e2, e3, e4, e5, e6⟩ := dec_facts hX
      simp only at e3 e4 e5
      have HDT := Lib.hid (fun W (h : L7.Sizes W) => decT T F' L' R' H' ks' ss' hX W h (by omega))
      obtain ⟨n', hn'⟩ : ∃ n', ks'.length = n' := ⟨_, rfl⟩
      obtain ⟨m', hm'⟩ : ∃ m', ss'.length = m' := ⟨_, rfl⟩
      rw [hn', hm'] at HDT
      rw [hn'] at e3
      rw [hm'] at e4
      have HET := Lib.hid (fun A ca C cb W (h : L7.Sizes W) (h2 : Rows2 W A n' ca C m' cb ks' ss') => encT F' L' R' H' A n' ca C m' cb ks' ss' T.size T 0 e1 (by omega) (by omega) W h h2)
      have HMT := Lib.hid (fun A ca C cb W (h : L7.Sizes W) (h2 : Rows2 W A n' ca C m' cb ks' ss') => may_any F' L' R' H' A n' ca C m' cb ks' ss' T.size W h h2 (by omega) (by omega))
      rw [decide_eq_true e2] at HMT
      clear e1 e2 e3 e4 e5 e6 hX hn' hm'
      obtain ⟨c0, c1, c2, c3, c4, c5⟩ := HK0.out.cells
      go_enter Tryz.func4, Tryz.ntmps4
      go_wp2_with fail
      refine HC.out.mono ?_
      rintro e V ⟨G, gc, D, dc, rfl, hG, hD, hrw, hb⟩
      clear c0 c1 c2 c3 c4 c5
      have HK1 := Lib.hid (HK0.out.below hb)
      have HB1 := Lib.hid (HB0.out.trans' hb)
      have hGn : ∀ a, some (⟨G, 0, none⟩ : Addr) = some a → a.block ≠ w.heap.size := fun a e => by
        obtain rfl := Option.some.inj e
        rw [hsz0] at hG
        show G ≠ _
        omega
      have hDn : ∀ a, some (⟨D, 0, none⟩ : Addr) = some a → a.block ≠ w.heap.size := fun a e => by
        obtain rfl := Option.some.inj e
        rw [hsz0] at hD
        show D ≠ _
        omega
      obtain ⟨c0, c1, c2, c3, c4, c5⟩ := HK1.out.cells
      obtain ⟨f0, f1, f2, f3, f4, f5⟩ := HK1.out.free
      have HX := Lib.hid (show NR 25 w.heap.size F L R HH (some ⟨G, 0, none⟩) kn gc (some ⟨D, 0, none⟩) mn dc K1 S1 (setN V w.heap.size F L R HH (some ⟨G, 0, none⟩) kn gc (some ⟨D, 0, none⟩) mn dc) from ⟨setN_box HK1.out F L R HH (some ⟨G, 0, none⟩) kn gc (some ⟨D, 0, none⟩) mn dc, hrw.stored hGn hDn F L R HH (some ⟨G, 0, none⟩) kn gc (some ⟨D, 0, none⟩) mn dc⟩)
      have HB := Lib.hid (setN_below HB1.out (Nat.le_refl _) F L R HH (some ⟨G, 0, none⟩) kn gc (some ⟨D, 0, none⟩) mn dc)
      have HG := Lib.hid (HG0.out.below HG0.out.lt HB.out)
      have hck := hrw.ck
      have hcm := hrw.cm
      unfold setN at HX HB HG
      obtain ⟨r0, r1, r2, r3, r4, r5⟩ := HX.out.box.cells
      clear hb hrw HK1 HB1 hGn hDn HC hG hD
      go_wp2_with fail
      (try rw [hT])
      clear c0 c1 c2 c3 c4 c5 f0 f1 f2 f3 f4 f5 r0 r1 r2 r3 r4 r5
      generalize ((((((V.setCell ⟨w.heap.size, 0, none⟩ (.int .i64 F)).setCell ⟨w.heap.size, 1, none⟩ (.int .i64 L)).setCell ⟨w.heap.size, 2, none⟩ (.int .i64 R)).setCell ⟨w.heap.size, 3, none⟩ (.string HH)).setCell ⟨w.heap.size, 4, none⟩ (.slice (some ⟨G, 0, none⟩) kn gc)).setCell ⟨w.heap.size, 5, none⟩ (.slice (some ⟨D, 0, none⟩) mn dc)) = W2 at *
      obtain ⟨c0, c1, c2, c3, c4, c5⟩ := HX.out.box.cells
      go_wp2_with fail
      refine (HE.out _ gc _ dc _ HG.out HX.out.rows).mono ?_
      rintro e V ⟨rfl, hb⟩
      replace HB := Lib.hid (HB.out.trans' hb)
      replace HG := Lib.hid (HG0.out.below HG0.out.lt HB.out)
      replace HX := Lib.hid (HX.out.on hb)
      clear hb HE c0 c1 c2 c3 c4 c5
      obtain ⟨c0, c1, c2, c3, c4, c5⟩ := HX.out.box.cells
      go_wp2_with fail
      refine (HD1.out _ HG.out).mono ?_
      rintro e V3 ⟨A2, ca2, C2, cb2, rfl, hL2, hb⟩
      clear c0 c1 c2 c3 c4 c5
      have H2 := Lib.hid (NR.new (t := 25) (F := F) (L := L) (R := R) (H := HH) hL2)
      have hb := hb.trans' (nbox_below 25 F L R HH A2 kn ca2 C2 mn cb2 V3)
      replace HB := Lib.hid (HB.out.trans' hb)
      replace HG := Lib.hid (HG0.out.below HG0.out.lt HB.out)
      replace HX := Lib.hid (HX.out.on hb)
      clear hb
      simp only [nbox] at HB HG H2 HX
      obtain ⟨c0, c1, c2, c3, c4, c5⟩ := HX.out.box.cells
      obtain ⟨d0, d1, d2, d3, d4, d5⟩ := H2.out.box.cells
      have hS0 : ((S.size : Int) == (S.size : Int)) = true := beq_self_eq_true _
      go_wp2_with fail
      refine (HSA.out _ _ _ _ _ _ _ _ _ H2.out.rows HX.out.rows).mono ?_
      rintro e V4 ⟨rfl, hb⟩
      replace HB := Lib.hid (HB.out.trans' hb)
      replace HG := Lib.hid (HG0.out.below HG0.out.lt HB.out)
      replace HX := Lib.hid (HX.out.on hb)
      clear hb H2 hL2
      clear c0 c1 c2 c3 c4 c5 d0 d1 d2 d3 d4 d5
      obtain ⟨c0, c1, c2, c3, c4, c5⟩ := HX.out.box.cells
      go_wp2_with fail
      refine (HM.out _ gc _ dc _ HG.out HX.out.rows).mono ?_
      rintro e V5 ⟨rfl, hb⟩
      replace HB := Lib.hid (HB.out.trans' hb)
      replace HG := Lib.hid (HG0.out.below HG0.out.lt HB.out)
      replace HX := Lib.hid (HX.out.on hb)
      clear hb
      clear c0 c1 c2 c3 c4 c5
      obtain ⟨c0, c1, c2, c3, c4, c5⟩ := HX.out.box.cells
      go_wp2_with fail
      refine (HZ.out _ gc _ dc _ HX.out.rows).mono ?_
      rintro e V6 ⟨rfl, hb⟩
      replace HB := Lib.hid (HB.out.trans' hb)
      replace HG := Lib.hid (HG0.out.below HG0.out.lt HB.out)
      replace HX := Lib.hid (HX.out.on hb)
      clear hb HX
      clear c0 c1 c2 c3 c4 c5
      go_wp2_with fail
      refine (HDT.out _ HG.out).mono ?_
      rintro e VT ⟨AT, caT, CT, cbT, rfl, hLT, hb⟩
      have HT := Lib.hid (NR.new (t := 25) (F := F') (L := L') (R := R') (H := H') hLT)
      have hb := hb.trans' (nbox_below 25 F' L' R' H' AT n' caT CT m' cbT VT)
      replace HB := Lib.hid (HB.out.trans' hb)
      replace HG := Lib.hid (HG0.out.below HG0.out.lt HB.out)
      clear hb
      simp only [nbox] at HB HG HT 
      obtain ⟨c0, c1, c2, c3, c4, c5⟩ := HT.out.box.cells
      go_wp2_with fail
      refine (HET.out _ _ _ _ _ HG.out HT.out.rows).mono ?_
      rintro e V7 ⟨rfl, hb⟩
      replace HB := Lib.hid (HB.out.trans' hb)
      replace HG := Lib.hid (HG0.out.below HG0.out.lt HB.out)
      replace HT := Lib.hid (HT.out.on hb)
      clear hb
      clear c0 c1 c2 c3 c4 c5
      obtain ⟨c0, c1, c2, c3, c4, c5⟩ := HT.out.box.cells
      have hz := text_yes (rfl : T = T)
      go_wp2_with fail
      refine (HMT.out _ _ _ _ _ HG.out HT.out.rows).mono ?_
      rintro e V8 ⟨rfl, hb⟩
      replace HB := Lib.hid (HB.out.trans' hb)
      replace HG := Lib.hid (HG0.out.below HG0.out.lt HB.out)
      clear hb
      clear c0 c1 c2 c3 c4 c5
      go_wp2_with fail
      refine (HFX.out _ HG.out).mono ?_
      rintro e V9 ⟨rfl, hb⟩
      go_wp2_with fail
      go_ret
      exact ⟨rfl, HB.out.trans' hb⟩
    | none =>
      obtain ⟨hmay, hsz, hS, hdS⟩ := enc0_facts he
      have hsz16 : (16 : Int) ≤ p ∧ p ≤ 1024 := by have := mayBe_le hmay.1; omega
      have HE := Lib.hid (fun A gc D dc W (h : L7.Sizes W) (h2 : Rows2 W A kn gc D mn dc K1 S1) => encT F L R HH A kn gc D mn dc K1 S1 p S 0 he (by omega) (by omega) W h h2)
      have HD1 := Lib.hid (fun W (h : L7.Sizes W) => decT S F L R HH K1 S1 hdS W h (by omega))
      rw [hK1n, hS1n] at HD1
      have HSA := Lib.hid (fun A c1 D c2 A' c3 D' c4 W (h1 : Rows2 W A kn c1 D mn c2 K1 S1) (h2 : Rows2 W A' kn c3 D' mn c4 K1 S1) => same_any F L R HH A kn c1 D mn c2 K1 S1 F L R HH A' kn c3 D' mn c4 K1 S1 W h1 h2 (by omega) (by omega) (by omega) (by omega))
      rw [decide_eq_true rfl] at HSA
      have HM := Lib.hid (fun A gc D dc W (h : L7.Sizes W) (h2 : Rows2 W A kn gc D mn dc K1 S1) => may_any F L R HH A kn gc D mn dc K1 S1 p W h h2 (by omega) (by omega))
      rw [decide_eq_true hmay] at HM
      have HZ := Lib.hid (fun A gc D dc W (h2 : Rows2 W A kn gc D mn dc K1 S1) => nsize_any F L R HH A kn gc D mn dc K1 S1 W h2 (May.fit hmay (by omega)))
      generalize size ⟨F, L, R, HH, K1, S1⟩ = z at *
      have hw : IntKind.i64.wrap (p - 16) = p - 16 := IntWalk.i64_in _ (by omega)
      clear hmay hdS he
      subst hS
      have HDT := Lib.hid (fun W (h : L7.Sizes W) => decN T hX W h (by omega))
      have HS0 := Lib.hid (fun W => same_any 0 0 0 ⟨#[]⟩ none 0 0 none 0 0 [] [] 0 0 0 ⟨#[]⟩ none 0 0 none 0 0 [] [] W (Rows2.empty W) (Rows2.empty W) (by decide) (by decide) (by decide) (by decide))
      rw [decide_eq_true rfl] at HS0
      clear hX
      obtain ⟨c0, c1, c2, c3, c4, c5⟩ := HK0.out.cells
      go_enter Tryz.func4, Tryz.ntmps4
      go_wp2_with fail
      refine HC.out.mono ?_
      rintro e V ⟨G, gc, D, dc, rfl, hG, hD, hrw, hb⟩
      clear c0 c1 c2 c3 c4 c5
      have HK1 := Lib.hid (HK0.out.below hb)
      have HB1 := Lib.hid (HB0.out.trans' hb)
      have hGn : ∀ a, some (⟨G, 0, none⟩ : Addr) = some a → a.block ≠ w.heap.size := fun a e => by
        obtain rfl := Option.some.inj e
        rw [hsz0] at hG
        show G ≠ _
        omega
      have hDn : ∀ a, some (⟨D, 0, none⟩ : Addr) = some a → a.block ≠ w.heap.size := fun a e => by
        obtain rfl := Option.some.inj e
        rw [hsz0] at hD
        show D ≠ _
        omega
      obtain ⟨c0, c1, c2, c3, c4, c5⟩ := HK1.out.cells
      obtain ⟨f0, f1, f2, f3, f4, f5⟩ := HK1.out.free
      have HX := Lib.hid (show NR 25 w.heap.size F L R HH (some ⟨G, 0, none⟩) kn gc (some ⟨D, 0, none⟩) mn dc K1 S1 (setN V w.heap.size F L R HH (some ⟨G, 0, none⟩) kn gc (some ⟨D, 0, none⟩) mn dc) from ⟨setN_box HK1.out F L R HH (some ⟨G, 0, none⟩) kn gc (some ⟨D, 0, none⟩) mn dc, hrw.stored hGn hDn F L R HH (some ⟨G, 0, none⟩) kn gc (some ⟨D, 0, none⟩) mn dc⟩)
      have HB := Lib.hid (setN_below HB1.out (Nat.le_refl _) F L R HH (some ⟨G, 0, none⟩) kn gc (some ⟨D, 0, none⟩) mn dc)
      have HG := Lib.hid (HG0.out.below HG0.out.lt HB.out)
      have hck := hrw.ck
      have hcm := hrw.cm
      unfold setN at HX HB HG
      obtain ⟨r0, r1, r2, r3, r4, r5⟩ := HX.out.box.cells
      clear hb hrw HK1 HB1 hGn hDn HC hG hD
      go_wp2_with fail
      (try rw [hT])
      clear c0 c1 c2 c3 c4 c5 f0 f1 f2 f3 f4 f5 r0 r1 r2 r3 r4 r5
      generalize ((((((V.setCell ⟨w.heap.size, 0, none⟩ (.int .i64 F)).setCell ⟨w.heap.size, 1, none⟩ (.int .i64 L)).setCell ⟨w.heap.size, 2, none⟩ (.int .i64 R)).setCell ⟨w.heap.size, 3, none⟩ (.string HH)).setCell ⟨w.heap.size, 4, none⟩ (.slice (some ⟨G, 0, none⟩) kn gc)).setCell ⟨w.heap.size, 5, none⟩ (.slice (some ⟨D, 0, none⟩) mn dc)) = W2 at *
      obtain ⟨c0, c1, c2, c3, c4, c5⟩ := HX.out.box.cells
      go_wp2_with fail
      refine (HE.out _ gc _ dc _ HG.out HX.out.rows).mono ?_
      rintro e V ⟨rfl, hb⟩
      replace HB := Lib.hid (HB.out.trans' hb)
      replace HG := Lib.hid (HG0.out.below HG0.out.lt HB.out)
      replace HX := Lib.hid (HX.out.on hb)
      clear hb HE c0 c1 c2 c3 c4 c5
      obtain ⟨c0, c1, c2, c3, c4, c5⟩ := HX.out.box.cells
      go_wp2_with fail
      refine (HD1.out _ HG.out).mono ?_
      rintro e V3 ⟨A2, ca2, C2, cb2, rfl, hL2, hb⟩
      clear c0 c1 c2 c3 c4 c5
      have H2 := Lib.hid (NR.new (t := 25) (F := F) (L := L) (R := R) (H := HH) hL2)
      have hb := hb.trans' (nbox_below 25 F L R HH A2 kn ca2 C2 mn cb2 V3)
      replace HB := Lib.hid (HB.out.trans' hb)
      replace HG := Lib.hid (HG0.out.below HG0.out.lt HB.out)
      replace HX := Lib.hid (HX.out.on hb)
      clear hb
      simp only [nbox] at HB HG H2 HX
      obtain ⟨c0, c1, c2, c3, c4, c5⟩ := HX.out.box.cells
      obtain ⟨d0, d1, d2, d3, d4, d5⟩ := H2.out.box.cells
      have hS0 : ((S.size : Int) == (S.size : Int)) = true := beq_self_eq_true _
      go_wp2_with fail
      refine (HSA.out _ _ _ _ _ _ _ _ _ H2.out.rows HX.out.rows).mono ?_
      rintro e V4 ⟨rfl, hb⟩
      replace HB := Lib.hid (HB.out.trans' hb)
      replace HG := Lib.hid (HG0.out.below HG0.out.lt HB.out)
      replace HX := Lib.hid (HX.out.on hb)
      clear hb H2 hL2
      clear c0 c1 c2 c3 c4 c5 d0 d1 d2 d3 d4 d5
      obtain ⟨c0, c1, c2, c3, c4, c5⟩ := HX.out.box.cells
      go_wp2_with fail
      refine (HM.out _ gc _ dc _ HG.out HX.out.rows).mono ?_
      rintro e V5 ⟨rfl, hb⟩
      replace HB := Lib.hid (HB.out.trans' hb)
      replace HG := Lib.hid (HG0.out.below HG0.out.lt HB.out)
      replace HX := Lib.hid (HX.out.on hb)
      clear hb
      clear c0 c1 c2 c3 c4 c5
      obtain ⟨c0, c1, c2, c3, c4, c5⟩ := HX.out.box.cells
      go_wp2_with fail
      refine (HZ.out _ gc _ dc _ HX.out.rows).mono ?_
      rintro e V6 ⟨rfl, hb⟩
      replace HB := Lib.hid (HB.out.trans' hb)
      replace HG := Lib.hid (HG0.out.below HG0.out.lt HB.out)
      replace HX := Lib.hid (HX.out.on hb)
      clear hb HX
      clear c0 c1 c2 c3 c4 c5
      go_wp2_with fail
      refine (HDT.out _ HG.out).mono ?_
      rintro e VT ⟨rfl, hb⟩
      have HT := Lib.hid (NR.new (t := 25) (F := 0) (L := 0) (R := 0) (H := ⟨#[]⟩) (Rows2.empty VT))
      have hb := hb.trans' (nbox_below 25 0 0 0 ⟨#[]⟩ none 0 0 none 0 0 VT)
      replace HB := Lib.hid (HB.out.trans' hb)
      replace HG := Lib.hid (HG0.out.below HG0.out.lt HB.out)
      clear hb
      simp only [nbox] at HB HG HT 
      obtain ⟨c0, c1, c2, c3, c4, c5⟩ := HT.out.box.cells
      go_wp2_with fail
      refine (HS0.out _).mono ?_
      rintro e V7 ⟨rfl, hb⟩
      replace HB := Lib.hid (HB.out.trans' hb)
      replace HG := Lib.hid (HG0.out.below HG0.out.lt HB.out)
      clear hb
      clear c0 c1 c2 c3 c4 c5
      go_wp2_with fail
      refine (HFX.out _ HG.out).mono ?_
      rintro e V9 ⟨rfl, hb⟩
      go_wp2_with fail
      go_ret
      exact ⟨rfl, HB.out.trans' hb⟩
  · cases hX : dec T with
    | some X =>
      have HE := Lib.hid (fun A gc D dc W (h : L7.Sizes W) (h2 : Rows2 W A kn gc D mn dc K1 S1) => encT F L R HH A kn gc D mn dc K1 S1 p S c he (by omega) (by omega) W h h2)
      have hc0 : (c == 0) = false := by simpa using hc
      clear he
      obtain ⟨F', L', R', H', ks', ss'⟩ := X
      obtain ⟨e1, e2, e3, e4, e5, e6⟩ := dec_facts hX
      simp only at e3 e4 e5
      have HDT := Lib.hid (fun W (h : L7.Sizes W) => decT T F' L' R' H' ks' ss' hX W h (by omega))
      obtain ⟨n', hn'⟩ : ∃ n', ks'.length = n' := ⟨_, rfl⟩
      obtain ⟨m', hm'⟩ : ∃ m', ss'.length = m' := ⟨_, rfl⟩
      rw [hn', hm'] at HDT
      rw [hn'] at e3
      rw [hm'] at e4
      have HET := Lib.hid (fun A ca C cb W (h : L7.Sizes W) (h2 : Rows2 W A n' ca C m' cb ks' ss') => encT F' L' R' H' A n' ca C m' cb ks' ss' T.size T 0 e1 (by omega) (by omega) W h h2)
      have HMT := Lib.hid (fun A ca C cb W (h : L7.Sizes W) (h2 : Rows2 W A n' ca C m' cb ks' ss') => may_any F' L' R' H' A n' ca C m' cb ks' ss' T.size W h h2 (by omega) (by omega))
      rw [decide_eq_true e2] at HMT
      clear e1 e2 e3 e4 e5 e6 hX hn' hm'
      obtain ⟨c0, c1, c2, c3, c4, c5⟩ := HK0.out.cells
      go_enter Tryz.func4, Tryz.ntmps4
      go_wp2_with fail
      refine HC.out.mono ?_
      rintro e V ⟨G, gc, D, dc, rfl, hG, hD, hrw, hb⟩
      clear c0 c1 c2 c3 c4 c5
      have HK1 := Lib.hid (HK0.out.below hb)
      have HB1 := Lib.hid (HB0.out.trans' hb)
      have hGn : ∀ a, some (⟨G, 0, none⟩ : Addr) = some a → a.block ≠ w.heap.size := fun a e => by
        obtain rfl := Option.some.inj e
        rw [hsz0] at hG
        show G ≠ _
        omega
      have hDn : ∀ a, some (⟨D, 0, none⟩ : Addr) = some a → a.block ≠ w.heap.size := fun a e => by
        obtain rfl := Option.some.inj e
        rw [hsz0] at hD
        show D ≠ _
        omega
      obtain ⟨c0, c1, c2, c3, c4, c5⟩ := HK1.out.cells
      obtain ⟨f0, f1, f2, f3, f4, f5⟩ := HK1.out.free
      have HX := Lib.hid (show NR 25 w.heap.size F L R HH (some ⟨G, 0, none⟩) kn gc (some ⟨D, 0, none⟩) mn dc K1 S1 (setN V w.heap.size F L R HH (some ⟨G, 0, none⟩) kn gc (some ⟨D, 0, none⟩) mn dc) from ⟨setN_box HK1.out F L R HH (some ⟨G, 0, none⟩) kn gc (some ⟨D, 0, none⟩) mn dc, hrw.stored hGn hDn F L R HH (some ⟨G, 0, none⟩) kn gc (some ⟨D, 0, none⟩) mn dc⟩)
      have HB := Lib.hid (setN_below HB1.out (Nat.le_refl _) F L R HH (some ⟨G, 0, none⟩) kn gc (some ⟨D, 0, none⟩) mn dc)
      have HG := Lib.hid (HG0.out.below HG0.out.lt HB.out)
      have hck := hrw.ck
      have hcm := hrw.cm
      unfold setN at HX HB HG
      obtain ⟨r0, r1, r2, r3, r4, r5⟩ := HX.out.box.cells
      clear hb hrw HK1 HB1 hGn hDn HC hG hD
      go_wp2_with fail
      (try rw [hT])
      clear c0 c1 c2 c3 c4 c5 f0 f1 f2 f3 f4 f5 r0 r1 r2 r3 r4 r5
      generalize ((((((V.setCell ⟨w.heap.size, 0, none⟩ (.int .i64 F)).setCell ⟨w.heap.size, 1, none⟩ (.int .i64 L)).setCell ⟨w.heap.size, 2, none⟩ (.int .i64 R)).setCell ⟨w.heap.size, 3, none⟩ (.string HH)).setCell ⟨w.heap.size, 4, none⟩ (.slice (some ⟨G, 0, none⟩) kn gc)).setCell ⟨w.heap.size, 5, none⟩ (.slice (some ⟨D, 0, none⟩) mn dc)) = W2 at *
      obtain ⟨c0, c1, c2, c3, c4, c5⟩ := HX.out.box.cells
      go_wp2_with fail
      refine (HE.out _ gc _ dc _ HG.out HX.out.rows).mono ?_
      rintro e V ⟨rfl, hb⟩
      replace HB := Lib.hid (HB.out.trans' hb)
      replace HG := Lib.hid (HG0.out.below HG0.out.lt HB.out)
      replace HX := Lib.hid (HX.out.on hb)
      clear hb HE c0 c1 c2 c3 c4 c5
      obtain ⟨c0, c1, c2, c3, c4, c5⟩ := HX.out.box.cells
      go_wp2_with fail
      clear c0 c1 c2 c3 c4 c5
      refine (HDT.out _ HG.out).mono ?_
      rintro e VT ⟨AT, caT, CT, cbT, rfl, hLT, hb⟩
      have HT := Lib.hid (NR.new (t := 25) (F := F') (L := L') (R := R') (H := H') hLT)
      have hb := hb.trans' (nbox_below 25 F' L' R' H' AT n' caT CT m' cbT VT)
      replace HB := Lib.hid (HB.out.trans' hb)
      replace HG := Lib.hid (HG0.out.below HG0.out.lt HB.out)
      clear hb
      simp only [nbox] at HB HG HT 
      obtain ⟨c0, c1, c2, c3, c4, c5⟩ := HT.out.box.cells
      go_wp2_with fail
      refine (HET.out _ _ _ _ _ HG.out HT.out.rows).mono ?_
      rintro e V7 ⟨rfl, hb⟩
      replace HB := Lib.hid (HB.out.trans' hb)
      replace HG := Lib.hid (HG0.out.below HG0.out.lt HB.out)
      replace HT := Lib.hid (HT.out.on hb)
      clear hb
      clear c0 c1 c2 c3 c4 c5
      obtain ⟨c0, c1, c2, c3, c4, c5⟩ := HT.out.box.cells
      have hz := text_yes (rfl : T = T)
      go_wp2_with fail
      refine (HMT.out _ _ _ _ _ HG.out HT.out.rows).mono ?_
      rintro e V8 ⟨rfl, hb⟩
      replace HB := Lib.hid (HB.out.trans' hb)
      replace HG := Lib.hid (HG0.out.below HG0.out.lt HB.out)
      clear hb
      clear c0 c1 c2 c3 c4 c5
      go_wp2_with fail
      refine (HFX.out _ HG.out).mono ?_
      rintro e V9 ⟨rfl, hb⟩
      go_wp2_with fail
      go_ret
      exact ⟨rfl, HB.out.trans' hb⟩
    | none =>
      have HE := Lib.hid (fun A gc D dc W (h : L7.Sizes W) (h2 : Rows2 W A kn gc D mn dc K1 S1) => encT F L R HH A kn gc D mn dc K1 S1 p S c he (by omega) (by omega) W h h2)
      have hc0 : (c == 0) = false := by simpa using hc
      clear he
      have HDT := Lib.hid (fun W (h : L7.Sizes W) => decN T hX W h (by omega))
      have HS0 := Lib.hid (fun W => same_any 0 0 0 ⟨#[]⟩ none 0 0 none 0 0 [] [] 0 0 0 ⟨#[]⟩ none 0 0 none 0 0 [] [] W (Rows2.empty W) (Rows2.empty W) (by decide) (by decide) (by decide) (by decide))
      rw [decide_eq_true rfl] at HS0
      clear hX
      obtain ⟨c0, c1, c2, c3, c4, c5⟩ := HK0.out.cells
      go_enter Tryz.func4, Tryz.ntmps4
      go_wp2_with fail
      refine HC.out.mono ?_
      rintro e V ⟨G, gc, D, dc, rfl, hG, hD, hrw, hb⟩
      clear c0 c1 c2 c3 c4 c5
      have HK1 := Lib.hid (HK0.out.below hb)
      have HB1 := Lib.hid (HB0.out.trans' hb)
      have hGn : ∀ a, some (⟨G, 0, none⟩ : Addr) = some a → a.block ≠ w.heap.size := fun a e => by
        obtain rfl := Option.some.inj e
        rw [hsz0] at hG
        show G ≠ _
        omega
      have hDn : ∀ a, some (⟨D, 0, none⟩ : Addr) = some a → a.block ≠ w.heap.size := fun a e => by
        obtain rfl := Option.some.inj e
        rw [hsz0] at hD
        show D ≠ _
        omega
      obtain ⟨c0, c1, c2, c3, c4, c5⟩ := HK1.out.cells
      obtain ⟨f0, f1, f2, f3, f4, f5⟩ := HK1.out.free
      have HX := Lib.hid (show NR 25 w.heap.size F L R HH (some ⟨G, 0, none⟩) kn gc (some ⟨D, 0, none⟩) mn dc K1 S1 (setN V w.heap.size F L R HH (some ⟨G, 0, none⟩) kn gc (some ⟨D, 0, none⟩) mn dc) from ⟨setN_box HK1.out F L R HH (some ⟨G, 0, none⟩) kn gc (some ⟨D, 0, none⟩) mn dc, hrw.stored hGn hDn F L R HH (some ⟨G, 0, none⟩) kn gc (some ⟨D, 0, none⟩) mn dc⟩)
      have HB := Lib.hid (setN_below HB1.out (Nat.le_refl _) F L R HH (some ⟨G, 0, none⟩) kn gc (some ⟨D, 0, none⟩) mn dc)
      have HG := Lib.hid (HG0.out.below HG0.out.lt HB.out)
      have hck := hrw.ck
      have hcm := hrw.cm
      unfold setN at HX HB HG
      obtain ⟨r0, r1, r2, r3, r4, r5⟩ := HX.out.box.cells
      clear hb hrw HK1 HB1 hGn hDn HC hG hD
      go_wp2_with fail
      (try rw [hT])
      clear c0 c1 c2 c3 c4 c5 f0 f1 f2 f3 f4 f5 r0 r1 r2 r3 r4 r5
      generalize ((((((V.setCell ⟨w.heap.size, 0, none⟩ (.int .i64 F)).setCell ⟨w.heap.size, 1, none⟩ (.int .i64 L)).setCell ⟨w.heap.size, 2, none⟩ (.int .i64 R)).setCell ⟨w.heap.size, 3, none⟩ (.string HH)).setCell ⟨w.heap.size, 4, none⟩ (.slice (some ⟨G, 0, none⟩) kn gc)).setCell ⟨w.heap.size, 5, none⟩ (.slice (some ⟨D, 0, none⟩) mn dc)) = W2 at *
      obtain ⟨c0, c1, c2, c3, c4, c5⟩ := HX.out.box.cells
      go_wp2_with fail
      refine (HE.out _ gc _ dc _ HG.out HX.out.rows).mono ?_
      rintro e V ⟨rfl, hb⟩
      replace HB := Lib.hid (HB.out.trans' hb)
      replace HG := Lib.hid (HG0.out.below HG0.out.lt HB.out)
      replace HX := Lib.hid (HX.out.on hb)
      clear hb HE c0 c1 c2 c3 c4 c5
      obtain ⟨c0, c1, c2, c3, c4, c5⟩ := HX.out.box.cells
      go_wp2_with fail
      clear c0 c1 c2 c3 c4 c5
      refine (HDT.out _ HG.out).mono ?_
      rintro e VT ⟨rfl, hb⟩
      have HT := Lib.hid (NR.new (t := 25) (F := 0) (L := 0) (R := 0) (H := ⟨#[]⟩) (Rows2.empty VT))
      have hb := hb.trans' (nbox_below 25 0 0 0 ⟨#[]⟩ none 0 0 none 0 0 VT)
      replace HB := Lib.hid (HB.out.trans' hb)
      replace HG := Lib.hid (HG0.out.below HG0.out.lt HB.out)
      clear hb
      simp only [nbox] at HB HG HT 
      obtain ⟨c0, c1, c2, c3, c4, c5⟩ := HT.out.box.cells
      go_wp2_with fail
      refine (HS0.out _).mono ?_
      rintro e V7 ⟨rfl, hb⟩
      replace HB := Lib.hid (HB.out.trans' hb)
      replace HG := Lib.hid (HG0.out.below HG0.out.lt HB.out)
      clear hb
      clear c0 c1 c2 c3 c4 c5
      go_wp2_with fail
      refine (HFX.out _ HG.out).mono ?_
      rintro e V9 ⟨rfl, hb⟩
      go_wp2_with fail
      go_ret
      exact ⟨rfl, HB.out.trans' hb⟩
end Go.Proofs.YtembccehokodeaaGreatDoor
