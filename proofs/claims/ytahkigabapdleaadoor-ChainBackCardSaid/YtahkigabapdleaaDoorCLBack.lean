/-
  The walk of ChainBack. Written by wip/gen_clback.py.
-/
import Derived.Test.YtahkigabapdleaaDoorCFixed
namespace Go.Proofs.YtahkigabapdleaaDoor
open Go.RowKit CP
set_option linter.unusedVariables false
set_option linter.unusedSimpArgs false

set_option maxHeartbeats 4000000 in
set_option maxRecDepth 100000 in
theorem chainBack_any (hfx : Fixes) (F N : Int) (D : ByteArray) (p : Int) (s : ByteArray) (w : World) (hg : L7.Sizes w) (hs : s.size ≤ maxLen) :
    Calls Tryd.prog 4 #[cv F N D, .int .i64 p, .string s] w fun e w' => e = .returned (.bool true) ∧ Below w.heap.size w w' := by
  have hb0 := cbox_below 23 F N D w
  have HB0 := Lib.hid hb0
  have HK0 := Lib.hid (cbox_new 23 F N D w)
  have HFX : Hid (L7.Tells 18 #[] (.bool true)) := Lib.hid hfx
  have HG0 := Lib.hid hg
  have HC := Lib.hid (fun W => cut_any F N D W)
  have hE := cutD_size D
  generalize cutD D = E at *
  simp only [cbox] at HB0 HK0
  clear hb0 hfx
  obtain ⟨m, hm1, hm2, hm3⟩ := cut_1100 s
  obtain ⟨T, hT⟩ : ∃ T, s.extract 0 m = T := ⟨_, rfl⟩
  have hT2 : T.size ≤ 1100 := by rw [← hT, ByteArray.size_extract]; omega
  have q1 : (0 : Int) ≤ m := by omega
  have q2 : (m : Int) ≤ s.size := by omega
  clear hm2 hm3 hs
  obtain ⟨S, c, he⟩ : ∃ S c, enc F N E p = (S, c) := ⟨_, _, rfl⟩
  have HE := tEnc F N E p he
  have hcs := enc_cases F N E p
  rw [he] at hcs
  by_cases hc : c = 0
  · subst hc
    obtain ⟨hmay, hsz, hdS⟩ := enc_facts he
    have hp := mayBe_le hmay.1
    have HM := tMay F N E p (decide_eq_true hmay)
    have HD := tDec S (decV_some hdS) (by unfold maxLen; omega)
    have hz : ((S.size : Int) != p) = false := by simp; omega
    have hz2 : ((S.size : Int) == p) = true := by simp; omega
    have HSZ : Hid ((S.size : Int) = p) := Lib.hid hsz
    clear hmay hsz hdS he hcs hp
    cases hX : dec T with
    | some X =>
      obtain ⟨F', N', D'⟩ := X
      obtain ⟨e1, e2, e3, e4⟩ := dec_facts hX
      have HT := tDec T (decV_some hX) (by unfold maxLen; omega)
      have HET := tEnc F' N' D' T.size e1
      have ht1 : (T.toList == T.toList) = true := by simp
      clear e1 e2 e3 e4 hX
      obtain ⟨c0, c1, c2⟩ := HK0.out.cells
      go_enter Tryd.func4, Tryd.ntmps4
      go_wp2_with fail
      refine (HC.out _).mono ?_
      rintro e V ⟨rfl, hb⟩
      clear c0 c1 c2
      have HK1 := Lib.hid (HK0.out.below hb)
      have HB1 := Lib.hid (HB0.out.trans' hb)
      obtain ⟨c0, c1, c2⟩ := HK1.out.cells
      obtain ⟨f0, f1, f2⟩ := HK1.out.free
      have HX := Lib.hid (setC_box HK1.out F N E)
      have HB := Lib.hid (setC_below HB1.out (Nat.le_refl _) F N E)
      have HG := Lib.hid (HG0.out.below HG0.out.lt HB.out)
      unfold setC at HX HB HG
      obtain ⟨r0, r1, r2⟩ := HX.out.cells
      clear hb HK1 HB1
      go_wp2_with fail
      clear c0 c1 c2 f0 f1 f2 r0 r1 r2
      generalize ((V.setCell ⟨w.heap.size, 0, none⟩ (.int .i64 F)).setCell ⟨w.heap.size, 1, none⟩ (.int .i64 N)).setCell ⟨w.heap.size, 2, none⟩ (.string E) = W2 at *
      obtain ⟨c0, c1, c2⟩ := HX.out.cells
      go_wp2_with fail
      (try rw [hT])
      refine (HE.out _ HG.out).mono ?_
      rintro e V ⟨rfl, hb⟩
      replace HB := Lib.hid (HB.out.trans' hb)
      replace HG := Lib.hid (HG0.out.below HG0.out.lt HB.out)
      replace HX := Lib.hid (HX.out.below hb)
      clear hb
      clear c0 c1 c2
      obtain ⟨c0, c1, c2⟩ := HX.out.cells
      go_wp2_with fail
      refine (HM.out _ HG.out).mono ?_
      rintro e V ⟨rfl, hb⟩
      replace HB := Lib.hid (HB.out.trans' hb)
      replace HG := Lib.hid (HG0.out.below HG0.out.lt HB.out)
      replace HX := Lib.hid (HX.out.below hb)
      clear hb
      clear c0 c1 c2
      obtain ⟨c0, c1, c2⟩ := HX.out.cells
      go_wp2_with fail
      refine (HD.out _ HG.out).mono ?_
      rintro e V ⟨rfl, hb⟩
      have HY := Lib.hid (cbox_new 23 F N E V)
      have hb := hb.trans' (cbox_below 23 F N E V)
      replace HB := Lib.hid (HB.out.trans' hb)
      replace HG := Lib.hid (HG0.out.below HG0.out.lt HB.out)
      replace HX := Lib.hid (HX.out.below hb)
      simp only [cbox] at HB HG HX HY
      clear hb
      clear c0 c1 c2
      obtain ⟨c0, c1, c2⟩ := HX.out.cells
      obtain ⟨y0, y1, y2⟩ := HY.out.cells
      go_wp2_with fail
      refine (HT.out _ HG.out).mono ?_
      rintro e V ⟨rfl, hb⟩
      have HZ := Lib.hid (cbox_new 23 F' N' D' V)
      have hb := hb.trans' (cbox_below 23 F' N' D' V)
      replace HB := Lib.hid (HB.out.trans' hb)
      replace HG := Lib.hid (HG0.out.below HG0.out.lt HB.out)
      replace HX := Lib.hid (HX.out.below hb)
      simp only [cbox] at HB HG HX HZ
      clear hb
      clear c0 c1 c2
      clear y0 y1 y2 HY
      obtain ⟨z0, z1, z2⟩ := HZ.out.cells
      go_wp2_with fail
      refine (HET.out _ HG.out).mono ?_
      rintro e V ⟨rfl, hb⟩
      replace HB := Lib.hid (HB.out.trans' hb)
      replace HG := Lib.hid (HG0.out.below HG0.out.lt HB.out)
      clear hb
      go_wp2_with fail
      refine (HFX.out _ HG.out).mono ?_
      rintro e V ⟨rfl, hb⟩
      replace HB := Lib.hid (HB.out.trans' hb)
      replace HG := Lib.hid (HG0.out.below HG0.out.lt HB.out)
      clear hb
      go_wp2_with fail
      go_ret
      exact ⟨rfl, HB.out⟩
    | none =>
      have HT := tDec T (decV_none hX) (by unfold maxLen; omega)
      clear hX
      obtain ⟨c0, c1, c2⟩ := HK0.out.cells
      go_enter Tryd.func4, Tryd.ntmps4
      go_wp2_with fail
      refine (HC.out _).mono ?_
      rintro e V ⟨rfl, hb⟩
      clear c0 c1 c2
      have HK1 := Lib.hid (HK0.out.below hb)
      have HB1 := Lib.hid (HB0.out.trans' hb)
      obtain ⟨c0, c1, c2⟩ := HK1.out.cells
      obtain ⟨f0, f1, f2⟩ := HK1.out.free
      have HX := Lib.hid (setC_box HK1.out F N E)
      have HB := Lib.hid (setC_below HB1.out (Nat.le_refl _) F N E)
      have HG := Lib.hid (HG0.out.below HG0.out.lt HB.out)
      unfold setC at HX HB HG
      obtain ⟨r0, r1, r2⟩ := HX.out.cells
      clear hb HK1 HB1
      go_wp2_with fail
      clear c0 c1 c2 f0 f1 f2 r0 r1 r2
      generalize ((V.setCell ⟨w.heap.size, 0, none⟩ (.int .i64 F)).setCell ⟨w.heap.size, 1, none⟩ (.int .i64 N)).setCell ⟨w.heap.size, 2, none⟩ (.string E) = W2 at *
      obtain ⟨c0, c1, c2⟩ := HX.out.cells
      go_wp2_with fail
      (try rw [hT])
      refine (HE.out _ HG.out).mono ?_
      rintro e V ⟨rfl, hb⟩
      replace HB := Lib.hid (HB.out.trans' hb)
      replace HG := Lib.hid (HG0.out.below HG0.out.lt HB.out)
      replace HX := Lib.hid (HX.out.below hb)
      clear hb
      clear c0 c1 c2
      obtain ⟨c0, c1, c2⟩ := HX.out.cells
      go_wp2_with fail
      refine (HM.out _ HG.out).mono ?_
      rintro e V ⟨rfl, hb⟩
      replace HB := Lib.hid (HB.out.trans' hb)
      replace HG := Lib.hid (HG0.out.below HG0.out.lt HB.out)
      replace HX := Lib.hid (HX.out.below hb)
      clear hb
      clear c0 c1 c2
      obtain ⟨c0, c1, c2⟩ := HX.out.cells
      go_wp2_with fail
      refine (HD.out _ HG.out).mono ?_
      rintro e V ⟨rfl, hb⟩
      have HY := Lib.hid (cbox_new 23 F N E V)
      have hb := hb.trans' (cbox_below 23 F N E V)
      replace HB := Lib.hid (HB.out.trans' hb)
      replace HG := Lib.hid (HG0.out.below HG0.out.lt HB.out)
      replace HX := Lib.hid (HX.out.below hb)
      simp only [cbox] at HB HG HX HY
      clear hb
      clear c0 c1 c2
      obtain ⟨c0, c1, c2⟩ := HX.out.cells
      obtain ⟨y0, y1, y2⟩ := HY.out.cells
      go_wp2_with fail
      refine (HT.out _ HG.out).mono ?_
      rintro e V ⟨rfl, hb⟩
      have HZ := Lib.hid (cbox_new 23 0 0 ⟨#[]⟩ V)
      have hb := hb.trans' (cbox_below 23 0 0 ⟨#[]⟩ V)
      replace HB := Lib.hid (HB.out.trans' hb)
      replace HG := Lib.hid (HG0.out.below HG0.out.lt HB.out)
      replace HX := Lib.hid (HX.out.below hb)
      simp only [cbox] at HB HG HX HZ
      clear hb
      clear c0 c1 c2
      clear y0 y1 y2 HY
      obtain ⟨z0, z1, z2⟩ := HZ.out.cells
      go_wp2_with fail
      refine (HFX.out _ HG.out).mono ?_
      rintro e V ⟨rfl, hb⟩
      replace HB := Lib.hid (HB.out.trans' hb)
      replace HG := Lib.hid (HG0.out.below HG0.out.lt HB.out)
      clear hb
      go_wp2_with fail
      go_ret
      exact ⟨rfl, HB.out⟩
  · obtain ⟨hmay, hc1, hc2⟩ : ¬ May F N E.size p ∧ (c == 0) = false ∧ (c != 0) = true := by
      rcases hcs with ⟨_, h1, h2⟩ | ⟨_, h1, h2⟩ | ⟨_, h1, h2⟩
      · exact ⟨h1, by simpa using hc, by simpa using hc⟩
      · exact ⟨h1, by simpa using hc, by simpa using hc⟩
      · exact absurd (congrArg Prod.snd h2) hc
    have HM := tMay F N E p (decide_eq_false hmay)
    clear hmay he hcs hc
    cases hX : dec T with
    | some X =>
      obtain ⟨F', N', D'⟩ := X
      obtain ⟨e1, e2, e3, e4⟩ := dec_facts hX
      have HT := tDec T (decV_some hX) (by unfold maxLen; omega)
      have HET := tEnc F' N' D' T.size e1
      have ht1 : (T.toList == T.toList) = true := by simp
      clear e1 e2 e3 e4 hX
      obtain ⟨c0, c1, c2⟩ := HK0.out.cells
      go_enter Tryd.func4, Tryd.ntmps4
      go_wp2_with fail
      refine (HC.out _).mono ?_
      rintro e V ⟨rfl, hb⟩
      clear c0 c1 c2
      have HK1 := Lib.hid (HK0.out.below hb)
      have HB1 := Lib.hid (HB0.out.trans' hb)
      obtain ⟨c0, c1, c2⟩ := HK1.out.cells
      obtain ⟨f0, f1, f2⟩ := HK1.out.free
      have HX := Lib.hid (setC_box HK1.out F N E)
      have HB := Lib.hid (setC_below HB1.out (Nat.le_refl _) F N E)
      have HG := Lib.hid (HG0.out.below HG0.out.lt HB.out)
      unfold setC at HX HB HG
      obtain ⟨r0, r1, r2⟩ := HX.out.cells
      clear hb HK1 HB1
      go_wp2_with fail
      clear c0 c1 c2 f0 f1 f2 r0 r1 r2
      generalize ((V.setCell ⟨w.heap.size, 0, none⟩ (.int .i64 F)).setCell ⟨w.heap.size, 1, none⟩ (.int .i64 N)).setCell ⟨w.heap.size, 2, none⟩ (.string E) = W2 at *
      obtain ⟨c0, c1, c2⟩ := HX.out.cells
      go_wp2_with fail
      (try rw [hT])
      refine (HE.out _ HG.out).mono ?_
      rintro e V ⟨rfl, hb⟩
      replace HB := Lib.hid (HB.out.trans' hb)
      replace HG := Lib.hid (HG0.out.below HG0.out.lt HB.out)
      replace HX := Lib.hid (HX.out.below hb)
      clear hb
      clear c0 c1 c2
      obtain ⟨c0, c1, c2⟩ := HX.out.cells
      go_wp2_with fail
      refine (HM.out _ HG.out).mono ?_
      rintro e V ⟨rfl, hb⟩
      replace HB := Lib.hid (HB.out.trans' hb)
      replace HG := Lib.hid (HG0.out.below HG0.out.lt HB.out)
      replace HX := Lib.hid (HX.out.below hb)
      clear hb
      clear c0 c1 c2
      obtain ⟨c0, c1, c2⟩ := HX.out.cells
      go_wp2_with fail
      refine (HT.out _ HG.out).mono ?_
      rintro e V ⟨rfl, hb⟩
      have HZ := Lib.hid (cbox_new 23 F' N' D' V)
      have hb := hb.trans' (cbox_below 23 F' N' D' V)
      replace HB := Lib.hid (HB.out.trans' hb)
      replace HG := Lib.hid (HG0.out.below HG0.out.lt HB.out)
      replace HX := Lib.hid (HX.out.below hb)
      simp only [cbox] at HB HG HX HZ
      clear hb
      clear c0 c1 c2
      obtain ⟨z0, z1, z2⟩ := HZ.out.cells
      go_wp2_with fail
      refine (HET.out _ HG.out).mono ?_
      rintro e V ⟨rfl, hb⟩
      replace HB := Lib.hid (HB.out.trans' hb)
      replace HG := Lib.hid (HG0.out.below HG0.out.lt HB.out)
      clear hb
      go_wp2_with fail
      refine (HFX.out _ HG.out).mono ?_
      rintro e V ⟨rfl, hb⟩
      replace HB := Lib.hid (HB.out.trans' hb)
      replace HG := Lib.hid (HG0.out.below HG0.out.lt HB.out)
      clear hb
      go_wp2_with fail
      go_ret
      exact ⟨rfl, HB.out⟩
    | none =>
      have HT := tDec T (decV_none hX) (by unfold maxLen; omega)
      clear hX
      obtain ⟨c0, c1, c2⟩ := HK0.out.cells
      go_enter Tryd.func4, Tryd.ntmps4
      go_wp2_with fail
      refine (HC.out _).mono ?_
      rintro e V ⟨rfl, hb⟩
      clear c0 c1 c2
      have HK1 := Lib.hid (HK0.out.below hb)
      have HB1 := Lib.hid (HB0.out.trans' hb)
      obtain ⟨c0, c1, c2⟩ := HK1.out.cells
      obtain ⟨f0, f1, f2⟩ := HK1.out.free
      have HX := Lib.hid (setC_box HK1.out F N E)
      have HB := Lib.hid (setC_below HB1.out (Nat.le_refl _) F N E)
      have HG := Lib.hid (HG0.out.below HG0.out.lt HB.out)
      unfold setC at HX HB HG
      obtain ⟨r0, r1, r2⟩ := HX.out.cells
      clear hb HK1 HB1
      go_wp2_with fail
      clear c0 c1 c2 f0 f1 f2 r0 r1 r2
      generalize ((V.setCell ⟨w.heap.size, 0, none⟩ (.int .i64 F)).setCell ⟨w.heap.size, 1, none⟩ (.int .i64 N)).setCell ⟨w.heap.size, 2, none⟩ (.string E) = W2 at *
      obtain ⟨c0, c1, c2⟩ := HX.out.cells
      go_wp2_with fail
      (try rw [hT])
      refine (HE.out _ HG.out).mono ?_
      rintro e V ⟨rfl, hb⟩
      replace HB := Lib.hid (HB.out.trans' hb)
      replace HG := Lib.hid (HG0.out.below HG0.out.lt HB.out)
      replace HX := Lib.hid (HX.out.below hb)
      clear hb
      clear c0 c1 c2
      obtain ⟨c0, c1, c2⟩ := HX.out.cells
      go_wp2_with fail
      refine (HM.out _ HG.out).mono ?_
      rintro e V ⟨rfl, hb⟩
      replace HB := Lib.hid (HB.out.trans' hb)
      replace HG := Lib.hid (HG0.out.below HG0.out.lt HB.out)
      replace HX := Lib.hid (HX.out.below hb)
      clear hb
      clear c0 c1 c2
      obtain ⟨c0, c1, c2⟩ := HX.out.cells
      go_wp2_with fail
      refine (HT.out _ HG.out).mono ?_
      rintro e V ⟨rfl, hb⟩
      have HZ := Lib.hid (cbox_new 23 0 0 ⟨#[]⟩ V)
      have hb := hb.trans' (cbox_below 23 0 0 ⟨#[]⟩ V)
      replace HB := Lib.hid (HB.out.trans' hb)
      replace HG := Lib.hid (HG0.out.below HG0.out.lt HB.out)
      replace HX := Lib.hid (HX.out.below hb)
      simp only [cbox] at HB HG HX HZ
      clear hb
      clear c0 c1 c2
      obtain ⟨z0, z1, z2⟩ := HZ.out.cells
      go_wp2_with fail
      refine (HFX.out _ HG.out).mono ?_
      rintro e V ⟨rfl, hb⟩
      replace HB := Lib.hid (HB.out.trans' hb)
      replace HG := Lib.hid (HG0.out.below HG0.out.lt HB.out)
      clear hb
      go_wp2_with fail
      go_ret
      exact ⟨rfl, HB.out⟩
theorem chainBack_walk (F N : Int) (D : ByteArray) (p : Int) (s : ByteArray) (w : World) (hg : L7.Sizes w) (hF : (Lit.int .i64 F).wf = true) (hN : (Lit.int .i64 N).wf = true) (hD : D.size ≤ maxLen) (hp : (Lit.int .i64 p).wf = true) (hs : s.size ≤ maxLen) :
    Calls Tryd.prog 4 #[cv F N D, .int .i64 p, .string s] w fun e w' => e = .returned (.bool true) ∧ Below w.heap.size w w' := chainBack_any fixed_any F N D p s w hg hs
end Go.Proofs.YtahkigabapdleaaDoor
