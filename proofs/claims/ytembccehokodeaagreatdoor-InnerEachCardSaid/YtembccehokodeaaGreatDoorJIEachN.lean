/-
  The walk of InnerEach, where the page may not be. Written by wip/gen_ieach.py.
-/
import Derived.Test.YtembccehokodeaaGreatDoorJIBad0
import Derived.Test.YtembccehokodeaaGreatDoorJIDMay
import Derived.Test.YtembccehokodeaaGreatDoorJ07
import Derived.Test.YtembccehokodeaaGreatDoorJIBack
namespace Go.Proofs.YtembccehokodeaaGreatDoor
open Go.RowKit IP
set_option linter.unusedVariables false
set_option linter.unusedSimpArgs false

set_option maxHeartbeats 4000000 in
set_option maxRecDepth 100000 in
theorem innerEach_no (hfx : Fixes) (F L R : Int) (H : ByteArray) (A : Option Addr) (n ca : Nat) (C : Option Addr) (m cb : Nat) (ks : List Int) (ss : List ByteArray) (p : Int) (nn : Int) (w : World) (hg : L7.Sizes w) (hr : Rows2 w A n ca C m cb ks ss) (hn : n ≤ maxLen) (hca : ca ≤ maxLen) (hm : m ≤ maxLen) (hH : H.size ≤ maxLen) (hs : ∀ s ∈ ss, s.size ≤ maxLen) (hmay : ¬ May ⟨F, L, R, cutH H, ks.take 30, cutSs ss⟩ p) :
    Calls Tryz.prog 8 #[nv F L R H A n ca C m cb, .int .i64 p, .int .u8 nn] w fun e w' => e = .returned (.bool true) ∧ Below w.heap.size w w' := by
  have hb0 := nbox_below 25 F L R H A n ca C m cb w
  have hsz0 := nbox_size 25 F L R H A n ca C m cb w
  have HB0 := Lib.hid hb0
  have HK0 := Lib.hid (nbox_new 25 F L R H A n ca C m cb w)
  have HFX := Lib.hid hfx
  have HG0 := Lib.hid hg
  have HC := Lib.hid (cutM_any F L R H A n ca C m cb ks ss _ (hr.on hb0) hn hca hm hH hs)
  obtain ⟨HH, hHH⟩ : ∃ HH, cutH H = HH := ⟨_, rfl⟩
  obtain ⟨K1, hK1⟩ : ∃ K1, ks.take 30 = K1 := ⟨_, rfl⟩
  obtain ⟨S1, hS1⟩ : ∃ S1, cutSs ss = S1 := ⟨_, rfl⟩
  obtain ⟨kn, hkn⟩ : ∃ kn, min 30 n = kn := ⟨_, rfl⟩
  obtain ⟨mn, hmn⟩ : ∃ mn, min 30 m = mn := ⟨_, rfl⟩
  have hK1n : K1.length = kn := by rw [← hK1, List.length_take, hr.nk, hkn]
  have hS1n : S1.length = mn := by rw [← hS1, cutSs_length, hr.nm, hmn]
  have hHHs : HH.size ≤ 140 := by rw [← hHH]; exact cutH_size H
  have HS1s : Hid (∀ s ∈ S1, s.size ≤ 140) := Lib.hid (by rw [← hS1]; exact cutSs_size ss)
  rw [hHH, hK1, hS1, hkn, hmn] at HC
  have hk30 : kn ≤ 30 := by omega
  have hm30 : mn ≤ 30 := by omega
  simp only [nbox] at HC HB0 HK0 hsz0
  rw [hHH, hK1, hS1] at hmay
  have HM := Lib.hid (fun A gc D dc W (h : L7.Sizes W) (h2 : Rows2 W A kn gc D mn dc K1 S1) => may_any F L R HH A kn gc D mn dc K1 S1 p W h h2 (by omega) (by omega))
  have HSM : Hid (∀ s ∈ S1, s.size ≤ maxLen) := Lib.hid (fun s h => by have := HS1s.out s h; unfold maxLen; omega)
  have HRM := Lib.hid (fun A gc D dc W (h2 : Rows2 W A kn gc D mn dc K1 S1) => rmay_any F L R HH A kn gc D mn dc K1 S1 p W h2 (by omega) (by omega) (by omega) HSM.out)
  rw [decide_eq_false hmay] at HM HRM
  clear hmay
  clear hb0 hr hs hn hca hm hg hfx hH hHH hK1 hS1 hkn hmn
  obtain ⟨c0, c1, c2, c3, c4, c5⟩ := HK0.out.cells
  go_enter Tryz.func8, Tryz.ntmps8
  go_wp2_with fail
  refine HC.out.mono ?_
  rintro e V ⟨G, gc, D, dc, rfl, hG, hD, hgc, hrw, hb⟩
  have HGC := Lib.hid hgc
  clear c0 c1 c2 c3 c4 c5
  have HK1 := Lib.hid (HK0.out.below hb)
  have HB1 := Lib.hid (HB0.out.trans' hb)
  have hGn : ∀ a, some (⟨G, 0, none⟩ : Addr) = some a → a.block ≠ w.heap.size := fun a e => by
    obtain rfl := Option.some.inj e
    rw [hsz0] at hG
    show G ≠ _
    omega
  have hDn : ∀ a, some (⟨D, 0, none⟩ : Addr) = some a → a.block ≠ w.heap.size := fun a e => by
    obtain rfl := Option.some.inj e
    rw [hsz0] at hD
    show D ≠ _
    omega
  obtain ⟨c0, c1, c2, c3, c4, c5⟩ := HK1.out.cells
  obtain ⟨f0, f1, f2, f3, f4, f5⟩ := HK1.out.free
  have HX := Lib.hid (show NR 25 w.heap.size F L R HH (some ⟨G, 0, none⟩) kn gc (some ⟨D, 0, none⟩) mn dc K1 S1 (setN V w.heap.size F L R HH (some ⟨G, 0, none⟩) kn gc (some ⟨D, 0, none⟩) mn dc) from ⟨setN_box HK1.out F L R HH (some ⟨G, 0, none⟩) kn gc (some ⟨D, 0, none⟩) mn dc, hrw.stored hGn hDn F L R HH (some ⟨G, 0, none⟩) kn gc (some ⟨D, 0, none⟩) mn dc⟩)
  have HB := Lib.hid (setN_below HB1.out (Nat.le_refl _) F L R HH (some ⟨G, 0, none⟩) kn gc (some ⟨D, 0, none⟩) mn dc)
  have HG := Lib.hid (HG0.out.below HG0.out.lt HB.out)
  have hck := hrw.ck
  have hcm := hrw.cm
  unfold setN at HX HB HG
  obtain ⟨r0, r1, r2, r3, r4, r5⟩ := HX.out.box.cells
  clear hb hgc hrw HK1 HB1 hGn hDn HC hG hD
  go_wp2_with fail
  clear c0 c1 c2 c3 c4 c5 f0 f1 f2 f3 f4 f5 r0 r1 r2 r3 r4 r5
  generalize ((((((V.setCell ⟨w.heap.size, 0, none⟩ (.int .i64 F)).setCell ⟨w.heap.size, 1, none⟩ (.int .i64 L)).setCell ⟨w.heap.size, 2, none⟩ (.int .i64 R)).setCell ⟨w.heap.size, 3, none⟩ (.string HH)).setCell ⟨w.heap.size, 4, none⟩ (.slice (some ⟨G, 0, none⟩) kn gc)).setCell ⟨w.heap.size, 5, none⟩ (.slice (some ⟨D, 0, none⟩) mn dc)) = W2 at *
  obtain ⟨c0, c1, c2, c3, c4, c5⟩ := HX.out.box.cells
  refine (HM.out _ gc _ dc _ HG.out HX.out.rows).mono ?_
  rintro e V ⟨rfl, hb⟩
  replace HB := Lib.hid (HB.out.trans' hb)
  replace HG := Lib.hid (HG0.out.below HG0.out.lt HB.out)
  replace HX := Lib.hid (HX.out.on hb)
  clear hb c0 c1 c2 c3 c4 c5
  obtain ⟨c0, c1, c2, c3, c4, c5⟩ := HX.out.box.cells
  go_wp2_with fail
  refine (ref_any _ _ _ _ _ _ _ _ _ _ _).mono ?_
  rintro e V ⟨rfl, hb⟩
  replace HB := Lib.hid (HB.out.trans' hb)
  replace HG := Lib.hid (HG0.out.below HG0.out.lt HB.out)
  replace HX := Lib.hid (HX.out.on hb)
  clear hb c0 c1 c2 c3 c4 c5
  go_wp2_with fail
  refine (HRM.out _ gc _ dc _ HX.out.rows).mono ?_
  rintro e V ⟨rfl, hb⟩
  replace HB := Lib.hid (HB.out.trans' hb)
  replace HG := Lib.hid (HG0.out.below HG0.out.lt HB.out)
  clear hb
  go_wp2_with fail
  refine (HFX.out _ HG.out).mono ?_
  rintro e V9 ⟨rfl, hb⟩
  go_wp2_with fail
  go_ret
  exact ⟨rfl, HB.out.trans' hb⟩
end Go.Proofs.YtembccehokodeaaGreatDoor
