/-
  The walk of LeafEach, where the leaf may not be.
-/
import Derived.Test.YtpehkikdmckldaaGreatDoorJ18
import Derived.Test.YtpehkikdmckldaaGreatDoorJNCut
import Derived.Test.YtpehkikdmckldaaGreatDoorJNDMay
namespace Go.Proofs.YtpehkikdmckldaaGreatDoor
open Go.RowKit NP
set_option linter.unusedVariables false
set_option linter.unusedSimpArgs false

set_option maxHeartbeats 4000000 in
set_option maxRecDepth 100000 in
theorem leafEach_no (hfx : Fixes) (F R : Int) (H : ByteArray) (A : Option Addr) (l : List It) (ca : Nat) (p : Int) (nn : Int) (w : World) (hg : Glo w) (hH : H.size ≤ maxLen) (ha : Lies5 w w.heap.size A l) (hs : ∀ x ∈ l, x.k.size ≤ maxLen ∧ x.s.size ≤ maxLen) (hl : l.length ≤ maxLen) (hp : (Lit.int .i64 p).wf = true) (hnn : (Lit.int .u8 nn).wf = true)
    (hmay : ¬ May ⟨F, R, cutH H, cut20 l⟩ p) :
    Calls Tryz.prog 8 #[lv F R H A l.length ca, .int .i64 p, .int .u8 nn] w fun e w' => e = .returned (.bool true) ∧ Below w.heap.size w w' := by
  have hb0 := lbox_below 24 F R H A l.length ca w
  have hsz0 := lbox_size 24 F R H A l.length ca w
  have HB0 := Lib.hid hb0
  have HK0 := Lib.hid (lbox_new 24 F R H A l.length ca w)
  have HFX := Lib.hid hfx
  have HG0 := Lib.hid hg
  have HC := Lib.hid (cutO_any F R H A l ca _ (ha.on hb0) (by unfold maxLen at hl; omega) hH hs)
  obtain ⟨HH, hHH⟩ : ∃ HH, cutH H = HH := ⟨_, rfl⟩
  obtain ⟨L, hL⟩ : ∃ L, cut20 l = L := ⟨_, rfl⟩
  have hHs : HH.size ≤ maxLen := by rw [← hHH, cutH, ByteArray.size_extract]; unfold maxLen; omega
  have hLn : L.length ≤ 20 := by rw [← hL, cut20_length]; omega
  have hLs : ∀ x ∈ L, x.k.size ≤ maxLen ∧ x.s.size ≤ maxLen := by
    intro x hx
    rw [← hL] at hx
    obtain ⟨y, _, rfl⟩ := List.mem_map.1 hx
    have h1 : (cutH y.k).size ≤ 140 := by rw [cutH, ByteArray.size_extract]; omega
    have h2 := L9.cutV_size y.s
    unfold maxLen
    exact ⟨by show (cutH y.k).size ≤ _; omega, by show (L9.cutV y.s).size ≤ _; omega⟩
  rw [hHH, hL] at HC hmay
  obtain ⟨n, hn⟩ : ∃ n, L.length = n := ⟨_, rfl⟩
  have HM := Lib.hid (fun G cap W (h : L7.Sizes W) (h2 : Lies5 W W.heap.size G L) => may_any F R HH G L cap p W h h2 (by omega) hHs)
  have RF := Lib.hid (fun G cap W (h : Lies5 W W.heap.size G L) => ref_any F R HH G L cap W h (by omega))
  have RM := Lib.hid (fun G cap W (h2 : Lies5 W W.heap.size G L) => rmay_any F R HH G L cap p W h2 (by omega) hHs)
  rw [decide_eq_false hmay] at HM RM
  rw [hn] at RF RM
  rw [hn] at HC hLn HM
  have HN := Lib.hid hn
  simp only [lbox] at HC HB0 HK0
  rw [lbox] at hsz0
  generalize l.length = l0 at *
  clear hb0 ha hs hl hg hfx hH hHH hL hHs hn hmay hLs
  go_enter Tryz.func8, Tryz.ntmps8
  go_wp2_with fail
  refine HC.out.mono ?_
  rintro e V ⟨G, cap, rfl, hO, hb⟩
  have hL5 := lies5_own hO HN.out.symm
  have HK1 := Lib.hid (HK0.out.below hb)
  have HB1 := Lib.hid (HB0.out.trans' hb)
  have hne : ∀ a, G = some a → a.block ≠ w.heap.size := fun a e => by
    subst e
    have h := own5_block hO (g := a.block) rfl
    rw [hsz0] at h
    omega
  obtain ⟨c0, c1, c2, c3⟩ := HK1.out.cells
  obtain ⟨f0, f1, f2, f3⟩ := HK1.out.free
  have HX := Lib.hid (show LR 24 w.heap.size F R HH G n cap L (setL V w.heap.size F R HH G n cap) from ⟨setL_box HK1.out F R HH G n cap, by rw [setL_size]; exact setL_lies hL5 hne F R HH G n cap⟩)
  have HB := Lib.hid (setL_below HB1.out (Nat.le_refl _) F R HH G n cap)
  have HG := Lib.hid (HG0.out.on HB.out)
  unfold setL at HX HB HG
  obtain ⟨r0, r1, r2, r3⟩ := HX.out.box.cells
  clear hO hb hL5 HB1 HK1 hne HC
  go_wp2_with fail
  clear c0 c1 c2 c3 f0 f1 f2 f3 r0 r1 r2 r3
  generalize ((((V.setCell ⟨w.heap.size, 0, none⟩ (.int .i64 F)).setCell ⟨w.heap.size, 1, none⟩ (.int .i64 R)).setCell ⟨w.heap.size, 2, none⟩ (.string HH)).setCell ⟨w.heap.size, 3, none⟩ (.slice G n cap)) = W2 at *
  obtain ⟨c0, c1, c2, c3⟩ := HX.out.box.cells
  refine (HM.out G cap _ HG.out.sizes HX.out.row).mono ?_
  rintro e V ⟨rfl, hb⟩
  replace HB := Lib.hid (HB.out.trans' hb)
  replace HG := Lib.hid (HG0.out.on HB.out)
  replace HX := Lib.hid (HX.out.on hb)
  clear hb c0 c1 c2 c3
  obtain ⟨c0, c1, c2, c3⟩ := HX.out.box.cells
  go_wp2_with fail
  refine (RF.out G cap _ HX.out.row).mono ?_
  rintro e V ⟨G4, cap4, rfl, hL4, hb⟩
  replace HB := Lib.hid (HB.out.trans' hb)
  replace HG := Lib.hid (HG0.out.on HB.out)
  clear hb c0 c1 c2 c3
  go_wp2_with fail
  refine (RM.out G4 cap4 _ hL4).mono ?_
  rintro e V ⟨rfl, hb⟩
  replace HB := Lib.hid (HB.out.trans' hb)
  replace HG := Lib.hid (HG0.out.on HB.out)
  clear hb hL4
  go_wp2_with fail
  refine (HFX.out _ HG.out).mono ?_
  rintro e V9 ⟨rfl, hb⟩
  go_wp2_with fail
  go_ret
  exact ⟨rfl, HB.out.trans' hb⟩
end Go.Proofs.YtpehkikdmckldaaGreatDoor
