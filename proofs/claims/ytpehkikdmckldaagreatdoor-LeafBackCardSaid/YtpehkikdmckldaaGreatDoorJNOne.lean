/-
  The walk of LeafOne.
-/
import Derived.Test.YtpehkikdmckldaaGreatDoorJ13
import Derived.Test.YtpehkikdmckldaaGreatDoorJNCut
import Derived.Test.YtpehkikdmckldaaGreatDoorJ18
import Derived.Test.YtpehkikdmckldaaGreatDoorJ11
namespace Go.Proofs.YtpehkikdmckldaaGreatDoor
open Go.RowKit NP
set_option linter.unusedVariables false
set_option linter.unusedSimpArgs false

theorem one_cases (l : Lf) (p : Int) (h : l.items.length ≤ 1) : (L7.mayBe p = false ∧ enc l p = (⟨#[]⟩, 4)) ∨ (L7.mayBe p = true ∧ ¬ May l p ∧ enc l p = (⟨#[]⟩, 3)) ∨ (L7.mayBe p = true ∧ May l p ∧ ∃ S, enc l p = (S, 0)) := by
  rcases enc_cases l p with h1 | h1 | ⟨h1, h2, _⟩ | ⟨h1, _, h2⟩
  · exact .inl h1
  · exact .inr (.inl h1)
  · have := one_fits h1 h
    omega
  · exact .inr (.inr ⟨h1.1, h1, _, h2⟩)
set_option maxHeartbeats 4000000 in
set_option maxRecDepth 100000 in
theorem leafOne_any (hfx : Fixes) (F R : Int) (H : ByteArray) (A : Option Addr) (l : List It) (ca : Nat) (p : Int) (w : World) (hg : Glo w) (hH : H.size ≤ maxLen) (ha : Lies5 w w.heap.size A l) (hs : ∀ x ∈ l, x.k.size ≤ maxLen ∧ x.s.size ≤ maxLen) (hl : l.length ≤ maxLen) :
    Calls Tryz.prog 5 #[lv F R H A l.length ca, .int .i64 p] w fun e w' => e = .returned (.bool true) ∧ Below w.heap.size w w' := by
  have hb0 := lbox_below 24 F R H A l.length ca w
  have hsz0 := lbox_size 24 F R H A l.length ca w
  have HB0 := Lib.hid hb0
  have HK0 := Lib.hid (lbox_new 24 F R H A l.length ca w)
  have HFX := Lib.hid hfx
  have HG0 := Lib.hid hg
  have HC := Lib.hid (cutO_any F R H A l ca _ (ha.on hb0) (by unfold maxLen at hl; omega) hH hs)
  have HSR : Hid (∀ W, Calls Tryz.prog 25 #[.int .i64 p] W fun e w' => e = .returned (.bool (L7.mayBe p)) ∧ W = w') := Lib.hid (fun W => L7.sizeRef_any p W)
  obtain ⟨HH, hHH⟩ : ∃ HH, cutH H = HH := ⟨_, rfl⟩
  obtain ⟨L, hL⟩ : ∃ L, cut20 l = L := ⟨_, rfl⟩
  have hHs : HH.size ≤ maxLen := by rw [← hHH, cutH, ByteArray.size_extract]; unfold maxLen; omega
  have hLn : L.length ≤ 20 := by rw [← hL, cut20_length]; omega
  rw [hHH, hL] at HC
  obtain ⟨n, hn⟩ : ∃ n, L.length = n := ⟨_, rfl⟩
  rw [hn] at HC hLn
  obtain ⟨m, hm, hm1, hmn⟩ : ∃ m : Nat, min (n : Int) 1 = m ∧ m ≤ 1 ∧ m ≤ n := ⟨min n 1, by omega, by omega, by omega⟩
  obtain ⟨M, hM⟩ : ∃ M, L.take m = M := ⟨_, rfl⟩
  have hMn : M.length = m := by rw [← hM, List.length_take]; omega
  have HE := Lib.hid (fun G cap W (h : L7.Sizes W) (h2 : Lies5 W W.heap.size G M) => enc_any F R HH G M cap p W h h2 (by omega) hHs)
  have HM := Lib.hid (fun G cap W (h : L7.Sizes W) (h2 : Lies5 W W.heap.size G M) => may_any F R HH G M cap p W h h2 (by omega) hHs)
  have hcs := one_cases ⟨F, R, HH, M⟩ p (by show M.length ≤ 1; omega)
  rw [encV] at HE
  rw [hMn] at HE HM
  have HN := Lib.hid hn
  have HMM := Lib.hid hM
  simp only [lbox] at HC HB0 HK0
  rw [lbox] at hsz0
  generalize l.length = l0 at *
  clear hb0 ha hs hl hg hfx hH hHH hL hHs hn hM hMn
  go_enter Tryz.func5, Tryz.ntmps5
  go_wp2_with fail
  refine HC.out.mono ?_
  rintro e V ⟨G, cap, rfl, hO, hb⟩
  have hcap := own5_cap hO
  have hL5 := lies5_own hO HN.out.symm
  have HK1 := Lib.hid (HK0.out.below hb)
  have HB1 := Lib.hid (HB0.out.trans' hb)
  have hne : ∀ a, G = some a → a.block ≠ w.heap.size := fun a e => by
    subst e
    have h := own5_block hO (g := a.block) rfl
    rw [hsz0] at h
    omega
  have HK2 := setL_box HK1.out F R HH G n cap
  have HL3 := ((setL_lies hL5 hne F R HH G n cap).other (q := w.heap.size) (o := 3) hne (.slice G m cap)).take m
  have HK3 := HK2.set3 G m cap
  have HB3 := (setL_below HB1.out (Nat.le_refl _) F R HH G n cap).setCell (p := ⟨w.heap.size, 3, none⟩) (Nat.le_refl _) (.slice G m cap)
  obtain ⟨c0, c1, c2, c3⟩ := HK1.out.cells
  obtain ⟨f0, f1, f2, f3⟩ := HK1.out.free
  obtain ⟨r0, r1, r2, r3⟩ := HK2.cells
  obtain ⟨s0, s1, s2, s3⟩ := HK2.free
  rw [HMM.out, show V.heap.size = ((setL V w.heap.size F R HH G n cap).setCell ⟨w.heap.size, 3, none⟩ (.slice G m cap)).heap.size by simp [setL_size]] at HL3
  unfold setL at r0 r1 r2 r3 s0 s1 s2 s3 HL3 HK3 HB3
  have HK3 := Lib.hid HK3
  have HB3 := Lib.hid HB3
  have HL3 := Lib.hid HL3
  have HG3 := Lib.hid (HG0.out.on HB3.out)
  clear hO hb hL5 HK2 HB1 HK1 hne HC
  go_wp2_with fail
  clear c0 c1 c2 c3 f0 f1 f2 f3 r0 r1 r2 r3 s0 s1 s2 s3
  generalize (((((V.setCell ⟨w.heap.size, 0, none⟩ (.int .i64 F)).setCell ⟨w.heap.size, 1, none⟩ (.int .i64 R)).setCell ⟨w.heap.size, 2, none⟩ (.string HH)).setCell ⟨w.heap.size, 3, none⟩ (.slice G n cap)).setCell ⟨w.heap.size, 3, none⟩ (.slice G m cap)) = W3 at *
  refine (HE.out G cap _ HG3.out.sizes HL3.out).mono ?_
  rintro e V ⟨rfl, hb⟩
  have HK4 := Lib.hid (HK3.out.below hb)
  have HB4 := Lib.hid (HB3.out.trans' hb)
  have HL4 := Lib.hid (HL3.out.on hb)
  have HG4 := Lib.hid (HG0.out.on HB4.out)
  clear hb HK3 HB3 HL3 HG3
  obtain ⟨c0, c1, c2, c3⟩ := HK4.out.cells
  rcases hcs with ⟨hp, he⟩ | ⟨hp, hmay, he⟩ | ⟨hp, hmay, S, he⟩
  · rw [hp] at HSR
    rw [he]
    clear hp he HM HE
    go_wp2_with fail
    refine (HSR.out _).mono ?_
    rintro e V ⟨rfl, rfl⟩
    go_wp2_with fail
    refine (HFX.out _ HG4.out).mono ?_
    rintro e V2 ⟨rfl, hb2⟩
    go_wp2_with fail
    go_ret
    exact ⟨rfl, HB4.out.trans' hb2⟩
  · rw [hp] at HSR
    rw [decide_eq_false hmay] at HM
    rw [he]
    clear hp he hmay HE
    go_wp2_with fail
    refine (HSR.out _).mono ?_
    rintro e V ⟨rfl, rfl⟩
    go_wp2_with fail
    refine (HM.out G cap _ HG4.out.sizes HL4.out).mono ?_
    rintro e V2 ⟨rfl, hb2⟩
    go_wp2_with fail
    refine (HFX.out _ (HG4.out.on hb2)).mono ?_
    rintro e V3 ⟨rfl, hb3⟩
    go_wp2_with fail
    go_ret
    exact ⟨rfl, (HB4.out.trans' hb2).trans' hb3⟩
  · rw [hp] at HSR
    rw [decide_eq_true hmay] at HM
    rw [he]
    clear hp he hmay HE
    go_wp2_with fail
    refine (HSR.out _).mono ?_
    rintro e V ⟨rfl, rfl⟩
    go_wp2_with fail
    refine (HM.out G cap _ HG4.out.sizes HL4.out).mono ?_
    rintro e V2 ⟨rfl, hb2⟩
    go_wp2_with fail
    refine (HFX.out _ (HG4.out.on hb2)).mono ?_
    rintro e V3 ⟨rfl, hb3⟩
    go_wp2_with fail
    go_ret
    exact ⟨rfl, (HB4.out.trans' hb2).trans' hb3⟩
end Go.Proofs.YtpehkikdmckldaaGreatDoor
