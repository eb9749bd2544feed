/-
  The walk of LeafBack.
-/
import Derived.Test.YtpehkikdmckldaaGreatDoorJ18
import Derived.Test.YtpehkikdmckldaaGreatDoorJNCut
import Derived.Test.YtpehkikdmckldaaGreatDoorJNSame
namespace Go.Proofs.YtpehkikdmckldaaGreatDoor
open Go.RowKit NP
set_option linter.unusedVariables false
set_option linter.unusedSimpArgs false

set_option maxHeartbeats 4000000 in
set_option maxRecDepth 100000 in
theorem leafBack_any (hfx : Fixes) (F R : Int) (H : ByteArray) (A : Option Addr) (l : List It) (ca : Nat) (p : Int) (s : ByteArray) (w : World) (hg : Glo w) (hH : H.size ≤ maxLen) (ha : Lies5 w w.heap.size A l) (hs : ∀ x ∈ l, x.k.size ≤ maxLen ∧ x.s.size ≤ maxLen) (hl : l.length ≤ maxLen) (hss : s.size ≤ maxLen) :
    Calls Tryz.prog 4 #[lv F R H A l.length ca, .int .i64 p, .string s] w fun e w' => e = .returned (.bool true) ∧ Below w.heap.size w w' := by
  have hb0 := lbox_below 24 F R H A l.length ca w
  have hsz0 := lbox_size 24 F R H A l.length ca w
  have HB0 := Lib.hid hb0
  have HK0 := Lib.hid (lbox_new 24 F R H A l.length ca w)
  have HFX := Lib.hid hfx
  have HG0 := Lib.hid hg
  have HC := Lib.hid (cutO_any F R H A l ca _ (ha.on hb0) (by unfold maxLen at hl; omega) hH hs)
  obtain ⟨m, hm1, hm2, hm3⟩ := cut_1100 s
  obtain ⟨T, hT⟩ : ∃ T, s.extract 0 m = T := ⟨_, rfl⟩
  have hT2 : T.size ≤ 1100 := by rw [← hT, ByteArray.size_extract]; omega
  obtain ⟨HH, hHH⟩ : ∃ HH, cutH H = HH := ⟨_, rfl⟩
  obtain ⟨L, hL⟩ : ∃ L, cut20 l = L := ⟨_, rfl⟩
  have hHs : HH.size ≤ maxLen := by rw [← hHH, cutH, ByteArray.size_extract]; unfold maxLen; omega
  have hLn : L.length ≤ 20 := by rw [← hL, cut20_length]; omega
  rw [hHH, hL] at HC
  obtain ⟨n, hn⟩ : ∃ n, L.length = n := ⟨_, rfl⟩
  rw [hn] at HC hLn
  have HN := Lib.hid hn
  simp only [lbox] at HC HB0 HK0
  rw [lbox] at hsz0
  generalize l.length = l0 at *
  unfold maxLen at hss
  clear hb0 ha hs hl hg hfx hH hHH hL
  obtain ⟨S, c, he⟩ : ∃ S c, enc ⟨F, R, HH, L⟩ p = (S, c) := ⟨_, _, rfl⟩
  by_cases hc : c = 0
  · subst hc
    cases hX : dec T with
    | some X =>
      obtain ⟨hmay, hsz, hS, hdS⟩ := enc0_facts he
      have hsz16 : (16 : Int) ≤ p ∧ p ≤ 1024 := by have := mayBe_le hmay.1; omega
      have HE := Lib.hid (fun G cap W (h : Glo W) (h2 : Lies5 W W.heap.size G L) => encT F R HH G L n cap p S 0 hn he (by omega) hHs W h h2)
      have HD1 := Lib.hid (fun W (h : Glo W) => decT S F R HH L n hn hdS W h (by omega))
      have HSA := Lib.hid (fun G1 G2 c1 c2 W (h1 : Lies5 W W.heap.size G1 L) (h2 : Lies5 W W.heap.size G2 L) => same_any F R F R HH HH G1 G2 L L c1 c2 W h1 h2 (by omega) (by omega))
      rw [decide_eq_true ⟨⟨rfl, rfl, rfl⟩, rfl⟩] at HSA
      have HM := Lib.hid (fun G cap W (h : Glo W) (h2 : Lies5 W W.heap.size G L) => may_any F R HH G L cap p W h.sizes h2 (by omega) hHs)
      rw [decide_eq_true hmay] at HM
      have HZ := Lib.hid (fun G cap W (h2 : Lies5 W W.heap.size G L) => lsize_any F R HH G L cap W h2 (May.fit hmay (by omega)))
      generalize size ⟨F, R, HH, L⟩ = z at *
      rw [hn] at HSA HM HZ
      have hw : IntKind.i64.wrap (p - 16) = p - 16 := IntWalk.i64_in _ (by omega)
      clear hmay hdS he hHs
      subst hS
      obtain ⟨F', R', H', l'⟩ := X
      obtain ⟨n', hn'⟩ : ∃ n', l'.length = n' := ⟨_, rfl⟩
      obtain ⟨e1, e2, e3, e4, e5⟩ := dec_facts hX
      simp only at e3 e4
      have HDT := Lib.hid (fun W (h : Glo W) => decT T F' R' H' l' n' hn' hX W h (by omega))
      have HET := Lib.hid (fun G W (h : Glo W) (h2 : Lies5 W W.heap.size G l') => encT F' R' H' G l' n' n' T.size T 0 hn' e1 (by omega) (by unfold maxLen; omega) W h h2)
      have HMT := Lib.hid (fun G W (h : Glo W) (h2 : Lies5 W W.heap.size G l') => may_any F' R' H' G l' n' T.size W h.sizes h2 (by omega) (by unfold maxLen; omega))
      rw [decide_eq_true e2, hn'] at HMT
      clear e1 e2 e3 e4 e5 hX hn'
      clear hn
      go_enter Tryz.func4, Tryz.ntmps4
      go_wp2_with fail
      refine HC.out.mono ?_
      rintro e V ⟨G, cap, rfl, hO, hb⟩
      have hL5 := lies5_own hO HN.out.symm
      have HK1 := Lib.hid (HK0.out.below hb)
      have HB1 := Lib.hid (HB0.out.trans' hb)
      have hne : ∀ a, G = some a → a.block ≠ w.heap.size := fun a e => by
        subst e
        have h := own5_block hO (g := a.block) rfl
        rw [hsz0] at h
        omega
      obtain ⟨c0, c1, c2, c3⟩ := HK1.out.cells
      obtain ⟨f0, f1, f2, f3⟩ := HK1.out.free
      have HX := Lib.hid (show LR 24 w.heap.size F R HH G n cap L (setL V w.heap.size F R HH G n cap) from ⟨setL_box HK1.out F R HH G n cap, by rw [setL_size]; exact setL_lies hL5 hne F R HH G n cap⟩)
      have HB := Lib.hid (setL_below HB1.out (Nat.le_refl _) F R HH G n cap)
      have HG := Lib.hid (HG0.out.on HB.out)
      unfold setL at HX HB HG
      obtain ⟨r0, r1, r2, r3⟩ := HX.out.box.cells
      clear hO hb hL5 HB1 HK1 hne HC
      go_wp2_with fail
      (try rw [hT])
      clear c0 c1 c2 c3 f0 f1 f2 f3 r0 r1 r2 r3
      generalize ((((V.setCell ⟨w.heap.size, 0, none⟩ (.int .i64 F)).setCell ⟨w.heap.size, 1, none⟩ (.int .i64 R)).setCell ⟨w.heap.size, 2, none⟩ (.string HH)).setCell ⟨w.heap.size, 3, none⟩ (.slice G n cap)) = W2 at *
      obtain ⟨c0, c1, c2, c3⟩ := HX.out.box.cells
      go_wp2_with fail
      refine (HE.out G cap _ HG.out HX.out.row).mono ?_
      rintro e V ⟨rfl, hb⟩
      replace HB := Lib.hid (HB.out.trans' hb)
      replace HG := Lib.hid (HG0.out.on HB.out)
      replace HX := Lib.hid (HX.out.on hb)
      clear hb HE c0 c1 c2 c3
      obtain ⟨c0, c1, c2, c3⟩ := HX.out.box.cells
      go_wp2_with fail
      refine (HD1.out _ HG.out).mono ?_
      rintro e V3 ⟨G2, rfl, hL2, hb⟩
      clear c0 c1 c2 c3
      have H2 := Lib.hid (LR.new (t := 24) (F := F) (R := R) (H := HH) (A := G2) (n := n) (ca := n) hL2)
      have hb := hb.trans' (lbox_below 24 F R HH G2 n n V3)
      replace HB := Lib.hid (HB.out.trans' hb)
      replace HG := Lib.hid (HG0.out.on HB.out)
      replace HX := Lib.hid (HX.out.on hb)
      clear hb
      simp only [lbox] at HB HG H2 HX
      obtain ⟨c0, c1, c2, c3⟩ := HX.out.box.cells
      obtain ⟨d0, d1, d2, d3⟩ := H2.out.box.cells
      have hS0 : ((S.size : Int) == (S.size : Int)) = true := beq_self_eq_true _
      go_wp2_with fail
      refine (HSA.out G2 G n cap _ H2.out.row HX.out.row).mono ?_
      rintro e V4 ⟨rfl, hb⟩
      replace HB := Lib.hid (HB.out.trans' hb)
      replace HG := Lib.hid (HG0.out.on HB.out)
      replace HX := Lib.hid (HX.out.on hb)
      clear hb H2 hL2
      clear c0 c1 c2 c3 d0 d1 d2 d3
      obtain ⟨c0, c1, c2, c3⟩ := HX.out.box.cells
      go_wp2_with fail
      refine (HM.out G cap _ HG.out HX.out.row).mono ?_
      rintro e V5 ⟨rfl, hb⟩
      replace HB := Lib.hid (HB.out.trans' hb)
      replace HG := Lib.hid (HG0.out.on HB.out)
      replace HX := Lib.hid (HX.out.on hb)
      clear hb
      clear c0 c1 c2 c3
      obtain ⟨c0, c1, c2, c3⟩ := HX.out.box.cells
      go_wp2_with fail
      refine (HZ.out G cap _ HX.out.row).mono ?_
      rintro e V6 ⟨rfl, hb⟩
      replace HB := Lib.hid (HB.out.trans' hb)
      replace HG := Lib.hid (HG0.out.on HB.out)
      replace HX := Lib.hid (HX.out.on hb)
      clear hb HX
      clear c0 c1 c2 c3
      go_wp2_with fail
      refine (HDT.out _ HG.out).mono ?_
      rintro e VT ⟨GT, rfl, hLT, hb⟩
      have HT := Lib.hid (LR.new (t := 24) (F := F') (R := R') (H := H') (A := GT) (n := n') (ca := n') hLT)
      have hb := hb.trans' (lbox_below 24 F' R' H' GT n' n' VT)
      replace HB := Lib.hid (HB.out.trans' hb)
      replace HG := Lib.hid (HG0.out.on HB.out)
      clear hb
      simp only [lbox] at HB HG HT 
      obtain ⟨c0, c1, c2, c3⟩ := HT.out.box.cells
      go_wp2_with fail
      refine (HET.out GT _ HG.out HT.out.row).mono ?_
      rintro e V7 ⟨rfl, hb⟩
      replace HB := Lib.hid (HB.out.trans' hb)
      replace HG := Lib.hid (HG0.out.on HB.out)
      replace HT := Lib.hid (HT.out.on hb)
      clear hb
      clear c0 c1 c2 c3
      obtain ⟨c0, c1, c2, c3⟩ := HT.out.box.cells
      have hz := text_yes (rfl : T = T)
      go_wp2_with fail
      refine (HMT.out GT _ HG.out HT.out.row).mono ?_
      rintro e V8 ⟨rfl, hb⟩
      replace HB := Lib.hid (HB.out.trans' hb)
      replace HG := Lib.hid (HG0.out.on HB.out)
      clear hb
      clear c0 c1 c2 c3
      go_wp2_with fail
      refine (HFX.out _ HG.out).mono ?_
      rintro e V9 ⟨rfl, hb⟩
      go_wp2_with fail
      go_ret
      exact ⟨rfl, HB.out.trans' hb⟩
    | none =>
      obtain ⟨hmay, hsz, hS, hdS⟩ := enc0_facts he
      have hsz16 : (16 : Int) ≤ p ∧ p ≤ 1024 := by have := mayBe_le hmay.1; omega
      have HE := Lib.hid (fun G cap W (h : Glo W) (h2 : Lies5 W W.heap.size G L) => encT F R HH G L n cap p S 0 hn he (by omega) hHs W h h2)
      have HD1 := Lib.hid (fun W (h : Glo W) => decT S F R HH L n hn hdS W h (by omega))
      have HSA := Lib.hid (fun G1 G2 c1 c2 W (h1 : Lies5 W W.heap.size G1 L) (h2 : Lies5 W W.heap.size G2 L) => same_any F R F R HH HH G1 G2 L L c1 c2 W h1 h2 (by omega) (by omega))
      rw [decide_eq_true ⟨⟨rfl, rfl, rfl⟩, rfl⟩] at HSA
      have HM := Lib.hid (fun G cap W (h : Glo W) (h2 : Lies5 W W.heap.size G L) => may_any F R HH G L cap p W h.sizes h2 (by omega) hHs)
      rw [decide_eq_true hmay] at HM
      have HZ := Lib.hid (fun G cap W (h2 : Lies5 W W.heap.size G L) => lsize_any F R HH G L cap W h2 (May.fit hmay (by omega)))
      generalize size ⟨F, R, HH, L⟩ = z at *
      rw [hn] at HSA HM HZ
      have hw : IntKind.i64.wrap (p - 16) = p - 16 := IntWalk.i64_in _ (by omega)
      clear hmay hdS he hHs
      subst hS
      have HDT := Lib.hid (fun W (h : Glo W) => decN T hX W h (by omega))
      have HS0 := Lib.hid (fun W => same_any 0 0 0 0 ⟨#[]⟩ ⟨#[]⟩ none none [] [] 0 0 W (Lies5.nil _ _ _) (Lies5.nil _ _ _) (by decide) (by decide))
      rw [decide_eq_true ⟨⟨rfl, rfl, rfl⟩, rfl⟩] at HS0
      clear hX
      clear hn
      go_enter Tryz.func4, Tryz.ntmps4
      go_wp2_with fail
      refine HC.out.mono ?_
      rintro e V ⟨G, cap, rfl, hO, hb⟩
      have hL5 := lies5_own hO HN.out.symm
      have HK1 := Lib.hid (HK0.out.below hb)
      have HB1 := Lib.hid (HB0.out.trans' hb)
      have hne : ∀ a, G = some a → a.block ≠ w.heap.size := fun a e => by
        subst e
        have h := own5_block hO (g := a.block) rfl
        rw [hsz0] at h
        omega
      obtain ⟨c0, c1, c2, c3⟩ := HK1.out.cells
      obtain ⟨f0, f1, f2, f3⟩ := HK1.out.free
      have HX := Lib.hid (show LR 24 w.heap.size F R HH G n cap L (setL V w.heap.size F R HH G n cap) from ⟨setL_box HK1.out F R HH G n cap, by rw [setL_size]; exact setL_lies hL5 hne F R HH G n cap⟩)
      have HB := Lib.hid (setL_below HB1.out (Nat.le_refl _) F R HH G n cap)
      have HG := Lib.hid (HG0.out.on HB.out)
      unfold setL at HX HB HG
      obtain ⟨r0, r1, r2, r3⟩ := HX.out.box.cells
      clear hO hb hL5 HB1 HK1 hne HC
      go_wp2_with fail
      (try rw [hT])
      clear c0 c1 c2 c3 f0 f1 f2 f3 r0 r1 r2 r3
      generalize ((((V.setCell ⟨w.heap.size, 0, none⟩ (.int .i64 F)).setCell ⟨w.heap.size, 1, none⟩ (.int .i64 R)).setCell ⟨w.heap.size, 2, none⟩ (.string HH)).setCell ⟨w.heap.size, 3, none⟩ (.slice G n cap)) = W2 at *
      obtain ⟨c0, c1, c2, c3⟩ := HX.out.box.cells
      go_wp2_with fail
      refine (HE.out G cap _ HG.out HX.out.row).mono ?_
      rintro e V ⟨rfl, hb⟩
      replace HB := Lib.hid (HB.out.trans' hb)
      replace HG := Lib.hid (HG0.out.on HB.out)
      replace HX := Lib.hid (HX.out.on hb)
      clear hb HE c0 c1 c2 c3
      obtain ⟨c0, c1, c2, c3⟩ := HX.out.box.cells
      go_wp2_with fail
      refine (HD1.out _ HG.out).mono ?_
      rintro e V3 ⟨G2, rfl, hL2, hb⟩
      clear c0 c1 c2 c3
      have H2 := Lib.hid (LR.new (t := 24) (F := F) (R := R) (H := HH) (A := G2) (n := n) (ca := n) hL2)
      have hb := hb.trans' (lbox_below 24 F R HH G2 n n V3)
      replace HB := Lib.hid (HB.out.trans' hb)
      replace HG := Lib.hid (HG0.out.on HB.out)
      replace HX := Lib.hid (HX.out.on hb)
      clear hb
      simp only [lbox] at HB HG H2 HX
      obtain ⟨c0, c1, c2, c3⟩ := HX.out.box.cells
      obtain ⟨d0, d1, d2, d3⟩ := H2.out.box.cells
      have hS0 : ((S.size : Int) == (S.size : Int)) = true := beq_self_eq_true _
      go_wp2_with fail
      refine (HSA.out G2 G n cap _ H2.out.row HX.out.row).mono ?_
      rintro e V4 ⟨rfl, hb⟩
      replace HB := Lib.hid (HB.out.trans' hb)
      replace HG := Lib.hid (HG0.out.on HB.out)
      replace HX := Lib.hid (HX.out.on hb)
      clear hb H2 hL2
      clear c0 c1 c2 c3 d0 d1 d2 d3
      obtain ⟨c0, c1, c2, c3⟩ := HX.out.box.cells
      go_wp2_with fail
      refine (HM.out G cap _ HG.out HX.out.row).mono ?_
      rintro e V5 ⟨rfl, hb⟩
      replace HB := Lib.hid (HB.out.trans' hb)
      replace HG := Lib.hid (HG0.out.on HB.out)
      replace HX := Lib.hid (HX.out.on hb)
      clear hb
      clear c0 c1 c2 c3
      obtain ⟨c0, c1, c2, c3⟩ := HX.out.box.cells
      go_wp2_with fail
      refine (HZ.out G cap _ HX.out.row).mono ?_
      rintro e V6 ⟨rfl, hb⟩
      replace HB := Lib.hid (HB.out.trans' hb)
      replace HG := Lib.hid (HG0.out.on HB.out)
      replace HX := Lib.hid (HX.out.on hb)
      clear hb HX
      clear c0 c1 c2 c3
      go_wp2_with fail
      refine (HDT.out _ HG.out).mono ?_
      rintro e VT ⟨rfl, hb⟩
      have HT := Lib.hid (LR.new (t := 24) (F := 0) (R := 0) (H := ⟨#[]⟩) (A := none) (n := 0) (ca := 0) (Lies5.nil VT VT.heap.size none))
      have hb := hb.trans' (lbox_below 24 0 0 ⟨#[]⟩ none 0 0 VT)
      replace HB := Lib.hid (HB.out.trans' hb)
      replace HG := Lib.hid (HG0.out.on HB.out)
      clear hb
      simp only [lbox] at HB HG HT 
      obtain ⟨c0, c1, c2, c3⟩ := HT.out.box.cells
      go_wp2_with fail
      refine (HS0.out _).mono ?_
      rintro e V7 ⟨rfl, hb⟩
      replace HB := Lib.hid (HB.out.trans' hb)
      replace HG := Lib.hid (HG0.out.on HB.out)
      clear hb
      clear c0 c1 c2 c3
      go_wp2_with fail
      refine (HFX.out _ HG.out).mono ?_
      rintro e V9 ⟨rfl, hb⟩
      go_wp2_with fail
      go_ret
      exact ⟨rfl, HB.out.trans' hb⟩
  · cases hX : dec T with
    | some X =>
      have HE := Lib.hid (fun G cap W (h : Glo W) (h2 : Lies5 W W.heap.size G L) => encT F R HH G L n cap p S c hn he (by omega) hHs W h h2)
      have hc0 : (c == 0) = false := by simpa using hc
      clear he hHs
      obtain ⟨F', R', H', l'⟩ := X
      obtain ⟨n', hn'⟩ : ∃ n', l'.length = n' := ⟨_, rfl⟩
      obtain ⟨e1, e2, e3, e4, e5⟩ := dec_facts hX
      simp only at e3 e4
      have HDT := Lib.hid (fun W (h : Glo W) => decT T F' R' H' l' n' hn' hX W h (by omega))
      have HET := Lib.hid (fun G W (h : Glo W) (h2 : Lies5 W W.heap.size G l') => encT F' R' H' G l' n' n' T.size T 0 hn' e1 (by omega) (by unfold maxLen; omega) W h h2)
      have HMT := Lib.hid (fun G W (h : Glo W) (h2 : Lies5 W W.heap.size G l') => may_any F' R' H' G l' n' T.size W h.sizes h2 (by omega) (by unfold maxLen; omega))
      rw [decide_eq_true e2, hn'] at HMT
      clear e1 e2 e3 e4 e5 hX hn'
      clear hn
      go_enter Tryz.func4, Tryz.ntmps4
      go_wp2_with fail
      refine HC.out.mono ?_
      rintro e V ⟨G, cap, rfl, hO, hb⟩
      have hL5 := lies5_own hO HN.out.symm
      have HK1 := Lib.hid (HK0.out.below hb)
      have HB1 := Lib.hid (HB0.out.trans' hb)
      have hne : ∀ a, G = some a → a.block ≠ w.heap.size := fun a e => by
        subst e
        have h := own5_block hO (g := a.block) rfl
        rw [hsz0] at h
        omega
      obtain ⟨c0, c1, c2, c3⟩ := HK1.out.cells
      obtain ⟨f0, f1, f2, f3⟩ := HK1.out.free
      have HX := Lib.hid (show LR 24 w.heap.size F R HH G n cap L (setL V w.heap.size F R HH G n cap) from ⟨setL_box HK1.out F R HH G n cap, by rw [setL_size]; exact setL_lies hL5 hne F R HH G n cap⟩)
      have HB := Lib.hid (setL_below HB1.out (Nat.le_refl _) F R HH G n cap)
      have HG := Lib.hid (HG0.out.on HB.out)
      unfold setL at HX HB HG
      obtain ⟨r0, r1, r2, r3⟩ := HX.out.box.cells
      clear hO hb hL5 HB1 HK1 hne HC
      go_wp2_with fail
      (try rw [hT])
      clear c0 c1 c2 c3 f0 f1 f2 f3 r0 r1 r2 r3
      generalize ((((V.setCell ⟨w.heap.size, 0, none⟩ (.int .i64 F)).setCell ⟨w.heap.size, 1, none⟩ (.int .i64 R)).setCell ⟨w.heap.size, 2, none⟩ (.string HH)).setCell ⟨w.heap.size, 3, none⟩ (.slice G n cap)) = W2 at *
      obtain ⟨c0, c1, c2, c3⟩ := HX.out.box.cells
      go_wp2_with fail
      refine (HE.out G cap _ HG.out HX.out.row).mono ?_
      rintro e V ⟨rfl, hb⟩
      replace HB := Lib.hid (HB.out.trans' hb)
      replace HG := Lib.hid (HG0.out.on HB.out)
      replace HX := Lib.hid (HX.out.on hb)
      clear hb HE c0 c1 c2 c3
      obtain ⟨c0, c1, c2, c3⟩ := HX.out.box.cells
      go_wp2_with fail
      clear c0 c1 c2 c3
      refine (HDT.out _ HG.out).mono ?_
      rintro e VT ⟨GT, rfl, hLT, hb⟩
      have HT := Lib.hid (LR.new (t := 24) (F := F') (R := R') (H := H') (A := GT) (n := n') (ca := n') hLT)
      have hb := hb.trans' (lbox_below 24 F' R' H' GT n' n' VT)
      replace HB := Lib.hid (HB.out.trans' hb)
      replace HG := Lib.hid (HG0.out.on HB.out)
      clear hb
      simp only [lbox] at HB HG HT 
      obtain ⟨c0, c1, c2, c3⟩ := HT.out.box.cells
      go_wp2_with fail
      refine (HET.out GT _ HG.out HT.out.row).mono ?_
      rintro e V7 ⟨rfl, hb⟩
      replace HB := Lib.hid (HB.out.trans' hb)
      replace HG := Lib.hid (HG0.out.on HB.out)
      replace HT := Lib.hid (HT.out.on hb)
      clear hb
      clear c0 c1 c2 c3
      obtain ⟨c0, c1, c2, c3⟩ := HT.out.box.cells
      have hz := text_yes (rfl : T = T)
      go_wp2_with fail
      refine (HMT.out GT _ HG.out HT.out.row).mono ?_
      rintro e V8 ⟨rfl, hb⟩
      replace HB := Lib.hid (HB.out.trans' hb)
      replace HG := Lib.hid (HG0.out.on HB.out)
      clear hb
      clear c0 c1 c2 c3
      go_wp2_with fail
      refine (HFX.out _ HG.out).mono ?_
      rintro e V9 ⟨rfl, hb⟩
      go_wp2_with fail
      go_ret
      exact ⟨rfl, HB.out.trans' hb⟩
    | none =>
      have HE := Lib.hid (fun G cap W (h : Glo W) (h2 : Lies5 W W.heap.size G L) => encT F R HH G L n cap p S c hn he (by omega) hHs W h h2)
      have hc0 : (c == 0) = false := by simpa using hc
      clear he hHs
      have HDT := Lib.hid (fun W (h : Glo W) => decN T hX W h (by omega))
      have HS0 := Lib.hid (fun W => same_any 0 0 0 0 ⟨#[]⟩ ⟨#[]⟩ none none [] [] 0 0 W (Lies5.nil _ _ _) (Lies5.nil _ _ _) (by decide) (by decide))
      rw [decide_eq_true ⟨⟨rfl, rfl, rfl⟩, rfl⟩] at HS0
      clear hX
      clear hn
      go_enter Tryz.func4, Tryz.ntmps4
      go_wp2_with fail
      refine HC.out.mono ?_
      rintro e V ⟨G, cap, rfl, hO, hb⟩
      have hL5 := lies5_own hO HN.out.symm
      have HK1 := Lib.hid (HK0.out.below hb)
      have HB1 := Lib.hid (HB0.out.trans' hb)
      have hne : ∀ a, G = some a → a.block ≠ w.heap.size := fun a e => by
        subst e
        have h := own5_block hO (g := a.block) rfl
        rw [hsz0] at h
        omega
      obtain ⟨c0, c1, c2, c3⟩ := HK1.out.cells
      obtain ⟨f0, f1, f2, f3⟩ := HK1.out.free
      have HX := Lib.hid (show LR 24 w.heap.size F R HH G n cap L (setL V w.heap.size F R HH G n cap) from ⟨setL_box HK1.out F R HH G n cap, by rw [setL_size]; exact setL_lies hL5 hne F R HH G n cap⟩)
      have HB := Lib.hid (setL_below HB1.out (Nat.le_refl _) F R HH G n cap)
      have HG := Lib.hid (HG0.out.on HB.out)
      unfold setL at HX HB HG
      obtain ⟨r0, r1, r2, r3⟩ := HX.out.box.cells
      clear hO hb hL5 HB1 HK1 hne HC
      go_wp2_with fail
      (try rw [hT])
      clear c0 c1 c2 c3 f0 f1 f2 f3 r0 r1 r2 r3
      generalize ((((V.setCell ⟨w.heap.size, 0, none⟩ (.int .i64 F)).setCell ⟨w.heap.size, 1, none⟩ (.int .i64 R)).setCell ⟨w.heap.size, 2, none⟩ (.string HH)).setCell ⟨w.heap.size, 3, none⟩ (.slice G n cap)) = W2 at *
      obtain ⟨c0, c1, c2, c3⟩ := HX.out.box.cells
      go_wp2_with fail
      refine (HE.out G cap _ HG.out HX.out.row).mono ?_
      rintro e V ⟨rfl, hb⟩
      replace HB := Lib.hid (HB.out.trans' hb)
      replace HG := Lib.hid (HG0.out.on HB.out)
      replace HX := Lib.hid (HX.out.on hb)
      clear hb HE c0 c1 c2 c3
      obtain ⟨c0, c1, c2, c3⟩ := HX.out.box.cells
      go_wp2_with fail
      clear c0 c1 c2 c3
      refine (HDT.out _ HG.out).mono ?_
      rintro e VT ⟨rfl, hb⟩
      have HT := Lib.hid (LR.new (t := 24) (F := 0) (R := 0) (H := ⟨#[]⟩) (A := none) (n := 0) (ca := 0) (Lies5.nil VT VT.heap.size none))
      have hb := hb.trans' (lbox_below 24 0 0 ⟨#[]⟩ none 0 0 VT)
      replace HB := Lib.hid (HB.out.trans' hb)
      replace HG := Lib.hid (HG0.out.on HB.out)
      clear hb
      simp only [lbox] at HB HG HT 
      obtain ⟨c0, c1, c2, c3⟩ := HT.out.box.cells
      go_wp2_with fail
      refine (HS0.out _).mono ?_
      rintro e V7 ⟨rfl, hb⟩
      replace HB := Lib.hid (HB.out.trans' hb)
      replace HG := Lib.hid (HG0.out.on HB.out)
      clear hb
      clear c0 c1 c2 c3
      go_wp2_with fail
      refine (HFX.out _ HG.out).mono ?_
      rintro e V9 ⟨rfl, hb⟩
      go_wp2_with fail
      go_ret
      exact ⟨rfl, HB.out.trans' hb⟩
end Go.Proofs.YtpehkikdmckldaaGreatDoor
