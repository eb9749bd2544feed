/-
  The walk of LeafTells, where the leaf may be.
-/
import Derived.Test.YtpehkikdmckldaaGreatDoorJNTells0
namespace Go.Proofs.YtpehkikdmckldaaGreatDoor
open Go.RowKit NP
set_option linter.unusedVariables false
set_option linter.unusedSimpArgs false
attribute [local go_sem high] eq_valD

set_option maxHeartbeats 16000000 in
set_option maxRecDepth 100000 in
theorem leafTells_yes (hfx : Fixes) (F R : Int) (H : ByteArray) (A : Option Addr) (l : List It) (ca : Nat) (p : Int) (s key : ByteArray) (w : World) (hg : Glo w) (hH : H.size ≤ maxLen) (ha : Lies5 w w.heap.size A l) (hs : ∀ x ∈ l, x.k.size ≤ maxLen ∧ x.s.size ≤ maxLen) (hl : l.length ≤ maxLen) (hp : (Lit.int .i64 p).wf = true) (hss : s.size ≤ maxLen)
    (hmay : May ⟨F, R, cutH H, cut20 l⟩ p) :
    Calls Tryz.prog 3 #[lv F R H A l.length ca, .int .i64 p, .agg #[.string s, .string key]] w fun e w' => e = .returned (.bool true) ∧ Below w.heap.size w w' := by
  have hb1 := lbox_below 24 F R H A l.length ca w
  have hb0 := hb1.trans' (L5.below_alloc _ (.cells #[.string s, .string key] 26))
  have hsz0 : ((lbox 24 F R H A l.length ca w).alloc (.cells #[.string s, .string key] 26)).heap.size = w.heap.size + 1 + 1 := by simp [lbox]
  have HB0 := Lib.hid hb0
  have HK0 := Lib.hid ((lbox_new 24 F R H A l.length ca w).below (L5.below_alloc _ (.cells #[.string s, .string key] 26)))
  have HP0 : Hid (PBx 26 (w.heap.size + 1) s key ((lbox 24 F R H A l.length ca w).alloc (.cells #[.string s, .string key] 26))) := Lib.hid (by
    have h := heap_alloc_new (lbox 24 F R H A l.length ca w) (.cells #[.string s, .string key] 26)
    rw [lbox_size] at h
    exact h)
  have HFX := Lib.hid hfx
  have HG0 := Lib.hid hg
  have HC := Lib.hid (cutO_any F R H A l ca _ (ha.on hb0) (by unfold maxLen at hl; omega) hH hs)
  obtain ⟨m, hm1, hm2, hm3⟩ := cut_1100 s
  obtain ⟨T, hT⟩ : ∃ T, s.extract 0 m = T := ⟨_, rfl⟩
  have hT2 : T.size ≤ 1100 := by rw [← hT, ByteArray.size_extract]; omega
  obtain ⟨HH, hHH⟩ : ∃ HH, cutH H = HH := ⟨_, rfl⟩
  obtain ⟨L, hL⟩ : ∃ L, cut20 l = L := ⟨_, rfl⟩
  have hHs : HH.size ≤ maxLen := by rw [← hHH, cutH, ByteArray.size_extract]; unfold maxLen; omega
  have hLn : L.length ≤ 20 := by rw [← hL, cut20_length]; omega
  rw [hHH, hL] at HC hmay
  obtain ⟨n, hn⟩ : ∃ n, L.length = n := ⟨_, rfl⟩
  have HN1 := Lib.hid hn
  obtain ⟨F', R', H', l', n', c', hn', hn2, hsm, hdy, hdz⟩ := dec_both T hT2
  have HDY := Lib.hid hdy
  have HDZ := Lib.hid hdz
  obtain ⟨O, S4, L4, P4, bk, hfnd⟩ := found_some l' key
  have HFD := Lib.hid (fun G W (h : Lies5 W W.heap.size G l') => find_any F' R' H' G l' n' key W h (by omega) hsm)
  have HFR := Lib.hid (fun G cz W (h : Lies5 W W.heap.size G l') => rfind_any F' R' H' G l' cz key W h (by omega))
  rw [hfnd, hn'] at HFD HFR
  obtain ⟨S, c, he⟩ : ∃ S c, enc ⟨F, R, HH, L⟩ p = (S, c) := ⟨_, _, rfl⟩
  have HE := Lib.hid (fun G cap W (h : Glo W) (h2 : Lies5 W W.heap.size G L) => encT F R HH G L n cap p S c hn he (by omega) hHs W h h2)
  have HRE := Lib.hid (fun G cap W (h : Lies5 W W.heap.size G L) => renc_any F R HH G L cap p W h (by omega) hHs hp)
  rw [encV, he, hn] at HRE
  have RF := Lib.hid (fun G cap W (h : Lies5 W W.heap.size G L) => ref_any F R HH G L cap W h (by omega))
  have RFL := Lib.hid (fun G cap W (h : Lies5 W W.heap.size G l') => ref_any F' R' H' G l' cap W h (by omega))
  have MAL := Lib.hid (fun G cap W (h : L7.Sizes W) (h2 : Lies5 W W.heap.size G L) => may_any F R HH G L cap p W h h2 (by omega) hHs)
  have RM := Lib.hid (fun G cap W (h2 : Lies5 W W.heap.size G L) => rmay_any F R HH G L cap p W h2 (by omega) hHs)
  have SAL := Lib.hid (fun G1 G2 c1 c2 W (h1 : Lies5 W W.heap.size G1 L) (h2 : Lies5 W W.heap.size G2 l') => same_any F R F' R' HH H' G1 G2 L l' c1 c2 W h1 h2 (by omega) (by omega))
  have RSB := Lib.hid (fun G1 G2 c1 c2 W (h1 : Lies5 W W.heap.size G1 L) (h2 : Lies5 W W.heap.size G2 l') => rsame_any F R F' R' HH H' G1 G2 L l' c1 c2 W h1 h2 (by omega))
  have RSL := Lib.hid (fun G1 G2 c1 c2 W (h1 : Lies5 W W.heap.size G1 l') (h2 : Lies5 W W.heap.size G2 l') => rsame_any F' R' F' R' H' H' G1 G2 l' l' c1 c2 W h1 h2 (by omega))
  rw [decide_eq_true ⟨⟨rfl, rfl, rfl⟩, rfl⟩] at RSL
  generalize decide ((F = F' ∧ R = R' ∧ HH = H') ∧ L = l') = bs at SAL RSB
  rw [decide_eq_true hmay] at MAL RM
  have VRF := Lib.hid (fun W => L9.vref_any O S4 L4 P4 W)
  have SZL := Lib.hid (fun G cap W (h2 : Lies5 W W.heap.size G L) => lsize_any F R HH G L cap W h2 (May.fit hmay (by omega)))
  have RZ := Lib.hid (fun G cap W (h2 : Lies5 W W.heap.size G L) => rsize_any F R HH G L cap W h2 (May.fit hmay (by omega)))
  generalize size ⟨F, R, HH, L⟩ = z at *
  rw [hn] at SZL RZ
  rw [hn] at HC hLn RF MAL RM SAL RSB
  rw [hn'] at RFL SAL RSB RSL
  unfold maxLen at hss
  simp only [lbox] at HC HB0 HK0 HP0
  rw [lbox] at hsz0
  generalize l.length = l0 at *
  clear hb0 hb1 ha hs hl hg hfx hH hHH hL hHs hn hn' hmay he hfnd hsm hdy hdz hp
  go_enter Tryz.func3, Tryz.ntmps3
  go_wp2_with fail
  refine HC.out.mono ?_
  rintro e V ⟨G, cap, rfl, hO, hb⟩
  have hL5 := lies5_own hO HN1.out.symm
  have HK1 := Lib.hid (HK0.out.below hb)
  have HP1 := Lib.hid (HP0.out.below hb)
  have HB1 := Lib.hid (HB0.out.trans' hb)
  have hne : ∀ a, G = some a → a.block ≠ w.heap.size := fun a e => by
    subst e
    have h := own5_block hO (g := a.block) rfl
    rw [hsz0] at h
    omega
  obtain ⟨c0, c1, c2, c3⟩ := HK1.out.cells
  obtain ⟨f0, f1, f2, f3⟩ := HK1.out.free
  have HX := Lib.hid (show LR 24 w.heap.size F R HH G n cap L (setL V w.heap.size F R HH G n cap) from ⟨setL_box HK1.out F R HH G n cap, by rw [setL_size]; exact setL_lies hL5 hne F R HH G n cap⟩)
  have HB := Lib.hid (setL_below HB1.out (Nat.le_refl _) F R HH G n cap)
  have HG := Lib.hid (HG0.out.on HB.out)
  have HP := Lib.hid (show PBx 26 (w.heap.size + 1) s key (setL V w.heap.size F R HH G n cap) from (setL_other (by omega) F R HH G n cap).trans HP1.out)
  unfold setL at HX HB HG HP
  obtain ⟨r0, r1, r2, r3⟩ := HX.out.box.cells
  obtain ⟨k0, k1⟩ := HP.out.cells
  clear hO hb hL5 HB1 HK1 hne HC HP1
  go_wp2_with fail
  (try rw [hT])
  clear c0 c1 c2 c3 f0 f1 f2 f3 r0 r1 r2 r3 k0 k1
  generalize ((((V.setCell ⟨w.heap.size, 0, none⟩ (.int .i64 F)).setCell ⟨w.heap.size, 1, none⟩ (.int .i64 R)).setCell ⟨w.heap.size, 2, none⟩ (.string HH)).setCell ⟨w.heap.size, 3, none⟩ (.slice G n cap)) = W2 at *
  obtain ⟨c0, c1, c2, c3⟩ := HX.out.box.cells
  go_wp2_with fail
  refine (HE.out G cap _ HG.out HX.out.row).mono ?_
  rintro e V ⟨rfl, hb⟩
  replace HB := Lib.hid (HB.out.trans' hb)
  replace HG := Lib.hid (HG0.out.on HB.out)
  replace HX := Lib.hid (HX.out.on hb)
  replace HP := Lib.hid (HP.out.below hb)
  clear hb HE c0 c1 c2 c3
  obtain ⟨c0, c1, c2, c3⟩ := HX.out.box.cells
  go_wp2_with fail
  refine (RF.out G cap _ HX.out.row).mono ?_
  rintro e V ⟨G4, cap4, rfl, hL4, hb⟩
  replace HB := Lib.hid (HB.out.trans' hb)
  replace HG := Lib.hid (HG0.out.on HB.out)
  replace HX := Lib.hid (HX.out.on hb)
  replace HP := Lib.hid (HP.out.below hb)
  clear c0 c1 c2 c3 hb
  go_wp2_with fail
  refine (HRE.out G4 cap4 _ hL4).mono ?_
  rintro e V ⟨rfl, hb⟩
  replace HB := Lib.hid (HB.out.trans' hb)
  replace HG := Lib.hid (HG0.out.on HB.out)
  replace HX := Lib.hid (HX.out.on hb)
  replace HP := Lib.hid (HP.out.below hb)
  clear hb hL4 HRE
  go_wp2_with fail
  refine (HDY.out _ HG.out).mono ?_
  rintro e VY ⟨GY, rfl, hLY, hb⟩
  have HY := Lib.hid (LR.new (t := 24) (F := F') (R := R') (H := H') (A := GY) (n := n') (ca := n') hLY)
  have hb := hb.trans' (lbox_below 24 F' R' H' GY n' n' VY)
  replace HB := Lib.hid (HB.out.trans' hb)
  replace HG := Lib.hid (HG0.out.on HB.out)
  replace HX := Lib.hid (HX.out.on hb)
  replace HP := Lib.hid (HP.out.below hb)
  clear hb
  simp only [lbox] at HB HG HY HX HP
  clear hLY HDY
  go_wp2_with fail
  generalize VY.alloc (.cells #[.int .i64 F', .int .i64 R', .string H', .slice GY n' n'] 24) = DY at *
  generalize VY.heap.size = bY at *
  refine (HDZ.out _ HG.out).mono ?_
  rintro e VZ ⟨GZ, cz, rfl, hLZ, hb⟩
  have HZ := Lib.hid (LR.new (t := 34) (F := F') (R := R') (H := H') (A := GZ) (n := n') (ca := cz) hLZ)
  have hb := hb.trans' (lbox_below 34 F' R' H' GZ n' cz VZ)
  replace HB := Lib.hid (HB.out.trans' hb)
  replace HG := Lib.hid (HG0.out.on HB.out)
  replace HX := Lib.hid (HX.out.on hb)
  replace HP := Lib.hid (HP.out.below hb)
  replace HY := Lib.hid (HY.out.on hb)
  clear hb
  simp only [lbox] at HB HG HZ HX HP HY
  obtain ⟨d0, d1, d2, d3⟩ := HY.out.box.cells
  obtain ⟨k0, k1⟩ := HP.out.cells
  clear hLZ HDZ
  go_wp2_with fail
  generalize VZ.alloc (.cells #[.int .i64 F', .int .i64 R', .string H', .slice GZ n' cz] 34) = DZ at *
  generalize VZ.heap.size = bz at *
  refine (HFD.out _ _ HY.out.row).mono ?_
  rintro e VV ⟨rfl, hb⟩
  have HV := Lib.hid (L9.Bx.new 41 O S4 L4 P4 VV)
  have hb := hb.trans' (L5.below_alloc VV (.cells #[.bool O, .string S4, .int .i64 L4, .int .i64 P4] 41))
  replace HB := Lib.hid (HB.out.trans' hb)
  replace HG := Lib.hid (HG0.out.on HB.out)
  replace HX := Lib.hid (HX.out.on hb)
  replace HP := Lib.hid (HP.out.below hb)
  replace HY := Lib.hid (HY.out.on hb)
  replace HZ := Lib.hid (HZ.out.on hb)
  clear hb
  clear d0 d1 d2 d3
  clear k0 k1
  obtain ⟨d0, d1, d2, d3⟩ := HZ.out.box.cells
  obtain ⟨k0, k1⟩ := HP.out.cells
  go_wp2_with fail
  generalize VV.alloc (.cells #[.bool O, .string S4, .int .i64 L4, .int .i64 P4] 41) = DV at *
  generalize VV.heap.size = bv at *
  refine (HFR.out _ _ _ HZ.out.row).mono ?_
  rintro e VW ⟨rfl, hb⟩
  have HW := Lib.hid (L9.Bx.new 44 O S4 L4 P4 VW)
  have hb := hb.trans' (L5.below_alloc VW (.cells #[.bool O, .string S4, .int .i64 L4, .int .i64 P4] 44))
  replace HB := Lib.hid (HB.out.trans' hb)
  replace HG := Lib.hid (HG0.out.on HB.out)
  replace HX := Lib.hid (HX.out.on hb)
  replace HY := Lib.hid (HY.out.on hb)
  replace HZ := Lib.hid (HZ.out.on hb)
  replace HV := Lib.hid (HV.out.below hb)
  clear hb
  clear d0 d1 d2 d3 k0 k1 HP HFD HFR
  go_wp2_with fail
  generalize VW.alloc (.cells #[.bool O, .string S4, .int .i64 L4, .int .i64 P4] 44) = D at *
  generalize VW.heap.size = bw at *
  have HSC : Hid (∀ V, Below D.heap.size D V → Hid (Below D.heap.size D V) ∧ V.cell? ⟨w.heap.size, 0, none⟩ = some (.int .i64 F) ∧ V.cell? ⟨w.heap.size, 1, none⟩ = some (.int .i64 R) ∧ V.cell? ⟨w.heap.size, 2, none⟩ = some (.string HH) ∧ V.cell? ⟨w.heap.size, 3, none⟩ = some (.slice G n cap) ∧ V.cell? ⟨bY, 0, none⟩ = some (.int .i64 F') ∧ V.cell? ⟨bY, 1, none⟩ = some (.int .i64 R') ∧ V.cell? ⟨bY, 2, none⟩ = some (.string H') ∧ V.cell? ⟨bY, 3, none⟩ = some (.slice GY n' n') ∧ V.cell? ⟨bz, 0, none⟩ = some (.int .i64 F') ∧ V.cell? ⟨bz, 1, none⟩ = some (.int .i64 R') ∧ V.cell? ⟨bz, 2, none⟩ = some (.string H') ∧ V.cell? ⟨bz, 3, none⟩ = some (.slice GZ n' cz)) := Lib.hid (fun V hb => by
    obtain ⟨a0, a1, a2, a3⟩ := (HX.out.on hb).box.cells
    obtain ⟨c0, c1, c2, c3⟩ := (HY.out.on hb).box.cells
    obtain ⟨d0, d1, d2, d3⟩ := (HZ.out.on hb).box.cells
    exact ⟨Lib.hid hb, a0, a1, a2, a3, c0, c1, c2, c3, d0, d1, d2, d3⟩)
  have HS11 : Hid (∀ V, Below D.heap.size D V → Hid (Below D.heap.size D V) ∧ V.cell? ⟨bY, 0, none⟩ = some (.int .i64 F') ∧ V.cell? ⟨bY, 1, none⟩ = some (.int .i64 R') ∧ V.cell? ⟨bY, 2, none⟩ = some (.string H') ∧ V.cell? ⟨bY, 3, none⟩ = some (.slice GY n' n') ∧ V.cell? ⟨bz, 0, none⟩ = some (.int .i64 F') ∧ V.cell? ⟨bz, 1, none⟩ = some (.int .i64 R') ∧ V.cell? ⟨bz, 2, none⟩ = some (.string H') ∧ V.cell? ⟨bz, 3, none⟩ = some (.slice GZ n' cz) ∧ V.cell? ⟨bv, 0, none⟩ = some (.bool O) ∧ V.cell? ⟨bv, 1, none⟩ = some (.string S4) ∧ V.cell? ⟨bv, 2, none⟩ = some (.int .i64 L4) ∧ V.cell? ⟨bv, 3, none⟩ = some (.int .i64 P4) ∧ V.cell? ⟨bw, 0, none⟩ = some (.bool O) ∧ V.cell? ⟨bw, 1, none⟩ = some (.string S4) ∧ V.cell? ⟨bw, 2, none⟩ = some (.int .i64 L4) ∧ V.cell? ⟨bw, 3, none⟩ = some (.int .i64 P4)) := Lib.hid (fun V hb => by
    obtain ⟨c0, c1, c2, c3⟩ := (HY.out.on hb).box.cells
    obtain ⟨d0, d1, d2, d3⟩ := (HZ.out.on hb).box.cells
    obtain ⟨f0, f1, f2, f3⟩ := (HV.out.below hb).cells
    obtain ⟨k0, k1, k2, k3⟩ := (HW.out.below hb).cells
    exact ⟨Lib.hid hb, c0, c1, c2, c3, d0, d1, d2, d3, f0, f1, f2, f3, k0, k1, k2, k3⟩)
  have HNX : Hid (∀ V V', Below D.heap.size D V → Below V.heap.size V V' → Below D.heap.size D V') := Lib.hid (fun V V' h1 h2 => h1.trans' h2)
  have L1 : Hid (∀ V, Below D.heap.size D V → Lies5 V V.heap.size G L) := Lib.hid (fun V h => HX.out.row.on h)
  have LY : Hid (∀ V, Below D.heap.size D V → Lies5 V V.heap.size GY l') := Lib.hid (fun V h => HY.out.row.on h)
  have LZ : Hid (∀ V, Below D.heap.size D V → Lies5 V V.heap.size GZ l') := Lib.hid (fun V h => HZ.out.row.on h)
  have HSZ : Hid (∀ V, Below D.heap.size D V → L7.Sizes V) := Lib.hid (fun V h => HG.out.sizes.below HG.out.sizes.lt h)
  have RFY : Hid (∀ V (X : Prop), (Hid (Below D.heap.size D V) ∧ X) → Calls Tryz.prog 12 #[lv F' R' H' GY n' n'] V fun e w' => ∃ G cap, e = .returned (lv F' R' H' G n' cap) ∧ Lies5 w' w'.heap.size G l' ∧ Below V.heap.size V w') := Lib.hid (fun V X h => RFL.out GY n' V (LY.out V h.1.out))
  have RSZ : Hid (∀ V G cap (X : Prop), Lies5 V V.heap.size G l' → (Hid (Below D.heap.size D V) ∧ X) → Calls Tryz.prog 22 #[lv F' R' H' G n' cap, lv F' R' H' GZ n' cz] V fun e w' => e = .returned (.bool true) ∧ Below V.heap.size V w') := Lib.hid (fun V G cap X h1 h2 => RSL.out G GZ cap cz V h1 (LZ.out V h2.1.out))
  have FXD : Hid (∀ V (X : Prop), (Hid (Below D.heap.size D V) ∧ X) → Calls Tryz.prog 24 #[] V fun e w' => e = .returned (.bool true) ∧ Below V.heap.size V w') := Lib.hid (fun V X h => HFX.out V (HG.out.on h.1.out))
  have SA : Hid (∀ V, Lies5 V V.heap.size G L → Lies5 V V.heap.size GY l' → Calls Tryz.prog 21 #[lv F R HH G n cap, lv F' R' H' GY n' n'] V fun e w' => e = .returned (.bool bs) ∧ Below V.heap.size V w') := Lib.hid (fun V h1 h2 => SAL.out G GY cap n' V h1 h2)
  have RS : Hid (∀ G2 cap2 V, Lies5 V V.heap.size G2 L → Lies5 V V.heap.size GZ l' → Calls Tryz.prog 22 #[lv F R HH G2 n cap2, lv F' R' H' GZ n' cz] V fun e w' => e = .returned (.bool bs) ∧ Below V.heap.size V w') := Lib.hid (fun G2 cap2 V h1 h2 => RSB.out G2 GZ cap2 cz V h1 h2)
  have MA : Hid (∀ V, L7.Sizes V → Lies5 V V.heap.size G L → Calls Tryz.prog 17 #[lv F R HH G n cap, .int .i64 p] V fun e w' => e = .returned (.bool true) ∧ Below V.heap.size V w') := Lib.hid (fun V h1 h2 => MAL.out G cap V h1 h2)
  have SZ : Hid (∀ V, Lies5 V V.heap.size G L → Calls Tryz.prog 19 #[lv F R HH G n cap] V fun e w' => e = .returned (.int .i64 (z : Nat)) ∧ Below V.heap.size V w') := Lib.hid (fun V h => SZL.out G cap V h)
  clear SZL
  have HBW := HB
  have hzS := text_yes (rfl : S = S)
  clear HX HY HZ HV HW HG HB RFL RSL SAL RSB MAL HFX
  have hS0 := HSC.out _ (L5.below_drewN (Below.refl _ D) 1)
  have HN0 := L5.below_drewN (Below.refl D.heap.size D) 1
  refine wp_region_held_drew (S := fun V => Hid (Below D.heap.size D V) ∧ V.cell? ⟨w.heap.size, 0, none⟩ = some (.int .i64 F) ∧ V.cell? ⟨w.heap.size, 1, none⟩ = some (.int .i64 R) ∧ V.cell? ⟨w.heap.size, 2, none⟩ = some (.string HH) ∧ V.cell? ⟨w.heap.size, 3, none⟩ = some (.slice G n cap) ∧ V.cell? ⟨bY, 0, none⟩ = some (.int .i64 F') ∧ V.cell? ⟨bY, 1, none⟩ = some (.int .i64 R') ∧ V.cell? ⟨bY, 2, none⟩ = some (.string H') ∧ V.cell? ⟨bY, 3, none⟩ = some (.slice GY n' n') ∧ V.cell? ⟨bz, 0, none⟩ = some (.int .i64 F') ∧ V.cell? ⟨bz, 1, none⟩ = some (.int .i64 R') ∧ V.cell? ⟨bz, 2, none⟩ = some (.string H') ∧ V.cell? ⟨bz, 3, none⟩ = some (.slice GZ n' cz)) (by kernel_rfl) hS0 (fun hHeld => ?_)
  have hS := hS0
  have HN := HN0
  clear hHeld
  refine take_op' (i := 0) (d := some 66) (v := ?_) rfl rfl (by kernel_rfl) (by kernel_rfl) (by kernel_rfl) (fun _ _ _ h => h) (Or.inl ⟨by kernel_rfl, ?_⟩) hS ?_
  rotate_left
  · intro W hSw; (try dsimp only at hSw); go_simp; (first | done | with_reducible rfl)
  try simp only [Act.put, List.setIfInBounds_toArray, List.set_cons_zero, List.set_cons_succ]
  refine take_op' (i := 1) (d := some 67) (v := ?_) rfl rfl (by kernel_rfl) (by kernel_rfl) (by kernel_rfl) (fun _ _ _ h => h) (Or.inl ⟨by kernel_rfl, ?_⟩) hS ?_
  rotate_left
  · intro W hSw; (try dsimp only at hSw); go_simp; (first | done | with_reducible rfl)
  try simp only [Act.put, List.setIfInBounds_toArray, List.set_cons_zero, List.set_cons_succ]
  refine take_op' (i := 3) (d := some 69) (v := ?_) rfl rfl (by kernel_rfl) (by kernel_rfl) (by kernel_rfl) (fun _ _ _ h => h) (Or.inl ⟨by kernel_rfl, ?_⟩) hS ?_
  rotate_left
  · intro W hSw; (try dsimp only at hSw); go_simp; (first | done | with_reducible rfl)
  try simp only [Act.put, List.setIfInBounds_toArray, List.set_cons_zero, List.set_cons_succ]
  refine take_op' (i := 5) (d := some 71) (v := ?_) rfl rfl (by kernel_rfl) (by kernel_rfl) (by kernel_rfl) (fun _ _ _ h => h) (Or.inl ⟨by kernel_rfl, ?_⟩) hS ?_
  rotate_left
  · intro W hSw; (try dsimp only at hSw); go_simp; (first | done | with_reducible rfl)
  try simp only [Act.put, List.setIfInBounds_toArray, List.set_cons_zero, List.set_cons_succ]
  refine wpAnyH_ready (rs := [2]) (by kernel_rfl) (by simp) (AllReadyH.cons rfl (fun QQ hK => ?_) AllReadyH.nil)
  go_simp
  refine (MA.out _ (HSZ.out _ HN) (L1.out _ HN)).mono ?_
  rintro e Y ⟨rfl, hb⟩
  go_wp2_with fail
  have HN := HNX.out _ _ HN hb
  have hS := HSC.out _ HN
  refine hK.out _ _ hS (fun _ => ?_)
  clear hK hb
  try simp only [Act.put, List.setIfInBounds_toArray, List.set_cons_zero, List.set_cons_succ]
  refine wpAnyH_ready (rs := [4]) (by kernel_rfl) (by simp) (AllReadyH.cons rfl (fun QQ hK => ?_) AllReadyH.nil)
  go_simp
  refine (RF.out _ _ _ (L1.out _ HN)).mono ?_
  rintro e Y ⟨GA, ca, rfl, hl, hb⟩
  go_wp2_with fail
  have RA := Lib.hid hl
  clear hl
  have HN := HNX.out _ _ HN hb
  have hS := HSC.out _ HN
  refine hK.out _ _ hS (fun _ => ?_)
  clear hK hb
  try simp only [Act.put, List.setIfInBounds_toArray, List.set_cons_zero, List.set_cons_succ]
  refine wpAnyH_ready (rs := [6]) (by kernel_rfl) (by simp) (AllReadyH.cons rfl (fun QQ hK => ?_) AllReadyH.nil)
  go_simp
  refine (RM.out _ _ _ RA.out).mono ?_
  rintro e Y ⟨rfl, hb⟩
  go_wp2_with fail
  have HN := HNX.out _ _ HN hb
  have hS := HSC.out _ HN
  refine hK.out _ _ hS (fun _ => ?_)
  clear hK hb
  try simp only [Act.put, List.setIfInBounds_toArray, List.set_cons_zero, List.set_cons_succ]
  refine take_op' (i := 7) (d := some 73) (v := (.bool false)) rfl rfl (by kernel_rfl) (by kernel_rfl) (by kernel_rfl) (fun _ _ _ h => h) (Or.inl ⟨by kernel_rfl, ?_⟩) hS ?_
  · intro W hSw; (try dsimp only at hSw); go_simp; (first | done | with_reducible rfl)
  try simp only [Act.put, List.setIfInBounds_toArray, List.set_cons_zero, List.set_cons_succ]
  refine take_op' (i := 8) (d := some 74) (v := ?_) rfl rfl (by kernel_rfl) (by kernel_rfl) (by kernel_rfl) (fun _ _ _ h => h) (Or.inl ⟨by kernel_rfl, ?_⟩) hS ?_
  rotate_left
  · intro W hSw; (try dsimp only at hSw); go_simp; (first | done | with_reducible rfl)
  try simp only [Act.put, List.setIfInBounds_toArray, List.set_cons_zero, List.set_cons_succ]
  refine take_op' (i := 9) (d := some 75) (v := ?_) rfl rfl (by kernel_rfl) (by kernel_rfl) (by kernel_rfl) (fun _ _ _ h => h) (Or.inl ⟨by kernel_rfl, ?_⟩) hS ?_
  rotate_left
  · intro W hSw; (try dsimp only at hSw); go_simp; (first | done | with_reducible rfl)
  try simp only [Act.put, List.setIfInBounds_toArray, List.set_cons_zero, List.set_cons_succ]
  refine take_op' (i := 11) (d := some 77) (v := ?_) rfl rfl (by kernel_rfl) (by kernel_rfl) (by kernel_rfl) (fun _ _ _ h => h) (Or.inl ⟨by kernel_rfl, ?_⟩) hS ?_
  rotate_left
  · intro W hSw; (try dsimp only at hSw); go_simp; (first | done | with_reducible rfl)
  try simp only [Act.put, List.setIfInBounds_toArray, List.set_cons_zero, List.set_cons_succ]
  refine wpAnyH_ready (rs := [10]) (by kernel_rfl) (by simp) (AllReadyH.cons rfl (fun QQ hK => ?_) AllReadyH.nil)
  go_simp
  refine (RF.out _ _ _ (L1.out _ HN)).mono ?_
  rintro e Y ⟨GA, ca, rfl, hl, hb⟩
  go_wp2_with fail
  have RA := Lib.hid hl
  clear hl
  have HN := HNX.out _ _ HN hb
  have hS := HSC.out _ HN
  refine hK.out _ _ hS (fun _ => ?_)
  clear hK hb
  try simp only [Act.put, List.setIfInBounds_toArray, List.set_cons_zero, List.set_cons_succ]
  refine wpAnyH_ready (rs := [12]) (by kernel_rfl) (by simp) (AllReadyH.cons rfl (fun QQ hK => ?_) AllReadyH.nil)
  go_simp
  refine (RM.out _ _ _ RA.out).mono ?_
  rintro e Y ⟨rfl, hb⟩
  go_wp2_with fail
  have HN := HNX.out _ _ HN hb
  have hS := HSC.out _ HN
  refine hK.out _ _ hS (fun _ => ?_)
  clear hK hb
  try simp only [Act.put, List.setIfInBounds_toArray, List.set_cons_zero, List.set_cons_succ]
  refine take_op' (i := 13) (d := some 79) (v := ?_) rfl rfl (by kernel_rfl) (by kernel_rfl) (by kernel_rfl) (fun _ _ _ h => h) (Or.inl ⟨by kernel_rfl, ?_⟩) hS ?_
  rotate_left
  · intro W hSw; (try dsimp only at hSw); go_simp; (first | done | with_reducible rfl)
  try simp only [Act.put, List.setIfInBounds_toArray, List.set_cons_zero, List.set_cons_succ]
  refine take_op' (i := 14) (d := some 80) (v := ?_) rfl rfl (by kernel_rfl) (by kernel_rfl) (by kernel_rfl) (fun _ _ _ h => h) (Or.inl ⟨by kernel_rfl, ?_⟩) hS ?_
  rotate_left
  · intro W hSw; (try dsimp only at hSw); go_simp; (first | done | with_reducible rfl)
  try simp only [Act.put, List.setIfInBounds_toArray, List.set_cons_zero, List.set_cons_succ]
  refine take_op' (i := 16) (d := some 82) (v := ?_) rfl rfl (by kernel_rfl) (by kernel_rfl) (by kernel_rfl) (fun _ _ _ h => h) (Or.inl ⟨by kernel_rfl, ?_⟩) hS ?_
  rotate_left
  · intro W hSw; (try dsimp only at hSw); go_simp; (first | done | with_reducible rfl)
  try simp only [Act.put, List.setIfInBounds_toArray, List.set_cons_zero, List.set_cons_succ]
  refine wpAnyH_ready (rs := [15]) (by kernel_rfl) (by simp) (AllReadyH.cons rfl (fun QQ hK => ?_) AllReadyH.nil)
  go_simp
  refine (SZ.out _ (L1.out _ HN)).mono ?_
  rintro e Y ⟨rfl, hb⟩
  go_wp2_with fail
  have HN := HNX.out _ _ HN hb
  have hS := HSC.out _ HN
  refine hK.out _ _ hS (fun _ => ?_)
  clear hK hb
  try simp only [Act.put, List.setIfInBounds_toArray, List.set_cons_zero, List.set_cons_succ]
  refine wpAnyH_ready (rs := [17]) (by kernel_rfl) (by simp) (AllReadyH.cons rfl (fun QQ hK => ?_) AllReadyH.nil)
  go_simp
  refine (RF.out _ _ _ (L1.out _ HN)).mono ?_
  rintro e Y ⟨GA, ca, rfl, hl, hb⟩
  go_wp2_with fail
  have RA := Lib.hid hl
  clear hl
  have HN := HNX.out _ _ HN hb
  have hS := HSC.out _ HN
  refine hK.out _ _ hS (fun _ => ?_)
  clear hK hb
  try simp only [Act.put, List.setIfInBounds_toArray, List.set_cons_zero, List.set_cons_succ]
  refine wpAnyH_ready (rs := [18]) (by kernel_rfl) (by simp) (AllReadyH.cons rfl (fun QQ hK => ?_) AllReadyH.nil)
  go_simp
  refine (RZ.out _ _ _ RA.out).mono ?_
  rintro e Y ⟨rfl, hb⟩
  go_wp2_with fail
  have HN := HNX.out _ _ HN hb
  have hS := HSC.out _ HN
  refine hK.out _ _ hS (fun _ => ?_)
  clear hK hb
  try simp only [Act.put, List.setIfInBounds_toArray, List.set_cons_zero, List.set_cons_succ]
  refine take_op' (i := 19) (d := some 85) (v := (.bool false)) rfl rfl (by kernel_rfl) (by kernel_rfl) (by kernel_rfl) (fun _ _ _ h => h) (Or.inl ⟨by kernel_rfl, ?_⟩) hS ?_
  · intro W hSw; (try dsimp only at hSw); go_simp; (first | done | with_reducible rfl)
  try simp only [Act.put, List.setIfInBounds_toArray, List.set_cons_zero, List.set_cons_succ]
  refine take_op' (i := 20) (d := some 86) (v := ?_) rfl rfl (by kernel_rfl) (by kernel_rfl) (by kernel_rfl) (fun _ _ _ h => h) (Or.inl ⟨by kernel_rfl, ?_⟩) hS ?_
  rotate_left
  · intro W hSw; (try dsimp only at hSw); go_simp; (first | done | with_reducible rfl)
  try simp only [Act.put, List.setIfInBounds_toArray, List.set_cons_zero, List.set_cons_succ]
  refine take_op' (i := 21) (d := some 87) (v := ?_) rfl rfl (by kernel_rfl) (by kernel_rfl) (by kernel_rfl) (fun _ _ _ h => h) (Or.inl ⟨by kernel_rfl, ?_⟩) hS ?_
  rotate_left
  · intro W hSw; (try dsimp only at hSw); go_simp; (first | done | with_reducible rfl)
  try simp only [Act.put, List.setIfInBounds_toArray, List.set_cons_zero, List.set_cons_succ]
  refine take_op' (i := 22) (d := some 88) (v := ?_) rfl rfl (by kernel_rfl) (by kernel_rfl) (by kernel_rfl) (fun _ _ _ h => h) (Or.inl ⟨by kernel_rfl, ?_⟩) hS ?_
  rotate_left
  · intro W hSw; (try dsimp only at hSw); go_simp; (first | done | with_reducible rfl)
  try simp only [Act.put, List.setIfInBounds_toArray, List.set_cons_zero, List.set_cons_succ]
  refine take_op' (i := 23) (d := some 89) (v := ?_) rfl rfl (by kernel_rfl) (by kernel_rfl) (by kernel_rfl) (fun _ _ _ h => h) (Or.inl ⟨by kernel_rfl, ?_⟩) hS ?_
  rotate_left
  · intro W hSw; (try dsimp only at hSw); go_simp; (first | done | with_reducible rfl)
  try simp only [Act.put, List.setIfInBounds_toArray, List.set_cons_zero, List.set_cons_succ]
  refine take_op' (i := 24) (d := some 90) (v := ?_) rfl rfl (by kernel_rfl) (by kernel_rfl) (by kernel_rfl) (fun _ _ _ h => h) (Or.inl ⟨by kernel_rfl, ?_⟩) hS ?_
  rotate_left
  · intro W hSw; (try dsimp only at hSw); go_simp; (first | done | with_reducible rfl)
  try simp only [Act.put, List.setIfInBounds_toArray, List.set_cons_zero, List.set_cons_succ]
  refine take_op' (i := 26) (d := some 92) (v := ?_) rfl rfl (by kernel_rfl) (by kernel_rfl) (by kernel_rfl) (fun _ _ _ h => h) (Or.inl ⟨by kernel_rfl, ?_⟩) hS ?_
  rotate_left
  · intro W hSw; (try dsimp only at hSw); go_simp; (first | done | with_reducible rfl)
  try simp only [Act.put, List.setIfInBounds_toArray, List.set_cons_zero, List.set_cons_succ]
  refine take_op' (i := 28) (d := some 94) (v := ?_) rfl rfl (by kernel_rfl) (by kernel_rfl) (by kernel_rfl) (fun _ _ _ h => h) (Or.inl ⟨by kernel_rfl, ?_⟩) hS ?_
  rotate_left
  · intro W hSw; (try dsimp only at hSw); go_simp; (first | done | with_reducible rfl)
  try simp only [Act.put, List.setIfInBounds_toArray, List.set_cons_zero, List.set_cons_succ]
  refine wpAnyH_ready (rs := [25]) (by kernel_rfl) (by simp) (AllReadyH.cons rfl (fun QQ hK => ?_) AllReadyH.nil)
  go_simp
  refine (SA.out _ (L1.out _ HN) (LY.out _ HN)).mono ?_
  rintro e Y ⟨rfl, hb⟩
  go_wp2_with fail
  have HN := HNX.out _ _ HN hb
  have hS := HSC.out _ HN
  refine hK.out _ _ hS (fun _ => ?_)
  clear hK hb
  try simp only [Act.put, List.setIfInBounds_toArray, List.set_cons_zero, List.set_cons_succ]
  refine wpAnyH_ready (rs := [27]) (by kernel_rfl) (by simp) (AllReadyH.cons rfl (fun QQ hK => ?_) AllReadyH.nil)
  go_simp
  refine (RF.out _ _ _ (L1.out _ HN)).mono ?_
  rintro e Y ⟨GA, ca, rfl, hl, hb⟩
  go_wp2_with fail
  have RA := Lib.hid hl
  clear hl
  have HN := HNX.out _ _ HN hb
  have hS := HSC.out _ HN
  refine hK.out _ _ hS (fun _ => ?_)
  clear hK hb
  try simp only [Act.put, List.setIfInBounds_toArray, List.set_cons_zero, List.set_cons_succ]
  refine wpAnyH_ready (rs := [29]) (by kernel_rfl) (by simp) (AllReadyH.cons rfl (fun QQ hK => ?_) AllReadyH.nil)
  go_simp
  refine (RS.out _ _ _ RA.out (LZ.out _ HN)).mono ?_
  rintro e Y ⟨rfl, hb⟩
  go_wp2_with fail
  have HN := HNX.out _ _ HN hb
  have hS := HSC.out _ HN
  refine hK.out _ _ hS (fun _ => ?_)
  clear hK hb
  try simp only [Act.put, List.setIfInBounds_toArray, List.set_cons_zero, List.set_cons_succ]
  refine take_op' (i := 30) (d := some 96) (v := (.bool false)) rfl rfl (by kernel_rfl) (by kernel_rfl) (by kernel_rfl) (fun _ _ _ h => h) (Or.inl ⟨by kernel_rfl, ?_⟩) hS ?_
  · intro W hSw; (try dsimp only at hSw); go_simp; (first | done | with_reducible rfl)
  try simp only [Act.put, List.setIfInBounds_toArray, List.set_cons_zero, List.set_cons_succ]
  refine take_op' (i := 31) (d := some 97) (v := ?_) rfl rfl (by kernel_rfl) (by kernel_rfl) (by kernel_rfl) (fun _ _ _ h => h) (Or.inl ⟨by kernel_rfl, ?_⟩) hS ?_
  rotate_left
  · intro W hSw; (try dsimp only at hSw); go_simp; (first | done | with_reducible rfl)
  try simp only [Act.put, List.setIfInBounds_toArray, List.set_cons_zero, List.set_cons_succ]
  refine wpAnyH_done (by kernel_rfl) ?_ _
  go_wp2_with fail
  have hSd := HS11.out _ (L5.below_drewN HN 1)
  have HS12 : Hid (∀ V V' (X : Prop), (Hid (Below D.heap.size D V) ∧ X) → Below V.heap.size V V' → Below D.heap.size D V') := Lib.hid (fun V V' X h1 h2 => h1.1.out.trans' h2)
  go_region_held3 (fun V => Hid (Below D.heap.size D V) ∧ V.cell? ⟨bY, 0, none⟩ = some (.int .i64 F') ∧ V.cell? ⟨bY, 1, none⟩ = some (.int .i64 R') ∧ V.cell? ⟨bY, 2, none⟩ = some (.string H') ∧ V.cell? ⟨bY, 3, none⟩ = some (.slice GY n' n') ∧ V.cell? ⟨bz, 0, none⟩ = some (.int .i64 F') ∧ V.cell? ⟨bz, 1, none⟩ = some (.int .i64 R') ∧ V.cell? ⟨bz, 2, none⟩ = some (.string H') ∧ V.cell? ⟨bz, 3, none⟩ = some (.slice GZ n' cz) ∧ V.cell? ⟨bv, 0, none⟩ = some (.bool O) ∧ V.cell? ⟨bv, 1, none⟩ = some (.string S4) ∧ V.cell? ⟨bv, 2, none⟩ = some (.int .i64 L4) ∧ V.cell? ⟨bv, 3, none⟩ = some (.int .i64 P4) ∧ V.cell? ⟨bw, 0, none⟩ = some (.bool O) ∧ V.cell? ⟨bw, 1, none⟩ = some (.string S4) ∧ V.cell? ⟨bw, 2, none⟩ = some (.int .i64 L4) ∧ V.cell? ⟨bw, 3, none⟩ = some (.int .i64 P4))
    (first | assumption | exact hSd)
    (first
      | (go_at_call 12; refine Calls.mono (fit (RFY.out _ _ (by assumption)) (by rfl)) ?_; rintro e V ⟨GA, ca, rfl, hl, hb⟩; have RA := Lib.hid hl; have hfin := Lib.hid (HS12.out _ _ _ (by assumption) hb); have hSn := HS11.out _ hfin.out; clear hl hb)
      | (go_at_call 22; refine Calls.mono (fit (RSZ.out _ _ _ _ RA.out (by assumption)) (by rfl)) ?_; rintro e V ⟨rfl, hb⟩; have hfin := Lib.hid (HS12.out _ _ _ (by assumption) hb); have hSn := HS11.out _ hfin.out; clear hb)
      | (go_at_call 23; refine Calls.mono (fit (VRF.out _) (by rfl)) ?_; rintro e V ⟨rfl, hb⟩; have hfin := Lib.hid (HS12.out _ _ _ (by assumption) hb); have hSn := HS11.out _ hfin.out; clear hb)
      | (go_at_call 24; refine Calls.mono (fit (FXD.out _ _ (by assumption)) (by rfl)) ?_; rintro e V ⟨rfl, hb⟩; have hfin := Lib.hid (HS12.out _ _ _ (by assumption) hb); have hSn := HS11.out _ hfin.out; clear hb)
      | fail "no arm")
  go_wp2_with fail
  go_ret
  exact ⟨rfl, HBW.out.trans' hfin.out⟩
end Go.Proofs.YtpehkikdmckldaaGreatDoor
