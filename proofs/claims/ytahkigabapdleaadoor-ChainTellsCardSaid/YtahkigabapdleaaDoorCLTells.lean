/-
  The walk of ChainTells. Written by wip/gen_cltells.py.
-/
import Derived.Test.YtahkigabapdleaaDoorCFixed
import Derived.Test.YtahkigabapdleaaDoorCDDec
import Derived.Deep.RegionHeld3
namespace Go.Proofs.YtahkigabapdleaaDoor
open Go.RowKit CP
set_option linter.unusedVariables false
set_option linter.unusedSimpArgs false

/-- A page's box. -/
def Px (t : TypeId) (g : Nat) (s v : ByteArray) (n : Int) (w : World) : Prop := w.heap[g]? = some (.cells #[.string s, .string v, .int .i64 n] t (0, 0))
theorem Px.cells {t : TypeId} {g : Nat} {s v : ByteArray} {n : Int} {w : World} (k : Px t g s v n w) : w.cell? ⟨g, 0, none⟩ = some (.string s) ∧ w.cell? ⟨g, 1, none⟩ = some (.string v) ∧ w.cell? ⟨g, 2, none⟩ = some (.int .i64 n) := by
  unfold Px at k
  refine ⟨?_, ?_, ?_⟩ <;> simp [World.cell?, k]
theorem Px.lt {t : TypeId} {g : Nat} {s v : ByteArray} {n : Int} {w : World} (k : Px t g s v n w) : g < w.heap.size := (Array.getElem?_eq_some_iff.1 k).1
theorem Px.below {t : TypeId} {g : Nat} {s v : ByteArray} {n : Int} {w w' : World} (k : Px t g s v n w) (b : Below w.heap.size w w') : Px t g s v n w' := (b.block g k.lt).trans k
theorem Px.setC {t : TypeId} {g q : Nat} {s v : ByteArray} {n : Int} {w : World} (k : Px t q s v n w) (hq : q ≠ g) (F N : Int) (D : ByteArray) : Px t q s v n (Go.Proofs.YtahkigabapdleaaDoor.setC w g F N D) := by
  unfold Px at *
  unfold Go.Proofs.YtahkigabapdleaaDoor.setC
  rw [Below.heap_setCell _ ⟨g, 2, none⟩ _ q hq, Below.heap_setCell _ ⟨g, 1, none⟩ _ q hq, Below.heap_setCell _ ⟨g, 0, none⟩ _ q hq]
  exact k
theorem decV_form (s : ByteArray) : ∃ F N D c, decV s = .tuple #[cv F N D, .int .i64 c] := by
  cases h : dec s with
  | some x => exact ⟨_, _, _, _, decV_some (F := x.1) (N := x.2.1) (D := x.2.2) h⟩
  | none => exact ⟨_, _, _, _, decV_none h⟩
theorem cut_3000 (s : ByteArray) : ∃ m : Nat, min (s.size : Int) 3000 = m ∧ m ≤ 3000 ∧ m ≤ s.size := ⟨min s.size 3000, by omega, by omega, by omega⟩

set_option maxHeartbeats 8000000 in
set_option maxRecDepth 100000 in
theorem chainTells_any (hfx : Fixes) (F N : Int) (D : ByteArray) (p : Int) (s v : ByteArray) (n : Int) (w : World) (hg : L7.Sizes w) (hs : s.size ≤ maxLen) (hv : v.size ≤ maxLen) (hn : (Lit.int .i64 n).wf = true) (hpw : (Lit.int .i64 p).wf = true) :
    Calls Tryd.prog 3 #[cv F N D, .int .i64 p, .agg #[.string s, .string v, .int .i64 n]] w fun e w' => e = .returned (.bool true) ∧ Below w.heap.size w w' := by
  have hb0 := cbox_below 23 F N D w
  have hb1 := L5.below_alloc (cbox 23 F N D w) (.cells #[.string s, .string v, .int .i64 n] 25)
  have hbq := hb0.trans' hb1
  have HB0 := Lib.hid hbq
  have HK0 := Lib.hid ((cbox_new 23 F N D w).below hb1)
  have HP0 := Lib.hid (show Px 25 (w.heap.size + 1) s v n ((cbox 23 F N D w).alloc (.cells #[.string s, .string v, .int .i64 n] 25)) by
    have h := heap_alloc_new (cbox 23 F N D w) (.cells #[.string s, .string v, .int .i64 n] 25)
    rw [cbox_size] at h
    exact h)
  have HFX : Hid (L7.Tells 18 #[] (.bool true)) := Lib.hid hfx
  have HG0 := Lib.hid hg
  have HC := Lib.hid (fun W => cut_any F N D W)
  have hE := cutD_size D
  generalize cutD D = E at *
  obtain ⟨m, hm1, hm2, hm3⟩ := cut_1100 s
  obtain ⟨T, hT⟩ : ∃ T, s.extract 0 m = T := ⟨_, rfl⟩
  have hT2 : T.size ≤ 1100 := by rw [← hT, ByteArray.size_extract]; omega
  obtain ⟨k, hk1, hk2, hk3⟩ := cut_3000 v
  obtain ⟨U, hU⟩ : ∃ U, v.extract 0 k = U := ⟨_, rfl⟩
  have hU2 : U.size ≤ 3000 := by rw [← hU, ByteArray.size_extract]; omega
  have q1 : (0 : Int) ≤ m := by omega
  have q2 : (m : Int) ≤ s.size := by omega
  have q3 : (0 : Int) ≤ k := by omega
  have q4 : (k : Int) ≤ v.size := by omega
  obtain ⟨S, c, he⟩ : ∃ S c, enc F N E p = (S, c) := ⟨_, _, rfl⟩
  have HE := tEnc F N E p he
  have HRE : Hid (L7.Tells 11 #[cv F N E, .int .i64 p] (.tuple #[.string S, .int .i64 c])) := Lib.hid fun W hW => by
    have h1 := renc_any F N E p W hW
    rw [encV, he] at h1
    exact h1
  have HM := tMay F N E p rfl
  have HRM : Hid (L7.Tells 16 #[cv F N E, .int .i64 p] (.bool (decide (May F N E.size p)))) := Lib.hid fun W _ => rmay_any F N E p W
  generalize decide (May F N E.size p) = bm at *
  obtain ⟨Fy, Ny, Dy, cy, hdv⟩ := decV_form T
  have HD := tDec T hdv (by unfold maxLen; omega)
  have HRD : Hid (L7.Tells 14 #[.string T] (.tuple #[cv Fy Ny Dy, .int .i64 cy])) := Lib.hid fun W hW => by
    have h1 := rdec_any T W hW (by unfold maxLen; omega)
    rw [hdv] at h1
    exact h1
  have HREF := Lib.hid (fun F N D W => ref_any F N D W)
  have HREFT : Hid (∀ F N D, Hid (L7.Tells 12 #[cv F N D] (cv F N D))) := Lib.hid (fun F N D => Lib.hid fun W _ => ref_any F N D W)
  have b1 : (bm != bm) = false := by simp
  have b2 : (S.toList != S.toList) = false := by simp
  have b3 : (c != c) = false := by simp
  have b4 : (cy != cy) = false := by simp
  simp only [cbox] at HB0 HK0 HP0
  have HSR : Hid (∀ W, Calls Tryd.prog 17 #[.int .i64 p] W fun e w' => e = .returned (.bool (L7.mayBe p)) ∧ W = w') := Lib.hid (fun W => L7.sizeRef_any p W)
  obtain ⟨c0, c1, c2⟩ := HK0.out.cells
  clear hb0 hb1 hbq hfx hm2 hm3 hk2 hk3 hE hs hv he hdv hT2
  cases hp : L7.mayBe p with
  | false =>
    rw [hp] at HSR
    clear hp hn hpw hU2
    go_enter Tryd.func3, Tryd.ntmps3
    go_wp2_with fail
    refine (HC.out _).mono ?_
    rintro e V ⟨rfl, hb⟩
    clear c0 c1 c2
    have HK1 := Lib.hid (HK0.out.below hb)
    have HP1 := Lib.hid (HP0.out.below hb)
    have HB1 := Lib.hid (HB0.out.trans' hb)
    obtain ⟨c0, c1, c2⟩ := HK1.out.cells
    obtain ⟨f0, f1, f2⟩ := HK1.out.free
    have HX := Lib.hid (setC_box HK1.out F N E)
    have HP := Lib.hid (HP1.out.setC (g := w.heap.size) (by omega) F N E)
    have HB := Lib.hid (setC_below HB1.out (Nat.le_refl _) F N E)
    have HG := Lib.hid (HG0.out.below HG0.out.lt HB.out)
    unfold setC at HX HB HG HP
    obtain ⟨r0, r1, r2⟩ := HX.out.cells
    obtain ⟨p0, p1, p2⟩ := HP.out.cells
    clear hb HK1 HB1 HP1
    go_wp2_with fail
    clear c0 c1 c2 f0 f1 f2 r0 r1 r2 p0 p1 p2
    generalize ((V.setCell ⟨w.heap.size, 0, none⟩ (.int .i64 F)).setCell ⟨w.heap.size, 1, none⟩ (.int .i64 N)).setCell ⟨w.heap.size, 2, none⟩ (.string E) = W2 at *
    obtain ⟨c0, c1, c2⟩ := HX.out.cells
    obtain ⟨p0, p1, p2⟩ := HP.out.cells
    go_wp2_with fail
    (try rw [hT])
    (try rw [hU])
    refine (HE.out _ HG.out).mono ?_
    rintro e V ⟨rfl, hb⟩
    replace HB := Lib.hid (HB.out.trans' hb)
    replace HG := Lib.hid (HG0.out.below HG0.out.lt HB.out)
    replace HX := Lib.hid (HX.out.below hb)
    replace HP := Lib.hid (HP.out.below hb)
    clear hb
    clear c0 c1 c2 p0 p1 p2
    obtain ⟨c0, c1, c2⟩ := HX.out.cells
    go_wp2_with fail
    refine (HREF.out _ _ _ _).mono ?_
    rintro e V ⟨rfl, hb⟩
    replace HB := Lib.hid (HB.out.trans' hb)
    replace HG := Lib.hid (HG0.out.below HG0.out.lt HB.out)
    replace HX := Lib.hid (HX.out.below hb)
    replace HP := Lib.hid (HP.out.below hb)
    clear hb
    clear c0 c1 c2
    go_wp2_with fail
    refine (HRE.out _ HG.out).mono ?_
    rintro e V ⟨rfl, hb⟩
    replace HB := Lib.hid (HB.out.trans' hb)
    replace HG := Lib.hid (HG0.out.below HG0.out.lt HB.out)
    replace HX := Lib.hid (HX.out.below hb)
    replace HP := Lib.hid (HP.out.below hb)
    clear hb
    go_wp2_with fail
    refine (HD.out _ HG.out).mono ?_
    rintro e V ⟨rfl, hb⟩
    replace HB := Lib.hid (HB.out.trans' hb)
    replace HG := Lib.hid (HG0.out.below HG0.out.lt HB.out)
    replace HX := Lib.hid (HX.out.below hb)
    replace HP := Lib.hid (HP.out.below hb)
    clear hb
    have HY := Lib.hid (cbox_new 23 Fy Ny Dy V)
    have hb := cbox_below 23 Fy Ny Dy V
    replace HB := Lib.hid (HB.out.trans' hb)
    replace HG := Lib.hid (HG0.out.below HG0.out.lt HB.out)
    replace HX := Lib.hid (HX.out.below hb)
    replace HP := Lib.hid (HP.out.below hb)
    simp only [cbox] at HB HG HY HX HP
    clear hb
    go_wp2_with fail
    generalize V.alloc (.cells #[.int .i64 Fy, .int .i64 Ny, .string Dy] 23) = V' at *
    generalize V.heap.size = gy at *
    refine (HRD.out _ HG.out).mono ?_
    rintro e V ⟨rfl, hb⟩
    replace HB := Lib.hid (HB.out.trans' hb)
    replace HG := Lib.hid (HG0.out.below HG0.out.lt HB.out)
    replace HX := Lib.hid (HX.out.below hb)
    replace HP := Lib.hid (HP.out.below hb)
    replace HY := Lib.hid (HY.out.below hb)
    clear hb
    have HZ := Lib.hid (cbox_new 31 Fy Ny Dy V)
    have hb := cbox_below 31 Fy Ny Dy V
    replace HB := Lib.hid (HB.out.trans' hb)
    replace HG := Lib.hid (HG0.out.below HG0.out.lt HB.out)
    replace HX := Lib.hid (HX.out.below hb)
    replace HP := Lib.hid (HP.out.below hb)
    replace HY := Lib.hid (HY.out.below hb)
    simp only [cbox] at HB HG HZ HX HP HY
    clear hb
    go_wp2_with fail
    generalize V.alloc (.cells #[.int .i64 Fy, .int .i64 Ny, .string Dy] 31) = V' at *
    generalize V.heap.size = gz at *
    generalize hW4 : V' = W4 at *
    have HSA : Hid (∀ V, Below W4.heap.size W4 V → (fun V => Hid (Below W4.heap.size W4 V) ∧ (V.cell? ⟨w.heap.size, 0, none⟩ = some (.int .i64 F) ∧ V.cell? ⟨w.heap.size, 1, none⟩ = some (.int .i64 N) ∧ V.cell? ⟨w.heap.size, 2, none⟩ = some (.string E)) ∧ (V.cell? ⟨gy, 0, none⟩ = some (.int .i64 Fy) ∧ V.cell? ⟨gy, 1, none⟩ = some (.int .i64 Ny) ∧ V.cell? ⟨gy, 2, none⟩ = some (.string Dy)) ∧ (V.cell? ⟨gz, 0, none⟩ = some (.int .i64 Fy) ∧ V.cell? ⟨gz, 1, none⟩ = some (.int .i64 Ny) ∧ V.cell? ⟨gz, 2, none⟩ = some (.string Dy))) V) := Lib.hid (fun V hb => ⟨Lib.hid hb, (HX.out.below hb).cells, (HY.out.below hb).cells, (HZ.out.below hb).cells⟩)
    have hSA := HSA.out _ (Below.refl _ _)
    have hSd := HSA.out _ (L5.below_drewN (Below.refl _ W4) 1)
    clear hW4
    go_wp2_with fail
    go_region_held3 (fun V => Hid (Below W4.heap.size W4 V) ∧ (V.cell? ⟨w.heap.size, 0, none⟩ = some (.int .i64 F) ∧ V.cell? ⟨w.heap.size, 1, none⟩ = some (.int .i64 N) ∧ V.cell? ⟨w.heap.size, 2, none⟩ = some (.string E)) ∧ (V.cell? ⟨gy, 0, none⟩ = some (.int .i64 Fy) ∧ V.cell? ⟨gy, 1, none⟩ = some (.int .i64 Ny) ∧ V.cell? ⟨gy, 2, none⟩ = some (.string Dy)) ∧ (V.cell? ⟨gz, 0, none⟩ = some (.int .i64 Fy) ∧ V.cell? ⟨gz, 1, none⟩ = some (.int .i64 Ny) ∧ V.cell? ⟨gz, 2, none⟩ = some (.string Dy))) (first | assumption | exact hSd)
      (first
        | (go_at_call 15; refine (L7.Tells.held HM HG (by assumption)).mono ?_; rintro e V5 ⟨rfl, hb⟩; have hSn := HSA.out _ hb)
        | (go_at_call 12; refine (L7.Tells.held (HREFT.out _ _ _) HG (by assumption)).mono ?_; rintro e V5 ⟨rfl, hb⟩; have hSn := HSA.out _ hb)
        | (go_at_call 16; refine (L7.Tells.held HRM HG (by assumption)).mono ?_; rintro e V5 ⟨rfl, hb⟩; have hSn := HSA.out _ hb)
        | fail "no arm")
    replace HB := Lib.hid (HB.out.trans' hb)
    replace HG := Lib.hid (HG0.out.below HG0.out.lt HB.out)
    replace HP := Lib.hid (HP.out.below hb)
    clear hb hSA hSd hSn HSA HX HY HZ HM HRM HE HRE HD HRD HC HREF HREFT
    go_wp2_with fail
    refine (HSR.out _).mono ?_
    rintro e V ⟨rfl, rfl⟩
    go_wp2_with fail
    refine (HFX.out _ HG.out).mono ?_
    rintro e V6 ⟨rfl, hb⟩
    replace HB := Lib.hid (HB.out.trans' hb)
    clear hb
    go_wp2_with fail
    go_ret
    exact ⟨rfl, HB.out⟩
  | true =>
    rw [hp] at HSR
    have hp2 := mayBe_le hp
    obtain ⟨q, rfl⟩ : ∃ q : Nat, p = q := Int.eq_ofNat_of_zero_le (by omega)
    obtain ⟨r, hr⟩ : ∃ r, q = r + 16 := ⟨q - 16, by omega⟩
    have P1 : Hid (∀ V (W6 : World) {c : Prop}, Hid (Below W6.heap.size W6 V) ∧ c → Hid (L7.Sizes W6) → Calls Tryd.prog 20 #[.string U, .int .i64 q] V fun e w' => ∃ G gc, e = .returned (.slice G (pages U.size r) gc) ∧ L5.Lies w' w'.heap.size G (cuts U r) ∧ Below W6.heap.size W6 w') := Lib.hid (fun V W6 c h g => (parts_any U q r V hp hr (by omega) (g.out.kept h.1.out)).mono fun e w' ⟨G, gc, h1, h2, h3⟩ => ⟨G, gc, h1, h2, h.1.out.trans' h3⟩)
    have P2 : Hid (∀ V (W6 : World) {c : Prop}, Hid (Below W6.heap.size W6 V) ∧ c → Hid (L7.Sizes W6) → Calls Tryd.prog 21 #[.string U, .int .i64 q] V fun e w' => ∃ G gc, e = .returned (.slice G (pages U.size r) gc) ∧ L5.Lies w' w'.heap.size G (cuts U r) ∧ Below W6.heap.size W6 w' ∧ Below V.heap.size V w') := Lib.hid (fun V W6 c h g => (rparts_any U q r V hp hr (by omega)).mono fun e w' ⟨G, gc, h1, h2, h3⟩ => ⟨G, gc, h1, h2, h.1.out.trans' h3, h3⟩)
    have hfew : pages U.size r ≤ 1000 := by
      rcases Nat.lt_or_ge 1000 (pages U.size r) with h | h
      · have h2 := (pages_lt (n := U.size) (i := 1000) (r := r) (by omega)).1 h
        omega
      · exact h
    have PW : Hid (∀ (A : Option Addr) (ca : Nat) (C : Option Addr) (cb : Nat) (V W6 : World) {c : Prop}, L5.Lies V V.heap.size A (cuts U r) → L5.Lies V V.heap.size C (cuts U r) → Hid (Below W6.heap.size W6 V) ∧ c → Calls Tryd.prog 19 #[.slice A (pages U.size r) ca, .slice C (pages U.size r) cb] V fun e w' => e = .returned (.bool true) ∧ Below W6.heap.size W6 w') := Lib.hid (fun A ca C cb V W6 c h1 h2 h3 => by
      have h := L5.words_any A C (cuts U r) (cuts U r) ca cb V h1 h2 (by rw [cuts_length]; exact hfew) rfl
      rw [cuts_length] at h
      exact h.mono fun e w' ⟨k1, k2⟩ => ⟨k1, h3.1.out.trans' k2⟩)
    have G1 := tPages n q r hp hr hn rfl
    have G2 : Hid (L7.Tells 23 #[.int .i64 n, .int .i64 q] (.int .i64 (pagesI n r))) := Lib.hid fun W hW => (rpages_any n q r W hp hr hn).mono fun e w' ⟨h1, h2⟩ => ⟨h1, by subst h2; exact Below.refl _ _⟩
    generalize pagesI n r = pn at *
    generalize pages U.size r = pu at *
    generalize cuts U r = L at *
    have b5 : (pn == pn) = true := by simp
    clear hp hn hpw hU2 hr hp2 hfew
    go_enter Tryd.func3, Tryd.ntmps3
    go_wp2_with fail
    refine (HC.out _).mono ?_
    rintro e V ⟨rfl, hb⟩
    clear c0 c1 c2
    have HK1 := Lib.hid (HK0.out.below hb)
    have HP1 := Lib.hid (HP0.out.below hb)
    have HB1 := Lib.hid (HB0.out.trans' hb)
    obtain ⟨c0, c1, c2⟩ := HK1.out.cells
    obtain ⟨f0, f1, f2⟩ := HK1.out.free
    have HX := Lib.hid (setC_box HK1.out F N E)
    have HP := Lib.hid (HP1.out.setC (g := w.heap.size) (by omega) F N E)
    have HB := Lib.hid (setC_below HB1.out (Nat.le_refl _) F N E)
    have HG := Lib.hid (HG0.out.below HG0.out.lt HB.out)
    unfold setC at HX HB HG HP
    obtain ⟨r0, r1, r2⟩ := HX.out.cells
    obtain ⟨p0, p1, p2⟩ := HP.out.cells
    clear hb HK1 HB1 HP1
    go_wp2_with fail
    clear c0 c1 c2 f0 f1 f2 r0 r1 r2 p0 p1 p2
    generalize ((V.setCell ⟨w.heap.size, 0, none⟩ (.int .i64 F)).setCell ⟨w.heap.size, 1, none⟩ (.int .i64 N)).setCell ⟨w.heap.size, 2, none⟩ (.string E) = W2 at *
    obtain ⟨c0, c1, c2⟩ := HX.out.cells
    obtain ⟨p0, p1, p2⟩ := HP.out.cells
    go_wp2_with fail
    (try rw [hT])
    (try rw [hU])
    refine (HE.out _ HG.out).mono ?_
    rintro e V ⟨rfl, hb⟩
    replace HB := Lib.hid (HB.out.trans' hb)
    replace HG := Lib.hid (HG0.out.below HG0.out.lt HB.out)
    replace HX := Lib.hid (HX.out.below hb)
    replace HP := Lib.hid (HP.out.below hb)
    clear hb
    clear c0 c1 c2 p0 p1 p2
    obtain ⟨c0, c1, c2⟩ := HX.out.cells
    go_wp2_with fail
    refine (HREF.out _ _ _ _).mono ?_
    rintro e V ⟨rfl, hb⟩
    replace HB := Lib.hid (HB.out.trans' hb)
    replace HG := Lib.hid (HG0.out.below HG0.out.lt HB.out)
    replace HX := Lib.hid (HX.out.below hb)
    replace HP := Lib.hid (HP.out.below hb)
    clear hb
    clear c0 c1 c2
    go_wp2_with fail
    refine (HRE.out _ HG.out).mono ?_
    rintro e V ⟨rfl, hb⟩
    replace HB := Lib.hid (HB.out.trans' hb)
    replace HG := Lib.hid (HG0.out.below HG0.out.lt HB.out)
    replace HX := Lib.hid (HX.out.below hb)
    replace HP := Lib.hid (HP.out.below hb)
    clear hb
    go_wp2_with fail
    refine (HD.out _ HG.out).mono ?_
    rintro e V ⟨rfl, hb⟩
    replace HB := Lib.hid (HB.out.trans' hb)
    replace HG := Lib.hid (HG0.out.below HG0.out.lt HB.out)
    replace HX := Lib.hid (HX.out.below hb)
    replace HP := Lib.hid (HP.out.below hb)
    clear hb
    have HY := Lib.hid (cbox_new 23 Fy Ny Dy V)
    have hb := cbox_below 23 Fy Ny Dy V
    replace HB := Lib.hid (HB.out.trans' hb)
    replace HG := Lib.hid (HG0.out.below HG0.out.lt HB.out)
    replace HX := Lib.hid (HX.out.below hb)
    replace HP := Lib.hid (HP.out.below hb)
    simp only [cbox] at HB HG HY HX HP
    clear hb
    go_wp2_with fail
    generalize V.alloc (.cells #[.int .i64 Fy, .int .i64 Ny, .string Dy] 23) = V' at *
    generalize V.heap.size = gy at *
    refine (HRD.out _ HG.out).mono ?_
    rintro e V ⟨rfl, hb⟩
    replace HB := Lib.hid (HB.out.trans' hb)
    replace HG := Lib.hid (HG0.out.below HG0.out.lt HB.out)
    replace HX := Lib.hid (HX.out.below hb)
    replace HP := Lib.hid (HP.out.below hb)
    replace HY := Lib.hid (HY.out.below hb)
    clear hb
    have HZ := Lib.hid (cbox_new 31 Fy Ny Dy V)
    have hb := cbox_below 31 Fy Ny Dy V
    replace HB := Lib.hid (HB.out.trans' hb)
    replace HG := Lib.hid (HG0.out.below HG0.out.lt HB.out)
    replace HX := Lib.hid (HX.out.below hb)
    replace HP := Lib.hid (HP.out.below hb)
    replace HY := Lib.hid (HY.out.below hb)
    simp only [cbox] at HB HG HZ HX HP HY
    clear hb
    go_wp2_with fail
    generalize V.alloc (.cells #[.int .i64 Fy, .int .i64 Ny, .string Dy] 31) = V' at *
    generalize V.heap.size = gz at *
    generalize hW4 : V' = W4 at *
    have HSA : Hid (∀ V, Below W4.heap.size W4 V → (fun V => Hid (Below W4.heap.size W4 V) ∧ (V.cell? ⟨w.heap.size, 0, none⟩ = some (.int .i64 F) ∧ V.cell? ⟨w.heap.size, 1, none⟩ = some (.int .i64 N) ∧ V.cell? ⟨w.heap.size, 2, none⟩ = some (.string E)) ∧ (V.cell? ⟨gy, 0, none⟩ = some (.int .i64 Fy) ∧ V.cell? ⟨gy, 1, none⟩ = some (.int .i64 Ny) ∧ V.cell? ⟨gy, 2, none⟩ = some (.string Dy)) ∧ (V.cell? ⟨gz, 0, none⟩ = some (.int .i64 Fy) ∧ V.cell? ⟨gz, 1, none⟩ = some (.int .i64 Ny) ∧ V.cell? ⟨gz, 2, none⟩ = some (.string Dy))) V) := Lib.hid (fun V hb => ⟨Lib.hid hb, (HX.out.below hb).cells, (HY.out.below hb).cells, (HZ.out.below hb).cells⟩)
    have hSA := HSA.out _ (Below.refl _ _)
    have hSd := HSA.out _ (L5.below_drewN (Below.refl _ W4) 1)
    clear hW4
    go_wp2_with fail
    go_region_held3 (fun V => Hid (Below W4.heap.size W4 V) ∧ (V.cell? ⟨w.heap.size, 0, none⟩ = some (.int .i64 F) ∧ V.cell? ⟨w.heap.size, 1, none⟩ = some (.int .i64 N) ∧ V.cell? ⟨w.heap.size, 2, none⟩ = some (.string E)) ∧ (V.cell? ⟨gy, 0, none⟩ = some (.int .i64 Fy) ∧ V.cell? ⟨gy, 1, none⟩ = some (.int .i64 Ny) ∧ V.cell? ⟨gy, 2, none⟩ = some (.string Dy)) ∧ (V.cell? ⟨gz, 0, none⟩ = some (.int .i64 Fy) ∧ V.cell? ⟨gz, 1, none⟩ = some (.int .i64 Ny) ∧ V.cell? ⟨gz, 2, none⟩ = some (.string Dy))) (first | assumption | exact hSd)
      (first
        | (go_at_call 15; refine (L7.Tells.held HM HG (by assumption)).mono ?_; rintro e V5 ⟨rfl, hb⟩; have hSn := HSA.out _ hb)
        | (go_at_call 12; refine (L7.Tells.held (HREFT.out _ _ _) HG (by assumption)).mono ?_; rintro e V5 ⟨rfl, hb⟩; have hSn := HSA.out _ hb)
        | (go_at_call 16; refine (L7.Tells.held HRM HG (by assumption)).mono ?_; rintro e V5 ⟨rfl, hb⟩; have hSn := HSA.out _ hb)
        | fail "no arm")
    replace HB := Lib.hid (HB.out.trans' hb)
    replace HG := Lib.hid (HG0.out.below HG0.out.lt HB.out)
    replace HP := Lib.hid (HP.out.below hb)
    clear hb hSA hSd hSn HSA HX HY HZ HM HRM HE HRE HD HRD HC HREF HREFT
    go_wp2_with fail
    refine (HSR.out _).mono ?_
    rintro e V ⟨rfl, rfl⟩
    generalize hW6 : V5 = W6 at *
    have HSB : Hid (∀ V, Below W6.heap.size W6 V → (fun V => Hid (Below W6.heap.size W6 V) ∧ V.cell? ⟨w.heap.size + 1, 2, none⟩ = some (.int .i64 n)) V) := Lib.hid (fun V hb => ⟨Lib.hid hb, (HP.out.below hb).cells.2.2⟩)
    have hSB := HSB.out _ (Below.refl _ _)
    have hSd := HSB.out _ (L5.below_drewN (Below.refl _ W6) 1)
    clear hW6
    go_wp2_with fail
    go_region_held3 (fun V => Hid (Below W6.heap.size W6 V) ∧ V.cell? ⟨w.heap.size + 1, 2, none⟩ = some (.int .i64 n)) (first | assumption | exact hSd)
      (first
        | (go_at_call 20; refine (P1.out _ _ (by assumption) HG).mono ?_; rintro e Va ⟨Ga, gca, rfl, hLa, hb⟩; have HLa := Lib.hid hLa; have hSn := HSB.out _ hb)
        | (go_at_call 21; refine (P2.out _ _ (by assumption) HG).mono ?_; rintro e Vb ⟨Gb, gcb, rfl, hLb, hb, hk⟩; have HLb := Lib.hid hLb; have HLa := Lib.hid (HLa.out.on hk); have hSn := HSB.out _ hb)
        | (go_at_call 19; refine (PW.out _ _ _ _ _ _ HLa.out HLb.out (by assumption)).mono ?_; rintro e Vc ⟨rfl, hb⟩; have hSn := HSB.out _ hb)
        | (go_at_call 22; refine (L7.Tells.held G1 HG (by assumption)).mono ?_; rintro e Vd ⟨rfl, hb⟩; have hSn := HSB.out _ hb)
        | (go_at_call 23; refine (L7.Tells.held G2 HG (by assumption)).mono ?_; rintro e Ve ⟨rfl, hb⟩; have hSn := HSB.out _ hb)
        | (go_at_call 18; refine (L7.Tells.held HFX HG (by assumption)).mono ?_; rintro e Vf ⟨rfl, hb⟩; have hSn := HSB.out _ hb; have HF := Lib.hid hb)
        | fail "no arm")
    go_wp2_with fail
    go_ret
    exact ⟨rfl, HB.out.trans' HF.out⟩
theorem chainTells_walk (F N : Int) (D : ByteArray) (p : Int) (s v : ByteArray) (n : Int) (w : World) (hg : L7.Sizes w) (hF : (Lit.int .i64 F).wf = true) (hN : (Lit.int .i64 N).wf = true) (hD : D.size ≤ maxLen) (hp : (Lit.int .i64 p).wf = true) (hs : s.size ≤ maxLen) (hv : v.size ≤ maxLen) (hn : (Lit.int .i64 n).wf = true) :
    Calls Tryd.prog 3 #[cv F N D, .int .i64 p, .agg #[.string s, .string v, .int .i64 n]] w fun e w' => e = .returned (.bool true) ∧ Below w.heap.size w w' := chainTells_any fixed_any F N D p s v n w hg hs hv hn hp
end Go.Proofs.YtahkigabapdleaaDoor
