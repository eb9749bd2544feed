/-
  The walk of InnerRoutes. Written by wip/gen_iroutes.py.
-/
import Derived.Test.YtembccehokodeaaGreatDoorJIBack
import Derived.Test.YtembccehokodeaaGreatDoorJIRoutes0
import Derived.Test.YtembccehokodeaaGreatDoorJIDMay
import Derived.BigQuiet
namespace Go.Proofs.YtembccehokodeaaGreatDoor
open Go.RowKit IP
set_option linter.unusedVariables false
set_option linter.unusedSimpArgs false

def A2x (g : Nat) (s k : ByteArray) (w : World) : Prop := w.heap[g]? = some (.cells #[.string s, .string k] 53 (0, 0))
theorem A2x.cells {g : Nat} {s k : ByteArray} {w : World} (h : A2x g s k w) : w.cell? ⟨g, 0, none⟩ = some (.string s) ∧ w.cell? ⟨g, 1, none⟩ = some (.string k) := by
  unfold A2x at h
  constructor <;> simp [World.cell?, h]
theorem A2x.lt {g : Nat} {s k : ByteArray} {w : World} (h : A2x g s k w) : g < w.heap.size := (Array.getElem?_eq_some_iff.1 h).1
theorem A2x.below {g : Nat} {s k : ByteArray} {w w' : World} (h : A2x g s k w) (b : Below w.heap.size w w') : A2x g s k w' := (b.block g h.lt).trans h
theorem A2x.setN {g q : Nat} {s k : ByteArray} {w : World} (h : A2x g s k w) (hq : g ≠ q) (F L R : Int) (H : ByteArray) (A : Option Addr) (n ca : Nat) (C : Option Addr) (m cb : Nat) : A2x g s k (setN w q F L R H A n ca C m cb) := (setN_other hq F L R H A n ca C m cb).trans h
theorem many_no {a0 k q : Nat} {ok : Bool} (hq : manyB a0 k ok = q) (h : (decide (k = a0) && ok) = false) : manyB a0 (k + 1) ok = q := by
  rw [← hq]
  unfold manyB
  cases ok with
  | false => simp
  | true =>
    have hne : ¬ k = a0 := by simpa using h
    by_cases hlt : a0 < k
    · rw [if_pos ⟨by omega, rfl⟩, if_pos ⟨hlt, rfl⟩]
    · rw [if_neg (by omega), if_neg (by omega)]
theorem many_yes {a0 k q : Nat} {ok : Bool} (hq : manyB a0 k ok = q) (h : (decide (k = a0) && ok) = true) : k = a0 ∧ q = 0 ∧ manyB a0 (k + 1) ok = 1 := by
  have h1 : k = a0 ∧ ok = true := by simpa using h
  obtain ⟨rfl, rfl⟩ := h1
  refine ⟨rfl, ?_, ?_⟩
  · rw [← hq]; unfold manyB; rw [if_neg (by omega)]
  · unfold manyB; rw [if_pos ⟨by omega, rfl⟩]
def lastV (low : ByteArray) (ss : List ByteArray) (H : ByteArray) : Nat → ByteArray
  | 0 => low
  | k + 1 => hiAt ss H k
theorem last_lo {low H : ByteArray} {ss : List ByteArray} {m k : Nat} (hm : ss.length = m) (hk : k ≤ m) : lastV low ss H k = loAt low ss k := by
  cases k with
  | zero => rfl
  | succ j => exact (lo_next (by omega)).symm
set_option maxHeartbeats 4000000 in
set_option maxRecDepth 100000 in
theorem innerRoutes_any (hfx : Fixes) (F L R : Int) (H : ByteArray) (A : Option Addr) (n ca : Nat) (C : Option Addr) (m cb : Nat) (ks : List Int) (ss : List ByteArray) (p : Int) (s0 y0 : ByteArray) (w : World) (hg : L7.Sizes w) (hr : Rows2 w A n ca C m cb ks ss) (hn : n ≤ maxLen) (hca : ca ≤ maxLen) (hm : m ≤ maxLen) (hH : H.size ≤ maxLen) (hs : ∀ s ∈ ss, s.size ≤ maxLen) (hss : s0.size ≤ maxLen) (hys : y0.size ≤ maxLen) :
    Calls Tryz.prog 5 #[nv F L R H A n ca C m cb, .int .i64 p, .agg #[.string s0, .string y0]] w fun e w' => e = .returned (.bool true) ∧ Below w.heap.size w w' := by
  have hb0 := nbox_below 25 F L R H A n ca C m cb w
  have hsz1 := nbox_size 25 F L R H A n ca C m cb w
  have hb1 := hb0.trans' (L5.below_alloc (nbox 25 F L R H A n ca C m cb w) (.cells #[.string s0, .string y0] 53))
  have hsz0 : ((nbox 25 F L R H A n ca C m cb w).alloc (.cells #[.string s0, .string y0] 53)).heap.size = w.heap.size + 1 + 1 := by simp [nbox]
  have HB0 := Lib.hid hb1
  have HK0 := Lib.hid ((nbox_new 25 F L R H A n ca C m cb w).below (L5.below_alloc _ (.cells #[.string s0, .string y0] 53)))
  have HP0 : Hid (A2x (w.heap.size + 1) s0 y0 ((nbox 25 F L R H A n ca C m cb w).alloc (.cells #[.string s0, .string y0] 53))) := Lib.hid (by have h := heap_alloc_new (nbox 25 F L R H A n ca C m cb w) (.cells #[.string s0, .string y0] 53); rw [hsz1] at h; exact h)
  have HFX := Lib.hid hfx
  have HG0 := Lib.hid hg
  have HC := Lib.hid (cutR_any F L R H A n ca C m cb ks ss _ (hr.on hb1) hn hca hm hH hs)
  obtain ⟨HH, hHH⟩ : ∃ HH, cutH H = HH := ⟨_, rfl⟩
  obtain ⟨K1, hK1⟩ : ∃ K1, ks.take 30 = K1 := ⟨_, rfl⟩
  obtain ⟨S1, hS1⟩ : ∃ S1, cutSs ss = S1 := ⟨_, rfl⟩
  obtain ⟨kn, hkn⟩ : ∃ kn, min 30 n = kn := ⟨_, rfl⟩
  obtain ⟨mn, hmn⟩ : ∃ mn, min 30 m = mn := ⟨_, rfl⟩
  have hK1n : K1.length = kn := by rw [← hK1, List.length_take, hr.nk, hkn]
  have hS1n : S1.length = mn := by rw [← hS1, cutSs_length, hr.nm, hmn]
  have hHHs : HH.size ≤ 140 := by rw [← hHH]; exact cutH_size H
  have HS1s : Hid (∀ s ∈ S1, s.size ≤ 140) := Lib.hid (by rw [← hS1]; exact cutSs_size ss)
  rw [hHH, hK1, hS1, hkn, hmn] at HC
  have hk30 : kn ≤ 30 := by omega
  have hm30 : mn ≤ 30 := by omega
  simp only [nbox] at HC HB0 HK0 HP0 hsz0
  clear hb0 hb1 hsz1 hr hs hn hca hm hg hfx hH hHH hK1 hS1 hkn hmn
  obtain ⟨m1, hm1, hm2, hm3⟩ := cut_60 s0
  obtain ⟨low, hT⟩ : ∃ T, s0.extract 0 m1 = T := ⟨_, rfl⟩
  have hT2 : low.size ≤ 60 := by rw [← hT, ByteArray.size_extract]; omega
  obtain ⟨m2, hm4, hm5, hm6⟩ := cut_60 y0
  obtain ⟨key, hY⟩ : ∃ Y, y0.extract 0 m2 = Y := ⟨_, rfl⟩
  have hY2 : key.size ≤ 60 := by rw [← hY, ByteArray.size_extract]; omega
  unfold maxLen at hss hys
  have HSM : Hid (∀ s ∈ S1, s.size ≤ maxLen) := Lib.hid (fun s h => by have := HS1s.out s h; unfold maxLen; omega)
  have HM := Lib.hid (fun A gc D dc W (h : L7.Sizes W) (h2 : Rows2 W A kn gc D mn dc K1 S1) => may_any F L R HH A kn gc D mn dc K1 S1 p W h h2 (by omega) (by omega))
  have HRM := Lib.hid (fun A gc D dc W (h2 : Rows2 W A kn gc D mn dc K1 S1) => rmay_any F L R HH A kn gc D mn dc K1 S1 p W h2 (by omega) (by omega) (by omega) HSM.out)
  obtain ⟨mb, hmb⟩ : ∃ mb, decide (May ⟨F, L, R, HH, K1, S1⟩ p) = mb := ⟨_, rfl⟩
  rw [hmb] at HM HRM
  have HMB := Lib.hid hmb
  have HK1N := Lib.hid hK1n
  have HS1N := Lib.hid hS1n
  clear hmb
  obtain ⟨p0, p1⟩ := HP0.out.cells
  obtain ⟨c0, c1, c2, c3, c4, c5⟩ := HK0.out.cells
  go_enter Tryz.func5, Tryz.ntmps5
  go_wp2_with fail
  refine HC.out.mono ?_
  rintro e V ⟨G, gc, D, dc, rfl, hG, hD, hrw, hb⟩
  clear c0 c1 c2 c3 c4 c5 p0 p1
  have HK1 := Lib.hid (HK0.out.below hb)
  have HP := Lib.hid (HP0.out.below hb)
  have HB1 := Lib.hid (HB0.out.trans' hb)
  have hGn : ∀ a, some (⟨G, 0, none⟩ : Addr) = some a → a.block ≠ w.heap.size := fun a e => by
    obtain rfl := Option.some.inj e
    rw [hsz0] at hG
    show G ≠ _
    omega
  have hDn : ∀ a, some (⟨D, 0, none⟩ : Addr) = some a → a.block ≠ w.heap.size := fun a e => by
    obtain rfl := Option.some.inj e
    rw [hsz0] at hD
    show D ≠ _
    omega
  obtain ⟨c0, c1, c2, c3, c4, c5⟩ := HK1.out.cells
  obtain ⟨f0, f1, f2, f3, f4, f5⟩ := HK1.out.free
  have HX := Lib.hid (show NR 25 w.heap.size F L R HH (some ⟨G, 0, none⟩) kn gc (some ⟨D, 0, none⟩) mn dc K1 S1 (setN V w.heap.size F L R HH (some ⟨G, 0, none⟩) kn gc (some ⟨D, 0, none⟩) mn dc) from ⟨setN_box HK1.out F L R HH (some ⟨G, 0, none⟩) kn gc (some ⟨D, 0, none⟩) mn dc, hrw.stored hGn hDn F L R HH (some ⟨G, 0, none⟩) kn gc (some ⟨D, 0, none⟩) mn dc⟩)
  have HP := Lib.hid (HP.out.setN (show w.heap.size + 1 ≠ w.heap.size by omega) F L R HH (some ⟨G, 0, none⟩) kn gc (some ⟨D, 0, none⟩) mn dc)
  have HB := Lib.hid (setN_below HB1.out (Nat.le_refl _) F L R HH (some ⟨G, 0, none⟩) kn gc (some ⟨D, 0, none⟩) mn dc)
  have HG := Lib.hid (HG0.out.below HG0.out.lt HB.out)
  have hck := hrw.ck
  have hcm := hrw.cm
  unfold setN at HX HB HG HP
  obtain ⟨r0, r1, r2, r3, r4, r5⟩ := HX.out.box.cells
  obtain ⟨p0, p1⟩ := HP.out.cells
  clear hb hrw HK1 HB1 hGn hDn HC hG hD
  go_wp2_with fail
  clear c0 c1 c2 c3 c4 c5 f0 f1 f2 f3 f4 f5 r0 r1 r2 r3 r4 r5
  generalize ((((((V.setCell ⟨w.heap.size, 0, none⟩ (.int .i64 F)).setCell ⟨w.heap.size, 1, none⟩ (.int .i64 L)).setCell ⟨w.heap.size, 2, none⟩ (.int .i64 R)).setCell ⟨w.heap.size, 3, none⟩ (.string HH)).setCell ⟨w.heap.size, 4, none⟩ (.slice (some ⟨G, 0, none⟩) kn gc)).setCell ⟨w.heap.size, 5, none⟩ (.slice (some ⟨D, 0, none⟩) mn dc)) = W2 at *
  go_quiet (fail)
  have hb : Below W2.heap.size W2 (W2.drewN nq) := L5.below_drewN (Below.refl _ W2) nq
  replace HB := Lib.hid (HB.out.trans' hb)
  replace HG := Lib.hid (HG0.out.below HG0.out.lt HB.out)
  replace HX := Lib.hid (HX.out.on hb)
  clear hb p0 p1 HP HP0
  obtain ⟨c0, c1, c2, c3, c4, c5⟩ := HX.out.box.cells
  generalize W2.drewN nq = W3 at *
  go_wp2_with fail
  refine (ref_any _ _ _ _ _ _ _ _ _ _ _).mono ?_
  rintro e V1 ⟨rfl, hb⟩
  replace HB := Lib.hid (HB.out.trans' hb)
  replace HG := Lib.hid (HG0.out.below HG0.out.lt HB.out)
  replace HX := Lib.hid (HX.out.on hb)
  clear hb c0 c1 c2 c3 c4 c5
  go_wp2_with fail
  refine (HRM.out _ gc _ dc _ HX.out.rows).mono ?_
  rintro e V2 ⟨rfl, hb⟩
  replace HB := Lib.hid (HB.out.trans' hb)
  replace HG := Lib.hid (HG0.out.below HG0.out.lt HB.out)
  replace HX := Lib.hid (HX.out.on hb)
  clear hb
  obtain ⟨c0, c1, c2, c3, c4, c5⟩ := HX.out.box.cells
  cases mb with
  | false =>
    go_wp2_with fail
    refine (HM.out _ gc _ dc _ HG.out HX.out.rows).mono ?_
    rintro e V3 ⟨rfl, hb⟩
    replace HB := Lib.hid (HB.out.trans' hb)
    replace HG := Lib.hid (HG0.out.below HG0.out.lt HB.out)
    clear hb
    go_wp2_with fail
    refine (HFX.out _ HG.out).mono ?_
    rintro e V9 ⟨rfl, hb⟩
    go_wp2_with fail
    go_ret
    exact ⟨rfl, HB.out.trans' hb⟩
  | true =>
    have hmay := of_decide_eq_true HMB.out
    have HKM : Hid (kn = mn + 1) := Lib.hid (by have h := hmay.2.2.1.1; have h1 := HK1N.out; have h2 := HS1N.out; simp only at h; omega)
    have HRI : Hid (Rise S1) := Lib.hid hmay.2.2.2.2.1
    have HHI : Hid (R ≠ 0 → HH.size ≠ 0) := Lib.hid (fun h => (hmay.2.2.2.1.2 h).1)
    have HHL : Hid (R ≠ 0 → ∀ s ∈ S1, L5.B s < L5.B HH) := Lib.hid (fun h => (hmay.2.2.2.1.2 h).2.2)
    have HSE : Hid (∀ s ∈ S1, s.size ≠ 0) := Lib.hid (fun s h => (hmay.2.2.2.2.2 s h).1)
    have HRT := Lib.hid (fun A gc D dc W (h2 : Rows2 W A kn gc D mn dc K1 S1) => route_any F L R HH A kn gc D mn dc S1 key W h2.seps HS1N.out (by omega))
    clear hmay
    obtain ⟨a0, ha0⟩ : ∃ a0, notAbove key S1 = a0 := ⟨_, rfl⟩
    obtain ⟨ok, hok⟩ : ∃ ok, okB R key HH = ok := ⟨_, rfl⟩
    rw [ha0] at HRT
    have hka0 : a0 ≤ 30 := by rw [← ha0]; exact Nat.le_trans (notAbove_le key S1) (by have := HS1N.out; omega)
    by_cases hm0 : 0 < mn
    · obtain ⟨t, ht⟩ : ∃ t, S1[0]? = some t := ⟨_, List.getElem?_eq_getElem (by have := HS1N.out; omega)⟩
      obtain ⟨a, ha, hab, x0⟩ := HX.out.rows.seps 0 t ht
      obtain rfl := Option.some.inj ha
      have x1 : V2.cell? ⟨D, 0, none⟩ = some (.string t) := x0
      have hm1 : (0 : Int) < mn := by omega
      clear x0 hab ha ht
      by_cases h1 : L5.B low < L5.B t
      · have l1 := L5.less_yes h1
        by_cases h2 : L5.B key < L5.B low
        · have l2 := L5.less_yes h2
          go_wp2_with fail
          obtain ⟨lo, hlo⟩ : ∃ lo : ByteArray, ⟨#[]⟩ = lo := ⟨_, rfl⟩
          have hl : ¬ L5.B key < L5.B lo := by rw [← hlo]; exact (fun h => List.not_lt_nil _ h)
          have hls : lo.size ≤ 60 := by rw [← hlo]; exact Nat.zero_le _
          try rw [hlo]
          clear hlo
          refine (HRT.out _ gc _ dc _ HX.out.rows).mono ?_
          rintro e V3 ⟨rfl, hb⟩
          replace HB := Lib.hid (HB.out.trans' hb)
          replace HG := Lib.hid (HG0.out.below HG0.out.lt HB.out)
          replace HX := Lib.hid (HX.out.on hb)
          clear hb c0 c1 c2 c3 c4 c5
          go_wp2_with fail
          have HENL := Lib.hid (fun (k : Nat) (hk : k < kn) A gc dd dc W (h2 : Rows2 W A kn gc (some dd) mn dc K1 S1) => (by
            have h := endsC_any F L R HH A kn gc (some dd) mn dc S1 lo k W h2.seps (fun h => nomatch h) HKM.out HS1N.out h2.cm (by omega) (fun s h => by have := HS1s.out s h; omega) (by omega) (by omega)
            rw [ends_at rfl hk rfl rfl rfl] at h
            exact h : Calls Tryz.prog 20 #[nv F L R HH A kn gc (some dd) mn dc, .string lo, .int .i64 (k : Int)] W fun e w' => e = .returned (.tuple #[.string (loAt lo S1 k), .string (hiAt S1 HH k), .bool (doesAt mn R k)]) ∧ Below W.heap.size W w'))
          have HIN := Lib.hid (fun (k : Nat) (hk : k ≤ mn) => inside_iff (key := key) (low := lo) (H := HH) (ss := S1) (m := mn) (i := k) (R := R) HS1N.out HRI.out hl HHL.out hk)
          rw [ha0, hok] at HIN
          go_loopw [10, 11, 12] (fun mv lv iv wr => ∃ k : Nat, k ≤ kn ∧ iv = .int .i64 k ∧ mv = .int .i64 (manyB a0 k ok : Nat) ∧ lv = .string (lastV lo S1 HH k) ∧ Hid (Below V3.heap.size V3 wr)) (fun _ _ iv _ => kn - (intOf iv).toNat)
          case atStart => exact ⟨0, by omega, rfl, by unfold manyB; rw [if_neg (by omega)]; rfl, rfl, Lib.hid (Below.refl _ _)⟩
          case round =>
            obtain ⟨k, hk, rfl, rfl, rfl, HW⟩ := hrel
            have HXr := Lib.hid (HX.out.on HW.out)
            obtain ⟨c0, c1, c2, c3, c4, c5⟩ := HXr.out.box.cells
            by_cases hlt : k < kn
            · have hle : k ≤ mn := by have := HKM.out; omega
              have hkn : (k : Int) < kn := by omega
              have HE := Lib.hid (HENL.out k hlt)
              have hlast := last_lo (low := lo) (H := HH) HS1N.out hle
              have hin := HIN.out k hle
              obtain ⟨va, hva⟩ : ∃ va, loAt lo S1 k = va := ⟨_, rfl⟩
              obtain ⟨vb, hvb⟩ : ∃ vb, hiAt S1 HH k = vb := ⟨_, rfl⟩
              have HVB := Lib.hid hvb
              obtain ⟨q, hq⟩ : ∃ q, manyB a0 k ok = q := ⟨_, rfl⟩
              have hq1 : q ≤ 1 := by rw [← hq]; unfold manyB; split <;> omega
              rw [hlast, hva, hq]
              rw [hva, hvb] at HE
              have hzv := text_yes (rfl : va = va)
              by_cases hkm : k < mn
              · skip
                have hdd : doesAt mn R k = true := does_in R hkm
                have hvn : vb.size ≠ 0 := by
                  obtain ⟨s, hs⟩ : ∃ s, S1[k]? = some s := ⟨_, List.getElem?_eq_getElem (by have := HS1N.out; omega)⟩
                  rw [← hvb, hi_in hs]
                  exact HSE.out s (List.mem_of_getElem? hs)
                have hk1 : (k : Int) + 1 < kn := by have := HKM.out; omega
                have hk2 : decide ((k : Int) + 1 < kn) = true := decide_eq_true hk1
                rw [hdd] at HE
                obtain ⟨z1, z2, z3⟩ := empty_of vb
                rw [decide_eq_false hvn] at z1 z2 z3
                have z4 := text_no (show vb ≠ ⟨#[]⟩ from fun e => hvn (by rw [e]; rfl))
                by_cases la : L5.B key < L5.B va
                · have l1' := L5.less_yes la
                  have hin2 : insideB key lo S1 HH mn R k = false := by unfold insideB; rw [hva, hvb, hdd, decide_eq_true la, Bool.not_true, Bool.false_and]
                  have HQ : Hid (manyB a0 (k + 1) ok = q) := Lib.hid (many_no hq (by rw [← hin2, hin]))
                  clear hin hin2 hva hvb hdd hlast hq
                  go_wp2_with fail
                  refine (HE.out _ gc _ dc _ HXr.out.rows).mono ?_
                  rintro e V4 ⟨rfl, hb⟩
                  have HXV := Lib.hid (HXr.out.on hb)
                  have HWV := Lib.hid (HW.out.trans (hb.mono HW.out.size))
                  clear hb c0 c1 c2 c3 c4 c5
                  obtain ⟨c0, c1, c2, c3, c4, c5⟩ := HXV.out.box.cells
                  go_wp2_with fail
                  go_roundw
                  case rel => exact ⟨k + 1, by omega, by simp, by rw [HQ.out], by simp only [lastV, HVB.out], HWV⟩
                  case measure => simp [intOf]; omega
                · have l1' := L5.less_no la
                  by_cases lb : L5.B key < L5.B vb
                  · have l2' := L5.less_yes lb
                    have hin2 : insideB key lo S1 HH mn R k = true := by unfold insideB; rw [hva, hvb, hdd, decide_eq_false la, decide_eq_true lb]; rfl
                    obtain ⟨hka, HQ0, HQ1⟩ := many_yes hq (by rw [← hin2, hin])
                    have HQ : Hid (manyB a0 (k + 1) ok = 1) := Lib.hid HQ1
                    subst hka
                    subst HQ0
                    have haa : ((k : Int) == (k : Int)) = true := beq_self_eq_true _
                    clear hin hin2 hva hvb hdd hlast hq HQ1
                    go_wp2_with fail
                    refine (HE.out _ gc _ dc _ HXr.out.rows).mono ?_
                    rintro e V4 ⟨rfl, hb⟩
                    have HXV := Lib.hid (HXr.out.on hb)
                    have HWV := Lib.hid (HW.out.trans (hb.mono HW.out.size))
                    clear hb c0 c1 c2 c3 c4 c5
                    obtain ⟨c0, c1, c2, c3, c4, c5⟩ := HXV.out.box.cells
                    go_wp2_with fail
                    go_roundw
                    case rel => exact ⟨k + 1, by omega, by simp, by rw [HQ.out]; rfl, by simp only [lastV, HVB.out], HWV⟩
                    case measure => simp [intOf]; omega
                  · have l2' := L5.less_no lb
                    have hin2 : insideB key lo S1 HH mn R k = false := by unfold insideB; rw [hva, hvb, hdd, decide_eq_false la, decide_eq_false lb]; rfl
                    have HQ : Hid (manyB a0 (k + 1) ok = q) := Lib.hid (many_no hq (by rw [← hin2, hin]))
                    clear hin hin2 hva hvb hdd hlast hq
                    go_wp2_with fail
                    refine (HE.out _ gc _ dc _ HXr.out.rows).mono ?_
                    rintro e V4 ⟨rfl, hb⟩
                    have HXV := Lib.hid (HXr.out.on hb)
                    have HWV := Lib.hid (HW.out.trans (hb.mono HW.out.size))
                    clear hb c0 c1 c2 c3 c4 c5
                    obtain ⟨c0, c1, c2, c3, c4, c5⟩ := HXV.out.box.cells
                    go_wp2_with fail
                    go_roundw
                    case rel => exact ⟨k + 1, by omega, by simp, by rw [HQ.out], by simp only [lastV, HVB.out], HWV⟩
                    case measure => simp [intOf]; omega
              · by_cases hR : R = 0
                · skip
                  have hdd : doesAt mn R k = false := by rw [show k = mn by omega, does_end]; simpa using hR
                  have hk1 : ¬ (k : Int) + 1 < kn := by have := HKM.out; omega
                  have hk2 : decide ((k : Int) + 1 < kn) = false := decide_eq_false hk1
                  have hR1 : (R != 0) = false := by simpa using hR
                  have hR2 : (R == 0) = true := by simpa using hR
                  rw [hdd] at HE
                  clear hR
                  by_cases la : L5.B key < L5.B va
                  · have l1' := L5.less_yes la
                    have hin2 : insideB key lo S1 HH mn R k = false := by unfold insideB; rw [hva, hvb, hdd, decide_eq_true la, Bool.not_true, Bool.false_and]
                    have HQ : Hid (manyB a0 (k + 1) ok = q) := Lib.hid (many_no hq (by rw [← hin2, hin]))
                    clear hin hin2 hva hvb hdd hlast hq
                    go_wp2_with fail
                    refine (HE.out _ gc _ dc _ HXr.out.rows).mono ?_
                    rintro e V4 ⟨rfl, hb⟩
                    have HXV := Lib.hid (HXr.out.on hb)
                    have HWV := Lib.hid (HW.out.trans (hb.mono HW.out.size))
                    clear hb c0 c1 c2 c3 c4 c5
                    obtain ⟨c0, c1, c2, c3, c4, c5⟩ := HXV.out.box.cells
                    go_wp2_with fail
                    go_roundw
                    case rel => exact ⟨k + 1, by omega, by simp, by rw [HQ.out], by simp only [lastV, HVB.out], HWV⟩
                    case measure => simp [intOf]; omega
                  · have l1' := L5.less_no la
                    have hin2 : insideB key lo S1 HH mn R k = true := by unfold insideB; rw [hva, hvb, hdd, decide_eq_false la]; rfl
                    obtain ⟨hka, HQ0, HQ1⟩ := many_yes hq (by rw [← hin2, hin])
                    have HQ : Hid (manyB a0 (k + 1) ok = 1) := Lib.hid HQ1
                    subst hka
                    subst HQ0
                    have haa : ((k : Int) == (k : Int)) = true := beq_self_eq_true _
                    clear hin hin2 hva hvb hdd hlast hq HQ1
                    go_wp2_with fail
                    refine (HE.out _ gc _ dc _ HXr.out.rows).mono ?_
                    rintro e V4 ⟨rfl, hb⟩
                    have HXV := Lib.hid (HXr.out.on hb)
                    have HWV := Lib.hid (HW.out.trans (hb.mono HW.out.size))
                    clear hb c0 c1 c2 c3 c4 c5
                    obtain ⟨c0, c1, c2, c3, c4, c5⟩ := HXV.out.box.cells
                    go_wp2_with fail
                    go_roundw
                    case rel => exact ⟨k + 1, by omega, by simp, by rw [HQ.out]; rfl, by simp only [lastV, HVB.out], HWV⟩
                    case measure => simp [intOf]; omega
                · skip
                  have hdd : doesAt mn R k = true := by rw [show k = mn by omega, does_end]; simpa using hR
                  have hvn : vb.size ≠ 0 := by
                    rw [← hvb, show k = mn by omega, hi_end HS1N.out]
                    exact HHI.out hR
                  have hk1 : ¬ (k : Int) + 1 < kn := by have := HKM.out; omega
                  have hk2 : decide ((k : Int) + 1 < kn) = false := decide_eq_false hk1
                  have hR1 : (R != 0) = true := by simpa using hR
                  have hR2 : (R == 0) = false := by simpa using hR
                  rw [hdd] at HE
                  obtain ⟨z1, z2, z3⟩ := empty_of vb
                  rw [decide_eq_false hvn] at z1 z2 z3
                  have z4 := text_no (show vb ≠ ⟨#[]⟩ from fun e => hvn (by rw [e]; rfl))
                  by_cases la : L5.B key < L5.B va
                  · have l1' := L5.less_yes la
                    have hin2 : insideB key lo S1 HH mn R k = false := by unfold insideB; rw [hva, hvb, hdd, decide_eq_true la, Bool.not_true, Bool.false_and]
                    have HQ : Hid (manyB a0 (k + 1) ok = q) := Lib.hid (many_no hq (by rw [← hin2, hin]))
                    clear hin hin2 hva hvb hdd hlast hq
                    go_wp2_with fail
                    refine (HE.out _ gc _ dc _ HXr.out.rows).mono ?_
                    rintro e V4 ⟨rfl, hb⟩
                    have HXV := Lib.hid (HXr.out.on hb)
                    have HWV := Lib.hid (HW.out.trans (hb.mono HW.out.size))
                    clear hb c0 c1 c2 c3 c4 c5
                    obtain ⟨c0, c1, c2, c3, c4, c5⟩ := HXV.out.box.cells
                    go_wp2_with fail
                    go_roundw
                    case rel => exact ⟨k + 1, by omega, by simp, by rw [HQ.out], by simp only [lastV, HVB.out], HWV⟩
                    case measure => simp [intOf]; omega
                  · have l1' := L5.less_no la
                    by_cases lb : L5.B key < L5.B vb
                    · have l2' := L5.less_yes lb
                      have hin2 : insideB key lo S1 HH mn R k = true := by unfold insideB; rw [hva, hvb, hdd, decide_eq_false la, decide_eq_true lb]; rfl
                      obtain ⟨hka, HQ0, HQ1⟩ := many_yes hq (by rw [← hin2, hin])
                      have HQ : Hid (manyB a0 (k + 1) ok = 1) := Lib.hid HQ1
                      subst hka
                      subst HQ0
                      have haa : ((k : Int) == (k : Int)) = true := beq_self_eq_true _
                      clear hin hin2 hva hvb hdd hlast hq HQ1
                      go_wp2_with fail
                      refine (HE.out _ gc _ dc _ HXr.out.rows).mono ?_
                      rintro e V4 ⟨rfl, hb⟩
                      have HXV := Lib.hid (HXr.out.on hb)
                      have HWV := Lib.hid (HW.out.trans (hb.mono HW.out.size))
                      clear hb c0 c1 c2 c3 c4 c5
                      obtain ⟨c0, c1, c2, c3, c4, c5⟩ := HXV.out.box.cells
                      go_wp2_with fail
                      go_roundw
                      case rel => exact ⟨k + 1, by omega, by simp, by rw [HQ.out]; rfl, by simp only [lastV, HVB.out], HWV⟩
                      case measure => simp [intOf]; omega
                    · have l2' := L5.less_no lb
                      have hin2 : insideB key lo S1 HH mn R k = false := by unfold insideB; rw [hva, hvb, hdd, decide_eq_false la, decide_eq_false lb]; rfl
                      have HQ : Hid (manyB a0 (k + 1) ok = q) := Lib.hid (many_no hq (by rw [← hin2, hin]))
                      clear hin hin2 hva hvb hdd hlast hq
                      go_wp2_with fail
                      refine (HE.out _ gc _ dc _ HXr.out.rows).mono ?_
                      rintro e V4 ⟨rfl, hb⟩
                      have HXV := Lib.hid (HXr.out.on hb)
                      have HWV := Lib.hid (HW.out.trans (hb.mono HW.out.size))
                      clear hb c0 c1 c2 c3 c4 c5
                      obtain ⟨c0, c1, c2, c3, c4, c5⟩ := HXV.out.box.cells
                      go_wp2_with fail
                      go_roundw
                      case rel => exact ⟨k + 1, by omega, by simp, by rw [HQ.out], by simp only [lastV, HVB.out], HWV⟩
                      case measure => simp [intOf]; omega
            · obtain rfl : k = kn := by omega
              have hlt' : ¬ (k : Int) < k := by omega
              have hB := Lib.hid (HB.out.trans' HW.out)
              have hG := Lib.hid (HG.out.below HG.out.lt HW.out)
              have ha1 : a0 ≤ mn := by rw [← ha0, ← HS1N.out]; exact notAbove_le key S1
              have hak : (a0 : Int) < k := by have := HKM.out; omega
              have ha00 : (0 : Int) ≤ a0 := by omega
              replace HB := hB
              replace HG := hG
              cases hokc : ok with
              | true =>
                have hmany : manyB a0 k true = 1 := by unfold manyB; rw [if_pos ⟨by have := HKM.out; omega, rfl⟩]
                rw [hmany]
                by_cases hR : R = 0
                · have hR1 : (R != 0) = false := by simpa using hR
                  have hR2 : (R == 0) = true := by simpa using hR
                  clear hokc hmany hok ha0 hR
                  go_wp2_with fail
                  refine (HFX.out _ HG.out).mono ?_
                  rintro e V9 ⟨rfl, hb⟩
                  go_wp2_with fail
                  go_ret
                  exact ⟨rfl, HB.out.trans' hb⟩
                · have hR1 : (R != 0) = true := by simpa using hR
                  have hR2 : (R == 0) = false := by simpa using hR
                  have hkh : L5.B key < L5.B HH := by
                    rw [← hok] at hokc
                    unfold okB at hokc
                    rw [decide_eq_true hR] at hokc
                    exact of_decide_eq_true (by simpa using hokc)
                  have l3 := L5.less_yes hkh
                  clear hokc hmany hok ha0 hkh
                  go_wp2_with fail
                  refine (HFX.out _ HG.out).mono ?_
                  rintro e V9 ⟨rfl, hb⟩
                  go_wp2_with fail
                  go_ret
                  exact ⟨rfl, HB.out.trans' hb⟩
              | false =>
                have hmany : manyB a0 k false = 0 := by unfold manyB; rw [if_neg (by simp)]
                rw [hmany]
                have hboth : R ≠ 0 ∧ ¬ L5.B key < L5.B HH := by
                  rw [← hok] at hokc
                  unfold okB at hokc
                  simpa using hokc
                have hR1 : (R != 0) = true := by simpa using hboth.1
                have hR2 : (R == 0) = false := by simpa using hboth.1
                have l3 := L5.less_no hboth.2
                have ham : a0 = mn := by
                  refine Nat.le_antisymm ha1 (Nat.le_of_not_lt fun hlt2 => ?_)
                  obtain ⟨s, hs⟩ : ∃ s, S1[a0]? = some s := ⟨_, List.getElem?_eq_getElem (by have := HS1N.out; omega)⟩
                  have h := notAbove_spec (key := key) HRI.out hs
                  rw [ha0] at h
                  have h2 : L5.B key < L5.B s := Classical.not_not.1 (mt h.2 (Nat.lt_irrefl _))
                  exact hboth.2 (List.lt_trans h2 (HHL.out hboth.1 s (List.mem_of_getElem? hs)))
                have hk1 : (k : Int) - 1 = a0 := by have := HKM.out; omega
                have hkw : IntKind.i64.wrap ((k : Int) - 1) = a0 := by rw [hk1]; exact IntWalk.i64_in _ (by omega)
                have haa : ((a0 : Int) == (a0 : Int)) = true := beq_self_eq_true _
                clear hokc hmany hok ha0 hboth ham
                go_wp2_with fail
                refine (HFX.out _ HG.out).mono ?_
                rintro e V9 ⟨rfl, hb⟩
                go_wp2_with fail
                go_ret
                exact ⟨rfl, HB.out.trans' hb⟩
        · have l2 := L5.less_no h2
          go_wp2_with fail
          obtain ⟨lo, hlo⟩ : ∃ lo : ByteArray, low = lo := ⟨_, rfl⟩
          have hl : ¬ L5.B key < L5.B lo := by rw [← hlo]; exact h2
          have hls : lo.size ≤ 60 := by rw [← hlo]; exact hT2
          try rw [hlo]
          clear hlo
          refine (HRT.out _ gc _ dc _ HX.out.rows).mono ?_
          rintro e V3 ⟨rfl, hb⟩
          replace HB := Lib.hid (HB.out.trans' hb)
          replace HG := Lib.hid (HG0.out.below HG0.out.lt HB.out)
          replace HX := Lib.hid (HX.out.on hb)
          clear hb c0 c1 c2 c3 c4 c5
          go_wp2_with fail
          have HENL := Lib.hid (fun (k : Nat) (hk : k < kn) A gc dd dc W (h2 : Rows2 W A kn gc (some dd) mn dc K1 S1) => (by
            have h := endsC_any F L R HH A kn gc (some dd) mn dc S1 lo k W h2.seps (fun h => nomatch h) HKM.out HS1N.out h2.cm (by omega) (fun s h => by have := HS1s.out s h; omega) (by omega) (by omega)
            rw [ends_at rfl hk rfl rfl rfl] at h
            exact h : Calls Tryz.prog 20 #[nv F L R HH A kn gc (some dd) mn dc, .string lo, .int .i64 (k : Int)] W fun e w' => e = .returned (.tuple #[.string (loAt lo S1 k), .string (hiAt S1 HH k), .bool (doesAt mn R k)]) ∧ Below W.heap.size W w'))
          have HIN := Lib.hid (fun (k : Nat) (hk : k ≤ mn) => inside_iff (key := key) (low := lo) (H := HH) (ss := S1) (m := mn) (i := k) (R := R) HS1N.out HRI.out hl HHL.out hk)
          rw [ha0, hok] at HIN
          go_loopw [10, 11, 12] (fun mv lv iv wr => ∃ k : Nat, k ≤ kn ∧ iv = .int .i64 k ∧ mv = .int .i64 (manyB a0 k ok : Nat) ∧ lv = .string (lastV lo S1 HH k) ∧ Hid (Below V3.heap.size V3 wr)) (fun _ _ iv _ => kn - (intOf iv).toNat)
          case atStart => exact ⟨0, by omega, rfl, by unfold manyB; rw [if_neg (by omega)]; rfl, rfl, Lib.hid (Below.refl _ _)⟩
          case round =>
            obtain ⟨k, hk, rfl, rfl, rfl, HW⟩ := hrel
            have HXr := Lib.hid (HX.out.on HW.out)
            obtain ⟨c0, c1, c2, c3, c4, c5⟩ := HXr.out.box.cells
            by_cases hlt : k < kn
            · have hle : k ≤ mn := by have := HKM.out; omega
              have hkn : (k : Int) < kn := by omega
              have HE := Lib.hid (HENL.out k hlt)
              have hlast := last_lo (low := lo) (H := HH) HS1N.out hle
              have hin := HIN.out k hle
              obtain ⟨va, hva⟩ : ∃ va, loAt lo S1 k = va := ⟨_, rfl⟩
              obtain ⟨vb, hvb⟩ : ∃ vb, hiAt S1 HH k = vb := ⟨_, rfl⟩
              have HVB := Lib.hid hvb
              obtain ⟨q, hq⟩ : ∃ q, manyB a0 k ok = q := ⟨_, rfl⟩
              have hq1 : q ≤ 1 := by rw [← hq]; unfold manyB; split <;> omega
              rw [hlast, hva, hq]
              rw [hva, hvb] at HE
              have hzv := text_yes (rfl : va = va)
              by_cases hkm : k < mn
              · skip
                have hdd : doesAt mn R k = true := does_in R hkm
                have hvn : vb.size ≠ 0 := by
                  obtain ⟨s, hs⟩ : ∃ s, S1[k]? = some s := ⟨_, List.getElem?_eq_getElem (by have := HS1N.out; omega)⟩
                  rw [← hvb, hi_in hs]
                  exact HSE.out s (List.mem_of_getElem? hs)
                have hk1 : (k : Int) + 1 < kn := by have := HKM.out; omega
                have hk2 : decide ((k : Int) + 1 < kn) = true := decide_eq_true hk1
                rw [hdd] at HE
                obtain ⟨z1, z2, z3⟩ := empty_of vb
                rw [decide_eq_false hvn] at z1 z2 z3
                have z4 := text_no (show vb ≠ ⟨#[]⟩ from fun e => hvn (by rw [e]; rfl))
                by_cases la : L5.B key < L5.B va
                · have l1' := L5.less_yes la
                  have hin2 : insideB key lo S1 HH mn R k = false := by unfold insideB; rw [hva, hvb, hdd, decide_eq_true la, Bool.not_true, Bool.false_and]
                  have HQ : Hid (manyB a0 (k + 1) ok = q) := Lib.hid (many_no hq (by rw [← hin2, hin]))
                  clear hin hin2 hva hvb hdd hlast hq
                  go_wp2_with fail
                  refine (HE.out _ gc _ dc _ HXr.out.rows).mono ?_
                  rintro e V4 ⟨rfl, hb⟩
                  have HXV := Lib.hid (HXr.out.on hb)
                  have HWV := Lib.hid (HW.out.trans (hb.mono HW.out.size))
                  clear hb c0 c1 c2 c3 c4 c5
                  obtain ⟨c0, c1, c2, c3, c4, c5⟩ := HXV.out.box.cells
                  go_wp2_with fail
                  go_roundw
                  case rel => exact ⟨k + 1, by omega, by simp, by rw [HQ.out], by simp only [lastV, HVB.out], HWV⟩
                  case measure => simp [intOf]; omega
                · have l1' := L5.less_no la
                  by_cases lb : L5.B key < L5.B vb
                  · have l2' := L5.less_yes lb
                    have hin2 : insideB key lo S1 HH mn R k = true := by unfold insideB; rw [hva, hvb, hdd, decide_eq_false la, decide_eq_true lb]; rfl
                    obtain ⟨hka, HQ0, HQ1⟩ := many_yes hq (by rw [← hin2, hin])
                    have HQ : Hid (manyB a0 (k + 1) ok = 1) := Lib.hid HQ1
                    subst hka
                    subst HQ0
                    have haa : ((k : Int) == (k : Int)) = true := beq_self_eq_true _
                    clear hin hin2 hva hvb hdd hlast hq HQ1
                    go_wp2_with fail
                    refine (HE.out _ gc _ dc _ HXr.out.rows).mono ?_
                    rintro e V4 ⟨rfl, hb⟩
                    have HXV := Lib.hid (HXr.out.on hb)
                    have HWV := Lib.hid (HW.out.trans (hb.mono HW.out.size))
                    clear hb c0 c1 c2 c3 c4 c5
                    obtain ⟨c0, c1, c2, c3, c4, c5⟩ := HXV.out.box.cells
                    go_wp2_with fail
                    go_roundw
                    case rel => exact ⟨k + 1, by omega, by simp, by rw [HQ.out]; rfl, by simp only [lastV, HVB.out], HWV⟩
                    case measure => simp [intOf]; omega
                  · have l2' := L5.less_no lb
                    have hin2 : insideB key lo S1 HH mn R k = false := by unfold insideB; rw [hva, hvb, hdd, decide_eq_false la, decide_eq_false lb]; rfl
                    have HQ : Hid (manyB a0 (k + 1) ok = q) := Lib.hid (many_no hq (by rw [← hin2, hin]))
                    clear hin hin2 hva hvb hdd hlast hq
                    go_wp2_with fail
                    refine (HE.out _ gc _ dc _ HXr.out.rows).mono ?_
                    rintro e V4 ⟨rfl, hb⟩
                    have HXV := Lib.hid (HXr.out.on hb)
                    have HWV := Lib.hid (HW.out.trans (hb.mono HW.out.size))
                    clear hb c0 c1 c2 c3 c4 c5
                    obtain ⟨c0, c1, c2, c3, c4, c5⟩ := HXV.out.box.cells
                    go_wp2_with fail
                    go_roundw
                    case rel => exact ⟨k + 1, by omega, by simp, by rw [HQ.out], by simp only [lastV, HVB.out], HWV⟩
                    case measure => simp [intOf]; omega
              · by_cases hR : R = 0
                · skip
                  have hdd : doesAt mn R k = false := by rw [show k = mn by omega, does_end]; simpa using hR
                  have hk1 : ¬ (k : Int) + 1 < kn := by have := HKM.out; omega
                  have hk2 : decide ((k : Int) + 1 < kn) = false := decide_eq_false hk1
                  have hR1 : (R != 0) = false := by simpa using hR
                  have hR2 : (R == 0) = true := by simpa using hR
                  rw [hdd] at HE
                  clear hR
                  by_cases la : L5.B key < L5.B va
                  · have l1' := L5.less_yes la
                    have hin2 : insideB key lo S1 HH mn R k = false := by unfold insideB; rw [hva, hvb, hdd, decide_eq_true la, Bool.not_true, Bool.false_and]
                    have HQ : Hid (manyB a0 (k + 1) ok = q) := Lib.hid (many_no hq (by rw [← hin2, hin]))
                    clear hin hin2 hva hvb hdd hlast hq
                    go_wp2_with fail
                    refine (HE.out _ gc _ dc _ HXr.out.rows).mono ?_
                    rintro e V4 ⟨rfl, hb⟩
                    have HXV := Lib.hid (HXr.out.on hb)
                    have HWV := Lib.hid (HW.out.trans (hb.mono HW.out.size))
                    clear hb c0 c1 c2 c3 c4 c5
                    obtain ⟨c0, c1, c2, c3, c4, c5⟩ := HXV.out.box.cells
                    go_wp2_with fail
                    go_roundw
                    case rel => exact ⟨k + 1, by omega, by simp, by rw [HQ.out], by simp only [lastV, HVB.out], HWV⟩
                    case measure => simp [intOf]; omega
                  · have l1' := L5.less_no la
                    have hin2 : insideB key lo S1 HH mn R k = true := by unfold insideB; rw [hva, hvb, hdd, decide_eq_false la]; rfl
                    obtain ⟨hka, HQ0, HQ1⟩ := many_yes hq (by rw [← hin2, hin])
                    have HQ : Hid (manyB a0 (k + 1) ok = 1) := Lib.hid HQ1
                    subst hka
                    subst HQ0
                    have haa : ((k : Int) == (k : Int)) = true := beq_self_eq_true _
                    clear hin hin2 hva hvb hdd hlast hq HQ1
                    go_wp2_with fail
                    refine (HE.out _ gc _ dc _ HXr.out.rows).mono ?_
                    rintro e V4 ⟨rfl, hb⟩
                    have HXV := Lib.hid (HXr.out.on hb)
                    have HWV := Lib.hid (HW.out.trans (hb.mono HW.out.size))
                    clear hb c0 c1 c2 c3 c4 c5
                    obtain ⟨c0, c1, c2, c3, c4, c5⟩ := HXV.out.box.cells
                    go_wp2_with fail
                    go_roundw
                    case rel => exact ⟨k + 1, by omega, by simp, by rw [HQ.out]; rfl, by simp only [lastV, HVB.out], HWV⟩
                    case measure => simp [intOf]; omega
                · skip
                  have hdd : doesAt mn R k = true := by rw [show k = mn by omega, does_end]; simpa using hR
                  have hvn : vb.size ≠ 0 := by
                    rw [← hvb, show k = mn by omega, hi_end HS1N.out]
                    exact HHI.out hR
                  have hk1 : ¬ (k : Int) + 1 < kn := by have := HKM.out; omega
                  have hk2 : decide ((k : Int) + 1 < kn) = false := decide_eq_false hk1
                  have hR1 : (R != 0) = true := by simpa using hR
                  have hR2 : (R == 0) = false := by simpa using hR
                  rw [hdd] at HE
                  obtain ⟨z1, z2, z3⟩ := empty_of vb
                  rw [decide_eq_false hvn] at z1 z2 z3
                  have z4 := text_no (show vb ≠ ⟨#[]⟩ from fun e => hvn (by rw [e]; rfl))
                  by_cases la : L5.B key < L5.B va
                  · have l1' := L5.less_yes la
                    have hin2 : insideB key lo S1 HH mn R k = false := by unfold insideB; rw [hva, hvb, hdd, decide_eq_true la, Bool.not_true, Bool.false_and]
                    have HQ : Hid (manyB a0 (k + 1) ok = q) := Lib.hid (many_no hq (by rw [← hin2, hin]))
                    clear hin hin2 hva hvb hdd hlast hq
                    go_wp2_with fail
                    refine (HE.out _ gc _ dc _ HXr.out.rows).mono ?_
                    rintro e V4 ⟨rfl, hb⟩
                    have HXV := Lib.hid (HXr.out.on hb)
                    have HWV := Lib.hid (HW.out.trans (hb.mono HW.out.size))
                    clear hb c0 c1 c2 c3 c4 c5
                    obtain ⟨c0, c1, c2, c3, c4, c5⟩ := HXV.out.box.cells
                    go_wp2_with fail
                    go_roundw
                    case rel => exact ⟨k + 1, by omega, by simp, by rw [HQ.out], by simp only [lastV, HVB.out], HWV⟩
                    case measure => simp [intOf]; omega
                  · have l1' := L5.less_no la
                    by_cases lb : L5.B key < L5.B vb
                    · have l2' := L5.less_yes lb
                      have hin2 : insideB key lo S1 HH mn R k = true := by unfold insideB; rw [hva, hvb, hdd, decide_eq_false la, decide_eq_true lb]; rfl
                      obtain ⟨hka, HQ0, HQ1⟩ := many_yes hq (by rw [← hin2, hin])
                      have HQ : Hid (manyB a0 (k + 1) ok = 1) := Lib.hid HQ1
                      subst hka
                      subst HQ0
                      have haa : ((k : Int) == (k : Int)) = true := beq_self_eq_true _
                      clear hin hin2 hva hvb hdd hlast hq HQ1
                      go_wp2_with fail
                      refine (HE.out _ gc _ dc _ HXr.out.rows).mono ?_
                      rintro e V4 ⟨rfl, hb⟩
                      have HXV := Lib.hid (HXr.out.on hb)
                      have HWV := Lib.hid (HW.out.trans (hb.mono HW.out.size))
                      clear hb c0 c1 c2 c3 c4 c5
                      obtain ⟨c0, c1, c2, c3, c4, c5⟩ := HXV.out.box.cells
                      go_wp2_with fail
                      go_roundw
                      case rel => exact ⟨k + 1, by omega, by simp, by rw [HQ.out]; rfl, by simp only [lastV, HVB.out], HWV⟩
                      case measure => simp [intOf]; omega
                    · have l2' := L5.less_no lb
                      have hin2 : insideB key lo S1 HH mn R k = false := by unfold insideB; rw [hva, hvb, hdd, decide_eq_false la, decide_eq_false lb]; rfl
                      have HQ : Hid (manyB a0 (k + 1) ok = q) := Lib.hid (many_no hq (by rw [← hin2, hin]))
                      clear hin hin2 hva hvb hdd hlast hq
                      go_wp2_with fail
                      refine (HE.out _ gc _ dc _ HXr.out.rows).mono ?_
                      rintro e V4 ⟨rfl, hb⟩
                      have HXV := Lib.hid (HXr.out.on hb)
                      have HWV := Lib.hid (HW.out.trans (hb.mono HW.out.size))
                      clear hb c0 c1 c2 c3 c4 c5
                      obtain ⟨c0, c1, c2, c3, c4, c5⟩ := HXV.out.box.cells
                      go_wp2_with fail
                      go_roundw
                      case rel => exact ⟨k + 1, by omega, by simp, by rw [HQ.out], by simp only [lastV, HVB.out], HWV⟩
                      case measure => simp [intOf]; omega
            · obtain rfl : k = kn := by omega
              have hlt' : ¬ (k : Int) < k := by omega
              have hB := Lib.hid (HB.out.trans' HW.out)
              have hG := Lib.hid (HG.out.below HG.out.lt HW.out)
              have ha1 : a0 ≤ mn := by rw [← ha0, ← HS1N.out]; exact notAbove_le key S1
              have hak : (a0 : Int) < k := by have := HKM.out; omega
              have ha00 : (0 : Int) ≤ a0 := by omega
              replace HB := hB
              replace HG := hG
              cases hokc : ok with
              | true =>
                have hmany : manyB a0 k true = 1 := by unfold manyB; rw [if_pos ⟨by have := HKM.out; omega, rfl⟩]
                rw [hmany]
                by_cases hR : R = 0
                · have hR1 : (R != 0) = false := by simpa using hR
                  have hR2 : (R == 0) = true := by simpa using hR
                  clear hokc hmany hok ha0 hR
                  go_wp2_with fail
                  refine (HFX.out _ HG.out).mono ?_
                  rintro e V9 ⟨rfl, hb⟩
                  go_wp2_with fail
                  go_ret
                  exact ⟨rfl, HB.out.trans' hb⟩
                · have hR1 : (R != 0) = true := by simpa using hR
                  have hR2 : (R == 0) = false := by simpa using hR
                  have hkh : L5.B key < L5.B HH := by
                    rw [← hok] at hokc
                    unfold okB at hokc
                    rw [decide_eq_true hR] at hokc
                    exact of_decide_eq_true (by simpa using hokc)
                  have l3 := L5.less_yes hkh
                  clear hokc hmany hok ha0 hkh
                  go_wp2_with fail
                  refine (HFX.out _ HG.out).mono ?_
                  rintro e V9 ⟨rfl, hb⟩
                  go_wp2_with fail
                  go_ret
                  exact ⟨rfl, HB.out.trans' hb⟩
              | false =>
                have hmany : manyB a0 k false = 0 := by unfold manyB; rw [if_neg (by simp)]
                rw [hmany]
                have hboth : R ≠ 0 ∧ ¬ L5.B key < L5.B HH := by
                  rw [← hok] at hokc
                  unfold okB at hokc
                  simpa using hokc
                have hR1 : (R != 0) = true := by simpa using hboth.1
                have hR2 : (R == 0) = false := by simpa using hboth.1
                have l3 := L5.less_no hboth.2
                have ham : a0 = mn := by
                  refine Nat.le_antisymm ha1 (Nat.le_of_not_lt fun hlt2 => ?_)
                  obtain ⟨s, hs⟩ : ∃ s, S1[a0]? = some s := ⟨_, List.getElem?_eq_getElem (by have := HS1N.out; omega)⟩
                  have h := notAbove_spec (key := key) HRI.out hs
                  rw [ha0] at h
                  have h2 : L5.B key < L5.B s := Classical.not_not.1 (mt h.2 (Nat.lt_irrefl _))
                  exact hboth.2 (List.lt_trans h2 (HHL.out hboth.1 s (List.mem_of_getElem? hs)))
                have hk1 : (k : Int) - 1 = a0 := by have := HKM.out; omega
                have hkw : IntKind.i64.wrap ((k : Int) - 1) = a0 := by rw [hk1]; exact IntWalk.i64_in _ (by omega)
                have haa : ((a0 : Int) == (a0 : Int)) = true := beq_self_eq_true _
                clear hokc hmany hok ha0 hboth ham
                go_wp2_with fail
                refine (HFX.out _ HG.out).mono ?_
                rintro e V9 ⟨rfl, hb⟩
                go_wp2_with fail
                go_ret
                exact ⟨rfl, HB.out.trans' hb⟩
      · have l1 := L5.less_no h1
        go_wp2_with fail
        obtain ⟨lo, hlo⟩ : ∃ lo : ByteArray, ⟨#[]⟩ = lo := ⟨_, rfl⟩
        have hl : ¬ L5.B key < L5.B lo := by rw [← hlo]; exact (fun h => List.not_lt_nil _ h)
        have hls : lo.size ≤ 60 := by rw [← hlo]; exact Nat.zero_le _
        try rw [hlo]
        clear hlo
        refine (HRT.out _ gc _ dc _ HX.out.rows).mono ?_
        rintro e V3 ⟨rfl, hb⟩
        replace HB := Lib.hid (HB.out.trans' hb)
        replace HG := Lib.hid (HG0.out.below HG0.out.lt HB.out)
        replace HX := Lib.hid (HX.out.on hb)
        clear hb c0 c1 c2 c3 c4 c5
        go_wp2_with fail
        have HENL := Lib.hid (fun (k : Nat) (hk : k < kn) A gc dd dc W (h2 : Rows2 W A kn gc (some dd) mn dc K1 S1) => (by
          have h := endsC_any F L R HH A kn gc (some dd) mn dc S1 lo k W h2.seps (fun h => nomatch h) HKM.out HS1N.out h2.cm (by omega) (fun s h => by have := HS1s.out s h; omega) (by omega) (by omega)
          rw [ends_at rfl hk rfl rfl rfl] at h
          exact h : Calls Tryz.prog 20 #[nv F L R HH A kn gc (some dd) mn dc, .string lo, .int .i64 (k : Int)] W fun e w' => e = .returned (.tuple #[.string (loAt lo S1 k), .string (hiAt S1 HH k), .bool (doesAt mn R k)]) ∧ Below W.heap.size W w'))
        have HIN := Lib.hid (fun (k : Nat) (hk : k ≤ mn) => inside_iff (key := key) (low := lo) (H := HH) (ss := S1) (m := mn) (i := k) (R := R) HS1N.out HRI.out hl HHL.out hk)
        rw [ha0, hok] at HIN
        go_loopw [10, 11, 12] (fun mv lv iv wr => ∃ k : Nat, k ≤ kn ∧ iv = .int .i64 k ∧ mv = .int .i64 (manyB a0 k ok : Nat) ∧ lv = .string (lastV lo S1 HH k) ∧ Hid (Below V3.heap.size V3 wr)) (fun _ _ iv _ => kn - (intOf iv).toNat)
        case atStart => exact ⟨0, by omega, rfl, by unfold manyB; rw [if_neg (by omega)]; rfl, rfl, Lib.hid (Below.refl _ _)⟩
        case round =>
          obtain ⟨k, hk, rfl, rfl, rfl, HW⟩ := hrel
          have HXr := Lib.hid (HX.out.on HW.out)
          obtain ⟨c0, c1, c2, c3, c4, c5⟩ := HXr.out.box.cells
          by_cases hlt : k < kn
          · have hle : k ≤ mn := by have := HKM.out; omega
            have hkn : (k : Int) < kn := by omega
            have HE := Lib.hid (HENL.out k hlt)
            have hlast := last_lo (low := lo) (H := HH) HS1N.out hle
            have hin := HIN.out k hle
            obtain ⟨va, hva⟩ : ∃ va, loAt lo S1 k = va := ⟨_, rfl⟩
            obtain ⟨vb, hvb⟩ : ∃ vb, hiAt S1 HH k = vb := ⟨_, rfl⟩
            have HVB := Lib.hid hvb
            obtain ⟨q, hq⟩ : ∃ q, manyB a0 k ok = q := ⟨_, rfl⟩
            have hq1 : q ≤ 1 := by rw [← hq]; unfold manyB; split <;> omega
            rw [hlast, hva, hq]
            rw [hva, hvb] at HE
            have hzv := text_yes (rfl : va = va)
            by_cases hkm : k < mn
            · skip
              have hdd : doesAt mn R k = true := does_in R hkm
              have hvn : vb.size ≠ 0 := by
                obtain ⟨s, hs⟩ : ∃ s, S1[k]? = some s := ⟨_, List.getElem?_eq_getElem (by have := HS1N.out; omega)⟩
                rw [← hvb, hi_in hs]
                exact HSE.out s (List.mem_of_getElem? hs)
              have hk1 : (k : Int) + 1 < kn := by have := HKM.out; omega
              have hk2 : decide ((k : Int) + 1 < kn) = true := decide_eq_true hk1
              rw [hdd] at HE
              obtain ⟨z1, z2, z3⟩ := empty_of vb
              rw [decide_eq_false hvn] at z1 z2 z3
              have z4 := text_no (show vb ≠ ⟨#[]⟩ from fun e => hvn (by rw [e]; rfl))
              by_cases la : L5.B key < L5.B va
              · have l1' := L5.less_yes la
                have hin2 : insideB key lo S1 HH mn R k = false := by unfold insideB; rw [hva, hvb, hdd, decide_eq_true la, Bool.not_true, Bool.false_and]
                have HQ : Hid (manyB a0 (k + 1) ok = q) := Lib.hid (many_no hq (by rw [← hin2, hin]))
                clear hin hin2 hva hvb hdd hlast hq
                go_wp2_with fail
                refine (HE.out _ gc _ dc _ HXr.out.rows).mono ?_
                rintro e V4 ⟨rfl, hb⟩
                have HXV := Lib.hid (HXr.out.on hb)
                have HWV := Lib.hid (HW.out.trans (hb.mono HW.out.size))
                clear hb c0 c1 c2 c3 c4 c5
                obtain ⟨c0, c1, c2, c3, c4, c5⟩ := HXV.out.box.cells
                go_wp2_with fail
                go_roundw
                case rel => exact ⟨k + 1, by omega, by simp, by rw [HQ.out], by simp only [lastV, HVB.out], HWV⟩
                case measure => simp [intOf]; omega
              · have l1' := L5.less_no la
                by_cases lb : L5.B key < L5.B vb
                · have l2' := L5.less_yes lb
                  have hin2 : insideB key lo S1 HH mn R k = true := by unfold insideB; rw [hva, hvb, hdd, decide_eq_false la, decide_eq_true lb]; rfl
                  obtain ⟨hka, HQ0, HQ1⟩ := many_yes hq (by rw [← hin2, hin])
                  have HQ : Hid (manyB a0 (k + 1) ok = 1) := Lib.hid HQ1
                  subst hka
                  subst HQ0
                  have haa : ((k : Int) == (k : Int)) = true := beq_self_eq_true _
                  clear hin hin2 hva hvb hdd hlast hq HQ1
                  go_wp2_with fail
                  refine (HE.out _ gc _ dc _ HXr.out.rows).mono ?_
                  rintro e V4 ⟨rfl, hb⟩
                  have HXV := Lib.hid (HXr.out.on hb)
                  have HWV := Lib.hid (HW.out.trans (hb.mono HW.out.size))
                  clear hb c0 c1 c2 c3 c4 c5
                  obtain ⟨c0, c1, c2, c3, c4, c5⟩ := HXV.out.box.cells
                  go_wp2_with fail
                  go_roundw
                  case rel => exact ⟨k + 1, by omega, by simp, by rw [HQ.out]; rfl, by simp only [lastV, HVB.out], HWV⟩
                  case measure => simp [intOf]; omega
                · have l2' := L5.less_no lb
                  have hin2 : insideB key lo S1 HH mn R k = false := by unfold insideB; rw [hva, hvb, hdd, decide_eq_false la, decide_eq_false lb]; rfl
                  have HQ : Hid (manyB a0 (k + 1) ok = q) := Lib.hid (many_no hq (by rw [← hin2, hin]))
                  clear hin hin2 hva hvb hdd hlast hq
                  go_wp2_with fail
                  refine (HE.out _ gc _ dc _ HXr.out.rows).mono ?_
                  rintro e V4 ⟨rfl, hb⟩
                  have HXV := Lib.hid (HXr.out.on hb)
                  have HWV := Lib.hid (HW.out.trans (hb.mono HW.out.size))
                  clear hb c0 c1 c2 c3 c4 c5
                  obtain ⟨c0, c1, c2, c3, c4, c5⟩ := HXV.out.box.cells
                  go_wp2_with fail
                  go_roundw
                  case rel => exact ⟨k + 1, by omega, by simp, by rw [HQ.out], by simp only [lastV, HVB.out], HWV⟩
                  case measure => simp [intOf]; omega
            · by_cases hR : R = 0
              · skip
                have hdd : doesAt mn R k = false := by rw [show k = mn by omega, does_end]; simpa using hR
                have hk1 : ¬ (k : Int) + 1 < kn := by have := HKM.out; omega
                have hk2 : decide ((k : Int) + 1 < kn) = false := decide_eq_false hk1
                have hR1 : (R != 0) = false := by simpa using hR
                have hR2 : (R == 0) = true := by simpa using hR
                rw [hdd] at HE
                clear hR
                by_cases la : L5.B key < L5.B va
                · have l1' := L5.less_yes la
                  have hin2 : insideB key lo S1 HH mn R k = false := by unfold insideB; rw [hva, hvb, hdd, decide_eq_true la, Bool.not_true, Bool.false_and]
                  have HQ : Hid (manyB a0 (k + 1) ok = q) := Lib.hid (many_no hq (by rw [← hin2, hin]))
                  clear hin hin2 hva hvb hdd hlast hq
                  go_wp2_with fail
                  refine (HE.out _ gc _ dc _ HXr.out.rows).mono ?_
                  rintro e V4 ⟨rfl, hb⟩
                  have HXV := Lib.hid (HXr.out.on hb)
                  have HWV := Lib.hid (HW.out.trans (hb.mono HW.out.size))
                  clear hb c0 c1 c2 c3 c4 c5
                  obtain ⟨c0, c1, c2, c3, c4, c5⟩ := HXV.out.box.cells
                  go_wp2_with fail
                  go_roundw
                  case rel => exact ⟨k + 1, by omega, by simp, by rw [HQ.out], by simp only [lastV, HVB.out], HWV⟩
                  case measure => simp [intOf]; omega
                · have l1' := L5.less_no la
                  have hin2 : insideB key lo S1 HH mn R k = true := by unfold insideB; rw [hva, hvb, hdd, decide_eq_false la]; rfl
                  obtain ⟨hka, HQ0, HQ1⟩ := many_yes hq (by rw [← hin2, hin])
                  have HQ : Hid (manyB a0 (k + 1) ok = 1) := Lib.hid HQ1
                  subst hka
                  subst HQ0
                  have haa : ((k : Int) == (k : Int)) = true := beq_self_eq_true _
                  clear hin hin2 hva hvb hdd hlast hq HQ1
                  go_wp2_with fail
                  refine (HE.out _ gc _ dc _ HXr.out.rows).mono ?_
                  rintro e V4 ⟨rfl, hb⟩
                  have HXV := Lib.hid (HXr.out.on hb)
                  have HWV := Lib.hid (HW.out.trans (hb.mono HW.out.size))
                  clear hb c0 c1 c2 c3 c4 c5
                  obtain ⟨c0, c1, c2, c3, c4, c5⟩ := HXV.out.box.cells
                  go_wp2_with fail
                  go_roundw
                  case rel => exact ⟨k + 1, by omega, by simp, by rw [HQ.out]; rfl, by simp only [lastV, HVB.out], HWV⟩
                  case measure => simp [intOf]; omega
              · skip
                have hdd : doesAt mn R k = true := by rw [show k = mn by omega, does_end]; simpa using hR
                have hvn : vb.size ≠ 0 := by
                  rw [← hvb, show k = mn by omega, hi_end HS1N.out]
                  exact HHI.out hR
                have hk1 : ¬ (k : Int) + 1 < kn := by have := HKM.out; omega
                have hk2 : decide ((k : Int) + 1 < kn) = false := decide_eq_false hk1
                have hR1 : (R != 0) = true := by simpa using hR
                have hR2 : (R == 0) = false := by simpa using hR
                rw [hdd] at HE
                obtain ⟨z1, z2, z3⟩ := empty_of vb
                rw [decide_eq_false hvn] at z1 z2 z3
                have z4 := text_no (show vb ≠ ⟨#[]⟩ from fun e => hvn (by rw [e]; rfl))
                by_cases la : L5.B key < L5.B va
                · have l1' := L5.less_yes la
                  have hin2 : insideB key lo S1 HH mn R k = false := by unfold insideB; rw [hva, hvb, hdd, decide_eq_true la, Bool.not_true, Bool.false_and]
                  have HQ : Hid (manyB a0 (k + 1) ok = q) := Lib.hid (many_no hq (by rw [← hin2, hin]))
                  clear hin hin2 hva hvb hdd hlast hq
                  go_wp2_with fail
                  refine (HE.out _ gc _ dc _ HXr.out.rows).mono ?_
                  rintro e V4 ⟨rfl, hb⟩
                  have HXV := Lib.hid (HXr.out.on hb)
                  have HWV := Lib.hid (HW.out.trans (hb.mono HW.out.size))
                  clear hb c0 c1 c2 c3 c4 c5
                  obtain ⟨c0, c1, c2, c3, c4, c5⟩ := HXV.out.box.cells
                  go_wp2_with fail
                  go_roundw
                  case rel => exact ⟨k + 1, by omega, by simp, by rw [HQ.out], by simp only [lastV, HVB.out], HWV⟩
                  case measure => simp [intOf]; omega
                · have l1' := L5.less_no la
                  by_cases lb : L5.B key < L5.B vb
                  · have l2' := L5.less_yes lb
                    have hin2 : insideB key lo S1 HH mn R k = true := by unfold insideB; rw [hva, hvb, hdd, decide_eq_false la, decide_eq_true lb]; rfl
                    obtain ⟨hka, HQ0, HQ1⟩ := many_yes hq (by rw [← hin2, hin])
                    have HQ : Hid (manyB a0 (k + 1) ok = 1) := Lib.hid HQ1
                    subst hka
                    subst HQ0
                    have haa : ((k : Int) == (k : Int)) = true := beq_self_eq_true _
                    clear hin hin2 hva hvb hdd hlast hq HQ1
                    go_wp2_with fail
                    refine (HE.out _ gc _ dc _ HXr.out.rows).mono ?_
                    rintro e V4 ⟨rfl, hb⟩
                    have HXV := Lib.hid (HXr.out.on hb)
                    have HWV := Lib.hid (HW.out.trans (hb.mono HW.out.size))
                    clear hb c0 c1 c2 c3 c4 c5
                    obtain ⟨c0, c1, c2, c3, c4, c5⟩ := HXV.out.box.cells
                    go_wp2_with fail
                    go_roundw
                    case rel => exact ⟨k + 1, by omega, by simp, by rw [HQ.out]; rfl, by simp only [lastV, HVB.out], HWV⟩
                    case measure => simp [intOf]; omega
                  · have l2' := L5.less_no lb
                    have hin2 : insideB key lo S1 HH mn R k = false := by unfold insideB; rw [hva, hvb, hdd, decide_eq_false la, decide_eq_false lb]; rfl
                    have HQ : Hid (manyB a0 (k + 1) ok = q) := Lib.hid (many_no hq (by rw [← hin2, hin]))
                    clear hin hin2 hva hvb hdd hlast hq
                    go_wp2_with fail
                    refine (HE.out _ gc _ dc _ HXr.out.rows).mono ?_
                    rintro e V4 ⟨rfl, hb⟩
                    have HXV := Lib.hid (HXr.out.on hb)
                    have HWV := Lib.hid (HW.out.trans (hb.mono HW.out.size))
                    clear hb c0 c1 c2 c3 c4 c5
                    obtain ⟨c0, c1, c2, c3, c4, c5⟩ := HXV.out.box.cells
                    go_wp2_with fail
                    go_roundw
                    case rel => exact ⟨k + 1, by omega, by simp, by rw [HQ.out], by simp only [lastV, HVB.out], HWV⟩
                    case measure => simp [intOf]; omega
          · obtain rfl : k = kn := by omega
            have hlt' : ¬ (k : Int) < k := by omega
            have hB := Lib.hid (HB.out.trans' HW.out)
            have hG := Lib.hid (HG.out.below HG.out.lt HW.out)
            have ha1 : a0 ≤ mn := by rw [← ha0, ← HS1N.out]; exact notAbove_le key S1
            have hak : (a0 : Int) < k := by have := HKM.out; omega
            have ha00 : (0 : Int) ≤ a0 := by omega
            replace HB := hB
            replace HG := hG
            cases hokc : ok with
            | true =>
              have hmany : manyB a0 k true = 1 := by unfold manyB; rw [if_pos ⟨by have := HKM.out; omega, rfl⟩]
              rw [hmany]
              by_cases hR : R = 0
              · have hR1 : (R != 0) = false := by simpa using hR
                have hR2 : (R == 0) = true := by simpa using hR
                clear hokc hmany hok ha0 hR
                go_wp2_with fail
                refine (HFX.out _ HG.out).mono ?_
                rintro e V9 ⟨rfl, hb⟩
                go_wp2_with fail
                go_ret
                exact ⟨rfl, HB.out.trans' hb⟩
              · have hR1 : (R != 0) = true := by simpa using hR
                have hR2 : (R == 0) = false := by simpa using hR
                have hkh : L5.B key < L5.B HH := by
                  rw [← hok] at hokc
                  unfold okB at hokc
                  rw [decide_eq_true hR] at hokc
                  exact of_decide_eq_true (by simpa using hokc)
                have l3 := L5.less_yes hkh
                clear hokc hmany hok ha0 hkh
                go_wp2_with fail
                refine (HFX.out _ HG.out).mono ?_
                rintro e V9 ⟨rfl, hb⟩
                go_wp2_with fail
                go_ret
                exact ⟨rfl, HB.out.trans' hb⟩
            | false =>
              have hmany : manyB a0 k false = 0 := by unfold manyB; rw [if_neg (by simp)]
              rw [hmany]
              have hboth : R ≠ 0 ∧ ¬ L5.B key < L5.B HH := by
                rw [← hok] at hokc
                unfold okB at hokc
                simpa using hokc
              have hR1 : (R != 0) = true := by simpa using hboth.1
              have hR2 : (R == 0) = false := by simpa using hboth.1
              have l3 := L5.less_no hboth.2
              have ham : a0 = mn := by
                refine Nat.le_antisymm ha1 (Nat.le_of_not_lt fun hlt2 => ?_)
                obtain ⟨s, hs⟩ : ∃ s, S1[a0]? = some s := ⟨_, List.getElem?_eq_getElem (by have := HS1N.out; omega)⟩
                have h := notAbove_spec (key := key) HRI.out hs
                rw [ha0] at h
                have h2 : L5.B key < L5.B s := Classical.not_not.1 (mt h.2 (Nat.lt_irrefl _))
                exact hboth.2 (List.lt_trans h2 (HHL.out hboth.1 s (List.mem_of_getElem? hs)))
              have hk1 : (k : Int) - 1 = a0 := by have := HKM.out; omega
              have hkw : IntKind.i64.wrap ((k : Int) - 1) = a0 := by rw [hk1]; exact IntWalk.i64_in _ (by omega)
              have haa : ((a0 : Int) == (a0 : Int)) = true := beq_self_eq_true _
              clear hokc hmany hok ha0 hboth ham
              go_wp2_with fail
              refine (HFX.out _ HG.out).mono ?_
              rintro e V9 ⟨rfl, hb⟩
              go_wp2_with fail
              go_ret
              exact ⟨rfl, HB.out.trans' hb⟩
    · have hm1 : ¬ (0 : Int) < mn := by omega
      by_cases h2 : L5.B key < L5.B low
      · have l2 := L5.less_yes h2
        go_wp2_with fail
        obtain ⟨lo, hlo⟩ : ∃ lo : ByteArray, ⟨#[]⟩ = lo := ⟨_, rfl⟩
        have hl : ¬ L5.B key < L5.B lo := by rw [← hlo]; exact (fun h => List.not_lt_nil _ h)
        have hls : lo.size ≤ 60 := by rw [← hlo]; exact Nat.zero_le _
        try rw [hlo]
        clear hlo
        refine (HRT.out _ gc _ dc _ HX.out.rows).mono ?_
        rintro e V3 ⟨rfl, hb⟩
        replace HB := Lib.hid (HB.out.trans' hb)
        replace HG := Lib.hid (HG0.out.below HG0.out.lt HB.out)
        replace HX := Lib.hid (HX.out.on hb)
        clear hb c0 c1 c2 c3 c4 c5
        go_wp2_with fail
        have HENL := Lib.hid (fun (k : Nat) (hk : k < kn) A gc dd dc W (h2 : Rows2 W A kn gc (some dd) mn dc K1 S1) => (by
          have h := endsC_any F L R HH A kn gc (some dd) mn dc S1 lo k W h2.seps (fun h => nomatch h) HKM.out HS1N.out h2.cm (by omega) (fun s h => by have := HS1s.out s h; omega) (by omega) (by omega)
          rw [ends_at rfl hk rfl rfl rfl] at h
          exact h : Calls Tryz.prog 20 #[nv F L R HH A kn gc (some dd) mn dc, .string lo, .int .i64 (k : Int)] W fun e w' => e = .returned (.tuple #[.string (loAt lo S1 k), .string (hiAt S1 HH k), .bool (doesAt mn R k)]) ∧ Below W.heap.size W w'))
        have HIN := Lib.hid (fun (k : Nat) (hk : k ≤ mn) => inside_iff (key := key) (low := lo) (H := HH) (ss := S1) (m := mn) (i := k) (R := R) HS1N.out HRI.out hl HHL.out hk)
        rw [ha0, hok] at HIN
        go_loopw [10, 11, 12] (fun mv lv iv wr => ∃ k : Nat, k ≤ kn ∧ iv = .int .i64 k ∧ mv = .int .i64 (manyB a0 k ok : Nat) ∧ lv = .string (lastV lo S1 HH k) ∧ Hid (Below V3.heap.size V3 wr)) (fun _ _ iv _ => kn - (intOf iv).toNat)
        case atStart => exact ⟨0, by omega, rfl, by unfold manyB; rw [if_neg (by omega)]; rfl, rfl, Lib.hid (Below.refl _ _)⟩
        case round =>
          obtain ⟨k, hk, rfl, rfl, rfl, HW⟩ := hrel
          have HXr := Lib.hid (HX.out.on HW.out)
          obtain ⟨c0, c1, c2, c3, c4, c5⟩ := HXr.out.box.cells
          by_cases hlt : k < kn
          · have hle : k ≤ mn := by have := HKM.out; omega
            have hkn : (k : Int) < kn := by omega
            have HE := Lib.hid (HENL.out k hlt)
            have hlast := last_lo (low := lo) (H := HH) HS1N.out hle
            have hin := HIN.out k hle
            obtain ⟨va, hva⟩ : ∃ va, loAt lo S1 k = va := ⟨_, rfl⟩
            obtain ⟨vb, hvb⟩ : ∃ vb, hiAt S1 HH k = vb := ⟨_, rfl⟩
            have HVB := Lib.hid hvb
            obtain ⟨q, hq⟩ : ∃ q, manyB a0 k ok = q := ⟨_, rfl⟩
            have hq1 : q ≤ 1 := by rw [← hq]; unfold manyB; split <;> omega
            rw [hlast, hva, hq]
            rw [hva, hvb] at HE
            have hzv := text_yes (rfl : va = va)
            by_cases hkm : k < mn
            · skip
              exact absurd hkm (by omega)
            · by_cases hR : R = 0
              · skip
                have hdd : doesAt mn R k = false := by rw [show k = mn by omega, does_end]; simpa using hR
                have hk1 : ¬ (k : Int) + 1 < kn := by have := HKM.out; omega
                have hk2 : decide ((k : Int) + 1 < kn) = false := decide_eq_false hk1
                have hR1 : (R != 0) = false := by simpa using hR
                have hR2 : (R == 0) = true := by simpa using hR
                rw [hdd] at HE
                clear hR
                by_cases la : L5.B key < L5.B va
                · have l1' := L5.less_yes la
                  have hin2 : insideB key lo S1 HH mn R k = false := by unfold insideB; rw [hva, hvb, hdd, decide_eq_true la, Bool.not_true, Bool.false_and]
                  have HQ : Hid (manyB a0 (k + 1) ok = q) := Lib.hid (many_no hq (by rw [← hin2, hin]))
                  clear hin hin2 hva hvb hdd hlast hq
                  go_wp2_with fail
                  refine (HE.out _ gc _ dc _ HXr.out.rows).mono ?_
                  rintro e V4 ⟨rfl, hb⟩
                  have HXV := Lib.hid (HXr.out.on hb)
                  have HWV := Lib.hid (HW.out.trans (hb.mono HW.out.size))
                  clear hb c0 c1 c2 c3 c4 c5
                  obtain ⟨c0, c1, c2, c3, c4, c5⟩ := HXV.out.box.cells
                  go_wp2_with fail
                  go_roundw
                  case rel => exact ⟨k + 1, by omega, by simp, by rw [HQ.out], by simp only [lastV, HVB.out], HWV⟩
                  case measure => simp [intOf]; omega
                · have l1' := L5.less_no la
                  have hin2 : insideB key lo S1 HH mn R k = true := by unfold insideB; rw [hva, hvb, hdd, decide_eq_false la]; rfl
                  obtain ⟨hka, HQ0, HQ1⟩ := many_yes hq (by rw [← hin2, hin])
                  have HQ : Hid (manyB a0 (k + 1) ok = 1) := Lib.hid HQ1
                  subst hka
                  subst HQ0
                  have haa : ((k : Int) == (k : Int)) = true := beq_self_eq_true _
                  clear hin hin2 hva hvb hdd hlast hq HQ1
                  go_wp2_with fail
                  refine (HE.out _ gc _ dc _ HXr.out.rows).mono ?_
                  rintro e V4 ⟨rfl, hb⟩
                  have HXV := Lib.hid (HXr.out.on hb)
                  have HWV := Lib.hid (HW.out.trans (hb.mono HW.out.size))
                  clear hb c0 c1 c2 c3 c4 c5
                  obtain ⟨c0, c1, c2, c3, c4, c5⟩ := HXV.out.box.cells
                  go_wp2_with fail
                  go_roundw
                  case rel => exact ⟨k + 1, by omega, by simp, by rw [HQ.out]; rfl, by simp only [lastV, HVB.out], HWV⟩
                  case measure => simp [intOf]; omega
              · skip
                have hdd : doesAt mn R k = true := by rw [show k = mn by omega, does_end]; simpa using hR
                have hvn : vb.size ≠ 0 := by
                  rw [← hvb, show k = mn by omega, hi_end HS1N.out]
                  exact HHI.out hR
                have hk1 : ¬ (k : Int) + 1 < kn := by have := HKM.out; omega
                have hk2 : decide ((k : Int) + 1 < kn) = false := decide_eq_false hk1
                have hR1 : (R != 0) = true := by simpa using hR
                have hR2 : (R == 0) = false := by simpa using hR
                rw [hdd] at HE
                obtain ⟨z1, z2, z3⟩ := empty_of vb
                rw [decide_eq_false hvn] at z1 z2 z3
                have z4 := text_no (show vb ≠ ⟨#[]⟩ from fun e => hvn (by rw [e]; rfl))
                by_cases la : L5.B key < L5.B va
                · have l1' := L5.less_yes la
                  have hin2 : insideB key lo S1 HH mn R k = false := by unfold insideB; rw [hva, hvb, hdd, decide_eq_true la, Bool.not_true, Bool.false_and]
                  have HQ : Hid (manyB a0 (k + 1) ok = q) := Lib.hid (many_no hq (by rw [← hin2, hin]))
                  clear hin hin2 hva hvb hdd hlast hq
                  go_wp2_with fail
                  refine (HE.out _ gc _ dc _ HXr.out.rows).mono ?_
                  rintro e V4 ⟨rfl, hb⟩
                  have HXV := Lib.hid (HXr.out.on hb)
                  have HWV := Lib.hid (HW.out.trans (hb.mono HW.out.size))
                  clear hb c0 c1 c2 c3 c4 c5
                  obtain ⟨c0, c1, c2, c3, c4, c5⟩ := HXV.out.box.cells
                  go_wp2_with fail
                  go_roundw
                  case rel => exact ⟨k + 1, by omega, by simp, by rw [HQ.out], by simp only [lastV, HVB.out], HWV⟩
                  case measure => simp [intOf]; omega
                · have l1' := L5.less_no la
                  by_cases lb : L5.B key < L5.B vb
                  · have l2' := L5.less_yes lb
                    have hin2 : insideB key lo S1 HH mn R k = true := by unfold insideB; rw [hva, hvb, hdd, decide_eq_false la, decide_eq_true lb]; rfl
                    obtain ⟨hka, HQ0, HQ1⟩ := many_yes hq (by rw [← hin2, hin])
                    have HQ : Hid (manyB a0 (k + 1) ok = 1) := Lib.hid HQ1
                    subst hka
                    subst HQ0
                    have haa : ((k : Int) == (k : Int)) = true := beq_self_eq_true _
                    clear hin hin2 hva hvb hdd hlast hq HQ1
                    go_wp2_with fail
                    refine (HE.out _ gc _ dc _ HXr.out.rows).mono ?_
                    rintro e V4 ⟨rfl, hb⟩
                    have HXV := Lib.hid (HXr.out.on hb)
                    have HWV := Lib.hid (HW.out.trans (hb.mono HW.out.size))
                    clear hb c0 c1 c2 c3 c4 c5
                    obtain ⟨c0, c1, c2, c3, c4, c5⟩ := HXV.out.box.cells
                    go_wp2_with fail
                    go_roundw
                    case rel => exact ⟨k + 1, by omega, by simp, by rw [HQ.out]; rfl, by simp only [lastV, HVB.out], HWV⟩
                    case measure => simp [intOf]; omega
                  · have l2' := L5.less_no lb
                    have hin2 : insideB key lo S1 HH mn R k = false := by unfold insideB; rw [hva, hvb, hdd, decide_eq_false la, decide_eq_false lb]; rfl
                    have HQ : Hid (manyB a0 (k + 1) ok = q) := Lib.hid (many_no hq (by rw [← hin2, hin]))
                    clear hin hin2 hva hvb hdd hlast hq
                    go_wp2_with fail
                    refine (HE.out _ gc _ dc _ HXr.out.rows).mono ?_
                    rintro e V4 ⟨rfl, hb⟩
                    have HXV := Lib.hid (HXr.out.on hb)
                    have HWV := Lib.hid (HW.out.trans (hb.mono HW.out.size))
                    clear hb c0 c1 c2 c3 c4 c5
                    obtain ⟨c0, c1, c2, c3, c4, c5⟩ := HXV.out.box.cells
                    go_wp2_with fail
                    go_roundw
                    case rel => exact ⟨k + 1, by omega, by simp, by rw [HQ.out], by simp only [lastV, HVB.out], HWV⟩
                    case measure => simp [intOf]; omega
          · obtain rfl : k = kn := by omega
            have hlt' : ¬ (k : Int) < k := by omega
            have hB := Lib.hid (HB.out.trans' HW.out)
            have hG := Lib.hid (HG.out.below HG.out.lt HW.out)
            have ha1 : a0 ≤ mn := by rw [← ha0, ← HS1N.out]; exact notAbove_le key S1
            have hak : (a0 : Int) < k := by have := HKM.out; omega
            have ha00 : (0 : Int) ≤ a0 := by omega
            replace HB := hB
            replace HG := hG
            cases hokc : ok with
            | true =>
              have hmany : manyB a0 k true = 1 := by unfold manyB; rw [if_pos ⟨by have := HKM.out; omega, rfl⟩]
              rw [hmany]
              by_cases hR : R = 0
              · have hR1 : (R != 0) = false := by simpa using hR
                have hR2 : (R == 0) = true := by simpa using hR
                clear hokc hmany hok ha0 hR
                go_wp2_with fail
                refine (HFX.out _ HG.out).mono ?_
                rintro e V9 ⟨rfl, hb⟩
                go_wp2_with fail
                go_ret
                exact ⟨rfl, HB.out.trans' hb⟩
              · have hR1 : (R != 0) = true := by simpa using hR
                have hR2 : (R == 0) = false := by simpa using hR
                have hkh : L5.B key < L5.B HH := by
                  rw [← hok] at hokc
                  unfold okB at hokc
                  rw [decide_eq_true hR] at hokc
                  exact of_decide_eq_true (by simpa using hokc)
                have l3 := L5.less_yes hkh
                clear hokc hmany hok ha0 hkh
                go_wp2_with fail
                refine (HFX.out _ HG.out).mono ?_
                rintro e V9 ⟨rfl, hb⟩
                go_wp2_with fail
                go_ret
                exact ⟨rfl, HB.out.trans' hb⟩
            | false =>
              have hmany : manyB a0 k false = 0 := by unfold manyB; rw [if_neg (by simp)]
              rw [hmany]
              have hboth : R ≠ 0 ∧ ¬ L5.B key < L5.B HH := by
                rw [← hok] at hokc
                unfold okB at hokc
                simpa using hokc
              have hR1 : (R != 0) = true := by simpa using hboth.1
              have hR2 : (R == 0) = false := by simpa using hboth.1
              have l3 := L5.less_no hboth.2
              have ham : a0 = mn := by
                refine Nat.le_antisymm ha1 (Nat.le_of_not_lt fun hlt2 => ?_)
                obtain ⟨s, hs⟩ : ∃ s, S1[a0]? = some s := ⟨_, List.getElem?_eq_getElem (by have := HS1N.out; omega)⟩
                have h := notAbove_spec (key := key) HRI.out hs
                rw [ha0] at h
                have h2 : L5.B key < L5.B s := Classical.not_not.1 (mt h.2 (Nat.lt_irrefl _))
                exact hboth.2 (List.lt_trans h2 (HHL.out hboth.1 s (List.mem_of_getElem? hs)))
              have hk1 : (k : Int) - 1 = a0 := by have := HKM.out; omega
              have hkw : IntKind.i64.wrap ((k : Int) - 1) = a0 := by rw [hk1]; exact IntWalk.i64_in _ (by omega)
              have haa : ((a0 : Int) == (a0 : Int)) = true := beq_self_eq_true _
              clear hokc hmany hok ha0 hboth ham
              go_wp2_with fail
              refine (HFX.out _ HG.out).mono ?_
              rintro e V9 ⟨rfl, hb⟩
              go_wp2_with fail
              go_ret
              exact ⟨rfl, HB.out.trans' hb⟩
      · have l2 := L5.less_no h2
        go_wp2_with fail
        obtain ⟨lo, hlo⟩ : ∃ lo : ByteArray, low = lo := ⟨_, rfl⟩
        have hl : ¬ L5.B key < L5.B lo := by rw [← hlo]; exact h2
        have hls : lo.size ≤ 60 := by rw [← hlo]; exact hT2
        try rw [hlo]
        clear hlo
        refine (HRT.out _ gc _ dc _ HX.out.rows).mono ?_
        rintro e V3 ⟨rfl, hb⟩
        replace HB := Lib.hid (HB.out.trans' hb)
        replace HG := Lib.hid (HG0.out.below HG0.out.lt HB.out)
        replace HX := Lib.hid (HX.out.on hb)
        clear hb c0 c1 c2 c3 c4 c5
        go_wp2_with fail
        have HENL := Lib.hid (fun (k : Nat) (hk : k < kn) A gc dd dc W (h2 : Rows2 W A kn gc (some dd) mn dc K1 S1) => (by
          have h := endsC_any F L R HH A kn gc (some dd) mn dc S1 lo k W h2.seps (fun h => nomatch h) HKM.out HS1N.out h2.cm (by omega) (fun s h => by have := HS1s.out s h; omega) (by omega) (by omega)
          rw [ends_at rfl hk rfl rfl rfl] at h
          exact h : Calls Tryz.prog 20 #[nv F L R HH A kn gc (some dd) mn dc, .string lo, .int .i64 (k : Int)] W fun e w' => e = .returned (.tuple #[.string (loAt lo S1 k), .string (hiAt S1 HH k), .bool (doesAt mn R k)]) ∧ Below W.heap.size W w'))
        have HIN := Lib.hid (fun (k : Nat) (hk : k ≤ mn) => inside_iff (key := key) (low := lo) (H := HH) (ss := S1) (m := mn) (i := k) (R := R) HS1N.out HRI.out hl HHL.out hk)
        rw [ha0, hok] at HIN
        go_loopw [10, 11, 12] (fun mv lv iv wr => ∃ k : Nat, k ≤ kn ∧ iv = .int .i64 k ∧ mv = .int .i64 (manyB a0 k ok : Nat) ∧ lv = .string (lastV lo S1 HH k) ∧ Hid (Below V3.heap.size V3 wr)) (fun _ _ iv _ => kn - (intOf iv).toNat)
        case atStart => exact ⟨0, by omega, rfl, by unfold manyB; rw [if_neg (by omega)]; rfl, rfl, Lib.hid (Below.refl _ _)⟩
        case round =>
          obtain ⟨k, hk, rfl, rfl, rfl, HW⟩ := hrel
          have HXr := Lib.hid (HX.out.on HW.out)
          obtain ⟨c0, c1, c2, c3, c4, c5⟩ := HXr.out.box.cells
          by_cases hlt : k < kn
          · have hle : k ≤ mn := by have := HKM.out; omega
            have hkn : (k : Int) < kn := by omega
            have HE := Lib.hid (HENL.out k hlt)
            have hlast := last_lo (low := lo) (H := HH) HS1N.out hle
            have hin := HIN.out k hle
            obtain ⟨va, hva⟩ : ∃ va, loAt lo S1 k = va := ⟨_, rfl⟩
            obtain ⟨vb, hvb⟩ : ∃ vb, hiAt S1 HH k = vb := ⟨_, rfl⟩
            have HVB := Lib.hid hvb
            obtain ⟨q, hq⟩ : ∃ q, manyB a0 k ok = q := ⟨_, rfl⟩
            have hq1 : q ≤ 1 := by rw [← hq]; unfold manyB; split <;> omega
            rw [hlast, hva, hq]
            rw [hva, hvb] at HE
            have hzv := text_yes (rfl : va = va)
            by_cases hkm : k < mn
            · skip
              exact absurd hkm (by omega)
            · by_cases hR : R = 0
              · skip
                have hdd : doesAt mn R k = false := by rw [show k = mn by omega, does_end]; simpa using hR
                have hk1 : ¬ (k : Int) + 1 < kn := by have := HKM.out; omega
                have hk2 : decide ((k : Int) + 1 < kn) = false := decide_eq_false hk1
                have hR1 : (R != 0) = false := by simpa using hR
                have hR2 : (R == 0) = true := by simpa using hR
                rw [hdd] at HE
                clear hR
                by_cases la : L5.B key < L5.B va
                · have l1' := L5.less_yes la
                  have hin2 : insideB key lo S1 HH mn R k = false := by unfold insideB; rw [hva, hvb, hdd, decide_eq_true la, Bool.not_true, Bool.false_and]
                  have HQ : Hid (manyB a0 (k + 1) ok = q) := Lib.hid (many_no hq (by rw [← hin2, hin]))
                  clear hin hin2 hva hvb hdd hlast hq
                  go_wp2_with fail
                  refine (HE.out _ gc _ dc _ HXr.out.rows).mono ?_
                  rintro e V4 ⟨rfl, hb⟩
                  have HXV := Lib.hid (HXr.out.on hb)
                  have HWV := Lib.hid (HW.out.trans (hb.mono HW.out.size))
                  clear hb c0 c1 c2 c3 c4 c5
                  obtain ⟨c0, c1, c2, c3, c4, c5⟩ := HXV.out.box.cells
                  go_wp2_with fail
                  go_roundw
                  case rel => exact ⟨k + 1, by omega, by simp, by rw [HQ.out], by simp only [lastV, HVB.out], HWV⟩
                  case measure => simp [intOf]; omega
                · have l1' := L5.less_no la
                  have hin2 : insideB key lo S1 HH mn R k = true := by unfold insideB; rw [hva, hvb, hdd, decide_eq_false la]; rfl
                  obtain ⟨hka, HQ0, HQ1⟩ := many_yes hq (by rw [← hin2, hin])
                  have HQ : Hid (manyB a0 (k + 1) ok = 1) := Lib.hid HQ1
                  subst hka
                  subst HQ0
                  have haa : ((k : Int) == (k : Int)) = true := beq_self_eq_true _
                  clear hin hin2 hva hvb hdd hlast hq HQ1
                  go_wp2_with fail
                  refine (HE.out _ gc _ dc _ HXr.out.rows).mono ?_
                  rintro e V4 ⟨rfl, hb⟩
                  have HXV := Lib.hid (HXr.out.on hb)
                  have HWV := Lib.hid (HW.out.trans (hb.mono HW.out.size))
                  clear hb c0 c1 c2 c3 c4 c5
                  obtain ⟨c0, c1, c2, c3, c4, c5⟩ := HXV.out.box.cells
                  go_wp2_with fail
                  go_roundw
                  case rel => exact ⟨k + 1, by omega, by simp, by rw [HQ.out]; rfl, by simp only [lastV, HVB.out], HWV⟩
                  case measure => simp [intOf]; omega
              · skip
                have hdd : doesAt mn R k = true := by rw [show k = mn by omega, does_end]; simpa using hR
                have hvn : vb.size ≠ 0 := by
                  rw [← hvb, show k = mn by omega, hi_end HS1N.out]
                  exact HHI.out hR
                have hk1 : ¬ (k : Int) + 1 < kn := by have := HKM.out; omega
                have hk2 : decide ((k : Int) + 1 < kn) = false := decide_eq_false hk1
                have hR1 : (R != 0) = true := by simpa using hR
                have hR2 : (R == 0) = false := by simpa using hR
                rw [hdd] at HE
                obtain ⟨z1, z2, z3⟩ := empty_of vb
                rw [decide_eq_false hvn] at z1 z2 z3
                have z4 := text_no (show vb ≠ ⟨#[]⟩ from fun e => hvn (by rw [e]; rfl))
                by_cases la : L5.B key < L5.B va
                · have l1' := L5.less_yes la
                  have hin2 : insideB key lo S1 HH mn R k = false := by unfold insideB; rw [hva, hvb, hdd, decide_eq_true la, Bool.not_true, Bool.false_and]
                  have HQ : Hid (manyB a0 (k + 1) ok = q) := Lib.hid (many_no hq (by rw [← hin2, hin]))
                  clear hin hin2 hva hvb hdd hlast hq
                  go_wp2_with fail
                  refine (HE.out _ gc _ dc _ HXr.out.rows).mono ?_
                  rintro e V4 ⟨rfl, hb⟩
                  have HXV := Lib.hid (HXr.out.on hb)
                  have HWV := Lib.hid (HW.out.trans (hb.mono HW.out.size))
                  clear hb c0 c1 c2 c3 c4 c5
                  obtain ⟨c0, c1, c2, c3, c4, c5⟩ := HXV.out.box.cells
                  go_wp2_with fail
                  go_roundw
                  case rel => exact ⟨k + 1, by omega, by simp, by rw [HQ.out], by simp only [lastV, HVB.out], HWV⟩
                  case measure => simp [intOf]; omega
                · have l1' := L5.less_no la
                  by_cases lb : L5.B key < L5.B vb
                  · have l2' := L5.less_yes lb
                    have hin2 : insideB key lo S1 HH mn R k = true := by unfold insideB; rw [hva, hvb, hdd, decide_eq_false la, decide_eq_true lb]; rfl
                    obtain ⟨hka, HQ0, HQ1⟩ := many_yes hq (by rw [← hin2, hin])
                    have HQ : Hid (manyB a0 (k + 1) ok = 1) := Lib.hid HQ1
                    subst hka
                    subst HQ0
                    have haa : ((k : Int) == (k : Int)) = true := beq_self_eq_true _
                    clear hin hin2 hva hvb hdd hlast hq HQ1
                    go_wp2_with fail
                    refine (HE.out _ gc _ dc _ HXr.out.rows).mono ?_
                    rintro e V4 ⟨rfl, hb⟩
                    have HXV := Lib.hid (HXr.out.on hb)
                    have HWV := Lib.hid (HW.out.trans (hb.mono HW.out.size))
                    clear hb c0 c1 c2 c3 c4 c5
                    obtain ⟨c0, c1, c2, c3, c4, c5⟩ := HXV.out.box.cells
                    go_wp2_with fail
                    go_roundw
                    case rel => exact ⟨k + 1, by omega, by simp, by rw [HQ.out]; rfl, by simp only [lastV, HVB.out], HWV⟩
                    case measure => simp [intOf]; omega
                  · have l2' := L5.less_no lb
                    have hin2 : insideB key lo S1 HH mn R k = false := by unfold insideB; rw [hva, hvb, hdd, decide_eq_false la, decide_eq_false lb]; rfl
                    have HQ : Hid (manyB a0 (k + 1) ok = q) := Lib.hid (many_no hq (by rw [← hin2, hin]))
                    clear hin hin2 hva hvb hdd hlast hq
                    go_wp2_with fail
                    refine (HE.out _ gc _ dc _ HXr.out.rows).mono ?_
                    rintro e V4 ⟨rfl, hb⟩
                    have HXV := Lib.hid (HXr.out.on hb)
                    have HWV := Lib.hid (HW.out.trans (hb.mono HW.out.size))
                    clear hb c0 c1 c2 c3 c4 c5
                    obtain ⟨c0, c1, c2, c3, c4, c5⟩ := HXV.out.box.cells
                    go_wp2_with fail
                    go_roundw
                    case rel => exact ⟨k + 1, by omega, by simp, by rw [HQ.out], by simp only [lastV, HVB.out], HWV⟩
                    case measure => simp [intOf]; omega
          · obtain rfl : k = kn := by omega
            have hlt' : ¬ (k : Int) < k := by omega
            have hB := Lib.hid (HB.out.trans' HW.out)
            have hG := Lib.hid (HG.out.below HG.out.lt HW.out)
            have ha1 : a0 ≤ mn := by rw [← ha0, ← HS1N.out]; exact notAbove_le key S1
            have hak : (a0 : Int) < k := by have := HKM.out; omega
            have ha00 : (0 : Int) ≤ a0 := by omega
            replace HB := hB
            replace HG := hG
            cases hokc : ok with
            | true =>
              have hmany : manyB a0 k true = 1 := by unfold manyB; rw [if_pos ⟨by have := HKM.out; omega, rfl⟩]
              rw [hmany]
              by_cases hR : R = 0
              · have hR1 : (R != 0) = false := by simpa using hR
                have hR2 : (R == 0) = true := by simpa using hR
                clear hokc hmany hok ha0 hR
                go_wp2_with fail
                refine (HFX.out _ HG.out).mono ?_
                rintro e V9 ⟨rfl, hb⟩
                go_wp2_with fail
                go_ret
                exact ⟨rfl, HB.out.trans' hb⟩
              · have hR1 : (R != 0) = true := by simpa using hR
                have hR2 : (R == 0) = false := by simpa using hR
                have hkh : L5.B key < L5.B HH := by
                  rw [← hok] at hokc
                  unfold okB at hokc
                  rw [decide_eq_true hR] at hokc
                  exact of_decide_eq_true (by simpa using hokc)
                have l3 := L5.less_yes hkh
                clear hokc hmany hok ha0 hkh
                go_wp2_with fail
                refine (HFX.out _ HG.out).mono ?_
                rintro e V9 ⟨rfl, hb⟩
                go_wp2_with fail
                go_ret
                exact ⟨rfl, HB.out.trans' hb⟩
            | false =>
              have hmany : manyB a0 k false = 0 := by unfold manyB; rw [if_neg (by simp)]
              rw [hmany]
              have hboth : R ≠ 0 ∧ ¬ L5.B key < L5.B HH := by
                rw [← hok] at hokc
                unfold okB at hokc
                simpa using hokc
              have hR1 : (R != 0) = true := by simpa using hboth.1
              have hR2 : (R == 0) = false := by simpa using hboth.1
              have l3 := L5.less_no hboth.2
              have ham : a0 = mn := by
                refine Nat.le_antisymm ha1 (Nat.le_of_not_lt fun hlt2 => ?_)
                obtain ⟨s, hs⟩ : ∃ s, S1[a0]? = some s := ⟨_, List.getElem?_eq_getElem (by have := HS1N.out; omega)⟩
                have h := notAbove_spec (key := key) HRI.out hs
                rw [ha0] at h
                have h2 : L5.B key < L5.B s := Classical.not_not.1 (mt h.2 (Nat.lt_irrefl _))
                exact hboth.2 (List.lt_trans h2 (HHL.out hboth.1 s (List.mem_of_getElem? hs)))
              have hk1 : (k : Int) - 1 = a0 := by have := HKM.out; omega
              have hkw : IntKind.i64.wrap ((k : Int) - 1) = a0 := by rw [hk1]; exact IntWalk.i64_in _ (by omega)
              have haa : ((a0 : Int) == (a0 : Int)) = true := beq_self_eq_true _
              clear hokc hmany hok ha0 hboth ham
              go_wp2_with fail
              refine (HFX.out _ HG.out).mono ?_
              rintro e V9 ⟨rfl, hb⟩
              go_wp2_with fail
              go_ret
              exact ⟨rfl, HB.out.trans' hb⟩
end Go.Proofs.YtembccehokodeaaGreatDoor
