import Derived.Test.YtpeghilfldpgfaaGreatDoorQ16
namespace Go.Proofs.YtpeghilfldpgfaaGreatDoor
open Go.RowKit
set_option linter.unusedVariables false
set_option linter.unusedSimpArgs false
theorem dec3 {s : ByteArray} (hd : GP.dec s = none) (hs : s.size ≤ 1000000) : Hid (∀ W, L10.Glo W → Page0 17 #[.string s] 3 W) := Lib.hid fun W h => pdec0 hd hs h
set_option maxHeartbeats 4000000 in
set_option maxRecDepth 100000 in
theorem pageNone_nat (c : UInt8) (n : Nat) (s : ByteArray) (w : World) (hg : L10.Glo w) (hn : n ≤ 65535) (ws : s.size ≤ maxLen) :
    Calls Tryz.prog 8 #[.int .u8 (c.toNat : Nat), .int .u16 n, .string s] w fun e w' => e = .returned (.bool true) ∧ Below w.heap.size w w' := by
  obtain ⟨m, hm, hm1, hms, hm2, hts⟩ := L9.cut_min s 1100 (by decide)
  have q1 : (m : Int) ≤ s.size := by omega
  obtain ⟨X, hX⟩ : ∃ X, s.extract 0 m = X := ⟨_, rfl⟩
  rw [hX] at hts
  obtain ⟨r, hr, hr2⟩ : ∃ r : Nat, (n : Int) % 1100 = r ∧ r ≤ 1100 := ⟨n % 1100, by omega, by omega⟩
  have HR := Lib.hid (fun W => L7.refRepeat_any c r W (by omega))
  have HD := dec3 (GP.dec_same c r) (by rw [L13.MP.rep_size]; omega)
  have HF : Hid Fixes := Lib.hid fixed_any
  have HG := Lib.hid hg
  have HB := Lib.hid (Below.refl w.heap.size w)
  have HTS := Lib.hid (show X.size ≤ 1100 by omega)
  have hr3 := Int.emod_nonneg (n : Int) (show (1100 : Int) ≠ 0 by decide)
  clear hg hm1 hms hts hr2 hr3 ws
  go_enter Tryz.func8, Tryz.ntmps8
  go_wp2_with fail
  clear hm hm2 hX hr q1
  refine (HR.out _).mono ?_
  rintro e V ⟨rfl, hb⟩
  replace HB := Lib.hid (HB.out.trans' hb)
  replace HG := Lib.hid (HG.out.on hb)
  clear hb HR
  go_wp2_with fail
  refine (HD.out _ HG.out).mono ?_
  rintro e V ⟨rfl, hb⟩
  have hba := gbox_below 35 0 LV0 NV0 CV0 Mv0 V
  replace HB := Lib.hid (HB.out.trans' (hb.trans' hba))
  replace HG := Lib.hid (HG.out.on (hb.trans' hba))
  clear hb hba HD
  go_wp2_with (refine store_page Tryz.sizeG rfl _ _ rfl V.heap.size 0 LV0 NV0 CV0 Mv0 rfl rfl (gbox_zero 35 V) ?_; rw [setG_alloc]; generalize gbox 35 0 LV0 NV0 CV0 Mv0 V = V1 at *)
  cases hx : GP.dec X with
  | none =>
    refine (pdec0 hx (Nat.le_trans HTS.out (by decide)) HG.out).mono ?_
    rintro e V ⟨rfl, hb⟩
    have hba := gbox_below 35 0 LV0 NV0 CV0 Mv0 V
    replace HB := Lib.hid (HB.out.trans' (hb.trans' hba))
    replace HG := Lib.hid (HG.out.on (hb.trans' hba))
    clear hb hba
    go_wp2_with (refine store_page Tryz.sizeG rfl _ _ rfl V.heap.size 0 LV0 NV0 CV0 Mv0 rfl rfl (gbox_zero 35 V) ?_; rw [setG_alloc]; generalize gbox 35 0 LV0 NV0 CV0 Mv0 V = V1 at *)
    refine (HF.out _ HG.out).mono ?_
    rintro e V ⟨rfl, hb⟩
    go_wp2_with fail
    go_ret
    exact ⟨rfl, HB.out.trans' hb⟩
  | some x =>
    have hz := GP.dec_size hx
    have D1 := dec3 (GP.dec_more (t := X ++ ⟨#[c]⟩) hx (.inl (by rw [ByteArray.size_append]; rfl))) (by have := HTS.out; have e : (⟨#[c]⟩ : ByteArray).size = 1 := rfl; rw [ByteArray.size_append, e]; omega)
    have D2 := dec3 (GP.dec_more (t := X.extract 1 X.size) hx (.inr (by simp; omega))) (by have := HTS.out; simp; omega)
    have D3 := dec3 (GP.dec_more (t := X.extract 0 (X.size - 1)) hx (.inr (by simp; omega))) (by have := HTS.out; simp; omega)
    refine (pdec1 hx (Nat.le_trans HTS.out (by decide)) HG.out).mono ?_
    rintro e V ⟨k, a, b, c', m', rfl, hG, hO, hb⟩
    have hba := gbox_below 35 k a b c' m' V
    replace HB := Lib.hid (HB.out.trans' ((hb.trans' hba).trans' (L5.below_alloc _ (.cells #[.int .u8 (c.toNat : Nat)] 5))))
    replace HG := Lib.hid (HG.out.on ((hb.trans' hba).trans' (L5.below_alloc _ (.cells #[.int .u8 (c.toNat : Nat)] 5))))
    have hc := L9.conv_one c (heap_alloc_new (gbox 35 k a b c' m' V) (.cells #[.int .u8 (c.toNat : Nat)] 5))
    have p1 : ¬ 9223372036854775807 < X.size + 1 := by have := HTS.out; omega
    have p2 : (1 : Int) ≤ X.size := by omega
    have p3 : IntKind.i64.wrap ((X.size : Int) - 1) = ((X.size - 1 : Nat) : Int) := by
      have := HTS.out
      rw [show ((X.size : Int) - 1) = ((X.size - 1 : Nat) : Int) by omega]
      exact IntWalk.i64_in _ (by omega)
    clear hb hba hG hO hx hz HTS
    go_wp2_with (refine store_page Tryz.sizeG rfl _ _ rfl V.heap.size k a b c' m' rfl rfl (gbox_zero 35 V) ?_; rw [setG_alloc]; generalize gbox 35 k a b c' m' V = V1 at *)
    refine (D1.out _ HG.out).mono ?_
    rintro e V ⟨rfl, hb⟩
    have hba := gbox_below 35 0 LV0 NV0 CV0 Mv0 V
    replace HB := Lib.hid (HB.out.trans' (hb.trans' hba))
    replace HG := Lib.hid (HG.out.on (hb.trans' hba))
    clear hb hba D1
    go_wp2_with (refine store_page Tryz.sizeG rfl _ _ rfl V.heap.size 0 LV0 NV0 CV0 Mv0 rfl rfl (gbox_zero 35 V) ?_; rw [setG_alloc]; generalize gbox 35 0 LV0 NV0 CV0 Mv0 V = V1 at *)
    refine (D2.out _ HG.out).mono ?_
    rintro e V ⟨rfl, hb⟩
    have hba := gbox_below 35 0 LV0 NV0 CV0 Mv0 V
    replace HB := Lib.hid (HB.out.trans' (hb.trans' hba))
    replace HG := Lib.hid (HG.out.on (hb.trans' hba))
    clear hb hba D2
    go_wp2_with (refine store_page Tryz.sizeG rfl _ _ rfl V.heap.size 0 LV0 NV0 CV0 Mv0 rfl rfl (gbox_zero 35 V) ?_; rw [setG_alloc]; generalize gbox 35 0 LV0 NV0 CV0 Mv0 V = V1 at *)
    refine (D3.out _ HG.out).mono ?_
    rintro e V ⟨rfl, hb⟩
    have hba := gbox_below 35 0 LV0 NV0 CV0 Mv0 V
    replace HB := Lib.hid (HB.out.trans' (hb.trans' hba))
    replace HG := Lib.hid (HG.out.on (hb.trans' hba))
    clear hb hba D3
    go_wp2_with (refine store_page Tryz.sizeG rfl _ _ rfl V.heap.size 0 LV0 NV0 CV0 Mv0 rfl rfl (gbox_zero 35 V) ?_; rw [setG_alloc]; generalize gbox 35 0 LV0 NV0 CV0 Mv0 V = V1 at *)
    refine (HF.out _ HG.out).mono ?_
    rintro e V ⟨rfl, hb⟩
    go_wp2_with fail
    go_ret
    exact ⟨rfl, HB.out.trans' hb⟩
theorem pageNone_walk (c n : Int) (s : ByteArray) (w : World) (hg : L10.Glo w) (wc : (Lit.int .u8 c).wf = true) (wn : (Lit.int .u16 n).wf = true) (ws : s.size ≤ maxLen) :
    Calls Tryz.prog 8 #[.int .u8 c, .int .u16 n, .string s] w fun e w' => e = .returned (.bool true) ∧ Below w.heap.size w w' := by
  have h1 : 0 ≤ c ∧ c ≤ 255 := by simpa [Lit.wf, IntKind.min, IntKind.max, IntKind.signed, IntKind.bits] using wc
  have h2 : 0 ≤ n ∧ n ≤ 65535 := by simpa [Lit.wf, IntKind.min, IntKind.max, IntKind.signed, IntKind.bits] using wn
  obtain ⟨k, rfl⟩ := Int.eq_ofNat_of_zero_le h2.1
  obtain ⟨d, rfl⟩ : ∃ d : UInt8, c = (d.toNat : Nat) := ⟨UInt8.ofNat c.toNat, by simp [UInt8.toNat_ofNat']; omega⟩
  exact pageNone_nat d k s w hg (by omega) ws
end Go.Proofs.YtpeghilfldpgfaaGreatDoor
