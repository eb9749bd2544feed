/-
  The laws' own two; Cut's answer as the laws take it; the walk of InnerTwo.
-/
import Derived.Test.YtembccehokodeaaGreatDoorJICut
import Derived.Test.YtembccehokodeaaGreatDoorJ07
import Derived.Test.YtembccehokodeaaGreatDoorJ04
namespace Go.Proofs.YtembccehokodeaaGreatDoor
open Go.RowKit IP
set_option linter.unusedVariables false
set_option linter.unusedSimpArgs false

theorem cutH_size (s : ByteArray) : (cutH s).size ≤ 140 := by
  unfold cutH
  rw [ByteArray.size_extract]
  omega
theorem cutSs_size (ss : List ByteArray) : ∀ s ∈ cutSs ss, s.size ≤ 140 := by
  intro s hs
  cases ss with
  | nil => simp [cutSs] at hs
  | cons x l =>
    rcases List.mem_or_eq_of_mem_set hs with h | h
    · unfold L5.cutL at h
      obtain ⟨y, _, rfl⟩ := List.mem_map.1 h
      unfold L5.cutS
      rw [ByteArray.size_extract]
      omega
    · rw [h]
      exact cutH_size x
theorem cutR_any (F L R : Int) (H : ByteArray) (A : Option Addr) (n ca : Nat) (C : Option Addr) (m cb : Nat) (ks : List Int) (ss : List ByteArray) (w : World) (hr : Rows2 w A n ca C m cb ks ss) (hn : n ≤ maxLen) (hca : ca ≤ maxLen) (hm : m ≤ maxLen) (hH : H.size ≤ maxLen) (hs : ∀ s ∈ ss, s.size ≤ maxLen) :
    Calls Tryz.prog 9 #[nv F L R H A n ca C m cb] w fun e w' => ∃ G gc D dc, e = .returned (nv F L R (cutH H) (some ⟨G, 0, none⟩) (min 30 n) gc (some ⟨D, 0, none⟩) (min 30 m) dc) ∧ w.heap.size ≤ G ∧ w.heap.size ≤ D ∧ Rows2 w' (some ⟨G, 0, none⟩) (min 30 n) gc (some ⟨D, 0, none⟩) (min 30 m) dc (ks.take 30) (cutSs ss) ∧ Below w.heap.size w w' := by
  refine (cutO_any F L R H A n ca C m cb ks ss w hr hn hca hm hH hs).mono fun e w' ⟨G, gc, D, dc, h1, h2, h3, h4⟩ => ?_
  have e1 : (ks.take 30).length = min 30 n := by rw [List.length_take, hr.nk]
  have e2 : (cutSs ss).length = min 30 m := by rw [cutSs_length, hr.nm]
  exact ⟨G, gc, D, dc, h1, (own1_block h2 (g := G) rfl).1, (own1_block h3 (g := D) rfl).1, ⟨liesN_own h2 e1.symm, L5.lies_own h3 e2.symm, e1, e2, L5.own_cap h2, L5.own_cap h3⟩, h4⟩
theorem one_cases (l : Inn) (p : Int) (h : l.kids.length ≤ 2) : (L7.mayBe p = false ∧ enc l p = (⟨#[]⟩, 4)) ∨ (L7.mayBe p = true ∧ ¬ May l p ∧ enc l p = (⟨#[]⟩, 3)) ∨ (L7.mayBe p = true ∧ May l p ∧ ∃ S, enc l p = (S, 0)) := by
  rcases enc_cases l p with h1 | h1 | ⟨h1, h2, _⟩ | ⟨h1, _, h2⟩
  · exact .inl h1
  · exact .inr (.inl h1)
  · have := two_fits h1 h
    omega
  · exact .inr (.inr ⟨h1.1, h1, _, h2⟩)

set_option maxHeartbeats 4000000 in
set_option maxRecDepth 100000 in
theorem innerTwo_any (hfx : Fixes) (F L R : Int) (H : ByteArray) (A : Option Addr) (n ca : Nat) (C : Option Addr) (m cb : Nat) (ks : List Int) (ss : List ByteArray) (p : Int) (w : World) (hg : L7.Sizes w) (hr : Rows2 w A n ca C m cb ks ss) (hn : n ≤ maxLen) (hca : ca ≤ maxLen) (hm : m ≤ maxLen) (hH : H.size ≤ maxLen) (hs : ∀ s ∈ ss, s.size ≤ maxLen) :
    Calls Tryz.prog 6 #[nv F L R H A n ca C m cb, .int .i64 p] w fun e w' => e = .returned (.bool true) ∧ Below w.heap.size w w' := by
  have hb0 := nbox_below 25 F L R H A n ca C m cb w
  have hsz0 := nbox_size 25 F L R H A n ca C m cb w
  have HB0 := Lib.hid hb0
  have HK0 := Lib.hid (nbox_new 25 F L R H A n ca C m cb w)
  have HFX := Lib.hid hfx
  have HG0 := Lib.hid hg
  have HC := Lib.hid (cutR_any F L R H A n ca C m cb ks ss _ (hr.on hb0) hn hca hm hH hs)
  have HSR : Hid (∀ W, Calls Tryz.prog 26 #[.int .i64 p] W fun e w' => e = .returned (.bool (L7.mayBe p)) ∧ W = w') := Lib.hid (fun W => L7.sizeRef_any p W)
  obtain ⟨HH, hHH⟩ : ∃ HH, cutH H = HH := ⟨_, rfl⟩
  obtain ⟨K1, hK1⟩ : ∃ K1, ks.take 30 = K1 := ⟨_, rfl⟩
  obtain ⟨S1, hS1⟩ : ∃ S1, cutSs ss = S1 := ⟨_, rfl⟩
  obtain ⟨kn, hkn⟩ : ∃ kn, min 30 n = kn := ⟨_, rfl⟩
  obtain ⟨mn, hmn⟩ : ∃ mn, min 30 m = mn := ⟨_, rfl⟩
  rw [hHH, hK1, hS1, hkn, hmn] at HC
  have hk30 : kn ≤ 30 := by omega
  have hm30 : mn ≤ 30 := by omega
  obtain ⟨km, k1, k2, k3⟩ : ∃ km : Nat, min (kn : Int) 2 = km ∧ km ≤ 2 ∧ km ≤ kn := ⟨min kn 2, by omega, by omega, by omega⟩
  obtain ⟨j1, j2, j3⟩ : ∃ j1 : Nat, max (0 : Int) ((km : Int) - 1) = j1 ∧ j1 ≤ 1 := ⟨km - 1, by omega, by omega⟩
  obtain ⟨jm, j4, j5, j6⟩ : ∃ jm : Nat, min (mn : Int) (j1 : Int) = jm ∧ jm ≤ 1 ∧ jm ≤ mn := ⟨min mn j1, by omega, by omega, by omega⟩
  have hw : IntKind.i64.wrap ((km : Int) - 1) = (km : Int) - 1 := IntWalk.i64_in _ (by omega)
  have HE := Lib.hid (fun (A : Option Addr) gc D dc W (h : L7.Sizes W) (h2 : Rows2 W A km gc D jm dc (K1.take km) (S1.take jm)) => enc_any F L R HH A km gc D jm dc (K1.take km) (S1.take jm) p W h h2 (by omega) (by omega))
  have HM := Lib.hid (fun (A : Option Addr) gc D dc W (h : L7.Sizes W) (h2 : Rows2 W A km gc D jm dc (K1.take km) (S1.take jm)) => may_any F L R HH A km gc D jm dc (K1.take km) (S1.take jm) p W h h2 (by omega) (by omega))
  have hcs := one_cases ⟨F, L, R, HH, K1.take km, S1.take jm⟩ p (by show (K1.take km).length ≤ 2; rw [List.length_take]; omega)
  rw [encV] at HE
  simp only [nbox] at HC HB0 HK0 hsz0
  clear hb0 hr hs hn hca hm hg hfx hH hHH hK1 hS1 hkn hmn
  obtain ⟨c0, c1, c2, c3, c4, c5⟩ := HK0.out.cells
  go_enter Tryz.func6, Tryz.ntmps6
  go_wp2_with fail
  refine HC.out.mono ?_
  rintro e V ⟨G, gc, D, dc, rfl, hG, hD, hrw, hb⟩
  clear c0 c1 c2 c3 c4 c5
  have HK1 := Lib.hid (HK0.out.below hb)
  have HB1 := Lib.hid (HB0.out.trans' hb)
  have hGn : ∀ a, some (⟨G, 0, none⟩ : Addr) = some a → a.block ≠ w.heap.size := fun a e => by
    obtain rfl := Option.some.inj e
    rw [hsz0] at hG
    show G ≠ _
    omega
  have hDn : ∀ a, some (⟨D, 0, none⟩ : Addr) = some a → a.block ≠ w.heap.size := fun a e => by
    obtain rfl := Option.some.inj e
    rw [hsz0] at hD
    show D ≠ _
    omega
  have HK2 := setN_box HK1.out F L R HH (some ⟨G, 0, none⟩) kn gc (some ⟨D, 0, none⟩) mn dc
  have HR3 := ((((hrw.stored hGn hDn F L R HH (some ⟨G, 0, none⟩) kn gc (some ⟨D, 0, none⟩) mn dc).other (q := w.heap.size) (o := 4) hGn hDn (.slice (some ⟨G, 0, none⟩) km gc)).other (q := w.heap.size) (o := 5) hGn hDn (.slice (some ⟨D, 0, none⟩) jm dc)).cut (i := km) (j := jm) (by omega) (by omega))
  have HK3 := HK2.set4 (some ⟨G, 0, none⟩) km gc
  have HK4 := HK3.set5 (some ⟨D, 0, none⟩) jm dc
  have HB3 := ((setN_below HB1.out (Nat.le_refl _) F L R HH (some ⟨G, 0, none⟩) kn gc (some ⟨D, 0, none⟩) mn dc).setCell (p := ⟨w.heap.size, 4, none⟩) (Nat.le_refl _) (.slice (some ⟨G, 0, none⟩) km gc)).setCell (p := ⟨w.heap.size, 5, none⟩) (Nat.le_refl _) (.slice (some ⟨D, 0, none⟩) jm dc)
  have hkc := hrw.ck
  have hmc := hrw.cm
  obtain ⟨c0, c1, c2, c3, c4, c5⟩ := HK1.out.cells
  obtain ⟨f0, f1, f2, f3, f4, f5⟩ := HK1.out.free
  obtain ⟨r0, r1, r2, r3, r4, r5⟩ := HK2.cells
  obtain ⟨s0, s1, s2, s3, s4, s5⟩ := HK2.free
  obtain ⟨t0, t1, t2, t3, t4, t5⟩ := HK3.cells
  obtain ⟨u0, u1, u2, u3, u4, u5⟩ := HK3.free
  unfold setN at r0 r1 r2 r3 r4 r5 s0 s1 s2 s3 s4 s5 t0 t1 t2 t3 t4 t5 u0 u1 u2 u3 u4 u5 HR3 HK4 HB3
  have HK3 := Lib.hid HK4
  have HB3 := Lib.hid HB3
  have HL3 := Lib.hid HR3
  have HG3 := Lib.hid (HG0.out.below HG0.out.lt HB3.out)
  clear hb hrw HK2 HK4 HR3 HB1 HK1 hGn hDn HC hG hD
  go_wp2_with fail
  clear c0 c1 c2 c3 c4 c5 f0 f1 f2 f3 f4 f5 r0 r1 r2 r3 r4 r5 s0 s1 s2 s3 s4 s5 t0 t1 t2 t3 t4 t5 u0 u1 u2 u3 u4 u5
  generalize ((((((((V.setCell ⟨w.heap.size, 0, none⟩ (.int .i64 F)).setCell ⟨w.heap.size, 1, none⟩ (.int .i64 L)).setCell ⟨w.heap.size, 2, none⟩ (.int .i64 R)).setCell ⟨w.heap.size, 3, none⟩ (.string HH)).setCell ⟨w.heap.size, 4, none⟩ (.slice (some ⟨G, 0, none⟩) kn gc)).setCell ⟨w.heap.size, 5, none⟩ (.slice (some ⟨D, 0, none⟩) mn dc)).setCell ⟨w.heap.size, 4, none⟩ (.slice (some ⟨G, 0, none⟩) km gc)).setCell ⟨w.heap.size, 5, none⟩ (.slice (some ⟨D, 0, none⟩) jm dc)) = W3 at *
  refine (HE.out _ gc _ dc _ HG3.out HL3.out).mono ?_
  rintro e V ⟨rfl, hb⟩
  have HK4 := Lib.hid (HK3.out.below hb)
  have HB4 := Lib.hid (HB3.out.trans' hb)
  have HL4 := Lib.hid (HL3.out.on hb)
  have HG4 := Lib.hid (HG3.out.below HG3.out.lt hb)
  clear hb HK3 HB3 HL3 HG3
  obtain ⟨c0, c1, c2, c3, c4, c5⟩ := HK4.out.cells
  rcases hcs with ⟨hp, he⟩ | ⟨hp, hmay, he⟩ | ⟨hp, hmay, S, he⟩
  · rw [hp] at HSR
    rw [he]
    clear hp he HM HE
    go_wp2_with fail
    refine (HSR.out _).mono ?_
    rintro e V ⟨rfl, rfl⟩
    go_wp2_with fail
    refine (HFX.out _ HG4.out).mono ?_
    rintro e V2 ⟨rfl, hb2⟩
    go_wp2_with fail
    go_ret
    exact ⟨rfl, HB4.out.trans' hb2⟩
  · rw [hp] at HSR
    rw [decide_eq_false hmay] at HM
    rw [he]
    clear hp he hmay HE
    go_wp2_with fail
    refine (HSR.out _).mono ?_
    rintro e V ⟨rfl, rfl⟩
    go_wp2_with fail
    refine (HM.out _ gc _ dc _ HG4.out HL4.out).mono ?_
    rintro e V2 ⟨rfl, hb2⟩
    go_wp2_with fail
    refine (HFX.out _ (HG4.out.below HG4.out.lt hb2)).mono ?_
    rintro e V3 ⟨rfl, hb3⟩
    go_wp2_with fail
    go_ret
    exact ⟨rfl, (HB4.out.trans' hb2).trans' hb3⟩
  · rw [hp] at HSR
    rw [decide_eq_true hmay] at HM
    rw [he]
    clear hp he hmay HE
    go_wp2_with fail
    refine (HSR.out _).mono ?_
    rintro e V ⟨rfl, rfl⟩
    go_wp2_with fail
    refine (HM.out _ gc _ dc _ HG4.out HL4.out).mono ?_
    rintro e V2 ⟨rfl, hb2⟩
    go_wp2_with fail
    refine (HFX.out _ (HG4.out.below HG4.out.lt hb2)).mono ?_
    rintro e V3 ⟨rfl, hb3⟩
    go_wp2_with fail
    go_ret
    exact ⟨rfl, (HB4.out.trans' hb2).trans' hb3⟩
end Go.Proofs.YtembccehokodeaaGreatDoor
