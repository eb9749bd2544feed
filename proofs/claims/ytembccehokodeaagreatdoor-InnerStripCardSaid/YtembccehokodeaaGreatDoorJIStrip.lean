/-
  The walk of InnerStrip. Written by wip/gen_istrip.py.
-/
import Derived.Test.YtembccehokodeaaGreatDoorJIBack
import Derived.Test.YtembccehokodeaaGreatDoorJ06
import Derived.Test.YtembccehokodeaaGreatDoorJ04
import Derived.Test.YtembccehokodeaaGreatDoorJHDocO
namespace Go.Proofs.YtembccehokodeaaGreatDoor
open Go.RowKit IP
set_option linter.unusedVariables false
set_option linter.unusedSimpArgs false

/-- What stands ahead of the cells on an inner page. -/
theorem texts_of {l : Inn} {p : Nat} (h : May l p) (hs : (size l : Int) ≤ p - 16) : L9.VP.gtext (body l p) 0 = some (com l.seps, (L9.VP.text (com l.seps)).length) ∧ L9.VP.gtext (body l p) (L9.VP.text (com l.seps)).length = some (l.high.data.toList, (fixed l).length) := by
  have hp := mayBe_le h.1
  obtain ⟨R, hR⟩ : ∃ R, body l p = fixed l ++ R := ⟨_, by unfold body L8.LP.pack; rw [List.append_assoc, List.append_assoc]⟩
  have hcl := com_few h
  have hhl := high_few h
  have hhl2 : l.high.data.toList.length ≤ (p : Int).toNat / 8 := by
    have e : (L5.B l.high).length = l.high.data.toList.length := rfl
    omega
  constructor
  · have hg := L9.VP.gtext_at [] (L9.VP.text l.high.data.toList ++ R) (com l.seps) (by omega)
    rw [hR]
    unfold fixed
    simpa using hg
  · have hg := L9.VP.gtext_at (L9.VP.text (com l.seps)) R l.high.data.toList (by omega)
    rw [hR]
    unfold fixed
    rw [List.length_append]
    exact hg
theorem textV_some {g : Option (List UInt8 × Nat)} {T : ByteArray} {j : Nat} {e : Ending} (hg : g = some (T.data.toList, j)) (h : TextV g e) : e = .returned (.tuple #[.string T, .int .i64 j]) := by
  rcases h with ⟨h, _⟩ | ⟨T', j', h, rfl⟩
  · rw [hg] at h; cases h
  · rw [hg] at h
    simp only [Option.some.injEq, Prod.mk.injEq] at h
    obtain ⟨h1, rfl⟩ := h
    obtain rfl : T = T' := by
      apply ByteArray.ext
      exact Array.toList_inj.1 h1
    rfl
/-- The first Sep begins with what all have in common. -/
theorem first_com (L : List ByteArray) : ∀ x, L[0]? = some x → L5.sp L ≤ x.size ∧ x.extract 0 (L5.sp L) = L5.headS L := by
  intro x hx
  cases L with
  | nil => simp at hx
  | cons y m =>
    obtain rfl : y = x := by simpa using hx
    exact ⟨L5.sp_le (y :: m) y (by simp), rfl⟩
set_option maxHeartbeats 4000000 in
set_option maxRecDepth 100000 in
theorem innerStrip_any (hfx : Fixes) (F L R : Int) (H : ByteArray) (A : Option Addr) (n ca : Nat) (C : Option Addr) (m cb : Nat) (ks : List Int) (ss : List ByteArray) (p : Int) (w : World) (hg : L7.Sizes w) (hr : Rows2 w A n ca C m cb ks ss) (hn : n ≤ maxLen) (hca : ca ≤ maxLen) (hm : m ≤ maxLen) (hH : H.size ≤ maxLen) (hs : ∀ s ∈ ss, s.size ≤ maxLen)  :
    Calls Tryz.prog 7 #[nv F L R H A n ca C m cb, .int .i64 p] w fun e w' => e = .returned (.bool true) ∧ Below w.heap.size w w' := by
  have hb0 := nbox_below 25 F L R H A n ca C m cb w
  have hsz0 := nbox_size 25 F L R H A n ca C m cb w
  have HB0 := Lib.hid hb0
  have HK0 := Lib.hid (nbox_new 25 F L R H A n ca C m cb w)
  have HFX := Lib.hid hfx
  have HG0 := Lib.hid hg
  have HC := Lib.hid (cutR_any F L R H A n ca C m cb ks ss _ (hr.on hb0) hn hca hm hH hs)
  obtain ⟨HH, hHH⟩ : ∃ HH, cutH H = HH := ⟨_, rfl⟩
  obtain ⟨K1, hK1⟩ : ∃ K1, ks.take 30 = K1 := ⟨_, rfl⟩
  obtain ⟨S1, hS1⟩ : ∃ S1, cutSs ss = S1 := ⟨_, rfl⟩
  obtain ⟨kn, hkn⟩ : ∃ kn, min 30 n = kn := ⟨_, rfl⟩
  obtain ⟨mn, hmn⟩ : ∃ mn, min 30 m = mn := ⟨_, rfl⟩
  have hK1n : K1.length = kn := by rw [← hK1, List.length_take, hr.nk, hkn]
  have hS1n : S1.length = mn := by rw [← hS1, cutSs_length, hr.nm, hmn]
  have hHHs : HH.size ≤ 140 := by rw [← hHH]; exact cutH_size H
  have HS1s : Hid (∀ s ∈ S1, s.size ≤ 140) := Lib.hid (by rw [← hS1]; exact cutSs_size ss)
  rw [hHH, hK1, hS1, hkn, hmn] at HC
  have hk30 : kn ≤ 30 := by omega
  have hm30 : mn ≤ 30 := by omega
  simp only [nbox] at HC HB0 HK0 hsz0
  clear hb0 hr hs hn hca hm hg hfx hH hHH hK1 hS1 hkn hmn
  have HSR : Hid (∀ W, Calls Tryz.prog 26 #[.int .i64 p] W fun e w' => e = .returned (.bool (L7.mayBe p)) ∧ W = w') := Lib.hid (fun W => L7.sizeRef_any p W)
  have HN := Lib.hid hS1n
  rcases enc_cases ⟨F, L, R, HH, K1, S1⟩ p with ⟨hp, he⟩ | ⟨hp, hmay, he⟩ | ⟨hmay, hbig, he⟩ | ⟨hmay, hfit, he⟩
  · skip
    have HE := Lib.hid (fun A gc D dc W (h : L7.Sizes W) (h2 : Rows2 W A kn gc D mn dc K1 S1) => encT F L R HH A kn gc D mn dc K1 S1 p ⟨#[]⟩ 4 he (by omega) (by omega) W h h2)
    rw [hp] at HSR
    have hz := text_yes (rfl : (⟨#[]⟩ : ByteArray) = ⟨#[]⟩)
    clear he
    obtain ⟨c0, c1, c2, c3, c4, c5⟩ := HK0.out.cells
    go_enter Tryz.func7, Tryz.ntmps7
    go_wp2_with fail
    refine HC.out.mono ?_
    rintro e V ⟨G, gc, D, dc, rfl, hG, hD, hrw, hb⟩
    clear c0 c1 c2 c3 c4 c5
    have HK1 := Lib.hid (HK0.out.below hb)
    have HB1 := Lib.hid (HB0.out.trans' hb)
    have hGn : ∀ a, some (⟨G, 0, none⟩ : Addr) = some a → a.block ≠ w.heap.size := fun a e => by
      obtain rfl := Option.some.inj e
      rw [hsz0] at hG
      show G ≠ _
      omega
    have hDn : ∀ a, some (⟨D, 0, none⟩ : Addr) = some a → a.block ≠ w.heap.size := fun a e => by
      obtain rfl := Option.some.inj e
      rw [hsz0] at hD
      show D ≠ _
      omega
    obtain ⟨c0, c1, c2, c3, c4, c5⟩ := HK1.out.cells
    obtain ⟨f0, f1, f2, f3, f4, f5⟩ := HK1.out.free
    have HX := Lib.hid (show NR 25 w.heap.size F L R HH (some ⟨G, 0, none⟩) kn gc (some ⟨D, 0, none⟩) mn dc K1 S1 (setN V w.heap.size F L R HH (some ⟨G, 0, none⟩) kn gc (some ⟨D, 0, none⟩) mn dc) from ⟨setN_box HK1.out F L R HH (some ⟨G, 0, none⟩) kn gc (some ⟨D, 0, none⟩) mn dc, hrw.stored hGn hDn F L R HH (some ⟨G, 0, none⟩) kn gc (some ⟨D, 0, none⟩) mn dc⟩)
    have HB := Lib.hid (setN_below HB1.out (Nat.le_refl _) F L R HH (some ⟨G, 0, none⟩) kn gc (some ⟨D, 0, none⟩) mn dc)
    have HG := Lib.hid (HG0.out.below HG0.out.lt HB.out)
    have hck := hrw.ck
    have hcm := hrw.cm
    unfold setN at HX HB HG
    obtain ⟨r0, r1, r2, r3, r4, r5⟩ := HX.out.box.cells
    clear hb hrw HK1 HB1 hGn hDn HC hG hD
    go_wp2_with fail
    clear c0 c1 c2 c3 c4 c5 f0 f1 f2 f3 f4 f5 r0 r1 r2 r3 r4 r5
    generalize ((((((V.setCell ⟨w.heap.size, 0, none⟩ (.int .i64 F)).setCell ⟨w.heap.size, 1, none⟩ (.int .i64 L)).setCell ⟨w.heap.size, 2, none⟩ (.int .i64 R)).setCell ⟨w.heap.size, 3, none⟩ (.string HH)).setCell ⟨w.heap.size, 4, none⟩ (.slice (some ⟨G, 0, none⟩) kn gc)).setCell ⟨w.heap.size, 5, none⟩ (.slice (some ⟨D, 0, none⟩) mn dc)) = W2 at *
    obtain ⟨c0, c1, c2, c3, c4, c5⟩ := HX.out.box.cells
    refine (HE.out _ gc _ dc _ HG.out HX.out.rows).mono ?_
    rintro e V ⟨rfl, hb⟩
    replace HB := Lib.hid (HB.out.trans' hb)
    replace HG := Lib.hid (HG0.out.below HG0.out.lt HB.out)
    replace HX := Lib.hid (HX.out.on hb)
    clear hb HE c0 c1 c2 c3 c4 c5
    obtain ⟨c0, c1, c2, c3, c4, c5⟩ := HX.out.box.cells
    go_wp2_with fail
    refine (HSR.out _).mono ?_
    rintro e V ⟨rfl, rfl⟩
    go_wp2_with fail
    refine (HFX.out _ HG.out).mono ?_
    rintro e V9 ⟨rfl, hb⟩
    go_wp2_with fail
    go_ret
    exact ⟨rfl, HB.out.trans' hb⟩
  · clear hmay
    have HE := Lib.hid (fun A gc D dc W (h : L7.Sizes W) (h2 : Rows2 W A kn gc D mn dc K1 S1) => encT F L R HH A kn gc D mn dc K1 S1 p ⟨#[]⟩ 3 he (by omega) (by omega) W h h2)
    rw [hp] at HSR
    have hz := text_yes (rfl : (⟨#[]⟩ : ByteArray) = ⟨#[]⟩)
    clear he
    obtain ⟨c0, c1, c2, c3, c4, c5⟩ := HK0.out.cells
    go_enter Tryz.func7, Tryz.ntmps7
    go_wp2_with fail
    refine HC.out.mono ?_
    rintro e V ⟨G, gc, D, dc, rfl, hG, hD, hrw, hb⟩
    clear c0 c1 c2 c3 c4 c5
    have HK1 := Lib.hid (HK0.out.below hb)
    have HB1 := Lib.hid (HB0.out.trans' hb)
    have hGn : ∀ a, some (⟨G, 0, none⟩ : Addr) = some a → a.block ≠ w.heap.size := fun a e => by
      obtain rfl := Option.some.inj e
      rw [hsz0] at hG
      show G ≠ _
      omega
    have hDn : ∀ a, some (⟨D, 0, none⟩ : Addr) = some a → a.block ≠ w.heap.size := fun a e => by
      obtain rfl := Option.some.inj e
      rw [hsz0] at hD
      show D ≠ _
      omega
    obtain ⟨c0, c1, c2, c3, c4, c5⟩ := HK1.out.cells
    obtain ⟨f0, f1, f2, f3, f4, f5⟩ := HK1.out.free
    have HX := Lib.hid (show NR 25 w.heap.size F L R HH (some ⟨G, 0, none⟩) kn gc (some ⟨D, 0, none⟩) mn dc K1 S1 (setN V w.heap.size F L R HH (some ⟨G, 0, none⟩) kn gc (some ⟨D, 0, none⟩) mn dc) from ⟨setN_box HK1.out F L R HH (some ⟨G, 0, none⟩) kn gc (some ⟨D, 0, none⟩) mn dc, hrw.stored hGn hDn F L R HH (some ⟨G, 0, none⟩) kn gc (some ⟨D, 0, none⟩) mn dc⟩)
    have HB := Lib.hid (setN_below HB1.out (Nat.le_refl _) F L R HH (some ⟨G, 0, none⟩) kn gc (some ⟨D, 0, none⟩) mn dc)
    have HG := Lib.hid (HG0.out.below HG0.out.lt HB.out)
    have hck := hrw.ck
    have hcm := hrw.cm
    unfold setN at HX HB HG
    obtain ⟨r0, r1, r2, r3, r4, r5⟩ := HX.out.box.cells
    clear hb hrw HK1 HB1 hGn hDn HC hG hD
    go_wp2_with fail
    clear c0 c1 c2 c3 c4 c5 f0 f1 f2 f3 f4 f5 r0 r1 r2 r3 r4 r5
    generalize ((((((V.setCell ⟨w.heap.size, 0, none⟩ (.int .i64 F)).setCell ⟨w.heap.size, 1, none⟩ (.int .i64 L)).setCell ⟨w.heap.size, 2, none⟩ (.int .i64 R)).setCell ⟨w.heap.size, 3, none⟩ (.string HH)).setCell ⟨w.heap.size, 4, none⟩ (.slice (some ⟨G, 0, none⟩) kn gc)).setCell ⟨w.heap.size, 5, none⟩ (.slice (some ⟨D, 0, none⟩) mn dc)) = W2 at *
    obtain ⟨c0, c1, c2, c3, c4, c5⟩ := HX.out.box.cells
    refine (HE.out _ gc _ dc _ HG.out HX.out.rows).mono ?_
    rintro e V ⟨rfl, hb⟩
    replace HB := Lib.hid (HB.out.trans' hb)
    replace HG := Lib.hid (HG0.out.below HG0.out.lt HB.out)
    replace HX := Lib.hid (HX.out.on hb)
    clear hb HE c0 c1 c2 c3 c4 c5
    obtain ⟨c0, c1, c2, c3, c4, c5⟩ := HX.out.box.cells
    go_wp2_with fail
    refine (HSR.out _).mono ?_
    rintro e V ⟨rfl, rfl⟩
    go_wp2_with fail
    refine (HFX.out _ HG.out).mono ?_
    rintro e V9 ⟨rfl, hb⟩
    go_wp2_with fail
    go_ret
    exact ⟨rfl, HB.out.trans' hb⟩
  · have hp := hmay.1
    clear hmay hbig
    have HE := Lib.hid (fun A gc D dc W (h : L7.Sizes W) (h2 : Rows2 W A kn gc D mn dc K1 S1) => encT F L R HH A kn gc D mn dc K1 S1 p ⟨#[]⟩ 8 he (by omega) (by omega) W h h2)
    rw [hp] at HSR
    have hz := text_yes (rfl : (⟨#[]⟩ : ByteArray) = ⟨#[]⟩)
    clear he
    obtain ⟨c0, c1, c2, c3, c4, c5⟩ := HK0.out.cells
    go_enter Tryz.func7, Tryz.ntmps7
    go_wp2_with fail
    refine HC.out.mono ?_
    rintro e V ⟨G, gc, D, dc, rfl, hG, hD, hrw, hb⟩
    clear c0 c1 c2 c3 c4 c5
    have HK1 := Lib.hid (HK0.out.below hb)
    have HB1 := Lib.hid (HB0.out.trans' hb)
    have hGn : ∀ a, some (⟨G, 0, none⟩ : Addr) = some a → a.block ≠ w.heap.size := fun a e => by
      obtain rfl := Option.some.inj e
      rw [hsz0] at hG
      show G ≠ _
      omega
    have hDn : ∀ a, some (⟨D, 0, none⟩ : Addr) = some a → a.block ≠ w.heap.size := fun a e => by
      obtain rfl := Option.some.inj e
      rw [hsz0] at hD
      show D ≠ _
      omega
    obtain ⟨c0, c1, c2, c3, c4, c5⟩ := HK1.out.cells
    obtain ⟨f0, f1, f2, f3, f4, f5⟩ := HK1.out.free
    have HX := Lib.hid (show NR 25 w.heap.size F L R HH (some ⟨G, 0, none⟩) kn gc (some ⟨D, 0, none⟩) mn dc K1 S1 (setN V w.heap.size F L R HH (some ⟨G, 0, none⟩) kn gc (some ⟨D, 0, none⟩) mn dc) from ⟨setN_box HK1.out F L R HH (some ⟨G, 0, none⟩) kn gc (some ⟨D, 0, none⟩) mn dc, hrw.stored hGn hDn F L R HH (some ⟨G, 0, none⟩) kn gc (some ⟨D, 0, none⟩) mn dc⟩)
    have HB := Lib.hid (setN_below HB1.out (Nat.le_refl _) F L R HH (some ⟨G, 0, none⟩) kn gc (some ⟨D, 0, none⟩) mn dc)
    have HG := Lib.hid (HG0.out.below HG0.out.lt HB.out)
    have hck := hrw.ck
    have hcm := hrw.cm
    unfold setN at HX HB HG
    obtain ⟨r0, r1, r2, r3, r4, r5⟩ := HX.out.box.cells
    clear hb hrw HK1 HB1 hGn hDn HC hG hD
    go_wp2_with fail
    clear c0 c1 c2 c3 c4 c5 f0 f1 f2 f3 f4 f5 r0 r1 r2 r3 r4 r5
    generalize ((((((V.setCell ⟨w.heap.size, 0, none⟩ (.int .i64 F)).setCell ⟨w.heap.size, 1, none⟩ (.int .i64 L)).setCell ⟨w.heap.size, 2, none⟩ (.int .i64 R)).setCell ⟨w.heap.size, 3, none⟩ (.string HH)).setCell ⟨w.heap.size, 4, none⟩ (.slice (some ⟨G, 0, none⟩) kn gc)).setCell ⟨w.heap.size, 5, none⟩ (.slice (some ⟨D, 0, none⟩) mn dc)) = W2 at *
    obtain ⟨c0, c1, c2, c3, c4, c5⟩ := HX.out.box.cells
    refine (HE.out _ gc _ dc _ HG.out HX.out.rows).mono ?_
    rintro e V ⟨rfl, hb⟩
    replace HB := Lib.hid (HB.out.trans' hb)
    replace HG := Lib.hid (HG0.out.below HG0.out.lt HB.out)
    replace HX := Lib.hid (HX.out.on hb)
    clear hb HE c0 c1 c2 c3 c4 c5
    obtain ⟨c0, c1, c2, c3, c4, c5⟩ := HX.out.box.cells
    go_wp2_with fail
    refine (HSR.out _).mono ?_
    rintro e V ⟨rfl, rfl⟩
    go_wp2_with fail
    refine (HFX.out _ HG.out).mono ?_
    rintro e V9 ⟨rfl, hb⟩
    go_wp2_with fail
    go_ret
    exact ⟨rfl, HB.out.trans' hb⟩
  · obtain ⟨S, hS⟩ : ∃ S : ByteArray, ⟨(page ⟨F, L, R, HH, K1, S1⟩ p.toNat).toArray⟩ = S := ⟨_, rfl⟩
    rw [hS] at he
    obtain ⟨-, -, hSp, -⟩ := enc0_facts he
    have he2 : enc ⟨F, L, R, HH, K1, S1⟩ S.size = (S, 0) := by rw [hSp]; exact he
    obtain ⟨e1, e2, e3, e4⟩ := enc_head he2
    have hf := May.fit hmay (by omega)
    have hp := mayBe_le hmay.1
    obtain ⟨B0, hB0⟩ : ∃ B0, S.extract 16 S.size = B0 := ⟨_, rfl⟩
    have hBl : B0.data.toList = body ⟨F, L, R, HH, K1, S1⟩ S.size := by
      rw [← hB0, Lib.extract_data, List.take_of_length_le (by simp)]
      exact e4
    have hBs : B0.size ≤ 1024 := by rw [← hB0, ByteArray.size_extract]; omega
    have hv : L7.opnV S = .tuple #[.agg #[.int .i64 3, .int .i64 L, .int .i64 kn, .int .i64 R, .int .i64 F], .string B0, .int .i64 0] := by
      unfold L7.opnV
      rw [L7.HP.opn_good e1 e2, hB0, e3, ← hK1n]
      rfl
    have HOP := Lib.hid (fun W (h : L7.Sizes W) => L7.refOpen_any S W h)
    rw [hv] at HOP
    obtain ⟨t1, t2⟩ := texts_of (l := ⟨F, L, R, HH, K1, S1⟩) (p := S.size) (by rw [hSp]; exact hmay) (by rw [hSp]; exact hfit)
    rw [← hBl] at t1 t2
    obtain ⟨CC, hC⟩ : ∃ CC, L5.headS S1 = CC := ⟨_, rfl⟩
    have hCl : CC.data.toList = com S1 := by rw [← hC]; exact head_com S1
    obtain ⟨i1, hi1⟩ : ∃ i1, (L9.VP.text (com S1)).length = i1 := ⟨_, rfl⟩
    obtain ⟨i2, hi2⟩ : ∃ i2, (IP.fixed ⟨F, L, R, HH, K1, S1⟩).length = i2 := ⟨_, rfl⟩
    simp only at t1 t2
    rw [hi1] at t1 t2
    rw [hi2] at t2
    rw [← hCl] at t1
    have hi1' := (L9.gtext_some t1).1
    have hBl2 : B0.data.toList.length = B0.size := by simp
    have HT1 := Lib.hid (fun W => (rtext_any B0 0 W (by omega) (by omega)).mono fun e w' (h : TextV _ e ∧ _) => (show e = .returned (.tuple #[.string CC, .int .i64 i1]) ∧ Below W.heap.size W w' from ⟨textV_some t1 h.1, h.2⟩))
    have HT2 := Lib.hid (fun W => (rtext_any B0 i1 W (by omega) (by omega)).mono fun e w' (h : TextV _ e ∧ _) => (show e = .returned (.tuple #[.string HH, .int .i64 i2]) ∧ Below W.heap.size W w' from ⟨textV_some t2 h.1, h.2⟩))
    have HSP := Lib.hid (fun G cap W (h : L5.Lies W W.heap.size G S1) => L5.rspan_any G S1 cap W h (by omega) (fun s hs => by have := HS1s.out s hs; omega))
    have hcz : CC.size = L5.sp S1 := by
      have h1 : CC.data.toList.length = CC.size := by simp
      rw [← h1, hCl, com_length]
      rfl
    have HFI0 := first_com S1
    rw [hC] at HFI0
    obtain ⟨z, hz⟩ : ∃ z, L5.sp S1 = z := ⟨_, rfl⟩
    rw [hz] at HSP hcz HFI0
    have HFI : Hid (z ≤ 1000000 ∧ CC.size = z ∧ ∀ x, S1[0]? = some x → z ≤ x.size ∧ x.extract 0 z = CC) := Lib.hid ⟨by
      have : CC.data.toList.length = CC.size := by simp
      have := (L9.gtext_some t1).2
      omega, hcz, HFI0⟩
    have HE := Lib.hid (fun A gc D dc W (h : L7.Sizes W) (h2 : Rows2 W A kn gc D mn dc K1 S1) => encT F L R HH A kn gc D mn dc K1 S1 p S 0 he (by omega) (by omega) W h h2)
    rw [hS1n] at HSP
    clear hcz HFI0 hz hi1' hBl2 t1 t2 hi1 hi2 hCl hC hv hBs hBl hB0 hf e1 e2 e3 e4 he2 hSp he hS hfit hmay hp hK1n hS1n
    obtain ⟨c0, c1, c2, c3, c4, c5⟩ := HK0.out.cells
    go_enter Tryz.func7, Tryz.ntmps7
    go_wp2_with fail
    refine HC.out.mono ?_
    rintro e V ⟨G, gc, D, dc, rfl, hG, hD, hrw, hb⟩
    clear c0 c1 c2 c3 c4 c5
    have HK1 := Lib.hid (HK0.out.below hb)
    have HB1 := Lib.hid (HB0.out.trans' hb)
    have hGn : ∀ a, some (⟨G, 0, none⟩ : Addr) = some a → a.block ≠ w.heap.size := fun a e => by
      obtain rfl := Option.some.inj e
      rw [hsz0] at hG
      show G ≠ _
      omega
    have hDn : ∀ a, some (⟨D, 0, none⟩ : Addr) = some a → a.block ≠ w.heap.size := fun a e => by
      obtain rfl := Option.some.inj e
      rw [hsz0] at hD
      show D ≠ _
      omega
    obtain ⟨c0, c1, c2, c3, c4, c5⟩ := HK1.out.cells
    obtain ⟨f0, f1, f2, f3, f4, f5⟩ := HK1.out.free
    have HX := Lib.hid (show NR 25 w.heap.size F L R HH (some ⟨G, 0, none⟩) kn gc (some ⟨D, 0, none⟩) mn dc K1 S1 (setN V w.heap.size F L R HH (some ⟨G, 0, none⟩) kn gc (some ⟨D, 0, none⟩) mn dc) from ⟨setN_box HK1.out F L R HH (some ⟨G, 0, none⟩) kn gc (some ⟨D, 0, none⟩) mn dc, hrw.stored hGn hDn F L R HH (some ⟨G, 0, none⟩) kn gc (some ⟨D, 0, none⟩) mn dc⟩)
    have HB := Lib.hid (setN_below HB1.out (Nat.le_refl _) F L R HH (some ⟨G, 0, none⟩) kn gc (some ⟨D, 0, none⟩) mn dc)
    have HG := Lib.hid (HG0.out.below HG0.out.lt HB.out)
    have hck := hrw.ck
    have hcm := hrw.cm
    unfold setN at HX HB HG
    obtain ⟨r0, r1, r2, r3, r4, r5⟩ := HX.out.box.cells
    clear hb hrw HK1 HB1 hGn hDn HC hG hD
    go_wp2_with fail
    clear c0 c1 c2 c3 c4 c5 f0 f1 f2 f3 f4 f5 r0 r1 r2 r3 r4 r5
    generalize ((((((V.setCell ⟨w.heap.size, 0, none⟩ (.int .i64 F)).setCell ⟨w.heap.size, 1, none⟩ (.int .i64 L)).setCell ⟨w.heap.size, 2, none⟩ (.int .i64 R)).setCell ⟨w.heap.size, 3, none⟩ (.string HH)).setCell ⟨w.heap.size, 4, none⟩ (.slice (some ⟨G, 0, none⟩) kn gc)).setCell ⟨w.heap.size, 5, none⟩ (.slice (some ⟨D, 0, none⟩) mn dc)) = W2 at *
    obtain ⟨c0, c1, c2, c3, c4, c5⟩ := HX.out.box.cells
    refine (HE.out _ gc _ dc _ HG.out HX.out.rows).mono ?_
    rintro e V ⟨rfl, hb⟩
    replace HB := Lib.hid (HB.out.trans' hb)
    replace HG := Lib.hid (HG0.out.below HG0.out.lt HB.out)
    replace HX := Lib.hid (HX.out.on hb)
    clear hb HE c0 c1 c2 c3 c4 c5
    obtain ⟨c0, c1, c2, c3, c4, c5⟩ := HX.out.box.cells
    go_wp2_with fail
    refine (HOP.out _ HG.out).mono ?_
    rintro e V3 ⟨rfl, hb⟩
    have HH3 := Lib.hid (show L7.Bx 57 V3.heap.size ⟨3, L, kn, R, F⟩ (V3.alloc (.cells #[.int .i64 3, .int .i64 L, .int .i64 kn, .int .i64 R, .int .i64 F] 57)) from heap_alloc_new _ _)
    replace hb := hb.trans' (L5.below_alloc V3 (.cells #[.int .i64 3, .int .i64 L, .int .i64 kn, .int .i64 R, .int .i64 F] 57))
    replace HB := Lib.hid (HB.out.trans' hb)
    replace HG := Lib.hid (HG0.out.below HG0.out.lt HB.out)
    replace HX := Lib.hid (HX.out.on hb)
    clear hb HOP c0 c1 c2 c3 c4 c5
    go_wp2_with fail
    generalize V3.alloc (.cells #[.int .i64 3, .int .i64 L, .int .i64 kn, .int .i64 R, .int .i64 F] 57) = D3 at *
    generalize V3.heap.size = b3 at *
    refine (HT1.out _).mono ?_
    rintro e V7 ⟨rfl, hb⟩
    replace HB := Lib.hid (HB.out.trans' hb)
    replace HG := Lib.hid (HG0.out.below HG0.out.lt HB.out)
    replace HX := Lib.hid (HX.out.on hb)
    replace HH3 := Lib.hid (HH3.out.below hb)
    clear hb
    go_wp2_with fail
    refine (HT2.out _).mono ?_
    rintro e V8 ⟨rfl, hb⟩
    replace HB := Lib.hid (HB.out.trans' hb)
    replace HG := Lib.hid (HG0.out.below HG0.out.lt HB.out)
    replace HX := Lib.hid (HX.out.on hb)
    replace HH3 := Lib.hid (HH3.out.below hb)
    clear hb
    obtain ⟨c0, c1, c2, c3, c4, c5⟩ := HX.out.box.cells
    obtain ⟨y0, y1, y2, y3, y4⟩ := HH3.out.cells
    simp only at y0 y1 y2 y3 y4
    go_wp2_with fail
    refine (HSP.out _ dc _ HX.out.rows.seps).mono ?_
    rintro e V6 ⟨rfl, hb⟩
    replace HB := Lib.hid (HB.out.trans' hb)
    replace HG := Lib.hid (HG0.out.below HG0.out.lt HB.out)
    replace HX := Lib.hid (HX.out.on hb)
    clear hb y0 y1 y2 y3 y4 HH3
    clear c0 c1 c2 c3 c4 c5
    obtain ⟨c0, c1, c2, c3, c4, c5⟩ := HX.out.box.cells
    have hz2 := text_yes (rfl : HH = HH)
    obtain ⟨hzn, hlen, hfirst⟩ := HFI.out
    cases S1 with
    | nil =>
      have hn0 : mn = 0 := HN.out.symm
      subst hn0
      go_wp2_with fail
      refine (HFX.out _ HG.out).mono ?_
      rintro e V9 ⟨rfl, hb⟩
      go_wp2_with fail
      go_ret
      exact ⟨rfl, HB.out.trans' hb⟩
    | cons x0 L' =>
      obtain ⟨m', rfl⟩ : ∃ m', mn = m' + 1 := ⟨L'.length, by have := HN.out; simp at this; omega⟩
      obtain ⟨a, ha, hab, x1⟩ := HX.out.rows.seps 0 x0 rfl
      obtain rfl := Option.some.inj ha
      obtain ⟨hk1, hk2⟩ := hfirst _ rfl
      have hz3 := text_yes hk2
      have hnn : decide (((m' + 1 : Nat) : Int) = 0) = false := decide_eq_false (by omega)
      have x0a : V6.cell? ⟨D, 0, none⟩ = some (.string x0) := x1
      clear hab x1 ha
      go_wp2_with fail
      (try rw [hk2])
      go_wp2_with fail
      refine (HFX.out _ HG.out).mono ?_
      rintro e V9 ⟨rfl, hb⟩
      go_wp2_with fail
      go_ret
      exact ⟨rfl, HB.out.trans' hb⟩
end Go.Proofs.YtembccehokodeaaGreatDoor
