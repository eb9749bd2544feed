/-
  The walk of MetaBack. Written by wip/gen_mlaws.py.
-/
import Derived.Test.YtnjmkljnjngpkaaDoorMFixed
import Derived.Deep.RegionHeld3
namespace Go.Proofs.YtnjmkljnjngpkaaDoor
open Go.RowKit MP
set_option linter.unusedVariables false
set_option linter.unusedSimpArgs false

theorem cut_1100 (s : ByteArray) : ∃ m : Nat, min (s.size : Int) 1100 = m ∧ m ≤ 1100 ∧ m ≤ s.size := ⟨min s.size 1100, by omega, by omega, by omega⟩
/-- Pages are alike just when metas are. -/
theorem same_pages {P G R L C P' G' R' L' C' : Int} {S U : ByteArray} (h : enc ⟨P, G, R, L, C⟩ = (S, 0)) (k : enc ⟨P', G', R', L', C'⟩ = (U, 0)) : (S.toList == U.toList) = (P == P' && G == G' && R == R' && L == L' && C == C') := by
  by_cases e : S = U
  · subst e
    have := enc_inj h k
    rw [Mt.mk.injEq] at this
    obtain ⟨rfl, rfl, rfl, rfl, rfl⟩ := this
    simp
  · rw [text_no e]
    symm
    rw [Bool.eq_false_iff]
    intro hh
    simp at hh
    obtain ⟨⟨⟨⟨h1, h2⟩, h3⟩, h4⟩, h5⟩ := hh
    subst h1 h2 h3 h4 h5
    rw [h] at k
    exact e (congrArg Prod.fst k)
theorem enc_form' (m : Mt) (h : ¬ May m) : ∃ f, enc m = (⟨#[]⟩, f) ∧ (f == 0) = false ∧ (f != 0) = true := ⟨3, enc_form h, by decide, by decide⟩
set_option maxHeartbeats 4000000 in
set_option maxRecDepth 100000 in
theorem metaBack_any (hfx : Fixes) (P G R L C P' G' R' L' C' : Int) (s : ByteArray) (w : World) (hg : L7.Sizes w) (hs : s.size ≤ maxLen) :
    Calls Tryd.prog 4 #[mv P G R L C, mv P' G' R' L' C', .string s] w fun e w' => e = .returned (.bool true) ∧ Below w.heap.size w w' := by
  have hb0 := mbox_below 23 P G R L C w
  have hb1 := mbox_below 23 P' G' R' L' C' (mbox 23 P G R L C w)
  have HC := Lib.hid ((mbox_new 23 P G R L C w).below hb1)
  have HN := Lib.hid (mbox_new 23 P' G' R' L' C' (mbox 23 P G R L C w))
  rw [mbox_size] at HN
  have HB := Lib.hid (hb0.trans' hb1)
  have HG0 := Lib.hid hg
  have HG := Lib.hid (hg.below hg.lt HB.out)
  have HFX : Hid (L7.Tells 18 #[] (.bool true)) := Lib.hid hfx
  simp only [mbox] at HB HC HG HN
  clear hb0 hb1 hfx hg
  obtain ⟨m, hm1, hm2, hm3⟩ := cut_1100 s
  obtain ⟨T, hT⟩ : ∃ T, s.extract 0 m = T := ⟨_, rfl⟩
  have hT2 : T.size ≤ 1100 := by rw [← hT, ByteArray.size_extract]; omega
  have q1 : (0 : Int) ≤ m := by omega
  have q2 : (m : Int) ≤ s.size := by omega
  clear hm2 hm3 hs
  by_cases hm : May ⟨P, G, R, L, C⟩
  · obtain ⟨S, he⟩ : ∃ S, enc ⟨P, G, R, L, C⟩ = (S, 0) := ⟨_, enc_good hm⟩
    have hsz := enc_size he
    have hp := mayBe_le hm.1
    simp only at hsz hp
    have HM := tMay P G R L C (decide_eq_true hm)
    have HE := tEnc P G R L C he
    have HD := tDec S (decV_some (enc_facts he).2.2) (by unfold maxLen; omega)
    have hz : ((S.size : Int) != P) = false := by simp; omega
    have hz2 : ((S.size : Int) == P) = true := by simp; omega
    have hneq : ∀ W, (binOp .neq 23 (mv P G R L C) (mv P G R L C)).run Tryd.prog W = .ok (.bool false) W := fun W => by rw [neM]; simp
    clear hsz hp
    by_cases hn : May ⟨P', G', R', L', C'⟩
    · obtain ⟨U, hu⟩ : ∃ U, enc ⟨P', G', R', L', C'⟩ = (U, 0) := ⟨_, enc_good hn⟩
      have HU := tEnc P' G' R' L' C' hu
      have hsame := same_pages he hu
      have heq := fun W => eqM P G R L C P' G' R' L' C' W
      obtain ⟨q, hq⟩ : ∃ q, (P == P' && G == G' && R == R' && L == L' && C == C') = q := ⟨_, rfl⟩
      rw [hq] at hsame
      simp only [hq] at heq
      have qq : (q != q) = false := by simp
      clear hq hu he hm hn
      cases hX : dec T with
      | some X =>
        obtain ⟨P2, G2, R2, L2, C2⟩ := X
        have hE2 := (dec_iff _ _).1 hX
        have HT := tDec T (decV_some hX) (by unfold maxLen; omega)
        have HET := tEnc P2 G2 R2 L2 C2 hE2
        have HMT := tMay P2 G2 R2 L2 C2 (decide_eq_true (enc_ok hE2).1)
        have ht1 : (T.toList == T.toList) = true := by simp
        clear hX hE2 hT2
        obtain ⟨c0, c1, c2, c3, c4⟩ := HC.out.cells
        go_enter Tryd.func4, Tryd.ntmps4
        go_wp2_with fail
        (try rw [hT])
        refine (HE.out _ HG.out).mono ?_
        rintro e V ⟨rfl, hb⟩
        replace HB := Lib.hid (HB.out.trans' hb)
        replace HG := Lib.hid (HG0.out.below HG0.out.lt HB.out)
        replace HC := Lib.hid (HC.out.below hb)
        replace HN := Lib.hid (HN.out.below hb)
        clear hb
        clear c0 c1 c2 c3 c4
        obtain ⟨n0, n1, n2, n3, n4⟩ := HN.out.cells
        go_wp2_with fail
        refine (HU.out _ HG.out).mono ?_
        rintro e V ⟨rfl, hb⟩
        replace HB := Lib.hid (HB.out.trans' hb)
        replace HG := Lib.hid (HG0.out.below HG0.out.lt HB.out)
        replace HC := Lib.hid (HC.out.below hb)
        replace HN := Lib.hid (HN.out.below hb)
        clear hb
        clear n0 n1 n2 n3 n4
        obtain ⟨c0, c1, c2, c3, c4⟩ := HC.out.cells
        obtain ⟨n0, n1, n2, n3, n4⟩ := HN.out.cells
        go_wp2_with fail
        refine (HM.out _ HG.out).mono ?_
        rintro e V ⟨rfl, hb⟩
        replace HB := Lib.hid (HB.out.trans' hb)
        replace HG := Lib.hid (HG0.out.below HG0.out.lt HB.out)
        replace HC := Lib.hid (HC.out.below hb)
        replace HN := Lib.hid (HN.out.below hb)
        clear hb
        clear c0 c1 c2 c3 c4 n0 n1 n2 n3 n4
        obtain ⟨c0, c1, c2, c3, c4⟩ := HC.out.cells
        obtain ⟨n0, n1, n2, n3, n4⟩ := HN.out.cells
        go_wp2_with fail
        refine (HD.out _ HG.out).mono ?_
        rintro e V ⟨rfl, hb⟩
        have HX := Lib.hid (mbox_new 23 P G R L C V)
        have hb := hb.trans' (mbox_below 23 P G R L C V)
        replace HB := Lib.hid (HB.out.trans' hb)
        replace HG := Lib.hid (HG0.out.below HG0.out.lt HB.out)
        replace HC := Lib.hid (HC.out.below hb)
        replace HN := Lib.hid (HN.out.below hb)
        clear hb
        clear c0 c1 c2 c3 c4 n0 n1 n2 n3 n4
        obtain ⟨c0, c1, c2, c3, c4⟩ := HC.out.cells
        obtain ⟨x0, x1, x2, x3, x4⟩ := HX.out.cells
        simp only [mbox] at HB HG HC HN HX c0 c1 c2 c3 c4 x0 x1 x2 x3 x4
        go_wp2_with fail
        clear c0 c1 c2 c3 c4 x0 x1 x2 x3 x4
        generalize V.alloc (.cells #[.int .i64 P, .int .i64 G, .int .i64 R, .int .i64 L, .int .i64 C] 23) = V' at *
        clear HX
        refine (HT.out _ HG.out).mono ?_
        rintro e V ⟨rfl, hb⟩
        have HY := Lib.hid (mbox_new 23 P2 G2 R2 L2 C2 V)
        have hb := hb.trans' (mbox_below 23 P2 G2 R2 L2 C2 V)
        replace HB := Lib.hid (HB.out.trans' hb)
        replace HG := Lib.hid (HG0.out.below HG0.out.lt HB.out)
        clear hb
        obtain ⟨y0, y1, y2, y3, y4⟩ := HY.out.cells
        simp only [mbox] at HB HG HY y0 y1 y2 y3 y4
        go_wp2_with fail
        clear y0 y1 y2 y3 y4
        generalize V.alloc (.cells #[.int .i64 P2, .int .i64 G2, .int .i64 R2, .int .i64 L2, .int .i64 C2] 23) = V' at *
        generalize V.heap.size = gy at *
        refine (HET.out _ HG.out).mono ?_
        rintro e V ⟨rfl, hb⟩
        replace HB := Lib.hid (HB.out.trans' hb)
        replace HG := Lib.hid (HG0.out.below HG0.out.lt HB.out)
        replace HY := Lib.hid (HY.out.below hb)
        clear hb
        obtain ⟨y0, y1, y2, y3, y4⟩ := HY.out.cells
        go_wp2_with fail
        refine (HMT.out _ HG.out).mono ?_
        rintro e V ⟨rfl, hb⟩
        replace HB := Lib.hid (HB.out.trans' hb)
        replace HG := Lib.hid (HG0.out.below HG0.out.lt HB.out)
        clear hb
        clear y0 y1 y2 y3 y4
        go_wp2_with fail
        refine (HFX.out _ HG.out).mono ?_
        rintro e V ⟨rfl, hb⟩
        replace HB := Lib.hid (HB.out.trans' hb)
        replace HG := Lib.hid (HG0.out.below HG0.out.lt HB.out)
        clear hb
        go_wp2_with fail
        go_ret
        exact ⟨rfl, HB.out⟩
      | none =>
        have HT := tDec T (decV_none hX) (by unfold maxLen; omega)
        have heq0 : ∀ W, (binOp .eql 23 (mv 0 0 0 0 0) (mv 0 0 0 0 0)).run Tryd.prog W = .ok (.bool true) W := fun W => by rw [eqM]; simp
        clear hX hT2
        obtain ⟨c0, c1, c2, c3, c4⟩ := HC.out.cells
        go_enter Tryd.func4, Tryd.ntmps4
        go_wp2_with fail
        (try rw [hT])
        refine (HE.out _ HG.out).mono ?_
        rintro e V ⟨rfl, hb⟩
        replace HB := Lib.hid (HB.out.trans' hb)
        replace HG := Lib.hid (HG0.out.below HG0.out.lt HB.out)
        replace HC := Lib.hid (HC.out.below hb)
        replace HN := Lib.hid (HN.out.below hb)
        clear hb
        clear c0 c1 c2 c3 c4
        obtain ⟨n0, n1, n2, n3, n4⟩ := HN.out.cells
        go_wp2_with fail
        refine (HU.out _ HG.out).mono ?_
        rintro e V ⟨rfl, hb⟩
        replace HB := Lib.hid (HB.out.trans' hb)
        replace HG := Lib.hid (HG0.out.below HG0.out.lt HB.out)
        replace HC := Lib.hid (HC.out.below hb)
        replace HN := Lib.hid (HN.out.below hb)
        clear hb
        clear n0 n1 n2 n3 n4
        obtain ⟨c0, c1, c2, c3, c4⟩ := HC.out.cells
        obtain ⟨n0, n1, n2, n3, n4⟩ := HN.out.cells
        go_wp2_with fail
        refine (HM.out _ HG.out).mono ?_
        rintro e V ⟨rfl, hb⟩
        replace HB := Lib.hid (HB.out.trans' hb)
        replace HG := Lib.hid (HG0.out.below HG0.out.lt HB.out)
        replace HC := Lib.hid (HC.out.below hb)
        replace HN := Lib.hid (HN.out.below hb)
        clear hb
        clear c0 c1 c2 c3 c4 n0 n1 n2 n3 n4
        obtain ⟨c0, c1, c2, c3, c4⟩ := HC.out.cells
        obtain ⟨n0, n1, n2, n3, n4⟩ := HN.out.cells
        go_wp2_with fail
        refine (HD.out _ HG.out).mono ?_
        rintro e V ⟨rfl, hb⟩
        have HX := Lib.hid (mbox_new 23 P G R L C V)
        have hb := hb.trans' (mbox_below 23 P G R L C V)
        replace HB := Lib.hid (HB.out.trans' hb)
        replace HG := Lib.hid (HG0.out.below HG0.out.lt HB.out)
        replace HC := Lib.hid (HC.out.below hb)
        replace HN := Lib.hid (HN.out.below hb)
        clear hb
        clear c0 c1 c2 c3 c4 n0 n1 n2 n3 n4
        obtain ⟨c0, c1, c2, c3, c4⟩ := HC.out.cells
        obtain ⟨x0, x1, x2, x3, x4⟩ := HX.out.cells
        simp only [mbox] at HB HG HC HN HX c0 c1 c2 c3 c4 x0 x1 x2 x3 x4
        go_wp2_with fail
        clear c0 c1 c2 c3 c4 x0 x1 x2 x3 x4
        generalize V.alloc (.cells #[.int .i64 P, .int .i64 G, .int .i64 R, .int .i64 L, .int .i64 C] 23) = V' at *
        clear HX
        refine (HT.out _ HG.out).mono ?_
        rintro e V ⟨rfl, hb⟩
        have HY := Lib.hid (mbox_new 23 0 0 0 0 0 V)
        have hb := hb.trans' (mbox_below 23 0 0 0 0 0 V)
        replace HB := Lib.hid (HB.out.trans' hb)
        replace HG := Lib.hid (HG0.out.below HG0.out.lt HB.out)
        clear hb
        obtain ⟨y0, y1, y2, y3, y4⟩ := HY.out.cells
        simp only [mbox] at HB HG HY y0 y1 y2 y3 y4
        go_wp2_with fail
        clear y0 y1 y2 y3 y4
        generalize V.alloc (.cells #[.int .i64 0, .int .i64 0, .int .i64 0, .int .i64 0, .int .i64 0] 23) = V' at *
        generalize V.heap.size = gy at *
        refine (HFX.out _ HG.out).mono ?_
        rintro e V ⟨rfl, hb⟩
        replace HB := Lib.hid (HB.out.trans' hb)
        replace HG := Lib.hid (HG0.out.below HG0.out.lt HB.out)
        clear hb
        go_wp2_with fail
        go_ret
        exact ⟨rfl, HB.out⟩
    · obtain ⟨f, hu, hf1, hf2⟩ := enc_form' _ hn
      have HU := tEnc P' G' R' L' C' hu
      clear hu he hm hn
      cases hX : dec T with
      | some X =>
        obtain ⟨P2, G2, R2, L2, C2⟩ := X
        have hE2 := (dec_iff _ _).1 hX
        have HT := tDec T (decV_some hX) (by unfold maxLen; omega)
        have HET := tEnc P2 G2 R2 L2 C2 hE2
        have HMT := tMay P2 G2 R2 L2 C2 (decide_eq_true (enc_ok hE2).1)
        have ht1 : (T.toList == T.toList) = true := by simp
        clear hX hE2 hT2
        obtain ⟨c0, c1, c2, c3, c4⟩ := HC.out.cells
        go_enter Tryd.func4, Tryd.ntmps4
        go_wp2_with fail
        (try rw [hT])
        refine (HE.out _ HG.out).mono ?_
        rintro e V ⟨rfl, hb⟩
        replace HB := Lib.hid (HB.out.trans' hb)
        replace HG := Lib.hid (HG0.out.below HG0.out.lt HB.out)
        replace HC := Lib.hid (HC.out.below hb)
        replace HN := Lib.hid (HN.out.below hb)
        clear hb
        clear c0 c1 c2 c3 c4
        obtain ⟨n0, n1, n2, n3, n4⟩ := HN.out.cells
        go_wp2_with fail
        refine (HU.out _ HG.out).mono ?_
        rintro e V ⟨rfl, hb⟩
        replace HB := Lib.hid (HB.out.trans' hb)
        replace HG := Lib.hid (HG0.out.below HG0.out.lt HB.out)
        replace HC := Lib.hid (HC.out.below hb)
        replace HN := Lib.hid (HN.out.below hb)
        clear hb
        clear n0 n1 n2 n3 n4
        obtain ⟨c0, c1, c2, c3, c4⟩ := HC.out.cells
        obtain ⟨n0, n1, n2, n3, n4⟩ := HN.out.cells
        go_wp2_with fail
        refine (HM.out _ HG.out).mono ?_
        rintro e V ⟨rfl, hb⟩
        replace HB := Lib.hid (HB.out.trans' hb)
        replace HG := Lib.hid (HG0.out.below HG0.out.lt HB.out)
        replace HC := Lib.hid (HC.out.below hb)
        replace HN := Lib.hid (HN.out.below hb)
        clear hb
        clear c0 c1 c2 c3 c4 n0 n1 n2 n3 n4
        obtain ⟨c0, c1, c2, c3, c4⟩ := HC.out.cells
        obtain ⟨n0, n1, n2, n3, n4⟩ := HN.out.cells
        go_wp2_with fail
        refine (HD.out _ HG.out).mono ?_
        rintro e V ⟨rfl, hb⟩
        have HX := Lib.hid (mbox_new 23 P G R L C V)
        have hb := hb.trans' (mbox_below 23 P G R L C V)
        replace HB := Lib.hid (HB.out.trans' hb)
        replace HG := Lib.hid (HG0.out.below HG0.out.lt HB.out)
        replace HC := Lib.hid (HC.out.below hb)
        replace HN := Lib.hid (HN.out.below hb)
        clear hb
        clear c0 c1 c2 c3 c4 n0 n1 n2 n3 n4
        obtain ⟨c0, c1, c2, c3, c4⟩ := HC.out.cells
        obtain ⟨x0, x1, x2, x3, x4⟩ := HX.out.cells
        simp only [mbox] at HB HG HC HN HX c0 c1 c2 c3 c4 x0 x1 x2 x3 x4
        go_wp2_with fail
        clear c0 c1 c2 c3 c4 x0 x1 x2 x3 x4
        generalize V.alloc (.cells #[.int .i64 P, .int .i64 G, .int .i64 R, .int .i64 L, .int .i64 C] 23) = V' at *
        clear HX
        refine (HT.out _ HG.out).mono ?_
        rintro e V ⟨rfl, hb⟩
        have HY := Lib.hid (mbox_new 23 P2 G2 R2 L2 C2 V)
        have hb := hb.trans' (mbox_below 23 P2 G2 R2 L2 C2 V)
        replace HB := Lib.hid (HB.out.trans' hb)
        replace HG := Lib.hid (HG0.out.below HG0.out.lt HB.out)
        clear hb
        obtain ⟨y0, y1, y2, y3, y4⟩ := HY.out.cells
        simp only [mbox] at HB HG HY y0 y1 y2 y3 y4
        go_wp2_with fail
        clear y0 y1 y2 y3 y4
        generalize V.alloc (.cells #[.int .i64 P2, .int .i64 G2, .int .i64 R2, .int .i64 L2, .int .i64 C2] 23) = V' at *
        generalize V.heap.size = gy at *
        refine (HET.out _ HG.out).mono ?_
        rintro e V ⟨rfl, hb⟩
        replace HB := Lib.hid (HB.out.trans' hb)
        replace HG := Lib.hid (HG0.out.below HG0.out.lt HB.out)
        replace HY := Lib.hid (HY.out.below hb)
        clear hb
        obtain ⟨y0, y1, y2, y3, y4⟩ := HY.out.cells
        go_wp2_with fail
        refine (HMT.out _ HG.out).mono ?_
        rintro e V ⟨rfl, hb⟩
        replace HB := Lib.hid (HB.out.trans' hb)
        replace HG := Lib.hid (HG0.out.below HG0.out.lt HB.out)
        clear hb
        clear y0 y1 y2 y3 y4
        go_wp2_with fail
        refine (HFX.out _ HG.out).mono ?_
        rintro e V ⟨rfl, hb⟩
        replace HB := Lib.hid (HB.out.trans' hb)
        replace HG := Lib.hid (HG0.out.below HG0.out.lt HB.out)
        clear hb
        go_wp2_with fail
        go_ret
        exact ⟨rfl, HB.out⟩
      | none =>
        have HT := tDec T (decV_none hX) (by unfold maxLen; omega)
        have heq0 : ∀ W, (binOp .eql 23 (mv 0 0 0 0 0) (mv 0 0 0 0 0)).run Tryd.prog W = .ok (.bool true) W := fun W => by rw [eqM]; simp
        clear hX hT2
        obtain ⟨c0, c1, c2, c3, c4⟩ := HC.out.cells
        go_enter Tryd.func4, Tryd.ntmps4
        go_wp2_with fail
        (try rw [hT])
        refine (HE.out _ HG.out).mono ?_
        rintro e V ⟨rfl, hb⟩
        replace HB := Lib.hid (HB.out.trans' hb)
        replace HG := Lib.hid (HG0.out.below HG0.out.lt HB.out)
        replace HC := Lib.hid (HC.out.below hb)
        replace HN := Lib.hid (HN.out.below hb)
        clear hb
        clear c0 c1 c2 c3 c4
        obtain ⟨n0, n1, n2, n3, n4⟩ := HN.out.cells
        go_wp2_with fail
        refine (HU.out _ HG.out).mono ?_
        rintro e V ⟨rfl, hb⟩
        replace HB := Lib.hid (HB.out.trans' hb)
        replace HG := Lib.hid (HG0.out.below HG0.out.lt HB.out)
        replace HC := Lib.hid (HC.out.below hb)
        replace HN := Lib.hid (HN.out.below hb)
        clear hb
        clear n0 n1 n2 n3 n4
        obtain ⟨c0, c1, c2, c3, c4⟩ := HC.out.cells
        obtain ⟨n0, n1, n2, n3, n4⟩ := HN.out.cells
        go_wp2_with fail
        refine (HM.out _ HG.out).mono ?_
        rintro e V ⟨rfl, hb⟩
        replace HB := Lib.hid (HB.out.trans' hb)
        replace HG := Lib.hid (HG0.out.below HG0.out.lt HB.out)
        replace HC := Lib.hid (HC.out.below hb)
        replace HN := Lib.hid (HN.out.below hb)
        clear hb
        clear c0 c1 c2 c3 c4 n0 n1 n2 n3 n4
        obtain ⟨c0, c1, c2, c3, c4⟩ := HC.out.cells
        obtain ⟨n0, n1, n2, n3, n4⟩ := HN.out.cells
        go_wp2_with fail
        refine (HD.out _ HG.out).mono ?_
        rintro e V ⟨rfl, hb⟩
        have HX := Lib.hid (mbox_new 23 P G R L C V)
        have hb := hb.trans' (mbox_below 23 P G R L C V)
        replace HB := Lib.hid (HB.out.trans' hb)
        replace HG := Lib.hid (HG0.out.below HG0.out.lt HB.out)
        replace HC := Lib.hid (HC.out.below hb)
        replace HN := Lib.hid (HN.out.below hb)
        clear hb
        clear c0 c1 c2 c3 c4 n0 n1 n2 n3 n4
        obtain ⟨c0, c1, c2, c3, c4⟩ := HC.out.cells
        obtain ⟨x0, x1, x2, x3, x4⟩ := HX.out.cells
        simp only [mbox] at HB HG HC HN HX c0 c1 c2 c3 c4 x0 x1 x2 x3 x4
        go_wp2_with fail
        clear c0 c1 c2 c3 c4 x0 x1 x2 x3 x4
        generalize V.alloc (.cells #[.int .i64 P, .int .i64 G, .int .i64 R, .int .i64 L, .int .i64 C] 23) = V' at *
        clear HX
        refine (HT.out _ HG.out).mono ?_
        rintro e V ⟨rfl, hb⟩
        have HY := Lib.hid (mbox_new 23 0 0 0 0 0 V)
        have hb := hb.trans' (mbox_below 23 0 0 0 0 0 V)
        replace HB := Lib.hid (HB.out.trans' hb)
        replace HG := Lib.hid (HG0.out.below HG0.out.lt HB.out)
        clear hb
        obtain ⟨y0, y1, y2, y3, y4⟩ := HY.out.cells
        simp only [mbox] at HB HG HY y0 y1 y2 y3 y4
        go_wp2_with fail
        clear y0 y1 y2 y3 y4
        generalize V.alloc (.cells #[.int .i64 0, .int .i64 0, .int .i64 0, .int .i64 0, .int .i64 0] 23) = V' at *
        generalize V.heap.size = gy at *
        refine (HFX.out _ HG.out).mono ?_
        rintro e V ⟨rfl, hb⟩
        replace HB := Lib.hid (HB.out.trans' hb)
        replace HG := Lib.hid (HG0.out.below HG0.out.lt HB.out)
        clear hb
        go_wp2_with fail
        go_ret
        exact ⟨rfl, HB.out⟩
  · have HE := tEnc P G R L C (enc_form hm)
    have HM := tMay P G R L C (decide_eq_false hm)
    obtain ⟨U, f, hu⟩ : ∃ U f, enc ⟨P', G', R', L', C'⟩ = (U, f) := ⟨_, _, rfl⟩
    have HU := tEnc P' G' R' L' C' hu
    clear hu hm
    cases hX : dec T with
    | some X =>
      obtain ⟨P2, G2, R2, L2, C2⟩ := X
      have hE2 := (dec_iff _ _).1 hX
      have HT := tDec T (decV_some hX) (by unfold maxLen; omega)
      have HET := tEnc P2 G2 R2 L2 C2 hE2
      have HMT := tMay P2 G2 R2 L2 C2 (decide_eq_true (enc_ok hE2).1)
      have ht1 : (T.toList == T.toList) = true := by simp
      clear hX hE2 hT2
      obtain ⟨c0, c1, c2, c3, c4⟩ := HC.out.cells
      go_enter Tryd.func4, Tryd.ntmps4
      go_wp2_with fail
      (try rw [hT])
      refine (HE.out _ HG.out).mono ?_
      rintro e V ⟨rfl, hb⟩
      replace HB := Lib.hid (HB.out.trans' hb)
      replace HG := Lib.hid (HG0.out.below HG0.out.lt HB.out)
      replace HC := Lib.hid (HC.out.below hb)
      replace HN := Lib.hid (HN.out.below hb)
      clear hb
      clear c0 c1 c2 c3 c4
      obtain ⟨n0, n1, n2, n3, n4⟩ := HN.out.cells
      go_wp2_with fail
      refine (HU.out _ HG.out).mono ?_
      rintro e V ⟨rfl, hb⟩
      replace HB := Lib.hid (HB.out.trans' hb)
      replace HG := Lib.hid (HG0.out.below HG0.out.lt HB.out)
      replace HC := Lib.hid (HC.out.below hb)
      replace HN := Lib.hid (HN.out.below hb)
      clear hb
      clear n0 n1 n2 n3 n4
      obtain ⟨c0, c1, c2, c3, c4⟩ := HC.out.cells
      obtain ⟨n0, n1, n2, n3, n4⟩ := HN.out.cells
      go_wp2_with fail
      refine (HM.out _ HG.out).mono ?_
      rintro e V ⟨rfl, hb⟩
      replace HB := Lib.hid (HB.out.trans' hb)
      replace HG := Lib.hid (HG0.out.below HG0.out.lt HB.out)
      replace HC := Lib.hid (HC.out.below hb)
      replace HN := Lib.hid (HN.out.below hb)
      clear hb
      clear c0 c1 c2 c3 c4 n0 n1 n2 n3 n4
      obtain ⟨c0, c1, c2, c3, c4⟩ := HC.out.cells
      obtain ⟨n0, n1, n2, n3, n4⟩ := HN.out.cells
      go_wp2_with fail
      clear c0 c1 c2 c3 c4 n0 n1 n2 n3 n4
      refine (HT.out _ HG.out).mono ?_
      rintro e V ⟨rfl, hb⟩
      have HY := Lib.hid (mbox_new 23 P2 G2 R2 L2 C2 V)
      have hb := hb.trans' (mbox_below 23 P2 G2 R2 L2 C2 V)
      replace HB := Lib.hid (HB.out.trans' hb)
      replace HG := Lib.hid (HG0.out.below HG0.out.lt HB.out)
      clear hb
      obtain ⟨y0, y1, y2, y3, y4⟩ := HY.out.cells
      simp only [mbox] at HB HG HY y0 y1 y2 y3 y4
      go_wp2_with fail
      clear y0 y1 y2 y3 y4
      generalize V.alloc (.cells #[.int .i64 P2, .int .i64 G2, .int .i64 R2, .int .i64 L2, .int .i64 C2] 23) = V' at *
      generalize V.heap.size = gy at *
      refine (HET.out _ HG.out).mono ?_
      rintro e V ⟨rfl, hb⟩
      replace HB := Lib.hid (HB.out.trans' hb)
      replace HG := Lib.hid (HG0.out.below HG0.out.lt HB.out)
      replace HY := Lib.hid (HY.out.below hb)
      clear hb
      obtain ⟨y0, y1, y2, y3, y4⟩ := HY.out.cells
      go_wp2_with fail
      refine (HMT.out _ HG.out).mono ?_
      rintro e V ⟨rfl, hb⟩
      replace HB := Lib.hid (HB.out.trans' hb)
      replace HG := Lib.hid (HG0.out.below HG0.out.lt HB.out)
      clear hb
      clear y0 y1 y2 y3 y4
      go_wp2_with fail
      refine (HFX.out _ HG.out).mono ?_
      rintro e V ⟨rfl, hb⟩
      replace HB := Lib.hid (HB.out.trans' hb)
      replace HG := Lib.hid (HG0.out.below HG0.out.lt HB.out)
      clear hb
      go_wp2_with fail
      go_ret
      exact ⟨rfl, HB.out⟩
    | none =>
      have HT := tDec T (decV_none hX) (by unfold maxLen; omega)
      have heq0 : ∀ W, (binOp .eql 23 (mv 0 0 0 0 0) (mv 0 0 0 0 0)).run Tryd.prog W = .ok (.bool true) W := fun W => by rw [eqM]; simp
      clear hX hT2
      obtain ⟨c0, c1, c2, c3, c4⟩ := HC.out.cells
      go_enter Tryd.func4, Tryd.ntmps4
      go_wp2_with fail
      (try rw [hT])
      refine (HE.out _ HG.out).mono ?_
      rintro e V ⟨rfl, hb⟩
      replace HB := Lib.hid (HB.out.trans' hb)
      replace HG := Lib.hid (HG0.out.below HG0.out.lt HB.out)
      replace HC := Lib.hid (HC.out.below hb)
      replace HN := Lib.hid (HN.out.below hb)
      clear hb
      clear c0 c1 c2 c3 c4
      obtain ⟨n0, n1, n2, n3, n4⟩ := HN.out.cells
      go_wp2_with fail
      refine (HU.out _ HG.out).mono ?_
      rintro e V ⟨rfl, hb⟩
      replace HB := Lib.hid (HB.out.trans' hb)
      replace HG := Lib.hid (HG0.out.below HG0.out.lt HB.out)
      replace HC := Lib.hid (HC.out.below hb)
      replace HN := Lib.hid (HN.out.below hb)
      clear hb
      clear n0 n1 n2 n3 n4
      obtain ⟨c0, c1, c2, c3, c4⟩ := HC.out.cells
      obtain ⟨n0, n1, n2, n3, n4⟩ := HN.out.cells
      go_wp2_with fail
      refine (HM.out _ HG.out).mono ?_
      rintro e V ⟨rfl, hb⟩
      replace HB := Lib.hid (HB.out.trans' hb)
      replace HG := Lib.hid (HG0.out.below HG0.out.lt HB.out)
      replace HC := Lib.hid (HC.out.below hb)
      replace HN := Lib.hid (HN.out.below hb)
      clear hb
      clear c0 c1 c2 c3 c4 n0 n1 n2 n3 n4
      obtain ⟨c0, c1, c2, c3, c4⟩ := HC.out.cells
      obtain ⟨n0, n1, n2, n3, n4⟩ := HN.out.cells
      go_wp2_with fail
      clear c0 c1 c2 c3 c4 n0 n1 n2 n3 n4
      refine (HT.out _ HG.out).mono ?_
      rintro e V ⟨rfl, hb⟩
      have HY := Lib.hid (mbox_new 23 0 0 0 0 0 V)
      have hb := hb.trans' (mbox_below 23 0 0 0 0 0 V)
      replace HB := Lib.hid (HB.out.trans' hb)
      replace HG := Lib.hid (HG0.out.below HG0.out.lt HB.out)
      clear hb
      obtain ⟨y0, y1, y2, y3, y4⟩ := HY.out.cells
      simp only [mbox] at HB HG HY y0 y1 y2 y3 y4
      go_wp2_with fail
      clear y0 y1 y2 y3 y4
      generalize V.alloc (.cells #[.int .i64 0, .int .i64 0, .int .i64 0, .int .i64 0, .int .i64 0] 23) = V' at *
      generalize V.heap.size = gy at *
      refine (HFX.out _ HG.out).mono ?_
      rintro e V ⟨rfl, hb⟩
      replace HB := Lib.hid (HB.out.trans' hb)
      replace HG := Lib.hid (HG0.out.below HG0.out.lt HB.out)
      clear hb
      go_wp2_with fail
      go_ret
      exact ⟨rfl, HB.out⟩
theorem metaBack_walk (P G R L C P' G' R' L' C' : Int) (s : ByteArray) (w : World) (hg : L7.Sizes w) (h0 : (Lit.int .i64 P).wf = true) (h1 : (Lit.int .i64 G).wf = true) (h2 : (Lit.int .i64 R).wf = true) (h3 : (Lit.int .i64 L).wf = true) (h4 : (Lit.int .i64 C).wf = true) (k0 : (Lit.int .i64 P').wf = true) (k1 : (Lit.int .i64 G').wf = true) (k2 : (Lit.int .i64 R').wf = true) (k3 : (Lit.int .i64 L').wf = true) (k4 : (Lit.int .i64 C').wf = true) (hs : s.size ≤ maxLen) :
    Calls Tryd.prog 4 #[mv P G R L C, mv P' G' R' L' C', .string s] w fun e w' => e = .returned (.bool true) ∧ Below w.heap.size w w' := metaBack_any fixed_any P G R L C P' G' R' L' C' s w hg hs
end Go.Proofs.YtnjmkljnjngpkaaDoor
