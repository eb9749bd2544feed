/-
  The walk of the document's Decode of layer 13. Written by wip/gen_mdoc.py.
-/
import Derived.Test.YtnjmkljnjngpkaaDoorMDEnc
import Derived.Test.YtnjmkljnjngpkaaDoorMRRead
import Derived.Test.YtnjmkljnjngpkaaDoorMDec
namespace Go.Proofs.YtnjmkljnjngpkaaDoor
open Go.RowKit MP
set_option linter.unusedVariables false
set_option linter.unusedSimpArgs false

set_option maxHeartbeats 4000000 in
set_option maxRecDepth 100000 in
theorem rdec_any (s : ByteArray) (w : World) (hz : L7.Sizes w) (hs : s.size ≤ maxLen) :
    Calls Tryd.prog 13 #[.string s] w fun e w' => e = .returned (decV s) ∧ Below w.heap.size w w' := by
  have hb0 := mbox_below 29 0 0 0 0 0 w
  have HB := Lib.hid hb0
  have HK := Lib.hid (mbox_new 29 0 0 0 0 0 w)
  have HG := Lib.hid (hz.below hz.lt hb0)
  have HO := Lib.hid (L7.refOpen_any s _ (hz.below hz.lt hb0))
  have hroom := @opn_room s
  have hbad := @dec_bad s
  have hyes := @dec_yes s
  have hno := @dec_no s
  unfold L7.opnV at HO
  generalize L7.HP.opn s = x at *
  obtain ⟨⟨k, l, c, r, f⟩, b, e⟩ := x
  simp only [L7.hv] at HO
  simp only at hbad hyes hno hroom
  unfold told at hyes hno
  simp only at hyes hno
  clear hb0 hz
  by_cases he : e = 0
  · subst he
    obtain ⟨hr1, hr2⟩ := hroom rfl
    have R5 : Hid (∀ W, Calls Tryd.prog 21 #[.string b, .int .i64 5] W fun e w' => e = .returned (.tuple #[.int .u32 (num b 5), .int .i64 0]) ∧ W = w') := Lib.hid (fun W => L7.rread_any b 5 W (by omega) (by omega) (by unfold maxLen; omega))
    have R9 : Hid (∀ W, Calls Tryd.prog 21 #[.string b, .int .i64 9] W fun e w' => e = .returned (.tuple #[.int .u32 (num b 9), .int .i64 0]) ∧ W = w') := Lib.hid (fun W => L7.rread_any b 9 W (by omega) (by omega) (by unfold maxLen; omega))
    have R13 : Hid (∀ W, Calls Tryd.prog 21 #[.string b, .int .i64 13] W fun e w' => e = .returned (.tuple #[.int .u32 (num b 13), .int .i64 0]) ∧ W = w') := Lib.hid (fun W => L7.rread_any b 13 W (by omega) (by omega) (by unfold maxLen; omega))
    have b5 := num_bd b 5
    have b9 := num_bd b 9
    have b13 := num_bd b 13
    generalize num b 5 = n5 at *
    generalize num b 9 = n9 at *
    generalize num b 13 = n13 at *
    have w5 : Hid (IntKind.i64.wrap n5 = n5) := Lib.hid (IntWalk.i64_in _ (by omega))
    have w9 : Hid (IntKind.i64.wrap n9 = n9) := Lib.hid (IntWalk.i64_in _ (by omega))
    have w13 : Hid (IntKind.i64.wrap n13 = n13) := Lib.hid (IntWalk.i64_in _ (by omega))
    have HE := Lib.hid (fun W (h : L7.Sizes W) => renc_any n5 n9 r l n13 W h)
    obtain ⟨S2, c2, he⟩ : ∃ S2 c2, enc ⟨n5, n9, r, l, n13⟩ = (S2, c2) := ⟨_, _, rfl⟩
    rw [encV, he] at HE
    rw [he] at hyes hno
    have HYES := Lib.hid (hyes rfl)
    have HNO := Lib.hid (hno rfl)
    clear hbad hyes hno he b5 b9 b13 hr1 hr2 hroom
    go_enter Tryd.func13, Tryd.ntmps13
    go_wp2_with fail
    refine HO.out.mono ?_
    rintro e V ⟨rfl, hb⟩
    have hbh := L5.below_alloc V (.cells #[.int .i64 k, .int .i64 l, .int .i64 c, .int .i64 r, .int .i64 f] 45)
    have HHX := Lib.hid (show L7.Bx 45 V.heap.size ⟨k, l, c, r, f⟩ (V.alloc (.cells #[.int .i64 k, .int .i64 l, .int .i64 c, .int .i64 r, .int .i64 f] 45)) from heap_alloc_new _ _)
    have HB1 := Lib.hid (HB.out.trans' (hb.trans' hbh))
    have HK1 := Lib.hid (HK.out.below (hb.trans' hbh))
    have HG1 := Lib.hid (HG.out.below HG.out.lt (hb.trans' hbh))
    obtain ⟨y0, y1, y2, y3, y4⟩ := HHX.out.cells
    clear hb hbh HB HK HG HO
    go_wp2_with fail
    clear y0 y1 y2 y3 y4
    generalize V.alloc (.cells #[.int .i64 k, .int .i64 l, .int .i64 c, .int .i64 r, .int .i64 f] 45) = W1 at *
    refine (R5.out _).mono ?_
    rintro e V1 ⟨rfl, rfl⟩
    go_wp2_with fail
    refine (R9.out _).mono ?_
    rintro e V1 ⟨rfl, rfl⟩
    go_wp2_with fail
    refine (R13.out _).mono ?_
    rintro e V1 ⟨rfl, rfl⟩
    have w5 := w5.out
    have w9 := w9.out
    have w13 := w13.out
    obtain ⟨y0, y1, y2, y3, y4⟩ := HHX.out.cells
    have hbh := mbox_below 29 n5 n9 r l n13 W1
    have HC := Lib.hid (mbox_new 29 n5 n9 r l n13 W1)
    have HB2 := Lib.hid (HB1.out.trans' hbh)
    have HK2 := Lib.hid (HK1.out.below hbh)
    have HG2 := Lib.hid (HG1.out.below HG1.out.lt hbh)
    obtain ⟨x0, x1, x2, x3, x4⟩ := HC.out.cells
    simp only [mbox] at x0 x1 x2 x3 x4
    clear hbh HB1 HK1 HG1 R5 R9 R13
    go_wp2_with fail
    clear x0 x1 x2 x3 x4 y0 y1 y2 y3 y4 HHX w5 w9 w13
    refine (HE.out _ HG2.out).mono ?_
    rintro e V3 ⟨rfl, hb⟩
    have HKQ := Lib.hid (HK2.out.below hb)
    have HBQ := Lib.hid (HB2.out.trans' hb)
    obtain ⟨x0, x1, x2, x3, x4⟩ := (HC.out.below hb).cells
    obtain ⟨u0, u1, u2, u3, u4⟩ := HKQ.out.cells
    obtain ⟨f0, f1, f2, f3, f4⟩ := HKQ.out.free
    clear hb HK2 HB2 HG2 HC
    by_cases hc0 : c2 = 0
    · subst hc0
      by_cases hS : S2 = s
      · subst hS
        have hz := text_yes (rfl : S2 = S2)
        have hz2 : (S2.toList != S2.toList) = false := by simp
        have HX : Hid (decV S2 = .tuple #[mv n5 n9 r l n13, .int .i64 0]) := Lib.hid (decV_some (HYES.out rfl))
        go_wp2_with fail
        obtain ⟨r0, r1, r2, r3, r4⟩ := (setM_box HKQ.out n5 n9 r l n13).cells
        unfold setM at r0 r1 r2 r3 r4
        refine bodyPost_ret (v := .tuple #[mv n5 n9 r l n13, .int .i64 0]) (by simp [results, Tryd.results13, go_sem, r0, r1, r2, r3, r4]) rfl ⟨by rw [HX.out], ?_⟩
        exact setM_below HBQ.out (Nat.le_refl _) n5 n9 r l n13
      · have hz := text_no hS
        have hz2 : (S2.toList != s.toList) = true := by simp only [bne, hz]; rfl
        have HX : Hid (decV s = .tuple #[mv 0 0 0 0 0, .int .i64 3]) := Lib.hid (decV_none (HNO.out (fun h => hS (congrArg Prod.fst h))))
        clear hS
        go_wp2_with fail
        obtain ⟨r0, r1, r2, r3, r4⟩ := (setM_box HKQ.out 0 0 0 0 0).cells
        unfold setM at r0 r1 r2 r3 r4
        refine bodyPost_ret (v := .tuple #[mv 0 0 0 0 0, .int .i64 3]) (by simp [results, Tryd.results13, go_sem, r0, r1, r2, r3, r4]) rfl ⟨by rw [HX.out], ?_⟩
        exact setM_below HBQ.out (Nat.le_refl _) 0 0 0 0 0
    · have hcn : (c2 != 0) = true := by simpa using hc0
      have hce : (c2 == 0) = false := by simpa using hc0
      have HX : Hid (decV s = .tuple #[mv 0 0 0 0 0, .int .i64 3]) := Lib.hid (decV_none (HNO.out (fun h => hc0 (congrArg Prod.snd h))))
      clear hc0
      go_wp2_with fail
      obtain ⟨r0, r1, r2, r3, r4⟩ := (setM_box HKQ.out 0 0 0 0 0).cells
      unfold setM at r0 r1 r2 r3 r4
      refine bodyPost_ret (v := .tuple #[mv 0 0 0 0 0, .int .i64 3]) (by simp [results, Tryd.results13, go_sem, r0, r1, r2, r3, r4]) rfl ⟨by rw [HX.out], ?_⟩
      exact setM_below HBQ.out (Nat.le_refl _) 0 0 0 0 0
  · have hcn : (e != 0) = true := by simpa using he
    have hce : (e == 0) = false := by simpa using he
    have HX : Hid (decV s = .tuple #[mv 0 0 0 0 0, .int .i64 3]) := Lib.hid (decV_none (hbad he))
    clear hbad hyes hno he hroom
    go_enter Tryd.func13, Tryd.ntmps13
    go_wp2_with fail
    refine HO.out.mono ?_
    rintro e' V ⟨rfl, hb⟩
    have hb := hb.trans' (L5.below_alloc V (.cells #[.int .i64 k, .int .i64 l, .int .i64 c, .int .i64 r, .int .i64 f] 45))
    have HBQ := Lib.hid (HB.out.trans' hb)
    have HKQ := Lib.hid (HK.out.below hb)
    obtain ⟨u0, u1, u2, u3, u4⟩ := HKQ.out.cells
    obtain ⟨f0, f1, f2, f3, f4⟩ := HKQ.out.free
    clear hb
    go_wp2_with fail
    obtain ⟨r0, r1, r2, r3, r4⟩ := (setM_box HKQ.out 0 0 0 0 0).cells
    unfold setM at r0 r1 r2 r3 r4
    refine bodyPost_ret (v := .tuple #[mv 0 0 0 0 0, .int .i64 3]) (by simp [results, Tryd.results13, go_sem, r0, r1, r2, r3, r4]) rfl ⟨by rw [HX.out], ?_⟩
    exact setM_below HBQ.out (Nat.le_refl _) 0 0 0 0 0
end Go.Proofs.YtnjmkljnjngpkaaDoor
