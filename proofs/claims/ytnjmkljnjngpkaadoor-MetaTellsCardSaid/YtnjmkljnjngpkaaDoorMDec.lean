/-
  The walk of meta.Decode.
-/
import Derived.Test.YtnjmkljnjngpkaaDoorMRead
namespace Go.Proofs.YtnjmkljnjngpkaaDoor
open Go.RowKit MP
set_option linter.unusedVariables false
set_option linter.unusedSimpArgs false

theorem text_yes {a b : ByteArray} (h : a = b) : (a.toList == b.toList) = true := L5.same_yes (by rw [h])
theorem text_no {a b : ByteArray} (h : a ≠ b) : (a.toList == b.toList) = false := L5.same_no (fun e => h (ByteArray.ext (Array.toList_inj.1 e)))

set_option maxHeartbeats 4000000 in
set_option maxRecDepth 100000 in
theorem dec_any (s : ByteArray) (w : World) (hz : L7.Sizes w) (hs : s.size ≤ maxLen) :
    Calls Tryd.prog 12 #[.string s] w fun e w' => e = .returned (decV s) ∧ Below w.heap.size w w' := by
  have hb0 := mbox_below 23 0 0 0 0 0 w
  have HB := Lib.hid hb0
  have HK := Lib.hid (mbox_new 23 0 0 0 0 0 w)
  have HG := Lib.hid (hz.below hz.lt hb0)
  have HO := Lib.hid (read_any s _ (hz.below hz.lt hb0) hs)
  have hbad := @dec_bad s
  have hyes := @dec_yes s
  have hno := @dec_no s
  unfold readV at HO
  generalize L7.HP.opn s = x at *
  obtain ⟨⟨k, l, c, r, f⟩, b, e⟩ := x
  simp only at HO hbad hyes hno
  unfold told at hyes hno
  simp only at hyes hno
  clear hb0 hz
  by_cases he : e = 0
  · subst he
    rw [if_pos rfl] at HO
    generalize num b 5 = n5 at *
    generalize num b 9 = n9 at *
    generalize num b 13 = n13 at *
    have HE := Lib.hid (fun W (h : L7.Sizes W) => enc_any n5 n9 r l n13 W h)
    obtain ⟨S2, c2, he⟩ : ∃ S2 c2, enc ⟨n5, n9, r, l, n13⟩ = (S2, c2) := ⟨_, _, rfl⟩
    rw [encV, he] at HE
    rw [he] at hyes hno
    have HYES := Lib.hid (hyes rfl)
    have HNO := Lib.hid (hno rfl)
    clear hbad hyes hno he
    go_enter Tryd.func12, Tryd.ntmps12
    go_wp2_with fail
    refine HO.out.mono ?_
    rintro e V ⟨rfl, hb⟩
    have hbh := mbox_below 23 n5 n9 r l n13 V
    have HC := Lib.hid (mbox_new 23 n5 n9 r l n13 V)
    have HB2 := Lib.hid (HB.out.trans' (hb.trans' hbh))
    have HK2 := Lib.hid (HK.out.below (hb.trans' hbh))
    have HG2 := Lib.hid (HG.out.below HG.out.lt (hb.trans' hbh))
    obtain ⟨x0, x1, x2, x3, x4⟩ := HC.out.cells
    simp only [mbox] at x0 x1 x2 x3 x4
    clear hb hbh HB HK HG HO
    go_wp2_with fail
    clear x0 x1 x2 x3 x4
    refine (HE.out _ HG2.out).mono ?_
    rintro e V3 ⟨rfl, hb⟩
    have HKQ := Lib.hid (HK2.out.below hb)
    have HBQ := Lib.hid (HB2.out.trans' hb)
    obtain ⟨x0, x1, x2, x3, x4⟩ := (HC.out.below hb).cells
    obtain ⟨u0, u1, u2, u3, u4⟩ := HKQ.out.cells
    obtain ⟨f0, f1, f2, f3, f4⟩ := HKQ.out.free
    clear hb HK2 HB2 HG2 HC
    by_cases hc0 : c2 = 0
    · subst hc0
      by_cases hS : S2 = s
      · subst hS
        have hz := text_yes (rfl : S2 = S2)
        have hz2 : (S2.toList != S2.toList) = false := by simp
        have HX : Hid (decV S2 = .tuple #[mv n5 n9 r l n13, .int .i64 0]) := Lib.hid (decV_some (HYES.out rfl))
        go_wp2_with fail
        obtain ⟨r0, r1, r2, r3, r4⟩ := (setM_box HKQ.out n5 n9 r l n13).cells
        unfold setM at r0 r1 r2 r3 r4
        refine bodyPost_ret (v := .tuple #[mv n5 n9 r l n13, .int .i64 0]) (by simp [results, Tryd.results12, go_sem, r0, r1, r2, r3, r4]) rfl ⟨by rw [HX.out], ?_⟩
        exact setM_below HBQ.out (Nat.le_refl _) n5 n9 r l n13
      · have hz := text_no hS
        have hz2 : (S2.toList != s.toList) = true := by simp only [bne, hz]; rfl
        have HX : Hid (decV s = .tuple #[mv 0 0 0 0 0, .int .i64 3]) := Lib.hid (decV_none (HNO.out (fun h => hS (congrArg Prod.fst h))))
        clear hS
        go_wp2_with fail
        obtain ⟨r0, r1, r2, r3, r4⟩ := (setM_box HKQ.out 0 0 0 0 0).cells
        unfold setM at r0 r1 r2 r3 r4
        refine bodyPost_ret (v := .tuple #[mv 0 0 0 0 0, .int .i64 3]) (by simp [results, Tryd.results12, go_sem, r0, r1, r2, r3, r4]) rfl ⟨by rw [HX.out], ?_⟩
        exact setM_below HBQ.out (Nat.le_refl _) 0 0 0 0 0
    · have hcn : (c2 != 0) = true := by simpa using hc0
      have hce : (c2 == 0) = false := by simpa using hc0
      have HX : Hid (decV s = .tuple #[mv 0 0 0 0 0, .int .i64 3]) := Lib.hid (decV_none (HNO.out (fun h => hc0 (congrArg Prod.snd h))))
      clear hc0
      go_wp2_with fail
      obtain ⟨r0, r1, r2, r3, r4⟩ := (setM_box HKQ.out 0 0 0 0 0).cells
      unfold setM at r0 r1 r2 r3 r4
      refine bodyPost_ret (v := .tuple #[mv 0 0 0 0 0, .int .i64 3]) (by simp [results, Tryd.results12, go_sem, r0, r1, r2, r3, r4]) rfl ⟨by rw [HX.out], ?_⟩
      exact setM_below HBQ.out (Nat.le_refl _) 0 0 0 0 0
  · have hcn : (e != 0) = true := by simpa using he
    have hce : (e == 0) = false := by simpa using he
    rw [if_neg he] at HO
    have HX : Hid (decV s = .tuple #[mv 0 0 0 0 0, .int .i64 3]) := Lib.hid (decV_none (hbad he))
    clear hbad hyes hno he
    go_enter Tryd.func12, Tryd.ntmps12
    go_wp2_with fail
    refine HO.out.mono ?_
    rintro e' V ⟨rfl, hb⟩
    have hb := hb.trans' (mbox_below 23 0 0 0 0 0 V)
    have HBQ := Lib.hid (HB.out.trans' hb)
    have HKQ := Lib.hid (HK.out.below hb)
    obtain ⟨u0, u1, u2, u3, u4⟩ := HKQ.out.cells
    obtain ⟨f0, f1, f2, f3, f4⟩ := HKQ.out.free
    simp only [mbox] at u0 u1 u2 u3 u4 f0 f1 f2 f3 f4
    clear hb
    go_wp2_with fail
    obtain ⟨r0, r1, r2, r3, r4⟩ := (setM_box HKQ.out 0 0 0 0 0).cells
    unfold setM at r0 r1 r2 r3 r4
    refine bodyPost_ret (v := .tuple #[mv 0 0 0 0 0, .int .i64 3]) (by simp [results, Tryd.results12, go_sem, r0, r1, r2, r3, r4]) rfl ⟨by rw [HX.out], ?_⟩
    exact setM_below HBQ.out (Nat.le_refl _) 0 0 0 0 0
end Go.Proofs.YtnjmkljnjngpkaaDoor
