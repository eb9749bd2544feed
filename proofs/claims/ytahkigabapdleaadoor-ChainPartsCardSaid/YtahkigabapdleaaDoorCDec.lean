/-
  The walk of chain.Decode.
-/
import Derived.Test.YtahkigabapdleaaDoorCEnc
namespace Go.Proofs.YtahkigabapdleaaDoor
open Go.RowKit CP
set_option linter.unusedVariables false
set_option linter.unusedSimpArgs false

theorem text_yes {a b : ByteArray} (h : a = b) : (a.toList == b.toList) = true := L5.same_yes (by rw [h])
theorem text_no {a b : ByteArray} (h : a ≠ b) : (a.toList == b.toList) = false := L5.same_no (fun e => h (ByteArray.ext (Array.toList_inj.1 e)))
/-- What is opened has a count that is none less than 0. -/
theorem opn_count {s : ByteArray} (h : (L7.HP.opn s).2.2 = 0) : 0 ≤ (L7.HP.opn s).1.c := by
  by_cases hg : L7.mayBe s.size = true ∧ L7.HP.good s.data.toList
  · rw [L7.HP.opn_good hg.1 hg.2]
    exact hg.2.1.2.2.2.2.1
  · rw [L7.HP.opn_bad hg] at h
    cases h
theorem opn_size {s : ByteArray} : (L7.HP.opn s).2.1.size ≤ s.size := by
  by_cases hg : L7.mayBe s.size = true ∧ L7.HP.good s.data.toList
  · rw [L7.HP.opn_good hg.1 hg.2]
    show (s.extract 16 s.size).size ≤ _
    rw [ByteArray.size_extract]
    omega
  · rw [L7.HP.opn_bad hg]
    exact Nat.zero_le _

set_option maxHeartbeats 4000000 in
set_option maxRecDepth 100000 in
theorem dec_any (s : ByteArray) (w : World) (hz : L7.Sizes w) (hs : s.size ≤ maxLen) :
    Calls Tryd.prog 13 #[.string s] w fun e w' => e = .returned (decV s) ∧ Below w.heap.size w w' := by
  have hb0 := cbox_below 23 0 0 ⟨#[]⟩ w
  have hsz0 := cbox_size 23 0 0 ⟨#[]⟩ w
  have HB := Lib.hid hb0
  have HK := Lib.hid (cbox_new 23 0 0 ⟨#[]⟩ w)
  have HG := Lib.hid (hz.below hz.lt hb0)
  have HO := Lib.hid (L7.open_any s _ (hz.below hz.lt hb0) hs)
  have hcount := @opn_count s
  have hbs := @opn_size s
  have hbad := @dec_bad s
  have hyes := @dec_yes s
  have hno := @dec_no s
  unfold L7.opnV at HO
  generalize L7.HP.opn s = x at *
  obtain ⟨⟨k, l, c, r, f⟩, b, e⟩ := x
  simp only [L7.hv] at HO
  simp only at hcount hbs hbad hyes hno
  unfold maxLen at hs
  clear hb0 hz
  by_cases he : e = 0
  · subst he
    have hc0 := hcount rfl
    obtain ⟨n, rfl⟩ := Int.eq_ofNat_of_zero_le hc0
    by_cases hn : n ≤ b.size
    · have hd : decide ((b.size : Int) < (n : Int)) = false := decide_eq_false (by omega)
      have h0n : (0 : Int) ≤ n := by omega
      have hnb : (n : Int) ≤ b.size := by omega
      obtain ⟨D, hD⟩ : ∃ D, b.extract 0 n = D := ⟨_, rfl⟩
      rw [Int.toNat_natCast, hD] at hyes hno
      have HE := Lib.hid (fun W (h : L7.Sizes W) => enc_any f r D s.size W h)
      obtain ⟨S2, c2, he⟩ : ∃ S2 c2, enc f r D s.size = (S2, c2) := ⟨_, _, rfl⟩
      rw [encV, he] at HE
      rw [he] at hyes hno
      have HD : Hid (b.extract 0 n = D) := Lib.hid hD
      have HYES := Lib.hid (hyes ⟨rfl, by omega⟩)
      have HNO := Lib.hid (hno ⟨rfl, by omega⟩)
      clear hcount hbs hbad hyes hno he hc0 hn
      go_enter Tryd.func13, Tryd.ntmps13
      go_wp2_with fail
      refine HO.out.mono ?_
      rintro e V ⟨rfl, hb⟩
      have HBV := Lib.hid (HB.out.trans' hb)
      have HKV := Lib.hid (HK.out.below hb)
      have hbh := L5.below_alloc V (.cells #[.int .i64 k, .int .i64 l, .int .i64 n, .int .i64 r, .int .i64 f] 57)
      have HBH := Lib.hid (HBV.out.trans' hbh)
      have HKH := Lib.hid (HKV.out.below hbh)
      have HHX := Lib.hid (show L7.Bx 57 V.heap.size ⟨k, l, n, r, f⟩ (V.alloc (.cells #[.int .i64 k, .int .i64 l, .int .i64 n, .int .i64 r, .int .i64 f] 57)) from heap_alloc_new _ _)
      have HGH := Lib.hid (HG.out.below HG.out.lt (hb.trans' hbh))
      obtain ⟨y0, y1, y2, y3, y4⟩ := HHX.out.cells
      clear hb hbh
      go_wp2_with fail
      generalize V.alloc (.cells #[.int .i64 k, .int .i64 l, .int .i64 n, .int .i64 r, .int .i64 f] 57) = W1 at *
      have hb3 := cbox_below 23 0 0 ⟨#[]⟩ W1
      obtain ⟨y0, y1, y2, y3, y4⟩ := (HHX.out.below hb3).cells
      obtain ⟨x0, x1, x2⟩ := (cbox_new 23 0 0 ⟨#[]⟩ W1).cells
      obtain ⟨f0, f1, f2⟩ := (cbox_new 23 0 0 ⟨#[]⟩ W1).free
      simp only [cbox] at y0 y1 y2 y3 y4 x0 x1 x2 f0 f1 f2
      clear hb3
      go_region
      have hb4 : Below W1.heap.size W1 (W1.alloc (.cells #[.int .i64 f, .int .i64 r, .string D] 23)).drew := L5.below_drewN (L5.below_alloc W1 _) 1
      have HC : Hid (Cx 23 W1.heap.size f r D (W1.alloc (.cells #[.int .i64 f, .int .i64 r, .string D] 23)).drew) := Lib.hid (cbox_new 23 f r D W1)
      have HB2 := Lib.hid (HBH.out.trans' hb4)
      have HK2 := Lib.hid (HKH.out.below hb4)
      have HG2 := Lib.hid (HGH.out.below HGH.out.lt hb4)
      generalize (W1.alloc (.cells #[.int .i64 f, .int .i64 r, .string D] 23)).drew = W2 at *
      clear hb4 y0 y1 y2 y3 y4 x0 x1 x2 f0 f1 f2 HBH HKH HGH HHX HBV HKV HB HK HG HO
      obtain ⟨x0, x1, x2⟩ := HC.out.cells
      generalize hq1 : W1.heap.size = gc at *
      go_wp2_with fail
      refine (HE.out _ HG2.out).mono ?_
      rintro e V3 ⟨rfl, hb⟩
      have HKQ := Lib.hid (HK2.out.below hb)
      have HBQ := Lib.hid (HB2.out.trans' hb)
      clear x0 x1 x2
      obtain ⟨x0, x1, x2⟩ := (HC.out.below hb).cells
      obtain ⟨u0, u1, u2⟩ := HKQ.out.cells
      obtain ⟨f0, f1, f2⟩ := HKQ.out.free
      clear hb
      by_cases hc0 : c2 = 0
      · subst hc0
        by_cases hS : S2 = s
        · subst hS
          have hz := text_yes (rfl : S2 = S2)
          have hz2 : (S2.toList != S2.toList) = false := by simp
          have HX : Hid (decV S2 = .tuple #[cv f r D, .int .i64 0]) := Lib.hid (decV_some (HYES.out rfl))
          go_wp2_with fail
          obtain ⟨r0, r1, r2⟩ := (setC_box HKQ.out f r D).cells
          unfold setC at r0 r1 r2
          refine bodyPost_ret (v := .tuple #[cv f r D, .int .i64 0]) (by simp [results, Tryd.results13, go_sem, r0, r1, r2]) rfl ⟨by rw [HX.out], ?_⟩
          exact setC_below HBQ.out (Nat.le_refl _) f r D
        · have hz := text_no hS
          have hz2 : (S2.toList != s.toList) = true := by simp only [bne, hz]; rfl
          have HX : Hid (decV s = .tuple #[cv0, .int .i64 3]) := Lib.hid (decV_none (HNO.out (fun h => hS (congrArg Prod.fst h))))
          clear hS
          go_wp2_with fail
          obtain ⟨r0, r1, r2⟩ := (setC_box HKQ.out 0 0 ⟨#[]⟩).cells
          unfold setC at r0 r1 r2
          refine bodyPost_ret (v := .tuple #[cv0, .int .i64 3]) (by simp [results, Tryd.results13, go_sem, r0, r1, r2]) rfl ⟨by rw [HX.out], ?_⟩
          exact setC_below HBQ.out (Nat.le_refl _) 0 0 ⟨#[]⟩
      · have hcn : (c2 != 0) = true := by simpa using hc0
        have hce : (c2 == 0) = false := by simpa using hc0
        have HX : Hid (decV s = .tuple #[cv0, .int .i64 3]) := Lib.hid (decV_none (HNO.out (fun h => hc0 (congrArg Prod.snd h))))
        clear hc0
        go_wp2_with fail
        obtain ⟨r0, r1, r2⟩ := (setC_box HKQ.out 0 0 ⟨#[]⟩).cells
        unfold setC at r0 r1 r2
        refine bodyPost_ret (v := .tuple #[cv0, .int .i64 3]) (by simp [results, Tryd.results13, go_sem, r0, r1, r2]) rfl ⟨by rw [HX.out], ?_⟩
        exact setC_below HBQ.out (Nat.le_refl _) 0 0 ⟨#[]⟩
    · have hd : decide ((b.size : Int) < (n : Int)) = true := decide_eq_true (by omega)
      have hd2 : decide (b.size < n) = true := decide_eq_true (by omega)
      have HX : Hid (decV s = .tuple #[cv0, .int .i64 3]) := Lib.hid (decV_none (hbad (fun h => by have := h.2; omega)))
      clear hcount hbs hbad hyes hno hc0 hn
      go_enter Tryd.func13, Tryd.ntmps13
      go_wp2_with fail
      refine HO.out.mono ?_
      rintro e V ⟨rfl, hb⟩
      have hb := hb.trans' (L5.below_alloc V (.cells #[.int .i64 k, .int .i64 l, .int .i64 n, .int .i64 r, .int .i64 f] 57))
      have HBQ := Lib.hid (HB.out.trans' hb)
      have HKQ := Lib.hid (HK.out.below hb)
      have HHX := Lib.hid (show L7.Bx 57 V.heap.size ⟨k, l, n, r, f⟩ (V.alloc (.cells #[.int .i64 k, .int .i64 l, .int .i64 n, .int .i64 r, .int .i64 f] 57)) from heap_alloc_new _ _)
      obtain ⟨y0, y1, y2, y3, y4⟩ := HHX.out.cells
      obtain ⟨u0, u1, u2⟩ := HKQ.out.cells
      obtain ⟨f0, f1, f2⟩ := HKQ.out.free
      clear hb
      go_wp2_with fail
      obtain ⟨r0, r1, r2⟩ := (setC_box HKQ.out 0 0 ⟨#[]⟩).cells
      unfold setC at r0 r1 r2
      refine bodyPost_ret (v := .tuple #[cv0, .int .i64 3]) (by simp [results, Tryd.results13, go_sem, r0, r1, r2]) rfl ⟨by rw [HX.out], ?_⟩
      exact setC_below HBQ.out (Nat.le_refl _) 0 0 ⟨#[]⟩
  · have hcn : (e != 0) = true := by simpa using he
    have hce : (e == 0) = false := by simpa using he
    have HX : Hid (decV s = .tuple #[cv0, .int .i64 3]) := Lib.hid (decV_none (hbad (fun h => he h.1)))
    clear hcount hbs hbad hyes hno he
    go_enter Tryd.func13, Tryd.ntmps13
    go_wp2_with fail
    refine HO.out.mono ?_
    rintro e V ⟨rfl, hb⟩
    have hb := hb.trans' (L5.below_alloc V (.cells #[.int .i64 k, .int .i64 l, .int .i64 c, .int .i64 r, .int .i64 f] 57))
    have HBQ := Lib.hid (HB.out.trans' hb)
    have HKQ := Lib.hid (HK.out.below hb)
    obtain ⟨u0, u1, u2⟩ := HKQ.out.cells
    obtain ⟨f0, f1, f2⟩ := HKQ.out.free
    clear hb
    go_wp2_with fail
    obtain ⟨r0, r1, r2⟩ := (setC_box HKQ.out 0 0 ⟨#[]⟩).cells
    unfold setC at r0 r1 r2
    refine bodyPost_ret (v := .tuple #[cv0, .int .i64 3]) (by simp [results, Tryd.results13, go_sem, r0, r1, r2]) rfl ⟨by rw [HX.out], ?_⟩
    exact setC_below HBQ.out (Nat.le_refl _) 0 0 ⟨#[]⟩
end Go.Proofs.YtahkigabapdleaaDoor
