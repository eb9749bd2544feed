/-
  The walk of meta.read.
-/
import Derived.Test.YtnjmkljnjngpkaaDoorMEnc
import Derived.WalkMore
namespace Go.Proofs.YtnjmkljnjngpkaaDoor
open Go.RowKit MP
set_option linter.unusedVariables false
set_option linter.unusedSimpArgs false

theorem num_bd (b : ByteArray) (i : Nat) : 0 ≤ num b i ∧ num b i < 4294967296 := by
  have h := L7.WP.leNat_lt ((b.data.toList.drop i).take 4)
  have hl : ((b.data.toList.drop i).take 4).length ≤ 4 := by rw [List.length_take]; omega
  have h2 : 256 ^ ((b.data.toList.drop i).take 4).length ≤ 256 ^ 4 := Nat.pow_le_pow_right (by omega) hl
  have h3 : (256 : Nat) ^ 4 = 4294967296 := by decide
  unfold num
  omega
theorem opn_room {s : ByteArray} (h : (L7.HP.opn s).2.2 = 0) : 112 ≤ (L7.HP.opn s).2.1.size ∧ (L7.HP.opn s).2.1.size ≤ 1008 := by
  by_cases hg : L7.mayBe s.size = true ∧ L7.HP.good s.data.toList
  · rw [L7.HP.opn_good hg.1 hg.2]
    have hp := mayBe_le hg.1
    show 112 ≤ (s.extract 16 s.size).size ∧ (s.extract 16 s.size).size ≤ 1008
    rw [ByteArray.size_extract]
    omega
  · rw [L7.HP.opn_bad hg] at h
    cases h
/-- What read answers. -/
def readV (s : ByteArray) : Value :=
  if (L7.HP.opn s).2.2 = 0 then .tuple #[mv (num (L7.HP.opn s).2.1 5) (num (L7.HP.opn s).2.1 9) (L7.HP.opn s).1.r (L7.HP.opn s).1.l (num (L7.HP.opn s).2.1 13), .int .i64 0]
  else .tuple #[mv 0 0 0 0 0, .int .i64 (L7.HP.opn s).2.2]

set_option maxHeartbeats 4000000 in
set_option maxRecDepth 100000 in
theorem read_any (s : ByteArray) (w : World) (hz : L7.Sizes w) (hs : s.size ≤ maxLen) :
    Calls Tryd.prog 28 #[.string s] w fun e w' => e = .returned (readV s) ∧ Below w.heap.size w w' := by
  have hb0 := mbox_below 23 0 0 0 0 0 w
  have HB := Lib.hid hb0
  have HK := Lib.hid (mbox_new 23 0 0 0 0 0 w)
  have HO := Lib.hid (L7.open_any s _ (hz.below hz.lt hb0) hs)
  have hroom := @opn_room s
  obtain ⟨rv, HRS⟩ : ∃ rv, Hid (rv = readV s) := ⟨_, Lib.hid rfl⟩
  rw [← HRS.out]
  have hrv := HRS.out
  unfold readV at hrv
  unfold L7.opnV at HO
  generalize L7.HP.opn s = x at *
  obtain ⟨⟨k, l, c, r, f⟩, b, e⟩ := x
  simp only [L7.hv] at HO
  simp only at hroom hrv
  clear hb0 hz HRS
  by_cases he : e = 0
  · subst he
    obtain ⟨hr1, hr2⟩ := hroom rfl
    rw [if_pos rfl] at hrv
    have r5 := Lib.hid (fun W => L7.read_any b 5 W (by omega) (by omega) (by unfold maxLen; omega))
    have r9 := Lib.hid (fun W => L7.read_any b 9 W (by omega) (by omega) (by unfold maxLen; omega))
    have r13 := Lib.hid (fun W => L7.read_any b 13 W (by omega) (by omega) (by unfold maxLen; omega))
    have R5 : Hid (∀ W, Calls Tryd.prog 45 #[.string b, .int .i64 5] W fun e w' => e = .returned (.tuple #[.int .u32 (num b 5), .int .i64 0]) ∧ W = w') := r5
    have R9 : Hid (∀ W, Calls Tryd.prog 45 #[.string b, .int .i64 9] W fun e w' => e = .returned (.tuple #[.int .u32 (num b 9), .int .i64 0]) ∧ W = w') := r9
    have R13 : Hid (∀ W, Calls Tryd.prog 45 #[.string b, .int .i64 13] W fun e w' => e = .returned (.tuple #[.int .u32 (num b 13), .int .i64 0]) ∧ W = w') := r13
    have b5 := num_bd b 5
    have b9 := num_bd b 9
    have b13 := num_bd b 13
    generalize num b 5 = n5 at *
    generalize num b 9 = n9 at *
    generalize num b 13 = n13 at *
    have w5 : IntKind.i64.wrap n5 = n5 := IntWalk.i64_in _ (by omega)
    have w9 : IntKind.i64.wrap n9 = n9 := IntWalk.i64_in _ (by omega)
    have w13 : IntKind.i64.wrap n13 = n13 := IntWalk.i64_in _ (by omega)
    have HX := Lib.hid hrv
    clear hroom hrv r5 r9 r13 b5 b9 b13 hr1 hr2
    go_enter Tryd.func28, Tryd.ntmps28
    go_wp2_with fail
    go_step3
    go_wp2_with fail
    refine HO.out.mono ?_
    rintro e V ⟨rfl, hb⟩
    have HBV := Lib.hid (HB.out.trans' hb)
    have HKV := Lib.hid (HK.out.below hb)
    have HVS : Hid (w.heap.size < V.heap.size + 1) := Lib.hid (by have := HBV.out.size; omega)
    have hbh := L5.below_alloc V (.cells #[.int .i64 k, .int .i64 l, .int .i64 c, .int .i64 r, .int .i64 f] 59)
    have HHX := Lib.hid (show L7.Bx 59 V.heap.size ⟨k, l, c, r, f⟩ (V.alloc (.cells #[.int .i64 k, .int .i64 l, .int .i64 c, .int .i64 r, .int .i64 f] 59)) from heap_alloc_new _ _)
    have HBH := Lib.hid (HBV.out.trans' hbh)
    have HKH := Lib.hid (HKV.out.below hbh)
    obtain ⟨y0, y1, y2, y3, y4⟩ := HHX.out.cells
    clear hb hbh HBV HKV HB HK HO
    go_wp2_with fail
    clear y0 y1 y2 y3 y4
    have HG : Hid (Mx 23 (V.heap.size + 1) 0 0 r l 0 (mbox 23 0 0 r l 0 (V.alloc (.cells #[.int .i64 k, .int .i64 l, .int .i64 c, .int .i64 r, .int .i64 f] 59)))) := Lib.hid (by
      have h := mbox_new 23 0 0 r l 0 (V.alloc (.cells #[.int .i64 k, .int .i64 l, .int .i64 c, .int .i64 r, .int .i64 f] 59))
      simpa using h)
    have hb := mbox_below 23 0 0 r l 0 (V.alloc (.cells #[.int .i64 k, .int .i64 l, .int .i64 c, .int .i64 r, .int .i64 f] 59))
    have HB1 := Lib.hid (HBH.out.trans' hb)
    have HK1 := Lib.hid (HKH.out.below hb)
    clear hb HBH HKH HHX
    simp only [mbox] at HG HB1 HK1
    generalize (V.alloc (.cells #[.int .i64 k, .int .i64 l, .int .i64 c, .int .i64 r, .int .i64 f] 59)).alloc (.cells #[.int .i64 0, .int .i64 0, .int .i64 r, .int .i64 l, .int .i64 0] 23) = W1 at *
    generalize V.heap.size + 1 = gm at *
    go_step3
    go_wp2_with fail
    go_loopw [8] (fun iv wr => ∃ j : Nat, j ≤ 2 ∧ iv = .int .i64 (5 + 4 * j) ∧ Hid (Mx 23 gm (if j = 0 then 0 else n5) (if j = 2 then n9 else 0) r l 0 wr) ∧ Hid (Mx 23 w.heap.size 0 0 0 0 0 wr) ∧ Hid (Below w.heap.size w wr)) (fun iv _ => 20 - (intOf iv).toNat)
    case atStart => exact ⟨0, by omega, rfl, HG, HK1, HB1⟩
    case round =>
      obtain ⟨j, hj, rfl, HG, HK, HB⟩ := hrel
      rcases (show j = 0 ∨ j = 1 ∨ j = 2 by omega) with rfl | rfl | rfl
      · have HG := Lib.hid (show Mx 23 gm 0 0 r l 0 wr from HG.out)
        obtain ⟨c0, c1, c2, c3, c4⟩ := HG.out.cells
        obtain ⟨f0, f1, f2, f3, f4⟩ := HG.out.free
        go_wp2_with fail
        refine (R5.out _).mono ?_
        rintro e w2 ⟨rfl, rfl⟩
        go_wp2_with fail
        go_roundw
        case rel => exact ⟨1, by omega, by go_num, Lib.hid (HG.out.set0 n5), Lib.hid (HK.out.other (by have := HVS.out; omega) _), Lib.hid (HB.out.setCell (show w.heap.size ≤ gm by have := HVS.out; omega) _)⟩
        case measure => simp [intOf]
      · have HG := Lib.hid (show Mx 23 gm n5 0 r l 0 wr from HG.out)
        obtain ⟨c0, c1, c2, c3, c4⟩ := HG.out.cells
        obtain ⟨f0, f1, f2, f3, f4⟩ := HG.out.free
        go_wp2_with fail
        refine (R9.out _).mono ?_
        rintro e w2 ⟨rfl, rfl⟩
        go_wp2_with fail
        go_roundw
        case rel => exact ⟨2, by omega, by go_num, Lib.hid (HG.out.set1 n9), Lib.hid (HK.out.other (by have := HVS.out; omega) _), Lib.hid (HB.out.setCell (show w.heap.size ≤ gm by have := HVS.out; omega) _)⟩
        case measure => simp [intOf]
      · have HG := Lib.hid (show Mx 23 gm n5 n9 r l 0 wr from HG.out)
        obtain ⟨c0, c1, c2, c3, c4⟩ := HG.out.cells
        obtain ⟨f0, f1, f2, f3, f4⟩ := HG.out.free
        have HG2 := Lib.hid (HG.out.set4 n13)
        have HK2 := Lib.hid (show Mx 23 w.heap.size 0 0 0 0 0 (wr.setCell ⟨gm, 4, none⟩ (.int .i64 n13)) from HK.out.other (by have := HVS.out; omega) _)
        have HB2 := Lib.hid (show Below w.heap.size w (wr.setCell ⟨gm, 4, none⟩ (.int .i64 n13)) from HB.out.setCell (show w.heap.size ≤ gm by have := HVS.out; omega) _)
        obtain ⟨d0, d1, d2, d3, d4⟩ := HG2.out.cells
        obtain ⟨k0, k1, k2, k3, k4⟩ := HK2.out.cells
        obtain ⟨q0, q1, q2, q3, q4⟩ := HK2.out.free
        go_wp2_with fail
        refine (R13.out _).mono ?_
        rintro e w2 ⟨rfl, rfl⟩
        go_wp2_with fail
        rw [Exit.noGoto_ret]
        obtain ⟨r0, r1, r2, r3, r4⟩ := (setM_box HK2.out n5 n9 r l n13).cells
        unfold setM at r0 r1 r2 r3 r4
        refine bodyPost_ret (v := .tuple #[mv n5 n9 r l n13, .int .i64 0]) (by simp [results, Tryd.results28, go_sem, r0, r1, r2, r3, r4]) rfl ⟨by rw [HX.out], ?_⟩
        exact setM_below HB2.out (Nat.le_refl _) n5 n9 r l n13
  · have hcn : (e != 0) = true := by simpa using he
    have hce : (e == 0) = false := by simpa using he
    rw [if_neg he] at hrv
    have HX := Lib.hid hrv
    clear hroom hrv he
    go_enter Tryd.func28, Tryd.ntmps28
    go_wp2_with fail
    go_step3
    go_wp2_with fail
    refine HO.out.mono ?_
    rintro e' V ⟨rfl, hb⟩
    have hb := hb.trans' (L5.below_alloc V (.cells #[.int .i64 k, .int .i64 l, .int .i64 c, .int .i64 r, .int .i64 f] 59))
    have HBQ := Lib.hid (HB.out.trans' hb)
    have HKQ := Lib.hid (HK.out.below hb)
    obtain ⟨u0, u1, u2, u3, u4⟩ := HKQ.out.cells
    obtain ⟨f0, f1, f2, f3, f4⟩ := HKQ.out.free
    clear hb
    go_wp2_with fail
    rw [Exit.noGoto_ret]
    obtain ⟨r0, r1, r2, r3, r4⟩ := (setM_box HKQ.out 0 0 0 0 0).cells
    unfold setM at r0 r1 r2 r3 r4
    refine bodyPost_ret (v := .tuple #[mv 0 0 0 0 0, .int .i64 e]) (by simp [results, Tryd.results28, go_sem, r0, r1, r2, r3, r4]) rfl ⟨by rw [HX.out], ?_⟩
    exact setM_below HBQ.out (Nat.le_refl _) 0 0 0 0 0
end Go.Proofs.YtnjmkljnjngpkaaDoor
