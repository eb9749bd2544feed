/-
  The walk of the law CellCut. Written by wip/gen_vcuts.py.
-/
import Derived.Test.YtppnchjmbeinkaaVLaw
namespace Go.Proofs.Ytppnchjmbeinkaa
open Go.RowKit
set_option linter.unusedVariables false
set_option linter.unusedSimpArgs false

theorem i64_nat {x : Nat} (h : x < 65536) : IntKind.i64.wrap (x : Int) = x := IntWalk.i64_in _ (by omega)
theorem wrap64_nat {x : Nat} (h : x < 65536) : wrap64 (x : Int) = x := by unfold wrap64; omega
theorem take_list (s : ByteArray) (n : Nat) : (s.extract 0 n).data.toList = s.data.toList.take n := by rw [cut_list]; simp
theorem more_list (s t : ByteArray) : (s ++ t).data.toList = s.data.toList ++ t.data.toList := by simp

set_option maxHeartbeats 8000000 in
set_option maxRecDepth 100000 in
theorem cellCut_walk (HSAY : Says) (X : ByteArray) (O : Bool) (S : ByteArray) (L P : Int) (at_ c k : Int) (w : World) (wx : X.size ≤ maxLen) (ws : S.size ≤ maxLen) (wa : (Lit.int .u16 at_).wf = true) (wc : (Lit.int .u8 c).wf = true) :
    Calls Try.prog 5 #[.string X, vv O S L P, .agg #[.int .u16 at_, .int .u8 c, .int .i64 k]] w fun e w' => e = .returned (.bool true) ∧ Below w.heap.size w w' := by
  obtain ⟨x, rfl, hx⟩ : ∃ x : Nat, at_ = x ∧ x < 65536 := by
    have := bounds_u16 wa
    exact ⟨at_.toNat, by omega, by omega⟩
  obtain ⟨c8, rfl⟩ : ∃ c8 : UInt8, c = c8.toNat := by
    have := bounds_u8 wc
    exact ⟨UInt8.ofNat c.toNat, by simp; omega⟩
  obtain ⟨M, hM⟩ : ∃ M : ByteArray, ⟨#[c8]⟩ = M := ⟨_, rfl⟩
  have hMs : M.size = 1 := by subst hM; rfl
  have hMn : M.data.toList ≠ [] := by subst hM; simp
  obtain ⟨E, hE⟩ : ∃ E : ByteArray, ⟨#[]⟩ = E := ⟨_, rfl⟩
  obtain ⟨bT, bO, bV, bL, bP, hbad⟩ : ∃ bT bO bV bL bP, gotV none = .tuple #[.string bT, .agg #[.bool bO, .string bV, .int .i64 bL, .int .i64 bP], .int .i64 3] := ⟨_, _, _, _, _, rfl⟩
  have hbadk : gotK none = .tuple #[.int .i64 0, .string E, .int .i64 3] := by subst hE; rfl
  have HFX : Hid (Tells 21 #[] (.bool true)) := Lib.hid (fun W => fixed_any HSAY W)
  have hbA := below_alloc w (.cells #[.bool O, .string S, .int .i64 L, .int .i64 P] 23)
  have hbB := below_alloc (w.alloc (.cells #[.bool O, .string S, .int .i64 L, .int .i64 P] 23)) (.cells #[.int .u16 (x : Int), .int .u8 (c8.toNat : Int), .int .i64 k] 46)
  have hb0 := hbA.trans' hbB
  have HK0 := Lib.hid ((Bx.new 23 O S L P w).below hbB)
  have HX0 : Hid (Blk (w.heap.size + 1) #[.int .u16 (x : Int), .int .u8 (c8.toNat : Int), .int .i64 k] 46 ((w.alloc (.cells #[.bool O, .string S, .int .i64 L, .int .i64 P] 23)).alloc (.cells #[.int .u16 (x : Int), .int .u8 (c8.toNat : Int), .int .i64 k] 46))) := Lib.hid (by
    have h := heap_alloc_new (w.alloc (.cells #[.bool O, .string S, .int .i64 L, .int .i64 P] 23)) (.cells #[.int .u16 (x : Int), .int .u8 (c8.toNat : Int), .int .i64 k] 46)
    rw [show (w.alloc (.cells #[.bool O, .string S, .int .i64 L, .int .i64 P] 23)).heap.size = w.heap.size + 1 by simp] at h
    exact h)
  have HCUT := Lib.hid (fun W => vcut_any O S L P W ws)
  have hV := cutV_size S
  unfold maxLen at wx
  obtain ⟨m, hm, hm6, hms, hmm, hfs⟩ := cut_min X 128 (by omega)
  obtain ⟨T, hT⟩ : ∃ T, X.extract 0 m = T := ⟨_, rfl⟩
  rw [hT] at hfs
  have hTs : T.size ≤ 128 := by omega
  clear hfs ws wa wc
  generalize cutV S = V at *
  have q2'' := wrap64_nat hx
  have q2a := i64_nat hx
  have HPV := Lib.hid (HSAY.putV T O V L P (by omega) (by omega))
  have HPK := Lib.hid (HSAY.putK k T (by omega))
  have HRI := Lib.hid (HSAY.right O V L P)
  have hts := list_size T
  by_cases hR : VP.Right (pv O V L P)
  · have hOk : VP.OkV T.data.toList (pv O V L P) := ⟨by omega, hR⟩
    rw [putV_yes hOk] at HPV
    rw [decide_eq_true hR] at HRI
    have hcb := cell_bound hOk hV
    have hc0 : 1 ≤ (cellS T (pv O V L P)).size := by
      rw [cellS, bytes_size]
      simp only [VP.cellV, VP.text, List.length_append, put_short T.data.toList.length (by omega)]
      omega
    obtain ⟨i, hi⟩ : ∃ i, x % (cellS T (pv O V L P)).size = i := ⟨_, rfl⟩
    have hi2 : i < (cellS T (pv O V L P)).size := by rw [← hi]; exact Nat.mod_lt _ (by omega)
    have HG1 := Lib.hid (HSAY.getV ((cellS T (pv O V L P)).extract 0 i) (by simp; omega))
    rw [take_list, cellS_list, VP.cellV_less _ _ _ hOk (by rw [← cellS_list, list_size]; exact hi2), hbad] at HG1
    have HG2 := Lib.hid (HSAY.getV (cellS T (pv O V L P) ++ M) (by rw [ByteArray.size_append]; omega))
    rw [more_list, cellS_list, VP.cellV_more _ _ _ hOk hMn, hbad] at HG2
    generalize cellS T (pv O V L P) = C at *
    have q1 : (x : Int).tmod (C.size : Int) = i := by rw [← hi]; rfl
    have q2 : (x : Int) % (C.size : Int) = i := by rw [← hi]; rfl
    have q3 : ¬ C.size = 0 := by omega
    have q4 : decide ((0 : Int) < C.size) = true := decide_eq_true (by omega)
    have q5 : decide (0 < C.size) = true := decide_eq_true (by omega)
    have q6 : (0 : Int) ≤ (i : Int) := by omega
    have q7 : (i : Int) ≤ C.size := by omega
    have q8 : ¬ 9223372036854775807 < C.size + M.size := by omega
    have q8' : ¬ (9223372036854775807 : Int) < (C.size : Int) + M.size := by omega
    clear hcb hc0 hi hi2 hR hOk
    rcases (show k < 1 ∨ (1 ≤ k ∧ k ≤ 4095) ∨ 4095 < k by omega) with hk | hk | hk
    · rw [putK_no (fun h => by have := h.1; omega), hE] at HPK
      have d1 : decide ((1 : Int) ≤ k) = false := decide_eq_false (by omega)
      clear hts HSAY hbad hbadk hMn hV hTs hx hE
      go_enter Try.func5, Try.ntmps5
      go_wp2_with fail
      refine (HCUT.out _).mono ?_
      rintro e w1 ⟨rfl, hb1⟩
      have L0 := HK0.out.below hb1
      have X0 := HX0.out.below hb1
      have hbL := hb0.trans' hb1
      clear hb1 HK0 HX0 hb0 HCUT hbA hbB
      obtain ⟨a0, a1, a2, a3⟩ := L0.cells
      obtain ⟨f0, f1, f2, f3⟩ := L0.free
      have K1 := set4_box L0 O V L P
      have X1 : Blk (w.heap.size + 1) #[.int .u16 (x : Int), .int .u8 (c8.toNat : Int), .int .i64 k] 46 (set4 w1 w.heap.size O V L P) := (set4_other (by omega) O V L P).trans X0
      have hbW := set4_below hbL (Nat.le_refl _) O V L P
      obtain ⟨WQ, hW⟩ : ∃ W, set4 w1 w.heap.size O V L P = W := ⟨_, rfl⟩
      rw [hW] at K1 X1 hbW
      unfold set4 at hW
      have hc := conv_new WQ [(c8.toNat : Int)] 47 5 9 Try.underlying47 Try.underlying5 Try.underlying9
      simp only [List.length_cons, List.length_nil, List.map_cons, List.map_nil, Nat.zero_add] at hc
      rw [show strOfNums [(c8.toNat : Int)] = ⟨#[c8]⟩ by simp [strOfNums], hM] at hc
      have HBV : Hid (∀ Z, Below WQ.heap.size WQ Z → Hid (Below WQ.heap.size WQ Z) ∧ Z.cell? ⟨w.heap.size, 0, none⟩ = some (.bool O) ∧ Z.cell? ⟨w.heap.size, 1, none⟩ = some (.string V) ∧ Z.cell? ⟨w.heap.size, 2, none⟩ = some (.int .i64 L) ∧ Z.cell? ⟨w.heap.size, 3, none⟩ = some (.int .i64 P) ∧ Z.cell? ⟨w.heap.size + 1, 0, none⟩ = some (.int .u16 (x : Int)) ∧ Z.cell? ⟨w.heap.size + 1, 1, none⟩ = some (.int .u8 (c8.toNat : Int)) ∧ Z.cell? ⟨w.heap.size + 1, 2, none⟩ = some (.int .i64 k)) := Lib.hid (fun Z hb => by
        obtain ⟨v0, v1, v2, v3⟩ := (K1.below hb).cells
        have hx := X1.below hb
        exact ⟨Lib.hid hb, v0, v1, v2, v3, hx.cell 0 _ rfl, hx.cell 1 _ rfl, hx.cell 2 _ rfl⟩)
      have HBW := Lib.hid hbW
      have HB0 := Lib.hid (below_alloc WQ (.cells #[.int .u8 (c8.toNat : Int)] 5))
      have y1 := X1.cell 1 _ rfl
      obtain ⟨W0, hW0⟩ : ∃ W, WQ.alloc (.cells #[.int .u8 (c8.toNat : Int)] 5) = W := ⟨_, rfl⟩
      rw [hW0] at HB0 hc
      clear L0 X0 hbL K1 X1 hbW
      obtain ⟨_, v0, v1, v2, v3, x0, x1, x2⟩ := HBV.out _ HB0.out
      go_wp2_with fail
      refine (Tells.at HPV.out HB0.out).mono ?_
      rintro e W1 ⟨rfl, hb⟩
      clear v0 v1 v2 v3 x0 x1 x2
      clear a0 a1 a2 a3 f0 f1 f2 f3 hW hc hW0 y1
      have HB1 := Lib.hid hb
      clear hb
      obtain ⟨_, v0, v1, v2, v3, x0, x1, x2⟩ := HBV.out _ HB1.out
      go_wp2_with fail
      refine (Tells.at HG1.out HB1.out).mono ?_
      rintro e W2 ⟨rfl, hb⟩
      clear v0 v1 v2 v3 x0 x1 x2
      have HB2 := Lib.hid (hb.trans' (below_alloc W2 (.cells #[.bool bO, .string bV, .int .i64 bL, .int .i64 bP] 23)))
      obtain ⟨WX2, hWX2⟩ : ∃ WX, W2.alloc (.cells #[.bool bO, .string bV, .int .i64 bL, .int .i64 bP] 23) = WX := ⟨_, rfl⟩
      rw [hWX2] at HB2
      clear hb
      obtain ⟨_, v0, v1, v2, v3, x0, x1, x2⟩ := HBV.out _ HB2.out
      go_wp2_with fail
      refine (Tells.at HG2.out HB2.out).mono ?_
      rintro e W3 ⟨rfl, hb⟩
      clear v0 v1 v2 v3 x0 x1 x2
      have HB3 := Lib.hid (hb.trans' (below_alloc W3 (.cells #[.bool bO, .string bV, .int .i64 bL, .int .i64 bP] 23)))
      obtain ⟨WX3, hWX3⟩ : ∃ WX, W3.alloc (.cells #[.bool bO, .string bV, .int .i64 bL, .int .i64 bP] 23) = WX := ⟨_, rfl⟩
      rw [hWX3] at HB3
      clear hb
      obtain ⟨_, v0, v1, v2, v3, x0, x1, x2⟩ := HBV.out _ HB3.out
      go_wp2_with fail
      refine (Tells.at HPK.out HB3.out).mono ?_
      rintro e W4 ⟨rfl, hb⟩
      clear v0 v1 v2 v3 x0 x1 x2
      have HB4 := Lib.hid hb
      clear hb
      obtain ⟨_, v0, v1, v2, v3, x0, x1, x2⟩ := HBV.out _ HB4.out
      go_wp2_with fail
      refine (Tells.at HRI.out HB4.out).mono ?_
      rintro e W5 ⟨rfl, hb⟩
      clear v0 v1 v2 v3 x0 x1 x2
      have HB5 := Lib.hid hb
      clear hb
      obtain ⟨_, v0, v1, v2, v3, x0, x1, x2⟩ := HBV.out _ HB5.out
      go_wp2_with fail
      refine (Tells.at HFX.out HB5.out).mono ?_
      rintro e WZ ⟨rfl, hb⟩
      go_wp2_with fail
      go_ret
      exact ⟨rfl, HBW.out.trans' hb⟩
    · obtain ⟨kk, hkk⟩ := Int.eq_ofNat_of_zero_le (show 0 ≤ k by omega)
      have hK : VP.OkK kk T.data.toList := ⟨by omega, by omega, by omega⟩
      rw [putK_yes (by rw [hkk]; exact hK), show k.toNat = kk by omega] at HPK
      have hkb := kid_bound (k := kk) (T := T) (by omega)
      have hk0 : 4 ≤ (kidS kk T).size := by rw [kidS_size]; omega
      obtain ⟨j, hj⟩ : ∃ j, x % (kidS kk T).size = j := ⟨_, rfl⟩
      have hj2 : j < (kidS kk T).size := by rw [← hj]; exact Nat.mod_lt _ (by omega)
      have HK1 := Lib.hid (HSAY.getK ((kidS kk T).extract 0 j) (by simp; omega))
      rw [take_list, kidS_list, VP.cellK_less _ _ _ hK (by rw [← kidS_list, list_size]; exact hj2), hbadk] at HK1
      have HK2 := Lib.hid (HSAY.getK (kidS kk T ++ M) (by rw [ByteArray.size_append]; omega))
      rw [more_list, kidS_list, VP.cellK_more _ _ _ hK hMn, hbadk] at HK2
      generalize kidS kk T = D at *
      have p1 : (x : Int).tmod (D.size : Int) = j := by rw [← hj]; rfl
      have p2 : (x : Int) % (D.size : Int) = j := by rw [← hj]; rfl
      have p3 : ¬ D.size = 0 := by omega
      have p4 : decide ((0 : Int) < D.size) = true := decide_eq_true (by omega)
      have p5 : decide (0 < D.size) = true := decide_eq_true (by omega)
      have p6 : (0 : Int) ≤ (j : Int) := by omega
      have p7 : (j : Int) ≤ D.size := by omega
      have p8 : ¬ 9223372036854775807 < D.size + M.size := by omega
      have p8' : ¬ (9223372036854775807 : Int) < (D.size : Int) + M.size := by omega
      have d1 : decide ((1 : Int) ≤ k) = true := decide_eq_true hk.1
      have d2 : decide (k ≤ 4095) = true := decide_eq_true hk.2
      clear hkb hk0 hK hkk hj hj2 hts HSAY hbad hbadk hMn hV hTs hx hE
      go_enter Try.func5, Try.ntmps5
      go_wp2_with fail
      refine (HCUT.out _).mono ?_
      rintro e w1 ⟨rfl, hb1⟩
      have L0 := HK0.out.below hb1
      have X0 := HX0.out.below hb1
      have hbL := hb0.trans' hb1
      clear hb1 HK0 HX0 hb0 HCUT hbA hbB
      obtain ⟨a0, a1, a2, a3⟩ := L0.cells
      obtain ⟨f0, f1, f2, f3⟩ := L0.free
      have K1 := set4_box L0 O V L P
      have X1 : Blk (w.heap.size + 1) #[.int .u16 (x : Int), .int .u8 (c8.toNat : Int), .int .i64 k] 46 (set4 w1 w.heap.size O V L P) := (set4_other (by omega) O V L P).trans X0
      have hbW := set4_below hbL (Nat.le_refl _) O V L P
      obtain ⟨WQ, hW⟩ : ∃ W, set4 w1 w.heap.size O V L P = W := ⟨_, rfl⟩
      rw [hW] at K1 X1 hbW
      unfold set4 at hW
      have hc := conv_new WQ [(c8.toNat : Int)] 47 5 9 Try.underlying47 Try.underlying5 Try.underlying9
      simp only [List.length_cons, List.length_nil, List.map_cons, List.map_nil, Nat.zero_add] at hc
      rw [show strOfNums [(c8.toNat : Int)] = ⟨#[c8]⟩ by simp [strOfNums], hM] at hc
      have HBV : Hid (∀ Z, Below WQ.heap.size WQ Z → Hid (Below WQ.heap.size WQ Z) ∧ Z.cell? ⟨w.heap.size, 0, none⟩ = some (.bool O) ∧ Z.cell? ⟨w.heap.size, 1, none⟩ = some (.string V) ∧ Z.cell? ⟨w.heap.size, 2, none⟩ = some (.int .i64 L) ∧ Z.cell? ⟨w.heap.size, 3, none⟩ = some (.int .i64 P) ∧ Z.cell? ⟨w.heap.size + 1, 0, none⟩ = some (.int .u16 (x : Int)) ∧ Z.cell? ⟨w.heap.size + 1, 1, none⟩ = some (.int .u8 (c8.toNat : Int)) ∧ Z.cell? ⟨w.heap.size + 1, 2, none⟩ = some (.int .i64 k)) := Lib.hid (fun Z hb => by
        obtain ⟨v0, v1, v2, v3⟩ := (K1.below hb).cells
        have hx := X1.below hb
        exact ⟨Lib.hid hb, v0, v1, v2, v3, hx.cell 0 _ rfl, hx.cell 1 _ rfl, hx.cell 2 _ rfl⟩)
      have HBW := Lib.hid hbW
      have HB0 := Lib.hid (below_alloc WQ (.cells #[.int .u8 (c8.toNat : Int)] 5))
      have y1 := X1.cell 1 _ rfl
      obtain ⟨W0, hW0⟩ : ∃ W, WQ.alloc (.cells #[.int .u8 (c8.toNat : Int)] 5) = W := ⟨_, rfl⟩
      rw [hW0] at HB0 hc
      clear L0 X0 hbL K1 X1 hbW
      obtain ⟨_, v0, v1, v2, v3, x0, x1, x2⟩ := HBV.out _ HB0.out
      go_wp2_with fail
      refine (Tells.at HPV.out HB0.out).mono ?_
      rintro e W1 ⟨rfl, hb⟩
      clear v0 v1 v2 v3 x0 x1 x2
      clear a0 a1 a2 a3 f0 f1 f2 f3 hW hc hW0 y1
      have HB1 := Lib.hid hb
      clear hb
      obtain ⟨_, v0, v1, v2, v3, x0, x1, x2⟩ := HBV.out _ HB1.out
      go_wp2_with fail
      refine (Tells.at HG1.out HB1.out).mono ?_
      rintro e W2 ⟨rfl, hb⟩
      clear v0 v1 v2 v3 x0 x1 x2
      have HB2 := Lib.hid (hb.trans' (below_alloc W2 (.cells #[.bool bO, .string bV, .int .i64 bL, .int .i64 bP] 23)))
      obtain ⟨WX2, hWX2⟩ : ∃ WX, W2.alloc (.cells #[.bool bO, .string bV, .int .i64 bL, .int .i64 bP] 23) = WX := ⟨_, rfl⟩
      rw [hWX2] at HB2
      clear hb
      obtain ⟨_, v0, v1, v2, v3, x0, x1, x2⟩ := HBV.out _ HB2.out
      go_wp2_with fail
      refine (Tells.at HG2.out HB2.out).mono ?_
      rintro e W3 ⟨rfl, hb⟩
      clear v0 v1 v2 v3 x0 x1 x2
      have HB3 := Lib.hid (hb.trans' (below_alloc W3 (.cells #[.bool bO, .string bV, .int .i64 bL, .int .i64 bP] 23)))
      obtain ⟨WX3, hWX3⟩ : ∃ WX, W3.alloc (.cells #[.bool bO, .string bV, .int .i64 bL, .int .i64 bP] 23) = WX := ⟨_, rfl⟩
      rw [hWX3] at HB3
      clear hb
      obtain ⟨_, v0, v1, v2, v3, x0, x1, x2⟩ := HBV.out _ HB3.out
      go_wp2_with fail
      refine (Tells.at HPK.out HB3.out).mono ?_
      rintro e W4 ⟨rfl, hb⟩
      clear v0 v1 v2 v3 x0 x1 x2
      have HB4 := Lib.hid hb
      clear hb
      obtain ⟨_, v0, v1, v2, v3, x0, x1, x2⟩ := HBV.out _ HB4.out
      go_wp2_with fail
      refine (Tells.at HK1.out HB4.out).mono ?_
      rintro e W5 ⟨rfl, hb⟩
      clear v0 v1 v2 v3 x0 x1 x2
      have HB5 := Lib.hid hb
      clear hb
      obtain ⟨_, v0, v1, v2, v3, x0, x1, x2⟩ := HBV.out _ HB5.out
      go_wp2_with fail
      refine (Tells.at HK2.out HB5.out).mono ?_
      rintro e W6 ⟨rfl, hb⟩
      clear v0 v1 v2 v3 x0 x1 x2
      have HB6 := Lib.hid hb
      clear hb
      obtain ⟨_, v0, v1, v2, v3, x0, x1, x2⟩ := HBV.out _ HB6.out
      go_wp2_with fail
      refine (Tells.at HRI.out HB6.out).mono ?_
      rintro e W7 ⟨rfl, hb⟩
      clear v0 v1 v2 v3 x0 x1 x2
      have HB7 := Lib.hid hb
      clear hb
      obtain ⟨_, v0, v1, v2, v3, x0, x1, x2⟩ := HBV.out _ HB7.out
      go_wp2_with fail
      refine (Tells.at HFX.out HB7.out).mono ?_
      rintro e WZ ⟨rfl, hb⟩
      go_wp2_with fail
      go_ret
      exact ⟨rfl, HBW.out.trans' hb⟩
    · rw [putK_no (fun h => by have := h.2.1; omega), hE] at HPK
      have d1 : decide ((1 : Int) ≤ k) = true := decide_eq_true (by omega)
      have d2 : decide (k ≤ 4095) = false := decide_eq_false (by omega)
      clear hts HSAY hbad hbadk hMn hV hTs hx hE
      go_enter Try.func5, Try.ntmps5
      go_wp2_with fail
      refine (HCUT.out _).mono ?_
      rintro e w1 ⟨rfl, hb1⟩
      have L0 := HK0.out.below hb1
      have X0 := HX0.out.below hb1
      have hbL := hb0.trans' hb1
      clear hb1 HK0 HX0 hb0 HCUT hbA hbB
      obtain ⟨a0, a1, a2, a3⟩ := L0.cells
      obtain ⟨f0, f1, f2, f3⟩ := L0.free
      have K1 := set4_box L0 O V L P
      have X1 : Blk (w.heap.size + 1) #[.int .u16 (x : Int), .int .u8 (c8.toNat : Int), .int .i64 k] 46 (set4 w1 w.heap.size O V L P) := (set4_other (by omega) O V L P).trans X0
      have hbW := set4_below hbL (Nat.le_refl _) O V L P
      obtain ⟨WQ, hW⟩ : ∃ W, set4 w1 w.heap.size O V L P = W := ⟨_, rfl⟩
      rw [hW] at K1 X1 hbW
      unfold set4 at hW
      have hc := conv_new WQ [(c8.toNat : Int)] 47 5 9 Try.underlying47 Try.underlying5 Try.underlying9
      simp only [List.length_cons, List.length_nil, List.map_cons, List.map_nil, Nat.zero_add] at hc
      rw [show strOfNums [(c8.toNat : Int)] = ⟨#[c8]⟩ by simp [strOfNums], hM] at hc
      have HBV : Hid (∀ Z, Below WQ.heap.size WQ Z → Hid (Below WQ.heap.size WQ Z) ∧ Z.cell? ⟨w.heap.size, 0, none⟩ = some (.bool O) ∧ Z.cell? ⟨w.heap.size, 1, none⟩ = some (.string V) ∧ Z.cell? ⟨w.heap.size, 2, none⟩ = some (.int .i64 L) ∧ Z.cell? ⟨w.heap.size, 3, none⟩ = some (.int .i64 P) ∧ Z.cell? ⟨w.heap.size + 1, 0, none⟩ = some (.int .u16 (x : Int)) ∧ Z.cell? ⟨w.heap.size + 1, 1, none⟩ = some (.int .u8 (c8.toNat : Int)) ∧ Z.cell? ⟨w.heap.size + 1, 2, none⟩ = some (.int .i64 k)) := Lib.hid (fun Z hb => by
        obtain ⟨v0, v1, v2, v3⟩ := (K1.below hb).cells
        have hx := X1.below hb
        exact ⟨Lib.hid hb, v0, v1, v2, v3, hx.cell 0 _ rfl, hx.cell 1 _ rfl, hx.cell 2 _ rfl⟩)
      have HBW := Lib.hid hbW
      have HB0 := Lib.hid (below_alloc WQ (.cells #[.int .u8 (c8.toNat : Int)] 5))
      have y1 := X1.cell 1 _ rfl
      obtain ⟨W0, hW0⟩ : ∃ W, WQ.alloc (.cells #[.int .u8 (c8.toNat : Int)] 5) = W := ⟨_, rfl⟩
      rw [hW0] at HB0 hc
      clear L0 X0 hbL K1 X1 hbW
      obtain ⟨_, v0, v1, v2, v3, x0, x1, x2⟩ := HBV.out _ HB0.out
      go_wp2_with fail
      refine (Tells.at HPV.out HB0.out).mono ?_
      rintro e W1 ⟨rfl, hb⟩
      clear v0 v1 v2 v3 x0 x1 x2
      clear a0 a1 a2 a3 f0 f1 f2 f3 hW hc hW0 y1
      have HB1 := Lib.hid hb
      clear hb
      obtain ⟨_, v0, v1, v2, v3, x0, x1, x2⟩ := HBV.out _ HB1.out
      go_wp2_with fail
      refine (Tells.at HG1.out HB1.out).mono ?_
      rintro e W2 ⟨rfl, hb⟩
      clear v0 v1 v2 v3 x0 x1 x2
      have HB2 := Lib.hid (hb.trans' (below_alloc W2 (.cells #[.bool bO, .string bV, .int .i64 bL, .int .i64 bP] 23)))
      obtain ⟨WX2, hWX2⟩ : ∃ WX, W2.alloc (.cells #[.bool bO, .string bV, .int .i64 bL, .int .i64 bP] 23) = WX := ⟨_, rfl⟩
      rw [hWX2] at HB2
      clear hb
      obtain ⟨_, v0, v1, v2, v3, x0, x1, x2⟩ := HBV.out _ HB2.out
      go_wp2_with fail
      refine (Tells.at HG2.out HB2.out).mono ?_
      rintro e W3 ⟨rfl, hb⟩
      clear v0 v1 v2 v3 x0 x1 x2
      have HB3 := Lib.hid (hb.trans' (below_alloc W3 (.cells #[.bool bO, .string bV, .int .i64 bL, .int .i64 bP] 23)))
      obtain ⟨WX3, hWX3⟩ : ∃ WX, W3.alloc (.cells #[.bool bO, .string bV, .int .i64 bL, .int .i64 bP] 23) = WX := ⟨_, rfl⟩
      rw [hWX3] at HB3
      clear hb
      obtain ⟨_, v0, v1, v2, v3, x0, x1, x2⟩ := HBV.out _ HB3.out
      go_wp2_with fail
      refine (Tells.at HPK.out HB3.out).mono ?_
      rintro e W4 ⟨rfl, hb⟩
      clear v0 v1 v2 v3 x0 x1 x2
      have HB4 := Lib.hid hb
      clear hb
      obtain ⟨_, v0, v1, v2, v3, x0, x1, x2⟩ := HBV.out _ HB4.out
      go_wp2_with fail
      refine (Tells.at HRI.out HB4.out).mono ?_
      rintro e W5 ⟨rfl, hb⟩
      clear v0 v1 v2 v3 x0 x1 x2
      have HB5 := Lib.hid hb
      clear hb
      obtain ⟨_, v0, v1, v2, v3, x0, x1, x2⟩ := HBV.out _ HB5.out
      go_wp2_with fail
      refine (Tells.at HFX.out HB5.out).mono ?_
      rintro e WZ ⟨rfl, hb⟩
      go_wp2_with fail
      go_ret
      exact ⟨rfl, HBW.out.trans' hb⟩
  · rw [putV_no (fun h => hR h.2), hE] at HPV
    rw [decide_eq_false hR] at HRI
    clear hR
    rcases (show k < 1 ∨ (1 ≤ k ∧ k ≤ 4095) ∨ 4095 < k by omega) with hk | hk | hk
    · rw [putK_no (fun h => by have := h.1; omega), hE] at HPK
      have d1 : decide ((1 : Int) ≤ k) = false := decide_eq_false (by omega)
      clear hts HSAY hbad hbadk hMn hV hTs hx hE
      go_enter Try.func5, Try.ntmps5
      go_wp2_with fail
      refine (HCUT.out _).mono ?_
      rintro e w1 ⟨rfl, hb1⟩
      have L0 := HK0.out.below hb1
      have X0 := HX0.out.below hb1
      have hbL := hb0.trans' hb1
      clear hb1 HK0 HX0 hb0 HCUT hbA hbB
      obtain ⟨a0, a1, a2, a3⟩ := L0.cells
      obtain ⟨f0, f1, f2, f3⟩ := L0.free
      have K1 := set4_box L0 O V L P
      have X1 : Blk (w.heap.size + 1) #[.int .u16 (x : Int), .int .u8 (c8.toNat : Int), .int .i64 k] 46 (set4 w1 w.heap.size O V L P) := (set4_other (by omega) O V L P).trans X0
      have hbW := set4_below hbL (Nat.le_refl _) O V L P
      obtain ⟨WQ, hW⟩ : ∃ W, set4 w1 w.heap.size O V L P = W := ⟨_, rfl⟩
      rw [hW] at K1 X1 hbW
      unfold set4 at hW
      have hc := conv_new WQ [(c8.toNat : Int)] 47 5 9 Try.underlying47 Try.underlying5 Try.underlying9
      simp only [List.length_cons, List.length_nil, List.map_cons, List.map_nil, Nat.zero_add] at hc
      rw [show strOfNums [(c8.toNat : Int)] = ⟨#[c8]⟩ by simp [strOfNums], hM] at hc
      have HBV : Hid (∀ Z, Below WQ.heap.size WQ Z → Hid (Below WQ.heap.size WQ Z) ∧ Z.cell? ⟨w.heap.size, 0, none⟩ = some (.bool O) ∧ Z.cell? ⟨w.heap.size, 1, none⟩ = some (.string V) ∧ Z.cell? ⟨w.heap.size, 2, none⟩ = some (.int .i64 L) ∧ Z.cell? ⟨w.heap.size, 3, none⟩ = some (.int .i64 P) ∧ Z.cell? ⟨w.heap.size + 1, 0, none⟩ = some (.int .u16 (x : Int)) ∧ Z.cell? ⟨w.heap.size + 1, 1, none⟩ = some (.int .u8 (c8.toNat : Int)) ∧ Z.cell? ⟨w.heap.size + 1, 2, none⟩ = some (.int .i64 k)) := Lib.hid (fun Z hb => by
        obtain ⟨v0, v1, v2, v3⟩ := (K1.below hb).cells
        have hx := X1.below hb
        exact ⟨Lib.hid hb, v0, v1, v2, v3, hx.cell 0 _ rfl, hx.cell 1 _ rfl, hx.cell 2 _ rfl⟩)
      have HBW := Lib.hid hbW
      have HB0 := Lib.hid (below_alloc WQ (.cells #[.int .u8 (c8.toNat : Int)] 5))
      have y1 := X1.cell 1 _ rfl
      obtain ⟨W0, hW0⟩ : ∃ W, WQ.alloc (.cells #[.int .u8 (c8.toNat : Int)] 5) = W := ⟨_, rfl⟩
      rw [hW0] at HB0 hc
      clear L0 X0 hbL K1 X1 hbW
      obtain ⟨_, v0, v1, v2, v3, x0, x1, x2⟩ := HBV.out _ HB0.out
      go_wp2_with fail
      refine (Tells.at HPV.out HB0.out).mono ?_
      rintro e W1 ⟨rfl, hb⟩
      clear v0 v1 v2 v3 x0 x1 x2
      clear a0 a1 a2 a3 f0 f1 f2 f3 hW hc hW0 y1
      have HB1 := Lib.hid hb
      clear hb
      obtain ⟨_, v0, v1, v2, v3, x0, x1, x2⟩ := HBV.out _ HB1.out
      go_wp2_with fail
      refine (Tells.at HPK.out HB1.out).mono ?_
      rintro e W2 ⟨rfl, hb⟩
      clear v0 v1 v2 v3 x0 x1 x2
      have HB2 := Lib.hid hb
      clear hb
      obtain ⟨_, v0, v1, v2, v3, x0, x1, x2⟩ := HBV.out _ HB2.out
      go_wp2_with fail
      refine (Tells.at HRI.out HB2.out).mono ?_
      rintro e W3 ⟨rfl, hb⟩
      clear v0 v1 v2 v3 x0 x1 x2
      have HB3 := Lib.hid hb
      clear hb
      obtain ⟨_, v0, v1, v2, v3, x0, x1, x2⟩ := HBV.out _ HB3.out
      go_wp2_with fail
      refine (Tells.at HFX.out HB3.out).mono ?_
      rintro e WZ ⟨rfl, hb⟩
      go_wp2_with fail
      go_ret
      exact ⟨rfl, HBW.out.trans' hb⟩
    · obtain ⟨kk, hkk⟩ := Int.eq_ofNat_of_zero_le (show 0 ≤ k by omega)
      have hK : VP.OkK kk T.data.toList := ⟨by omega, by omega, by omega⟩
      rw [putK_yes (by rw [hkk]; exact hK), show k.toNat = kk by omega] at HPK
      have hkb := kid_bound (k := kk) (T := T) (by omega)
      have hk0 : 4 ≤ (kidS kk T).size := by rw [kidS_size]; omega
      obtain ⟨j, hj⟩ : ∃ j, x % (kidS kk T).size = j := ⟨_, rfl⟩
      have hj2 : j < (kidS kk T).size := by rw [← hj]; exact Nat.mod_lt _ (by omega)
      have HK1 := Lib.hid (HSAY.getK ((kidS kk T).extract 0 j) (by simp; omega))
      rw [take_list, kidS_list, VP.cellK_less _ _ _ hK (by rw [← kidS_list, list_size]; exact hj2), hbadk] at HK1
      have HK2 := Lib.hid (HSAY.getK (kidS kk T ++ M) (by rw [ByteArray.size_append]; omega))
      rw [more_list, kidS_list, VP.cellK_more _ _ _ hK hMn, hbadk] at HK2
      generalize kidS kk T = D at *
      have p1 : (x : Int).tmod (D.size : Int) = j := by rw [← hj]; rfl
      have p2 : (x : Int) % (D.size : Int) = j := by rw [← hj]; rfl
      have p3 : ¬ D.size = 0 := by omega
      have p4 : decide ((0 : Int) < D.size) = true := decide_eq_true (by omega)
      have p5 : decide (0 < D.size) = true := decide_eq_true (by omega)
      have p6 : (0 : Int) ≤ (j : Int) := by omega
      have p7 : (j : Int) ≤ D.size := by omega
      have p8 : ¬ 9223372036854775807 < D.size + M.size := by omega
      have p8' : ¬ (9223372036854775807 : Int) < (D.size : Int) + M.size := by omega
      have d1 : decide ((1 : Int) ≤ k) = true := decide_eq_true hk.1
      have d2 : decide (k ≤ 4095) = true := decide_eq_true hk.2
      clear hkb hk0 hK hkk hj hj2 hts HSAY hbad hbadk hMn hV hTs hx hE
      go_enter Try.func5, Try.ntmps5
      go_wp2_with fail
      refine (HCUT.out _).mono ?_
      rintro e w1 ⟨rfl, hb1⟩
      have L0 := HK0.out.below hb1
      have X0 := HX0.out.below hb1
      have hbL := hb0.trans' hb1
      clear hb1 HK0 HX0 hb0 HCUT hbA hbB
      obtain ⟨a0, a1, a2, a3⟩ := L0.cells
      obtain ⟨f0, f1, f2, f3⟩ := L0.free
      have K1 := set4_box L0 O V L P
      have X1 : Blk (w.heap.size + 1) #[.int .u16 (x : Int), .int .u8 (c8.toNat : Int), .int .i64 k] 46 (set4 w1 w.heap.size O V L P) := (set4_other (by omega) O V L P).trans X0
      have hbW := set4_below hbL (Nat.le_refl _) O V L P
      obtain ⟨WQ, hW⟩ : ∃ W, set4 w1 w.heap.size O V L P = W := ⟨_, rfl⟩
      rw [hW] at K1 X1 hbW
      unfold set4 at hW
      have hc := conv_new WQ [(c8.toNat : Int)] 47 5 9 Try.underlying47 Try.underlying5 Try.underlying9
      simp only [List.length_cons, List.length_nil, List.map_cons, List.map_nil, Nat.zero_add] at hc
      rw [show strOfNums [(c8.toNat : Int)] = ⟨#[c8]⟩ by simp [strOfNums], hM] at hc
      have HBV : Hid (∀ Z, Below WQ.heap.size WQ Z → Hid (Below WQ.heap.size WQ Z) ∧ Z.cell? ⟨w.heap.size, 0, none⟩ = some (.bool O) ∧ Z.cell? ⟨w.heap.size, 1, none⟩ = some (.string V) ∧ Z.cell? ⟨w.heap.size, 2, none⟩ = some (.int .i64 L) ∧ Z.cell? ⟨w.heap.size, 3, none⟩ = some (.int .i64 P) ∧ Z.cell? ⟨w.heap.size + 1, 0, none⟩ = some (.int .u16 (x : Int)) ∧ Z.cell? ⟨w.heap.size + 1, 1, none⟩ = some (.int .u8 (c8.toNat : Int)) ∧ Z.cell? ⟨w.heap.size + 1, 2, none⟩ = some (.int .i64 k)) := Lib.hid (fun Z hb => by
        obtain ⟨v0, v1, v2, v3⟩ := (K1.below hb).cells
        have hx := X1.below hb
        exact ⟨Lib.hid hb, v0, v1, v2, v3, hx.cell 0 _ rfl, hx.cell 1 _ rfl, hx.cell 2 _ rfl⟩)
      have HBW := Lib.hid hbW
      have HB0 := Lib.hid (below_alloc WQ (.cells #[.int .u8 (c8.toNat : Int)] 5))
      have y1 := X1.cell 1 _ rfl
      obtain ⟨W0, hW0⟩ : ∃ W, WQ.alloc (.cells #[.int .u8 (c8.toNat : Int)] 5) = W := ⟨_, rfl⟩
      rw [hW0] at HB0 hc
      clear L0 X0 hbL K1 X1 hbW
      obtain ⟨_, v0, v1, v2, v3, x0, x1, x2⟩ := HBV.out _ HB0.out
      go_wp2_with fail
      refine (Tells.at HPV.out HB0.out).mono ?_
      rintro e W1 ⟨rfl, hb⟩
      clear v0 v1 v2 v3 x0 x1 x2
      clear a0 a1 a2 a3 f0 f1 f2 f3 hW hc hW0 y1
      have HB1 := Lib.hid hb
      clear hb
      obtain ⟨_, v0, v1, v2, v3, x0, x1, x2⟩ := HBV.out _ HB1.out
      go_wp2_with fail
      refine (Tells.at HPK.out HB1.out).mono ?_
      rintro e W2 ⟨rfl, hb⟩
      clear v0 v1 v2 v3 x0 x1 x2
      have HB2 := Lib.hid hb
      clear hb
      obtain ⟨_, v0, v1, v2, v3, x0, x1, x2⟩ := HBV.out _ HB2.out
      go_wp2_with fail
      refine (Tells.at HK1.out HB2.out).mono ?_
      rintro e W3 ⟨rfl, hb⟩
      clear v0 v1 v2 v3 x0 x1 x2
      have HB3 := Lib.hid hb
      clear hb
      obtain ⟨_, v0, v1, v2, v3, x0, x1, x2⟩ := HBV.out _ HB3.out
      go_wp2_with fail
      refine (Tells.at HK2.out HB3.out).mono ?_
      rintro e W4 ⟨rfl, hb⟩
      clear v0 v1 v2 v3 x0 x1 x2
      have HB4 := Lib.hid hb
      clear hb
      obtain ⟨_, v0, v1, v2, v3, x0, x1, x2⟩ := HBV.out _ HB4.out
      go_wp2_with fail
      refine (Tells.at HRI.out HB4.out).mono ?_
      rintro e W5 ⟨rfl, hb⟩
      clear v0 v1 v2 v3 x0 x1 x2
      have HB5 := Lib.hid hb
      clear hb
      obtain ⟨_, v0, v1, v2, v3, x0, x1, x2⟩ := HBV.out _ HB5.out
      go_wp2_with fail
      refine (Tells.at HFX.out HB5.out).mono ?_
      rintro e WZ ⟨rfl, hb⟩
      go_wp2_with fail
      go_ret
      exact ⟨rfl, HBW.out.trans' hb⟩
    · rw [putK_no (fun h => by have := h.2.1; omega), hE] at HPK
      have d1 : decide ((1 : Int) ≤ k) = true := decide_eq_true (by omega)
      have d2 : decide (k ≤ 4095) = false := decide_eq_false (by omega)
      clear hts HSAY hbad hbadk hMn hV hTs hx hE
      go_enter Try.func5, Try.ntmps5
      go_wp2_with fail
      refine (HCUT.out _).mono ?_
      rintro e w1 ⟨rfl, hb1⟩
      have L0 := HK0.out.below hb1
      have X0 := HX0.out.below hb1
      have hbL := hb0.trans' hb1
      clear hb1 HK0 HX0 hb0 HCUT hbA hbB
      obtain ⟨a0, a1, a2, a3⟩ := L0.cells
      obtain ⟨f0, f1, f2, f3⟩ := L0.free
      have K1 := set4_box L0 O V L P
      have X1 : Blk (w.heap.size + 1) #[.int .u16 (x : Int), .int .u8 (c8.toNat : Int), .int .i64 k] 46 (set4 w1 w.heap.size O V L P) := (set4_other (by omega) O V L P).trans X0
      have hbW := set4_below hbL (Nat.le_refl _) O V L P
      obtain ⟨WQ, hW⟩ : ∃ W, set4 w1 w.heap.size O V L P = W := ⟨_, rfl⟩
      rw [hW] at K1 X1 hbW
      unfold set4 at hW
      have hc := conv_new WQ [(c8.toNat : Int)] 47 5 9 Try.underlying47 Try.underlying5 Try.underlying9
      simp only [List.length_cons, List.length_nil, List.map_cons, List.map_nil, Nat.zero_add] at hc
      rw [show strOfNums [(c8.toNat : Int)] = ⟨#[c8]⟩ by simp [strOfNums], hM] at hc
      have HBV : Hid (∀ Z, Below WQ.heap.size WQ Z → Hid (Below WQ.heap.size WQ Z) ∧ Z.cell? ⟨w.heap.size, 0, none⟩ = some (.bool O) ∧ Z.cell? ⟨w.heap.size, 1, none⟩ = some (.string V) ∧ Z.cell? ⟨w.heap.size, 2, none⟩ = some (.int .i64 L) ∧ Z.cell? ⟨w.heap.size, 3, none⟩ = some (.int .i64 P) ∧ Z.cell? ⟨w.heap.size + 1, 0, none⟩ = some (.int .u16 (x : Int)) ∧ Z.cell? ⟨w.heap.size + 1, 1, none⟩ = some (.int .u8 (c8.toNat : Int)) ∧ Z.cell? ⟨w.heap.size + 1, 2, none⟩ = some (.int .i64 k)) := Lib.hid (fun Z hb => by
        obtain ⟨v0, v1, v2, v3⟩ := (K1.below hb).cells
        have hx := X1.below hb
        exact ⟨Lib.hid hb, v0, v1, v2, v3, hx.cell 0 _ rfl, hx.cell 1 _ rfl, hx.cell 2 _ rfl⟩)
      have HBW := Lib.hid hbW
      have HB0 := Lib.hid (below_alloc WQ (.cells #[.int .u8 (c8.toNat : Int)] 5))
      have y1 := X1.cell 1 _ rfl
      obtain ⟨W0, hW0⟩ : ∃ W, WQ.alloc (.cells #[.int .u8 (c8.toNat : Int)] 5) = W := ⟨_, rfl⟩
      rw [hW0] at HB0 hc
      clear L0 X0 hbL K1 X1 hbW
      obtain ⟨_, v0, v1, v2, v3, x0, x1, x2⟩ := HBV.out _ HB0.out
      go_wp2_with fail
      refine (Tells.at HPV.out HB0.out).mono ?_
      rintro e W1 ⟨rfl, hb⟩
      clear v0 v1 v2 v3 x0 x1 x2
      clear a0 a1 a2 a3 f0 f1 f2 f3 hW hc hW0 y1
      have HB1 := Lib.hid hb
      clear hb
      obtain ⟨_, v0, v1, v2, v3, x0, x1, x2⟩ := HBV.out _ HB1.out
      go_wp2_with fail
      refine (Tells.at HPK.out HB1.out).mono ?_
      rintro e W2 ⟨rfl, hb⟩
      clear v0 v1 v2 v3 x0 x1 x2
      have HB2 := Lib.hid hb
      clear hb
      obtain ⟨_, v0, v1, v2, v3, x0, x1, x2⟩ := HBV.out _ HB2.out
      go_wp2_with fail
      refine (Tells.at HRI.out HB2.out).mono ?_
      rintro e W3 ⟨rfl, hb⟩
      clear v0 v1 v2 v3 x0 x1 x2
      have HB3 := Lib.hid hb
      clear hb
      obtain ⟨_, v0, v1, v2, v3, x0, x1, x2⟩ := HBV.out _ HB3.out
      go_wp2_with fail
      refine (Tells.at HFX.out HB3.out).mono ?_
      rintro e WZ ⟨rfl, hb⟩
      go_wp2_with fail
      go_ret
      exact ⟨rfl, HBW.out.trans' hb⟩
end Go.Proofs.Ytppnchjmbeinkaa
