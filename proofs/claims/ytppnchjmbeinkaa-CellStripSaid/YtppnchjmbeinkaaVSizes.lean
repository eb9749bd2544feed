/-
  The walk of the law CellSizes. Written by wip/gen_vsizes.py.
-/
import Derived.Test.YtppnchjmbeinkaaVCut
namespace Go.Proofs.Ytppnchjmbeinkaa
open Go.RowKit
set_option linter.unusedVariables false
set_option linter.unusedSimpArgs false

theorem putS_size (n : Nat) : (⟨(WP.put n).toArray⟩ : ByteArray).size = (WP.put n).length := bytes_size _
theorem kidS_size (k : Nat) (t : ByteArray) : (kidS k t).size = (WP.put t.size).length + t.size + 4 := by
  simp [kidS, bytes_size, VP.cellK, VP.text, Lib.leBytes_length]
  omega
theorem cellS_size_text (t S : ByteArray) (L P : Int) : (cellS t (pv false S L P)).size = (WP.put t.size).length + t.size + 1 + (WP.put S.size).length + S.size := by
  simp [cellS, bytes_size, VP.cellV, VP.text, VP.tail, pv]
  omega
theorem cellS_size_over (t S : ByteArray) (l p : Nat) : (cellS t (pv true S l p)).size = (WP.put t.size).length + t.size + 1 + (WP.put l).length + 4 := by
  simp [cellS, bytes_size, VP.cellV, VP.text, VP.tail, pv, Lib.leBytes_length]
  omega

set_option maxHeartbeats 4000000 in
set_option maxRecDepth 100000 in
theorem cellSizes_walk (HSAY : Says) (X : ByteArray) (O : Bool) (S : ByteArray) (L P : Int) (k : Int) (w : World) (wx : X.size ≤ maxLen) (ws : S.size ≤ maxLen) :
    Calls Try.prog 7 #[.string X, vv O S L P, .int .i64 k] w fun e w' => e = .returned (.bool true) ∧ Below w.heap.size w w' := by
  have HSAYS := Lib.hid HSAY
  have HFX := Lib.hid (fun W => fixed_any HSAY W)
  have hb0 := below_alloc w (.cells #[.bool O, .string S, .int .i64 L, .int .i64 P] 23)
  have HK0 := Lib.hid (Bx.new 23 O S L P w)
  have HCUT := Lib.hid (fun W => vcut_any O S L P W ws)
  have hV := cutV_size S
  unfold maxLen at wx
  obtain ⟨m, hm, hm6, hms, hmm, hfs⟩ := cut_min X 128 (by omega)
  obtain ⟨T, hT⟩ : ∃ T, X.extract 0 m = T := ⟨_, rfl⟩
  rw [hT] at hfs
  have hTs : T.size ≤ 128 := by omega
  clear hfs HSAY ws
  generalize cutV S = V at *
  have HPV := Lib.hid (fun W => HSAYS.out.putV T O V L P (by omega) (by omega) W)
  have HPT := Lib.hid (fun W => rput_any (T.size : Int) W (by omega) (by omega))
  have hDs := wput_size T.size (by omega)
  rw [Int.toNat_natCast] at HPT
  have hzz := (putS_size T.size).symm
  obtain ⟨D, hD⟩ : ∃ D : ByteArray, ⟨(WP.put T.size).toArray⟩ = D := ⟨_, rfl⟩
  rw [hD] at HPT hDs hzz
  have a1 : IntKind.u64.wrap (T.size : Int) = T.size := Int.emod_eq_of_lt (by omega) (by show (T.size : Int) < 18446744073709551616; omega)
  obtain ⟨n, hn⟩ : ∃ n, D.size + T.size = n := ⟨_, rfl⟩
  have q1 : IntKind.i64.wrap ((D.size : Int) + T.size) = n := by rw [show (D.size : Int) + T.size = n by omega]; exact IntWalk.i64_in _ (by omega)
  obtain ⟨n4, hn4⟩ : ∃ m, n + 4 = m := ⟨_, rfl⟩
  have q3 : IntKind.i64.wrap ((n : Int) + 4) = n4 := by rw [show (n : Int) + 4 = n4 by omega]; exact IntWalk.i64_in _ (by omega)
  have hn4 : D.size + T.size + 4 = n4 := by omega
  obtain ⟨n1, hn1⟩ : ∃ m, n + 1 = m := ⟨_, rfl⟩
  have q5 : IntKind.i64.wrap ((n : Int) + 1) = n1 := by rw [show (n : Int) + 1 = n1 by omega]; exact IntWalk.i64_in _ (by omega)
  have hnb : n1 ≤ 1000 := by omega
  clear hD
  by_cases hOk : VP.OkV T.data.toList (pv O V L P)
  · have e1 : putVV T (pv O V L P) = .tuple #[.string (cellS T (pv O V L P)), .int .i64 0] := if_pos hOk
    rw [e1] at HPV
    cases O with
    | true =>
      obtain ⟨hS, hL1, hL2, hP1, hP2⟩ := (right_over V L P).1 hOk.2
      obtain ⟨l, rfl⟩ := Int.eq_ofNat_of_zero_le (show 0 ≤ L by omega)
      obtain ⟨p, rfl⟩ := Int.eq_ofNat_of_zero_le (show 0 ≤ P by omega)
      have hcs := cellS_size_over T V l p
      rw [hzz, ← putS_size l] at hcs
      have HPL := Lib.hid (fun W => rput_any (l : Int) W (by omega) (by omega))
      have hEs := wput_size l (by omega)
      rw [Int.toNat_natCast] at HPL
      obtain ⟨E, hE⟩ : ∃ E : ByteArray, ⟨(WP.put l).toArray⟩ = E := ⟨_, rfl⟩
      rw [hE] at HPL hEs hcs
      obtain ⟨C, hC⟩ : ∃ C, cellS T (pv true V l p) = C := ⟨_, rfl⟩
      rw [hC] at HPV hcs
      have a2 : IntKind.u64.wrap (l : Int) = l := Int.emod_eq_of_lt (by omega) (by show (l : Int) < 18446744073709551616; omega)
      obtain ⟨n2, hn2⟩ : ∃ m, n1 + E.size = m := ⟨_, rfl⟩
      have q7 : IntKind.i64.wrap ((n1 : Int) + E.size) = n2 := by rw [show (n1 : Int) + E.size = n2 by omega]; exact IntWalk.i64_in _ (by omega)
      obtain ⟨n3, hn3⟩ : ∃ m, n2 + 4 = m := ⟨_, rfl⟩
      have q9 : IntKind.i64.wrap ((n2 : Int) + 4) = n3 := by rw [show (n2 : Int) + 4 = n3 by omega]; exact IntWalk.i64_in _ (by omega)
      have HCN : C.size = n3 := by omega
      have hKeep := vbox_keep 23 w.heap.size true V l p
      clear hE hC hcs e1 hOk hS hn2 hn3 hn1 hEs
      go_enter Try.func7, Try.ntmps7
      go_wp2_with fail
      refine (HCUT.out _).mono ?_
      rintro e w1 ⟨rfl, hb1⟩
      have L0 := HK0.out.below hb1
      have hbL := hb0.trans' hb1
      clear hb1 HK0 hb0 HCUT
      obtain ⟨a0, a1, a2, a3⟩ := L0.cells
      obtain ⟨b0, b1, b2, b3⟩ := L0.free
      have K1 := set4_box L0 true V (l : Int) (p : Int)
      have hbW := set4_below hbL (Nat.le_refl _) true V (l : Int) (p : Int)
      obtain ⟨W, hW⟩ : ∃ W, set4 w1 w.heap.size true V (l : Int) (p : Int) = W := ⟨_, rfl⟩
      rw [hW] at K1 hbW
      unfold set4 at hW
      obtain ⟨k0, k1, k2, k3⟩ := K1.cells
      have HBW := Lib.hid hbW
      have HK1 := Lib.hid K1
      clear L0 hbL K1 hbW
      go_wp2_with fail
      refine (HPV.out _).mono ?_
      rintro e w2 ⟨rfl, hb2⟩
      have HK2 := Lib.hid (HK1.out.below hb2)
      have HB2 := Lib.hid (HBW.out.trans' hb2)
      clear hb2 HK1 HBW a0 a1 a2 a3 b0 b1 b2 b3 hW k0 k1 k2 k3
      go_wp2_with fail
      refine (HPT.out _).mono ?_
      rintro e w3 ⟨rfl, hb3⟩
      have HK3 := Lib.hid (HK2.out.below hb3)
      have HB3 := Lib.hid (HB2.out.trans' hb3)
      clear hb3 HK2 HB2
      obtain ⟨k0, k1, k2, k3⟩ := HK3.out.cells
      have hG0 := (⟨HK3, k0, k1, k2, k3⟩ : Hid (Bx 23 w.heap.size true V (l : Int) (p : Int) w3) ∧ w3.cell? ⟨w.heap.size, 0, none⟩ = some (.bool true) ∧ w3.cell? ⟨w.heap.size, 1, none⟩ = some (.string V) ∧ w3.cell? ⟨w.heap.size, 2, none⟩ = some (.int .i64 (l : Int)) ∧ w3.cell? ⟨w.heap.size, 3, none⟩ = some (.int .i64 (p : Int)))
      have HPLV := Lib.hid (fun W => rput_any (V.size : Int) W (by omega) (by omega))
      have hE2 := wput_size V.size (by omega)
      rw [Int.toNat_natCast] at HPLV
      obtain ⟨E2, hE2e⟩ : ∃ E : ByteArray, ⟨(WP.put V.size).toArray⟩ = E := ⟨_, rfl⟩
      rw [hE2e] at HPLV hE2
      have a3 : IntKind.u64.wrap (V.size : Int) = V.size := Int.emod_eq_of_lt (by omega) (by show (V.size : Int) < 18446744073709551616; omega)
      obtain ⟨m2, hm2⟩ : ∃ m, n1 + E2.size = m := ⟨_, rfl⟩
      have q12 : IntKind.i64.wrap ((n1 : Int) + E2.size) = m2 := by rw [show (n1 : Int) + E2.size = m2 by omega]; exact IntWalk.i64_in _ (by omega)
      obtain ⟨m3, hm3⟩ : ∃ m, m2 + V.size = m := ⟨_, rfl⟩
      have q14 : IntKind.i64.wrap ((m2 : Int) + V.size) = m3 := by rw [show (m2 : Int) + V.size = m3 by omega]; exact IntWalk.i64_in _ (by omega)
      clear hE2e hm2 hm3 hE2
      go_wp2_with fail
      go_region_held3 (fun Z => Hid (Bx 23 w.heap.size true V (l : Int) (p : Int) Z) ∧ Z.cell? ⟨w.heap.size, 0, none⟩ = some (.bool true) ∧ Z.cell? ⟨w.heap.size, 1, none⟩ = some (.string V) ∧ Z.cell? ⟨w.heap.size, 2, none⟩ = some (.int .i64 (l : Int)) ∧ Z.cell? ⟨w.heap.size, 3, none⟩ = some (.int .i64 (p : Int)))
        (first | assumption | exact hG0 | exact hKeep.out _ _ (by assumption) (by assumption))
        (first
          | (go_at_call 22; refine (HPLV.out _).mono ?_; rintro e w4 ⟨rfl, hb4⟩)
          | fail "no arm")
      have hb4' := below_of_drew hb4
      have HK4 := Lib.hid (HK3.out.below hb4')
      have HB4 := Lib.hid (HB3.out.trans' hb4')
      clear hb4 hb4' hG0 HK3 HB3 k0 k1 k2 k3
      obtain ⟨k0, k1, k2, k3⟩ := HK4.out.cells
      go_wp2_with fail
      refine (HPL.out _).mono ?_
      rintro e w5 ⟨rfl, hb5⟩
      have HB5 := Lib.hid (HB4.out.trans' hb5)
      clear hb5 HB4 HK4 k0 k1 k2 k3
      by_cases hK : VP.OkK k T.data.toList
      · have e2 : putKV k T = .tuple #[.string (kidS k.toNat T), .int .i64 0] := if_pos hK
        have HPK := Lib.hid (fun W => HSAYS.out.putK k T (by omega) W)
        rw [e2] at HPK
        have hKs := kidS_size k.toNat T
        rw [hzz] at hKs
        obtain ⟨C2, hC2⟩ : ∃ C, kidS k.toNat T = C := ⟨_, rfl⟩
        rw [hC2] at hKs HPK
        have hC4 : C2.size = n4 := by omega
        clear e2 hK hC2 hKs
        go_wp2_with fail
        refine (HPK.out _).mono ?_
        rintro e w9 ⟨rfl, hb9⟩
        go_wp2_with fail
        refine (HFX.out _).mono ?_
        rintro e w10 ⟨rfl, hb10⟩
        go_wp2_with fail
        go_ret
        exact ⟨rfl, (HB5.out.trans' hb9).trans' hb10⟩
      · have e2 : putKV k T = .tuple #[.string ⟨#[]⟩, .int .i64 3] := if_neg hK
        have HPK := Lib.hid (fun W => HSAYS.out.putK k T (by omega) W)
        rw [e2] at HPK
        clear e2 hK
        go_wp2_with fail
        refine (HPK.out _).mono ?_
        rintro e w9 ⟨rfl, hb9⟩
        go_wp2_with fail
        refine (HFX.out _).mono ?_
        rintro e w10 ⟨rfl, hb10⟩
        go_wp2_with fail
        go_ret
        exact ⟨rfl, (HB5.out.trans' hb9).trans' hb10⟩
    | false =>
      obtain ⟨hS, rfl, rfl⟩ := (right_text V L P).1 hOk.2
      have hcs := cellS_size_text T V 0 0
      rw [hzz, ← putS_size V.size] at hcs
      have HPLV := Lib.hid (fun W => rput_any (V.size : Int) W (by omega) (by omega))
      have hE2 := wput_size V.size (by omega)
      rw [Int.toNat_natCast] at HPLV
      obtain ⟨E2, hE2e⟩ : ∃ E : ByteArray, ⟨(WP.put V.size).toArray⟩ = E := ⟨_, rfl⟩
      rw [hE2e] at HPLV hE2 hcs
      obtain ⟨C, hC⟩ : ∃ C, cellS T (pv false V 0 0) = C := ⟨_, rfl⟩
      rw [hC] at HPV hcs
      have a3 : IntKind.u64.wrap (V.size : Int) = V.size := Int.emod_eq_of_lt (by omega) (by show (V.size : Int) < 18446744073709551616; omega)
      obtain ⟨m2, hm2⟩ : ∃ m, n1 + E2.size = m := ⟨_, rfl⟩
      have q12 : IntKind.i64.wrap ((n1 : Int) + E2.size) = m2 := by rw [show (n1 : Int) + E2.size = m2 by omega]; exact IntWalk.i64_in _ (by omega)
      obtain ⟨m3, hm3⟩ : ∃ m, m2 + V.size = m := ⟨_, rfl⟩
      have q14 : IntKind.i64.wrap ((m2 : Int) + V.size) = m3 := by rw [show (m2 : Int) + V.size = m3 by omega]; exact IntWalk.i64_in _ (by omega)
      have HCN : C.size = m3 := by omega
      have hKeep := vbox_keep 23 w.heap.size false V 0 0
      clear hE2e hE2 hC hcs e1 hOk hS hm2 hm3 hn1
      go_enter Try.func7, Try.ntmps7
      go_wp2_with fail
      refine (HCUT.out _).mono ?_
      rintro e w1 ⟨rfl, hb1⟩
      have L0 := HK0.out.below hb1
      have hbL := hb0.trans' hb1
      clear hb1 HK0 hb0 HCUT
      obtain ⟨a0, a1, a2, a3⟩ := L0.cells
      obtain ⟨b0, b1, b2, b3⟩ := L0.free
      have K1 := set4_box L0 false V 0 0
      have hbW := set4_below hbL (Nat.le_refl _) false V 0 0
      obtain ⟨W, hW⟩ : ∃ W, set4 w1 w.heap.size false V 0 0 = W := ⟨_, rfl⟩
      rw [hW] at K1 hbW
      unfold set4 at hW
      obtain ⟨k0, k1, k2, k3⟩ := K1.cells
      have HBW := Lib.hid hbW
      have HK1 := Lib.hid K1
      clear L0 hbL K1 hbW
      go_wp2_with fail
      refine (HPV.out _).mono ?_
      rintro e w2 ⟨rfl, hb2⟩
      have HK2 := Lib.hid (HK1.out.below hb2)
      have HB2 := Lib.hid (HBW.out.trans' hb2)
      clear hb2 HK1 HBW a0 a1 a2 a3 b0 b1 b2 b3 hW k0 k1 k2 k3
      go_wp2_with fail
      refine (HPT.out _).mono ?_
      rintro e w3 ⟨rfl, hb3⟩
      have HK3 := Lib.hid (HK2.out.below hb3)
      have HB3 := Lib.hid (HB2.out.trans' hb3)
      clear hb3 HK2 HB2
      obtain ⟨k0, k1, k2, k3⟩ := HK3.out.cells
      have hG0 := (⟨HK3, k0, k1, k2, k3⟩ : Hid (Bx 23 w.heap.size false V 0 0 w3) ∧ w3.cell? ⟨w.heap.size, 0, none⟩ = some (.bool false) ∧ w3.cell? ⟨w.heap.size, 1, none⟩ = some (.string V) ∧ w3.cell? ⟨w.heap.size, 2, none⟩ = some (.int .i64 0) ∧ w3.cell? ⟨w.heap.size, 3, none⟩ = some (.int .i64 0))
      go_wp2_with fail
      go_region_held3 (fun Z => Hid (Bx 23 w.heap.size false V 0 0 Z) ∧ Z.cell? ⟨w.heap.size, 0, none⟩ = some (.bool false) ∧ Z.cell? ⟨w.heap.size, 1, none⟩ = some (.string V) ∧ Z.cell? ⟨w.heap.size, 2, none⟩ = some (.int .i64 0) ∧ Z.cell? ⟨w.heap.size, 3, none⟩ = some (.int .i64 0))
        (first | assumption | exact hG0 | exact hKeep.out _ _ (by assumption) (by assumption))
        (first
          | (go_at_call 22; refine (HPLV.out _).mono ?_; rintro e w4 ⟨rfl, hb4⟩)
          | fail "no arm")
      have hb4' := below_of_drew hb4
      have HK4 := Lib.hid (HK3.out.below hb4')
      have HB4 := Lib.hid (HB3.out.trans' hb4')
      clear hb4 hb4' hG0 HK3 HB3 k0 k1 k2 k3
      obtain ⟨k0, k1, k2, k3⟩ := HK4.out.cells
      clear HK4
      by_cases hK : VP.OkK k T.data.toList
      · have e2 : putKV k T = .tuple #[.string (kidS k.toNat T), .int .i64 0] := if_pos hK
        have HPK := Lib.hid (fun W => HSAYS.out.putK k T (by omega) W)
        rw [e2] at HPK
        have hKs := kidS_size k.toNat T
        rw [hzz] at hKs
        obtain ⟨C2, hC2⟩ : ∃ C, kidS k.toNat T = C := ⟨_, rfl⟩
        rw [hC2] at hKs HPK
        have hC4 : C2.size = n4 := by omega
        clear e2 hK hC2 hKs
        go_wp2_with fail
        refine (HPK.out _).mono ?_
        rintro e w9 ⟨rfl, hb9⟩
        go_wp2_with fail
        refine (HFX.out _).mono ?_
        rintro e w10 ⟨rfl, hb10⟩
        go_wp2_with fail
        go_ret
        exact ⟨rfl, (HB4.out.trans' hb9).trans' hb10⟩
      · have e2 : putKV k T = .tuple #[.string ⟨#[]⟩, .int .i64 3] := if_neg hK
        have HPK := Lib.hid (fun W => HSAYS.out.putK k T (by omega) W)
        rw [e2] at HPK
        clear e2 hK
        go_wp2_with fail
        refine (HPK.out _).mono ?_
        rintro e w9 ⟨rfl, hb9⟩
        go_wp2_with fail
        refine (HFX.out _).mono ?_
        rintro e w10 ⟨rfl, hb10⟩
        go_wp2_with fail
        go_ret
        exact ⟨rfl, (HB4.out.trans' hb9).trans' hb10⟩
  · have e1 : putVV T (pv O V L P) = .tuple #[.string ⟨#[]⟩, .int .i64 3] := if_neg hOk
    rw [e1] at HPV
    clear e1 hOk hn1
    go_enter Try.func7, Try.ntmps7
    go_wp2_with fail
    refine (HCUT.out _).mono ?_
    rintro e w1 ⟨rfl, hb1⟩
    have L0 := HK0.out.below hb1
    have hbL := hb0.trans' hb1
    clear hb1 HK0 hb0 HCUT
    obtain ⟨a0, a1, a2, a3⟩ := L0.cells
    obtain ⟨b0, b1, b2, b3⟩ := L0.free
    have K1 := set4_box L0 O V L P
    have hbW := set4_below hbL (Nat.le_refl _) O V L P
    obtain ⟨W, hW⟩ : ∃ W, set4 w1 w.heap.size O V L P = W := ⟨_, rfl⟩
    rw [hW] at K1 hbW
    unfold set4 at hW
    obtain ⟨k0, k1, k2, k3⟩ := K1.cells
    have HBW := Lib.hid hbW
    have HK1 := Lib.hid K1
    clear L0 hbL K1 hbW
    go_wp2_with fail
    refine (HPV.out _).mono ?_
    rintro e w2 ⟨rfl, hb2⟩
    have HK2 := Lib.hid (HK1.out.below hb2)
    have HB2 := Lib.hid (HBW.out.trans' hb2)
    clear hb2 HK1 HBW a0 a1 a2 a3 b0 b1 b2 b3 hW k0 k1 k2 k3
    go_wp2_with fail
    refine (HPT.out _).mono ?_
    rintro e w3 ⟨rfl, hb3⟩
    have HK3 := Lib.hid (HK2.out.below hb3)
    have HB3 := Lib.hid (HB2.out.trans' hb3)
    clear hb3 HK2 HB2
    obtain ⟨k0, k1, k2, k3⟩ := HK3.out.cells
    clear HK3 k0 k1 k2 k3
    by_cases hK : VP.OkK k T.data.toList
    · have e2 : putKV k T = .tuple #[.string (kidS k.toNat T), .int .i64 0] := if_pos hK
      have HPK := Lib.hid (fun W => HSAYS.out.putK k T (by omega) W)
      rw [e2] at HPK
      have hKs := kidS_size k.toNat T
      rw [hzz] at hKs
      obtain ⟨C2, hC2⟩ : ∃ C, kidS k.toNat T = C := ⟨_, rfl⟩
      rw [hC2] at hKs HPK
      have hC4 : C2.size = n4 := by omega
      clear e2 hK hC2 hKs
      go_wp2_with fail
      refine (HPK.out _).mono ?_
      rintro e w9 ⟨rfl, hb9⟩
      go_wp2_with fail
      refine (HFX.out _).mono ?_
      rintro e w10 ⟨rfl, hb10⟩
      go_wp2_with fail
      go_ret
      exact ⟨rfl, (HB3.out.trans' hb9).trans' hb10⟩
    · have e2 : putKV k T = .tuple #[.string ⟨#[]⟩, .int .i64 3] := if_neg hK
      have HPK := Lib.hid (fun W => HSAYS.out.putK k T (by omega) W)
      rw [e2] at HPK
      clear e2 hK
      go_wp2_with fail
      refine (HPK.out _).mono ?_
      rintro e w9 ⟨rfl, hb9⟩
      go_wp2_with fail
      refine (HFX.out _).mono ?_
      rintro e w10 ⟨rfl, hb10⟩
      go_wp2_with fail
      go_ret
      exact ⟨rfl, (HB3.out.trans' hb9).trans' hb10⟩
end Go.Proofs.Ytppnchjmbeinkaa
