/-
  The walk of the law KeyMore.
-/
import Derived.Test.YtdcijbclafpkmaaDoorKMore
import Derived.Test.YtdcijbclafpkmaaDoorCCut
namespace Go.Proofs.YtdcijbclafpkmaaDoor
open Go.RowKit
set_option linter.unusedVariables false
set_option linter.unusedSimpArgs false

theorem eqb_no {P Q : ByteArray} {x y : List UInt8} (hx : P.data.toList = x) (hy : Q.data.toList = y) (h : x ≠ y) : (P.toList == Q.toList) = false := by
  rw [Lib.toList_data, Lib.toList_data, hx, hy]
  exact beq_eq_false_iff_ne.2 h
theorem lessb {P Q : ByteArray} {x y : List UInt8} (hx : P.data.toList = x) (hy : Q.data.toList = y) {b : Bool} (h : Op.bytesLess x y = b) : Op.bytesLess P.toList Q.toList = b := by
  rw [Lib.toList_data, Lib.toList_data, hx, hy]
  exact h

set_option maxHeartbeats 2000000 in
set_option maxRecDepth 100000 in
theorem keyMore_walk (A : Option Addr) (l : List QC) (ca : Nat) (A' : Option Addr) (l' : List QC) (ca' : Nat) (K I U : Int) (S : ByteArray) (w : World) (M : MaxIs w)
    (hA : Lies w w.heap.size A l) (hok : ∀ c ∈ l, CP.Ok c.col) (hs : ∀ c ∈ l, c.s.size ≤ maxLen) (hl : l.length ≤ maxLen)
    (hA' : Lies w w.heap.size A' l') (hok' : ∀ c ∈ l', CP.Ok c.col) (hs' : ∀ c ∈ l', c.s.size ≤ maxLen) (hl' : l'.length ≤ maxLen) (ho : CP.Ok ⟨K, I, U, S.data.toList⟩) (hS : S.size ≤ maxLen) :
    Calls Tryd.prog 8 #[.slice A l.length ca, .slice A' l'.length ca', .agg #[.int .i64 K, .int .i64 I, .int .u64 U, .string S]] w fun e w' => e = .returned (.bool true) ∧ Below w.heap.size w w' := by
  obtain ⟨i0, hi, hz0, hz1, hz2⟩ := info_parts Tryd.infoQCol
  obtain ⟨m, hm⟩ : ∃ m, m = cut8 l := ⟨_, rfl⟩
  have hsm : Small m := by rw [hm]; exact cut8_small l hok
  have hml : m.length ≤ 8 := by rw [hm, cut8_length]; omega
  obtain ⟨q, hq⟩ : ∃ q, q = cut8 l' := ⟨_, rfl⟩
  have hsq : Small q := by rw [hq]; exact cut8_small l' hok'
  have hql : q.length ≤ 8 := by rw [hq, cut8_length]; omega
  obtain ⟨c, hc⟩ : ∃ c, c = cutQ ⟨K, I, U, S⟩ := ⟨_, rfl⟩
  have hcs : CP.Ok c.col ∧ c.s.size ≤ 60 := by rw [hc]; exact cutQ_one _ ho
  have HCUT : Hid (∀ W, MaxIs W → Below w.heap.size w W → Calls Tryd.prog 9 #[.slice A l.length ca] W fun e w' => ∃ g cap : Nat, e = .returned (.slice (some ⟨g, 0, none⟩) m.length cap) ∧ m.length ≤ cap ∧ w'.ownsRow W.heap.size 51 4 (.slice (some ⟨g, 0, none⟩) m.length cap) m.length (fours m) ∧ Below W.heap.size W w' ∧ MaxIs w') := Lib.hid (fun W MW hW => kcutg MW ((hA.below hW).more hW.size) hs hl m hm)
  have HCUT' : Hid (∀ W, MaxIs W → Below w.heap.size w W → Calls Tryd.prog 9 #[.slice A' l'.length ca'] W fun e w' => ∃ G cap, e = .returned (.slice G q.length cap) ∧ q.length ≤ cap ∧ Lies w' w'.heap.size G q ∧ Below W.heap.size W w' ∧ MaxIs w') := Lib.hid (fun W MW hW => kcut MW ((hA'.below hW).more hW.size) hs' hl' q hq)
  have HCUTC : Hid (∀ W, MaxIs W → Calls Tryd.prog 9 #[.slice (some ⟨W.heap.size, 0, none⟩) 1 1] (W.alloc (.cells #[.int .i64 K, .int .i64 I, .int .u64 U, .string S] 51)) fun e w' => ∃ g cap : Nat, e = .returned (.slice (some ⟨g, 0, none⟩) 1 cap) ∧ 1 ≤ cap ∧ w'.ownsRow (W.alloc (.cells #[.int .i64 K, .int .i64 I, .int .u64 U, .string S] 51)).heap.size 51 4 (.slice (some ⟨g, 0, none⟩) 1 cap) 1 (fours [c]) ∧ Below (W.alloc (.cells #[.int .i64 K, .int .i64 I, .int .u64 U, .string S] 51)).heap.size (W.alloc (.cells #[.int .i64 K, .int .i64 I, .int .u64 U, .string S] 51)) w' ∧ MaxIs w') := Lib.hid (fun W MW =>
    kcutg (l := [⟨K, I, U, S⟩]) (MW.alloc _) (lies_new W 51 [⟨K, I, U, S⟩]) (fun d hd => by simp at hd; subst hd; exact hS) (by simp [maxLen]) [c] (by rw [hc]; rfl))
  have HF := Lib.hid fixed4_tells
  have BX0 := Lib.hid (Box.new K I U S w)
  have M0 := M.alloc (.cells #[.int .i64 K, .int .i64 I, .int .u64 U, .string S] 51)
  have L0 : Below w.heap.size w (w.alloc (.cells #[.int .i64 K, .int .i64 I, .int .u64 U, .string S] 51)) := below_alloc _ _
  generalize l.length = n at *
  generalize l'.length = n' at *
  clear hA hok hs hl hA' hok' hs' hl' hm hq M ho hS hc
  go_enter Tryd.func8, Tryd.ntmps8
  go_wp2_with fail
  refine (HCUT.out _ M0 L0).mono ?_
  rintro e w1 ⟨g1, cap1, rfl, hcap1, hown1, hb1, M1⟩
  have L1 := L0.trans' hb1
  have BX1 := Lib.hid (BX0.out.below hb1)
  have HO1 := Lib.hid hown1
  clear HCUT hcap1 M0 L0 BX0 hb1 hown1
  go_wp2_with fail
  refine (HCUT'.out _ M1 L1).mono ?_
  rintro e w2 ⟨G', cap', rfl, hcap', hL', hb2, M2⟩
  have HLq := Lib.hid hL'
  have HO2 := Lib.hid (own4_below HO1.out hb2)
  have L2 := L1.trans' hb2
  have BX2 := Lib.hid (BX1.out.below hb2)
  clear HCUT' hL' M1 L1 BX1 hb2 HO1
  have HLm := Lib.hid (lies_own HO2.out rfl)
  have HNL := Lib.hid (fours_length m)
  have HFC := Lib.hid (fours_cell m)
  have HCE := Lib.hid (own_cells4 (HO2.out.alloc (.cells #[] 51)))
  go_wp2_with (at_builtin; refine wpList_append_own _ rfl _ _ 22 rfl w2.heap.size 51 i0 (.agg #[.int .i64 0, .int .i64 0, .int .u64 0, .string ⟨#[]⟩]) 4 40 Tryd.underlying22 hi hz0 hz1 hz2 rfl (by decide) _ 0 [] rfl (own4_empty w2 51) ⟨g1, 0, none⟩ m.length cap1 (fours m) rfl HNL.out HCE.out HFC.out (by unfold maxLen; omega) (by omega) (by simp) ?_; intro v3 w3 hown3 hgrow3 hnil3; have hb3 : Below w2.heap.size w2 w3 := (below_alloc w2 (.cells #[] 51)).trans (own4_apart (own4_empty w2 51) hgrow3 (Nat.le_refl _) (by simp)); have BX3 := Lib.hid (BX2.out.below hb3); obtain ⟨c0, c1, c2, c3⟩ := BX3.out.cells)
  have M3 := M2.below hb3
  have HO3 : Hid (w3.ownsRow w2.heap.size 51 4 v3 m.length (fours m)) := Lib.hid (by simpa using hown3)
  have hs3 := hb3.size
  clear hown3 hgrow3 hnil3 HCE HNL HFC c0 c1 c2 c3 HO2 BX2 BX3
  refine (HCUTC.out _ M3).mono ?_
  rintro e w4 ⟨g4, cap4, rfl, hcap4, hown4, hb4, M4⟩
  have R4 : Below w3.heap.size w3 w4 := (below_alloc _ _).trans' hb4
  have HO4 := Lib.hid hown4
  have HO3' := Lib.hid (own4_below HO3.out R4)
  have hs4 := R4.size
  have HN1 : Hid ((fours [c]).length = 1 * 4) := Lib.hid rfl
  have HF1 := Lib.hid (fours_cell [c])
  have HC1 := Lib.hid (own_cells4 HO4.out)
  clear hown4 hb4 HO3 hcap4 HCUTC
  go_wp2_with (at_builtin; refine wpList_append_own _ rfl _ _ 22 rfl w2.heap.size 51 i0 (.agg #[.int .i64 0, .int .i64 0, .int .u64 0, .string ⟨#[]⟩]) 4 40 Tryd.underlying22 hi hz0 hz1 hz2 rfl (by decide) v3 m.length (fours m) rfl HO3'.out ⟨g4, 0, none⟩ 1 cap4 (fours [c]) rfl HN1.out HC1.out HF1.out (by unfold maxLen; omega) (by omega) (by omega) ?_; intro v5 w5 hown5 hgrow5 hnil5; obtain ⟨g5, cap5, rfl⟩ := own4_form hown5 (by omega))
  have R5 : Below w2.heap.size w4 w5 := own4_apart HO3'.out hgrow5 (Nat.le_refl _) (by omega)
  have X5 : Below w2.heap.size w2 w5 := (hb3.trans' R4).trans R5
  have HLM : Hid (∀ W, Below w5.heap.size w5 W → Lies W W.heap.size (some ⟨g1, 0, none⟩) m) := Lib.hid (fun W hW => lies_on (B := 0) (lies_on (B := 0) HLm.out X5) hW)
  have HLQ : Hid (∀ W, Below w5.heap.size w5 W → Lies W W.heap.size G' q) := Lib.hid (fun W hW => lies_on (B := 0) (lies_on (B := 0) HLq.out X5) hW)
  have hlen : (m ++ [c]).length = m.length + 1 := by simp
  have HLX : Hid (∀ W, Below w5.heap.size w5 W → Lies W W.heap.size (some ⟨g5, 0, none⟩) (m ++ [c])) := Lib.hid (fun W hW => lies_on (B := 0) (lies_own (e := 51) (base := w2.heap.size) (n := m.length + 1) (cap := cap5) (by rw [fours_append]; exact hown5) hlen.symm) hW)
  have L5 := L2.trans' X5
  have M5 := M2.below X5
  have hqx : QOk (m ++ [c]) := hsm.ok.append (fun d hd => by simp at hd; subst hd; exact ⟨hcs.1, by omega⟩)
  clear hown5 hgrow5 hnil5 hb3 R4 R5 X5 HLm HLq L2 M2 HO3' HO4 HN1 HF1 HC1 hs3 hs4 M3 M4 hi hz0 hz1 hz2
  obtain ⟨P, hP⟩ : ∃ P : ByteArray, P = ⟨(KP.key (cols m)).toArray⟩ := ⟨_, rfl⟩
  obtain ⟨Z, hZ⟩ : ∃ Z : ByteArray, Z = ⟨(KP.key (cols (m ++ [c]))).toArray⟩ := ⟨_, rfl⟩
  obtain ⟨Q, hQ⟩ : ∃ Q : ByteArray, Q = ⟨(KP.key (cols q)).toArray⟩ := ⟨_, rfl⟩
  have HPno : Hid (allRt m = false → ∀ W, MaxIs W → Below w5.heap.size w5 W → Calls Tryd.prog 10 #[.slice (some ⟨g1, 0, none⟩) m.length cap1] W fun e w' => e = .returned (.tuple #[.string ⟨#[]⟩, .int .i64 3]) ∧ Below W.heap.size W w' ∧ MaxIs w') := Lib.hid (fun h W MW hW => kput_no MW (HLM.out W hW) hsm hml h)
  have HPyes : Hid (allRt m = true → ∀ W, MaxIs W → Below w5.heap.size w5 W → Calls Tryd.prog 10 #[.slice (some ⟨g1, 0, none⟩) m.length cap1] W fun e w' => e = .returned (.tuple #[.string P, .int .i64 0]) ∧ Below W.heap.size W w' ∧ MaxIs w') := Lib.hid (fun h W MW hW => kput_yes MW (HLM.out W hW) hsm hml h P hP)
  have HXno : Hid (allRt (m ++ [c]) = false → ∀ W, MaxIs W → Below w5.heap.size w5 W → Calls Tryd.prog 10 #[.slice (some ⟨g5, 0, none⟩) (m.length + 1) cap5] W fun e w' => e = .returned (.tuple #[.string ⟨#[]⟩, .int .i64 3]) ∧ Below W.heap.size W w' ∧ MaxIs w') := Lib.hid (fun h W MW hW => by
    have k := kput (some ⟨g5, 0, none⟩) (m ++ [c]) cap5 (.tuple #[.string ⟨#[]⟩, .int .i64 3]) (by rw [keyV, if_neg (by rw [h]; decide)]) hqx (by rw [hlen]; omega) W MW (HLX.out W hW)
    rwa [hlen] at k)
  have HXyes : Hid (allRt (m ++ [c]) = true → ∀ W, MaxIs W → Below w5.heap.size w5 W → Calls Tryd.prog 10 #[.slice (some ⟨g5, 0, none⟩) (m.length + 1) cap5] W fun e w' => e = .returned (.tuple #[.string Z, .int .i64 0]) ∧ Below W.heap.size W w' ∧ MaxIs w') := Lib.hid (fun h W MW hW => by
    have k := kput (some ⟨g5, 0, none⟩) (m ++ [c]) cap5 (.tuple #[.string Z, .int .i64 0]) (by rw [keyV, if_pos h, hZ]) hqx (by rw [hlen]; omega) W MW (HLX.out W hW)
    rwa [hlen] at k)
  have HQno : Hid (allRt q = false → ∀ W, MaxIs W → Below w5.heap.size w5 W → Calls Tryd.prog 10 #[.slice G' q.length cap'] W fun e w' => e = .returned (.tuple #[.string ⟨#[]⟩, .int .i64 3]) ∧ Below W.heap.size W w' ∧ MaxIs w') := Lib.hid (fun h W MW hW => kput_no MW (HLQ.out W hW) hsq hql h)
  have HQyes : Hid (allRt q = true → ∀ W, MaxIs W → Below w5.heap.size w5 W → Calls Tryd.prog 10 #[.slice G' q.length cap'] W fun e w' => e = .returned (.tuple #[.string Q, .int .i64 0]) ∧ Below W.heap.size W w' ∧ MaxIs w') := Lib.hid (fun h W MW hW => kput_yes MW (HLQ.out W hW) hsq hql h Q hQ)
  have HRx : Hid (∀ W, MaxIs W → Below w5.heap.size w5 W → Calls Tryd.prog 17 #[.slice (some ⟨g5, 0, none⟩) (m.length + 1) cap5] W fun e w' => e = .returned (.bool (allRt (m ++ [c]))) ∧ Below W.heap.size W w' ∧ MaxIs w') := Lib.hid (fun W MW hW => by
    have k := right4_any (some ⟨g5, 0, none⟩) (m ++ [c]) cap5 W (HLX.out W hW) hqx (by rw [hlen]; omega)
    rw [hlen] at k
    exact k.mono fun e w' ⟨he, hb⟩ => ⟨he, hb, MW.below hb⟩)
  have HRq : Hid (∀ W, MaxIs W → Below w5.heap.size w5 W → Calls Tryd.prog 17 #[.slice G' q.length cap'] W fun e w' => e = .returned (.bool (allRt q)) ∧ Below W.heap.size W w' ∧ MaxIs w') := Lib.hid (fun W MW hW => kright MW (HLQ.out W hW) hsq hql _ rfl)
  cases hrx : allRt (m ++ [c]) with
  | false =>
    rw [hrx] at HRx
    have HX := Lib.hid (HXno.out hrx)
    have HPE : Hid (∃ (p : ByteArray) (pe : Int), ∀ W, MaxIs W → Below w5.heap.size w5 W → Calls Tryd.prog 10 #[.slice (some ⟨g1, 0, none⟩) m.length cap1] W fun e w' => e = .returned (.tuple #[.string p, .int .i64 pe]) ∧ Below W.heap.size W w' ∧ MaxIs w') := Lib.hid (by
      cases hr : allRt m with
      | false => exact ⟨_, _, HPno.out hr⟩
      | true => exact ⟨_, _, HPyes.out hr⟩)
    have HQE : Hid (∃ (p : ByteArray) (pe : Int), ∀ W, MaxIs W → Below w5.heap.size w5 W → Calls Tryd.prog 10 #[.slice G' q.length cap'] W fun e w' => e = .returned (.tuple #[.string p, .int .i64 pe]) ∧ Below W.heap.size W w' ∧ MaxIs w') := Lib.hid (by
      cases hr : allRt q with
      | false => exact ⟨_, _, HQno.out hr⟩
      | true => exact ⟨_, _, HQyes.out hr⟩)
    obtain ⟨p, pe, hp⟩ := HPE.out
    obtain ⟨r, re, hr⟩ := HQE.out
    have HP := Lib.hid hp
    have HQ := Lib.hid hr
    clear HPno HPyes HXno HXyes HQno HQyes hp hr HPE HQE hP hQ hZ hrx HLM HLQ HLX hlen hqx hsm hsq HRq
    generalize m.length = k at *
    generalize q.length = k' at *
    refine (HP.out _ M5 (Below.refl _ _)).mono ?_
    rintro e w6 ⟨rfl, hb6, M6⟩
    go_wp2_with fail
    refine (HX.out _ M6 hb6).mono ?_
    rintro e w7 ⟨rfl, hb7, M7⟩
    go_wp2_with fail
    refine (HQ.out _ M7 (hb6.trans' hb7)).mono ?_
    rintro e w8 ⟨rfl, hb8, M8⟩
    go_wp2_with fail
    all_goals
      refine (HRx.out _ M8 ((hb6.trans' hb7).trans' hb8)).mono ?_
      rintro e w9 ⟨rfl, hb9, M9⟩
      go_wp2_with fail
      refine (HF.out _ M9).mono ?_
      rintro e w10 ⟨rfl, hb10, _⟩
      go_wp2_with fail
      go_ret
      exact ⟨rfl, ((((L5.trans' hb6).trans' hb7).trans' hb8).trans' hb9).trans' hb10⟩
  | true =>
    rw [hrx] at HRx
    have hrm : allRt m = true := by rw [allRt_append] at hrx; exact (Bool.and_eq_true_iff.1 hrx).1
    have HP := Lib.hid (HPyes.out hrm)
    have HX := Lib.hid (HXyes.out hrx)
    clear HPno HPyes HXno HXyes
    cases hrq : allRt q with
    | false =>
      rw [hrq] at HRq
      have HQ := Lib.hid (HQno.out hrq)
      clear HQno HQyes hP hQ hZ hrx hrm hrq HLM HLQ HLX hlen hqx hsm hsq
      generalize m.length = k at *
      generalize q.length = k' at *
      refine (HP.out _ M5 (Below.refl _ _)).mono ?_
      rintro e w6 ⟨rfl, hb6, M6⟩
      go_wp2_with fail
      refine (HX.out _ M6 hb6).mono ?_
      rintro e w7 ⟨rfl, hb7, M7⟩
      go_wp2_with fail
      refine (HQ.out _ M7 (hb6.trans' hb7)).mono ?_
      rintro e w8 ⟨rfl, hb8, M8⟩
      go_wp2_with fail
      refine (HRx.out _ M8 ((hb6.trans' hb7).trans' hb8)).mono ?_
      rintro e w9 ⟨rfl, hb9, M9⟩
      go_wp2_with fail
      refine (HRq.out _ M9 (((hb6.trans' hb7).trans' hb8).trans' hb9)).mono ?_
      rintro e w10 ⟨rfl, hb10, M10⟩
      go_wp2_with fail
      refine (HF.out _ M10).mono ?_
      rintro e w11 ⟨rfl, hb11, _⟩
      go_wp2_with fail
      go_ret
      exact ⟨rfl, (((((L5.trans' hb6).trans' hb7).trans' hb8).trans' hb9).trans' hb10).trans' hb11⟩
    | true =>
      have HQ := Lib.hid (HQyes.out hrq)
      have hallx : KP.All (cols m ++ [c.col]) := by have h := allRt_all hrx hqx; rwa [cols_append] at h
      have hallq := allRt_all hrq hsq.ok
      have hallm := allRt_all hrm hsm.ok
      have HPl : Hid (P.data.toList = KP.key (cols m)) := Lib.hid (by rw [hP])
      have HQl : Hid (Q.data.toList = KP.key (cols q)) := Lib.hid (by rw [hQ])
      have HZl : Hid (Z.data.toList = KP.key (cols m ++ [c.col])) := Lib.hid (by rw [hZ, cols_append]; rfl)
      obtain ⟨f1, f2, f3⟩ := more_facts hallx hallq
      have HC : Hid (∀ W, MaxIs W → Below w5.heap.size w5 W → Calls Tryd.prog 18 #[.slice (some ⟨g1, 0, none⟩) m.length cap1, .slice (some ⟨g5, 0, none⟩) (m.length + 1) cap5] W fun e w' => e = .returned (.int .i64 (-1)) ∧ Below W.heap.size W w' ∧ MaxIs w') := Lib.hid (fun W MW hW => by
        have k := kcmp (cb := cap5) (ca := cap1) MW (HLM.out W hW) (HLX.out W hW) (by omega) (by rw [hlen]; omega) (-1) (by rw [cols_append]; exact f1)
        rwa [hlen] at k)
      have g0 : Op.bytesLess P.toList Z.toList = true := lessb HPl.out HZl.out f2
      have HTT : Hid (m.length ≤ q.length → ∀ W, MaxIs W → Below w5.heap.size w5 W → Calls Tryd.prog 12 #[.slice G' m.length cap'] W fun e w' => ∃ G cap, e = .returned (.slice G m.length cap) ∧ Lies w' w'.heap.size G (q.take m.length) ∧ Below W.heap.size W w' ∧ MaxIs w') := Lib.hid (fun h W MW hW => by
        have ht : (q.take m.length).length = m.length := by simp; omega
        have k := kref (ca := cap') MW ((HLQ.out W hW).take m.length) (by omega)
        rwa [ht] at k)
      have HU : Hid (∀ W, MaxIs W → Below w5.heap.size w5 W → Calls Tryd.prog 12 #[.slice (some ⟨g1, 0, none⟩) m.length cap1] W fun e w' => ∃ G cap, e = .returned (.slice G m.length cap) ∧ Lies w' w'.heap.size G m ∧ Below W.heap.size W w' ∧ MaxIs w') := Lib.hid (fun W MW hW => kref MW (HLM.out W hW) (by omega))
      have HFA : Hid (m.length ≤ q.length → ∀ b, sameL (q.take m.length) m = b → ∀ W B B' c c', MaxIs W → Lies W W.heap.size B (q.take m.length) → Lies W W.heap.size B' m → Calls Tryd.prog 20 #[.slice B m.length c, .slice B' m.length c'] W fun e w' => e = .returned (.bool b) ∧ Below W.heap.size W w' ∧ MaxIs w') := Lib.hid (fun h b hb W B B' c c' MW h1 h2 => by
        have ht : (q.take m.length).length = m.length := by simp; omega
        have k := ksame (ca := c) (cb := c') MW h1 h2 (by omega) (by omega) b hb
        rwa [ht] at k)
      have hno : ¬ cols m <+: cols q → m.length ≤ q.length → sameL (q.take m.length) m = false := fun hn hle => by
        cases hb : sameL (q.take m.length) m with
        | false => rfl
        | true => exact absurd ((begins_iff m q hle).1 hb) hn
      rcases f3 with hpre | ⟨h1, h2, h3, h4, h5, h6⟩ | ⟨h1, h2, h3, h4, h5, h6⟩
      · have hle : m.length ≤ q.length := by have h := hpre.length_le; rwa [cols_length, cols_length] at h
        have HT := Lib.hid (HTT.out hle)
        have HV := Lib.hid (HFA.out hle true ((begins_iff m q hle).2 hpre))
        have hmin : min (m.length : Int) (q.length : Int) = m.length := by omega
        clear f1 f2 hpre hno
        clear HQno HQyes HRq HRx hrx hrm hrq hP hQ hZ HLM HLQ HLX hlen hqx hsm hsq hallm hallq hallx HFA HTT HPl HZl HQl
        generalize m.length = k at *
        generalize q.length = k' at *
        go_wp2_with fail
        refine (HP.out _ M5 (Below.refl _ _)).mono ?_
        rintro e w6 ⟨rfl, hb6, M6⟩
        go_wp2_with fail
        refine (HX.out _ M6 hb6).mono ?_
        rintro e w7 ⟨rfl, hb7, M7⟩
        go_wp2_with fail
        refine (HQ.out _ M7 (hb6.trans' hb7)).mono ?_
        rintro e w8 ⟨rfl, hb8, M8⟩
        have R8 := (hb6.trans' hb7).trans' hb8
        clear hb6 hb7 hb8 M6 M7 HP HX HQ
        go_wp2_with fail
        refine (HT.out _ M8 R8).mono ?_
        rintro e w9 ⟨G9, cap9, rfl, hL9, hb9, M9⟩
        have HL9 := Lib.hid hL9
        have R9 := R8.trans' hb9
        clear hL9 hb9 R8 M8
        go_wp2_with fail
        refine (HU.out _ M9 R9).mono ?_
        rintro e w10 ⟨G10, cap10, rfl, hL10, hb10, M10⟩
        have HL10 := Lib.hid hL10
        have HL9' := Lib.hid (lies_on (B := 0) HL9.out hb10)
        have R10 := R9.trans' hb10
        clear hL10 hb10 R9 M9 HL9
        go_wp2_with fail
        refine (HV.out _ _ _ _ _ M10 HL9'.out HL10.out).mono ?_
        rintro e w11 ⟨rfl, hb11, M11⟩
        have R11 := R10.trans' hb11
        clear hb11 R10 M10 HL9' HL10
        go_wp2_with fail
        refine (HC.out _ M11 R11).mono ?_
        rintro e w12 ⟨rfl, hb12, M12⟩
        go_wp2_with fail
        refine (HF.out _ M12).mono ?_
        rintro e w13 ⟨rfl, hb13, _⟩
        go_wp2_with fail
        go_ret
        exact ⟨rfl, ((L5.trans' R11).trans' hb12).trans' hb13⟩
      · by_cases hle : m.length ≤ q.length
        · by_cases hpre : cols m <+: cols q
          · have HT := Lib.hid (HTT.out hle)
            have HV := Lib.hid (HFA.out hle true ((begins_iff m q hle).2 hpre))
            have hmin : min (m.length : Int) (q.length : Int) = m.length := by omega
            clear f1 f2 hpre hno h1 h2 h3 h4 h5 h6
            clear HQno HQyes HRq HRx hrx hrm hrq hP hQ hZ HLM HLQ HLX hlen hqx hsm hsq hallm hallq hallx HFA HTT HPl HZl HQl
            generalize m.length = k at *
            generalize q.length = k' at *
            go_wp2_with fail
            refine (HP.out _ M5 (Below.refl _ _)).mono ?_
            rintro e w6 ⟨rfl, hb6, M6⟩
            go_wp2_with fail
            refine (HX.out _ M6 hb6).mono ?_
            rintro e w7 ⟨rfl, hb7, M7⟩
            go_wp2_with fail
            refine (HQ.out _ M7 (hb6.trans' hb7)).mono ?_
            rintro e w8 ⟨rfl, hb8, M8⟩
            have R8 := (hb6.trans' hb7).trans' hb8
            clear hb6 hb7 hb8 M6 M7 HP HX HQ
            go_wp2_with fail
            refine (HT.out _ M8 R8).mono ?_
            rintro e w9 ⟨G9, cap9, rfl, hL9, hb9, M9⟩
            have HL9 := Lib.hid hL9
            have R9 := R8.trans' hb9
            clear hL9 hb9 R8 M8
            go_wp2_with fail
            refine (HU.out _ M9 R9).mono ?_
            rintro e w10 ⟨G10, cap10, rfl, hL10, hb10, M10⟩
            have HL10 := Lib.hid hL10
            have HL9' := Lib.hid (lies_on (B := 0) HL9.out hb10)
            have R10 := R9.trans' hb10
            clear hL10 hb10 R9 M9 HL9
            go_wp2_with fail
            refine (HV.out _ _ _ _ _ M10 HL9'.out HL10.out).mono ?_
            rintro e w11 ⟨rfl, hb11, M11⟩
            have R11 := R10.trans' hb11
            clear hb11 R10 M10 HL9' HL10
            go_wp2_with fail
            refine (HC.out _ M11 R11).mono ?_
            rintro e w12 ⟨rfl, hb12, M12⟩
            go_wp2_with fail
            refine (HF.out _ M12).mono ?_
            rintro e w13 ⟨rfl, hb13, _⟩
            go_wp2_with fail
            go_ret
            exact ⟨rfl, ((L5.trans' R11).trans' hb12).trans' hb13⟩
          · have HT := Lib.hid (HTT.out hle)
            have HV := Lib.hid (HFA.out hle false (hno hpre hle))
            have hmin : min (m.length : Int) (q.length : Int) = m.length := by omega
            have g1 : Op.bytesLess P.toList Q.toList = _ := lessb HPl.out HQl.out h1
            have g2 : Op.bytesLess Q.toList P.toList = _ := lessb HQl.out HPl.out h2
            have g3 : (Q.toList == P.toList) = false := eqb_no HQl.out HPl.out h3
            have g4 : (P.toList == Q.toList) = false := eqb_no HPl.out HQl.out h3.symm
            have g5 : Op.bytesLess Z.toList Q.toList = _ := lessb HZl.out HQl.out h4
            have g6 : Op.bytesLess Q.toList Z.toList = _ := lessb HQl.out HZl.out h5
            have g7 : (Q.toList == Z.toList) = false := eqb_no HQl.out HZl.out h6
            have g8 : (Z.toList == Q.toList) = false := eqb_no HZl.out HQl.out h6.symm
            clear f1 f2 hpre hno h1 h2 h3 h4 h5 h6
            clear HQno HQyes HRq HRx hrx hrm hrq hP hQ hZ HLM HLQ HLX hlen hqx hsm hsq hallm hallq hallx HFA HTT HPl HZl HQl
            generalize m.length = k at *
            generalize q.length = k' at *
            go_wp2_with fail
            refine (HP.out _ M5 (Below.refl _ _)).mono ?_
            rintro e w6 ⟨rfl, hb6, M6⟩
            go_wp2_with fail
            refine (HX.out _ M6 hb6).mono ?_
            rintro e w7 ⟨rfl, hb7, M7⟩
            go_wp2_with fail
            refine (HQ.out _ M7 (hb6.trans' hb7)).mono ?_
            rintro e w8 ⟨rfl, hb8, M8⟩
            have R8 := (hb6.trans' hb7).trans' hb8
            clear hb6 hb7 hb8 M6 M7 HP HX HQ
            go_wp2_with fail
            refine (HT.out _ M8 R8).mono ?_
            rintro e w9 ⟨G9, cap9, rfl, hL9, hb9, M9⟩
            have HL9 := Lib.hid hL9
            have R9 := R8.trans' hb9
            clear hL9 hb9 R8 M8
            go_wp2_with fail
            refine (HU.out _ M9 R9).mono ?_
            rintro e w10 ⟨G10, cap10, rfl, hL10, hb10, M10⟩
            have HL10 := Lib.hid hL10
            have HL9' := Lib.hid (lies_on (B := 0) HL9.out hb10)
            have R10 := R9.trans' hb10
            clear hL10 hb10 R9 M9 HL9
            go_wp2_with fail
            refine (HV.out _ _ _ _ _ M10 HL9'.out HL10.out).mono ?_
            rintro e w11 ⟨rfl, hb11, M11⟩
            have R11 := R10.trans' hb11
            clear hb11 R10 M10 HL9' HL10
            go_wp2_with fail
            refine (HC.out _ M11 R11).mono ?_
            rintro e w12 ⟨rfl, hb12, M12⟩
            go_wp2_with fail
            refine (HF.out _ M12).mono ?_
            rintro e w13 ⟨rfl, hb13, _⟩
            go_wp2_with fail
            go_ret
            exact ⟨rfl, ((L5.trans' R11).trans' hb12).trans' hb13⟩
        · have hlt : q.length < m.length := by omega
          have g1 : Op.bytesLess P.toList Q.toList = _ := lessb HPl.out HQl.out h1
          have g2 : Op.bytesLess Q.toList P.toList = _ := lessb HQl.out HPl.out h2
          have g3 : (Q.toList == P.toList) = false := eqb_no HQl.out HPl.out h3
          have g4 : (P.toList == Q.toList) = false := eqb_no HPl.out HQl.out h3.symm
          have g5 : Op.bytesLess Z.toList Q.toList = _ := lessb HZl.out HQl.out h4
          have g6 : Op.bytesLess Q.toList Z.toList = _ := lessb HQl.out HZl.out h5
          have g7 : (Q.toList == Z.toList) = false := eqb_no HQl.out HZl.out h6
          have g8 : (Z.toList == Q.toList) = false := eqb_no HZl.out HQl.out h6.symm
          clear f1 f2 hno h1 h2 h3 h4 h5 h6 HU
          clear HQno HQyes HRq HRx hrx hrm hrq hP hQ hZ HLM HLQ HLX hlen hqx hsm hsq hallm hallq hallx HFA HTT HPl HZl HQl
          generalize m.length = k at *
          generalize q.length = k' at *
          go_wp2_with fail
          refine (HP.out _ M5 (Below.refl _ _)).mono ?_
          rintro e w6 ⟨rfl, hb6, M6⟩
          go_wp2_with fail
          refine (HX.out _ M6 hb6).mono ?_
          rintro e w7 ⟨rfl, hb7, M7⟩
          go_wp2_with fail
          refine (HQ.out _ M7 (hb6.trans' hb7)).mono ?_
          rintro e w8 ⟨rfl, hb8, M8⟩
          have R8 := (hb6.trans' hb7).trans' hb8
          clear hb6 hb7 hb8 M6 M7 HP HX HQ
          go_wp2_with fail
          refine (HC.out _ M8 R8).mono ?_
          rintro e w12 ⟨rfl, hb12, M12⟩
          go_wp2_with fail
          refine (HF.out _ M12).mono ?_
          rintro e w13 ⟨rfl, hb13, _⟩
          go_wp2_with fail
          go_ret
          exact ⟨rfl, ((L5.trans' R8).trans' hb12).trans' hb13⟩
      · by_cases hle : m.length ≤ q.length
        · by_cases hpre : cols m <+: cols q
          · have HT := Lib.hid (HTT.out hle)
            have HV := Lib.hid (HFA.out hle true ((begins_iff m q hle).2 hpre))
            have hmin : min (m.length : Int) (q.length : Int) = m.length := by omega
            clear f1 f2 hpre hno h1 h2 h3 h4 h5 h6
            clear HQno HQyes HRq HRx hrx hrm hrq hP hQ hZ HLM HLQ HLX hlen hqx hsm hsq hallm hallq hallx HFA HTT HPl HZl HQl
            generalize m.length = k at *
            generalize q.length = k' at *
            go_wp2_with fail
            refine (HP.out _ M5 (Below.refl _ _)).mono ?_
            rintro e w6 ⟨rfl, hb6, M6⟩
            go_wp2_with fail
            refine (HX.out _ M6 hb6).mono ?_
            rintro e w7 ⟨rfl, hb7, M7⟩
            go_wp2_with fail
            refine (HQ.out _ M7 (hb6.trans' hb7)).mono ?_
            rintro e w8 ⟨rfl, hb8, M8⟩
            have R8 := (hb6.trans' hb7).trans' hb8
            clear hb6 hb7 hb8 M6 M7 HP HX HQ
            go_wp2_with fail
            refine (HT.out _ M8 R8).mono ?_
            rintro e w9 ⟨G9, cap9, rfl, hL9, hb9, M9⟩
            have HL9 := Lib.hid hL9
            have R9 := R8.trans' hb9
            clear hL9 hb9 R8 M8
            go_wp2_with fail
            refine (HU.out _ M9 R9).mono ?_
            rintro e w10 ⟨G10, cap10, rfl, hL10, hb10, M10⟩
            have HL10 := Lib.hid hL10
            have HL9' := Lib.hid (lies_on (B := 0) HL9.out hb10)
            have R10 := R9.trans' hb10
            clear hL10 hb10 R9 M9 HL9
            go_wp2_with fail
            refine (HV.out _ _ _ _ _ M10 HL9'.out HL10.out).mono ?_
            rintro e w11 ⟨rfl, hb11, M11⟩
            have R11 := R10.trans' hb11
            clear hb11 R10 M10 HL9' HL10
            go_wp2_with fail
            refine (HC.out _ M11 R11).mono ?_
            rintro e w12 ⟨rfl, hb12, M12⟩
            go_wp2_with fail
            refine (HF.out _ M12).mono ?_
            rintro e w13 ⟨rfl, hb13, _⟩
            go_wp2_with fail
            go_ret
            exact ⟨rfl, ((L5.trans' R11).trans' hb12).trans' hb13⟩
          · have HT := Lib.hid (HTT.out hle)
            have HV := Lib.hid (HFA.out hle false (hno hpre hle))
            have hmin : min (m.length : Int) (q.length : Int) = m.length := by omega
            have g1 : Op.bytesLess P.toList Q.toList = _ := lessb HPl.out HQl.out h1
            have g2 : Op.bytesLess Q.toList P.toList = _ := lessb HQl.out HPl.out h2
            have g3 : (Q.toList == P.toList) = false := eqb_no HQl.out HPl.out h3
            have g4 : (P.toList == Q.toList) = false := eqb_no HPl.out HQl.out h3.symm
            have g5 : Op.bytesLess Z.toList Q.toList = _ := lessb HZl.out HQl.out h4
            have g6 : Op.bytesLess Q.toList Z.toList = _ := lessb HQl.out HZl.out h5
            have g7 : (Q.toList == Z.toList) = false := eqb_no HQl.out HZl.out h6
            have g8 : (Z.toList == Q.toList) = false := eqb_no HZl.out HQl.out h6.symm
            clear f1 f2 hpre hno h1 h2 h3 h4 h5 h6
            clear HQno HQyes HRq HRx hrx hrm hrq hP hQ hZ HLM HLQ HLX hlen hqx hsm hsq hallm hallq hallx HFA HTT HPl HZl HQl
            generalize m.length = k at *
            generalize q.length = k' at *
            go_wp2_with fail
            refine (HP.out _ M5 (Below.refl _ _)).mono ?_
            rintro e w6 ⟨rfl, hb6, M6⟩
            go_wp2_with fail
            refine (HX.out _ M6 hb6).mono ?_
            rintro e w7 ⟨rfl, hb7, M7⟩
            go_wp2_with fail
            refine (HQ.out _ M7 (hb6.trans' hb7)).mono ?_
            rintro e w8 ⟨rfl, hb8, M8⟩
            have R8 := (hb6.trans' hb7).trans' hb8
            clear hb6 hb7 hb8 M6 M7 HP HX HQ
            go_wp2_with fail
            refine (HT.out _ M8 R8).mono ?_
            rintro e w9 ⟨G9, cap9, rfl, hL9, hb9, M9⟩
            have HL9 := Lib.hid hL9
            have R9 := R8.trans' hb9
            clear hL9 hb9 R8 M8
            go_wp2_with fail
            refine (HU.out _ M9 R9).mono ?_
            rintro e w10 ⟨G10, cap10, rfl, hL10, hb10, M10⟩
            have HL10 := Lib.hid hL10
            have HL9' := Lib.hid (lies_on (B := 0) HL9.out hb10)
            have R10 := R9.trans' hb10
            clear hL10 hb10 R9 M9 HL9
            go_wp2_with fail
            refine (HV.out _ _ _ _ _ M10 HL9'.out HL10.out).mono ?_
            rintro e w11 ⟨rfl, hb11, M11⟩
            have R11 := R10.trans' hb11
            clear hb11 R10 M10 HL9' HL10
            go_wp2_with fail
            refine (HC.out _ M11 R11).mono ?_
            rintro e w12 ⟨rfl, hb12, M12⟩
            go_wp2_with fail
            refine (HF.out _ M12).mono ?_
            rintro e w13 ⟨rfl, hb13, _⟩
            go_wp2_with fail
            go_ret
            exact ⟨rfl, ((L5.trans' R11).trans' hb12).trans' hb13⟩
        · have hlt : q.length < m.length := by omega
          have g1 : Op.bytesLess P.toList Q.toList = _ := lessb HPl.out HQl.out h1
          have g2 : Op.bytesLess Q.toList P.toList = _ := lessb HQl.out HPl.out h2
          have g3 : (Q.toList == P.toList) = false := eqb_no HQl.out HPl.out h3
          have g4 : (P.toList == Q.toList) = false := eqb_no HPl.out HQl.out h3.symm
          have g5 : Op.bytesLess Z.toList Q.toList = _ := lessb HZl.out HQl.out h4
          have g6 : Op.bytesLess Q.toList Z.toList = _ := lessb HQl.out HZl.out h5
          have g7 : (Q.toList == Z.toList) = false := eqb_no HQl.out HZl.out h6
          have g8 : (Z.toList == Q.toList) = false := eqb_no HZl.out HQl.out h6.symm
          clear f1 f2 hno h1 h2 h3 h4 h5 h6 HU
          clear HQno HQyes HRq HRx hrx hrm hrq hP hQ hZ HLM HLQ HLX hlen hqx hsm hsq hallm hallq hallx HFA HTT HPl HZl HQl
          generalize m.length = k at *
          generalize q.length = k' at *
          go_wp2_with fail
          refine (HP.out _ M5 (Below.refl _ _)).mono ?_
          rintro e w6 ⟨rfl, hb6, M6⟩
          go_wp2_with fail
          refine (HX.out _ M6 hb6).mono ?_
          rintro e w7 ⟨rfl, hb7, M7⟩
          go_wp2_with fail
          refine (HQ.out _ M7 (hb6.trans' hb7)).mono ?_
          rintro e w8 ⟨rfl, hb8, M8⟩
          have R8 := (hb6.trans' hb7).trans' hb8
          clear hb6 hb7 hb8 M6 M7 HP HX HQ
          go_wp2_with fail
          refine (HC.out _ M8 R8).mono ?_
          rintro e w12 ⟨rfl, hb12, M12⟩
          go_wp2_with fail
          refine (HF.out _ M12).mono ?_
          rintro e w13 ⟨rfl, hb13, _⟩
          go_wp2_with fail
          go_ret
          exact ⟨rfl, ((L5.trans' R8).trans' hb12).trans' hb13⟩
end Go.Proofs.YtdcijbclafpkmaaDoor
