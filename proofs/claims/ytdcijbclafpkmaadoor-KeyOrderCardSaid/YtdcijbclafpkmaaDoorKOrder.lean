/-
  The walk of the law KeyOrder.
-/
import Derived.Test.YtdcijbclafpkmaaDoorKBack
import Derived.Test.YtdcijbclafpkmaaDoorCCut
namespace Go.Proofs.YtdcijbclafpkmaaDoor
open Go.RowKit
set_option linter.unusedVariables false
set_option linter.unusedSimpArgs false

theorem eqb_ne {x y : List UInt8} (h : x ≠ y) : (x == y) = false := beq_eq_false_iff_ne.2 h
theorem lies_from {B : Nat} {W W' : World} {A : Option Addr} {l : List QC} (h : Lies W B A l) (b : Below B W W') (hB : B ≤ W.heap.size) : Lies W' W'.heap.size A l := (h.below b).more (Nat.le_trans hB b.size)

set_option maxHeartbeats 2000000 in
set_option maxRecDepth 100000 in
theorem keyOrder_walk (A : Option Addr) (l : List QC) (ca : Nat) (A' : Option Addr) (l' : List QC) (ca' : Nat) (x y : ByteArray) (w : World) (M : MaxIs w)
    (hA : Lies w w.heap.size A l) (hok : ∀ c ∈ l, CP.Ok c.col) (hs : ∀ c ∈ l, c.s.size ≤ maxLen) (hl : l.length ≤ maxLen)
    (hA' : Lies w w.heap.size A' l') (hok' : ∀ c ∈ l', CP.Ok c.col) (hs' : ∀ c ∈ l', c.s.size ≤ maxLen) (hl' : l'.length ≤ maxLen) (wx : x.size ≤ maxLen) (wy : y.size ≤ maxLen) :
    Calls Tryd.prog 4 #[.slice A l.length ca, .slice A' l'.length ca', .agg #[.string x, .string y]] w fun e w' => e = .returned (.bool true) ∧ Below w.heap.size w w' := by
  unfold maxLen at wx wy
  obtain ⟨m, hm⟩ : ∃ m, m = cut8 l := ⟨_, rfl⟩
  have hsm : Small m := by rw [hm]; exact cut8_small l hok
  have hml : m.length ≤ 8 := by rw [hm, cut8_length]; omega
  obtain ⟨q, hq⟩ : ∃ q, q = cut8 l' := ⟨_, rfl⟩
  have hsq : Small q := by rw [hq]; exact cut8_small l' hok'
  have hql : q.length ≤ 8 := by rw [hq, cut8_length]; omega
  have HCUT : Hid (∀ W, MaxIs W → Below w.heap.size w W → Calls Tryd.prog 9 #[.slice A l.length ca] W fun e w' => ∃ G cap, e = .returned (.slice G m.length cap) ∧ m.length ≤ cap ∧ Lies w' w'.heap.size G m ∧ Below W.heap.size W w' ∧ MaxIs w') := Lib.hid (fun W MW hW => kcut MW (lies_from hA hW (Nat.le_refl _)) hs hl m hm)
  have HCUT' : Hid (∀ W, MaxIs W → Below w.heap.size w W → Calls Tryd.prog 9 #[.slice A' l'.length ca'] W fun e w' => ∃ G cap, e = .returned (.slice G q.length cap) ∧ q.length ≤ cap ∧ Lies w' w'.heap.size G q ∧ Below W.heap.size W w' ∧ MaxIs w') := Lib.hid (fun W MW hW => kcut MW (lies_from hA' hW (Nat.le_refl _)) hs' hl' q hq)
  have HF := Lib.hid fixed4_tells
  have PR0 : Hid (Pair w.heap.size x y (w.alloc (.cells #[.string x, .string y] 43))) := Lib.hid (heap_alloc_new w _)
  have M0 := M.alloc (.cells #[.string x, .string y] 43)
  have L0 : Below w.heap.size w (w.alloc (.cells #[.string x, .string y] 43)) := below_alloc _ _
  generalize l.length = n at *
  generalize l'.length = n' at *
  clear hA hok hs hl hA' hok' hs' hl' hm hq M
  go_enter Tryd.func4, Tryd.ntmps4
  go_wp2_with fail
  refine (HCUT.out _ M0 L0).mono ?_
  rintro e w1 ⟨G, cap, rfl, hcap, hL, hb1, M1⟩
  have HL := Lib.hid hL
  have L1 := L0.trans' hb1
  have PR1 := Lib.hid (PR0.out.below hb1)
  clear HCUT hL hcap M0 L0 PR0 hb1
  go_wp2_with fail
  refine (HCUT'.out _ M1 L1).mono ?_
  rintro e w2 ⟨G', cap', rfl, hcap', hL', hb2, M2⟩
  have HLq := Lib.hid hL'
  have HLm := Lib.hid (lies_on (B := 0) HL.out hb2)
  have L2 := L1.trans' hb2
  have PR2 := Lib.hid (PR1.out.below hb2)
  clear HCUT' hL' hcap' M1 L1 PR1 hb2 HL
  have HRm : Hid (∀ W, MaxIs W → Below w2.heap.size w2 W → Calls Tryd.prog 17 #[.slice G m.length cap] W fun e w' => e = .returned (.bool (allRt m)) ∧ Below W.heap.size W w' ∧ MaxIs w') := Lib.hid (fun W MW hW => kright MW (lies_on (B := 0) HLm.out hW) hsm hml _ rfl)
  have HRq : Hid (∀ W, MaxIs W → Below w2.heap.size w2 W → Calls Tryd.prog 17 #[.slice G' q.length cap'] W fun e w' => e = .returned (.bool (allRt q)) ∧ Below W.heap.size W w' ∧ MaxIs w') := Lib.hid (fun W MW hW => kright MW (lies_on (B := 0) HLq.out hW) hsq hql _ rfl)
  obtain ⟨P, hP⟩ : ∃ P : ByteArray, P = ⟨(KP.key (cols m)).toArray⟩ := ⟨_, rfl⟩
  obtain ⟨Q, hQ⟩ : ∃ Q : ByteArray, Q = ⟨(KP.key (cols q)).toArray⟩ := ⟨_, rfl⟩
  have HPno : Hid (allRt m = false → ∀ W, MaxIs W → Below w2.heap.size w2 W → Calls Tryd.prog 10 #[.slice G m.length cap] W fun e w' => e = .returned (.tuple #[.string ⟨#[]⟩, .int .i64 3]) ∧ Below W.heap.size W w' ∧ MaxIs w') := Lib.hid (fun h W MW hW => kput_no MW (lies_on (B := 0) HLm.out hW) hsm hml h)
  have HPyes : Hid (allRt m = true → ∀ W, MaxIs W → Below w2.heap.size w2 W → Calls Tryd.prog 10 #[.slice G m.length cap] W fun e w' => e = .returned (.tuple #[.string P, .int .i64 0]) ∧ Below W.heap.size W w' ∧ MaxIs w') := Lib.hid (fun h W MW hW => kput_yes MW (lies_on (B := 0) HLm.out hW) hsm hml h P hP)
  have HQno : Hid (allRt q = false → ∀ W, MaxIs W → Below w2.heap.size w2 W → Calls Tryd.prog 10 #[.slice G' q.length cap'] W fun e w' => e = .returned (.tuple #[.string ⟨#[]⟩, .int .i64 3]) ∧ Below W.heap.size W w' ∧ MaxIs w') := Lib.hid (fun h W MW hW => kput_no MW (lies_on (B := 0) HLq.out hW) hsq hql h)
  have HQyes : Hid (allRt q = true → ∀ W, MaxIs W → Below w2.heap.size w2 W → Calls Tryd.prog 10 #[.slice G' q.length cap'] W fun e w' => e = .returned (.tuple #[.string Q, .int .i64 0]) ∧ Below W.heap.size W w' ∧ MaxIs w') := Lib.hid (fun h W MW hW => kput_yes MW (lies_on (B := 0) HLq.out hW) hsq hql h Q hQ)
  cases hr : allRt m with
  | false =>
    rw [hr] at HRm
    have HP := Lib.hid (HPno.out hr)
    clear HPno HPyes hr hP hsm hsq HLm HLq PR2
    generalize m.length = k at *
    cases hr' : allRt q with
    | false =>
      have HQ := Lib.hid (HQno.out hr')
      clear HQno HQyes hr' hQ HRq
      generalize q.length = k' at *
      go_wp2_with fail
      refine (HP.out _ M2 (Below.refl _ _)).mono ?_
      rintro e w3 ⟨rfl, hb3, M3⟩
      go_wp2_with fail
      refine (HQ.out _ M3 hb3).mono ?_
      rintro e w4 ⟨rfl, hb4, M4⟩
      go_wp2_with fail
      refine (HRm.out _ M4 (hb3.trans' hb4)).mono ?_
      rintro e w5 ⟨rfl, hb5, M5⟩
      go_wp2_with fail
      refine (HF.out _ M5).mono ?_
      rintro e w6 ⟨rfl, hb6, _⟩
      go_wp2_with fail
      go_ret
      exact ⟨rfl, (((L2.trans' hb3).trans' hb4).trans' hb5).trans' hb6⟩
    | true =>
      have HQ := Lib.hid (HQyes.out hr')
      clear HQno HQyes hr' hQ HRq
      generalize q.length = k' at *
      go_wp2_with fail
      refine (HP.out _ M2 (Below.refl _ _)).mono ?_
      rintro e w3 ⟨rfl, hb3, M3⟩
      go_wp2_with fail
      refine (HQ.out _ M3 hb3).mono ?_
      rintro e w4 ⟨rfl, hb4, M4⟩
      go_wp2_with fail
      refine (HRm.out _ M4 (hb3.trans' hb4)).mono ?_
      rintro e w5 ⟨rfl, hb5, M5⟩
      go_wp2_with fail
      refine (HF.out _ M5).mono ?_
      rintro e w6 ⟨rfl, hb6, _⟩
      go_wp2_with fail
      go_ret
      exact ⟨rfl, (((L2.trans' hb3).trans' hb4).trans' hb5).trans' hb6⟩
  | true =>
    rw [hr] at HRm
    have HP := Lib.hid (HPyes.out hr)
    clear HPno HPyes
    cases hr' : allRt q with
    | false =>
      rw [hr'] at HRq
      have HQ := Lib.hid (HQno.out hr')
      clear HQno HQyes hr' hQ hr hP hsm hsq HLm HLq PR2
      generalize m.length = k at *
      generalize q.length = k' at *
      go_wp2_with fail
      refine (HP.out _ M2 (Below.refl _ _)).mono ?_
      rintro e w3 ⟨rfl, hb3, M3⟩
      go_wp2_with fail
      refine (HQ.out _ M3 hb3).mono ?_
      rintro e w4 ⟨rfl, hb4, M4⟩
      go_wp2_with fail
      refine (HRm.out _ M4 (hb3.trans' hb4)).mono ?_
      rintro e w5 ⟨rfl, hb5, M5⟩
      go_wp2_with fail
      refine (HRq.out _ M5 ((hb3.trans' hb4).trans' hb5)).mono ?_
      rintro e w6 ⟨rfl, hb6, M6⟩
      go_wp2_with fail
      refine (HF.out _ M6).mono ?_
      rintro e w7 ⟨rfl, hb7, _⟩
      go_wp2_with fail
      go_ret
      exact ⟨rfl, ((((L2.trans' hb3).trans' hb4).trans' hb5).trans' hb6).trans' hb7⟩
    | true =>
      have HQ := Lib.hid (HQyes.out hr')
      have hPl : P.data.toList = KP.key (cols m) := by rw [hP]
      have hQl : Q.data.toList = KP.key (cols q) := by rw [hQ]
      have hPs : P.size ≤ 1041 := by rw [show P.size = P.data.toList.length by simp, hPl]; exact key_size hsm hml hr
      have hQs : Q.size ≤ 1041 := by rw [show Q.size = Q.data.toList.length by simp, hQl]; exact key_size hsq hql hr'
      have hallm := allRt_all hr hsm.ok
      have hallq := allRt_all hr' hsq.ok
      have HX := Lib.hid (KP.cmp_cases (cols m) (cols q) hallm hallq)
      have HSW := Lib.hid (KP.cmp_swap (cols m) (cols q) hallm hallq)
      have HPQ : Hid (cols m = cols q → P = Q) := Lib.hid (fun h => by rw [hP, hQ, h])
      rw [← hPl, ← hQl] at HX
      have HC1 : Hid (∀ W, MaxIs W → Below w2.heap.size w2 W → Calls Tryd.prog 18 #[.slice G m.length cap, .slice G' q.length cap'] W fun e w' => e = .returned (.int .i64 (KP.cmp (cols m) (cols q))) ∧ Below W.heap.size W w' ∧ MaxIs w') := Lib.hid (fun W MW hW => kcmp MW (lies_on (B := 0) HLm.out hW) (lies_on (B := 0) HLq.out hW) (by omega) (by omega) _ rfl)
      have HC2 : Hid (∀ W, MaxIs W → Below w2.heap.size w2 W → Calls Tryd.prog 18 #[.slice G' q.length cap', .slice G m.length cap] W fun e w' => e = .returned (.int .i64 (-(KP.cmp (cols m) (cols q)))) ∧ Below W.heap.size W w' ∧ MaxIs w') := Lib.hid (fun W MW hW => kcmp MW (lies_on (B := 0) HLq.out hW) (lies_on (B := 0) HLm.out hW) (by omega) (by omega) _ HSW.out)
      clear HQno HQyes HRq HRm hr hr' hP hQ hPl hQl hallm hallq hsm hsq HLm HLq HSW
      generalize hz : KP.cmp (cols m) (cols q) = z at *
      generalize m.length = k at *
      generalize q.length = k' at *
      go_wp2_with fail
      refine (HP.out _ M2 (Below.refl _ _)).mono ?_
      rintro e w3 ⟨rfl, hb3, M3⟩
      go_wp2_with fail
      refine (HQ.out _ M3 hb3).mono ?_
      rintro e w4 ⟨rfl, hb4, M4⟩
      have P4 := Lib.hid ((PR2.out.below hb3).below hb4)
      have R4 := hb3.trans' hb4
      have L4 := L2.trans' R4
      clear PR2 hb3 hb4 M2 M3 HP HQ L2
      obtain ⟨d0, d1⟩ := P4.out.cells
      obtain ⟨u, hu, hu20, hus, hu2, hts⟩ := cut_min x 20 (by omega)
      obtain ⟨u', hu', hu20', hus', hu2', hts'⟩ := cut_min y 20 (by omega)
      go_wp2_with fail
      go_quiet (fail)
      clear hu hu' hu2 hu2' d0 d1 P4
      have L5 : Below w.heap.size w (w4.drewN nq) := ⟨L4.os, L4.tape, L4.output, L4.size, L4.block⟩
      have R5 : Below w2.heap.size w2 (w4.drewN nq) := ⟨R4.os, R4.tape, R4.output, R4.size, R4.block⟩
      have M5 : MaxIs (w4.drewN nq) := M4
      clear L4 M4 R4
      generalize w4.drewN nq = W5 at *
      generalize x.extract 0 u = X at *
      generalize y.extract 0 u' = Y at *
      clear hts hts' hus hus' hu20 hu20' wx wy
      rcases HX.out with ⟨hc, heq⟩ | ⟨hc, hne, hp⟩ | ⟨hc, hne, hp⟩
      · subst hc
        obtain rfl := HPQ.out heq
        have g1 : Op.bytesLess P.toList P.toList = false := by rw [Lib.toList_data]; exact WP.less_irrefl _
        clear HX HPQ hz heq hQs
        go_wp2_with fail
        all_goals
          refine (HC1.out _ M5 R5).mono ?_
          rintro e w6 ⟨rfl, hb6, M6⟩
          go_wp2_with fail
          refine (HC2.out _ M6 (R5.trans' hb6)).mono ?_
          rintro e w7 ⟨rfl, hb7, M7⟩
          go_wp2_with fail
          refine (HF.out _ M7).mono ?_
          rintro e w8 ⟨rfl, hb8, _⟩
          go_wp2_with fail
          go_ret
          exact ⟨rfl, ((L5.trans' hb6).trans' hb7).trans' hb8⟩
      · subst hc
        have g1 : Op.bytesLess P.toList Q.toList = true := by rw [Lib.toList_data, Lib.toList_data]; exact hp.less'.1
        have g2 : Op.bytesLess (P ++ X).toList (Q ++ Y).toList = true := by rw [Lib.toList_data, Lib.toList_data]; simpa using (hp.less X.data.toList Y.data.toList).1
        have g3 : P.size ≤ Q.size → ((Q.extract 0 P.size).toList == P.toList) = false := fun _ => by rw [Lib.extract_toList, Lib.toList_data]; exact eqb_ne (by simpa using (hp.takes _).1)
        have g4 : Q.size ≤ P.size → ((P.extract 0 Q.size).toList == Q.toList) = false := fun _ => by rw [Lib.extract_toList, Lib.toList_data]; exact eqb_ne (by simpa using (hp.takes _).2)
        have g5 : (P.toList == Q.toList) = false := by rw [Lib.toList_data, Lib.toList_data]; exact eqb_ne hp.ne
        clear HX HPQ hz hp hne
        go_wp2_with fail
        all_goals
          refine (HC1.out _ M5 R5).mono ?_
          rintro e w6 ⟨rfl, hb6, M6⟩
          go_wp2_with fail
          refine (HC2.out _ M6 (R5.trans' hb6)).mono ?_
          rintro e w7 ⟨rfl, hb7, M7⟩
          go_wp2_with fail
          refine (HF.out _ M7).mono ?_
          rintro e w8 ⟨rfl, hb8, _⟩
          go_wp2_with fail
          go_ret
          exact ⟨rfl, ((L5.trans' hb6).trans' hb7).trans' hb8⟩
      · subst hc
        have g1 : Op.bytesLess P.toList Q.toList = false := by rw [Lib.toList_data, Lib.toList_data]; exact hp.less'.2
        have g2 : Op.bytesLess (P ++ X).toList (Q ++ Y).toList = false := by rw [Lib.toList_data, Lib.toList_data]; simpa using (hp.less Y.data.toList X.data.toList).2
        have g3 : P.size ≤ Q.size → ((Q.extract 0 P.size).toList == P.toList) = false := fun _ => by rw [Lib.extract_toList, Lib.toList_data]; exact eqb_ne (by simpa using (hp.takes _).2)
        have g4 : Q.size ≤ P.size → ((P.extract 0 Q.size).toList == Q.toList) = false := fun _ => by rw [Lib.extract_toList, Lib.toList_data]; exact eqb_ne (by simpa using (hp.takes _).1)
        have g5 : (P.toList == Q.toList) = false := by rw [Lib.toList_data, Lib.toList_data]; exact eqb_ne hp.ne.symm
        clear HX HPQ hz hp hne
        go_wp2_with fail
        all_goals
          refine (HC1.out _ M5 R5).mono ?_
          rintro e w6 ⟨rfl, hb6, M6⟩
          go_wp2_with fail
          refine (HC2.out _ M6 (R5.trans' hb6)).mono ?_
          rintro e w7 ⟨rfl, hb7, M7⟩
          go_wp2_with fail
          refine (HF.out _ M7).mono ?_
          rintro e w8 ⟨rfl, hb8, _⟩
          go_wp2_with fail
          go_ret
          exact ⟨rfl, ((L5.trans' hb6).trans' hb7).trans' hb8⟩
end Go.Proofs.YtdcijbclafpkmaaDoor
