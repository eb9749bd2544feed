/-
  The walk of the law KeyParts.
-/
import Derived.Test.YtdcijbclafpkmaaDoorKMore
import Derived.Deep.RegionHeld3
namespace Go.Proofs.YtdcijbclafpkmaaDoor
open Go.RowKit
set_option linter.unusedVariables false
set_option linter.unusedSimpArgs false

theorem below_drew' {B : Nat} {w W : World} (h : Below B w W) : Below B w W.drew := ⟨h.os, h.tape, h.output, h.size, h.block⟩
theorem below_drewN' {B : Nat} {w W : World} (h : Below B w W) (n : Nat) : Below B w (W.drewN n) := ⟨h.os, h.tape, h.output, h.size, h.block⟩
/-- What key.Part answers of a key's bytes. -/
theorem partV_key {P : ByteArray} {m : List QC} {k : Nat} (hP : P.data.toList = KP.key (cols m)) (ha : KP.All (cols m)) (hk : k ≤ m.length) (X : ByteArray) (hX : X = ⟨(KP.body (cols (m.take k))).toArray⟩) : partV P (k : Int) = .tuple #[.string X, .int .i64 0] := by
  unfold partV
  rw [hP, KP.get_key _ ha]
  simp only [ne_eq, not_true_eq_false, if_false, Int.toNat_natCast]
  rw [if_neg (by rw [cols_length]; omega), hX, cols_take]
theorem body_lt (m : List QC) (k : Nat) (hk : k ≤ m.length) : (KP.body (cols (m.take k))).length < (KP.key (cols m)).length ∧ (KP.key (cols m)).take (KP.body (cols (m.take k))).length = KP.body (cols (m.take k)) := by
  have h : cols m = cols (m.take k) ++ cols (m.drop k) := by rw [← cols_append, List.take_append_drop]
  have h2 : KP.key (cols m) = KP.body (cols (m.take k)) ++ (KP.body (cols (m.drop k)) ++ [1]) := by rw [KP.key, h, KP.body_append, List.append_assoc]
  rw [h2]
  constructor
  · simp
  · rw [List.take_left]

set_option maxHeartbeats 2000000 in
set_option maxRecDepth 100000 in
theorem keyParts_walk (A : Option Addr) (l : List QC) (ca : Nat) (A' : Option Addr) (l' : List QC) (ca' : Nat) (nn : Int) (w : World) (M : MaxIs w)
    (hA : Lies w w.heap.size A l) (hok : ∀ c ∈ l, CP.Ok c.col) (hs : ∀ c ∈ l, c.s.size ≤ maxLen) (hl : l.length ≤ maxLen)
    (hA' : Lies w w.heap.size A' l') (hok' : ∀ c ∈ l', CP.Ok c.col) (hs' : ∀ c ∈ l', c.s.size ≤ maxLen) (hl' : l'.length ≤ maxLen) (wn : (Lit.int .u8 nn).wf = true) :
    Calls Tryd.prog 7 #[.slice A l.length ca, .slice A' l'.length ca', .int .u8 nn] w fun e w' => e = .returned (.bool true) ∧ Below w.heap.size w w' := by
  have hnb := bounds_u8 wn
  obtain ⟨m, hm⟩ : ∃ m, m = cut8 l := ⟨_, rfl⟩
  have hsm : Small m := by rw [hm]; exact cut8_small l hok
  have hml : m.length ≤ 8 := by rw [hm, cut8_length]; omega
  obtain ⟨q, hq⟩ : ∃ q, q = cut8 l' := ⟨_, rfl⟩
  have hsq : Small q := by rw [hq]; exact cut8_small l' hok'
  have hql : q.length ≤ 8 := by rw [hq, cut8_length]; omega
  have HCUT : Hid (∀ W, MaxIs W → Below w.heap.size w W → Calls Tryd.prog 9 #[.slice A l.length ca] W fun e w' => ∃ G cap, e = .returned (.slice G m.length cap) ∧ m.length ≤ cap ∧ Lies w' w'.heap.size G m ∧ Below W.heap.size W w' ∧ MaxIs w') := Lib.hid (fun W MW hW => kcut MW ((hA.below hW).more hW.size) hs hl m hm)
  have HCUT' : Hid (∀ W, MaxIs W → Below w.heap.size w W → Calls Tryd.prog 9 #[.slice A' l'.length ca'] W fun e w' => ∃ G cap, e = .returned (.slice G q.length cap) ∧ q.length ≤ cap ∧ Lies w' w'.heap.size G q ∧ Below W.heap.size W w' ∧ MaxIs w') := Lib.hid (fun W MW hW => kcut MW ((hA'.below hW).more hW.size) hs' hl' q hq)
  have HF := Lib.hid fixed4_tells
  generalize l.length = n at *
  generalize l'.length = n' at *
  clear hA hok hs hl hA' hok' hs' hl' hm hq wn
  go_enter Tryd.func7, Tryd.ntmps7
  go_wp2_with fail
  refine (HCUT.out _ M (Below.refl _ _)).mono ?_
  rintro e w1 ⟨G, cap, rfl, hcap, hL, L1, M1⟩
  have HL := Lib.hid hL
  clear HCUT hL M
  go_wp2_with fail
  refine (HCUT'.out _ M1 L1).mono ?_
  rintro e w2 ⟨G', cap', rfl, hcap', hL', hb2, M2⟩
  have HLq := Lib.hid hL'
  have HLm := Lib.hid (lies_on (B := 0) HL.out hb2)
  have L2 := L1.trans' hb2
  clear HCUT' hL' M1 L1 hb2 HL
  have HLM : Hid (∀ W, Below w2.heap.size w2 W → Lies W W.heap.size G m) := Lib.hid (fun W hW => lies_on (B := 0) HLm.out hW)
  have HLQ : Hid (∀ W, Below w2.heap.size w2 W → Lies W W.heap.size G' q) := Lib.hid (fun W hW => lies_on (B := 0) HLq.out hW)
  clear HLq HLm
  obtain ⟨P, hP⟩ : ∃ P : ByteArray, P = ⟨(KP.key (cols m)).toArray⟩ := ⟨_, rfl⟩
  obtain ⟨Q, hQ⟩ : ∃ Q : ByteArray, Q = ⟨(KP.key (cols q)).toArray⟩ := ⟨_, rfl⟩
  have HPno : Hid (allRt m = false → ∀ W, MaxIs W → Below w2.heap.size w2 W → Calls Tryd.prog 10 #[.slice G m.length cap] W fun e w' => e = .returned (.tuple #[.string ⟨#[]⟩, .int .i64 3]) ∧ Below W.heap.size W w' ∧ MaxIs w') := Lib.hid (fun h W MW hW => kput_no MW (HLM.out W hW) hsm hml h)
  have HPyes : Hid (allRt m = true → ∀ W, MaxIs W → Below w2.heap.size w2 W → Calls Tryd.prog 10 #[.slice G m.length cap] W fun e w' => e = .returned (.tuple #[.string P, .int .i64 0]) ∧ Below W.heap.size W w' ∧ MaxIs w') := Lib.hid (fun h W MW hW => kput_yes MW (HLM.out W hW) hsm hml h P hP)
  have HQno : Hid (allRt q = false → ∀ W, MaxIs W → Below w2.heap.size w2 W → Calls Tryd.prog 10 #[.slice G' q.length cap'] W fun e w' => e = .returned (.tuple #[.string ⟨#[]⟩, .int .i64 3]) ∧ Below W.heap.size W w' ∧ MaxIs w') := Lib.hid (fun h W MW hW => kput_no MW (HLQ.out W hW) hsq hql h)
  have HQyes : Hid (allRt q = true → ∀ W, MaxIs W → Below w2.heap.size w2 W → Calls Tryd.prog 10 #[.slice G' q.length cap'] W fun e w' => e = .returned (.tuple #[.string Q, .int .i64 0]) ∧ Below W.heap.size W w' ∧ MaxIs w') := Lib.hid (fun h W MW hW => kput_yes MW (HLQ.out W hW) hsq hql h Q hQ)
  cases hr : allRt m with
  | false =>
    have HP := Lib.hid (HPno.out hr)
    have HQE : Hid (∃ (p : ByteArray) (pe : Int), ∀ W, MaxIs W → Below w2.heap.size w2 W → Calls Tryd.prog 10 #[.slice G' q.length cap'] W fun e w' => e = .returned (.tuple #[.string p, .int .i64 pe]) ∧ Below W.heap.size W w' ∧ MaxIs w') := Lib.hid (by
      cases hr : allRt q with
      | false => exact ⟨_, _, HQno.out hr⟩
      | true => exact ⟨_, _, HQyes.out hr⟩)
    obtain ⟨r, re, hre⟩ := HQE.out
    have HQ := Lib.hid hre
    clear HPno HPyes HQno HQyes hre HQE hP hQ hr HLM HLQ hsm hsq
    generalize m.length = k at *
    generalize q.length = k' at *
    go_wp2_with fail
    refine (HP.out _ M2 (Below.refl _ _)).mono ?_
    rintro e w6 ⟨rfl, hb6, M6⟩
    go_wp2_with fail
    refine (HQ.out _ M6 hb6).mono ?_
    rintro e w7 ⟨rfl, hb7, M7⟩
    go_wp2_with fail
    all_goals
      refine (HF.out _ M7).mono ?_
      rintro e w10 ⟨rfl, hb10, _⟩
      go_wp2_with fail
      go_ret
      exact ⟨rfl, ((L2.trans' hb6).trans' hb7).trans' hb10⟩
  | true =>
    have HP := Lib.hid (HPyes.out hr)
    clear HPno HPyes
    cases hr' : allRt q with
    | false =>
      have HQ := Lib.hid (HQno.out hr')
      clear HQno HQyes hP hQ hr hr' HLM HLQ hsm hsq
      generalize m.length = k at *
      generalize q.length = k' at *
      go_wp2_with fail
      refine (HP.out _ M2 (Below.refl _ _)).mono ?_
      rintro e w6 ⟨rfl, hb6, M6⟩
      go_wp2_with fail
      refine (HQ.out _ M6 hb6).mono ?_
      rintro e w7 ⟨rfl, hb7, M7⟩
      go_wp2_with fail
      refine (HF.out _ M7).mono ?_
      rintro e w10 ⟨rfl, hb10, _⟩
      go_wp2_with fail
      go_ret
      exact ⟨rfl, ((L2.trans' hb6).trans' hb7).trans' hb10⟩
    | true =>
      have HQ := Lib.hid (HQyes.out hr')
      have hallm := allRt_all hr hsm.ok
      have hallq := allRt_all hr' hsq.ok
      have hPl : P.data.toList = KP.key (cols m) := by rw [hP]
      have hQl : Q.data.toList = KP.key (cols q) := by rw [hQ]
      have hPs : P.size ≤ 1041 := by rw [show P.size = P.data.toList.length by simp, hPl]; exact key_size hsm hml hr
      obtain ⟨k, hk⟩ : ∃ k : Nat, k = nn.toNat % (m.length + 1) := ⟨_, rfl⟩
      have hkm : k ≤ m.length := by rw [hk]; have := Nat.mod_lt nn.toNat (show 0 < m.length + 1 by omega); omega
      have hka : (nn.tmod ((m.length : Int) + 1)) = (k : Int) := by
        obtain ⟨b, rfl⟩ := Int.eq_ofNat_of_zero_le hnb.1
        rw [hk, Int.toNat_natCast]
        rfl
      have hkt : (m.take k).length = k := by simp; omega
      obtain ⟨X, hX⟩ : ∃ X : ByteArray, X = ⟨(KP.body (cols (m.take k))).toArray⟩ := ⟨_, rfl⟩
      have hXl : X.data.toList = KP.body (cols (m.take k)) := by rw [hX]
      have hXs : X.size = (KP.body (cols (m.take k))).length := by rw [← hXl]; simp
      obtain ⟨hbl, hbt⟩ := body_lt m k hkm
      have hxp : X.size < P.size := by rw [hXs, show P.size = P.data.toList.length by simp, hPl]; exact hbl
      have hxe : P.extract 0 X.size = X := bytes_of_list (by rw [Lib.extract_data, hPl, List.drop_zero, Nat.sub_zero, hXs, hbt, hXl])
      have HPT : Hid (∀ W, MaxIs W → Calls Tryd.prog 15 #[.string P, .int .i64 k] W fun e w' => e = .returned (.tuple #[.string X, .int .i64 0]) ∧ Below W.heap.size W w' ∧ MaxIs w') := Lib.hid (fun W MW => by
        have h := keyPart_any P (k : Int) W MW (by omega) (fun cs hc _ => by
          rw [hPl, KP.get_key _ hallm] at hc
          have e : cs = m := by rw [qc_of hc, qc_inv]
          subst e
          exact ⟨hsm.ok, by omega, hr⟩) (by simp [Lit.wf, IntKind.min, IntKind.max, IntKind.signed, IntKind.bits]; omega)
        rw [partV_key hPl hallm hkm X hX] at h
        exact h.mono fun e w' ⟨he, hb⟩ => ⟨he, hb, MW.below hb⟩)
      have hone : (⟨#[1]⟩ : ByteArray).size = 1 := rfl
      have hno : ¬ 9223372036854775807 < X.size + (⟨#[1]⟩ : ByteArray).size := by rw [hone]; omega
      have HG : Hid (∀ W, MaxIs W → Calls Tryd.prog 13 #[.string (X ++ ⟨#[1]⟩)] W fun e w' => ∃ G cap, e = .returned (.tuple #[.slice G k cap, .int .i64 0]) ∧ k ≤ cap ∧ Lies w' w'.heap.size G (m.take k) ∧ Below W.heap.size W w' ∧ MaxIs w') := Lib.hid (fun W MW => by
        have h := kget (X ++ ⟨#[1]⟩) (m.take k) 0 (by rw [ByteArray.size_append, hone]; omega) (by
          rw [show (X ++ ⟨#[1]⟩ : ByteArray).data.toList = KP.key (cols (m.take k)) by simp [hXl, KP.key], KP.get_key _ (by rw [cols_take]; exact hallm.take k)]) W MW
        rwa [hkt] at h)
      have HREF : Hid (∀ W B c z, z.length = k → MaxIs W → Lies W W.heap.size B z → Calls Tryd.prog 12 #[.slice B k c] W fun e w' => ∃ G cap, e = .returned (.slice G k cap) ∧ Lies w' w'.heap.size G z ∧ Below W.heap.size W w' ∧ MaxIs w') := Lib.hid (fun W B c z hz MW h => by
        have h2 := kref (ca := c) MW h (by omega)
        rwa [hz] at h2)
      have HSAME : Hid (∀ W B B' c c' z z' b, z.length = k → z'.length = k → sameL z z' = b → MaxIs W → Lies W W.heap.size B z → Lies W W.heap.size B' z' → Calls Tryd.prog 20 #[.slice B k c, .slice B' k c'] W fun e w' => e = .returned (.bool b) ∧ Below W.heap.size W w' ∧ MaxIs w') := Lib.hid (fun W B B' c c' z z' b hz hz' hb MW h h' => by
        have h2 := ksame (ca := c) (cb := c') MW h h' (by omega) (by omega) b hb
        rwa [hz, hz'] at h2)
      have HLT : Hid (∀ W, Below w2.heap.size w2 W → Lies W W.heap.size G (m.take k)) := Lib.hid (fun W hW => (HLM.out W hW).take k)
      have HLU : Hid (∀ W, Below w2.heap.size w2 W → Lies W W.heap.size G' (q.take k)) := Lib.hid (fun W hW => (HLQ.out W hW).take k)
      have HPRE : Hid (X.data.toList <+: Q.data.toList ↔ cols (m.take k) <+: cols q) := Lib.hid (by rw [hXl, hQl]; exact KP.pre_iff _ _ (by rw [cols_take]; exact hallm.take k) hallq)
      have HSE := Lib.hid (sameL_yes (l := m.take k) (m := m.take k) rfl)
      have HB : Hid (k ≤ q.length → (sameL (q.take k) (m.take k) = true ↔ cols (m.take k) <+: cols q)) := Lib.hid (fun h => by
        rw [sameL_iff, KP.take_pre, cols_length, cols_length, hkt, cols_take q]
        exact ⟨fun e => ⟨h, e⟩, fun e => e.2⟩)
      have HKQ : Hid (cols (m.take k) <+: cols q → k ≤ q.length) := Lib.hid (fun h => by have h2 := h.length_le; rwa [cols_length, cols_length, hkt] at h2)
      have HQT : Hid (k ≤ q.length → (q.take k).length = k) := Lib.hid (fun h => by simp; omega)
      have HKT := Lib.hid hkt
      clear hP hQ hr hr' hsm hsq hallm hallq hPl hQl hX hXl hXs hbl hbt HLM HLQ HQno HQyes hone hkt hk
      generalize hml' : m.length = mk at *
      generalize hql' : q.length = qk at *
      clear hml' hql'
      go_wp2_with fail
      refine (HP.out _ M2 (Below.refl _ _)).mono ?_
      rintro e w3 ⟨rfl, R3, M3⟩
      go_wp2_with fail
      refine (HQ.out _ M3 R3).mono ?_
      rintro e w4 ⟨rfl, hb4, M4⟩
      have R4 := R3.trans' hb4
      clear hb4 R3 M3 HP HQ M2
      go_wp2_with fail
      refine (HPT.out _ M4).mono ?_
      rintro e w5 ⟨rfl, hb5, M5⟩
      have R5 := R4.trans' hb5
      clear hb5 R4 M4 HPT
      go_wp2_with fail
      refine (HG.out _ M5).mono ?_
      rintro e w6 ⟨G6, cap6, rfl, hcap6, hL6, hb6, M6⟩
      have HL6 := Lib.hid hL6
      have R6 := R5.trans' hb6
      clear hb6 R5 M5 HG hL6 hxe hno hka hnb
      have k0 : (0 : Int) ≤ (k : Int) := by omega
      have kc : (k : Int) ≤ (cap : Int) := by omega
      by_cases hpre : X.data.toList <+: Q.data.toList
      · have hcp := HPRE.out.1 hpre
        have hle := HKQ.out hcp
        have HSB := Lib.hid ((HB.out hle).2 hcp)
        have hx1 : X.size ≤ Q.size := by have h := hpre.length_le; simpa using h
        have hx2 : ((Q.extract 0 X.size).toList == X.toList) = true := by
          rw [beq_iff_eq, Lib.extract_toList, Lib.toList_data]
          have h := List.prefix_iff_eq_take.1 hpre
          simpa using h.symm
        clear hcp hpre HPRE HB HKQ
        have hmin : min (k : Int) (qk : Int) = k := by omega
        have kc' : (k : Int) ≤ (cap' : Int) := by omega
        have hge : decide ((k : Int) ≤ qk) = true := decide_eq_true (by omega)
        have HQK := Lib.hid (HQT.out hle)
        go_wp2_with fail
        go_region_held3 (fun _ => True) (trivial) (first
          | (go_at_call 20; refine (HSAME.out _ _ _ _ _ _ _ true HQK.out HKT.out HSB.out M8 (lies_on (B := 0) HL7.out hb8) HL8.out).mono ?_; rintro e w9 ⟨rfl, hb9, M9⟩)
          | (go_at_call 12; have hz := hb7; clear hz; refine (HREF.out _ _ _ (m.take k) HKT.out M7 (HLT.out _ ((below_drew' R6).trans' hb7))).mono ?_; rintro e w8 ⟨G8, cap8, rfl, hL8, hb8, M8⟩; have HL8 := Lib.hid hL8; clear hL8)
          | (go_at_call 12; refine (HREF.out _ _ _ (q.take k) HQK.out M6.drew (HLU.out _ (below_drew' R6))).mono ?_; rintro e w7 ⟨G7, cap7, rfl, hL7, hb7, M7⟩; have HL7 := Lib.hid hL7; clear hL7)
          | fail "no arm")
        have R9 := (((below_drew' R6).trans' hb7).trans' hb8).trans' hb9
        have HG9 := Lib.hid (lies_on (B := 0) (lies_on (B := 0) (lies_on (B := 0) (W := w6.drew) HL6.out hb7) hb8) hb9)
        have R10 := below_drew' R9
        have M10 : MaxIs w9.drew := M9
        have HG10 : Hid (Lies w9.drew w9.drew.heap.size G6 (m.take k)) := HG9
        clear hb7 hb8 hb9 M6 M7 M8 HL7 HL8 hmin hge HL6 R6
        go_wp2_with fail
        go_region_held3 (fun _ => True) (trivial) (first
          | (go_at_call 21; refine (HF.out _ (by first | assumption)).mono ?_; rintro e w20 ⟨rfl, hb20, _⟩)
          | (go_at_call 20; refine (HSAME.out _ _ _ _ _ _ _ true HKT.out HKT.out HSE.out M12 (lies_on (B := 0) HL11.out hb12) HL12.out).mono ?_; rintro e w13 ⟨rfl, hb13, M13⟩)
          | (go_at_call 12; have hz := hb11; clear hz; refine (HREF.out _ _ _ (m.take k) HKT.out M11 (HLT.out _ (R10.trans' hb11))).mono ?_; rintro e w12 ⟨G12, cap12, rfl, hL12, hb12, M12⟩; have HL12 := Lib.hid hL12; clear hL12)
          | (go_at_call 12; refine (HREF.out _ _ _ (m.take k) HKT.out M10 HG10.out).mono ?_; rintro e w11 ⟨G11, cap11, rfl, hL11, hb11, M11⟩; have HL11 := Lib.hid hL11; clear hL11)
          | fail "no arm")
        go_wp2_with fail
        go_ret
        exact ⟨rfl, ((((L2.trans' R10).trans' hb11).trans' hb12).trans' hb13).trans' hb20⟩
      · have hnp : ¬ cols (m.take k) <+: cols q := fun h => hpre (HPRE.out.2 h)
        have hx2 : X.size ≤ Q.size → ((Q.extract 0 X.size).toList == X.toList) = false := fun hx => by
          rw [beq_eq_false_iff_ne, Lib.extract_toList, Lib.toList_data]
          intro e
          refine hpre ?_
          have h2 : Q.data.toList.take X.size = X.data.toList := by simpa using e
          rw [← h2]
          exact List.take_prefix _ _
        by_cases hle : k ≤ qk
        · have HSB : Hid (sameL (q.take k) (m.take k) = false) := Lib.hid (by
            cases hb : sameL (q.take k) (m.take k) with
            | false => rfl
            | true => exact absurd ((HB.out hle).1 hb) hnp)
          clear hnp hpre HPRE HB HKQ
          have hmin : min (k : Int) (qk : Int) = k := by omega
          have kc' : (k : Int) ≤ (cap' : Int) := by omega
          have hge : decide ((k : Int) ≤ qk) = true := decide_eq_true (by omega)
          have HQK := Lib.hid (HQT.out hle)
          go_wp2_with fail
          go_region_held3 (fun _ => True) (trivial) (first
            | (go_at_call 20; refine (HSAME.out _ _ _ _ _ _ _ false HQK.out HKT.out HSB.out M8 (lies_on (B := 0) HL7.out hb8) HL8.out).mono ?_; rintro e w9 ⟨rfl, hb9, M9⟩)
            | (go_at_call 12; have hz := hb7; clear hz; refine (HREF.out _ _ _ (m.take k) HKT.out M7 (HLT.out _ ((below_drew' R6).trans' hb7))).mono ?_; rintro e w8 ⟨G8, cap8, rfl, hL8, hb8, M8⟩; have HL8 := Lib.hid hL8; clear hL8)
            | (go_at_call 12; refine (HREF.out _ _ _ (q.take k) HQK.out M6.drew (HLU.out _ (below_drew' R6))).mono ?_; rintro e w7 ⟨G7, cap7, rfl, hL7, hb7, M7⟩; have HL7 := Lib.hid hL7; clear hL7)
            | fail "no arm")
          have R9 := (((below_drew' R6).trans' hb7).trans' hb8).trans' hb9
          have HG9 := Lib.hid (lies_on (B := 0) (lies_on (B := 0) (lies_on (B := 0) (W := w6.drew) HL6.out hb7) hb8) hb9)
          have R10 := below_drew' R9
          have M10 : MaxIs w9.drew := M9
          have HG10 : Hid (Lies w9.drew w9.drew.heap.size G6 (m.take k)) := HG9
          clear hb7 hb8 hb9 M6 M7 M8 HL7 HL8 hmin hge HL6 R6
          by_cases hxq : X.size ≤ Q.size
          · have hx3 := hx2 hxq
            clear hx2
            go_wp2_with fail
            go_region_held3 (fun _ => True) (trivial) (first
              | (go_at_call 21; refine (HF.out _ (by first | assumption)).mono ?_; rintro e w20 ⟨rfl, hb20, _⟩)
              | (go_at_call 20; refine (HSAME.out _ _ _ _ _ _ _ true HKT.out HKT.out HSE.out M12 (lies_on (B := 0) HL11.out hb12) HL12.out).mono ?_; rintro e w13 ⟨rfl, hb13, M13⟩)
              | (go_at_call 12; have hz := hb11; clear hz; refine (HREF.out _ _ _ (m.take k) HKT.out M11 (HLT.out _ (R10.trans' hb11))).mono ?_; rintro e w12 ⟨G12, cap12, rfl, hL12, hb12, M12⟩; have HL12 := Lib.hid hL12; clear hL12)
              | (go_at_call 12; refine (HREF.out _ _ _ (m.take k) HKT.out M10 HG10.out).mono ?_; rintro e w11 ⟨G11, cap11, rfl, hL11, hb11, M11⟩; have HL11 := Lib.hid hL11; clear hL11)
              | fail "no arm")
            go_wp2_with fail
            go_ret
            exact ⟨rfl, ((((L2.trans' R10).trans' hb11).trans' hb12).trans' hb13).trans' hb20⟩
          · clear hx2
            go_wp2_with fail
            go_region_held3 (fun _ => True) (trivial) (first
              | (go_at_call 21; refine (HF.out _ (by first | assumption)).mono ?_; rintro e w20 ⟨rfl, hb20, _⟩)
              | (go_at_call 20; refine (HSAME.out _ _ _ _ _ _ _ true HKT.out HKT.out HSE.out M12 (lies_on (B := 0) HL11.out hb12) HL12.out).mono ?_; rintro e w13 ⟨rfl, hb13, M13⟩)
              | (go_at_call 12; have hz := hb11; clear hz; refine (HREF.out _ _ _ (m.take k) HKT.out M11 (HLT.out _ (R10.trans' hb11))).mono ?_; rintro e w12 ⟨G12, cap12, rfl, hL12, hb12, M12⟩; have HL12 := Lib.hid hL12; clear hL12)
              | (go_at_call 12; refine (HREF.out _ _ _ (m.take k) HKT.out M10 HG10.out).mono ?_; rintro e w11 ⟨G11, cap11, rfl, hL11, hb11, M11⟩; have HL11 := Lib.hid hL11; clear hL11)
              | fail "no arm")
            go_wp2_with fail
            go_ret
            exact ⟨rfl, ((((L2.trans' R10).trans' hb11).trans' hb12).trans' hb13).trans' hb20⟩
        · clear hnp hpre HPRE HB HKQ HQT HLU
          have hge : decide ((k : Int) ≤ qk) = false := decide_eq_false (by omega)
          go_wp2_with fail
          go_quiet (fail)
          have R9 := below_drewN' R6 nq
          have R10 := below_drew' R9
          have M10 : MaxIs (w6.drewN nq).drew := M6
          have HG10 : Hid (Lies (w6.drewN nq).drew (w6.drewN nq).drew.heap.size G6 (m.take k)) := HL6
          clear M6 HL6 R6 hge
          by_cases hxq : X.size ≤ Q.size
          · have hx3 := hx2 hxq
            clear hx2
            go_wp2_with fail
            go_region_held3 (fun _ => True) (trivial) (first
              | (go_at_call 21; refine (HF.out _ (by first | assumption)).mono ?_; rintro e w20 ⟨rfl, hb20, _⟩)
              | (go_at_call 20; refine (HSAME.out _ _ _ _ _ _ _ true HKT.out HKT.out HSE.out M12 (lies_on (B := 0) HL11.out hb12) HL12.out).mono ?_; rintro e w13 ⟨rfl, hb13, M13⟩)
              | (go_at_call 12; have hz := hb11; clear hz; refine (HREF.out _ _ _ (m.take k) HKT.out M11 (HLT.out _ (R10.trans' hb11))).mono ?_; rintro e w12 ⟨G12, cap12, rfl, hL12, hb12, M12⟩; have HL12 := Lib.hid hL12; clear hL12)
              | (go_at_call 12; refine (HREF.out _ _ _ (m.take k) HKT.out M10 HG10.out).mono ?_; rintro e w11 ⟨G11, cap11, rfl, hL11, hb11, M11⟩; have HL11 := Lib.hid hL11; clear hL11)
              | fail "no arm")
            go_wp2_with fail
            go_ret
            exact ⟨rfl, ((((L2.trans' R10).trans' hb11).trans' hb12).trans' hb13).trans' hb20⟩
          · clear hx2
            go_wp2_with fail
            go_region_held3 (fun _ => True) (trivial) (first
              | (go_at_call 21; refine (HF.out _ (by first | assumption)).mono ?_; rintro e w20 ⟨rfl, hb20, _⟩)
              | (go_at_call 20; refine (HSAME.out _ _ _ _ _ _ _ true HKT.out HKT.out HSE.out M12 (lies_on (B := 0) HL11.out hb12) HL12.out).mono ?_; rintro e w13 ⟨rfl, hb13, M13⟩)
              | (go_at_call 12; have hz := hb11; clear hz; refine (HREF.out _ _ _ (m.take k) HKT.out M11 (HLT.out _ (R10.trans' hb11))).mono ?_; rintro e w12 ⟨G12, cap12, rfl, hL12, hb12, M12⟩; have HL12 := Lib.hid hL12; clear hL12)
              | (go_at_call 12; refine (HREF.out _ _ _ (m.take k) HKT.out M10 HG10.out).mono ?_; rintro e w11 ⟨G11, cap11, rfl, hL11, hb11, M11⟩; have HL11 := Lib.hid hL11; clear hL11)
              | fail "no arm")
            go_wp2_with fail
            go_ret
            exact ⟨rfl, ((((L2.trans' R10).trans' hb11).trans' hb12).trans' hb13).trans' hb20⟩
end Go.Proofs.YtdcijbclafpkmaaDoor
