/-
  The walk of the law KeyTells.
-/
import Derived.Test.YtdcijbclafpkmaaDoorKBack
import Derived.Test.YtdcijbclafpkmaaDoorKDPart
namespace Go.Proofs.YtdcijbclafpkmaaDoor
open Go.RowKit
set_option linter.unusedVariables false
set_option linter.unusedSimpArgs false

/-- A block that holds a text and a place. -/
def PBox (g : Nat) (s : ByteArray) (a : Int) (w : World) : Prop := w.heap[g]? = some (.cells #[.string s, .int .i64 a] 24 (0, 0))
theorem PBox.below {g : Nat} {s : ByteArray} {a : Int} {w w' : World} (h : PBox g s a w) (b : Below w.heap.size w w') : PBox g s a w' := (b.block g (lt_of_heap h)).trans h
theorem PBox.cells {g : Nat} {s : ByteArray} {a : Int} {w : World} (h : PBox g s a w) : w.cell? ⟨g, 0, none⟩ = some (.string s) ∧ w.cell? ⟨g, 1, none⟩ = some (.int .i64 a) := by
  unfold PBox at h
  refine ⟨?_, ?_⟩ <;> simp [World.cell?, h]

/-- What a Get answers, in any world at hand: a row whose columns are the key's. -/
theorem kgot (s : ByteArray) (hs : s.size ≤ 1200) (W : World) (M : MaxIs W) (l : List CP.Col) (er : Nat) (h : KP.get s.data.toList = (l, er)) :
    Calls Tryd.prog 13 #[.string s] W fun e w' => ∃ G cap, e = .returned (.tuple #[.slice G (l.map qc).length cap, .int .i64 er]) ∧ Lies w' w'.heap.size G (l.map qc) ∧ Below W.heap.size W w' ∧ MaxIs w' :=
  (kget s (l.map qc) er hs (by rw [cols_qc]; exact h) W M).mono fun e w' ⟨G, cap, he, _, hL, hb, hM⟩ => ⟨G, cap, he, hL, hb, hM⟩
theorem dkgot (s : ByteArray) (hs : s.size ≤ 1200) (W : World) (M : MaxIs W) (l : List CP.Col) (er : Nat) (h : KP.get s.data.toList = (l, er)) :
    Calls Tryd.prog 14 #[.string s] W fun e w' => ∃ G cap, e = .returned (.tuple #[.slice G (l.map qc).length cap, .int .i64 er]) ∧ Lies w' w'.heap.size G (l.map qc) ∧ Below W.heap.size W w' ∧ MaxIs w' :=
  (dkeyGet_any s hs W).mono fun e w' ⟨v, cs, he, hc, ho, hb⟩ => by
    rw [h] at he hc
    have hcs : cs = l.map qc := qc_of hc
    subst hcs
    obtain ⟨G, cap, rfl, hcap⟩ := got_form ho
    exact ⟨G, cap, he, lies_own ho rfl, hb, M.below hb⟩
theorem keyV_form (m : List QC) : ∃ (P : ByteArray) (E : Int), keyV m = .tuple #[.string P, .int .i64 E] := by
  unfold keyV
  split <;> exact ⟨_, _, rfl⟩
theorem partV_form (s : ByteArray) (n : Int) : ∃ (P : ByteArray) (E : Int), partV s n = .tuple #[.string P, .int .i64 E] := by
  unfold partV
  split
  · exact ⟨_, _, rfl⟩
  · split <;> exact ⟨_, _, rfl⟩

set_option maxHeartbeats 2000000 in
set_option maxRecDepth 100000 in
theorem keyTells_walk (A : Option Addr) (l : List QC) (ca : Nat) (A' : Option Addr) (l' : List QC) (ca' : Nat) (s : ByteArray) (a : Int) (w : World) (M : MaxIs w)
    (hA : Lies w w.heap.size A l) (hok : ∀ c ∈ l, CP.Ok c.col) (hs : ∀ c ∈ l, c.s.size ≤ maxLen) (hl : l.length ≤ maxLen)
    (hA' : Lies w w.heap.size A' l') (hok' : ∀ c ∈ l', CP.Ok c.col) (hs' : ∀ c ∈ l', c.s.size ≤ maxLen) (hl' : l'.length ≤ maxLen) (ws : s.size ≤ maxLen) (wa : (Lit.int .i64 a).wf = true) :
    Calls Tryd.prog 3 #[.slice A l.length ca, .slice A' l'.length ca', .agg #[.string s, .int .i64 a]] w fun e w' => e = .returned (.bool true) ∧ Below w.heap.size w w' := by
  unfold maxLen at ws
  obtain ⟨m, hm⟩ : ∃ m, m = cut8 l := ⟨_, rfl⟩
  have hsm : Small m := by rw [hm]; exact cut8_small l hok
  have hml : m.length ≤ 8 := by rw [hm, cut8_length]; omega
  obtain ⟨q, hq⟩ : ∃ q, q = cut8 l' := ⟨_, rfl⟩
  have hsq : Small q := by rw [hq]; exact cut8_small l' hok'
  have hql : q.length ≤ 8 := by rw [hq, cut8_length]; omega
  have HCUT : Hid (∀ W, MaxIs W → Below w.heap.size w W → Calls Tryd.prog 9 #[.slice A l.length ca] W fun e w' => ∃ G cap, e = .returned (.slice G m.length cap) ∧ m.length ≤ cap ∧ Lies w' w'.heap.size G m ∧ Below W.heap.size W w' ∧ MaxIs w') := Lib.hid (fun W MW hW => kcut MW ((hA.below hW).more hW.size) hs hl m hm)
  have HCUT' : Hid (∀ W, MaxIs W → Below w.heap.size w W → Calls Tryd.prog 9 #[.slice A' l'.length ca'] W fun e w' => ∃ G cap, e = .returned (.slice G q.length cap) ∧ q.length ≤ cap ∧ Lies w' w'.heap.size G q ∧ Below W.heap.size W w' ∧ MaxIs w') := Lib.hid (fun W MW hW => kcut MW ((hA'.below hW).more hW.size) hs' hl' q hq)
  have HF := Lib.hid fixed4_tells
  have PB0 : Hid (PBox w.heap.size s a (w.alloc (.cells #[.string s, .int .i64 a] 24))) := Lib.hid (heap_alloc_new w _)
  have M0 := M.alloc (.cells #[.string s, .int .i64 a] 24)
  have L0 : Below w.heap.size w (w.alloc (.cells #[.string s, .int .i64 a] 24)) := below_alloc _ _
  obtain ⟨u, hu, hu1, hus, hu2, hts⟩ := cut_min s 200 (by omega)
  have HTS := Lib.hid hts
  generalize l.length = n at *
  generalize l'.length = n' at *
  clear hA hok hs hl hA' hok' hs' hl' hm hq M hts
  go_enter Tryd.func3, Tryd.ntmps3
  go_wp2_with fail
  refine (HCUT.out _ M0 L0).mono ?_
  rintro e w1 ⟨G, cap, rfl, hcap, hL, hb1, M1⟩
  have HL := Lib.hid hL
  have L1 := L0.trans' hb1
  have PB1 := Lib.hid (PB0.out.below hb1)
  clear HCUT hL hcap M0 L0 PB0 hb1
  go_wp2_with fail
  refine (HCUT'.out _ M1 L1).mono ?_
  rintro e w2 ⟨G', cap', rfl, hcap', hL', hb2, M2⟩
  have HLq := Lib.hid hL'
  have HLm := Lib.hid (lies_on (B := 0) HL.out hb2)
  have L2 := L1.trans' hb2
  have PB2 := Lib.hid (PB1.out.below hb2)
  clear HCUT' hL' hcap' M1 L1 PB1 hb2 HL
  obtain ⟨c0, c1⟩ := PB2.out.cells
  go_wp2_with fail
  clear hu hu2 c0 c1
  generalize s.extract 0 u = t at *
  obtain rfl := HTS.out
  clear HTS
  obtain ⟨P, E, hPE⟩ := keyV_form m
  obtain ⟨T, I, hTI⟩ := partV_form t a
  obtain ⟨gl, ge, hg⟩ : ∃ gl ge, KP.get t.data.toList = (gl, ge) := ⟨_, _, rfl⟩
  have HPUT := Lib.hid (kput G m cap _ hPE hsm.ok (by omega) w2 M2 HLm.out)
  have HREF : Hid (∀ W, MaxIs W → Below w2.heap.size w2 W → Calls Tryd.prog 12 #[.slice G m.length cap] W fun e w' => ∃ G cap, e = .returned (.slice G m.length cap) ∧ Lies w' w'.heap.size G m ∧ Below W.heap.size W w' ∧ MaxIs w') := Lib.hid (fun W MW hW => kref MW (lies_on (B := 0) HLm.out hW) (by omega))
  have HREFq : Hid (∀ W, MaxIs W → Below w2.heap.size w2 W → Calls Tryd.prog 12 #[.slice G' q.length cap'] W fun e w' => ∃ G cap, e = .returned (.slice G q.length cap) ∧ Lies w' w'.heap.size G q ∧ Below W.heap.size W w' ∧ MaxIs w') := Lib.hid (fun W MW hW => kref MW (lies_on (B := 0) HLq.out hW) (by omega))
  have HDP : Hid (∀ W B c, MaxIs W → Lies W W.heap.size B m → Calls Tryd.prog 11 #[.slice B m.length c] W fun e w' => e = .returned (.tuple #[.string P, .int .i64 E]) ∧ Below W.heap.size W w' ∧ MaxIs w') := Lib.hid (fun W B c MW hW => (dkeyPut_any B m c W hW hsm.ok (by omega)).mono fun e w' ⟨he, hb⟩ => ⟨by rw [he, hPE], hb, MW.below hb⟩)
  have HG : Hid (∀ W, MaxIs W → Calls Tryd.prog 13 #[.string t] W fun e w' => ∃ G cap, e = .returned (.tuple #[.slice G (gl.map qc).length cap, .int .i64 ge]) ∧ Lies w' w'.heap.size G (gl.map qc) ∧ Below W.heap.size W w' ∧ MaxIs w') := Lib.hid (fun W MW => kgot t (by omega) W MW gl ge hg)
  have HDG : Hid (∀ W, MaxIs W → Calls Tryd.prog 14 #[.string t] W fun e w' => ∃ G cap, e = .returned (.tuple #[.slice G (gl.map qc).length cap, .int .i64 ge]) ∧ Lies w' w'.heap.size G (gl.map qc) ∧ Below W.heap.size W w' ∧ MaxIs w') := Lib.hid (fun W MW => dkgot t (by omega) W MW gl ge hg)
  have HPT : Hid (∀ W, MaxIs W → Calls Tryd.prog 15 #[.string t, .int .i64 a] W fun e w' => e = .returned (.tuple #[.string T, .int .i64 I]) ∧ Below W.heap.size W w' ∧ MaxIs w') := Lib.hid (fun W MW => kpart t a _ (by omega) wa hTI W MW)
  have HDT : Hid (∀ W, MaxIs W → Calls Tryd.prog 16 #[.string t, .int .i64 a] W fun e w' => e = .returned (.tuple #[.string T, .int .i64 I]) ∧ Below W.heap.size W w' ∧ MaxIs w') := Lib.hid (fun W MW => (dkeyPart_any t a W (by omega) (fun cs h h0 => got_ok (by omega) (cs := cs) h h0) wa).mono fun e w' ⟨he, hb⟩ => ⟨by rw [he, hTI], hb, MW.below hb⟩)
  have HRm : Hid (∀ W, MaxIs W → Below w2.heap.size w2 W → Calls Tryd.prog 17 #[.slice G m.length cap] W fun e w' => e = .returned (.bool (allRt m)) ∧ Below W.heap.size W w' ∧ MaxIs w') := Lib.hid (fun W MW hW => kright MW (lies_on (B := 0) HLm.out hW) hsm hml _ rfl)
  have HRq : Hid (∀ W, MaxIs W → Below w2.heap.size w2 W → Calls Tryd.prog 17 #[.slice G' q.length cap'] W fun e w' => e = .returned (.bool (allRt q)) ∧ Below W.heap.size W w' ∧ MaxIs w') := Lib.hid (fun W MW hW => kright MW (lies_on (B := 0) HLq.out hW) hsq hql _ rfl)
  have hgll : gl.length ≤ 1000 := by
    by_cases h0 : ge = 0
    · have h := KP.get_once (s := t.data.toList) (l := gl) (by rw [hg, h0])
      have h2 : t.data.toList.length = t.size := by simp
      omega
    · have h := KP.get_no (s := t.data.toList) (by rw [hg]; exact h0)
      rw [hg] at h
      simp only at h
      rw [h]
      simp
  have HSM : Hid (∀ W B B' c c', MaxIs W → Lies W W.heap.size B (gl.map qc) → Lies W W.heap.size B' (gl.map qc) → Calls Tryd.prog 20 #[.slice B (gl.map qc).length c, .slice B' (gl.map qc).length c'] W fun e w' => e = .returned (.bool true) ∧ Below W.heap.size W w' ∧ MaxIs w') := Lib.hid (fun W B B' c c' MW h h' => ksame MW h h' (by simpa using hgll) (by simpa using hgll) true (sameL_yes rfl))
  have HRG : Hid (∀ W B c, MaxIs W → Lies W W.heap.size B (gl.map qc) → Calls Tryd.prog 12 #[.slice B (gl.map qc).length c] W fun e w' => ∃ G cap, e = .returned (.slice G (gl.map qc).length cap) ∧ Lies w' w'.heap.size G (gl.map qc) ∧ Below W.heap.size W w' ∧ MaxIs w') := Lib.hid (fun W B c MW h => kref MW h (by simpa using hgll))
  have HCM : Hid (allRt m = true → allRt q = true → ∃ z : Int, (∀ W, MaxIs W → Below w2.heap.size w2 W → Calls Tryd.prog 18 #[.slice G m.length cap, .slice G' q.length cap'] W fun e w' => e = .returned (.int .i64 z) ∧ Below W.heap.size W w' ∧ MaxIs w') ∧
      (∀ W B B' c c', MaxIs W → Lies W W.heap.size B m → Lies W W.heap.size B' q → Calls Tryd.prog 19 #[.slice B m.length c, .slice B' q.length c'] W fun e w' => e = .returned (.int .i64 z) ∧ Below W.heap.size W w' ∧ MaxIs w')) := Lib.hid (fun h1 h2 => ⟨KP.cmp (cols m) (cols q), fun W MW hW => kcmp MW (lies_on (B := 0) HLm.out hW) (lies_on (B := 0) HLq.out hW) (by omega) (by omega) _ rfl,
        fun W B B' c c' MW h h' => (dkeyCmp_any B B' m q c c' W h h' (by omega) (by omega) (allRt_all h1 hsm.ok) (allRt_all h2 hsq.ok)).mono fun e w' ⟨he, hb⟩ => ⟨he, hb, MW.below hb⟩⟩)
  clear hPE hTI hg hgll hsm hsq HLm HLq wa hu1 hus ws
  generalize gl.map qc = gr at *
  refine HPUT.out.mono ?_
  rintro e w3 ⟨rfl, hb3, M3⟩
  go_wp2_with fail
  refine (HREF.out _ M3 hb3).mono ?_
  rintro e w4 ⟨G4, cap4, rfl, hL4, hb4, M4⟩
  have HL4 := Lib.hid hL4
  have R4 := hb3.trans' hb4
  clear hL4 hb3 hb4 HPUT M3
  go_wp2_with fail
  refine (HDP.out _ _ _ M4 HL4.out).mono ?_
  rintro e w5 ⟨rfl, hb5, M5⟩
  have R5 := R4.trans' hb5
  clear hb5 R4 M4 HL4 HDP
  go_wp2_with fail
  refine (HG.out _ M5).mono ?_
  rintro e w6 ⟨G6, cap6, rfl, hL6, hb6, M6⟩
  have HL6 := Lib.hid hL6
  have R6 := R5.trans' hb6
  clear hb6 hL6 R5 M5 HG
  go_wp2_with fail
  refine (HDG.out _ M6).mono ?_
  rintro e w7 ⟨G7, cap7, rfl, hL7, hb7, M7⟩
  have HL7 := Lib.hid hL7
  have R7 := R6.trans' hb7
  have HG7 := Lib.hid (lies_on (B := 0) HL6.out hb7)
  clear hb7 hL7 R6 M6 HDG HL6
  obtain ⟨c0, c1⟩ := (PB2.out.below R7).cells
  go_wp2_with fail
  refine (HPT.out _ M7).mono ?_
  rintro e w8 ⟨rfl, hb8, M8⟩
  have R8 := R7.trans' hb8
  have HG8 := Lib.hid (lies_on (B := 0) HG7.out hb8)
  have HL8 := Lib.hid (lies_on (B := 0) HL7.out hb8)
  clear hb8 R7 M7 HPT HG7 HL7 c0 c1
  obtain ⟨c0, c1⟩ := (PB2.out.below R8).cells
  go_wp2_with fail
  refine (HDT.out _ M8).mono ?_
  rintro e w9 ⟨rfl, hb9, M9⟩
  have R9 := R8.trans' hb9
  have HG9 := Lib.hid (lies_on (B := 0) HG8.out hb9)
  have HL9 := Lib.hid (lies_on (B := 0) HL8.out hb9)
  clear hb9 R8 M8 HDT HG8 HL8 c0 c1 PB2
  go_wp2_with fail
  refine (HRm.out _ M9 R9).mono ?_
  rintro e w10 ⟨rfl, hb10, M10⟩
  have R10 := R9.trans' hb10
  have HG10 := Lib.hid (lies_on (B := 0) HG9.out hb10)
  have HL10 := Lib.hid (lies_on (B := 0) HL9.out hb10)
  clear hb10 R9 M9 HG9 HL9 HRm
  cases hr : allRt m with
  | false =>
    clear HCM HRq HREF HREFq hr
    go_wp2_with fail
    refine (HRG.out _ _ _ M10 HG10.out).mono ?_
    rintro e w11 ⟨G11, cap11, rfl, hL11, hb11, M11⟩
    have HL11 := Lib.hid hL11
    clear hL11
    go_wp2_with fail
    refine (HSM.out _ _ _ _ _ M11 HL11.out (lies_on (B := 0) HL10.out hb11)).mono ?_
    rintro e w12 ⟨rfl, hb12, M12⟩
    go_wp2_with fail
    refine (HF.out _ M12).mono ?_
    rintro e w13 ⟨rfl, hb13, _⟩
    go_wp2_with fail
    go_ret
    exact ⟨rfl, (((L2.trans' R10).trans' hb11).trans' hb12).trans' hb13⟩
  | true =>
    go_wp2_with fail
    refine (HRq.out _ M10 R10).mono ?_
    rintro e w11 ⟨rfl, hb11, M11⟩
    have R11 := R10.trans' hb11
    have HG11 := Lib.hid (lies_on (B := 0) HG10.out hb11)
    have HL11 := Lib.hid (lies_on (B := 0) HL10.out hb11)
    clear hb11 R10 M10 HG10 HL10 HRq
    cases hr' : allRt q with
    | false =>
      clear HCM HREF HREFq hr hr'
      go_wp2_with fail
      refine (HRG.out _ _ _ M11 HG11.out).mono ?_
      rintro e w12 ⟨G12, cap12, rfl, hL12, hb12, M12⟩
      have HL12 := Lib.hid hL12
      clear hL12
      go_wp2_with fail
      refine (HSM.out _ _ _ _ _ M12 HL12.out (lies_on (B := 0) HL11.out hb12)).mono ?_
      rintro e w13 ⟨rfl, hb13, M13⟩
      go_wp2_with fail
      refine (HF.out _ M13).mono ?_
      rintro e w14 ⟨rfl, hb14, _⟩
      go_wp2_with fail
      go_ret
      exact ⟨rfl, (((L2.trans' R11).trans' hb12).trans' hb13).trans' hb14⟩
    | true =>
      obtain ⟨z, hz1, hz2⟩ := HCM.out hr hr'
      have HZ1 := Lib.hid hz1
      have HZ2 := Lib.hid hz2
      clear HCM hz1 hz2 hr hr'
      go_wp2_with fail
      refine (HZ1.out _ M11 R11).mono ?_
      rintro e w12 ⟨rfl, hb12, M12⟩
      have R12 := R11.trans' hb12
      go_wp2_with fail
      refine (HREF.out _ M12 R12).mono ?_
      rintro e w13 ⟨G13, cap13, rfl, hL13, hb13, M13⟩
      have HL13 := Lib.hid hL13
      have R13 := R12.trans' hb13
      clear hL13
      go_wp2_with fail
      refine (HREFq.out _ M13 R13).mono ?_
      rintro e w14 ⟨G14, cap14, rfl, hL14, hb14, M14⟩
      have HL14 := Lib.hid hL14
      clear hL14
      go_wp2_with fail
      refine (HZ2.out _ _ _ _ _ M14 (lies_on (B := 0) HL13.out hb14) HL14.out).mono ?_
      rintro e w15 ⟨rfl, hb15, M15⟩
      have X15 := ((hb12.trans' hb13).trans' hb14).trans' hb15
      have HG15 := Lib.hid (lies_on (B := 0) HG11.out X15)
      have HL15 := Lib.hid (lies_on (B := 0) HL11.out X15)
      clear HG11 HL11 HL13 HL14 HZ1 HZ2
      go_wp2_with fail
      refine (HRG.out _ _ _ M15 HG15.out).mono ?_
      rintro e w16 ⟨G16, cap16, rfl, hL16, hb16, M16⟩
      have HL16 := Lib.hid hL16
      clear hL16
      go_wp2_with fail
      refine (HSM.out _ _ _ _ _ M16 HL16.out (lies_on (B := 0) HL15.out hb16)).mono ?_
      rintro e w17 ⟨rfl, hb17, M17⟩
      go_wp2_with fail
      refine (HF.out _ M17).mono ?_
      rintro e w18 ⟨rfl, hb18, _⟩
      go_wp2_with fail
      go_ret
      exact ⟨rfl, ((((L2.trans' R11).trans' X15).trans' hb16).trans' hb17).trans' hb18⟩
end Go.Proofs.YtdcijbclafpkmaaDoor
