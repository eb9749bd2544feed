/-
  The walk of the law SlotTells.
-/
import Derived.Test.YtbkjmcnichpmjaaLLaws
namespace Go.Proofs.Ytbkjmcnichpmjaa
open Go.RowKit
set_option linter.unusedVariables false
set_option linter.unusedSimpArgs false

theorem packV_form (room : Int) (f : ByteArray) (l : List ByteArray) : ∃ (P : ByteArray) (e : Int), packV room f l = .tuple #[.string P, .int .i64 e] := by
  unfold packV
  split
  · exact ⟨_, _, rfl⟩
  · split
    · exact ⟨_, _, rfl⟩
    · exact ⟨_, _, rfl⟩
/-- What Unpack tells, as a list and a number. -/
def unpL (b : ByteArray) (k n : Int) : List ByteArray := if k < 0 ∨ n < 0 ∨ 65535 < b.size then [] else if LP.good (B b) k.toNat n.toNat then cellsB b n.toNat else []
def unpE (b : ByteArray) (k n : Int) : Int := if k < 0 ∨ n < 0 ∨ 65535 < b.size then 4 else if LP.good (B b) k.toNat n.toNat then 0 else 3
theorem unpL_length (b : ByteArray) (k n : Int) : (unpL b k n).length ≤ b.size := by
  unfold unpL
  split
  · simp
  · split
    · rename_i h
      have h2 := good_few h
      rw [b_size] at h2
      rw [cellsB_length]
      omega
    · simp
theorem unp_form {b : ByteArray} {k n : Int} {w w' : World} {e : Ending} (h : Unp b k n w e w') : ∃ G cap, e = .returned (.tuple #[.slice G (unpL b k n).length cap, .int .i64 (unpE b k n)]) ∧ Lies w' w'.heap.size G (unpL b k n) := by
  rcases h with ⟨h1, rfl⟩ | ⟨h1, h2, rfl⟩ | ⟨h1, h2, g, cap, rfl, _, _, hL⟩
  · have e1 : unpL b k n = [] := if_pos h1
    have e2 : unpE b k n = 4 := if_pos h1
    rw [e1, e2]
    exact ⟨none, 0, rfl, Lies.nil _ _ _⟩
  · have e1 : unpL b k n = [] := (if_neg h1).trans (if_neg h2)
    have e2 : unpE b k n = 3 := (if_neg h1).trans (if_neg h2)
    rw [e1, e2]
    exact ⟨none, 0, rfl, Lies.nil _ _ _⟩
  · have e1 : unpL b k n = cellsB b n.toNat := (if_neg h1).trans (if_pos h2)
    have e2 : unpE b k n = 0 := (if_neg h1).trans (if_pos h2)
    rw [e1, e2, cellsB_length]
    exact ⟨_, cap, rfl, hL⟩

set_option maxHeartbeats 1000000 in
set_option maxRecDepth 100000 in
theorem slotTells_walk (room : Int) (S : ByteArray) (A : Option Addr) (l : List ByteArray) (ca : Nat) (T : ByteArray) (kf n : Int) (w : World) (wr : (Lit.int .i64 room).wf = true)
    (ws : S.size ≤ maxLen) (ha : Lies w w.heap.size A l) (hs : ∀ s ∈ l, s.size ≤ maxLen) (hl : l.length ≤ maxLen) (hc : l.length ≤ ca) (wt : T.size ≤ maxLen) (wk : (Lit.int .i64 kf).wf = true) (wn : (Lit.int .i64 n).wf = true) :
    Calls Try.prog 3 #[.int .i64 room, .agg #[.string S, .slice A l.length ca], .agg #[.string T, .int .i64 kf, .int .i64 n]] w fun e w' => e = .returned (.bool true) ∧ Below w.heap.size w w' := by
  unfold maxLen at ws wt
  obtain ⟨m, hm, hm6, hms, hmm, hfs⟩ := cut_min S 60 (by omega)
  obtain ⟨F, hF⟩ : ∃ F, S.extract 0 m = F := ⟨_, rfl⟩
  rw [hF] at hfs
  have hFs : F.size ≤ 60 := by omega
  obtain ⟨o, ho, ho6, hos, hoo, hbs⟩ := cut_min T 300 (by omega)
  obtain ⟨b, hb⟩ : ∃ F, T.extract 0 o = F := ⟨_, rfl⟩
  rw [hb] at hbs
  have hbs3 : b.size ≤ 300 := by omega
  obtain ⟨rm, hrm⟩ : ∃ r, min room 2000 = r := ⟨_, rfl⟩
  have hb00 := below_alloc w (.cells #[.string S, .slice A l.length ca] 24)
  have hb0 := hb00.trans' (below_alloc (w.alloc (.cells #[.string S, .slice A l.length ca] 24)) (.cells #[.string T, .int .i64 kf, .int .i64 n] 26))
  have HCA := Lib.hid (cut_any A l ca ((w.alloc (.cells #[.string S, .slice A l.length ca] 24)).alloc (.cells #[.string T, .int .i64 kf, .int .i64 n] 26)) (ha.on hb0) hl hs)
  have HB1 : Hid (∀ V, Below ((w.alloc (.cells #[.string S, .slice A l.length ca] 24)).alloc (.cells #[.string T, .int .i64 kf, .int .i64 n] 26)).heap.size ((w.alloc (.cells #[.string S, .slice A l.length ca] 24)).alloc (.cells #[.string T, .int .i64 kf, .int .i64 n] 26)) V →
      V.cell? ⟨w.heap.size + 1, 0, none⟩ = some (.string T) ∧ V.cell? ⟨w.heap.size + 1, 1, none⟩ = some (.int .i64 kf) ∧ V.cell? ⟨w.heap.size + 1, 2, none⟩ = some (.int .i64 n)) := Lib.hid (fun V hbV => by
    have h1 := hbV.block (w.heap.size + 1) (by simp)
    have h2 := heap_alloc_new (w.alloc (.cells #[.string S, .slice A l.length ca] 24)) (.cells #[.string T, .int .i64 kf, .int .i64 n] 26)
    rw [show (w.alloc (.cells #[.string S, .slice A l.length ca] 24)).heap.size = w.heap.size + 1 by simp] at h2
    have h := h1.trans h2
    exact ⟨by rw [cell_of_row _ _ 0 _ _ _ h]; rfl, by rw [cell_of_row _ _ 1 _ _ _ h]; rfl, by rw [cell_of_row _ _ 2 _ _ _ h]; rfl⟩)
  have hla := cutL_length l
  have HSA := Lib.hid (cutL_size l)
  generalize cutL l = a at *
  obtain ⟨na, hna⟩ : ∃ n, a.length = n := ⟨_, rfl⟩
  rw [hna] at HCA hla
  have hna3 : na ≤ 30 := by omega
  obtain ⟨q, hq⟩ : ∃ q, LP.need F.size (Bs a) = q := ⟨_, rfl⟩
  obtain ⟨P, pe, hpv⟩ := packV_form rm F a
  have HPK := Lib.hid (fun G c W (h : Lies W W.heap.size G a) => by
    have h1 := pack_any rm F G a c W h (by omega) (by omega) (fun s h => by have := HSA.out s h; omega)
    rwa [hpv, hna] at h1)
  have HP8 := Lib.hid (fun G c W (h : Lies W W.heap.size G a) => by
    have h1 := pack8_any rm F G a c W h (by omega) (by omega) (fun s h => by have := HSA.out s h; omega)
    rwa [hpv, hna] at h1)
  have HSZ := Lib.hid (fun G c W (h : Lies W W.heap.size G a) => by
    have h1 := size_any F G a c W h (by omega) (by omega) (fun s h => by have := HSA.out s h; omega)
    rwa [hq, hna] at h1)
  have HS8 := Lib.hid (fun G c W (h : Lies W W.heap.size G a) => by
    have h1 := size8_any F G a c W h (by omega) (by omega) (fun s h => by have := HSA.out s h; omega)
    rwa [hq, hna] at h1)
  have HU := Lib.hid (fun W => unpack_any b kf n W wk wn (by unfold maxLen; omega))
  have HU8 := Lib.hid (fun W => unpack8_any b kf n W wk wn (by unfold maxLen; omega))
  have HUF := Lib.hid (fun w e w' (h : Unp b kf n w e w') => unp_form h)
  have HUL := unpL_length b kf n
  obtain ⟨L, hL⟩ : ∃ L, unpL b kf n = L := ⟨_, rfl⟩
  obtain ⟨ue, hue⟩ : ∃ e, unpE b kf n = e := ⟨_, rfl⟩
  rw [hL, hue] at HUF
  rw [hL] at HUL
  have HWD := Lib.hid (fun A C ca cb w (ha : Lies w w.heap.size A L) (hb : Lies w w.heap.size C L) => words_any A C L L ca cb w ha hb (by omega) rfl)
  obtain ⟨nl, hnl⟩ : ∃ n, L.length = n := ⟨_, rfl⟩
  rw [hnl] at HUF HWD
  have q2 : (P.toList == P.toList) = true := beq_self_eq_true _
  have q3 : (pe == pe) = true := beq_self_eq_true _
  have q4 : (ue == ue) = true := beq_self_eq_true _
  have q5 : ((q : Int) == (q : Int)) = true := beq_self_eq_true _
  clear hfs hbs wr ha hs hl hc hla hna hq hpv hL hue hnl HUL wk wn hb00
  go_enter Try.func3, Try.ntmps3
  go_wp2_with fail
  refine HCA.out.mono ?_
  rintro e w1 ⟨g1, cap1, rfl, hcap1, hL1, hb1⟩
  obtain ⟨c0, c1, c2⟩ := HB1.out w1 hb1
  have hbw1 := hb0.trans' hb1
  have HL1 := Lib.hid hL1
  clear hL1 hb0 HCA
  go_wp2_with fail
  refine (HPK.out _ _ w1 HL1.out).mono ?_
  rintro e w2 ⟨rfl, hb2⟩
  have hbw2 := hbw1.trans' hb2
  have HL2 := Lib.hid (HL1.out.on hb2)
  have hb02 := hb1.trans' hb2
  clear hbw1 hb1 hb2 c0 c1 c2 HL1
  go_wp2_with fail
  refine (HP8.out _ _ w2 HL2.out).mono ?_
  rintro e w3 ⟨rfl, hb3⟩
  have hbw3 := hbw2.trans' hb3
  have HL3 := Lib.hid (HL2.out.on hb3)
  have hb03 := hb02.trans' hb3
  obtain ⟨c0, c1, c2⟩ := HB1.out w3 hb03
  clear hbw2 hb02 hb3 HL2 HPK HP8
  go_wp2_with fail
  refine (HU.out w3).mono ?_
  rintro e w4 ⟨hu, hb4⟩
  obtain ⟨G4, cap4, rfl, hL4⟩ := HUF.out _ _ _ hu
  have hbw4 := hbw3.trans' hb4
  have HL4 := Lib.hid (HL3.out.on hb4)
  have HM4 := Lib.hid hL4
  have hb04 := hb03.trans' hb4
  clear hu hbw3 hb03 hb4 HL3 hL4 c0 c1 c2
  obtain ⟨c0, c1, c2⟩ := HB1.out w4 hb04
  go_wp2_with fail
  refine (HU8.out w4).mono ?_
  rintro e w5 ⟨hu, hb5⟩
  obtain ⟨G5, cap5, rfl, hL5⟩ := HUF.out _ _ _ hu
  have hbw5 := hbw4.trans' hb5
  have HL5 := Lib.hid (HL4.out.on hb5)
  have HM5 := Lib.hid (HM4.out.on hb5)
  have HN5 := Lib.hid hL5
  clear hu hbw4 hb04 hb5 HL4 hL5 c0 c1 c2 HB1 HU HU8 HUF HM4
  go_wp2_with fail
  refine (HSZ.out _ _ w5 HL5.out).mono ?_
  rintro e w6 ⟨rfl, rfl⟩
  go_wp2_with fail
  refine (HS8.out _ _ w5 HL5.out).mono ?_
  rintro e w6 ⟨rfl, rfl⟩
  go_wp2_with fail
  refine (HWD.out _ _ _ _ w5 HM5.out HN5.out).mono ?_
  rintro e w6 ⟨rfl, hb6⟩
  go_wp2_with fail
  refine (fixed_any _).mono ?_
  rintro e w7 ⟨rfl, hb7⟩
  go_wp2_with fail
  go_ret
  exact ⟨rfl, (hbw5.trans' hb6).trans' hb7⟩
end Go.Proofs.Ytbkjmcnichpmjaa
