/-
  Package cell: what a value's and a kid's cell tell.
-/
import Derived.Test.YtppnchjmbeinkaaVFld
namespace Go.Proofs.Ytppnchjmbeinkaa
open Go.RowKit
set_option linter.unusedVariables false
set_option linter.unusedSimpArgs false

section
variable {t : TypeId} {g : Nat} {s : ByteArray} {i : Nat} {b : Bool} {R : List Value} {w w' : World}
theorem FB.cellR (k : FB t g s i b R w) (m : Nat) : w.cell? ⟨g, m + 3, none⟩ = R[m]? := by
  unfold FB at k
  simp [World.cell?, k]
theorem FB.setR (k : FB t g s i b R w) (m : Nat) (v : Value) : FB t g s i b (R.set m v) (w.setCell ⟨g, m + 3, none⟩ v) := by
  have h := heap_setCell_same w g (m + 3) _ _ v k
  unfold FB
  simpa using h
end
/-- What stands behind the fields of a value's cell. -/
abbrev vr (T : ByteArray) (O : Bool) (S : ByteArray) (L P : Int) : List Value := [.string T, .bool O, .string S, .int .i64 L, .int .i64 P]
theorem FB.cells5 {t : TypeId} {g : Nat} {s : ByteArray} {i : Nat} {b : Bool} {w : World} {T S : ByteArray} {O : Bool} {L P : Int} (k : FB t g s i b (vr T O S L P) w) :
    w.cell? ⟨g, 3, none⟩ = some (.string T) ∧ w.cell? ⟨g, 4, none⟩ = some (.bool O) ∧ w.cell? ⟨g, 5, none⟩ = some (.string S) ∧ w.cell? ⟨g, 6, none⟩ = some (.int .i64 L) ∧ w.cell? ⟨g, 7, none⟩ = some (.int .i64 P) :=
  ⟨k.cellR 0, k.cellR 1, k.cellR 2, k.cellR 3, k.cellR 4⟩

set_option maxHeartbeats 2000000 in
set_option maxRecDepth 100000 in
theorem vread_any (t : TypeId) (g : Nat) (s : ByteArray) (w : World) (k : Hid (FB t g s 0 false (vr ⟨#[]⟩ false ⟨#[]⟩ 0 0) w)) (hs : s.size ≤ 1000000) (T : List UInt8) (v : VP.V) (j : Nat) (c : Bool) (hn : VP.readV s.data.toList = ((T, v), j, c)) :
    Calls Try.prog 29 #[.pointer (some ⟨g, 0, none⟩)] w fun e w' => e = .returned (.tuple #[]) ∧ Hid (FB t g s j c (vr ⟨T.toArray⟩ v.over ⟨v.s.toArray⟩ v.len v.page) w') ∧ Below g w w' := by
  have hts : s.data.toList.length = s.size := by simp
  unfold VP.readV at hn
  have b1 := VP.text_at (l := s.data.toList) (i := 0) (b := false) (Nat.zero_le _)
  obtain ⟨T1, i1, c1, e1⟩ := tripleL (VP.textF s.data.toList 0 false)
  simp only [e1] at hn b1
  have b2 := VP.mark_at (l := s.data.toList) (i := i1) (b := c1) b1
  obtain ⟨m, i2, c2, e2⟩ := VP.triple (VP.markF s.data.toList i1 c1)
  simp only [e2] at hn b2
  have b3 := VP.num_at (l := s.data.toList) (i := i2) (b := c2) b2
  obtain ⟨n, i3, c3, e3⟩ := VP.triple (VP.numF s.data.toList i2 c2)
  simp only [e3] at hn b3
  rw [hts] at b1 b2 b3
  have HT := Lib.hid (text_of t g s 0 false (vr ⟨#[]⟩ false ⟨#[]⟩ 0 0) w k (Nat.zero_le _) hs T1 i1 c1 e1)
  have HM := Lib.hid (fun R W (k : Hid (FB t g s i1 c1 R W)) => mark_of t g s i1 c1 R W k b1 hs m i2 c2 e2)
  have HN := Lib.hid (fun R W (k : Hid (FB t g s i2 c2 R W)) => number_any t g s i2 c2 R W k b2 hs n i3 c3 e3)
  have bn := b3.2.1
  obtain ⟨q, hq⟩ : ∃ q, m.toNat = q := ⟨_, rfl⟩
  rw [hq] at HM
  by_cases h1 : m = 1
  · subst h1
    obtain rfl : 1 = q := hq
    obtain ⟨p, i4, c4, e4⟩ := VP.triple (VP.fourF s.data.toList i3 c3)
    simp only [e4, if_true, Prod.mk.injEq] at hn
    obtain ⟨⟨rfl, rfl⟩, rfl, rfl⟩ := hn
    have HF := Lib.hid (fun R W (k : Hid (FB t g s i3 c3 R W)) => four_of t g s i3 c3 R W k b3.1 hs p i4 c4 e4)
    clear e1 e2 e3 e4 b1 b2 b3 hts k hs
    go_enter Try.func29, Try.ntmps29
    go_wp2_with fail
    refine HT.out.mono ?_
    rintro e w1 ⟨rfl, k1, hb1⟩
    have x3 := k1.out.cells5.1
    have f3 := k1.out.free 3
    have HB1 := Lib.hid (hb1.setCell (p := ⟨g, 3, none⟩) (Nat.le_refl _) (.string ⟨T1.toArray⟩))
    have K1 : Hid (FB t g s i1 c1 (vr ⟨T1.toArray⟩ false ⟨#[]⟩ 0 0) (w1.setCell ⟨g, 3, none⟩ (.string ⟨T1.toArray⟩))) := Lib.hid (k1.out.setR 0 _)
    clear hb1 k1
    go_wp2_with fail
    generalize w1.setCell ⟨g, 3, none⟩ (.string ⟨T1.toArray⟩) = v1 at *
    refine (HM.out _ _ K1).mono ?_
    rintro e w2 ⟨rfl, k2, hb2⟩
    have x4 := k2.out.cells5.2.1
    have f4 := k2.out.free 4
    have HB2 := Lib.hid ((HB1.out.trans hb2).setCell (p := ⟨g, 4, none⟩) (Nat.le_refl _) (.bool true))
    have K2 : Hid (FB t g s i2 c2 (vr ⟨T1.toArray⟩ true ⟨#[]⟩ 0 0) (w2.setCell ⟨g, 4, none⟩ (.bool true))) := Lib.hid (k2.out.setR 1 _)
    clear hb2 k2 HB1 K1
    go_wp2_with fail
    generalize w2.setCell ⟨g, 4, none⟩ (.bool true) = v2 at *
    refine (HN.out _ _ K2).mono ?_
    rintro e w3 ⟨rfl, k3, hb3⟩
    have HB3 := Lib.hid (HB2.out.trans hb3)
    have y4 := k3.out.cells5.2.1
    clear hb3 HB2 K2
    go_wp2_with fail
    refine (HF.out _ _ k3).mono ?_
    rintro e w4 ⟨rfl, k4, hb4⟩
    obtain ⟨_, _, _, x6, x7⟩ := k4.out.cells5
    have f6 := k4.out.free 6
    have f7 := k4.out.free 7
    have HB4 := Lib.hid (HB3.out.trans hb4)
    clear hb4 HB3 k3
    go_wp2_with fail
    refine bodyPost_ret (results_none rfl _ _ _) rfl ?_
    exact ⟨rfl, Lib.hid ((k4.out.setR 3 (.int .i64 n)).setR 4 (.int .i64 p)), (HB4.out.setCell (p := ⟨g, 6, none⟩) (Nat.le_refl _) _).setCell (p := ⟨g, 7, none⟩) (Nat.le_refl _) _⟩
  · have hq1 : q ≠ 1 := fun e => h1 (UInt8.toNat_inj.1 (by rw [hq, e]; rfl))
    have z1 : ((q : Int) == 1) = false := beq_eq_false_iff_ne.2 (by omega)
    have z1n : (q == 1) = false := beq_eq_false_iff_ne.2 hq1
    rw [if_neg h1] at hn
    by_cases h0 : m = 0
    · subst h0
      obtain rfl : 0 = q := hq
      obtain ⟨u, i4, c4, e4⟩ := tripleL (VP.takeF s.data.toList i3 c3 n)
      simp only [e4, if_true, Prod.mk.injEq] at hn
      obtain ⟨⟨rfl, rfl⟩, rfl, rfl⟩ := hn
      have HF := Lib.hid (fun R W (k : Hid (FB t g s i3 c3 R W)) => take_any t g s i3 c3 R W k n b3.1 hs bn u i4 c4 e4)
      clear e1 e2 e3 e4 b1 b2 b3 hts k hs h1 hq1 z1 z1n bn
      go_enter Try.func29, Try.ntmps29
      go_wp2_with fail
      refine HT.out.mono ?_
      rintro e w1 ⟨rfl, k1, hb1⟩
      have x3 := k1.out.cells5.1
      have f3 := k1.out.free 3
      have HB1 := Lib.hid (hb1.setCell (p := ⟨g, 3, none⟩) (Nat.le_refl _) (.string ⟨T1.toArray⟩))
      have K1 : Hid (FB t g s i1 c1 (vr ⟨T1.toArray⟩ false ⟨#[]⟩ 0 0) (w1.setCell ⟨g, 3, none⟩ (.string ⟨T1.toArray⟩))) := Lib.hid (k1.out.setR 0 _)
      clear hb1 k1
      go_wp2_with fail
      generalize w1.setCell ⟨g, 3, none⟩ (.string ⟨T1.toArray⟩) = v1 at *
      refine (HM.out _ _ K1).mono ?_
      rintro e w2 ⟨rfl, K2, hb2⟩
      have HB2 := Lib.hid (HB1.out.trans hb2)
      clear hb2 HB1 K1
      go_wp2_with fail
      refine (HN.out _ _ K2).mono ?_
      rintro e w3 ⟨rfl, k3, hb3⟩
      have HB3 := Lib.hid (HB2.out.trans hb3)
      have y4 := k3.out.cells5.2.1
      clear hb3 HB2 K2
      go_wp2_with fail
      refine (HF.out _ _ k3).mono ?_
      rintro e w4 ⟨rfl, k4, hb4⟩
      obtain ⟨_, _, x5, _, _⟩ := k4.out.cells5
      have f5 := k4.out.free 5
      have HB4 := Lib.hid (HB3.out.trans hb4)
      clear hb4 HB3 k3
      go_wp2_with fail
      go_end0
      exact ⟨rfl, Lib.hid (k4.out.setR 2 (.string ⟨u.toArray⟩)), HB4.out.setCell (p := ⟨g, 5, none⟩) (Nat.le_refl _) _⟩
    · have hq0 : q ≠ 0 := fun e => h0 (UInt8.toNat_inj.1 (by rw [hq, e]; rfl))
      have z0 : ((q : Int) == 0) = false := beq_eq_false_iff_ne.2 (by omega)
      have z0n : (q == 0) = false := beq_eq_false_iff_ne.2 hq0
      rw [if_neg h0] at hn
      obtain ⟨u, i4, c4, e4⟩ := tripleL (VP.takeF s.data.toList i2 true 0)
      simp only [e4, Prod.mk.injEq] at hn
      obtain ⟨⟨rfl, rfl⟩, rfl, rfl⟩ := hn
      have HF := Lib.hid (fun R W (k : Hid (FB t g s i2 true R W)) => take_any t g s i2 true R W k 0 b2 hs (by decide) u i4 c4 e4)
      clear e1 e2 e3 e4 b1 b2 b3 hts k hs bn hq h1 h0
      go_enter Try.func29, Try.ntmps29
      go_wp2_with fail
      refine HT.out.mono ?_
      rintro e w1 ⟨rfl, k1, hb1⟩
      have x3 := k1.out.cells5.1
      have f3 := k1.out.free 3
      have HB1 := Lib.hid (hb1.setCell (p := ⟨g, 3, none⟩) (Nat.le_refl _) (.string ⟨T1.toArray⟩))
      have K1 : Hid (FB t g s i1 c1 (vr ⟨T1.toArray⟩ false ⟨#[]⟩ 0 0) (w1.setCell ⟨g, 3, none⟩ (.string ⟨T1.toArray⟩))) := Lib.hid (k1.out.setR 0 _)
      clear hb1 k1
      go_wp2_with fail
      generalize w1.setCell ⟨g, 3, none⟩ (.string ⟨T1.toArray⟩) = v1 at *
      refine (HM.out _ _ K1).mono ?_
      rintro e w2 ⟨rfl, K2, hb2⟩
      have HB2 := Lib.hid (HB1.out.trans hb2)
      clear hb2 HB1 K1
      have K3 := Lib.hid K2.out.setBad
      have HB3 := Lib.hid (HB2.out.setCell (p := ⟨g, 2, none⟩) (Nat.le_refl _) (.bool true))
      have y2 := K2.out.cells.2.2
      have f2 := K2.out.free 2
      have y4 := K2.out.cells5.2.1
      go_wp2_with fail
      generalize w2.setCell ⟨g, 2, none⟩ (.bool true) = v2 at *
      refine (HF.out _ _ K3).mono ?_
      rintro e w4 ⟨rfl, k4, hb4⟩
      obtain ⟨_, _, x5, _, _⟩ := k4.out.cells5
      have f5 := k4.out.free 5
      have HB4 := Lib.hid (HB3.out.trans hb4)
      clear hb4 HB3 K3 y2 f2 y4
      go_wp2_with fail
      go_end0
      exact ⟨rfl, Lib.hid (k4.out.setR 2 (.string ⟨u.toArray⟩)), HB4.out.setCell (p := ⟨g, 5, none⟩) (Nat.le_refl _) _⟩

/-- What stands behind the fields of a kid's cell. -/
abbrev kr (K : Int) (T : ByteArray) : List Value := [.int .i64 K, .string T]
theorem FB.cells2 {t : TypeId} {g : Nat} {s : ByteArray} {i : Nat} {b : Bool} {w : World} {T : ByteArray} {K : Int} (k : FB t g s i b (kr K T) w) :
    w.cell? ⟨g, 3, none⟩ = some (.int .i64 K) ∧ w.cell? ⟨g, 4, none⟩ = some (.string T) :=
  ⟨k.cellR 0, k.cellR 1⟩
set_option maxHeartbeats 2000000 in
set_option maxRecDepth 100000 in
theorem kread_any (t : TypeId) (g : Nat) (s : ByteArray) (w : World) (k : Hid (FB t g s 0 false (kr 0 ⟨#[]⟩) w)) (hs : s.size ≤ 1000000) (K : Nat) (T : List UInt8) (j : Nat) (c : Bool) (hn : VP.readK s.data.toList = ((K, T), j, c)) :
    Calls Try.prog 34 #[.pointer (some ⟨g, 0, none⟩)] w fun e w' => e = .returned (.tuple #[]) ∧ Hid (FB t g s j c (kr K ⟨T.toArray⟩) w') ∧ Below g w w' := by
  have hts : s.data.toList.length = s.size := by simp
  unfold VP.readK at hn
  have b1 := VP.four_at (l := s.data.toList) (i := 0) (b := false) (Nat.zero_le _)
  obtain ⟨n, i1, c1, e1⟩ := VP.triple (VP.fourF s.data.toList 0 false)
  simp only [e1] at hn b1
  obtain ⟨T1, i2, c2, e2⟩ := tripleL (VP.textF s.data.toList i1 c1)
  simp only [e2, Prod.mk.injEq] at hn
  obtain ⟨⟨rfl, rfl⟩, rfl, rfl⟩ := hn
  rw [hts] at b1
  have HT := Lib.hid (four_of t g s 0 false (kr 0 ⟨#[]⟩) w k (Nat.zero_le _) hs n i1 c1 e1)
  have HM := Lib.hid (fun R W (k : Hid (FB t g s i1 c1 R W)) => text_of t g s i1 c1 R W k b1 hs T1 i2 c2 e2)
  clear e1 e2 b1 hts k hs
  go_enter Try.func34, Try.ntmps34
  go_wp2_with fail
  refine HT.out.mono ?_
  rintro e w1 ⟨rfl, k1, hb1⟩
  have x3 := k1.out.cells2.1
  have f3 := k1.out.free 3
  have HB1 := Lib.hid (hb1.setCell (p := ⟨g, 3, none⟩) (Nat.le_refl _) (.int .i64 n))
  have K1 : Hid (FB t g s i1 c1 (kr n ⟨#[]⟩) (w1.setCell ⟨g, 3, none⟩ (.int .i64 n))) := Lib.hid (k1.out.setR 0 _)
  clear hb1 k1
  go_wp2_with fail
  generalize w1.setCell ⟨g, 3, none⟩ (.int .i64 n) = v1 at *
  refine (HM.out _ _ K1).mono ?_
  rintro e w2 ⟨rfl, k2, hb2⟩
  have x4 := k2.out.cells2.2
  have f4 := k2.out.free 4
  have HB2 := Lib.hid ((HB1.out.trans hb2).setCell (p := ⟨g, 4, none⟩) (Nat.le_refl _) (.string ⟨T1.toArray⟩))
  clear hb2 HB1 K1
  go_wp2_with fail
  go_end0
  exact ⟨rfl, Lib.hid (k2.out.setR 1 (.string ⟨T1.toArray⟩)), HB2.out⟩
end Go.Proofs.Ytppnchjmbeinkaa
