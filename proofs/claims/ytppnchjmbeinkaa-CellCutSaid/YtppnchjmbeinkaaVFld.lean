/-
  Package cell: the box of fields, and the calls that read them.
-/
import Derived.Test.YtppnchjmbeinkaaVClone
import Derived.Test.YtppnchjmbeinkaaVRead
import Derived.BigQuiet
namespace Go.Proofs.Ytppnchjmbeinkaa
open Go.RowKit
set_option linter.unusedVariables false
set_option linter.unusedSimpArgs false

/-- A box that begins with fields: a text, a place, and whether it is bad. -/
def FB (t : TypeId) (g : Nat) (s : ByteArray) (i : Nat) (b : Bool) (R : List Value) (w : World) : Prop := w.heap[g]? = some (.cells (.string s :: .int .i64 i :: .bool b :: R).toArray t (0, 0))
section
variable {t : TypeId} {g : Nat} {s : ByteArray} {i : Nat} {b : Bool} {R : List Value} {w w' : World}
theorem FB.cells (k : FB t g s i b R w) : w.cell? ⟨g, 0, none⟩ = some (.string s) ∧ w.cell? ⟨g, 1, none⟩ = some (.int .i64 i) ∧ w.cell? ⟨g, 2, none⟩ = some (.bool b) := by
  unfold FB at k
  refine ⟨?_, ?_, ?_⟩ <;> simp [World.cell?, k]
theorem FB.free (k : FB t g s i b R w) (j : Nat) : w.frozen? ⟨g, j, none⟩ = false := by
  unfold FB at k
  simp [World.frozen?, k]
theorem FB.lt (k : FB t g s i b R w) : g < w.heap.size := (Array.getElem?_eq_some_iff.1 k).1
theorem FB.below (k : FB t g s i b R w) (h : Below w.heap.size w w') : FB t g s i b R w' := (h.block g k.lt).trans k
theorem FB.setAt (k : FB t g s i b R w) (j : Nat) : FB t g s j b R (w.setCell ⟨g, 1, none⟩ (.int .i64 j)) := by
  have h := heap_setCell_same w g 1 _ _ (.int .i64 j) k
  unfold FB
  simpa using h
theorem FB.setBad (k : FB t g s i b R w) : FB t g s i true R (w.setCell ⟨g, 2, none⟩ (.bool true)) := by
  have h := heap_setCell_same w g 2 _ _ (.bool true) k
  unfold FB
  simpa using h
theorem FB.base (k : FB t g s i b R w) (h : Below w.heap.size w w') : Below g w w' := h.mono (Nat.le_of_lt k.lt)
theorem fbKeep (t : TypeId) (g : Nat) (s : ByteArray) (i : Nat) (b : Bool) (R : List Value) : Hid (∀ W W' : World, Below W.heap.size W W' → (Hid (FB t g s i b R W) ∧ W.cell? ⟨g, 0, none⟩ = some (.string s) ∧ W.cell? ⟨g, 1, none⟩ = some (.int .i64 i)) → Hid (FB t g s i b R W') ∧ W'.cell? ⟨g, 0, none⟩ = some (.string s) ∧ W'.cell? ⟨g, 1, none⟩ = some (.int .i64 i)) :=
  Lib.hid fun W W' hb h => ⟨Lib.hid (h.1.out.below hb), (h.1.out.below hb).cells.1, (h.1.out.below hb).cells.2.1⟩
end

set_option maxHeartbeats 1000000 in
set_option maxRecDepth 100000 in
theorem number_any (t : TypeId) (g : Nat) (s : ByteArray) (i : Nat) (b : Bool) (R : List Value) (w : World) (k : Hid (FB t g s i b R w)) (hi : i ≤ s.size) (hs : s.size ≤ 1000000) (n j : Nat) (c : Bool) (hn : VP.numF s.data.toList i b = (n, j, c)) :
    Calls Try.prog 40 #[.pointer (some ⟨g, 0, none⟩)] w fun e w' => e = .returned (.int .i64 n) ∧ Hid (FB t g s j c R w') ∧ Below g w w' := by
  have HG := Lib.hid (fun W => get_any s (i : Int) W (by omega) (by omega) (by unfold maxLen; omega))
  rw [Int.toNat_natCast] at HG
  have hsp := WP.get_spec s.data.toList i
  have hKeep := fbKeep t g s i b R
  obtain ⟨c0, c1, c2⟩ := k.out.cells
  have hS0 : Hid (FB t g s i b R w) ∧ w.cell? ⟨g, 0, none⟩ = some (.string s) ∧ w.cell? ⟨g, 1, none⟩ = some (.int .i64 i) := ⟨k, c0, c1⟩
  unfold VP.numF at hn
  obtain ⟨m, to, er, hg⟩ := VP.triple (WP.get s.data.toList i)
  simp only [hg] at HG hsp hn
  have hcase : (((er = 7 ∨ er = 3) ∧ m = 0 ∧ to = 0) ∧ n = 0 ∧ j = i ∧ c = true) ∨ (er = 0 ∧ 4096 < m ∧ m ≤ 18446744073709551615 ∧ n = 0 ∧ j = i ∧ c = true) ∨ (er = 0 ∧ m ≤ 4096 ∧ n = m ∧ j = to ∧ c = b) := by
    have hm : m ≤ 18446744073709551615 := by
      rcases hsp with e | e | ⟨_, _, e, _, _, _, h⟩ <;> (simp only [Prod.mk.injEq] at e; omega)
    split at hn
    · rename_i h
      simp only [Prod.mk.injEq] at hn
      exact .inr (.inr ⟨h.1, h.2, hn.1.symm, hn.2.1.symm, hn.2.2.symm⟩)
    · rename_i h
      simp only [Prod.mk.injEq] at hn
      by_cases h0 : er = 0
      · exact .inr (.inl ⟨h0, Nat.lt_of_not_le fun h1 => h ⟨h0, h1⟩, hm, hn.1.symm, hn.2.1.symm, hn.2.2.symm⟩)
      · refine .inl ⟨?_, hn.1.symm, hn.2.1.symm, hn.2.2.symm⟩
        rcases hsp with e | e | ⟨_, _, e, _⟩ <;> (simp only [Prod.mk.injEq] at e; omega)
  clear hsp hn hg
  go_enter Try.func40, Try.ntmps40
  go_wp2_with fail
  go_region_held3 (fun Z => Hid (FB t g s i b R Z) ∧ Z.cell? ⟨g, 0, none⟩ = some (.string s) ∧ Z.cell? ⟨g, 1, none⟩ = some (.int .i64 i))
    (first | assumption | exact hS0 | exact hKeep.out _ _ (by assumption) (by assumption))
    (first
      | (go_at_call 46; refine (HG.out _).mono ?_; rintro e w1 ⟨rfl, hb1⟩)
      | fail "no arm")
  have hb := below_of_drew hb1
  have K1 := Lib.hid (k.out.below hb)
  have HB := Lib.hid (k.out.base hb)
  obtain ⟨d0, d1, d2⟩ := K1.out.cells
  have f1 := K1.out.free 1
  have f2 := K1.out.free 2
  clear hb hb1 hS0 hKeep HG c0 c1 c2 hi hs k
  rcases hcase with ⟨⟨rfl | rfl, rfl, rfl⟩, rfl, rfl, rfl⟩ | ⟨rfl, h1, h2, rfl, rfl, rfl⟩ | ⟨rfl, h1, rfl, rfl, rfl⟩
  · go_wp2_with fail
    go_ret
    exact ⟨rfl, Lib.hid K1.out.setBad, HB.out.setCell (p := ⟨g, 2, none⟩) (Nat.le_refl _) _⟩
  · go_wp2_with fail
    go_ret
    exact ⟨rfl, Lib.hid K1.out.setBad, HB.out.setCell (p := ⟨g, 2, none⟩) (Nat.le_refl _) _⟩
  · have d3 : decide (((m : Nat) : Int) > 4096) = true := decide_eq_true (by omega)
    have d4 : decide ((4096 : Int) < (m : Nat)) = true := decide_eq_true (by omega)
    clear h1 h2
    go_wp2_with fail
    go_ret
    exact ⟨rfl, Lib.hid K1.out.setBad, HB.out.setCell (p := ⟨g, 2, none⟩) (Nat.le_refl _) _⟩
  · have d4 : decide ((4096 : Int) < (n : Nat)) = false := decide_eq_false (by omega)
    have q : IntKind.i64.wrap (n : Int) = n := IntWalk.i64_in _ (by omega)
    clear h1
    go_wp2_with fail
    go_ret
    exact ⟨rfl, Lib.hid (K1.out.setAt j), HB.out.setCell (p := ⟨g, 1, none⟩) (Nat.le_refl _) _⟩

set_option maxHeartbeats 1000000 in
set_option maxRecDepth 100000 in
theorem four_of (t : TypeId) (g : Nat) (s : ByteArray) (i : Nat) (b : Bool) (R : List Value) (w : World) (k : Hid (FB t g s i b R w)) (hi : i ≤ s.size) (hs : s.size ≤ 1000000) (n j : Nat) (c : Bool) (hn : VP.fourF s.data.toList i b = (n, j, c)) :
    Calls Try.prog 41 #[.pointer (some ⟨g, 0, none⟩)] w fun e w' => e = .returned (.int .i64 n) ∧ Hid (FB t g s j c R w') ∧ Below g w w' := by
  have hKeep := fbKeep t g s i b R
  obtain ⟨c0, c1, c2⟩ := k.out.cells
  have f1 := k.out.free 1
  have f2 := k.out.free 2
  have hts : s.data.toList.length = s.size := by simp
  unfold VP.fourF at hn
  rw [hts] at hn
  have HB := Lib.hid (Below.refl g w)
  by_cases h : i + 4 ≤ s.size
  · rw [if_pos h] at hn
    have HG := Lib.hid (fun W => read_any s (i : Int) W (by omega) (by omega) (by unfold maxLen; omega))
    rw [Int.toNat_natCast] at HG
    have hle := WP.leNat_four (s.data.toList.drop i)
    generalize Lib.leNat ((s.data.toList.drop i).take 4) = m at *
    simp only [Prod.mk.injEq] at hn
    obtain ⟨rfl, hj, rfl⟩ := hn
    have q1 : IntKind.i64.wrap ((i : Int) + 4) = j := by rw [show (i : Int) + 4 = j by omega]; exact IntWalk.i64_in _ (by omega)
    have q2 : IntKind.i64.wrap (m : Int) = m := IntWalk.i64_in _ (by omega)
    clear h hts hi hs hle hj
    go_enter Try.func41, Try.ntmps41
    go_wp2_with fail
    go_quiet ((go_at_call 47; exact quiet_of_eq (HG.out _)))
    go_wp2_with fail
    go_ret
    exact ⟨rfl, Lib.hid (k.out.setAt j), (below_drewN HB.out nq).setCell (p := ⟨g, 1, none⟩) (Nat.le_refl _) _⟩
  · rw [if_neg h] at hn
    have HG := Lib.hid (fun W => read_short s (i : Int) W (by omega) (by omega) (by omega))
    simp only [Prod.mk.injEq] at hn
    obtain ⟨rfl, rfl, rfl⟩ := hn
    clear h hts hi hs
    go_enter Try.func41, Try.ntmps41
    go_wp2_with fail
    go_quiet ((go_at_call 47; exact quiet_of_eq (HG.out _)))
    go_wp2_with fail
    go_ret
    exact ⟨rfl, Lib.hid k.out.setBad, (below_drewN HB.out nq).setCell (p := ⟨g, 2, none⟩) (Nat.le_refl _) _⟩

set_option maxHeartbeats 1000000 in
set_option maxRecDepth 100000 in
theorem take_any (t : TypeId) (g : Nat) (s : ByteArray) (i : Nat) (b : Bool) (R : List Value) (w : World) (k : Hid (FB t g s i b R w)) (n : Nat) (hi : i ≤ s.size) (hs : s.size ≤ 1000000) (hn4 : n ≤ 4096) (T : List UInt8) (j : Nat) (c : Bool) (hn : VP.takeF s.data.toList i b n = (T, j, c)) :
    Calls Try.prog 42 #[.pointer (some ⟨g, 0, none⟩), .int .i64 n] w fun e w' => e = .returned (.string ⟨T.toArray⟩) ∧ Hid (FB t g s j c R w') ∧ Below g w w' := by
  obtain ⟨c0, c1, c2⟩ := k.out.cells
  have f1 := k.out.free 1
  have f2 := k.out.free 2
  have hts : s.data.toList.length = s.size := by simp
  unfold VP.takeF at hn
  rw [hts] at hn
  have HB := Lib.hid (Below.refl g w)
  obtain ⟨r, hr⟩ : ∃ r, s.size - i = r := ⟨_, rfl⟩
  have q0 : IntKind.i64.wrap ((s.size : Int) - i) = r := by rw [show (s.size : Int) - i = r by omega]; exact IntWalk.i64_in _ (by omega)
  by_cases h : i + n ≤ s.size
  · rw [if_pos h] at hn
    simp only [Prod.mk.injEq] at hn
    obtain ⟨rfl, hj, rfl⟩ := hn
    have q1 : IntKind.i64.wrap ((i : Int) + n) = j := by rw [show (i : Int) + n = j by omega]; exact IntWalk.i64_in _ (by omega)
    have d1 : decide ((r : Int) < n) = false := decide_eq_false (by omega)
    have d2 : decide (r < n) = false := decide_eq_false (by omega)
    have he := extract_list s i n
    rw [hj] at he
    rw [he]
    have j1 : (0 : Int) ≤ i := by omega
    have j2 : (i : Int) ≤ j := by omega
    have j3 : (j : Int) ≤ s.size := by omega
    have j4 : i ≤ j := by omega
    have j5 : j ≤ s.size := by omega
    have HC := Lib.hid (fun W => clone_any (s.extract i j) W (by simp; omega))
    have hKeep := fbKeep t g s j b R
    clear h hts he hj hr hs hn4 hi
    go_enter Try.func42, Try.ntmps42
    go_wp2_with fail
    go_quiet (fail)
    go_wp2_with fail
    have K1 : Hid (FB t g s j b R ((w.drewN nq).setCell ⟨g, 1, none⟩ (.int .i64 j))) := Lib.hid (FB.setAt (w := w.drewN nq) k.out j)
    have HB1 := Lib.hid ((below_drewN HB.out nq).setCell (p := ⟨g, 1, none⟩) (Nat.le_refl _) (.int .i64 j))
    generalize (w.drewN nq).setCell ⟨g, 1, none⟩ (.int .i64 j) = w1 at *
    obtain ⟨e0, e1, e2⟩ := K1.out.cells
    have hS0 : Hid (FB t g s j b R w1) ∧ w1.cell? ⟨g, 0, none⟩ = some (.string s) ∧ w1.cell? ⟨g, 1, none⟩ = some (.int .i64 j) := ⟨K1, e0, e1⟩
    clear c0 c1 c2 f1 f2 k HB
    go_region_held3 (fun Z => Hid (FB t g s j b R Z) ∧ Z.cell? ⟨g, 0, none⟩ = some (.string s) ∧ Z.cell? ⟨g, 1, none⟩ = some (.int .i64 j))
      (first | assumption | exact hS0 | exact hKeep.out _ _ (by assumption) (by assumption))
      (first
        | (go_at_call 48; refine (HC.out _).mono ?_; rintro e w2 ⟨rfl, hb2⟩)
        | fail "no arm")
    have hb := below_of_drew hb2
    go_wp2_with fail
    go_ret
    exact ⟨rfl, Lib.hid (K1.out.below hb), HB1.out.trans (K1.out.base hb)⟩
  · rw [if_neg h] at hn
    simp only [Prod.mk.injEq] at hn
    obtain ⟨rfl, rfl, rfl⟩ := hn
    have d1 : decide ((r : Int) < n) = true := decide_eq_true (by omega)
    have d2 : decide (r < n) = true := decide_eq_true (by omega)
    clear h hts hr hs hn4 hi
    go_enter Try.func42, Try.ntmps42
    go_wp2_with fail
    go_quiet (fail)
    go_wp2_with fail
    go_ret
    exact ⟨rfl, Lib.hid k.out.setBad, (below_drewN HB.out nq).setCell (p := ⟨g, 2, none⟩) (Nat.le_refl _) _⟩

theorem tripleL (x : List UInt8 × Nat × Bool) : ∃ a b c, x = (a, b, c) := ⟨_, _, _, rfl⟩
set_option maxHeartbeats 1000000 in
set_option maxRecDepth 100000 in
theorem text_of (t : TypeId) (g : Nat) (s : ByteArray) (i : Nat) (b : Bool) (R : List Value) (w : World) (k : Hid (FB t g s i b R w)) (hi : i ≤ s.size) (hs : s.size ≤ 1000000) (T : List UInt8) (j : Nat) (c : Bool) (hn : VP.textF s.data.toList i b = (T, j, c)) :
    Calls Try.prog 38 #[.pointer (some ⟨g, 0, none⟩)] w fun e w' => e = .returned (.string ⟨T.toArray⟩) ∧ Hid (FB t g s j c R w') ∧ Below g w w' := by
  have hts : s.data.toList.length = s.size := by simp
  unfold VP.textF at hn
  have hb := VP.num_at (l := s.data.toList) (b := b) (by rw [hts]; exact hi)
  obtain ⟨n, j1, c1, e1⟩ := VP.triple (VP.numF s.data.toList i b)
  rw [e1] at hn hb
  simp only at hn hb
  rw [hts] at hb
  have HN := Lib.hid (number_any t g s i b R w k hi hs n j1 c1 e1)
  have HT := Lib.hid (fun W (k : Hid (FB t g s j1 c1 R W)) => take_any t g s j1 c1 R W k n hb.1 hs hb.2.1 T j c hn)
  clear hn hb e1 hts hi hs k
  go_enter Try.func38, Try.ntmps38
  go_wp2_with fail
  refine HN.out.mono ?_
  rintro e w1 ⟨rfl, k1, hb1⟩
  go_wp2_with fail
  refine (HT.out _ k1).mono ?_
  rintro e w2 ⟨rfl, k2, hb2⟩
  go_wp2_with fail
  go_ret
  exact ⟨rfl, k2, hb1.trans hb2⟩

set_option maxHeartbeats 1000000 in
set_option maxRecDepth 100000 in
theorem mark_of (t : TypeId) (g : Nat) (s : ByteArray) (i : Nat) (b : Bool) (R : List Value) (w : World) (k : Hid (FB t g s i b R w)) (hi : i ≤ s.size) (hs : s.size ≤ 1000000) (m : UInt8) (j : Nat) (c : Bool) (hn : VP.markF s.data.toList i b = (m, j, c)) :
    Calls Try.prog 39 #[.pointer (some ⟨g, 0, none⟩)] w fun e w' => e = .returned (.int .u8 m.toNat) ∧ Hid (FB t g s j c R w') ∧ Below g w w' := by
  unfold VP.markF at hn
  obtain ⟨T, j1, c1, e1⟩ := tripleL (VP.takeF s.data.toList i b 1)
  rw [e1] at hn
  simp only [Prod.mk.injEq] at hn
  obtain ⟨hm, rfl, rfl⟩ := hn
  have HT := Lib.hid (take_any t g s i b R w k 1 hi hs (by decide) T j1 c1 e1)
  cases c1 with
  | true =>
    simp only [if_true] at hm
    subst hm
    clear e1 hi hs k
    go_enter Try.func39, Try.ntmps39
    go_wp2_with fail
    refine HT.out.mono ?_
    rintro e w1 ⟨rfl, k1, hb1⟩
    obtain ⟨c0, c1, c2⟩ := k1.out.cells
    go_wp2_with fail
    go_ret
    exact ⟨rfl, k1, hb1⟩
  | false =>
    obtain ⟨_, hl, _⟩ := VP.take_good e1
    match T, hl with
    | [x], _ =>
      simp at hm
      subst hm
      have hz : (⟨#[x]⟩ : ByteArray).size = 1 := rfl
      clear e1 hi hs k
      go_enter Try.func39, Try.ntmps39
      go_wp2_with fail
      refine HT.out.mono ?_
      rintro e w1 ⟨rfl, k1, hb1⟩
      obtain ⟨c0, c1, c2⟩ := k1.out.cells
      go_wp2_with fail
      go_ret
      exact ⟨rfl, k1, hb1⟩

set_option maxHeartbeats 1000000 in
set_option maxRecDepth 100000 in
theorem whole_any (t : TypeId) (g : Nat) (s : ByteArray) (i : Nat) (b : Bool) (R : List Value) (w : World) (k : Hid (FB t g s i b R w)) (hi : i ≤ s.size) (hs : s.size ≤ 1000000) :
    Calls Try.prog 30 #[.pointer (some ⟨g, 0, none⟩)] w fun e w' => e = .returned (.bool (decide ((i, b) = (s.data.toList.length, false)))) ∧ Hid (FB t g s i b R w') ∧ Below g w w' := by
  have hts : s.data.toList.length = s.size := by simp
  obtain ⟨c0, c1, c2⟩ := k.out.cells
  have HB := Lib.hid (Below.refl g w)
  rw [hts]
  clear hts
  cases b with
  | true =>
    have e : decide ((i, true) = (s.size, false)) = false := decide_eq_false (by simp)
    rw [e]
    clear e hi hs
    go_enter Try.func30, Try.ntmps30
    go_wp2_with fail
    go_quiet (fail)
    go_wp2_with fail
    go_ret
    exact ⟨rfl, k, below_drewN HB.out nq⟩
  | false =>
    have e : decide ((i, false) = (s.size, false)) = ((i : Int) == s.size) := by
      by_cases h : i = s.size
      · rw [decide_eq_true (by rw [h]), h]; simp
      · rw [decide_eq_false (by simp [h])]; exact (beq_eq_false_iff_ne.2 (by omega)).symm
    rw [e]
    clear e hi hs
    go_enter Try.func30, Try.ntmps30
    go_wp2_with fail
    go_quiet (fail)
    go_wp2_with fail
    go_ret
    exact ⟨rfl, k, below_drewN HB.out nq⟩
end Go.Proofs.Ytppnchjmbeinkaa
