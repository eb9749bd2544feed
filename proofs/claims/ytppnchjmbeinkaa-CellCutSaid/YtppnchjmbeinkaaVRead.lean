/-
  Plain mathematics of package cell: fields that are read one behind the other.
-/
import Derived.Test.YtppnchjmbeinkaaVPlain
namespace Go.Proofs.Ytppnchjmbeinkaa.VP
open Go.Proofs.Ytppnchjmbeinkaa
set_option linter.unusedSimpArgs false
set_option linter.unusedVariables false

/-- A number, or that it can't be read. -/
def numF (l : List UInt8) (i : Nat) (b : Bool) : Nat × Nat × Bool := if (WP.get l i).2.2 = 0 ∧ (WP.get l i).1 ≤ 4096 then ((WP.get l i).1, (WP.get l i).2.1, b) else (0, i, true)
/-- A number of four bytes. -/
def fourF (l : List UInt8) (i : Nat) (b : Bool) : Nat × Nat × Bool := if i + 4 ≤ l.length then (Lib.leNat ((l.drop i).take 4), i + 4, b) else (0, i, true)
/-- As many bytes. -/
def takeF (l : List UInt8) (i : Nat) (b : Bool) (n : Nat) : List UInt8 × Nat × Bool := if i + n ≤ l.length then ((l.drop i).take n, i + n, b) else ([], i, true)
/-- A text with its length ahead. -/
def textF (l : List UInt8) (i : Nat) (b : Bool) : List UInt8 × Nat × Bool := takeF l (numF l i b).2.1 (numF l i b).2.2 (numF l i b).1
/-- A byte. -/
def markF (l : List UInt8) (i : Nat) (b : Bool) : UInt8 × Nat × Bool := (if (takeF l i b 1).2.2 then 0 else (takeF l i b 1).1.headD 0, (takeF l i b 1).2)
def readV (l : List UInt8) : (List UInt8 × V) × Nat × Bool :=
  let t := textF l 0 false
  let m := markF l t.2.1 t.2.2
  if m.1 = 1 then
    let n := numF l m.2.1 m.2.2
    let p := fourF l n.2.1 n.2.2
    ((t.1, ⟨true, [], n.1, p.1⟩), p.2)
  else if m.1 = 0 then
    let n := numF l m.2.1 m.2.2
    let u := takeF l n.2.1 n.2.2 n.1
    ((t.1, ⟨false, u.1, 0, 0⟩), u.2)
  else
    let u := takeF l m.2.1 true 0
    ((t.1, ⟨false, u.1, 0, 0⟩), u.2)
def readK (l : List UInt8) : (Nat × List UInt8) × Nat × Bool :=
  let k := fourF l 0 false
  let t := textF l k.2.1 k.2.2
  ((k.1, t.1), t.2)

theorem leBytes_four : ∀ (k : Nat) (l : List UInt8), l.length = k → Lib.leBytes k (Lib.leNat l) = l
  | 0, [], _ => rfl
  | k + 1, x :: l, h => by
    have ih := leBytes_four k l (by simpa using h)
    have hx := x.toNat_lt
    simp only [Lib.leBytes, Lib.leNat]
    have e1 : (x.toNat + 256 * Lib.leNat l) % 256 = x.toNat := by omega
    have e2 : (x.toNat + 256 * Lib.leNat l) / 256 = Lib.leNat l := by omega
    rw [e1, e2, ih]
    simp
-- what good reading says
theorem num_at {l : List UInt8} {i : Nat} {b : Bool} (hi : i ≤ l.length) : (numF l i b).2.1 ≤ l.length ∧ (numF l i b).1 ≤ 4096 ∧ i ≤ (numF l i b).2.1 := by
  unfold numF
  split
  · rename_i h
    rcases WP.get_spec l i with e | e | ⟨n, to, e, h2, h3, _⟩
    · rw [e] at h; simp at h
    · rw [e] at h; simp at h
    · rw [e] at h ⊢
      exact ⟨h3, h.2, by simp only; omega⟩
  · exact ⟨hi, by simp, Nat.le_refl _⟩
theorem four_at {l : List UInt8} {i : Nat} {b : Bool} (hi : i ≤ l.length) : (fourF l i b).2.1 ≤ l.length := by
  unfold fourF
  split
  · assumption
  · exact hi
theorem take_at {l : List UInt8} {i n : Nat} {b : Bool} (hi : i ≤ l.length) : (takeF l i b n).2.1 ≤ l.length := by
  unfold takeF
  split
  · assumption
  · exact hi
theorem text_at {l : List UInt8} {i : Nat} {b : Bool} (hi : i ≤ l.length) : (textF l i b).2.1 ≤ l.length := take_at (num_at hi).1
theorem mark_at {l : List UInt8} {i : Nat} {b : Bool} (hi : i ≤ l.length) : (markF l i b).2.1 ≤ l.length := take_at hi
theorem num_good {l : List UInt8} {i j n : Nat} {b : Bool} (h : numF l i b = (n, j, false)) : b = false ∧ n ≤ 4096 ∧ l.drop i = WP.put n ++ l.drop j := by
  unfold numF at h
  split at h
  · rename_i hc
    rcases WP.get_spec l i with e | e | ⟨m, to, e, h2, h3, h4, _⟩
    · rw [e] at hc; simp at hc
    · rw [e] at hc; simp at hc
    · rw [e] at hc h
      simp only [Prod.mk.injEq] at h hc
      obtain ⟨rfl, rfl, rfl⟩ := h
      refine ⟨rfl, hc.2, ?_⟩
      rw [h4, show l.drop to = (l.drop i).drop (to - i) by rw [List.drop_drop]; congr 1; omega, List.take_append_drop]
  · simp at h
theorem four_good {l : List UInt8} {i j n : Nat} {b : Bool} (h : fourF l i b = (n, j, false)) : b = false ∧ l.drop i = Lib.leBytes 4 n ++ l.drop j := by
  unfold fourF at h
  split at h
  · rename_i hc
    simp only [Prod.mk.injEq] at h
    obtain ⟨rfl, rfl, rfl⟩ := h
    refine ⟨rfl, ?_⟩
    rw [leBytes_four 4 _ (by simp; omega), ← List.drop_drop, List.take_append_drop]
  · simp at h
theorem take_good {l t : List UInt8} {i j n : Nat} {b : Bool} (h : takeF l i b n = (t, j, false)) : b = false ∧ t.length = n ∧ l.drop i = t ++ l.drop j := by
  unfold takeF at h
  split at h
  · rename_i hc
    simp only [Prod.mk.injEq] at h
    obtain ⟨rfl, rfl, rfl⟩ := h
    refine ⟨rfl, by simp; omega, ?_⟩
    rw [← List.drop_drop, List.take_append_drop]
  · simp at h
theorem text_good {l t : List UInt8} {i j : Nat} {b : Bool} (h : textF l i b = (t, j, false)) : b = false ∧ l.drop i = text t ++ l.drop j := by
  unfold textF at h
  obtain ⟨h1, h2, h3⟩ := take_good h
  obtain ⟨n, k, c, e⟩ : ∃ n k c, numF l i b = (n, k, c) := ⟨_, _, _, rfl⟩
  rw [e] at h1 h2 h3
  simp only at h1 h2 h3
  subst h1
  obtain ⟨g1, _, g2⟩ := num_good e
  refine ⟨g1, ?_⟩
  rw [g2, h3, ← h2, text, List.append_assoc]
theorem mark_good {l : List UInt8} {c : UInt8} {i j : Nat} {b : Bool} (h : markF l i b = (c, j, false)) : b = false ∧ l.drop i = c :: l.drop j := by
  unfold markF at h
  obtain ⟨t, k, d, e⟩ : ∃ t k d, takeF l i b 1 = (t, k, d) := ⟨_, _, _, rfl⟩
  rw [e] at h
  simp only [Prod.mk.injEq] at h
  obtain ⟨h1, rfl, rfl⟩ := h
  obtain ⟨g1, g2, g3⟩ := take_good e
  refine ⟨g1, ?_⟩
  match t, g2 with
  | [x], _ =>
    simp at h1
    rw [g3, h1]
    rfl
-- what is put is read
theorem pos_put (n : Nat) (h : n ≤ 4096) : 1 ≤ (WP.put n).length := by
  obtain ⟨_, _, e, _⟩ := WP.put_form n (by omega)
  rw [e]; simp
theorem split_at {l X : List UInt8} {i : Nat} (h : l.drop i = X) (hX : 1 ≤ X.length) : ∃ Z, l = Z ++ X ∧ Z.length = i := by
  have h1 := congrArg List.length h
  simp only [List.length_drop] at h1
  exact ⟨l.take i, by rw [← h, List.take_append_drop], by simp; omega⟩
theorem num_put {l Y : List UInt8} {i n : Nat} (b : Bool) (hn : n ≤ 4096) (h : l.drop i = WP.put n ++ Y) : numF l i b = (n, i + (WP.put n).length, b) ∧ l.drop (i + (WP.put n).length) = Y := by
  have hp := pos_put n hn
  obtain ⟨Z, e, rfl⟩ := split_at h (by simp; omega)
  have hg := WP.get_put Z Y n (by omega)
  rw [List.append_assoc, ← e] at hg
  refine ⟨by unfold numF; rw [hg]; simp only [if_pos (And.intro trivial hn)], ?_⟩
  rw [← List.drop_drop, h, List.drop_left]
theorem four_put {l Y : List UInt8} {i n : Nat} (b : Bool) (hn : n ≤ 4095) (h : l.drop i = Lib.leBytes 4 n ++ Y) : fourF l i b = (n, i + 4, b) ∧ l.drop (i + 4) = Y := by
  have hl := Lib.leBytes_length 4 n
  have h1 := congrArg List.length h
  simp only [List.length_drop, List.length_append, hl] at h1
  have e : (l.drop i).take 4 = Lib.leBytes 4 n := by rw [h, List.take_append_of_le_length (by omega), List.take_of_length_le (by omega)]
  refine ⟨by unfold fourF; rw [if_pos (by omega), e, Lib.leNat_leBytes 4 n (by omega)], ?_⟩
  have h2 := List.drop_left (l₁ := Lib.leBytes 4 n) (l₂ := Y)
  rw [hl] at h2
  rw [← List.drop_drop, h, h2]
theorem take_put {l t Y : List UInt8} {i : Nat} (b : Bool) (hi : i ≤ l.length) (h : l.drop i = t ++ Y) : takeF l i b t.length = (t, i + t.length, b) ∧ l.drop (i + t.length) = Y := by
  have h1 := congrArg List.length h
  simp only [List.length_drop, List.length_append] at h1
  refine ⟨by unfold takeF; rw [if_pos (by omega), h, List.take_left], ?_⟩
  rw [← List.drop_drop, h, List.drop_left]
theorem text_put {l t Y : List UInt8} {i : Nat} (b : Bool) (ht : t.length ≤ 4096) (h : l.drop i = text t ++ Y) : textF l i b = (t, i + (text t).length, b) ∧ l.drop (i + (text t).length) = Y := by
  rw [text, List.append_assoc] at h
  obtain ⟨e1, e2⟩ := num_put b ht h
  have hi : (i + (WP.put t.length).length) ≤ l.length := by
    have := congrArg List.length h
    have := pos_put t.length ht
    simp only [List.length_drop, List.length_append] at *
    omega
  obtain ⟨e3, e4⟩ := take_put b hi e2
  unfold textF
  rw [e1]
  simp only
  rw [e3, show i + (text t).length = i + (WP.put t.length).length + t.length by simp [text]; omega]
  exact ⟨rfl, e4⟩
theorem mark_put {l Y : List UInt8} {i : Nat} {c : UInt8} (h : l.drop i = c :: Y) : markF l i false = (c, i + 1, false) ∧ l.drop (i + 1) = Y := by
  have h1 := congrArg List.length h
  simp only [List.length_drop, List.length_cons] at h1
  obtain ⟨e1, e2⟩ := take_put (t := [c]) (Y := Y) false (by omega) h
  refine ⟨?_, e2⟩
  unfold markF
  rw [show ([c] : List UInt8).length = 1 from rfl] at e1
  rw [e1]
  rfl
theorem end_at {l : List UInt8} {i : Nat} (hi : i ≤ l.length) (h : l.drop i = []) : i = l.length := by
  have := List.drop_eq_nil_iff.1 h
  omega
theorem readV_put (t : List UInt8) (v : V) (h : OkV t v) : readV (cellV t v) = ((t, v), (cellV t v).length, false) := by
  obtain ⟨ht, hv⟩ := h
  generalize hl : cellV t v = l
  have h0 : l.drop 0 = text t ++ tail v := by rw [List.drop_zero, ← hl]; rfl
  obtain ⟨e1, f1⟩ := text_put false (by omega) h0
  have b1 := text_at (l := l) (i := 0) (b := false) (Nat.zero_le _)
  unfold readV
  simp only [e1]
  rw [e1] at b1
  simp only at b1
  generalize 0 + (text t).length = i at *
  rcases hv with ⟨h1, h2, h3, h4, h5, h6⟩ | ⟨h1, h2, h3, h4⟩
  · rw [tail, if_pos h1] at f1
    obtain ⟨e2, f2⟩ := mark_put f1
    have b2 := mark_at (b := false) b1
    simp only [e2, if_true]
    rw [e2] at b2
    obtain ⟨e3, f3⟩ := num_put false (by omega) f2
    have b3 := (num_at (b := false) b2).1
    simp only at b3
    rw [e3] at b3
    obtain ⟨e4, f4⟩ := four_put (Y := []) false (n := v.page.toNat) (by omega) (by rw [f3, List.append_nil])
    have b4 := four_at (b := false) b3
    simp only at b4
    rw [e4] at b4
    simp only [e3, e4]
    rw [← end_at b4 f4]
    congr 2
    exact V.eq h1.symm h2.symm (by show ((v.len.toNat : Nat) : Int) = _; omega) (by show ((v.page.toNat : Nat) : Int) = _; omega)
  · rw [tail, if_neg (by rw [h1]; decide)] at f1
    obtain ⟨e2, f2⟩ := mark_put f1
    have b2 := mark_at (b := false) b1
    simp only [e2, if_neg (show ¬ (0 : UInt8) = 1 by decide), if_true]
    rw [e2] at b2
    rw [show text v.s = WP.put v.s.length ++ v.s from rfl] at f2
    obtain ⟨e3, f3⟩ := num_put false (by omega) f2
    have b3 := (num_at (b := false) b2).1
    simp only at b3
    rw [e3] at b3
    obtain ⟨e4, f4⟩ := take_put (t := v.s) (Y := []) false b3 (by rw [f3, List.append_nil])
    have b4 := take_at (n := v.s.length) (b := false) b3
    simp only at b4
    rw [e4] at b4
    simp only [e3, e4]
    rw [← end_at b4 f4]
    congr 2
    exact V.eq h1.symm rfl h3.symm h4.symm
theorem triple {α β γ : Type} (x : α × β × γ) : ∃ a b c, x = (a, b, c) := ⟨_, _, _, rfl⟩
theorem readV_good {l t : List UInt8} {v : V} (h : readV l = ((t, v), l.length, false)) : cellV t v = l := by
  unfold readV at h
  obtain ⟨t', i1, b1, e1⟩ := triple (textF l 0 false)
  simp only [e1] at h
  obtain ⟨m, i2, b2, e2⟩ := triple (markF l i1 b1)
  simp only [e2] at h
  obtain ⟨n, i3, b3, e3⟩ := triple (numF l i2 b2)
  simp only [e3] at h
  split at h
  · rename_i hm
    subst hm
    obtain ⟨p, i4, b4, e4⟩ := triple (fourF l i3 b3)
    simp only [e4, Prod.mk.injEq] at h
    obtain ⟨⟨rfl, rfl⟩, rfl, rfl⟩ := h
    obtain ⟨rfl, g4⟩ := four_good e4
    obtain ⟨rfl, _, g3⟩ := num_good e3
    obtain ⟨rfl, g2⟩ := mark_good e2
    obtain ⟨_, g1⟩ := text_good e1
    rw [List.drop_length, List.append_nil] at g4
    rw [List.drop_zero, g2, g3, g4] at g1
    rw [g1, cellV, tail, if_pos rfl]
    simp
  · split at h
    · rename_i _ hm
      subst hm
      obtain ⟨u, i4, b4, e4⟩ := triple (takeF l i3 b3 n)
      simp only [e4, Prod.mk.injEq] at h
      obtain ⟨⟨rfl, rfl⟩, rfl, rfl⟩ := h
      obtain ⟨rfl, hu, g4⟩ := take_good e4
      obtain ⟨rfl, _, g3⟩ := num_good e3
      obtain ⟨rfl, g2⟩ := mark_good e2
      obtain ⟨_, g1⟩ := text_good e1
      rw [List.drop_length, List.append_nil] at g4
      rw [List.drop_zero, g2, g3, g4, ← hu] at g1
      rw [g1, cellV, tail, if_neg (by simp)]
      simp [text]
    · obtain ⟨u, i4, b4, e4⟩ := triple (takeF l i2 true 0)
      simp only [e4, Prod.mk.injEq] at h
      obtain ⟨_, rfl, rfl⟩ := h
      have := (take_good e4).1
      simp at this
theorem getV_read (l : List UInt8) : getV l = if (readV l).2 = (l.length, false) ∧ OkV (readV l).1.1 (readV l).1.2 then some (readV l).1 else none := by
  obtain ⟨t, v, i, b, hr⟩ : ∃ t v i b, readV l = ((t, v), i, b) := ⟨_, _, _, _, rfl⟩
  rw [hr]
  split
  · rename_i h
    simp only [Prod.mk.injEq] at h
    obtain ⟨⟨rfl, rfl⟩, h2⟩ := h
    exact (getV_iff l t v).2 ⟨h2, readV_good hr⟩
  · rename_i h
    refine getV_none fun t' v' hok e => h ?_
    have := readV_put t' v' hok
    rw [e, hr] at this
    simp only [Prod.mk.injEq] at this
    obtain ⟨⟨rfl, rfl⟩, rfl, rfl⟩ := this
    exact ⟨rfl, hok⟩
theorem readK_put (k : Nat) (t : List UInt8) (h : OkK k t) : readK (cellK k t) = ((k, t), (cellK k t).length, false) := by
  obtain ⟨h1, h2, h3⟩ := h
  generalize hl : cellK k t = l
  have h0 : l.drop 0 = Lib.leBytes 4 k ++ text t := by rw [List.drop_zero, ← hl]; rfl
  obtain ⟨e1, f1⟩ := four_put false (by omega) h0
  have b1 := four_at (l := l) (i := 0) (b := false) (Nat.zero_le _)
  rw [e1] at b1
  obtain ⟨e2, f2⟩ := text_put (t := t) (Y := []) false (by omega) (by rw [f1, List.append_nil])
  have b2 := text_at (b := false) b1
  simp only at b2
  rw [e2] at b2
  unfold readK
  simp only [e1, e2]
  rw [← end_at b2 f2]
theorem readK_good {l t : List UInt8} {k : Nat} (h : readK l = ((k, t), l.length, false)) : cellK k t = l := by
  unfold readK at h
  obtain ⟨k', i1, b1, e1⟩ := triple (fourF l 0 false)
  simp only [e1] at h
  obtain ⟨t', i2, b2, e2⟩ := triple (textF l i1 b1)
  simp only [e2, Prod.mk.injEq] at h
  obtain ⟨⟨rfl, rfl⟩, rfl, rfl⟩ := h
  obtain ⟨rfl, g2⟩ := text_good e2
  obtain ⟨_, g1⟩ := four_good e1
  rw [List.drop_length, List.append_nil] at g2
  rw [List.drop_zero, g2] at g1
  rw [g1]
  rfl
theorem getK_read (l : List UInt8) : getK l = if (readK l).2 = (l.length, false) ∧ OkK (readK l).1.1 (readK l).1.2 then some (readK l).1 else none := by
  obtain ⟨k, t, i, b, hr⟩ : ∃ k t i b, readK l = ((k, t), i, b) := ⟨_, _, _, _, rfl⟩
  rw [hr]
  split
  · rename_i h
    simp only [Prod.mk.injEq] at h
    obtain ⟨⟨rfl, rfl⟩, h2⟩ := h
    exact (getK_iff l t k).2 ⟨h2, readK_good hr⟩
  · rename_i h
    refine getK_none fun k' t' hok e => h ?_
    have := readK_put k' t' hok
    rw [e, hr] at this
    simp only [Prod.mk.injEq] at this
    obtain ⟨⟨rfl, rfl⟩, rfl, rfl⟩ := this
    exact ⟨rfl, hok⟩
theorem readV_at (l : List UInt8) : (readV l).2.1 ≤ l.length := by
  have b1 := text_at (l := l) (i := 0) (b := false) (Nat.zero_le _)
  unfold readV
  simp only
  generalize textF l 0 false = x1 at *
  have b2 := mark_at (l := l) (i := x1.2.1) (b := x1.2.2) b1
  generalize markF l x1.2.1 x1.2.2 = x2 at *
  have b3 := (num_at (l := l) (i := x2.2.1) (b := x2.2.2) b2).1
  split
  · exact four_at b3
  · split
    · exact take_at b3
    · exact take_at b2
theorem readK_at (l : List UInt8) : (readK l).2.1 ≤ l.length := by
  have b1 := four_at (l := l) (i := 0) (b := false) (Nat.zero_le _)
  exact text_at b1
end Go.Proofs.Ytppnchjmbeinkaa.VP
