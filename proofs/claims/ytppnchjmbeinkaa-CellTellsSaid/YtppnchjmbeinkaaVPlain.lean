/-
  Plain mathematics of package cell: what stands in a slot.
-/
import Derived.Test.YtppnchjmbeinkaaWMath
namespace Go.Proofs.Ytppnchjmbeinkaa.VP
open Go.Proofs.Ytppnchjmbeinkaa
set_option linter.unusedSimpArgs false

/-- A value: a text, or how long one is, and where. -/
structure V where
  over : Bool
  s : List UInt8
  len : Int
  page : Int
theorem V.eq {a b : V} (h1 : a.over = b.over) (h2 : a.s = b.s) (h3 : a.len = b.len) (h4 : a.page = b.page) : a = b := by
  cases a; cases b; simp_all
def Right (v : V) : Prop := (v.over = true ∧ v.s = [] ∧ 1 ≤ v.len ∧ v.len ≤ 4096 ∧ 1 ≤ v.page ∧ v.page ≤ 4095) ∨ (v.over = false ∧ v.s.length ≤ 256 ∧ v.len = 0 ∧ v.page = 0)
instance (v : V) : Decidable (Right v) := by unfold Right; infer_instance
/-- A text with its length ahead. -/
def text (t : List UInt8) : List UInt8 := WP.put t.length ++ t
def tail (v : V) : List UInt8 := if v.over then 1 :: (WP.put v.len.toNat ++ Lib.leBytes 4 v.page.toNat) else 0 :: text v.s
def cellV (t : List UInt8) (v : V) : List UInt8 := text t ++ tail v
def cellK (k : Nat) (t : List UInt8) : List UInt8 := Lib.leBytes 4 k ++ text t
/-- May they be put? -/
def OkV (t : List UInt8) (v : V) : Prop := t.length ≤ 128 ∧ Right v
def OkK (k : Int) (t : List UInt8) : Prop := 1 ≤ k ∧ k ≤ 4095 ∧ t.length ≤ 128
instance (t : List UInt8) (v : V) : Decidable (OkV t v) := by unfold OkV; infer_instance
instance (k : Int) (t : List UInt8) : Decidable (OkK k t) := by unfold OkK; infer_instance

/-- A text with its length ahead, at a place, and the place behind it. -/
def gtext (l : List UInt8) (i : Nat) : Option (List UInt8 × Nat) :=
  let g := WP.get l i
  if g.2.2 = 0 ∧ g.1 ≤ l.length - g.2.1 then some ((l.drop g.2.1).take g.1, g.2.1 + g.1) else none
theorem gtext_at (X Y t : List UInt8) (h : t.length ≤ 18446744073709551615) : gtext (X ++ text t ++ Y) X.length = some (t, X.length + (text t).length) := by
  have e : X ++ text t ++ Y = X ++ WP.put t.length ++ (t ++ Y) := by simp [text]
  have hg := WP.get_put X (t ++ Y) t.length h
  rw [← e] at hg
  have hd : (X ++ text t ++ Y).drop (X.length + (WP.put t.length).length) = t ++ Y := by
    rw [e, ← List.length_append, List.drop_left]
  unfold gtext
  simp only [hg]
  have hle : t.length ≤ (X ++ text t ++ Y).length - (X.length + (WP.put t.length).length) := by
    simp only [text, List.length_append]
    omega
  rw [if_pos ⟨trivial, hle⟩, hd, List.take_left]
  simp [text, Nat.add_assoc]
/-- What a value's cell is of, as far as it can be read. -/
def parseV (l : List UInt8) : Option (List UInt8 × V) :=
  match gtext l 0 with
  | none => none
  | some (t, i) =>
    match l.drop i with
    | [] => none
    | c :: _ =>
      if c = 1 then
        let g := WP.get l (i + 1)
        if g.2.2 = 0 ∧ g.2.1 + 4 ≤ l.length ∧ g.1 ≤ 4096 ∧ Lib.leNat ((l.drop g.2.1).take 4) ≤ 4095 then some (t, ⟨true, [], g.1, Lib.leNat ((l.drop g.2.1).take 4)⟩) else none
      else
        match gtext l (i + 1) with
        | none => none
        | some (u, _) => some (t, ⟨false, u, 0, 0⟩)
theorem text_length (t : List UInt8) : (text t).length = (WP.put t.length).length + t.length := by simp [text]
theorem parse_cell (t : List UInt8) (v : V) (Y : List UInt8) (h : OkV t v) : parseV (cellV t v ++ Y) = some (t, v) := by
  obtain ⟨ht, hv⟩ := h
  have h0 : gtext (cellV t v ++ Y) 0 = some (t, (text t).length) := by
    have h1 := gtext_at [] (tail v ++ Y) t (by omega)
    simpa [cellV] using h1
  have hd : (cellV t v ++ Y).drop (text t).length = tail v ++ Y := by rw [cellV, List.append_assoc, List.drop_left]
  unfold parseV
  simp only [h0, hd]
  rcases hv with ⟨h1, h2, h3, h4, h5, h6⟩ | ⟨h1, h2, h3, h4⟩
  · have ht2 : tail v = 1 :: (WP.put v.len.toNat ++ Lib.leBytes 4 v.page.toNat) := by rw [tail, if_pos h1]
    have e : cellV t v ++ Y = (text t ++ [1]) ++ WP.put v.len.toNat ++ (Lib.leBytes 4 v.page.toNat ++ Y) := by
      rw [cellV, ht2]; simp
    have hg := WP.get_put (text t ++ [1]) (Lib.leBytes 4 v.page.toNat ++ Y) v.len.toNat (by omega)
    rw [← e] at hg
    have hl : (text t ++ [1]).length = (text t).length + 1 := by simp
    rw [hl] at hg
    have hd2 : (cellV t v ++ Y).drop ((text t).length + 1 + (WP.put v.len.toNat).length) = Lib.leBytes 4 v.page.toNat ++ Y := by
      rw [e, ← hl, ← List.length_append, List.drop_left]
    have hr : ((cellV t v ++ Y).drop ((text t).length + 1 + (WP.put v.len.toNat).length)).take 4 = Lib.leBytes 4 v.page.toNat := by
      rw [hd2, List.take_append_of_le_length (by rw [Lib.leBytes_length]; exact Nat.le_refl _), List.take_of_length_le (by rw [Lib.leBytes_length]; exact Nat.le_refl _)]
    have hn : Lib.leNat (Lib.leBytes 4 v.page.toNat) = v.page.toNat := Lib.leNat_leBytes 4 _ (by omega)
    rw [ht2]
    simp only [List.cons_append, if_true, hg, hr, hn]
    have hle : (text t).length + 1 + (WP.put v.len.toNat).length + 4 ≤ (cellV t v ++ Y).length := by
      rw [e]
      simp only [List.length_append, Lib.leBytes_length, List.length_cons, List.length_nil]
      omega
    rw [if_pos ⟨trivial, hle, by omega, by omega⟩]
    congr 2
    exact V.eq h1.symm h2.symm (by show ((v.len.toNat : Nat) : Int) = _; omega) (by show ((v.page.toNat : Nat) : Int) = _; omega)
  · have ht2 : tail v = 0 :: text v.s := by rw [tail, if_neg (by rw [h1]; decide)]
    have e : cellV t v ++ Y = (text t ++ [0]) ++ text v.s ++ Y := by rw [cellV, ht2]; simp
    have hg := gtext_at (text t ++ [0]) Y v.s (by omega)
    rw [← e] at hg
    have hl : (text t ++ [0]).length = (text t).length + 1 := by simp
    rw [hl] at hg
    rw [ht2]
    simp only [List.cons_append, if_neg (show ¬ (0 : UInt8) = 1 by decide), hg]
    congr 2
    exact V.eq h1.symm rfl h3.symm h4.symm
/-- A cell's value, of what may be put. -/
def getV (l : List UInt8) : Option (List UInt8 × V) :=
  match parseV l with
  | none => none
  | some (t, v) => if OkV t v ∧ cellV t v = l then some (t, v) else none
theorem getV_some {l t : List UInt8} {v : V} (h : getV l = some (t, v)) : OkV t v ∧ cellV t v = l := by
  unfold getV at h
  split at h
  · simp at h
  · split at h
    · rename_i h2
      simp only [Option.some.injEq, Prod.mk.injEq] at h
      obtain ⟨rfl, rfl⟩ := h
      exact h2
    · simp at h
theorem getV_cell (t : List UInt8) (v : V) (h : OkV t v) : getV (cellV t v) = some (t, v) := by
  have h1 := parse_cell t v [] h
  rw [List.append_nil] at h1
  unfold getV
  simp only [h1]
  rw [if_pos ⟨h, trivial⟩]
theorem getV_iff (l t : List UInt8) (v : V) : getV l = some (t, v) ↔ OkV t v ∧ cellV t v = l :=
  ⟨getV_some, fun ⟨h1, h2⟩ => by rw [← h2]; exact getV_cell t v h1⟩
theorem getV_none {l : List UInt8} (h : ∀ t v, OkV t v → cellV t v ≠ l) : getV l = none := by
  cases e : getV l with
  | none => rfl
  | some x => exact absurd (getV_some (t := x.1) (v := x.2) e).2 (h _ _ (getV_some (t := x.1) (v := x.2) e).1)
theorem cellV_inj {t t' : List UInt8} {v v' : V} {Y Y' : List UInt8} (h : OkV t v) (h' : OkV t' v') (e : cellV t v ++ Y = cellV t' v' ++ Y') : t = t' ∧ v = v' ∧ Y = Y' := by
  have h1 := parse_cell t v Y h
  rw [e, parse_cell t' v' Y' h'] at h1
  simp only [Option.some.injEq, Prod.mk.injEq] at h1
  obtain ⟨rfl, rfl⟩ := h1
  exact ⟨rfl, rfl, List.append_cancel_left e⟩
theorem cellV_more (t : List UInt8) (v : V) (Y : List UInt8) (h : OkV t v) (hY : Y ≠ []) : getV (cellV t v ++ Y) = none :=
  getV_none fun t' v' h' e => hY (cellV_inj (Y := []) (Y' := Y) h' h (by rw [List.append_nil]; exact e)).2.2.symm
theorem cellV_less (t : List UInt8) (v : V) (k : Nat) (h : OkV t v) (hk : k < (cellV t v).length) : getV ((cellV t v).take k) = none :=
  getV_none fun t' v' h' e => by
    have h1 := cellV_inj (Y := (cellV t v).drop k) (Y' := []) h' h (by rw [List.append_nil, e, List.take_append_drop])
    have h2 := congrArg List.length h1.2.2
    simp at h2
    omega

/-- A kid's cell. -/
def parseK (l : List UInt8) : Option (Nat × List UInt8) :=
  if 4 ≤ l.length ∧ Lib.leNat (l.take 4) ≤ 4095 then
    match gtext l 4 with
    | none => none
    | some (t, _) => some (Lib.leNat (l.take 4), t)
  else none
theorem parseK_cell (k : Nat) (t Y : List UInt8) (h : OkK k t) : parseK (cellK k t ++ Y) = some (k, t) := by
  obtain ⟨h1, h2, h3⟩ := h
  have hl : (Lib.leBytes 4 k).length = 4 := Lib.leBytes_length 4 k
  have e : cellK k t ++ Y = Lib.leBytes 4 k ++ text t ++ Y := rfl
  have hg := gtext_at (Lib.leBytes 4 k) Y t (by omega)
  rw [← e, hl] at hg
  have ht : (cellK k t ++ Y).take 4 = Lib.leBytes 4 k := by
    rw [e, List.append_assoc, List.take_append_of_le_length (by omega), List.take_of_length_le (by omega)]
  have hn : Lib.leNat (Lib.leBytes 4 k) = k := Lib.leNat_leBytes 4 _ (by omega)
  unfold parseK
  have hle : 4 ≤ (cellK k t ++ Y).length := by
    rw [e]
    simp only [List.length_append]
    omega
  rw [ht, hn, if_pos ⟨hle, by omega⟩]
  simp only [hg]
def getK (l : List UInt8) : Option (Nat × List UInt8) :=
  match parseK l with
  | none => none
  | some (k, t) => if OkK k t ∧ cellK k t = l then some (k, t) else none
theorem getK_some {l t : List UInt8} {k : Nat} (h : getK l = some (k, t)) : OkK k t ∧ cellK k t = l := by
  unfold getK at h
  split at h
  · simp at h
  · split at h
    · rename_i h2
      simp only [Option.some.injEq, Prod.mk.injEq] at h
      obtain ⟨rfl, rfl⟩ := h
      exact h2
    · simp at h
theorem getK_cell (k : Nat) (t : List UInt8) (h : OkK k t) : getK (cellK k t) = some (k, t) := by
  have h1 := parseK_cell k t [] h
  rw [List.append_nil] at h1
  unfold getK
  simp only [h1]
  rw [if_pos ⟨h, trivial⟩]
theorem getK_iff (l t : List UInt8) (k : Nat) : getK l = some (k, t) ↔ OkK k t ∧ cellK k t = l :=
  ⟨getK_some, fun ⟨h1, h2⟩ => by rw [← h2]; exact getK_cell k t h1⟩
theorem getK_none {l : List UInt8} (h : ∀ (k : Nat) t, OkK k t → cellK k t ≠ l) : getK l = none := by
  cases e : getK l with
  | none => rfl
  | some x => exact absurd (getK_some (k := x.1) (t := x.2) e).2 (h _ _ (getK_some (k := x.1) (t := x.2) e).1)
theorem cellK_inj {k k' : Nat} {t t' Y Y' : List UInt8} (h : OkK k t) (h' : OkK k' t') (e : cellK k t ++ Y = cellK k' t' ++ Y') : k = k' ∧ t = t' ∧ Y = Y' := by
  have h1 := parseK_cell k t Y h
  rw [e, parseK_cell k' t' Y' h'] at h1
  simp only [Option.some.injEq, Prod.mk.injEq] at h1
  obtain ⟨rfl, rfl⟩ := h1
  exact ⟨rfl, rfl, List.append_cancel_left e⟩
theorem cellK_more (k : Nat) (t Y : List UInt8) (h : OkK k t) (hY : Y ≠ []) : getK (cellK k t ++ Y) = none :=
  getK_none fun k' t' h' e => hY (cellK_inj (Y := []) (Y' := Y) h' h (by rw [List.append_nil]; exact e)).2.2.symm
theorem cellK_less (k : Nat) (t : List UInt8) (j : Nat) (h : OkK k t) (hj : j < (cellK k t).length) : getK ((cellK k t).take j) = none :=
  getK_none fun k' t' h' e => by
    have h1 := cellK_inj (Y := (cellK k t).drop j) (Y' := []) h' h (by rw [List.append_nil, e, List.take_append_drop])
    have h2 := congrArg List.length h1.2.2
    simp at h2
    omega
end Go.Proofs.Ytppnchjmbeinkaa.VP
