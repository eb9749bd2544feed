/-
  A row of leaves that the call owns, each with a row of items of its own (for LeafEach).
-/
import Derived.Test.YtpehkikdmckldaaGreatDoorJ18
import Derived.Test.YtpehkikdmckldaaGreatDoorJNCut
import Derived.OneCell
namespace Go.Proofs.YtpehkikdmckldaaGreatDoor
open Go.RowKit NP
set_option linter.unusedVariables false
set_option linter.unusedSimpArgs false

theorem Tryz.infoLeaf : (Tryz.prog.info? 24).map (fun i => (i.zero, i.size, i.bytes)) = some (some (.agg #[.int .i64 0, .int .i64 0, .string ⟨#[]⟩, .slice none 0 0]), 4, 56) := by kernel_rfl
/-- A leaf of the row: its fields, its items' address, the items, how many have room. -/
structure Bd where
  f : Int
  r : Int
  h : ByteArray
  a : Option Addr
  l : List It
  c : Nat
def four (x : Bd) : List Value := [.int .i64 x.f, .int .i64 x.r, .string x.h, .slice x.a x.l.length x.c]
def fours (bs : List Bd) : List Value := bs.flatMap four
theorem fours_append (a b : List Bd) : fours (a ++ b) = fours a ++ fours b := by simp [fours]
theorem fours_length : ∀ (l : List Bd), (fours l).length = l.length * 4
  | [] => rfl
  | c :: l => by
    have := fours_length l
    simp only [fours, List.flatMap_cons, List.length_append, List.length_cons] at *
    rw [this]
    simp [four]
    omega
theorem fours_get : ∀ (l : List Bd) (i j : Nat) (c : Bd) (v : Value), l[i]? = some c → (four c)[j]? = some v → (fours l)[i * 4 + j]? = some v
  | [], i, j, c, v, h, _ => by simp at h
  | d :: l, 0, j, c, v, h, hv => by
    simp at h
    subst h
    have hj : j < (four d).length := (List.getElem?_eq_some_iff.1 hv).1
    rw [fours, List.flatMap_cons, List.getElem?_append_left (by simpa using hj)]
    simpa using hv
  | d :: l, i + 1, j, c, v, h, hv => by
    have := fours_get l i j c v (by simpa using h) hv
    rw [fours, List.flatMap_cons, List.getElem?_append_right (by simp [four]; omega)]
    rw [show (i + 1) * 4 + j - (four d).length = i * 4 + j by simp [four]; omega]
    exact this
theorem four_one (x : Bd) : ∀ u ∈ four x, u.oneCell' = true := by simp [four, Value.oneCell']
/-- The row, and each leaf's items: all the call's own, no two in one block. -/
structure BadW (b0 g cap : Nat) (bs : List Bd) (w : World) : Prop where
  own : w.ownsRow b0 24 4 (.slice (some ⟨g, 0, none⟩) bs.length cap) bs.length (fours bs)
  rows : ∀ (i : Nat) (x : Bd), bs[i]? = some x → w.ownsRow b0 59 5 (.slice x.a x.l.length x.c) x.l.length (fives x.l)
  apart : ∀ (i j : Nat) (x y : Bd) (a b : Addr), i ≠ j → bs[i]? = some x → bs[j]? = some y → x.a = some a → y.a = some b → a.block ≠ b.block
section
variable {b0 g cap : Nat} {bs : List Bd} {w w' : World}
/-- What a call's own row holds is below the heap's end. -/
theorem own_lt {base e size n m cap : Nat} {a : Addr} {xs : List Value} (h : w.ownsRow base e size (.slice (some a) m cap) n xs) : a.block < w.heap.size ∧ base ≤ a.block := by
  rcases h.2 with ⟨h', _⟩ | ⟨g', cap', cur, h', hb, hg, _⟩
  · simp at h'
  · simp only [Value.slice.injEq, Option.some.injEq] at h'
    rw [h'.1]
    exact ⟨(Array.getElem?_eq_some_iff.1 hg).1, hb⟩
theorem own_kept {base e size n : Nat} {v : Value} {xs : List Value} (h : w.ownsRow base e size v n xs) (k : Below w.heap.size w w') : w'.ownsRow base e size v n xs := by
  refine h.kept (row := none) ⟨k.os, k.tape, k.output, k.size, fun i hi _ => k.block i hi⟩ ?_
  cases hv : v.ownBlock with
  | none => exact .inl rfl
  | some x => exact .inr (by simp)
theorem BadW.below (h : BadW b0 g cap bs w) (k : Below w.heap.size w w') : BadW b0 g cap bs w' := ⟨own_kept h.own k, fun i x hx => own_kept (h.rows i x hx) k, h.apart⟩
/-- Leaves and items do not lie in one block. -/
theorem own_types {g m cap m' cap' n n' : Nat} {a : Addr} {xs ys : List Value} (h : w.ownsRow b0 24 4 (.slice (some ⟨g, 0, none⟩) m cap) n xs) (k : w.ownsRow b0 59 5 (.slice (some a) m' cap') n' ys) : a.block ≠ g := by
  rcases h.2 with ⟨h', _⟩ | ⟨g1, cap1, cur1, h', hb, hg, _⟩
  · simp at h'
  · rcases k.2 with ⟨k', _⟩ | ⟨g2, cap2, cur2, k', kb, kg, _⟩
    · simp at k'
    · simp only [Value.slice.injEq, Option.some.injEq, Addr.mk.injEq] at h' k'
      intro e
      rw [k'.1] at e
      obtain ⟨⟨rfl, _⟩, _⟩ := h'
      simp only at e
      subst e
      rw [hg] at kg
      simp at kg
theorem BadW.types (h : BadW b0 g cap bs w) {i : Nat} {x : Bd} {a : Addr} (hx : bs[i]? = some x) (ha : x.a = some a) : a.block ≠ g := by
  have k := h.rows i x hx
  rw [ha] at k
  exact own_types h.own k
theorem BadW.lies (h : BadW b0 g cap bs w) {i : Nat} {x : Bd} (hx : bs[i]? = some x) : Lies5 w w.heap.size x.a x.l := lies5_own (h.rows i x hx) rfl
theorem BadW.cell (h : BadW b0 g cap bs w) {i j : Nat} {x : Bd} {v : Value} (hx : bs[i]? = some x) (hv : (four x)[j]? = some v) : w.cell? ⟨g, i * 4 + j, none⟩ = some v := by
  have k := h.own.cells (g := g) rfl _ _ (fours_get bs i j x v hx hv)
  rcases Nat.eq_zero_or_pos (i * 4 + j) with e | e
  · rw [e] at k ⊢
    exact k
  · have e2 : ((⟨g, 0, none⟩ : Addr).add (i * 4 + j)) = ⟨g, i * 4 + j, none⟩ := by
      unfold Addr.add
      rw [if_neg (by omega)]
      simp
    rw [e2] at k
    exact k
theorem BadW.free (h : BadW b0 g cap bs w) (j : Nat) : w.frozen? ⟨g, j, none⟩ = false := h.own.frozenAt j
theorem BadW.bound (h : BadW b0 g cap bs w) : bs.length ≤ cap ∧ cap ≤ maxLen ∧ g < w.heap.size ∧ b0 ≤ g := by
  have h1 := own_lt h.own
  rcases h.own.2 with ⟨h', _⟩ | ⟨g1, cap1, cur1, h', hb, hg, hc1, hc2, _⟩
  · simp at h'
  · simp only [Value.slice.injEq] at h'
    refine ⟨by omega, by omega, h1.1, h1.2⟩
/-- A leaf is put behind the row: its items are the call's own, in a block that no other leaf has. -/
theorem BadW.push {g' cap' : Nat} {x : Bd} (h : BadW b0 g cap bs w) (hx : w.ownsRow b0 59 5 (.slice x.a x.l.length x.c) x.l.length (fives x.l)) (hn : ∀ (i : Nat) (y : Bd) (a b : Addr), bs[i]? = some y → y.a = some a → x.a = some b → a.block ≠ b.block)
    (hg : w.grownBy w' (some g)) (ho : w'.ownsRow b0 24 4 (.slice (some ⟨g', 0, none⟩) (bs.length + 1) cap') (bs.length + 1) (fours bs ++ four x)) : BadW b0 g' cap' (bs ++ [x]) w' := by
  refine ⟨?_, ?_, ?_⟩
  · have e : (bs ++ [x]).length = bs.length + 1 := by simp
    rw [e, fours_append, show fours [x] = four x by simp [fours]]
    exact ho
  · intro i y hy
    have keep : ∀ z : Bd, w.ownsRow b0 59 5 (.slice z.a z.l.length z.c) z.l.length (fives z.l) → w'.ownsRow b0 59 5 (.slice z.a z.l.length z.c) z.l.length (fives z.l) := fun z hz => by
      refine hz.kept hg ?_
      cases ha : z.a with
      | none => exact .inl rfl
      | some a =>
        rw [ha] at hz
        refine .inr fun e => own_types h.own hz ?_
        simpa [Value.ownBlock] using e
    rcases Nat.lt_or_ge i bs.length with hi | hi
    · rw [List.getElem?_append_left hi] at hy
      exact keep y (h.rows i y hy)
    · rw [List.getElem?_append_right hi] at hy
      have hi0 : i - bs.length = 0 := by
        have := (List.getElem?_eq_some_iff.1 hy).1
        simp at this
        omega
      rw [hi0] at hy
      obtain rfl : x = y := by simpa using hy
      exact keep x hx
  · intro i j y z a b hij hy hz ha hb
    rcases Nat.lt_or_ge i bs.length with hi | hi <;> rcases Nat.lt_or_ge j bs.length with hj | hj
    · rw [List.getElem?_append_left hi] at hy
      rw [List.getElem?_append_left hj] at hz
      exact h.apart i j y z a b hij hy hz ha hb
    · rw [List.getElem?_append_left hi] at hy
      rw [List.getElem?_append_right hj] at hz
      have hj0 : j - bs.length = 0 := by
        have := (List.getElem?_eq_some_iff.1 hz).1
        simp at this
        omega
      rw [hj0] at hz
      obtain rfl : x = z := by simpa using hz
      exact hn i y a b hy ha hb
    · rw [List.getElem?_append_right hi] at hy
      rw [List.getElem?_append_left hj] at hz
      have hi0 : i - bs.length = 0 := by
        have := (List.getElem?_eq_some_iff.1 hy).1
        simp at this
        omega
      rw [hi0] at hy
      obtain rfl : x = y := by simpa using hy
      exact fun e => hn j z b a hz hb ha e.symm
    · have h1 := (List.getElem?_eq_some_iff.1 hy).1
      have h2 := (List.getElem?_eq_some_iff.1 hz).1
      simp at h1 h2
      omega
/-- A field of a leaf that is none of its items' is stored. -/
theorem BadW.put (h : BadW b0 g cap bs w) (i j : Nat) (x y : Bd) (u : Value) (hx : bs[i]? = some x) (hy : fours (bs.set i y) = (fours bs).set (i * 4 + j) u) (ha : y.a = x.a) (hl : y.l = x.l) (hc : y.c = x.c) : BadW b0 g cap (bs.set i y) (w.setCell ⟨g, i * 4 + j, none⟩ u) := by
  refine ⟨?_, ?_, ?_⟩
  · have k := (h.own.stored (i * 4 + j) u).1
    rw [List.length_set, hy]
    exact k
  · intro q z hz
    have keep : ∀ (q : Nat) (z : Bd), bs[q]? = some z → (w.setCell ⟨g, i * 4 + j, none⟩ u).ownsRow b0 59 5 (.slice z.a z.l.length z.c) z.l.length (fives z.l) := fun q z hz => by
      refine ownsRow_setCell_other (h.rows q z hz) ?_ u
      cases hza : z.a with
      | none => simp [Value.ownBlock]
      | some a =>
        intro e
        exact h.types hz hza (by simpa [Value.ownBlock] using e)
    rw [List.getElem?_set] at hz
    split at hz
    · rename_i hiq
      split at hz
      · obtain rfl : y = z := by simpa using hz
        have k := keep i x hx
        rw [ha, hl, hc]
        exact k
      · simp at hz
    · exact keep q z hz
  · have back : ∀ (q : Nat) (z : Bd) (a : Addr), (bs.set i y)[q]? = some z → z.a = some a → ∃ z', bs[q]? = some z' ∧ z'.a = some a := fun q z a hz hza => by
      rw [List.getElem?_set] at hz
      split at hz
      · rename_i hiq
        split at hz
        · obtain rfl : y = z := by simpa using hz
          exact ⟨x, by rw [← hiq]; exact hx, by rw [← ha]; exact hza⟩
        · simp at hz
      · exact ⟨z, hz, hza⟩
    intro q s z t a b hqs hz ht hza htb
    obtain ⟨z', h1, h2⟩ := back q z a hz hza
    obtain ⟨t', h3, h4⟩ := back s t b ht htb
    exact h.apart q s z' t' a b hqs h1 h3 h2 h4
/-- The row stays where a leaf's items grow. -/
theorem BadW.grown (h : BadW b0 g cap bs w) {i : Nat} {x : Bd} (hx : bs[i]? = some x) (hg : w.grownBy w' (Value.slice x.a x.l.length x.c).ownBlock) : w'.ownsRow b0 24 4 (.slice (some ⟨g, 0, none⟩) bs.length cap) bs.length (fours bs) := by
  have hgx : ∀ a : Addr, x.a = some a → a.block ≠ g := fun a ha => h.types hx ha
  refine h.own.kept hg (.inr ?_)
  cases hxa : x.a with
  | none => simp [Value.ownBlock]
  | some a => exact fun e => hgx a hxa (by simpa [Value.ownBlock] using e.symm)
theorem row4_cell {n : Nat} (h : w.ownsRow b0 24 4 (.slice (some ⟨g, 0, none⟩) n cap) n (fours bs)) {i j : Nat} {x : Bd} {v : Value} (hx : bs[i]? = some x) (hv : (four x)[j]? = some v) : w.cell? ⟨g, i * 4 + j, none⟩ = some v := by
  have k := h.cells (g := g) rfl _ _ (fours_get bs i j x v hx hv)
  rcases Nat.eq_zero_or_pos (i * 4 + j) with e | e
  · rw [e] at k ⊢
    exact k
  · have e2 : ((⟨g, 0, none⟩ : Addr).add (i * 4 + j)) = ⟨g, i * 4 + j, none⟩ := by
      unfold Addr.add
      rw [if_neg (by omega)]
      simp
    rw [e2] at k
    exact k
/-- Items are put behind a leaf's own, and the leaf is stored anew. -/
theorem BadW.grow0 {g' cap' : Nat} {ls : List It} (h : BadW b0 g cap bs w) (i : Nat) (x : Bd) (hx : bs[i]? = some x) (hg : w.grownBy w' (Value.slice x.a x.l.length x.c).ownBlock) (hat : (Value.slice x.a x.l.length x.c).ownBlock = some g' ∨ g' ≥ w.heap.size)
    (ho : w'.ownsRow b0 59 5 (.slice (some ⟨g', 0, none⟩) ls.length cap') ls.length (fives ls))
    (hy : fours (bs.set i ⟨x.f, x.r, x.h, some ⟨g', 0, none⟩, ls, cap'⟩) = (fours bs).set (i * 4 + 3) (.slice (some ⟨g', 0, none⟩) ls.length cap')) :
    BadW b0 g cap (bs.set i ⟨x.f, x.r, x.h, some ⟨g', 0, none⟩, ls, cap'⟩) (w'.setCell ⟨g, i * 4 + 3, none⟩ (.slice (some ⟨g', 0, none⟩) ls.length cap')) := by
  have hown := h.grown hx hg
  have hg' : g' ≠ g := own_types hown ho
  have others : ∀ (q : Nat) (z : Bd) (a : Addr), q ≠ i → bs[q]? = some z → z.a = some a → a.block ≠ g' := fun q z a hq hz hza e => by
    rcases hat with hat | hat
    · cases hxa : x.a with
      | none => rw [hxa] at hat; simp [Value.ownBlock] at hat
      | some c =>
        rw [hxa] at hat
        have hc : c.block = g' := by simpa [Value.ownBlock] using hat
        exact h.apart q i z x a c hq hz hx hza hxa (by rw [e, hc])
    · have k := h.rows q z hz
      rw [hza] at k
      have := (own_lt k).1
      omega
  refine ⟨?_, ?_, ?_⟩
  · have k := (hown.stored (i * 4 + 3) (.slice (some ⟨g', 0, none⟩) ls.length cap')).1
    rw [List.length_set, hy]
    exact k
  · intro q z hz
    rw [List.getElem?_set] at hz
    split at hz
    · split at hz
      · obtain rfl := Option.some.inj hz
        refine ownsRow_setCell_other ho ?_ _
        simp [Value.ownBlock]
        exact hg'
      · simp at hz
    · rename_i hiq
      have hqi : q ≠ i := fun e => hiq e.symm
      have k1 : w'.ownsRow b0 59 5 (.slice z.a z.l.length z.c) z.l.length (fives z.l) := by
        refine (h.rows q z hz).kept hg ?_
        cases hza : z.a with
        | none => exact .inl rfl
        | some a =>
          cases hxa : x.a with
          | none => exact .inr (by simp [Value.ownBlock])
          | some c => exact .inr (fun e => h.apart q i z x a c hqi hz hx hza hxa (by simpa [Value.ownBlock] using e))
      refine ownsRow_setCell_other k1 ?_ _
      cases hza : z.a with
      | none => simp [Value.ownBlock]
      | some a => exact fun e => h.types hz hza (by simpa [Value.ownBlock] using e)
  · intro q s z t a b hqs hz ht hza htb
    rw [List.getElem?_set] at hz ht
    split at hz
    · rename_i hiq
      split at hz
      · obtain rfl := Option.some.inj hz
        simp only [Option.some.injEq] at hza
        subst hza
        rw [if_neg (by omega)] at ht
        exact fun e => others s t b (by omega) ht htb e.symm
      · simp at hz
    · rename_i hiq
      split at ht
      · rename_i his
        split at ht
        · obtain rfl := Option.some.inj ht
          simp only [Option.some.injEq] at htb
          subst htb
          exact others q z a (by omega) hz hza
        · simp at ht
      · exact h.apart q s z t a b hqs hz ht hza htb
theorem BadW.grow {g' cap' m : Nat} {ls : List It} (h : BadW b0 g cap bs w) (i : Nat) (x : Bd) (hx : bs[i]? = some x) (hg : w.grownBy w' (Value.slice x.a x.l.length x.c).ownBlock) (hat : (Value.slice x.a x.l.length x.c).ownBlock = some g' ∨ g' = w.heap.size)
    (hm : ls.length = m) (ho : w'.ownsRow b0 59 5 (.slice (some ⟨g', 0, none⟩) m cap') m (fives ls))
    (hy : fours (bs.set i ⟨x.f, x.r, x.h, some ⟨g', 0, none⟩, ls, cap'⟩) = (fours bs).set (i * 4 + 3) (.slice (some ⟨g', 0, none⟩) ls.length cap')) :
    BadW b0 g cap (bs.set i ⟨x.f, x.r, x.h, some ⟨g', 0, none⟩, ls, cap'⟩) (w'.setCell ⟨g, i * 4 + 3, none⟩ (.slice (some ⟨g', 0, none⟩) m cap')) := by
  subst hm
  exact h.grow0 i x hx hg (hat.imp id (fun e => by omega)) ho hy
/-- What a walk reads of the i-th leaf. -/
theorem BadW.load (h : BadW b0 g cap bs w) {i : Nat} {x : Bd} (hx : bs[i]? = some x) :
    w.cell? ((⟨g, 0, none⟩ : Addr).add (i * 4)) = some (.int .i64 x.f) ∧ w.cell? ⟨((⟨g, 0, none⟩ : Addr).add (i * 4)).block, ((⟨g, 0, none⟩ : Addr).add (i * 4)).off + 1, none⟩ = some (.int .i64 x.r) ∧ w.cell? ⟨((⟨g, 0, none⟩ : Addr).add (i * 4)).block, ((⟨g, 0, none⟩ : Addr).add (i * 4)).off + 2, none⟩ = some (.string x.h) ∧ w.cell? ⟨((⟨g, 0, none⟩ : Addr).add (i * 4)).block, ((⟨g, 0, none⟩ : Addr).add (i * 4)).off + 3, none⟩ = some (.slice x.a x.l.length x.c) := by
  have k := fun (j : Nat) (v : Value) (hv : (four x)[j]? = some v) => h.own.cells (g := g) rfl _ _ (fours_get bs i j x v hx hv)
  have e : ∀ j, w.cell? (((⟨g, 0, none⟩ : Addr).add (i * 4)).add j) = w.cell? ((⟨g, 0, none⟩ : Addr).add (i * 4 + j)) := fun j => by rw [L5.addr_add]
  refine ⟨?_, ?_, ?_, ?_⟩
  · exact (e 0).trans (k 0 _ rfl)
  · exact (e 1).trans (k 1 _ rfl)
  · exact (e 2).trans (k 2 _ rfl)
  · exact (e 3).trans (k 3 _ rfl)
theorem one_bd {F R : Int} {H : ByteArray} {l : List It} {x : Bd} (h : x.f = F ∧ x.r = R ∧ x.h = H ∧ x.l = l) : x = ⟨F, R, H, x.a, l, x.c⟩ := by
  obtain ⟨f, r, hh, a, l', c⟩ := x
  simp only at h
  obtain ⟨rfl, rfl, rfl, rfl⟩ := h
  rfl
theorem seven {F R : Int} {H : ByteArray} {l : List It} {bs : List Bd} (h : ∀ x ∈ bs, x.f = F ∧ x.r = R ∧ x.h = H ∧ x.l = l) (hl : bs.length = 7) :
    ∃ a0 d0 a1 d1 a2 d2 a3 d3 a4 d4 a5 d5 a6 d6, bs = [⟨F, R, H, a0, l, d0⟩, ⟨F, R, H, a1, l, d1⟩, ⟨F, R, H, a2, l, d2⟩, ⟨F, R, H, a3, l, d3⟩, ⟨F, R, H, a4, l, d4⟩, ⟨F, R, H, a5, l, d5⟩, ⟨F, R, H, a6, l, d6⟩] := by
  match bs, hl, h with
  | [x0, x1, x2, x3, x4, x5, x6], _, h =>
    refine ⟨x0.a, x0.c, x1.a, x1.c, x2.a, x2.c, x3.a, x3.c, x4.a, x4.c, x5.a, x5.c, x6.a, x6.c, ?_⟩
    simp only [List.cons.injEq, and_true]
    exact ⟨one_bd (h _ (by simp)), one_bd (h _ (by simp)), one_bd (h _ (by simp)), one_bd (h _ (by simp)), one_bd (h _ (by simp)), one_bd (h _ (by simp)), one_bd (h _ (by simp))⟩
end
/-- None of the seven may be. -/
theorem each_bad {F R : Int} {H2 K8 : ByteArray} {L2 : List It} {q : Nat} (hK8 : K8.size = q / 8 + 1) (hH : H2.size ≤ 140) (hL : L2.length ≤ 20) (hq : q ≤ 1024) (a0 a1 a2 a3 a4 a5 a6 : Option Addr) (d0 d1 d2 d3 d4 d5 d6 : Nat) :
    ∀ (i : Nat) (x : Bd), ([⟨0, R, H2, a0, L2, d0⟩, ⟨4096, R, H2, a1, L2, d1⟩, ⟨F, F, H2, a2, L2, d2⟩, ⟨F, R, K8, a3, L2, d3⟩, ⟨F, R, H2, a4, L2 ++ [(⟨K8, false, ⟨#[]⟩, 0, 0⟩ : It)], d4⟩, ⟨F, 4096, H2, a5, L2, d5⟩, ⟨F, R, H2, a6, L2 ++ [(⟨⟨#[]⟩, false, ⟨#[]⟩, 0, 0⟩ : It), (⟨⟨#[]⟩, false, ⟨#[]⟩, 0, 0⟩ : It)], d6⟩] : List Bd)[i]? = some x → ¬ May ⟨x.f, x.r, x.h, x.l⟩ q ∧ x.l.length ≤ 30 ∧ x.h.size ≤ 1000 := by
  intro i x hx
  match i with
  | 0 =>
    obtain rfl := Option.some.inj hx
    refine ⟨fun h => ?_, by show L2.length ≤ 30; omega, by show H2.size ≤ 1000; omega⟩
    have h1 : (1 : Int) ≤ 0 := h.2.1.1
    omega
  | 1 =>
    obtain rfl := Option.some.inj hx
    refine ⟨fun h => ?_, by show L2.length ≤ 30; omega, by show H2.size ≤ 1000; omega⟩
    have h1 : (4096 : Int) ≤ 4095 := h.2.1.2.1
    omega
  | 2 =>
    obtain rfl := Option.some.inj hx
    exact ⟨fun h => h.2.1.2.2.2.2 rfl, by show L2.length ≤ 30; omega, by show H2.size ≤ 1000; omega⟩
  | 3 =>
    obtain rfl := Option.some.inj hx
    refine ⟨fun h => ?_, by show L2.length ≤ 30; omega, by show K8.size ≤ 1000; omega⟩
    by_cases h0 : R = 0
    · have h1 : K8.size = 0 := h.2.2.1.1 h0
      omega
    · have h1 : (K8.size : Int) ≤ (q : Int) / 8 := (h.2.2.1.2 h0).2.1
      omega
  | 4 =>
    obtain rfl := Option.some.inj hx
    refine ⟨fun h => ?_, by simp; omega, by show H2.size ≤ 1000; omega⟩
    have h1 : (K8.size : Int) ≤ (q : Int) / 8 := (h.2.2.2.2 ⟨K8, false, ⟨#[]⟩, 0, 0⟩ (by simp)).1
    omega
  | 5 =>
    obtain rfl := Option.some.inj hx
    refine ⟨fun h => ?_, by show L2.length ≤ 30; omega, by show H2.size ≤ 1000; omega⟩
    have h1 : (4096 : Int) ≤ 4095 := h.2.1.2.2.2.1
    omega
  | 6 =>
    obtain rfl := Option.some.inj hx
    refine ⟨fun h => ?_, by simp; omega, by show H2.size ≤ 1000; omega⟩
    have h1 : Rise (L2 ++ [(⟨⟨#[]⟩, false, ⟨#[]⟩, 0, 0⟩ : It), (⟨⟨#[]⟩, false, ⟨#[]⟩, 0, 0⟩ : It)]) := h.2.2.2.1
    have h2 := (List.pairwise_append.1 h1).2.1
    have h3 := List.rel_of_pairwise_cons h2 (List.mem_cons_self)
    exact L5.EP.lt_irrefl _ h3
  | i + 7 => simp at hx
theorem bad_share {G : Prop} {A T : Nat → World → Prop} (main : (∀ g U, A g U → T g U) → G) (tail : ∀ g U, A g U → T g U) : G := main tail
end Go.Proofs.YtpehkikdmckldaaGreatDoor
