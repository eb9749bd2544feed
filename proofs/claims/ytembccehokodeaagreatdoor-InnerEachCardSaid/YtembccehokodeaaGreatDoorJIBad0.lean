/-
  A row of inner pages that the call owns, each with rows of its own (for InnerEach).
-/
import Derived.Test.YtembccehokodeaaGreatDoorJ07
import Derived.Test.YtembccehokodeaaGreatDoorJIOne
import Derived.OneCell
namespace Go.Proofs.YtembccehokodeaaGreatDoor
open Go.RowKit IP
set_option linter.unusedVariables false
set_option linter.unusedSimpArgs false

theorem Tryz.infoInn : (Tryz.prog.info? 25).map (fun i => (i.zero, i.size, i.bytes)) = some (some (.agg #[.int .i64 0, .int .i64 0, .int .i64 0, .string ⟨#[]⟩, .slice none 0 0, .slice none 0 0]), 6, 88) := by kernel_rfl
/-- A page of the row: its fields; its kids' block, the kids, how many have room; the Seps' too. -/
structure Bd where
  f : Int
  l : Int
  r : Int
  h : ByteArray
  a : Nat
  ks : List Int
  c : Nat
  b : Nat
  ss : List ByteArray
  d : Nat
def six (x : Bd) : List Value := [.int .i64 x.f, .int .i64 x.l, .int .i64 x.r, .string x.h, .slice (some ⟨x.a, 0, none⟩) x.ks.length x.c, .slice (some ⟨x.b, 0, none⟩) x.ss.length x.d]
def sixs (bs : List Bd) : List Value := bs.flatMap six
theorem sixs_append (a b : List Bd) : sixs (a ++ b) = sixs a ++ sixs b := by simp [sixs]
theorem sixs_get : ∀ (l : List Bd) (i j : Nat) (c : Bd) (v : Value), l[i]? = some c → (six c)[j]? = some v → (sixs l)[i * 6 + j]? = some v
  | [], i, j, c, v, h, _ => by simp at h
  | d :: l, 0, j, c, v, h, hv => by
    simp at h
    subst h
    have hj : j < (six d).length := (List.getElem?_eq_some_iff.1 hv).1
    rw [sixs, List.flatMap_cons, List.getElem?_append_left (by simpa using hj)]
    simpa using hv
  | d :: l, i + 1, j, c, v, h, hv => by
    have := sixs_get l i j c v (by simpa using h) hv
    rw [sixs, List.flatMap_cons, List.getElem?_append_right (by simp [six]; omega)]
    rw [show (i + 1) * 6 + j - (six d).length = i * 6 + j by simp [six]; omega]
    exact this
theorem six_one (x : Bd) : ∀ u ∈ six x, u.oneCell' = true := by simp [six, Value.oneCell']
/-- The row, and each page's rows: all the call's own; no two pages' kids in one block. -/
structure BadW (b0 g cap : Nat) (bs : List Bd) (w : World) : Prop where
  own : w.ownsRow b0 25 6 (.slice (some ⟨g, 0, none⟩) bs.length cap) bs.length (sixs bs)
  kids : ∀ (i : Nat) (x : Bd), bs[i]? = some x → w.ownsRow b0 3 1 (.slice (some ⟨x.a, 0, none⟩) x.ks.length x.c) x.ks.length (numCells x.ks)
  seps : ∀ (i : Nat) (x : Bd), bs[i]? = some x → w.ownsRow b0 9 1 (.slice (some ⟨x.b, 0, none⟩) x.ss.length x.d) x.ss.length (L5.strCells x.ss)
  apart : ∀ (i j : Nat) (x y : Bd), i ≠ j → bs[i]? = some x → bs[j]? = some y → x.a ≠ y.a
section
variable {b0 g cap : Nat} {bs : List Bd} {w w' : World}
theorem own_at {base e size n m cap g : Nat} {xs : List Value} (h : w.ownsRow base e size (.slice (some ⟨g, 0, none⟩) m cap) n xs) : base ≤ g ∧ g < w.heap.size ∧ ∃ cur fz, w.heap[g]? = some (.cells cur e fz) := by
  rcases h.2 with ⟨h', _⟩ | ⟨g', cap', cur, h', hb, hg, _⟩
  · simp at h'
  · simp only [Value.slice.injEq, Option.some.injEq, Addr.mk.injEq, and_true, true_and] at h'
    obtain ⟨rfl, _⟩ := h'
    exact ⟨hb, (Array.getElem?_eq_some_iff.1 hg).1, _, _, hg⟩
theorem own_ne {b1 b2 e1 e2 s1 s2 n1 n2 m1 m2 c1 c2 g1 g2 : Nat} {xs ys : List Value} (h : w.ownsRow b1 e1 s1 (.slice (some ⟨g1, 0, none⟩) m1 c1) n1 xs) (k : w.ownsRow b2 e2 s2 (.slice (some ⟨g2, 0, none⟩) m2 c2) n2 ys) (he : e1 ≠ e2) : g1 ≠ g2 := fun e => by
  obtain ⟨_, _, c, f, h1⟩ := own_at h
  obtain ⟨_, _, c', f', h2⟩ := own_at k
  rw [e, h2] at h1
  injection h1 with h1
  injection h1 with _ h3
  exact he h3.symm
theorem owns_kept {base e size n m cap g : Nat} {xs : List Value} {row : Nat} (h : w.ownsRow base e size (.slice (some ⟨g, 0, none⟩) m cap) n xs) (hg : w.grownBy w' (some row)) (hne : g ≠ row) : w'.ownsRow base e size (.slice (some ⟨g, 0, none⟩) m cap) n xs := h.kept hg (.inr (by simpa [Value.ownBlock] using hne))
theorem owns_below {base e size n : Nat} {v : Value} {xs : List Value} (h : w.ownsRow base e size v n xs) (k : Below w.heap.size w w') : w'.ownsRow base e size v n xs := by
  refine h.kept (row := none) ⟨k.os, k.tape, k.output, k.size, fun i hi _ => k.block i hi⟩ ?_
  cases hv : v.ownBlock with
  | none => exact .inl rfl
  | some x => exact .inr (by simp)
theorem set_grown (w : World) (q o : Nat) (u : Value) : w.grownBy (w.setCell ⟨q, o, none⟩ u) (some q) := ⟨rfl, rfl, rfl, by simp, fun i hi hr => Below.heap_setCell w ⟨q, o, none⟩ u i (fun e => hr (by simp [e]))⟩
theorem BadW.below (h : BadW b0 g cap bs w) (k : Below w.heap.size w w') : BadW b0 g cap bs w' := ⟨owns_below h.own k, fun i x hx => L5.own_below (h.kids i x hx) k, fun i x hx => L5.own_below (h.seps i x hx) k, h.apart⟩
theorem BadW.kne (h : BadW b0 g cap bs w) {i : Nat} {x : Bd} (hx : bs[i]? = some x) : x.a ≠ g := own_ne (h.kids i x hx) h.own (by decide)
theorem BadW.sne (h : BadW b0 g cap bs w) {i : Nat} {x : Bd} (hx : bs[i]? = some x) : x.b ≠ g := own_ne (h.seps i x hx) h.own (by decide)
theorem BadW.ksne (h : BadW b0 g cap bs w) {i j : Nat} {x y : Bd} (hx : bs[i]? = some x) (hy : bs[j]? = some y) : x.b ≠ y.a := own_ne (h.seps i x hx) (h.kids j y hy) (by decide)
theorem row6_cell {n : Nat} (h : w.ownsRow b0 25 6 (.slice (some ⟨g, 0, none⟩) n cap) n (sixs bs)) {i j : Nat} {x : Bd} {v : Value} (hx : bs[i]? = some x) (hv : (six x)[j]? = some v) : w.cell? ⟨g, i * 6 + j, none⟩ = some v := by
  have k := h.cells (g := g) rfl _ _ (sixs_get bs i j x v hx hv)
  rcases Nat.eq_zero_or_pos (i * 6 + j) with e | e
  · rw [e] at k ⊢
    exact k
  · have e2 : ((⟨g, 0, none⟩ : Addr).add (i * 6 + j)) = ⟨g, i * 6 + j, none⟩ := by
      unfold Addr.add
      rw [if_neg (by omega)]
      simp
    rw [e2] at k
    exact k
theorem BadW.cell (h : BadW b0 g cap bs w) {i j : Nat} {x : Bd} {v : Value} (hx : bs[i]? = some x) (hv : (six x)[j]? = some v) : w.cell? ⟨g, i * 6 + j, none⟩ = some v := row6_cell h.own hx hv
theorem BadW.free (h : BadW b0 g cap bs w) (j : Nat) : w.frozen? ⟨g, j, none⟩ = false := h.own.frozenAt j
theorem BadW.bound (h : BadW b0 g cap bs w) : g < w.heap.size ∧ b0 ≤ g := ⟨(own_at h.own).2.1, (own_at h.own).1⟩
theorem BadW.rows (h : BadW b0 g cap bs w) {i : Nat} {x : Bd} (hx : bs[i]? = some x) : Rows2 w (some ⟨x.a, 0, none⟩) x.ks.length x.c (some ⟨x.b, 0, none⟩) x.ss.length x.d x.ks x.ss :=
  ⟨liesN_own (h.kids i x hx) rfl, L5.lies_own (h.seps i x hx) rfl, rfl, rfl, L5.own_cap (h.kids i x hx), L5.own_cap (h.seps i x hx)⟩
theorem get_snoc {bs : List Bd} {x y : Bd} {i : Nat} (hy : (bs ++ [x])[i]? = some y) : bs[i]? = some y ∨ (i = bs.length ∧ y = x) := by
  rcases Nat.lt_or_ge i bs.length with hi | hi
  · rw [List.getElem?_append_left hi] at hy
    exact .inl hy
  · rw [List.getElem?_append_right hi] at hy
    have hi0 : i - bs.length = 0 := by
      have := (List.getElem?_eq_some_iff.1 hy).1
      simp at this
      omega
    rw [hi0] at hy
    exact .inr ⟨by omega, (by simpa using hy : x = y).symm⟩
theorem get_set {bs : List Bd} {y z : Bd} {i q : Nat} (hz : (bs.set i y)[q]? = some z) : (q = i ∧ z = y ∧ i < bs.length) ∨ (q ≠ i ∧ bs[q]? = some z) := by
  rw [List.getElem?_set] at hz
  split at hz
  · split at hz
    · exact .inl ⟨by omega, (by simpa using hz : y = z).symm, by assumption⟩
    · simp at hz
  · exact .inr ⟨by omega, hz⟩
/-- A page is put behind the row: its kids lie in a block that no other page's do. -/
theorem BadW.push {g' cap' : Nat} {x : Bd} (h : BadW b0 g cap bs w) (hk : w.ownsRow b0 3 1 (.slice (some ⟨x.a, 0, none⟩) x.ks.length x.c) x.ks.length (numCells x.ks)) (hs : w.ownsRow b0 9 1 (.slice (some ⟨x.b, 0, none⟩) x.ss.length x.d) x.ss.length (L5.strCells x.ss)) (hn : ∀ (i : Nat) (y : Bd), bs[i]? = some y → y.a ≠ x.a)
    (hg : w.grownBy w' (some g)) (ho : w'.ownsRow b0 25 6 (.slice (some ⟨g', 0, none⟩) (bs.length + 1) cap') (bs.length + 1) (sixs bs ++ six x)) : BadW b0 g' cap' (bs ++ [x]) w' := by
  refine ⟨?_, ?_, ?_, ?_⟩
  · have e : (bs ++ [x]).length = bs.length + 1 := by simp
    rw [e, sixs_append, show sixs [x] = six x by simp [sixs]]
    exact ho
  · intro i y hy
    rcases get_snoc hy with hy | ⟨_, rfl⟩
    · exact owns_kept (h.kids i y hy) hg (h.kne hy)
    · exact owns_kept hk hg (own_ne hk h.own (by decide))
  · intro i y hy
    rcases get_snoc hy with hy | ⟨_, rfl⟩
    · exact owns_kept (h.seps i y hy) hg (h.sne hy)
    · exact owns_kept hs hg (own_ne hs h.own (by decide))
  · intro i j y z hij hy hz
    rcases get_snoc hy with hy2 | ⟨e1, rfl⟩ <;> rcases get_snoc hz with hz2 | ⟨e2, rfl⟩
    · exact h.apart i j y z hij hy2 hz2
    · exact hn i y hy2
    · exact fun e => hn j z hz2 e.symm
    · omega
/-- A field of a page is stored: where its kids are stays. -/
theorem BadW.put (h : BadW b0 g cap bs w) (i j : Nat) (x y : Bd) (u : Value) (hx : bs[i]? = some x) (hy : sixs (bs.set i y) = (sixs bs).set (i * 6 + j) u) (ha : y.a = x.a) (hl : y.ks = x.ks) (hc : y.c = x.c) (hb : y.b = x.b) (hs : y.ss = x.ss) (hd : y.d = x.d) : BadW b0 g cap (bs.set i y) (w.setCell ⟨g, i * 6 + j, none⟩ u) := by
  have hg := set_grown w g (i * 6 + j) u
  refine ⟨?_, ?_, ?_, ?_⟩
  · have k := (h.own.stored (i * 6 + j) u).1
    rw [List.length_set, hy]
    exact k
  · intro q z hz
    rcases get_set hz with ⟨_, rfl, _⟩ | ⟨_, hz⟩
    · rw [ha, hl, hc]
      exact owns_kept (h.kids i x hx) hg (h.kne hx)
    · exact owns_kept (h.kids q z hz) hg (h.kne hz)
  · intro q z hz
    rcases get_set hz with ⟨_, rfl, _⟩ | ⟨_, hz⟩
    · rw [hb, hs, hd]
      exact owns_kept (h.seps i x hx) hg (h.sne hx)
    · exact owns_kept (h.seps q z hz) hg (h.sne hz)
  · intro q s z t hqs hz ht
    rcases get_set hz with ⟨e1, rfl, _⟩ | ⟨e1, hz2⟩ <;> rcases get_set ht with ⟨e2, rfl, _⟩ | ⟨e2, ht2⟩
    · omega
    · rw [ha]
      exact h.apart i s x t (by omega) hx ht2
    · rw [ha]
      exact h.apart q i z x (by omega) hz2 hx
    · exact h.apart q s z t hqs hz2 ht2
/-- One of a page's kids is stored. -/
theorem BadW.putK (h : BadW b0 g cap bs w) (i j : Nat) (x : Bd) (k : Int) (hx : bs[i]? = some x) (hy : sixs (bs.set i ⟨x.f, x.l, x.r, x.h, x.a, x.ks.set j k, x.c, x.b, x.ss, x.d⟩) = sixs bs) : BadW b0 g cap (bs.set i ⟨x.f, x.l, x.r, x.h, x.a, x.ks.set j k, x.c, x.b, x.ss, x.d⟩) (w.setCell ⟨x.a, j, none⟩ (.int .i64 k)) := by
  have hg := set_grown w x.a j (.int .i64 k)
  refine ⟨?_, ?_, ?_, ?_⟩
  · rw [List.length_set, hy]
    exact owns_kept h.own hg (fun e => h.kne hx e.symm)
  · intro q z hz
    rcases get_set hz with ⟨_, rfl, _⟩ | ⟨hq, hz⟩
    · have k1 := ((h.kids i x hx).stored j (.int .i64 k)).1
      simp only [List.length_set]
      have e : numCells (x.ks.set j k) = (numCells x.ks).set j (.int .i64 k) := by simp [numCells, List.map_set]
      rw [e]
      exact k1
    · exact owns_kept (h.kids q z hz) hg (h.apart q i z x hq hz hx)
  · intro q z hz
    rcases get_set hz with ⟨_, rfl, _⟩ | ⟨_, hz⟩
    · have k := owns_kept (h.seps i x hx) hg (h.ksne hx hx)
      exact k
    · exact owns_kept (h.seps q z hz) hg (h.ksne hz hx)
  · intro q s z t hqs hz ht
    rcases get_set hz with ⟨e1, rfl, _⟩ | ⟨e1, hz2⟩ <;> rcases get_set ht with ⟨e2, rfl, _⟩ | ⟨e2, ht2⟩
    · omega
    · exact h.apart i s x t (by omega) hx ht2
    · exact h.apart q i z x (by omega) hz2 hx
    · exact h.apart q s z t hqs hz2 ht2
/-- The row stays where a page's kids grow. -/
theorem BadW.grown (h : BadW b0 g cap bs w) {i : Nat} {x : Bd} (hx : bs[i]? = some x) (hg : w.grownBy w' (some x.a)) : w'.ownsRow b0 25 6 (.slice (some ⟨g, 0, none⟩) bs.length cap) bs.length (sixs bs) := owns_kept h.own hg (fun e => h.kne hx e.symm)
/-- A kid is put behind a page's own, and the page is stored anew. -/
theorem BadW.grow {g' cap' m : Nat} {ls : List Int} (h : BadW b0 g cap bs w) (i : Nat) (x : Bd) (hx : bs[i]? = some x) (hg : w.grownBy w' (some x.a)) (hat : x.a = g' ∨ g' = w.heap.size)
    (hm : ls.length = m) (ho : w'.ownsRow b0 3 1 (.slice (some ⟨g', 0, none⟩) m cap') m (numCells ls))
    (hy : sixs (bs.set i ⟨x.f, x.l, x.r, x.h, g', ls, cap', x.b, x.ss, x.d⟩) = (sixs bs).set (i * 6 + 4) (.slice (some ⟨g', 0, none⟩) ls.length cap')) :
    BadW b0 g cap (bs.set i ⟨x.f, x.l, x.r, x.h, g', ls, cap', x.b, x.ss, x.d⟩) (w'.setCell ⟨g, i * 6 + 4, none⟩ (.slice (some ⟨g', 0, none⟩) m cap')) := by
  subst hm
  have hown := h.grown hx hg
  have hg' : g' ≠ g := own_ne ho hown (by decide)
  have hgs := set_grown w' g (i * 6 + 4) (.slice (some ⟨g', 0, none⟩) ls.length cap')
  have others : ∀ (q : Nat) (z : Bd), q ≠ i → bs[q]? = some z → z.a ≠ g' := fun q z hq hz e => by
    rcases hat with hat | hat
    · exact h.apart q i z x hq hz hx (by rw [e, hat])
    · have := (own_at (h.kids q z hz)).2.1
      omega
  refine ⟨?_, ?_, ?_, ?_⟩
  · have k := (hown.stored (i * 6 + 4) (.slice (some ⟨g', 0, none⟩) ls.length cap')).1
    rw [List.length_set, hy]
    exact k
  · intro q z hz
    rcases get_set hz with ⟨_, rfl, _⟩ | ⟨hq, hz⟩
    · exact owns_kept ho hgs hg'
    · exact owns_kept (owns_kept (h.kids q z hz) hg (h.apart q i z x hq hz hx)) hgs (h.kne hz)
  · intro q z hz
    rcases get_set hz with ⟨_, rfl, _⟩ | ⟨_, hz⟩
    · have k := owns_kept (owns_kept (h.seps i x hx) hg (h.ksne hx hx)) hgs (h.sne hx)
      exact k
    · exact owns_kept (owns_kept (h.seps q z hz) hg (h.ksne hz hx)) hgs (h.sne hz)
  · intro q s z t hqs hz ht
    rcases get_set hz with ⟨e1, rfl, _⟩ | ⟨e1, hz2⟩ <;> rcases get_set ht with ⟨e2, rfl, _⟩ | ⟨e2, ht2⟩
    · omega
    · exact fun e => others s t (by omega) ht2 e.symm
    · exact others q z (by omega) hz2
    · exact h.apart q s z t hqs hz2 ht2
/-- A page has other Seps. -/
theorem BadW.putS {g' cap' m : Nat} {ls : List ByteArray} (h : BadW b0 g cap bs w) (i : Nat) (x : Bd) (hx : bs[i]? = some x)
    (hm : ls.length = m) (ho : w.ownsRow b0 9 1 (.slice (some ⟨g', 0, none⟩) m cap') m (L5.strCells ls))
    (hy : sixs (bs.set i ⟨x.f, x.l, x.r, x.h, x.a, x.ks, x.c, g', ls, cap'⟩) = (sixs bs).set (i * 6 + 5) (.slice (some ⟨g', 0, none⟩) ls.length cap')) :
    BadW b0 g cap (bs.set i ⟨x.f, x.l, x.r, x.h, x.a, x.ks, x.c, g', ls, cap'⟩) (w.setCell ⟨g, i * 6 + 5, none⟩ (.slice (some ⟨g', 0, none⟩) m cap')) := by
  subst hm
  have hg := set_grown w g (i * 6 + 5) (.slice (some ⟨g', 0, none⟩) ls.length cap')
  refine ⟨?_, ?_, ?_, ?_⟩
  · have k := (h.own.stored (i * 6 + 5) (.slice (some ⟨g', 0, none⟩) ls.length cap')).1
    rw [List.length_set, hy]
    exact k
  · intro q z hz
    rcases get_set hz with ⟨_, rfl, _⟩ | ⟨_, hz⟩
    · have k := owns_kept (h.kids i x hx) hg (h.kne hx)
      exact k
    · exact owns_kept (h.kids q z hz) hg (h.kne hz)
  · intro q z hz
    rcases get_set hz with ⟨_, rfl, _⟩ | ⟨_, hz⟩
    · exact owns_kept ho hg (own_ne ho h.own (by decide))
    · exact owns_kept (h.seps q z hz) hg (h.sne hz)
  · intro q s z t hqs hz ht
    rcases get_set hz with ⟨e1, rfl, _⟩ | ⟨e1, hz2⟩ <;> rcases get_set ht with ⟨e2, rfl, _⟩ | ⟨e2, ht2⟩
    · omega
    · exact h.apart i s x t (by omega) hx ht2
    · exact h.apart q i z x (by omega) hz2 hx
    · exact h.apart q s z t hqs hz2 ht2
/-- What a walk reads of the i-th page. -/
theorem BadW.load (h : BadW b0 g cap bs w) {i : Nat} {x : Bd} (hx : bs[i]? = some x) :
    w.cell? ((⟨g, 0, none⟩ : Addr).add (i * 6)) = some (.int .i64 x.f) ∧ w.cell? ⟨((⟨g, 0, none⟩ : Addr).add (i * 6)).block, ((⟨g, 0, none⟩ : Addr).add (i * 6)).off + 1, none⟩ = some (.int .i64 x.l) ∧ w.cell? ⟨((⟨g, 0, none⟩ : Addr).add (i * 6)).block, ((⟨g, 0, none⟩ : Addr).add (i * 6)).off + 2, none⟩ = some (.int .i64 x.r) ∧ w.cell? ⟨((⟨g, 0, none⟩ : Addr).add (i * 6)).block, ((⟨g, 0, none⟩ : Addr).add (i * 6)).off + 3, none⟩ = some (.string x.h) ∧ w.cell? ⟨((⟨g, 0, none⟩ : Addr).add (i * 6)).block, ((⟨g, 0, none⟩ : Addr).add (i * 6)).off + 4, none⟩ = some (.slice (some ⟨x.a, 0, none⟩) x.ks.length x.c) ∧ w.cell? ⟨((⟨g, 0, none⟩ : Addr).add (i * 6)).block, ((⟨g, 0, none⟩ : Addr).add (i * 6)).off + 5, none⟩ = some (.slice (some ⟨x.b, 0, none⟩) x.ss.length x.d) := by
  have k := fun (j : Nat) (v : Value) (hv : (six x)[j]? = some v) => h.own.cells (g := g) rfl _ _ (sixs_get bs i j x v hx hv)
  have e : ∀ j, w.cell? (((⟨g, 0, none⟩ : Addr).add (i * 6)).add j) = w.cell? ((⟨g, 0, none⟩ : Addr).add (i * 6 + j)) := fun j => by rw [L5.addr_add]
  refine ⟨?_, ?_, ?_, ?_, ?_, ?_⟩
  · exact (e 0).trans (k 0 _ rfl)
  · exact (e 1).trans (k 1 _ rfl)
  · exact (e 2).trans (k 2 _ rfl)
  · exact (e 3).trans (k 3 _ rfl)
  · exact (e 4).trans (k 4 _ rfl)
  · exact (e 5).trans (k 5 _ rfl)
theorem one_bd {F L R : Int} {H : ByteArray} {ks : List Int} {ss : List ByteArray} {x : Bd} (h : x.f = F ∧ x.l = L ∧ x.r = R ∧ x.h = H ∧ x.ks = ks ∧ x.ss = ss) : x = ⟨F, L, R, H, x.a, ks, x.c, x.b, ss, x.d⟩ := by
  obtain ⟨f, l, r, hh, a, k, c, b, s, d⟩ := x
  simp only at h
  obtain ⟨rfl, rfl, rfl, rfl, rfl, rfl⟩ := h
  rfl
theorem eight {F L R : Int} {H : ByteArray} {ks : List Int} {ss : List ByteArray} {bs : List Bd} (h : ∀ x ∈ bs, x.f = F ∧ x.l = L ∧ x.r = R ∧ x.h = H ∧ x.ks = ks ∧ x.ss = ss) (hl : bs.length = 8) :
    ∃ a0 c0 b0 d0 a1 c1 b1 d1 a2 c2 b2 d2 a3 c3 b3 d3 a4 c4 b4 d4 a5 c5 b5 d5 a6 c6 b6 d6 a7 c7 b7 d7, bs = [⟨F, L, R, H, a0, ks, c0, b0, ss, d0⟩, ⟨F, L, R, H, a1, ks, c1, b1, ss, d1⟩, ⟨F, L, R, H, a2, ks, c2, b2, ss, d2⟩, ⟨F, L, R, H, a3, ks, c3, b3, ss, d3⟩, ⟨F, L, R, H, a4, ks, c4, b4, ss, d4⟩, ⟨F, L, R, H, a5, ks, c5, b5, ss, d5⟩, ⟨F, L, R, H, a6, ks, c6, b6, ss, d6⟩, ⟨F, L, R, H, a7, ks, c7, b7, ss, d7⟩] := by
  match bs, hl, h with
  | [x0, x1, x2, x3, x4, x5, x6, x7], _, h =>
    refine ⟨x0.a, x0.c, x0.b, x0.d, x1.a, x1.c, x1.b, x1.d, x2.a, x2.c, x2.b, x2.d, x3.a, x3.c, x3.b, x3.d, x4.a, x4.c, x4.b, x4.d, x5.a, x5.c, x5.b, x5.d, x6.a, x6.c, x6.b, x6.d, x7.a, x7.c, x7.b, x7.d, ?_⟩
    simp only [List.cons.injEq, and_true]
    exact ⟨one_bd (h _ (by simp)), one_bd (h _ (by simp)), one_bd (h _ (by simp)), one_bd (h _ (by simp)), one_bd (h _ (by simp)), one_bd (h _ (by simp)), one_bd (h _ (by simp)), one_bd (h _ (by simp))⟩
end
/-- Cut's answer, with how many kids have room. -/
theorem cutM_any (F L R : Int) (H : ByteArray) (A : Option Addr) (n ca : Nat) (C : Option Addr) (m cb : Nat) (ks : List Int) (ss : List ByteArray) (w : World) (hr : Rows2 w A n ca C m cb ks ss) (hn : n ≤ maxLen) (hca : ca ≤ maxLen) (hm : m ≤ maxLen) (hH : H.size ≤ maxLen) (hs : ∀ s ∈ ss, s.size ≤ maxLen) :
    Calls Tryz.prog 9 #[nv F L R H A n ca C m cb] w fun e w' => ∃ G gc D dc, e = .returned (nv F L R (cutH H) (some ⟨G, 0, none⟩) (min 30 n) gc (some ⟨D, 0, none⟩) (min 30 m) dc) ∧ w.heap.size ≤ G ∧ w.heap.size ≤ D ∧ gc ≤ maxLen ∧ Rows2 w' (some ⟨G, 0, none⟩) (min 30 n) gc (some ⟨D, 0, none⟩) (min 30 m) dc (ks.take 30) (cutSs ss) ∧ Below w.heap.size w w' := by
  refine (cutO_any F L R H A n ca C m cb ks ss w hr hn hca hm hH hs).mono fun e w' ⟨G, gc, D, dc, h1, h2, h3, h4⟩ => ?_
  have e1 : (ks.take 30).length = min 30 n := by rw [List.length_take, hr.nk]
  have e2 : (cutSs ss).length = min 30 m := by rw [cutSs_length, hr.nm]
  have hg : gc ≤ maxLen := by
    rcases h2.2 with ⟨h', _⟩ | ⟨g1, cap1, cur1, h', hb, hg, hc1, hc2, _⟩
    · simp at h'
    · simp only [Value.slice.injEq] at h'
      omega
  exact ⟨G, gc, D, dc, h1, (own1_block h2 (g := G) rfl).1, (own1_block h3 (g := D) rfl).1, hg, ⟨liesN_own h2 e1.symm, L5.lies_own h3 e2.symm, e1, e2, L5.own_cap h2, L5.own_cap h3⟩, h4⟩
/-- Cut of what is cut already: its rows are the call's own. -/
theorem cutB_any (F L R : Int) (H : ByteArray) (A : Option Addr) (n ca : Nat) (C : Option Addr) (m cb : Nat) (ks : List Int) (ss : List ByteArray) (w : World) (hr : Rows2 w A n ca C m cb ks ss) (hn : n ≤ 30) (hca : ca ≤ maxLen) (hm : m ≤ 30) (hH : H.size ≤ 140) (hs : ∀ s ∈ ss, s.size ≤ 140) :
    Calls Tryz.prog 9 #[nv F L R H A n ca C m cb] w fun e w' => ∃ G gc D dc, e = .returned (nv F L R (cutH H) (some ⟨G, 0, none⟩) ks.length gc (some ⟨D, 0, none⟩) (cutSs ss).length dc) ∧ w'.ownsRow w.heap.size 3 1 (.slice (some ⟨G, 0, none⟩) ks.length gc) ks.length (numCells ks) ∧ w'.ownsRow w.heap.size 9 1 (.slice (some ⟨D, 0, none⟩) (cutSs ss).length dc) (cutSs ss).length (L5.strCells (cutSs ss)) ∧ Below w.heap.size w w' := by
  have e1 : min 30 n = ks.length := by rw [hr.nk]; omega
  have e2 : (cutSs ss).length = min 30 m := by rw [cutSs_length, hr.nm]
  have e3 : ks.take 30 = ks := List.take_of_length_le (by rw [hr.nk]; omega)
  refine (cutO_any F L R H A n ca C m cb ks ss w hr (by unfold maxLen; omega) hca (by unfold maxLen; omega) (by unfold maxLen; omega) (fun s h => by have := hs s h; unfold maxLen; omega)).mono fun e w' ⟨G, gc, D, dc, h1, h2, h3, h4⟩ => ?_
  rw [e1, e3] at h2
  rw [e1] at h1
  rw [e2]
  exact ⟨G, gc, D, dc, h1, h2, h3, h4⟩
/-- None of the eight may be. -/
theorem each_bad {F L R : Int} {H2 K8 : ByteArray} {ks : List Int} {ss : List ByteArray} {jj q : Nat} (hK8 : K8.size = q / 8 + 1) (hH : H2.size ≤ 140) (hL : ks.length ≤ 30) (hks : ks.length = ss.length + 1) (hjj : jj < ks.length) (hq : q ≤ 1024)
    (a0 a1 a2 a3 a4 a5 a6 a7 c0 c1 c2 c3 c4 c5 c6 c7 b0 b1 b2 b3 b4 b5 b6 b7 d0 d1 d2 d3 d4 d5 d6 d7 : Nat) :
    ∀ (i : Nat) (x : Bd), ([⟨0, L, R, H2, a0, ks, c0, b0, ss, d0⟩, ⟨F, 0, R, H2, a1, ks, c1, b1, ss, d1⟩, ⟨F, 256, R, H2, a2, ks, c2, b2, ss, d2⟩, ⟨F, L, F, H2, a3, ks, c3, b3, ss, d3⟩, ⟨F, L, R, K8, a4, ks, c4, b4, ss, d4⟩, ⟨F, L, R, H2, a5, ks.set jj 4096, c5, b5, ss, d5⟩, ⟨F, L, R, H2, a6, ks ++ [7], c6, b6, ss, d6⟩, ⟨F, L, R, H2, a7, ks ++ [7], c7, b7, (⟨#[]⟩ : ByteArray) :: ss, d7⟩] : List Bd)[i]? = some x → ¬ May ⟨x.f, x.l, x.r, x.h, x.ks, x.ss⟩ q ∧ x.ks.length ≤ 31 ∧ x.ss.length ≤ 31 := by
  intro i x hx
  match i with
  | 0 =>
    obtain rfl := Option.some.inj hx
    refine ⟨fun h => ?_, by show ks.length ≤ 31; omega, by show ss.length ≤ 31; omega⟩
    have h1 : (1 : Int) ≤ 0 := h.2.1.1
    omega
  | 1 =>
    obtain rfl := Option.some.inj hx
    refine ⟨fun h => ?_, by show ks.length ≤ 31; omega, by show ss.length ≤ 31; omega⟩
    have h1 : (1 : Int) ≤ 0 := h.2.1.2.2.1
    omega
  | 2 =>
    obtain rfl := Option.some.inj hx
    refine ⟨fun h => ?_, by show ks.length ≤ 31; omega, by show ss.length ≤ 31; omega⟩
    have h1 : (256 : Int) ≤ 255 := h.2.1.2.2.2.1
    omega
  | 3 =>
    obtain rfl := Option.some.inj hx
    exact ⟨fun h => h.2.1.2.2.2.2.2.2 rfl, by show ks.length ≤ 31; omega, by show ss.length ≤ 31; omega⟩
  | 4 =>
    obtain rfl := Option.some.inj hx
    refine ⟨fun h => ?_, by show ks.length ≤ 31; omega, by show ss.length ≤ 31; omega⟩
    by_cases h0 : R = 0
    · have h1 : K8.size = 0 := h.2.2.2.1.1 h0
      omega
    · have h1 : (K8.size : Int) ≤ (q : Int) / 8 := (h.2.2.2.1.2 h0).2.1
      omega
  | 5 =>
    obtain rfl := Option.some.inj hx
    refine ⟨fun h => ?_, by show (ks.set jj 4096).length ≤ 31; rw [List.length_set]; omega, by show ss.length ≤ 31; omega⟩
    have h1 : KidOk 4096 := h.2.2.1.2 4096 (List.mem_of_getElem? (i := jj) (by show (ks.set jj 4096)[jj]? = _; rw [List.getElem?_set]; simp [hjj]))
    have h2 : (4096 : Int) ≤ 4095 := h1.2
    omega
  | 6 =>
    obtain rfl := Option.some.inj hx
    refine ⟨fun h => ?_, by show (ks ++ [7]).length ≤ 31; rw [List.length_append]; show ks.length + 1 ≤ 31; omega, by show ss.length ≤ 31; omega⟩
    have h1 : (ks ++ [7]).length = ss.length + 1 := h.2.2.1.1
    rw [List.length_append] at h1
    have h2 : ks.length + 1 = ss.length + 1 := h1
    omega
  | 7 =>
    obtain rfl := Option.some.inj hx
    refine ⟨fun h => ?_, by show (ks ++ [7]).length ≤ 31; rw [List.length_append]; show ks.length + 1 ≤ 31; omega, by show ss.length + 1 ≤ 31; omega⟩
    exact (h.2.2.2.2.2 ⟨#[]⟩ (List.mem_cons_self)).1 rfl
  | i + 8 => simp at hx
end Go.Proofs.YtembccehokodeaaGreatDoor
