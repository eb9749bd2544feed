/-
  Cells behind an address, read; a list with one place set; an append of zeros onto a slice without room.
-/
import Derived.Test.YtaeiifmdbdhoeaaDoorDRepeat
import Derived.Lib.AppendZerosOnto
import Derived.ArgAppend
namespace Go.Proofs.YtaeiifmdbdhoeaaDoor
open Go.RowKit
set_option linter.unusedVariables false

/-- Blocks of texts, of lists of texts and of writes stay as they are. -/
def St (w w' : World) : Prop := ∀ (j : Nat) (cs : Array Value) (t : TypeId) (fz : Nat × Nat), w.heap[j]? = some (.cells cs t fz) → (t = 9 ∨ t = 39 ∨ t = 83) → w'.heap[j]? = w.heap[j]?
theorem St.refl (w : World) : St w w := fun _ _ _ _ _ _ => rfl
theorem St.trans {a b c : World} (h : St a b) (k : St b c) : St a c := fun j cs t fz hj ht => (k j cs t fz ((h j cs t fz hj ht).trans hj) ht).trans (h j cs t fz hj ht)
theorem St.of_below {w w' : World} (h : Below w.heap.size w w') : St w w' := fun j cs t fz hj _ => h.block j (Array.getElem?_eq_some_iff.1 hj).1
theorem St.set {w : World} {b : Nat} {cs : Array Value} {t : TypeId} {fz : Nat × Nat} (hb : w.heap[b]? = some (.cells cs t fz)) (ht : t ≠ 9 ∧ t ≠ 39 ∧ t ≠ 83) (i : Nat) (v : Value) : St w (w.setCell ⟨b, i, none⟩ v) := fun j cs' t' fz' hj ht' => by
  refine heap_setCell_other _ _ _ _ (fun e => ?_)
  rw [e, hb] at hj
  obtain ⟨_, rfl, _⟩ : cs = cs' ∧ t = t' ∧ fz = fz' := by simpa using hj
  rcases ht' with h | h | h
  · exact ht.1 h
  · exact ht.2.1 h
  · exact ht.2.2 h

/-- Behind an address, in a block of type e, stand these cells. -/
def LV (w : World) (e : TypeId) (A : Option Addr) (vs : List Value) : Prop :=
  ∀ i v, vs[i]? = some v → ∃ a, A = some a ∧ (∃ cs fz, w.heap[a.block]? = some (.cells cs e fz)) ∧ w.cell? (a.add i) = some v
section
variable {w w' : World} {e : TypeId} {A : Option Addr} {vs : List Value}
theorem LV.nil (w : World) (e : TypeId) (A : Option Addr) : LV w e A [] := fun i c h => by simp at h
theorem LV.keep (h : LV w e A vs) (hk : ∀ (j : Nat) (cs : Array Value) (fz : Nat × Nat), w.heap[j]? = some (.cells cs e fz) → w'.heap[j]? = w.heap[j]?) : LV w' e A vs := fun i c hc => by
  obtain ⟨a, ea, ⟨cs, fz, hb⟩, hx⟩ := h i c hc
  have := hk _ _ _ hb
  exact ⟨a, ea, ⟨cs, fz, this.trans hb⟩, (World.cell?_of_block (w := w) (by rw [addr_block]; exact this)).trans hx⟩
theorem LV.on (h : LV w e A vs) (k : Below w.heap.size w w') : LV w' e A vs := h.keep fun j cs fz hj => k.block j (Array.getElem?_eq_some_iff.1 hj).1
theorem LV.st (h : LV w e A vs) (he : e = 9 ∨ e = 39 ∨ e = 83) (k : St w w') : LV w' e A vs := h.keep fun j cs fz hj => k j cs e fz hj he
theorem LV.news {a : Addr} (h : LV w e (some a) vs) : ∀ j u, vs[j]? = some u → w.cell? (a.add j) = some u := fun j u hu => by
  obtain ⟨_, ea, _, hc⟩ := h j u hu
  obtain rfl := Option.some.inj ea
  exact hc
theorem LV.take (h : LV w e A vs) (k : Nat) : LV w e A (vs.take k) := fun i c hc => h i c (by
  rw [List.getElem?_take] at hc
  split at hc
  · exact hc
  · cases hc)
theorem LV.drop {a : Addr} (h : LV w e (some a) vs) (k : Nat) : LV w e (some (a.add k)) (vs.drop k) := fun i c hc => by
  rw [List.getElem?_drop] at hc
  obtain ⟨a', ea, hb, hx⟩ := h (k + i) c hc
  obtain rfl := Option.some.inj ea
  exact ⟨_, rfl, by rw [addr_block]; exact hb, by rw [addr_add]; exact hx⟩
end
theorem lv_own {w : World} {base e : Nat} {A : Option Addr} {n cap : Nat} {vs : List Value} (h : w.ownsRow base e 1 (.slice A n cap) n vs) : LV w e A vs := fun i c hc => by
  have hl := h.1
  have hi : i < vs.length := (List.getElem?_eq_some_iff.1 hc).1
  obtain ⟨g, cap', hv, _, hlt⟩ := h.form (by omega)
  have hA : A = some ⟨g, 0, none⟩ := by injection hv
  subst hA
  obtain ⟨cur, hcur⟩ := own_type h (g := g) rfl
  exact ⟨_, rfl, ⟨cur, _, hcur⟩, h.cells (g := g) rfl _ _ hc⟩

/-- A list of which place i is x; where it is too short, z stands between. -/
def putG {α : Type} (z : α) (l : List α) (i : Nat) (x : α) : List α := (l ++ List.replicate (i + 1 - l.length) z).set i x
theorem putG_map {α β : Type} (f : α → β) (z : α) (l : List α) (i : Nat) (x : α) : (putG z l i x).map f = putG (f z) (l.map f) i (f x) := by
  simp [putG, List.map_set]
theorem putG_length {α : Type} (z : α) (l : List α) (i : Nat) (x : α) : (putG z l i x).length = max l.length (i + 1) := by simp [putG]; omega
theorem putG_getD {α : Type} (z : α) (l : List α) (i : Nat) (x : α) (j : Nat) : (putG z l i x).getD j z = if j = i then x else l.getD j z := by
  unfold putG
  rw [List.getD_eq_getElem?_getD, List.getD_eq_getElem?_getD, List.getElem?_set]
  by_cases e : i = j
  · subst e
    rw [if_pos rfl, if_pos (by simp; omega), if_pos rfl]
    rfl
  · rw [if_neg e, if_neg (Ne.symm e)]
    by_cases hj : j < l.length
    · rw [List.getElem?_append_left hj]
    · rw [List.getElem?_append_right (by omega), List.getElem?_eq_none (show l.length ≤ j by omega), List.getElem?_replicate]
      split <;> rfl
/-- As the program lays it. -/
theorem putG_low {α : Type} (z : α) (l : List α) (i : Nat) (x : α) (h : i < l.length) : (l.take i ++ List.replicate 1 z).set i x ++ l.drop (i + 1) = putG z l i x := by
  rw [putG, show i + 1 - l.length = 0 by omega, List.replicate_zero, List.append_nil]
  have h1 : (l.take i ++ List.replicate 1 z).set i x = l.take i ++ [x] := by
    have : (l.take i).length = i := by simp; omega
    rw [List.set_append_right _ _ (by omega), this, Nat.sub_self]
    rfl
  rw [h1, List.set_eq_take_append_cons_drop, if_pos h]
  simp
theorem putG_high {α : Type} (z : α) (l : List α) (i : Nat) (x : α) (h : l.length ≤ i) : (l ++ List.replicate (i + 1 - l.length) z).set i x = putG z l i x := rfl

/-- Zeros behind a slice that has no room: a new row. -/
theorem run_zeros {P : Program} (w : World) (t tn ty e : TypeId) (i : TypeInfo) (z : Value) (bytes : Nat) (kn : IntKind) (ht : P.underlying t = some (.slice e)) (htn : P.underlying tn = some (.int kn)) (hi : P.info? e = some i) (hz : i.zero = some z)
    (hsize : i.size = 1) (hby : i.bytes = bytes) (hzs : z.cells = #[z]) (A : Option Addr) (c : Nat) (olds : List Value) (hlo : olds.length = c) (hA : A = none → c = 0) (ho : LV w e A olds)
    (k : Nat) (h0 : 0 < k) (h63 : c + k ≤ maxLen) (hbytes : (c + k) * bytes ≤ 140737488355328) :
    ∃ g cap w', (Builtin.append_ #[t, tn] ty #[.slice A c c, .int .i64 k]).run P w = .ok (.slice (some ⟨g, 0, none⟩) (c + k) cap) w' ∧
      w'.ownsRow w.heap.size e 1 (.slice (some ⟨g, 0, none⟩) (c + k) cap) (c + k) (olds ++ List.replicate k z) ∧ Below w.heap.size w w' ∧ g < w'.heap.size := by
  have hold : (Builtin.firstCells i.size c (.slice A c c)).run P w.drew = .ok olds.toArray w.drew := by
    cases A with
    | none =>
      have hc0 : c = 0 := hA rfl
      subst hc0
      obtain rfl : olds = [] := List.eq_nil_of_length_eq_zero hlo
      simp [Builtin.firstCells]
    | some a => exact run_firstCells_some (P := P) w.drew i.size c a c c olds (by rw [hsize, hlo, Nat.mul_one]) (fun j u hu => by have := LV.news ho j u hu; simpa using this)
  subst hby
  have h48 : k * i.bytes ≤ 281474976710656 := by
    have : k * i.bytes ≤ (c + k) * i.bytes := Nat.mul_le_mul_right _ (by omega)
    omega
  have hr := Lib.run_append_grow_zeros (P := P) w t tn ty e i z .i64 kn ht htn hi hz A c c olds hold k h0 (by omega) (by omega) (by unfold maxLen at h63; omega) h48 (growslice_fits (by omega) hbytes)
  have hge := grownCap_ge w (c + k) c e
  have hcm : grownCap w (c + k) c e ≤ maxLen := grownCap_le_maxLen w (c + k) c e h63
  have hzc : ∀ n, (Builtin.zeroCells z.cells n).toList = List.replicate n z := fun n => by
    rw [hzs]
    apply List.ext_getElem
    · simp [Builtin.zeroCells]
    · intro j h1 h2
      simp [Builtin.zeroCells, Nat.mod_one]
  refine ⟨_, _, _, hr, ⟨by simp [hlo], .inr ⟨w.heap.size, _, _, rfl, Nat.le_refl _, heap_alloc_new w.drew _, hge, hcm, ?_, ?_⟩⟩, ?_, ?_⟩
  · simp only [Array.size_append, List.size_toArray, size_zeroCells, hzs, hlo]
    simp
    omega
  · simp only [Array.toList_append, hzc, List.append_assoc]
    rw [← List.append_assoc, Nat.mul_one]
    exact List.take_left' (by simp [hlo])
  · exact below_of_drew (below_alloc w.drew _)
  · simp

/-- .. at the walk. -/
theorem wpList_append_zeros {P : Program} (w : World) {ops : Array Oper} {rest : List Oper} {o : Oper} {a : Act} {Q : Exit → Act → World → Prop} (hgd : o.guard = none) (s x : Operand) (t tn : TypeId)
    (hop : o.op = .call { callee := .builtin .append, args := #[s, x], argTypes := #[t, tn] })
    (e : TypeId) (i : TypeInfo) (z : Value) (bytes : Nat) (kn : IntKind) (ht : P.underlying t = some (.slice e)) (htn : P.underlying tn = some (.int kn)) (hi : P.info? e = some i) (hz : i.zero = some z)
    (hsize : i.size = 1) (hby : i.bytes = bytes) (hzs : z.cells = #[z]) (A : Option Addr) (c : Nat) (olds : List Value) (k : Nat) (hs : a.eval s = .slice A c c) (hx : a.eval x = .int .i64 k) (hlo : olds.length = c) (hA : A = none → c = 0) (ho : LV w e A olds)
    (h0 : 0 < k) (h63 : c + k ≤ maxLen) (hbytes : (c + k) * bytes ≤ 140737488355328)
    (h : ∀ g cap w', w'.ownsRow w.heap.size e 1 (.slice (some ⟨g, 0, none⟩) (c + k) cap) (c + k) (olds ++ List.replicate k z) → Below w.heap.size w w' → g < w'.heap.size → wpList P ops Q rest (a.put o.dst (.slice (some ⟨g, 0, none⟩) (c + k) cap)) w') :
    wpList P ops Q (o :: rest) a w := by
  obtain ⟨g, cap, w', hr, h1, h2, h3⟩ := run_zeros (P := P) w t tn o.type e i z bytes kn ht htn hi hz hsize hby hzs A c olds hlo hA ho k h0 h63 hbytes
  exact Lib.wpList_append_run w hgd s x t tn hop _ _ hs hx _ w' hr (h g cap w' h1 h2 h3)

/-- Nothing is appended. -/
theorem run_append_none' {P : Program} (w : World) (t ty e : TypeId) (i : TypeInfo) (ht : P.underlying t = some (.slice e)) (hi : P.info? e = some i) (hsize : i.size = 1) (g n cap : Nat) (hc : n ≤ cap) (a : Option Addr) (c : Nat) :
    (Builtin.append_ #[t, t] ty #[.slice (some ⟨g, 0, none⟩) n cap, .slice a 0 c]).run P w = .ok (.slice (some ⟨g, 0, none⟩) n cap) w := by
  have hf : (Builtin.firstCells i.size 0 (.slice a 0 c)).run P w = .ok #[] w := by
    cases a with
    | none => simp [Builtin.firstCells]
    | some b => exact run_firstCells_some (P := P) w i.size 0 b 0 c [] (by simp) (by simp)
  simp [Builtin.append_, run_underlying ht, sizeOf, typeInfo, hi, Builtin.lenOf, hc, hf, storeCells]
theorem wpList_append_none' {P : Program} (w : World) {ops : Array Oper} {rest : List Oper} {o : Oper} {a : Act} {Q : Exit → Act → World → Prop} (hgd : o.guard = none) (s x : Operand) (t : TypeId)
    (hop : o.op = .call { callee := .builtin .append, args := #[s, x], argTypes := #[t, t] }) (e : TypeId) (i : TypeInfo) (ht : P.underlying t = some (.slice e)) (hi : P.info? e = some i) (hsize : i.size = 1) (g n cap : Nat) (hc : n ≤ cap) (A : Option Addr) (c : Nat)
    (hs : a.eval s = .slice (some ⟨g, 0, none⟩) n cap) (hx : a.eval x = .slice A 0 c)
    (h : wpList P ops Q rest (a.put o.dst (.slice (some ⟨g, 0, none⟩) n cap)) w) : wpList P ops Q (o :: rest) a w :=
  Lib.wpList_append_run w hgd s x t t hop _ _ hs hx _ w (run_append_none' w t o.type e i ht hi hsize g n cap hc A c) h
end Go.Proofs.YtaeiifmdbdhoeaaDoor
