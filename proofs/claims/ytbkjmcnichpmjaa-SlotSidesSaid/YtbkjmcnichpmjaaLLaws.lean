/-
  What the laws of layer 8 share: an append onto a row of texts of the call's own; Size in one form.
-/
import Derived.Test.YtbkjmcnichpmjaaPFixed
namespace Go.Proofs.Ytbkjmcnichpmjaa
open Go.RowKit
set_option linter.unusedVariables false
set_option linter.unusedSimpArgs false

theorem append_row {w : World} {base h n cap m r : Nat} (c : Nat) {la lb : List ByteArray} {ad : Addr} (hown : Owns w base (.slice (some ⟨h, 0, none⟩) n cap) n la) (hl : Lies w w.heap.size (some ad) lb) (hm : lb.length = m) (hr : n + m = r) (hsmall : r ≤ 1000000) (hbase : base ≤ w.heap.size) :
    ∃ g cap' w', (Builtin.append_ #[22, 22] 22 #[.slice (some ⟨h, 0, none⟩) n cap, .slice (some ad) m c]).run Try.prog w = .ok (.slice (some ⟨g, 0, none⟩) r cap') w' ∧ Owns w' base (.slice (some ⟨g, 0, none⟩) r cap') r (la ++ lb) ∧ Below base w w' ∧ r ≤ cap' ∧ base ≤ g := by
  obtain ⟨i0, hi, hz0, hz1, hz2⟩ := info_parts Try.infoStr
  subst hr
  obtain ⟨v', w', hrun, h2, h3, _, h5⟩ := run_append_own_at (P := Try.prog) w base 22 22 9 i0 (.string ⟨#[]⟩) 1 16 Try.underlying22 hi hz0 hz1 hz2 rfl (by decide) (.slice (some ⟨h, 0, none⟩) n cap) n _ hown ad m c (strCells lb) (by rw [strCells_length, hm, Nat.mul_one]) (fun j u hj => by
    obtain ⟨s, hs, rfl⟩ : ∃ s, lb[j]? = some s ∧ u = .string s := by
      simp only [strCells, List.getElem?_map, Option.map_eq_some_iff] at hj
      obtain ⟨s, h1, rfl⟩ := hj
      exact ⟨s, h1, rfl⟩
    obtain ⟨_, e, _, hx⟩ := hl j s hs
    obtain rfl := Option.some.inj e
    exact hx) (fun u hu => by
    simp only [strCells, List.mem_map] at hu
    obtain ⟨s, _, rfl⟩ := hu
    rfl) (by unfold maxLen; omega) (by omega) hbase
  have hb : Below base w w' := own_apart hown h3 (Nat.le_refl _) hbase
  rcases h2.2 with ⟨rfl, _⟩ | ⟨g, cap', cur, rfl, hbg, _, hc, _⟩
  · simp [Value.ownBlock] at h5
  · refine ⟨g, cap', w', hrun, ?_, hb, hc, hbg⟩
    rw [Owns, show strCells (la ++ lb) = strCells la ++ strCells lb by simp [strCells]]
    exact h2
/-- At the list of a plain region's operations: an append whose run is known. -/
theorem wpList_append_run {P : Program} {w w' : World} {ops : Array Oper} {rest : List Oper} {o : Oper} {a : Act} {Q : Exit → Act → World → Prop} (hgd : o.guard = none) (s x : Operand) (t : TypeId)
    (ho : o.op = .call { callee := .builtin .append, args := #[s, x], argTypes := #[t, t] }) (v u r : Value) (hs : a.eval s = v) (hx : a.eval x = u)
    (hrun : (Builtin.append_ #[t, t] o.type #[v, u]).run P w = .ok r w') (h : wpList P ops Q rest (a.put o.dst r) w') : wpList P ops Q (o :: rest) a w := by
  refine wpList_plain hgd fun K hK => ?_
  unfold Oper.wp
  simp [execOp, ho, resolve, invoke, builtin, hs, hx, hrun, Result.andThen]
  exact hK _ _ h
theorem tSize (f : ByteArray) (G : Option Addr) (L : List ByteArray) (c n q : Nat) (W : World) (h : Lies W W.heap.size G L) (hn : L.length = n) (hq : LP.need f.size (Bs L) = q) (hL : n ≤ 1000) (hs : ∀ s ∈ L, s.size ≤ 1000) (hf : f.size ≤ 1000) :
    Calls Try.prog 13 #[.string f, .slice G n c] W fun e w' => e = .returned (.int .i64 q) ∧ W = w' := by
  subst hn hq
  exact size_any f G L c W h (by omega) (by omega) (fun s h => by have := hs s h; omega)
theorem sum_bound : ∀ (L : List ByteArray) (z : Nat), (∀ s ∈ L, s.size ≤ z) → LP.sum (Bs L) ≤ z * L.length
  | [], _, _ => by simp [Bs, LP.sum]
  | s :: L, z, h => by
    have h1 := sum_bound L z (fun t ht => h t (List.mem_cons_of_mem _ ht))
    have h2 := h s (List.mem_cons_self ..)
    have h3 := b_size s
    simp only [Bs, List.map_cons, LP.sum, List.length_cons] at h1 ⊢
    rw [Nat.mul_add, Nat.mul_one]
    omega
theorem need_bound (f : Nat) (L : List ByteArray) (z : Nat) (h : ∀ s ∈ L, s.size ≤ z) : LP.need f (Bs L) ≤ f + 2 + z * L.length + 2 * L.length := by
  have := sum_bound L z h
  unfold LP.need
  rw [bs_length]
  omega
theorem bs_append (a b : List ByteArray) : Bs (a ++ b) = Bs a ++ Bs b := by simp [Bs]
theorem need_append (f : Nat) (a b : List ByteArray) : LP.need f (Bs (a ++ b)) + 2 = LP.need f (Bs a) + LP.need 0 (Bs b) := by
  unfold LP.need
  rw [bs_append, LP.sum_append, List.length_append]
  omega
theorem sum_set (L : List ByteArray) (k : Nat) (s t : ByteArray) (h : L[k]? = some s) : LP.sum (Bs (L.set k t)) + s.size = LP.sum (Bs L) + t.size := by
  induction L generalizing k with
  | nil => simp at h
  | cons a L ih =>
    have h3 := b_size a
    have h4 := b_size t
    cases k with
    | zero =>
      simp at h
      subst h
      simp only [List.set_cons_zero, Bs, List.map_cons, LP.sum]
      omega
    | succ k =>
      have h5 := ih k (by simpa using h)
      simp only [List.set_cons_succ, Bs, List.map_cons, LP.sum] at h5 ⊢
      omega
theorem need_set (f : Nat) (L : List ByteArray) (k : Nat) (s t : ByteArray) (h : L[k]? = some s) : LP.need f (Bs (L.set k t)) + s.size = LP.need f (Bs L) + t.size := by
  have h1 := sum_set L k s t h
  unfold LP.need
  rw [bs_length, bs_length, List.length_set]
  omega
theorem strCells_set (L : List ByteArray) (k : Nat) (t : ByteArray) : (strCells L).set k (.string t) = strCells (L.set k t) := by simp [strCells, List.map_set]
theorem bounds_u8 {a : Int} (h : (Lit.int .u8 a).wf = true) : 0 ≤ a ∧ a < 256 := by
  simp [Lit.wf, IntKind.min, IntKind.max, IntKind.signed, IntKind.bits] at h
  omega
theorem bounds_u16 {a : Int} (h : (Lit.int .u16 a).wf = true) : 0 ≤ a ∧ a < 65536 := by
  simp [Lit.wf, IntKind.min, IntKind.max, IntKind.signed, IntKind.bits] at h
  omega
end Go.Proofs.Ytbkjmcnichpmjaa
