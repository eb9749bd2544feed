/-
  The walk of the program's Crash.
-/
import Derived.RangeFuncWrites
import Derived.RegionIn
import Derived.Stop.RegionWithIn
import Derived.Test.YtaeiifmdbdhoeaaDoorGIter
import Derived.Test.YtaeiifmdbdhoeaaDoorGWrite2
namespace Go.Proofs.YtaeiifmdbdhoeaaDoor
open Go.RowKit
open Go.ChangeShapes
open DP (W D C)
set_option linter.unusedVariables false
set_option linter.unusedSimpArgs false
variable {Fb : Nat → Prop}
attribute [local go_sem] Oper.semAt_some

/-! A region that draws, in a round: out of the plain law. -/
section
variable {l n : Nat} {P : Program} {ops : Array Oper} {Q : Exit → Act → World → Prop} {md : Region.Mode} {S : World → Prop}
theorem rows_round {row : String} {args : Array Value} {w : World} {R : Value → World → Prop} (h : Rows P row args w R) : RowsIn (Fence.wide.inRound l) n P row args w R :=
  fun c cs _ => let ⟨v, w', r, s⟩ := h c cs; ⟨v, w', r, stepsIn_wide.2 s⟩
theorem calls_round {f : FuncId} {args : Array Value} {w : World} {R : Ending → World → Prop} (h : Calls P f args w R) : CallsIn (Fence.wide.inRound l) n P f args w R := CallsIn.inRound l (callsIn_wide.2 h)
theorem wp_round {o : Oper} {K : Act → World → Prop} {a : Act} {w : World} (hnd : ∀ c, o.op ≠ .defer c) (h : o.wp P a w K Q) : o.wpIn (Fence.wide.inRound l) n P a w K Q := by
  refine ⟨fun f _ => trivial, ?_⟩
  rw [Oper.semAt_eq _ _ _ hnd]
  unfold Oper.wp at h
  generalize (execOp a.eval o).run P w = r at *
  cases r with
  | ok x w' =>
    cases x <;> simp only [Oper.upon, Oper.uponIn] at h ⊢ <;>
      first
        | exact h
        | exact ⟨fun h => (by cases h), calls_round h⟩
        | exact ⟨fun h => (by cases h), rows_round h⟩
  | halt x w' => cases x <;> simp only [Oper.upon, Oper.uponIn] at h ⊢ <;> exact h
theorem wpOp_round {i : Nat} {K : Act → World → Prop} {a : Act} {w : World} (hnd : ∀ o, ops[i]? = some o → ∀ c, o.op ≠ .defer c) (hQ : ¬ LetsOut Q) (h : wpOp P ops Q i K a w) : wpOpIn (Fence.wide.inRound l) n P ops Q i K a w := by
  unfold wpOp at h
  unfold wpOpIn
  cases ho : ops[i]? with
  | none => rw [ho] at h; exact h
  | some o =>
    rw [ho] at h
    simp only at h ⊢
    split
    · rename_i hw
      rw [if_pos hw] at h
      rcases h with h | h
      · exact wp_round (hnd o ho) h
      · exact absurd h.2 hQ
    · rename_i hw
      rw [if_neg hw] at h
      exact ⟨fun f _ => trivial, h⟩
theorem wpAny_round (hnd : ∀ (i : Nat) (o : Oper), ops[i]? = some o → ∀ c, o.op ≠ .defer c) (hQ : ¬ LetsOut Q) : ∀ (fuel : Nat) (listed : Array Bool) (a : Act) (w : World), wpAny P md ops Q fuel listed a w → wpAnyIn (Fence.wide.inRound l) n P md ops Q fuel listed a w
  | 0, _, _, _, h => h
  | fuel + 1, listed, a, w, h => ⟨h.1, fun i hi => wpOpIn_mono (fun a' w' h' => wpAny_round hnd hQ fuel _ a' w' h') (wpOp_round (hnd i) hQ (h.2 i hi))⟩
def noDefer (ops : Array Oper) : Bool := ops.toList.all fun o => match o.op with | .defer _ => false | _ => true
theorem noDefer_spec (h : noDefer ops = true) : ∀ (i : Nat) (o : Oper), ops[i]? = some o → ∀ c, o.op ≠ .defer c := fun i o ho c e => by
  have h1 : o ∈ ops.toList := by rw [Array.mem_toList_iff]; exact Array.mem_of_getElem? ho
  have h2 := List.all_eq_true.1 h o h1
  rw [e] at h2
  cases h2
theorem wpIn_region_held {id : Nat} {a : Act} {w : World} (hm : P.follows .mixedOrders = true) (hnd : noDefer ops = true) (hQ : ¬ LetsOut Q) (hS : S w.drew)
    (h : S w.drew → wpAnyH P .any ops Q S ops.size (Array.replicate ops.size false) a w.drew) : (Code.region id ops true).wpIn (Fence.wide.inRound l) n P Q a w :=
  wpIn_region_any hm (wpAny_round (noDefer_spec hnd) hQ _ _ _ _ (wpAny_of_held _ _ _ _ (h hS)))
end
/-- One operation that yields. -/
theorem take_op {P : Program} {ops : Array Oper} {Q : Exit → Act → World → Prop} {md : Region.Mode} {S : World → Prop} {i : Nat} {oi : Oper} {d : Option Tmp} {v : Value} {fuel : Nat} {listed : Array Bool} {a : Act} {w : World} (hi : ops[i]? = some oi) (hd : oi.dst = d)
    (hs : Region.noSelect ops = true) (hf : Region.free md ops listed i = true) (hr : (Region.ready md ops listed).contains i = true)
    (hQ : ∀ c a w, Q (.panic c) (a.put d v) w → Q (.panic c) a w) (hy : YieldsIf P ops S oi v a) (hS : S w)
    (h : wpAnyH P md ops Q S fuel (listed.setIfInBounds i true) (a.put d v) w) : wpAnyH P md ops Q S (fuel + 1) listed a w := by
  subst hd
  exact wpAnyH_take hi hs hf hr hQ hy hS h

/-! The pages behind a crash, place by place. -/
def stepN (p : Nat) (q : List W) (cs : List C) (l : List ByteArray) (k : Nat) : List ByteArray := match q[k]?, cs[k]? with
  | some x, some c => DP.chosen p l x c
  | _, _ => l
def fo (p : Nat) (q : List W) (cs : List C) (kept : List ByteArray) (ks : List Nat) : List ByteArray := ks.foldl (stepN p q cs) kept
theorem fo_snoc (p : Nat) (q : List W) (cs : List C) (kept : List ByteArray) (ks : List Nat) (k : Nat) : fo p q cs kept (ks ++ [k]) = stepN p q cs (fo p q cs kept ks) k := by simp [fo]
theorem step_some {p : Nat} {q : List W} {cs : List C} {l : List ByteArray} {k : Nat} {x : W} {c : C} (hx : q[k]? = some x) (hc : cs[k]? = some c) : stepN p q cs l k = DP.chosen p l x c := by unfold stepN; rw [hx, hc]
theorem step_none {p : Nat} {q : List W} {cs : List C} {l : List ByteArray} {k : Nat} (hc : cs[k]? = none) : stepN p q cs l k = l := by
  unfold stepN
  rw [hc]
  cases q[k]? <;> rfl
theorem step_ok {p m : Nat} {q : List W} {cs : List C} {l : List ByteArray} (h : DP.Sized p l ∧ l.length ≤ m) (hw : ∀ w ∈ q, w.s.size = p) (hi : ∀ w ∈ q, w.i < m) (k : Nat) : DP.Sized p (stepN p q cs l k) ∧ (stepN p q cs l k).length ≤ m := by
  cases hx : q[k]? with
  | none =>
    have e : stepN p q cs l k = l := by unfold stepN; rw [hx]
    rw [e]; exact h
  | some x =>
    cases hc : cs[k]? with
    | none => rw [step_none hc]; exact h
    | some c =>
      rw [step_some hx hc]
      exact ⟨h.1.chosen x (hw x (List.mem_of_getElem? hx)) c, DP.chosen_length p _ x c m h.2 (hi x (List.mem_of_getElem? hx))⟩
theorem fo_ok {p m : Nat} {q : List W} {cs : List C} (hw : ∀ w ∈ q, w.s.size = p) (hi : ∀ w ∈ q, w.i < m) : ∀ (ks : List Nat) (kept : List ByteArray), DP.Sized p kept ∧ kept.length ≤ m → DP.Sized p (fo p q cs kept ks) ∧ (fo p q cs kept ks).length ≤ m
  | [], kept, h => h
  | k :: ks, kept, h => fo_ok hw hi ks _ (step_ok h hw hi k)
theorem fo_range (p : Nat) (q : List W) (cs : List C) (kept : List ByteArray) : ∀ m, m ≤ q.length → fo p q cs kept (List.range m) = DP.crash p kept (q.take (min m cs.length)) (cs.take (min m cs.length))
  | 0, _ => by simp [fo, DP.crash]
  | m + 1, h => by
    rw [List.range_succ, fo_snoc, fo_range p q cs kept m (by omega)]
    have hx : q[m]? = some q[m] := List.getElem?_eq_getElem (by omega)
    rcases Nat.lt_or_ge m cs.length with hm | hm
    · have hc : cs[m]? = some cs[m] := List.getElem?_eq_getElem hm
      rw [step_some hx hc, show min m cs.length = m by omega, show min (m + 1) cs.length = m + 1 by omega]
      have h1 : q.take (m + 1) = q.take m ++ [q[m]] := by rw [List.take_add_one, hx]; rfl
      have h2 : cs.take (m + 1) = cs.take m ++ [cs[m]] := by rw [List.take_add_one, hc]; rfl
      rw [h1, h2]
      exact (DP.crash_snoc _ _ _ _ _ _ (by simp; omega)).symm
    · rw [step_none (List.getElem?_eq_none hm), show min m cs.length = cs.length by omega, show min (m + 1) cs.length = cs.length by omega]
theorem fo_all (p : Nat) (q : List W) (cs : List C) (kept : List ByteArray) : fo p q cs kept (List.range q.length) = DP.crash p kept q cs := by
  rw [fo_range p q cs kept _ (Nat.le_refl _)]
  exact DP.crash_take p _ q cs kept (by omega)

def pln {n : Nat} (x : Pl n) : Nat := x.1
/-- Behind an address stand these choices. -/
def LiesG (w : World) (A : Option Addr) (cs : List C) : Prop :=
  ∀ i x, cs[i]? = some x → ∃ a, A = some a ∧ a.block < w.heap.size ∧ w.cell? (a.add (i * 2)) = some (.int .i64 x.k) ∧ w.cell? ⟨(a.add (i * 2)).block, (a.add (i * 2)).off + 1, none⟩ = some (.int .i64 x.at_) ∧ (-9223372036854775808 ≤ x.at_ ∧ x.at_ ≤ 9223372036854775807)
theorem LiesG.below {w w' : World} {A : Option Addr} {cs : List C} (h : LiesG w A cs) (k : Below w.heap.size w w') : LiesG w' A cs := fun i x hx => by
  obtain ⟨a, e, hb, h0, h1, h2⟩ := h i x hx
  exact ⟨a, e, Nat.lt_of_lt_of_le hb k.size, (k.cell (by rw [addr_block]; exact hb)).trans h0, (k.cell (by show (a.add (i * 2)).block < _; rw [addr_block]; exact hb)).trans h1, h2⟩
/-- The box of the pages behind a crash. -/
def Aft (Fb : Nat → Prop) (W : World) (X p : Nat) (l : List ByteArray) : Prop := ∃ A c L, W.heap[X]? = some (.cells #[.int .i64 p, .int .i64 l.length, .slice A L.length c] 67 (0, 0)) ∧ Pgs Fb W p A c L l
theorem Aft.st {W W' : World} {X p : Nat} {l : List ByteArray} (h : Aft Fb W X p l) (hb : W'.heap[X]? = W.heap[X]?) (k : St W W') : Aft Fb W' X p l := by
  obtain ⟨A, c, L, h1, h2⟩ := h
  exact ⟨A, c, L, hb.trans h1, h2.st k⟩
theorem same_st {W W' : World} (h : ∀ (j : Nat) (cs : Array Value) (t : TypeId) (fz : Nat × Nat), W.heap[j]? = some (.cells cs t fz) → W'.heap[j]? = W.heap[j]?) : St W W' := fun j cs t fz hj _ => h j cs t fz hj
theorem grown_same {W W' : World} {row : Option Nat} (hg : W.grownBy W' row) (hr : ∀ r, row = some r → ∃ o : Obj, W.heap[r]? = some o ∧ o.isCells = false) (j : Nat) (cs : Array Value) (t : TypeId) (fz : Nat × Nat) (hj : W.heap[j]? = some (.cells cs t fz)) : W'.heap[j]? = W.heap[j]? :=
  hg.block j (Array.getElem?_eq_some_iff.1 hj).1 (fun e => by
    obtain ⟨o, ho, hc⟩ := hr j e.symm
    rw [hj] at ho
    cases ho
    cases hc)
theorem aft_own {β : Type} (X p : Nat) (f : β → List ByteArray) : Own (fun s W => Aft Fb W X p (f s)) := fun s W W' row hs hg hr => by
  obtain ⟨A, c, L, h1, h2⟩ := hs
  exact ⟨A, c, L, (grown_same hg hr X _ _ _ h1).trans h1, h2.st (same_st (grown_same hg hr))⟩
theorem chg_keeps {X B : Nat} {W W' : World} (h : Chg (fun j => j = X) W W') (hX : X < B) : KeepsFrom B W W' ∧ KpX X W W' :=
  ⟨⟨h.size, fun k o hB hk _ => (h.block k (Array.getElem?_eq_some_iff.1 hk).1 (by omega)).trans hk⟩, fun k cs t fz hk hc => h.block k (Array.getElem?_eq_some_iff.1 hc).1 hk⟩
theorem free_of {w : World} {b : Nat} {cs : Array Value} {t : TypeId} (h : w.heap[b]? = some (.cells cs t (0, 0))) (i : Nat) : w.frozen? ⟨b, i, none⟩ = false := by simp [World.frozen?, h]

set_option maxRecDepth 100000 in
set_option maxHeartbeats 4000000 in
theorem crash_anyX (b : Nat) (d : D) (A : Option Addr) (cs : List C) (ca : Nat) (w : World) (hFb : ∀ k, Fb k → k < w.heap.size) (h : HasX Fb w b d) (ha : LiesG w A cs) (hq : d.q.length ≤ 5000) (hl : cs.length ≤ 9223372036854775807) :
    Calls Tryd.prog 27 #[.pointer (some ⟨b, 0, none⟩), .slice A cs.length ca] w fun e w' => e = .returned (.tuple #[]) ∧ HasX Fb w' b (d.crash cs) ∧ Chg (fun j => j = b) w w' := by
  obtain ⟨A1, c1, L1, A2, c2, L2, nw, lim, lf, o1, o2, o3, o4, o5⟩ := h.parts
  obtain ⟨gs, rfl, hLk⟩ := chain_linked o4
  have HO1 := Lib.hid o1
  have HP3 := Lib.hid o3
  have HOK := Lib.hid h.ok
  have HSM := Lib.hid h.small
  have HBLT := Lib.hid o1.lt
  have HLF := Lib.hid o5.1
  have HLK := Lib.hid hLk
  have HA := Lib.hid ha
  have HQ := Lib.hid hq
  have HFB := Lib.hid hFb
  have hb0 := below_alloc w (.cells #[.slice A cs.length ca] 35)
  have HBX := Lib.hid (Boxed.new w 35 (.slice A cs.length ca))
  have HS0 : Hid ((w.alloc (.cells #[.slice A cs.length ca] 35)).heap.size = w.heap.size + 1) := Lib.hid (by simp)
  have HB0 := Lib.hid hb0
  have o1' := o1.below hb0
  generalize hw0 : w.alloc (.cells #[.slice A cs.length ca] 35) = w0 at *
  have y5 := o1'.at 5 _ rfl
  have y6 := o1'.at 6 _ rfl
  have y7 := o1'.at 7 _ rfl
  clear o1 o2 o3 o4 o5 h ha hLk hb0 o1'
  refine (callsIn_wide (n := 5)).1 ?_
  refine callsIn_of_wp_marks Tryd.func27 rfl trivial ?_ rfl
  simp only [Tryd.ntmps27, List.size_toArray, List.length_cons, List.length_nil, Nat.reduceAdd, Nat.reduceSub, Array.replicate_succ, Array.replicate_zero, List.push_toArray, List.append_toArray, List.nil_append, List.cons_append]
  gi_wp2_with fail
  refine ⟨trivial, ?_⟩
  refine (callsIn_wide.2 (pending_any b _)).mono ?_
  rintro e w1 ⟨rfl, rfl⟩
  gi_wp2_with fail
  obtain ⟨pp, hpp⟩ : ∃ pp, pp = d.p := ⟨_, rfl⟩
  obtain ⟨X, hX⟩ : ∃ X, X = w0.heap.size := ⟨_, rfl⟩
  have HXN : Hid (X = w.heap.size + 1) := Lib.hid (by rw [hX, HS0.out])
  have c0 := HBX.out.alloc (.cells #[.int .i64 d.p, .int .i64 d.kept.length, .slice A2 L2.length c2] 67)
  have c1' := c0.alloc (.cells #[.pointer (some ⟨b, 0, none⟩)] 25)
  have c2' : ((w0.alloc (.cells #[.int .i64 d.p, .int .i64 d.kept.length, .slice A2 L2.length c2] 67)).alloc (.cells #[.pointer (some ⟨b, 0, none⟩)] 25)).heap[X]? = some (.cells #[.int .i64 d.p, .int .i64 d.kept.length, .slice A2 L2.length c2] 67 (0, 0)) := by
    rw [hX]
    exact (heap_alloc_old _ _ _ (by simp)).trans (heap_alloc_new _ _)
  have c3' := Boxed.new (w0.alloc (.cells #[.int .i64 d.p, .int .i64 d.kept.length, .slice A2 L2.length c2] 67)) 25 (.pointer (some ⟨b, 0, none⟩))
  simp only [World.size_alloc] at c3'
  rw [← hX] at c3'
  have hB1 : Below w.heap.size w ((w0.alloc (.cells #[.int .i64 d.p, .int .i64 d.kept.length, .slice A2 L2.length c2] 67)).alloc (.cells #[.pointer (some ⟨b, 0, none⟩)] 25)) := (HB0.out.trans' (below_alloc _ _)).trans' (below_alloc _ _)
  have hsz : ((w0.alloc (.cells #[.int .i64 d.p, .int .i64 d.kept.length, .slice A2 L2.length c2] 67)).alloc (.cells #[.pointer (some ⟨b, 0, none⟩)] 25)).heap.size = X + 2 := by simp [hX]
  rw [← hX]
  obtain ⟨W0, hW0⟩ : ∃ W0, (w0.alloc (.cells #[.int .i64 d.p, .int .i64 d.kept.length, .slice A2 L2.length c2] 67)).alloc (.cells #[.pointer (some ⟨b, 0, none⟩)] 25) = W0 := ⟨_, rfl⟩
  rw [hW0] at c1' c2' c3' hB1 hsz ⊢
  have h8 : W0.cell? ⟨b, 8, none⟩ = some (.pointer (headp gs)) := (HO1.out.below hB1).at 8 _ rfl
  have hLK := HLK.out.st (.of_below hB1)
  have HB1 := Lib.hid hB1
  clear hW0 c0 y5 y6 y7 hB1 hw0 hX HBX HS0
  refine wpIn_rangeFunc_ownH rfl (by omega) (gf := 52) (lb := #[.pointer (some ⟨X + 1, 0, none⟩)]) rfl trivial (enters_of Tryd.func52 (by kernel_rfl) rfl)
    (pending_stops _ (by omega) (X + 1) b X gs d.q.reverse (by simpa using hq) W0 c3' h8 hLK (by omega) (by have := HBLT.out; have := HXN.out; omega)) (fun h k => h.trans k) (kpX_b X) (Below.refl _ _) (fun x => rfl)
    (fun pre W => (Below w.heap.size w W ∧ Boxed W w.heap.size 35 (.slice A cs.length ca)) ∧ Aft Fb W X d.p (fo d.p d.q cs d.kept (pre.map pln)))
    (fun c pre W => False)
    (OwnFrom.and (OwnFrom.and (ownFrom_below (Nat.le_refl _) (by have := HXN.out; omega)) (Own.from (boxed_own _ _ _) _)) (Own.from (aft_own _ _ _) _))
    (fun c x X' Y row hs hg hr => hs)
    ⟨⟨HB1.out, c1'⟩, ⟨A2, c2, L2, c2', HP3.out.st (.of_below HB1.out)⟩⟩
    (fun x a' W => a' = { tmps := #[.pointer (some ⟨b, 0, none⟩), .slice A cs.length ca, undef, .pointer (some ⟨w.heap.size, 0, none⟩), .pointer (some ⟨X, 0, none⟩), .int .i64 (x.1 : Nat), .pointer (some ⟨gs.reverse[x.1]?.getD 0, 0, none⟩), undef, undef, undef,
      .pointer (some ⟨b, 0, none⟩), .pointer (some ⟨b, 0, none⟩), .pointer (some ⟨b, 5, none⟩), .agg #[.int .i64 d.p, .int .i64 d.kept.length, .slice A2 L2.length c2], .pointer (some ⟨b, 0, none⟩),
      .func (.func 52) #[] #[.pointer (some ⟨X + 1, 0, none⟩)], .int .i64 (x.1 : Nat), .pointer (some ⟨gs.reverse[x.1]?.getD 0, 0, none⟩), undef,
      undef, undef, undef, undef, undef, undef, undef, undef, undef, undef, undef, undef, undef, undef, undef, undef, undef, undef, undef, undef, undef, undef, undef, undef, undef, undef, undef, undef, undef, undef, undef, undef, undef, undef, undef, undef, undef], defers := [] })
    (fun x a' _ X' Y row hs hg hr => hs)
    ?assign ?body ?done ?stop
  case assign =>
    rintro l pre x W KK hI hK
    obtain ⟨k, hk⟩ := x
    simp only [plVals]
    gi_wp2
    exact hK _ _ (KeepsFrom.refl _ _) (fun _ _ _ _ _ _ => rfl) hI rfl
  case body =>
    rintro l pre ⟨k, hk⟩ a' W hl' ⟨r, hr⟩ ⟨⟨hbel, hbox⟩, A3, c3, L3, hX3, hP'⟩ rfl hlt
    have hkq : k < d.q.length := by simpa using hk
    obtain ⟨x, hx⟩ : ∃ x, d.q[k]? = some x := ⟨_, List.getElem?_eq_getElem hkq⟩
    have hgl : gs.length = d.q.length := by have := HLK.out.1; simpa using this
    obtain ⟨g, hg⟩ : ∃ g, g = gs.reverse[k]?.getD 0 := ⟨_, rfl⟩
    have hgk : gs[d.q.length - 1 - k]? = some g := by
      have h1 : k < gs.reverse.length := by simp; omega
      rw [hg, List.getElem?_reverse (by simpa using h1), hgl]
      rw [List.getElem?_eq_getElem (by simp at h1; omega)]
      rfl
    have hxk : d.q.reverse[d.q.length - 1 - k]? = some x := by
      rw [List.getElem?_reverse (by omega), show d.q.length - 1 - (d.q.length - 1 - k) = k by omega]
      exact hx
    have hgb := HLK.out.2 _ g x hgk hxk
    have hglt : g < w.heap.size := (Array.getElem?_eq_some_iff.1 hgb).1
    have hgW := (hbel.block g hglt).trans hgb
    obtain ⟨u0, u1, _⟩ := tri_cells hgW
    obtain ⟨a0, a1, a2⟩ := tri_cells hX3
    have HXW : Hid (X < W.heap.size) := Lib.hid (Array.getElem?_eq_some_iff.1 hX3).1
    have HGW : Hid (g < W.heap.size) := Lib.hid (Nat.lt_of_lt_of_le hglt hbel.size)
    have hxi := HOK.out.inside x (List.mem_of_getElem? hx)
    have hxs := HOK.out.whole x (List.mem_of_getElem? hx)
    have hsm := HSM.out
    have hfo := fo_ok (cs := cs) HOK.out.whole HOK.out.inside (pre.map pln) d.kept ⟨HOK.out.sized, HOK.out.fits⟩
    obtain ⟨FP, hFP⟩ : ∃ FP, FP = fo d.p d.q cs d.kept (pre.map pln) := ⟨_, rfl⟩
    rw [← hFP] at hP' hX3 a1 hfo
    have HSNOC : Hid (fo d.p d.q cs d.kept ((pre ++ [(⟨k, hk⟩ : Pl d.q.reverse.length)]).map pln) = stepN d.p d.q cs FP k) := Lib.hid (by rw [hFP, List.map_append, ← fo_snoc]; rfl)
    obtain ⟨old, hold⟩ : ∃ old, old = DP.page (DP.zero d.p) FP x.i := ⟨_, rfl⟩
    have hos : old.size = d.p := by rw [hold]; exact hfo.1.page x.i
    have HPG : Hid (∀ V, Below W.heap.size W V → Calls Tryd.prog 40 #[.agg #[.int .i64 d.p, .int .i64 FP.length, .slice A3 L3.length c3], .int .i64 x.i] V fun e w' => e = .returned (.string old) ∧ Below V.heap.size V w') := Lib.hid (fun V hV => by
      rw [hold]
      exact page_any d.p FP.length A3 c3 L3 FP x.i V (hP'.st (.of_below hV)).blocks hP'.rep (by omega) hsm.2.1)
    have HWITH : Hid (∀ V t, Below W.heap.size W V → t.size = d.p → Calls Tryd.prog 30 #[.agg #[.int .i64 d.p, .int .i64 FP.length, .slice A3 L3.length c3], .int .i64 x.i, .string t] V fun e w' => ∃ A' c' L', e = .returned (.agg #[.int .i64 d.p, .int .i64 (DP.put (DP.zero d.p) FP ⟨x.i, t⟩).length, .slice A' L'.length c']) ∧ Blocks Fb w' A' c' L' ∧ Rep d.p L' (DP.put (DP.zero d.p) FP ⟨x.i, t⟩) ∧ Below V.heap.size V w') := Lib.hid (fun V t hV ht =>
      with_any d.p A3 c3 L3 FP x.i t V (hP'.st (.of_below hV)).blocks hP'.rep (by omega) ht hsm.1 (by have := hfo.2; omega) (fun k hk => Nat.lt_of_lt_of_le (HFB.out k hk) (Nat.le_trans hbel.size hV.size)))
    have HP' := Lib.hid hP'
    have HX3 := Lib.hid hX3
    have HBEL := Lib.hid hbel
    have HBOX := Lib.hid hbox
    have bl := hbox.cell
    obtain ⟨ix, hix⟩ : ∃ ix, ix = x.i := ⟨_, rfl⟩
    obtain ⟨xs, hxss⟩ : ∃ xs, xs = x.s := ⟨_, rfl⟩
    obtain ⟨nl, hnl⟩ : ∃ nl, nl = FP.length := ⟨_, rfl⟩
    have HHX := Lib.hid hx
    have hp1024 : d.p ≤ 1024 := hsm.2.1
    have HFIN : Hid (∀ c, cs[k]? = some c → stepN d.p d.q cs FP k = match out d.p c x.s old with | some t => DP.put (DP.zero d.p) FP ⟨x.i, t⟩ | none => FP) := Lib.hid (fun c hc => by rw [step_some hx hc, chosen_out, ← hold]; cases out d.p c x.s old <;> rfl)
    have HFIN0 : Hid (cs[k]? = none → stepN d.p d.q cs FP k = FP) := Lib.hid (fun hc => step_none hc)
    have HOUTA : Hid (∀ V K at_, (-9223372036854775808 ≤ at_ ∧ at_ ≤ 9223372036854775807) → Calls Tryd.prog 45 #[.agg #[.int .i64 K, .int .i64 at_], .string x.s, .string old] V fun e w' => e = .returned (outV (out d.p ⟨K, at_⟩ x.s old)) ∧ Below V.heap.size V w') := Lib.hid (fun V K at_ hat => outcome_any d.p K at_ x.s old V hxs hos hp1024 hat)
    have HTS : Hid (∀ K at_ t, out d.p ⟨K, at_⟩ x.s old = some t → t.size = d.p) := Lib.hid (fun K at_ t ht => by
      unfold out at ht
      split at ht
      · cases ht; exact hxs
      split at ht
      · cases ht; exact DP.torn_size _ _ _ _ hos hxs
      · cases ht)
    rw [← hix] at HPG HWITH u0 HFIN
    rw [← hxss] at HOUTA HTS u1 HFIN
    rw [← hnl] at HPG HWITH a1 HX3
    rw [← hpp] at HPG HWITH HOUTA HTS a0 HX3 HP' HFIN HFIN0 HSNOC
    rw [← hg]
    have hk5 : k ≤ 5000 := by omega
    have HLC := Lib.hid (HA.out.below hbel)
    have HPP := Lib.hid hpp
    have HNL := Lib.hid hnl
    clear hpp hix hxss hnl hP' hX3 hbel hbox hgb hgW hgk hxk hglt hg hxi hxs hsm hfo hFP hold hos hkq hgl hx hlt hr hl'
    by_cases hkc : k < cs.length
    · obtain ⟨⟨K, at_⟩, hc⟩ : ∃ c, cs[k]? = some c := ⟨_, List.getElem?_eq_getElem hkc⟩
      obtain ⟨a, rfl, hab, ca0, ca1, hat⟩ := HLC.out k _ hc
      simp only at ca0 ca1 hat
      have HOUT0 := Lib.hid (fun V => HOUTA.out V K at_ hat)
      have HTS0 := Lib.hid (HTS.out K at_)
      have HFINc := Lib.hid (HFIN.out _ hc)
      obtain ⟨tt, bb, hV⟩ : ∃ tt bb, outV (out pp ⟨K, at_⟩ xs old) = .tuple #[.string tt, .bool bb] := ⟨_, _, rfl⟩
      have HRES : Hid ((bb = true → stepN pp d.q cs FP k = DP.put (DP.zero pp) FP ⟨ix, tt⟩ ∧ tt.size = pp) ∧ (bb = false → stepN pp d.q cs FP k = FP)) := Lib.hid (by
        have h1 := HFINc.out
        have h2 := HTS0.out
        cases ho : out pp ⟨K, at_⟩ xs old with
        | none =>
          rw [ho] at hV h1
          simp [outV] at hV
          obtain ⟨_, rfl⟩ := hV
          exact ⟨fun e => by (cases e), fun _ => h1⟩
        | some t =>
          rw [ho] at hV h1
          simp [outV] at hV
          obtain ⟨rfl, rfl⟩ := hV
          exact ⟨fun _ => ⟨h1, h2 t ho⟩, fun e => by (cases e)⟩)
      have HOUT : Hid (∀ V, Calls Tryd.prog 45 #[.agg #[.int .i64 K, .int .i64 at_], .string xs, .string old] V fun e w' => e = .returned (.tuple #[.string tt, .bool bb]) ∧ Below V.heap.size V w') := Lib.hid (by rw [← hV]; exact HOUT0.out)
      have hb01 := below_alloc W (.cells #[.int .i64 0, .int .i64 0] 54)
      have hC1 := heap_alloc_new W (.cells #[.int .i64 0, .int .i64 0] 54)
      have hsz1 : (W.alloc (.cells #[.int .i64 0, .int .i64 0] 54)).heap.size = W.heap.size + 1 := by simp
      have HB01 := Lib.hid hb01
      have HC1 := Lib.hid hC1
      have HSZ1 := Lib.hid hsz1
      have bl1 := (hb01.cell (p := ⟨w.heap.size, 0, none⟩) HBOX.out.lt).trans bl
      have ca0' := (hb01.cell (by rw [addr_block]; exact hab)).trans ca0
      have ca1' := (hb01.cell (p := ⟨(a.add (k * 2)).block, (a.add (k * 2)).off + 1, none⟩) (by show (a.add (k * 2)).block < _; rw [addr_block]; exact hab)).trans ca1
      obtain ⟨s0, s1⟩ := pair_cells hC1
      have sf0 := free_of hC1 0
      have sf1 := free_of hC1 1
      have d1 : decide ((k : Int) < (cs.length : Int)) = true := decide_eq_true (by omega)
      have d1n : decide (k < cs.length) = true := decide_eq_true hkc
      clear hC1 hb01 hsz1 hV hc ca0 ca1 bl hab hat
      gi_wp2_with fail
      have hbW2 := below_alloc W (.cells #[.int .i64 K, .int .i64 at_] 54)
      have hC2 := heap_alloc_new W (.cells #[.int .i64 K, .int .i64 at_] 54)
      have hBC2 : W.heap.size < (W.alloc (.cells #[.int .i64 K, .int .i64 at_] 54)).heap.size := by simp
      clear s0 s1 sf0 sf1 bl1 ca0' ca1' d1 d1n HB01 HC1 HSZ1
      generalize W.alloc (.cells #[.int .i64 K, .int .i64 at_] 54) = W2 at *
      have HW2 : Hid (Below W.heap.size W W2) := Lib.hid hbW2
      obtain ⟨x0, x1⟩ := pair_cells hC2
      have z0 := (HW2.out.cell (p := ⟨X, 0, none⟩) HXW.out).trans a0
      have z1 := (HW2.out.cell (p := ⟨X, 1, none⟩) HXW.out).trans a1
      have z2 := (HW2.out.cell (p := ⟨X, 2, none⟩) HXW.out).trans a2
      have g0 := (HW2.out.cell (p := ⟨g, 0, none⟩) HGW.out).trans u0
      have g1 := (HW2.out.cell (p := ⟨g, 1, none⟩) HGW.out).trans u1
      have HBC : Hid (W.heap.size < W2.heap.size) := Lib.hid hBC2
      have HS : Hid (∀ V, Below W2.heap.size W2 V → (Hid (Hid (Below W2.heap.size W2 V)) ∧ V.cell? ⟨W.heap.size, 0, none⟩ = some (.int .i64 K) ∧ V.cell? ⟨W.heap.size, 1, none⟩ = some (.int .i64 at_) ∧ V.cell? ⟨g, 0, none⟩ = some (.int .i64 (ix : Nat)) ∧ V.cell? ⟨g, 1, none⟩ = some (.string xs) ∧ V.cell? ⟨X, 0, none⟩ = some (.int .i64 (pp : Nat)) ∧ V.cell? ⟨X, 1, none⟩ = some (.int .i64 (nl : Nat)) ∧ V.cell? ⟨X, 2, none⟩ = some (.slice A3 L3.length c3))) := Lib.hid (fun V hV => ⟨Lib.hid (Lib.hid hV), (hV.cell (p := ⟨W.heap.size, 0, none⟩) HBC.out).trans x0, (hV.cell (p := ⟨W.heap.size, 1, none⟩) HBC.out).trans x1, (hV.cell (p := ⟨g, 0, none⟩) (Nat.lt_of_lt_of_le HGW.out HW2.out.size)).trans g0, (hV.cell (p := ⟨g, 1, none⟩) (Nat.lt_of_lt_of_le HGW.out HW2.out.size)).trans g1, (hV.cell (p := ⟨X, 0, none⟩) (Nat.lt_of_lt_of_le HXW.out HW2.out.size)).trans z0, (hV.cell (p := ⟨X, 1, none⟩) (Nat.lt_of_lt_of_le HXW.out HW2.out.size)).trans z1, (hV.cell (p := ⟨X, 2, none⟩) (Nat.lt_of_lt_of_le HXW.out HW2.out.size)).trans z2⟩)
      have HKeep : Hid (∀ V V', Below V.heap.size V V' → (Hid (Hid (Below W2.heap.size W2 V)) ∧ V.cell? ⟨W.heap.size, 0, none⟩ = some (.int .i64 K) ∧ V.cell? ⟨W.heap.size, 1, none⟩ = some (.int .i64 at_) ∧ V.cell? ⟨g, 0, none⟩ = some (.int .i64 (ix : Nat)) ∧ V.cell? ⟨g, 1, none⟩ = some (.string xs) ∧ V.cell? ⟨X, 0, none⟩ = some (.int .i64 (pp : Nat)) ∧ V.cell? ⟨X, 1, none⟩ = some (.int .i64 (nl : Nat)) ∧ V.cell? ⟨X, 2, none⟩ = some (.slice A3 L3.length c3)) → (Hid (Hid (Below W2.heap.size W2 V')) ∧ V'.cell? ⟨W.heap.size, 0, none⟩ = some (.int .i64 K) ∧ V'.cell? ⟨W.heap.size, 1, none⟩ = some (.int .i64 at_) ∧ V'.cell? ⟨g, 0, none⟩ = some (.int .i64 (ix : Nat)) ∧ V'.cell? ⟨g, 1, none⟩ = some (.string xs) ∧ V'.cell? ⟨X, 0, none⟩ = some (.int .i64 (pp : Nat)) ∧ V'.cell? ⟨X, 1, none⟩ = some (.int .i64 (nl : Nat)) ∧ V'.cell? ⟨X, 2, none⟩ = some (.slice A3 L3.length c3))) := Lib.hid (fun V V' b0 h => HS.out V' (h.1.out.out.trans' b0))
      have HPAGE : Hid (∀ V, Below W2.heap.size W2 V → Calls Tryd.prog 40 #[.agg #[.int .i64 (pp : Nat), .int .i64 (nl : Nat), .slice A3 L3.length c3], .int .i64 (ix : Nat)] V fun e w' => e = .returned (.string old) ∧ Below V.heap.size V w') := Lib.hid (fun V hV => HPG.out V (HW2.out.trans' hV))
      have HXX : Hid (W2.heap[X]? = some (.cells #[.int .i64 (pp : Nat), .int .i64 (nl : Nat), .slice A3 L3.length c3] 67 (0, 0))) := Lib.hid ((HW2.out.block X HXW.out).trans HX3.out)
      have hDrew := HS.out W2.drew (below_drewN (Below.refl _ W2) 1)
      clear x0 x1 g0 g1 z0 z1 z2 a0 a1 a2 u0 u1 hbW2 hC2 hBC2
      refine wpIn_region_held (S := fun V => Hid (Hid (Below W2.heap.size W2 V)) ∧ V.cell? ⟨W.heap.size, 0, none⟩ = some (.int .i64 K) ∧ V.cell? ⟨W.heap.size, 1, none⟩ = some (.int .i64 at_) ∧ V.cell? ⟨g, 0, none⟩ = some (.int .i64 (ix : Nat)) ∧ V.cell? ⟨g, 1, none⟩ = some (.string xs) ∧ V.cell? ⟨X, 0, none⟩ = some (.int .i64 (pp : Nat)) ∧ V.cell? ⟨X, 1, none⟩ = some (.int .i64 (nl : Nat)) ∧ V.cell? ⟨X, 2, none⟩ = some (.slice A3 L3.length c3)) (by kernel_rfl) (by kernel_rfl) ?nolets hDrew (fun hHeld => ?_)
      case nolets => rintro ⟨a0, w0, h0⟩; exact h0
      refine take_op (i := 0) (d := some 28) (v := ?_) rfl rfl (by kernel_rfl) (by kernel_rfl) (by kernel_rfl) (fun _ _ _ h => h) (Or.inl ⟨by kernel_rfl, ?_⟩) (by assumption) ?_
      rotate_left
      · intro V hSw; (try dsimp only at hSw); go_simp; with_reducible rfl
      try simp only [Act.put, List.setIfInBounds_toArray, List.set_cons_zero, List.set_cons_succ]
      refine take_op (i := 1) (d := some 29) (v := ?_) rfl rfl (by kernel_rfl) (by kernel_rfl) (by kernel_rfl) (fun _ _ _ h => h) (Or.inl ⟨by kernel_rfl, ?_⟩) (by assumption) ?_
      rotate_left
      · intro V hSw; (try dsimp only at hSw); go_simp; with_reducible rfl
      try simp only [Act.put, List.setIfInBounds_toArray, List.set_cons_zero, List.set_cons_succ]
      refine take_op (i := 2) (d := some 30) (v := ?_) rfl rfl (by kernel_rfl) (by kernel_rfl) (by kernel_rfl) (fun _ _ _ h => h) (Or.inl ⟨by kernel_rfl, ?_⟩) (by assumption) ?_
      rotate_left
      · intro V hSw; (try dsimp only at hSw); go_simp; with_reducible rfl
      try simp only [Act.put, List.setIfInBounds_toArray, List.set_cons_zero, List.set_cons_succ]
      refine take_op (i := 3) (d := some 31) (v := ?_) rfl rfl (by kernel_rfl) (by kernel_rfl) (by kernel_rfl) (fun _ _ _ h => h) (Or.inl ⟨by kernel_rfl, ?_⟩) (by assumption) ?_
      rotate_left
      · intro V hSw; (try dsimp only at hSw); go_simp; with_reducible rfl
      try simp only [Act.put, List.setIfInBounds_toArray, List.set_cons_zero, List.set_cons_succ]
      refine take_op (i := 4) (d := some 32) (v := ?_) rfl rfl (by kernel_rfl) (by kernel_rfl) (by kernel_rfl) (fun _ _ _ h => h) (Or.inl ⟨by kernel_rfl, ?_⟩) (by assumption) ?_
      rotate_left
      · intro V hSw; (try dsimp only at hSw); go_simp; with_reducible rfl
      try simp only [Act.put, List.setIfInBounds_toArray, List.set_cons_zero, List.set_cons_succ]
      refine take_op (i := 5) (d := some 33) (v := ?_) rfl rfl (by kernel_rfl) (by kernel_rfl) (by kernel_rfl) (fun _ _ _ h => h) (Or.inl ⟨by kernel_rfl, ?_⟩) (by assumption) ?_
      rotate_left
      · intro V hSw; (try dsimp only at hSw); go_simp; with_reducible rfl
      try simp only [Act.put, List.setIfInBounds_toArray, List.set_cons_zero, List.set_cons_succ]
      refine take_op (i := 6) (d := some 34) (v := ?_) rfl rfl (by kernel_rfl) (by kernel_rfl) (by kernel_rfl) (fun _ _ _ h => h) (Or.inl ⟨by kernel_rfl, ?_⟩) (by assumption) ?_
      rotate_left
      · intro V hSw; (try dsimp only at hSw); go_simp; with_reducible rfl
      try simp only [Act.put, List.setIfInBounds_toArray, List.set_cons_zero, List.set_cons_succ]
      refine take_op (i := 7) (d := some 35) (v := ?_) rfl rfl (by kernel_rfl) (by kernel_rfl) (by kernel_rfl) (fun _ _ _ h => h) (Or.inl ⟨by kernel_rfl, ?_⟩) (by assumption) ?_
      rotate_left
      · intro V hSw; (try dsimp only at hSw); go_simp; with_reducible rfl
      try simp only [Act.put, List.setIfInBounds_toArray, List.set_cons_zero, List.set_cons_succ]
      refine take_op (i := 8) (d := some 36) (v := ?_) rfl rfl (by kernel_rfl) (by kernel_rfl) (by kernel_rfl) (fun _ _ _ h => h) (Or.inl ⟨by kernel_rfl, ?_⟩) (by assumption) ?_
      rotate_left
      · intro V hSw; (try dsimp only at hSw); go_simp; with_reducible rfl
      try simp only [Act.put, List.setIfInBounds_toArray, List.set_cons_zero, List.set_cons_succ]
      refine take_op (i := 9) (d := some 37) (v := ?_) rfl rfl (by kernel_rfl) (by kernel_rfl) (by kernel_rfl) (fun _ _ _ h => h) (Or.inl ⟨by kernel_rfl, ?_⟩) (by assumption) ?_
      rotate_left
      · intro V hSw; (try dsimp only at hSw); go_simp; with_reducible rfl
      try simp only [Act.put, List.setIfInBounds_toArray, List.set_cons_zero, List.set_cons_succ]
      refine wpAnyH_ready (rs := [10]) (by kernel_rfl) (by simp) (AllReadyH.cons rfl (fun KK hK => ?_) AllReadyH.nil)
      go_simp
      refine (HPAGE.out _ hHeld.1.out.out).mono ?_
      rintro e V10 ⟨rfl, hx10⟩
      have hH10 := HKeep.out _ _ hx10 hHeld
      clear hHeld
      have hHeld := hH10
      go_wp2_with fail
      refine hK.out _ _ hHeld (fun _ => ?_)
      clear hK KK
      refine wpAnyH_ready (rs := [11]) (by kernel_rfl) (by simp) (AllReadyH.cons rfl (fun KK hK => ?_) AllReadyH.nil)
      go_simp
      refine (HOUT.out _).mono ?_
      rintro e V11 ⟨rfl, hx11⟩
      have hH11 := HKeep.out _ _ hx11 hHeld
      clear hHeld
      have hHeld := hH11
      go_wp2_with fail
      refine hK.out _ _ hHeld (fun _ => ?_)
      clear hK KK
      refine take_op (i := 12) (d := some 27) (v := ?_) rfl rfl (by kernel_rfl) (by kernel_rfl) (by kernel_rfl) (fun _ _ _ h => h) (Or.inl ⟨by kernel_rfl, ?_⟩) (by assumption) ?_
      rotate_left
      · intro V hSw; (try dsimp only at hSw); go_simp; with_reducible rfl
      try simp only [Act.put, List.setIfInBounds_toArray, List.set_cons_zero, List.set_cons_succ]
      refine take_op (i := 13) (d := some 40) (v := ?_) rfl rfl (by kernel_rfl) (by kernel_rfl) (by kernel_rfl) (fun _ _ _ h => h) (Or.inl ⟨by kernel_rfl, ?_⟩) (by assumption) ?_
      rotate_left
      · intro V hSw; (try dsimp only at hSw); go_simp; with_reducible rfl
      try simp only [Act.put, List.setIfInBounds_toArray, List.set_cons_zero, List.set_cons_succ]
      refine take_op (i := 14) (d := some 41) (v := ?_) rfl rfl (by kernel_rfl) (by kernel_rfl) (by kernel_rfl) (fun _ _ _ h => h) (Or.inl ⟨by kernel_rfl, ?_⟩) (by assumption) ?_
      rotate_left
      · intro V hSw; (try dsimp only at hSw); go_simp; with_reducible rfl
      try simp only [Act.put, List.setIfInBounds_toArray, List.set_cons_zero, List.set_cons_succ]
      refine take_op (i := 15) (d := some 8) (v := ?_) rfl rfl (by kernel_rfl) (by kernel_rfl) (by kernel_rfl) (fun _ _ _ h => h) (Or.inl ⟨by kernel_rfl, ?_⟩) (by assumption) ?_
      rotate_left
      · intro V hSw; (try dsimp only at hSw); go_simp; with_reducible rfl
      try simp only [Act.put, List.setIfInBounds_toArray, List.set_cons_zero, List.set_cons_succ]
      refine take_op (i := 16) (d := some 9) (v := ?_) rfl rfl (by kernel_rfl) (by kernel_rfl) (by kernel_rfl) (fun _ _ _ h => h) (Or.inl ⟨by kernel_rfl, ?_⟩) (by assumption) ?_
      rotate_left
      · intro V hSw; (try dsimp only at hSw); go_simp; with_reducible rfl
      try simp only [Act.put, List.setIfInBounds_toArray, List.set_cons_zero, List.set_cons_succ]
      refine wpAnyH_done (by kernel_rfl) ?_ _
      have hV := hHeld.1.out.out
      have HV := Lib.hid hV
      cases bb with
      | false =>
        gi_wp2_with fail
        have hbWV := HW2.out.trans' HV.out
        have hch0 := Chg.of_below (F := fun j => j = X) hbWV
        refine ⟨(chg_keeps hch0 ?_).1, (chg_keeps hch0 (B := X + 2) (by omega)).2, ⟨HBEL.out.trans' hbWV |> id, (hbWV.block _ HBOX.out.lt).trans HBOX.out⟩, ?_⟩
        · omega
        rw [← HPP.out, HSNOC.out, HRES.out.2 (by first | rfl | trivial)]
        exact ⟨A3, c3, L3, by rw [← HNL.out]; exact (hbWV.block X HXW.out).trans HX3.out, HP'.out.st (.of_below hbWV)⟩
      | true =>
        have HRT := Lib.hid (HRES.out.1 rfl)
        gi_wp2_with fail
        obtain ⟨_, _, _, e0, e1, e2, e3, e4⟩ := hHeld
        refine wpIn_region_held (S := fun V => True) (by kernel_rfl) (by kernel_rfl) ?nolets trivial (fun hHeld => ?_)
        case nolets => rintro ⟨a0, w0, h0⟩; exact h0
        refine take_op (i := 1) (d := some 44) (v := ?_) rfl rfl (by kernel_rfl) (by kernel_rfl) (by kernel_rfl) (fun _ _ _ h => h) (Or.inl ⟨by kernel_rfl, ?_⟩) (by assumption) ?_
        rotate_left
        · intro V hSw; (try dsimp only at hSw); go_simp; with_reducible rfl
        try simp only [Act.put, List.setIfInBounds_toArray, List.set_cons_zero, List.set_cons_succ]
        refine take_op (i := 2) (d := some 45) (v := ?_) rfl rfl (by kernel_rfl) (by kernel_rfl) (by kernel_rfl) (fun _ _ _ h => h) (Or.inl ⟨by kernel_rfl, ?_⟩) (by assumption) ?_
        rotate_left
        · intro V hSw; (try dsimp only at hSw); go_simp; with_reducible rfl
        try simp only [Act.put, List.setIfInBounds_toArray, List.set_cons_zero, List.set_cons_succ]
        refine take_op (i := 3) (d := some 46) (v := ?_) rfl rfl (by kernel_rfl) (by kernel_rfl) (by kernel_rfl) (fun _ _ _ h => h) (Or.inl ⟨by kernel_rfl, ?_⟩) (by assumption) ?_
        rotate_left
        · intro V hSw; (try dsimp only at hSw); go_simp; with_reducible rfl
        try simp only [Act.put, List.setIfInBounds_toArray, List.set_cons_zero, List.set_cons_succ]
        refine take_op (i := 5) (d := some 48) (v := ?_) rfl rfl (by kernel_rfl) (by kernel_rfl) (by kernel_rfl) (fun _ _ _ h => h) (Or.inl ⟨by kernel_rfl, ?_⟩) (by assumption) ?_
        rotate_left
        · intro V hSw; (try dsimp only at hSw); go_simp; with_reducible rfl
        try simp only [Act.put, List.setIfInBounds_toArray, List.set_cons_zero, List.set_cons_succ]
        refine wpAnyH_ready (rs := [0, 4]) (by kernel_rfl) (by simp) (AllReadyH.cons rfl (fun KK hK => ?_) (AllReadyH.cons rfl (fun KK hK => ?_) AllReadyH.nil))
        · go_simp
          refine hK.out _ _ trivial (fun _ => ?_)
          clear hK KK
          try simp only [Act.put, List.setIfInBounds_toArray, List.set_cons_zero, List.set_cons_succ]
          refine wpAnyH_ready (rs := [4]) (by kernel_rfl) (by simp) (AllReadyH.cons rfl (fun KK hK => ?_) AllReadyH.nil)
          go_simp
          refine hK.out _ _ trivial (fun _ => ?_)
          clear hK KK
          try simp only [Act.put, List.setIfInBounds_toArray, List.set_cons_zero, List.set_cons_succ]
          refine wpAnyH_ready (rs := [6]) (by kernel_rfl) (by simp) (AllReadyH.cons rfl (fun KK hK => ?_) AllReadyH.nil)
          go_simp
          refine (HWITH.out _ tt (below_drewN (HW2.out.trans' HV.out) 1) HRT.out.2).mono ?_
          rintro e V12 ⟨A4, c4, L4, rfl, hB4, hR4, hb4⟩
          have HB4 := Lib.hid hB4
          have HR4 := Lib.hid hR4
          have HV4 := Lib.hid (HV.out.trans' (below_of_drew hb4))
          obtain ⟨k0, k1, k2⟩ := tri_cells ((HV4.out.block X (Nat.lt_of_lt_of_le HXW.out HW2.out.size)).trans HXX.out)
          have q0 := free_of ((HV4.out.block X (Nat.lt_of_lt_of_le HXW.out HW2.out.size)).trans HXX.out) 0
          have q1 := free_of ((HV4.out.block X (Nat.lt_of_lt_of_le HXW.out HW2.out.size)).trans HXX.out) 1
          have q2 := free_of ((HV4.out.block X (Nat.lt_of_lt_of_le HXW.out HW2.out.size)).trans HXX.out) 2
          clear hB4 hR4 hb4
          go_wp2_with fail
          refine hK.out _ _ trivial (fun _ => ?_)
          clear hK KK
          refine wpAnyH_ready (rs := [7]) (by kernel_rfl) (by simp) (AllReadyH.cons rfl (fun KK hK => ?_) AllReadyH.nil)
          go_simp
          refine hK.out _ _ trivial (fun _ => ?_)
          clear hK KK
          refine wpAnyH_done (by kernel_rfl) ?_ _
          have hbWV := HW2.out.trans' HV4.out
          have hXV := (HV4.out.block X (Nat.lt_of_lt_of_le HXW.out HW2.out.size)).trans HXX.out
          have hch0 := (((Chg.of_below (F := fun j => j = X) hbWV).set (b := X) rfl 0 (.int .i64 (pp : Nat))).set (b := X) rfl 1 (.int .i64 ((DP.put (DP.zero pp) FP ⟨ix, tt⟩).length : Nat))).set (b := X) rfl 2 (.slice A4 L4.length c4)
          refine ⟨(chg_keeps hch0 ?_).1, (chg_keeps hch0 (B := X + 2) (by omega)).2, ⟨(HBEL.out.trans' hbWV).trans (set3_below _ _ _ _ _ _ (by have := HXN.out; omega)), (hch0.block _ HBOX.out.lt (by have := HXN.out; omega)).trans HBOX.out⟩, ?_⟩
          · omega
          rw [← HPP.out, HSNOC.out, HRT.out.1]
          exact ⟨A4, c4, L4, set3_heap hXV, HB4.out.st (set3_st hXV (by decide)), HR4.out⟩
        · go_simp
          refine hK.out _ _ trivial (fun _ => ?_)
          clear hK KK
          try simp only [Act.put, List.setIfInBounds_toArray, List.set_cons_zero, List.set_cons_succ]
          refine wpAnyH_ready (rs := [0]) (by kernel_rfl) (by simp) (AllReadyH.cons rfl (fun KK hK => ?_) AllReadyH.nil)
          go_simp
          refine hK.out _ _ trivial (fun _ => ?_)
          clear hK KK
          try simp only [Act.put, List.setIfInBounds_toArray, List.set_cons_zero, List.set_cons_succ]
          refine wpAnyH_ready (rs := [6]) (by kernel_rfl) (by simp) (AllReadyH.cons rfl (fun KK hK => ?_) AllReadyH.nil)
          go_simp
          refine (HWITH.out _ tt (below_drewN (HW2.out.trans' HV.out) 1) HRT.out.2).mono ?_
          rintro e V12 ⟨A4, c4, L4, rfl, hB4, hR4, hb4⟩
          have HB4 := Lib.hid hB4
          have HR4 := Lib.hid hR4
          have HV4 := Lib.hid (HV.out.trans' (below_of_drew hb4))
          obtain ⟨k0, k1, k2⟩ := tri_cells ((HV4.out.block X (Nat.lt_of_lt_of_le HXW.out HW2.out.size)).trans HXX.out)
          have q0 := free_of ((HV4.out.block X (Nat.lt_of_lt_of_le HXW.out HW2.out.size)).trans HXX.out) 0
          have q1 := free_of ((HV4.out.block X (Nat.lt_of_lt_of_le HXW.out HW2.out.size)).trans HXX.out) 1
          have q2 := free_of ((HV4.out.block X (Nat.lt_of_lt_of_le HXW.out HW2.out.size)).trans HXX.out) 2
          clear hB4 hR4 hb4
          go_wp2_with fail
          refine hK.out _ _ trivial (fun _ => ?_)
          clear hK KK
          refine wpAnyH_ready (rs := [7]) (by kernel_rfl) (by simp) (AllReadyH.cons rfl (fun KK hK => ?_) AllReadyH.nil)
          go_simp
          refine hK.out _ _ trivial (fun _ => ?_)
          clear hK KK
          refine wpAnyH_done (by kernel_rfl) ?_ _
          have hbWV := HW2.out.trans' HV4.out
          have hXV := (HV4.out.block X (Nat.lt_of_lt_of_le HXW.out HW2.out.size)).trans HXX.out
          have hch0 := (((Chg.of_below (F := fun j => j = X) hbWV).set (b := X) rfl 0 (.int .i64 (pp : Nat))).set (b := X) rfl 1 (.int .i64 ((DP.put (DP.zero pp) FP ⟨ix, tt⟩).length : Nat))).set (b := X) rfl 2 (.slice A4 L4.length c4)
          refine ⟨(chg_keeps hch0 ?_).1, (chg_keeps hch0 (B := X + 2) (by omega)).2, ⟨(HBEL.out.trans' hbWV).trans (set3_below _ _ _ _ _ _ (by have := HXN.out; omega)), (hch0.block _ HBOX.out.lt (by have := HXN.out; omega)).trans HBOX.out⟩, ?_⟩
          · omega
          rw [← HPP.out, HSNOC.out, HRT.out.1]
          exact ⟨A4, c4, L4, set3_heap hXV, HB4.out.st (set3_st hXV (by decide)), HR4.out⟩
    · obtain ⟨K, hK0⟩ : ∃ K : Int, K = 0 := ⟨_, rfl⟩
      obtain ⟨at_, hat0⟩ : ∃ at_ : Int, at_ = 0 := ⟨_, rfl⟩
      have HC0 : Hid (cs[k]? = none) := Lib.hid (List.getElem?_eq_none (by omega))
      obtain ⟨tt, htt⟩ : ∃ tt : ByteArray, tt = ⟨#[]⟩ := ⟨_, rfl⟩
      obtain ⟨bb, hbb⟩ : ∃ bb : Bool, bb = false := ⟨_, rfl⟩
      have HRES : Hid ((bb = true → stepN pp d.q cs FP k = DP.put (DP.zero pp) FP ⟨ix, tt⟩ ∧ tt.size = pp) ∧ (bb = false → stepN pp d.q cs FP k = FP)) := Lib.hid ⟨fun e => (by rw [hbb] at e; cases e), fun _ => HFIN0.out HC0.out⟩
      have HOUT : Hid (∀ V, Calls Tryd.prog 45 #[.agg #[.int .i64 K, .int .i64 at_], .string xs, .string old] V fun e w' => e = .returned (.tuple #[.string tt, .bool bb]) ∧ Below V.heap.size V w') := Lib.hid (fun V => by
        have := HOUTA.out V 0 0 (by omega)
        rw [out_lost pp 0 0 xs old (by omega) (by omega)] at this
        rw [hK0, hat0, htt, hbb]
        exact this)
      have hb01 := below_alloc W (.cells #[.int .i64 0, .int .i64 0] 54)
      have hC1 := heap_alloc_new W (.cells #[.int .i64 0, .int .i64 0] 54)
      have hsz1 : (W.alloc (.cells #[.int .i64 0, .int .i64 0] 54)).heap.size = W.heap.size + 1 := by simp
      have HB01 := Lib.hid hb01
      have HC1 : Hid ((W.alloc (.cells #[.int .i64 0, .int .i64 0] 54)).heap[W.heap.size]? = some (.cells #[.int .i64 K, .int .i64 at_] 54 (0, 0))) := Lib.hid (by rw [hK0, hat0]; exact hC1)
      have HSZ1 := Lib.hid hsz1
      have bl1 := (hb01.cell (p := ⟨w.heap.size, 0, none⟩) HBOX.out.lt).trans bl
      have d1 : decide ((k : Int) < (cs.length : Int)) = false := decide_eq_false (by omega)
      have d1n : decide (k < cs.length) = false := decide_eq_false hkc
      clear hC1 hb01 hsz1 hK0 hat0 htt hbb bl
      gi_wp2_with fail
      have hbW2 := HB01.out
      have hC2 := HC1.out
      have hBC2 : W.heap.size < (W.alloc (.cells #[.int .i64 0, .int .i64 0] 54)).heap.size := by simp
      clear bl1 d1 d1n HB01 HC1 HSZ1
      generalize W.alloc (.cells #[.int .i64 0, .int .i64 0] 54) = W2 at *
      have HW2 : Hid (Below W.heap.size W W2) := Lib.hid hbW2
      obtain ⟨x0, x1⟩ := pair_cells hC2
      have z0 := (HW2.out.cell (p := ⟨X, 0, none⟩) HXW.out).trans a0
      have z1 := (HW2.out.cell (p := ⟨X, 1, none⟩) HXW.out).trans a1
      have z2 := (HW2.out.cell (p := ⟨X, 2, none⟩) HXW.out).trans a2
      have g0 := (HW2.out.cell (p := ⟨g, 0, none⟩) HGW.out).trans u0
      have g1 := (HW2.out.cell (p := ⟨g, 1, none⟩) HGW.out).trans u1
      have HBC : Hid (W.heap.size < W2.heap.size) := Lib.hid hBC2
      have HS : Hid (∀ V, Below W2.heap.size W2 V → (Hid (Hid (Below W2.heap.size W2 V)) ∧ V.cell? ⟨W.heap.size, 0, none⟩ = some (.int .i64 K) ∧ V.cell? ⟨W.heap.size, 1, none⟩ = some (.int .i64 at_) ∧ V.cell? ⟨g, 0, none⟩ = some (.int .i64 (ix : Nat)) ∧ V.cell? ⟨g, 1, none⟩ = some (.string xs) ∧ V.cell? ⟨X, 0, none⟩ = some (.int .i64 (pp : Nat)) ∧ V.cell? ⟨X, 1, none⟩ = some (.int .i64 (nl : Nat)) ∧ V.cell? ⟨X, 2, none⟩ = some (.slice A3 L3.length c3))) := Lib.hid (fun V hV => ⟨Lib.hid (Lib.hid hV), (hV.cell (p := ⟨W.heap.size, 0, none⟩) HBC.out).trans x0, (hV.cell (p := ⟨W.heap.size, 1, none⟩) HBC.out).trans x1, (hV.cell (p := ⟨g, 0, none⟩) (Nat.lt_of_lt_of_le HGW.out HW2.out.size)).trans g0, (hV.cell (p := ⟨g, 1, none⟩) (Nat.lt_of_lt_of_le HGW.out HW2.out.size)).trans g1, (hV.cell (p := ⟨X, 0, none⟩) (Nat.lt_of_lt_of_le HXW.out HW2.out.size)).trans z0, (hV.cell (p := ⟨X, 1, none⟩) (Nat.lt_of_lt_of_le HXW.out HW2.out.size)).trans z1, (hV.cell (p := ⟨X, 2, none⟩) (Nat.lt_of_lt_of_le HXW.out HW2.out.size)).trans z2⟩)
      have HKeep : Hid (∀ V V', Below V.heap.size V V' → (Hid (Hid (Below W2.heap.size W2 V)) ∧ V.cell? ⟨W.heap.size, 0, none⟩ = some (.int .i64 K) ∧ V.cell? ⟨W.heap.size, 1, none⟩ = some (.int .i64 at_) ∧ V.cell? ⟨g, 0, none⟩ = some (.int .i64 (ix : Nat)) ∧ V.cell? ⟨g, 1, none⟩ = some (.string xs) ∧ V.cell? ⟨X, 0, none⟩ = some (.int .i64 (pp : Nat)) ∧ V.cell? ⟨X, 1, none⟩ = some (.int .i64 (nl : Nat)) ∧ V.cell? ⟨X, 2, none⟩ = some (.slice A3 L3.length c3)) → (Hid (Hid (Below W2.heap.size W2 V')) ∧ V'.cell? ⟨W.heap.size, 0, none⟩ = some (.int .i64 K) ∧ V'.cell? ⟨W.heap.size, 1, none⟩ = some (.int .i64 at_) ∧ V'.cell? ⟨g, 0, none⟩ = some (.int .i64 (ix : Nat)) ∧ V'.cell? ⟨g, 1, none⟩ = some (.string xs) ∧ V'.cell? ⟨X, 0, none⟩ = some (.int .i64 (pp : Nat)) ∧ V'.cell? ⟨X, 1, none⟩ = some (.int .i64 (nl : Nat)) ∧ V'.cell? ⟨X, 2, none⟩ = some (.slice A3 L3.length c3))) := Lib.hid (fun V V' b0 h => HS.out V' (h.1.out.out.trans' b0))
      have HPAGE : Hid (∀ V, Below W2.heap.size W2 V → Calls Tryd.prog 40 #[.agg #[.int .i64 (pp : Nat), .int .i64 (nl : Nat), .slice A3 L3.length c3], .int .i64 (ix : Nat)] V fun e w' => e = .returned (.string old) ∧ Below V.heap.size V w') := Lib.hid (fun V hV => HPG.out V (HW2.out.trans' hV))
      have HXX : Hid (W2.heap[X]? = some (.cells #[.int .i64 (pp : Nat), .int .i64 (nl : Nat), .slice A3 L3.length c3] 67 (0, 0))) := Lib.hid ((HW2.out.block X HXW.out).trans HX3.out)
      have hDrew := HS.out W2.drew (below_drewN (Below.refl _ W2) 1)
      clear x0 x1 g0 g1 z0 z1 z2 a0 a1 a2 u0 u1 hbW2 hC2 hBC2
      refine wpIn_region_held (S := fun V => Hid (Hid (Below W2.heap.size W2 V)) ∧ V.cell? ⟨W.heap.size, 0, none⟩ = some (.int .i64 K) ∧ V.cell? ⟨W.heap.size, 1, none⟩ = some (.int .i64 at_) ∧ V.cell? ⟨g, 0, none⟩ = some (.int .i64 (ix : Nat)) ∧ V.cell? ⟨g, 1, none⟩ = some (.string xs) ∧ V.cell? ⟨X, 0, none⟩ = some (.int .i64 (pp : Nat)) ∧ V.cell? ⟨X, 1, none⟩ = some (.int .i64 (nl : Nat)) ∧ V.cell? ⟨X, 2, none⟩ = some (.slice A3 L3.length c3)) (by kernel_rfl) (by kernel_rfl) ?nolets hDrew (fun hHeld => ?_)
      case nolets => rintro ⟨a0, w0, h0⟩; exact h0
      refine take_op (i := 0) (d := some 28) (v := ?_) rfl rfl (by kernel_rfl) (by kernel_rfl) (by kernel_rfl) (fun _ _ _ h => h) (Or.inl ⟨by kernel_rfl, ?_⟩) (by assumption) ?_
      rotate_left
      · intro V hSw; (try dsimp only at hSw); go_simp; with_reducible rfl
      try simp only [Act.put, List.setIfInBounds_toArray, List.set_cons_zero, List.set_cons_succ]
      refine take_op (i := 1) (d := some 29) (v := ?_) rfl rfl (by kernel_rfl) (by kernel_rfl) (by kernel_rfl) (fun _ _ _ h => h) (Or.inl ⟨by kernel_rfl, ?_⟩) (by assumption) ?_
      rotate_left
      · intro V hSw; (try dsimp only at hSw); go_simp; with_reducible rfl
      try simp only [Act.put, List.setIfInBounds_toArray, List.set_cons_zero, List.set_cons_succ]
      refine take_op (i := 2) (d := some 30) (v := ?_) rfl rfl (by kernel_rfl) (by kernel_rfl) (by kernel_rfl) (fun _ _ _ h => h) (Or.inl ⟨by kernel_rfl, ?_⟩) (by assumption) ?_
      rotate_left
      · intro V hSw; (try dsimp only at hSw); go_simp; with_reducible rfl
      try simp only [Act.put, List.setIfInBounds_toArray, List.set_cons_zero, List.set_cons_succ]
      refine take_op (i := 3) (d := some 31) (v := ?_) rfl rfl (by kernel_rfl) (by kernel_rfl) (by kernel_rfl) (fun _ _ _ h => h) (Or.inl ⟨by kernel_rfl, ?_⟩) (by assumption) ?_
      rotate_left
      · intro V hSw; (try dsimp only at hSw); go_simp; with_reducible rfl
      try simp only [Act.put, List.setIfInBounds_toArray, List.set_cons_zero, List.set_cons_succ]
      refine take_op (i := 4) (d := some 32) (v := ?_) rfl rfl (by kernel_rfl) (by kernel_rfl) (by kernel_rfl) (fun _ _ _ h => h) (Or.inl ⟨by kernel_rfl, ?_⟩) (by assumption) ?_
      rotate_left
      · intro V hSw; (try dsimp only at hSw); go_simp; with_reducible rfl
      try simp only [Act.put, List.setIfInBounds_toArray, List.set_cons_zero, List.set_cons_succ]
      refine take_op (i := 5) (d := some 33) (v := ?_) rfl rfl (by kernel_rfl) (by kernel_rfl) (by kernel_rfl) (fun _ _ _ h => h) (Or.inl ⟨by kernel_rfl, ?_⟩) (by assumption) ?_
      rotate_left
      · intro V hSw; (try dsimp only at hSw); go_simp; with_reducible rfl
      try simp only [Act.put, List.setIfInBounds_toArray, List.set_cons_zero, List.set_cons_succ]
      refine take_op (i := 6) (d := some 34) (v := ?_) rfl rfl (by kernel_rfl) (by kernel_rfl) (by kernel_rfl) (fun _ _ _ h => h) (Or.inl ⟨by kernel_rfl, ?_⟩) (by assumption) ?_
      rotate_left
      · intro V hSw; (try dsimp only at hSw); go_simp; with_reducible rfl
      try simp only [Act.put, List.setIfInBounds_toArray, List.set_cons_zero, List.set_cons_succ]
      refine take_op (i := 7) (d := some 35) (v := ?_) rfl rfl (by kernel_rfl) (by kernel_rfl) (by kernel_rfl) (fun _ _ _ h => h) (Or.inl ⟨by kernel_rfl, ?_⟩) (by assumption) ?_
      rotate_left
      · intro V hSw; (try dsimp only at hSw); go_simp; with_reducible rfl
      try simp only [Act.put, List.setIfInBounds_toArray, List.set_cons_zero, List.set_cons_succ]
      refine take_op (i := 8) (d := some 36) (v := ?_) rfl rfl (by kernel_rfl) (by kernel_rfl) (by kernel_rfl) (fun _ _ _ h => h) (Or.inl ⟨by kernel_rfl, ?_⟩) (by assumption) ?_
      rotate_left
      · intro V hSw; (try dsimp only at hSw); go_simp; with_reducible rfl
      try simp only [Act.put, List.setIfInBounds_toArray, List.set_cons_zero, List.set_cons_succ]
      refine take_op (i := 9) (d := some 37) (v := ?_) rfl rfl (by kernel_rfl) (by kernel_rfl) (by kernel_rfl) (fun _ _ _ h => h) (Or.inl ⟨by kernel_rfl, ?_⟩) (by assumption) ?_
      rotate_left
      · intro V hSw; (try dsimp only at hSw); go_simp; with_reducible rfl
      try simp only [Act.put, List.setIfInBounds_toArray, List.set_cons_zero, List.set_cons_succ]
      refine wpAnyH_ready (rs := [10]) (by kernel_rfl) (by simp) (AllReadyH.cons rfl (fun KK hK => ?_) AllReadyH.nil)
      go_simp
      refine (HPAGE.out _ hHeld.1.out.out).mono ?_
      rintro e V10 ⟨rfl, hx10⟩
      have hH10 := HKeep.out _ _ hx10 hHeld
      clear hHeld
      have hHeld := hH10
      go_wp2_with fail
      refine hK.out _ _ hHeld (fun _ => ?_)
      clear hK KK
      refine wpAnyH_ready (rs := [11]) (by kernel_rfl) (by simp) (AllReadyH.cons rfl (fun KK hK => ?_) AllReadyH.nil)
      go_simp
      refine (HOUT.out _).mono ?_
      rintro e V11 ⟨rfl, hx11⟩
      have hH11 := HKeep.out _ _ hx11 hHeld
      clear hHeld
      have hHeld := hH11
      go_wp2_with fail
      refine hK.out _ _ hHeld (fun _ => ?_)
      clear hK KK
      refine take_op (i := 12) (d := some 27) (v := ?_) rfl rfl (by kernel_rfl) (by kernel_rfl) (by kernel_rfl) (fun _ _ _ h => h) (Or.inl ⟨by kernel_rfl, ?_⟩) (by assumption) ?_
      rotate_left
      · intro V hSw; (try dsimp only at hSw); go_simp; with_reducible rfl
      try simp only [Act.put, List.setIfInBounds_toArray, List.set_cons_zero, List.set_cons_succ]
      refine take_op (i := 13) (d := some 40) (v := ?_) rfl rfl (by kernel_rfl) (by kernel_rfl) (by kernel_rfl) (fun _ _ _ h => h) (Or.inl ⟨by kernel_rfl, ?_⟩) (by assumption) ?_
      rotate_left
      · intro V hSw; (try dsimp only at hSw); go_simp; with_reducible rfl
      try simp only [Act.put, List.setIfInBounds_toArray, List.set_cons_zero, List.set_cons_succ]
      refine take_op (i := 14) (d := some 41) (v := ?_) rfl rfl (by kernel_rfl) (by kernel_rfl) (by kernel_rfl) (fun _ _ _ h => h) (Or.inl ⟨by kernel_rfl, ?_⟩) (by assumption) ?_
      rotate_left
      · intro V hSw; (try dsimp only at hSw); go_simp; with_reducible rfl
      try simp only [Act.put, List.setIfInBounds_toArray, List.set_cons_zero, List.set_cons_succ]
      refine take_op (i := 15) (d := some 8) (v := ?_) rfl rfl (by kernel_rfl) (by kernel_rfl) (by kernel_rfl) (fun _ _ _ h => h) (Or.inl ⟨by kernel_rfl, ?_⟩) (by assumption) ?_
      rotate_left
      · intro V hSw; (try dsimp only at hSw); go_simp; with_reducible rfl
      try simp only [Act.put, List.setIfInBounds_toArray, List.set_cons_zero, List.set_cons_succ]
      refine take_op (i := 16) (d := some 9) (v := ?_) rfl rfl (by kernel_rfl) (by kernel_rfl) (by kernel_rfl) (fun _ _ _ h => h) (Or.inl ⟨by kernel_rfl, ?_⟩) (by assumption) ?_
      rotate_left
      · intro V hSw; (try dsimp only at hSw); go_simp; with_reducible rfl
      try simp only [Act.put, List.setIfInBounds_toArray, List.set_cons_zero, List.set_cons_succ]
      refine wpAnyH_done (by kernel_rfl) ?_ _
      have hV := hHeld.1.out.out
      have HV := Lib.hid hV
      cases bb with
      | false =>
        gi_wp2_with fail
        have hbWV := HW2.out.trans' HV.out
        have hch0 := Chg.of_below (F := fun j => j = X) hbWV
        refine ⟨(chg_keeps hch0 ?_).1, (chg_keeps hch0 (B := X + 2) (by omega)).2, ⟨HBEL.out.trans' hbWV |> id, (hbWV.block _ HBOX.out.lt).trans HBOX.out⟩, ?_⟩
        · omega
        rw [← HPP.out, HSNOC.out, HRES.out.2 (by first | rfl | trivial)]
        exact ⟨A3, c3, L3, by rw [← HNL.out]; exact (hbWV.block X HXW.out).trans HX3.out, HP'.out.st (.of_below hbWV)⟩
      | true =>
        have HRT := Lib.hid (HRES.out.1 rfl)
        gi_wp2_with fail
        obtain ⟨_, _, _, e0, e1, e2, e3, e4⟩ := hHeld
        refine wpIn_region_held (S := fun V => True) (by kernel_rfl) (by kernel_rfl) ?nolets trivial (fun hHeld => ?_)
        case nolets => rintro ⟨a0, w0, h0⟩; exact h0
        refine take_op (i := 1) (d := some 44) (v := ?_) rfl rfl (by kernel_rfl) (by kernel_rfl) (by kernel_rfl) (fun _ _ _ h => h) (Or.inl ⟨by kernel_rfl, ?_⟩) (by assumption) ?_
        rotate_left
        · intro V hSw; (try dsimp only at hSw); go_simp; with_reducible rfl
        try simp only [Act.put, List.setIfInBounds_toArray, List.set_cons_zero, List.set_cons_succ]
        refine take_op (i := 2) (d := some 45) (v := ?_) rfl rfl (by kernel_rfl) (by kernel_rfl) (by kernel_rfl) (fun _ _ _ h => h) (Or.inl ⟨by kernel_rfl, ?_⟩) (by assumption) ?_
        rotate_left
        · intro V hSw; (try dsimp only at hSw); go_simp; with_reducible rfl
        try simp only [Act.put, List.setIfInBounds_toArray, List.set_cons_zero, List.set_cons_succ]
        refine take_op (i := 3) (d := some 46) (v := ?_) rfl rfl (by kernel_rfl) (by kernel_rfl) (by kernel_rfl) (fun _ _ _ h => h) (Or.inl ⟨by kernel_rfl, ?_⟩) (by assumption) ?_
        rotate_left
        · intro V hSw; (try dsimp only at hSw); go_simp; with_reducible rfl
        try simp only [Act.put, List.setIfInBounds_toArray, List.set_cons_zero, List.set_cons_succ]
        refine take_op (i := 5) (d := some 48) (v := ?_) rfl rfl (by kernel_rfl) (by kernel_rfl) (by kernel_rfl) (fun _ _ _ h => h) (Or.inl ⟨by kernel_rfl, ?_⟩) (by assumption) ?_
        rotate_left
        · intro V hSw; (try dsimp only at hSw); go_simp; with_reducible rfl
        try simp only [Act.put, List.setIfInBounds_toArray, List.set_cons_zero, List.set_cons_succ]
        refine wpAnyH_ready (rs := [0, 4]) (by kernel_rfl) (by simp) (AllReadyH.cons rfl (fun KK hK => ?_) (AllReadyH.cons rfl (fun KK hK => ?_) AllReadyH.nil))
        · go_simp
          refine hK.out _ _ trivial (fun _ => ?_)
          clear hK KK
          try simp only [Act.put, List.setIfInBounds_toArray, List.set_cons_zero, List.set_cons_succ]
          refine wpAnyH_ready (rs := [4]) (by kernel_rfl) (by simp) (AllReadyH.cons rfl (fun KK hK => ?_) AllReadyH.nil)
          go_simp
          refine hK.out _ _ trivial (fun _ => ?_)
          clear hK KK
          try simp only [Act.put, List.setIfInBounds_toArray, List.set_cons_zero, List.set_cons_succ]
          refine wpAnyH_ready (rs := [6]) (by kernel_rfl) (by simp) (AllReadyH.cons rfl (fun KK hK => ?_) AllReadyH.nil)
          go_simp
          refine (HWITH.out _ tt (below_drewN (HW2.out.trans' HV.out) 1) HRT.out.2).mono ?_
          rintro e V12 ⟨A4, c4, L4, rfl, hB4, hR4, hb4⟩
          have HB4 := Lib.hid hB4
          have HR4 := Lib.hid hR4
          have HV4 := Lib.hid (HV.out.trans' (below_of_drew hb4))
          obtain ⟨k0, k1, k2⟩ := tri_cells ((HV4.out.block X (Nat.lt_of_lt_of_le HXW.out HW2.out.size)).trans HXX.out)
          have q0 := free_of ((HV4.out.block X (Nat.lt_of_lt_of_le HXW.out HW2.out.size)).trans HXX.out) 0
          have q1 := free_of ((HV4.out.block X (Nat.lt_of_lt_of_le HXW.out HW2.out.size)).trans HXX.out) 1
          have q2 := free_of ((HV4.out.block X (Nat.lt_of_lt_of_le HXW.out HW2.out.size)).trans HXX.out) 2
          clear hB4 hR4 hb4
          go_wp2_with fail
          refine hK.out _ _ trivial (fun _ => ?_)
          clear hK KK
          refine wpAnyH_ready (rs := [7]) (by kernel_rfl) (by simp) (AllReadyH.cons rfl (fun KK hK => ?_) AllReadyH.nil)
          go_simp
          refine hK.out _ _ trivial (fun _ => ?_)
          clear hK KK
          refine wpAnyH_done (by kernel_rfl) ?_ _
          have hbWV := HW2.out.trans' HV4.out
          have hXV := (HV4.out.block X (Nat.lt_of_lt_of_le HXW.out HW2.out.size)).trans HXX.out
          have hch0 := (((Chg.of_below (F := fun j => j = X) hbWV).set (b := X) rfl 0 (.int .i64 (pp : Nat))).set (b := X) rfl 1 (.int .i64 ((DP.put (DP.zero pp) FP ⟨ix, tt⟩).length : Nat))).set (b := X) rfl 2 (.slice A4 L4.length c4)
          refine ⟨(chg_keeps hch0 ?_).1, (chg_keeps hch0 (B := X + 2) (by omega)).2, ⟨(HBEL.out.trans' hbWV).trans (set3_below _ _ _ _ _ _ (by have := HXN.out; omega)), (hch0.block _ HBOX.out.lt (by have := HXN.out; omega)).trans HBOX.out⟩, ?_⟩
          · omega
          rw [← HPP.out, HSNOC.out, HRT.out.1]
          exact ⟨A4, c4, L4, set3_heap hXV, HB4.out.st (set3_st hXV (by decide)), HR4.out⟩
        · go_simp
          refine hK.out _ _ trivial (fun _ => ?_)
          clear hK KK
          try simp only [Act.put, List.setIfInBounds_toArray, List.set_cons_zero, List.set_cons_succ]
          refine wpAnyH_ready (rs := [0]) (by kernel_rfl) (by simp) (AllReadyH.cons rfl (fun KK hK => ?_) AllReadyH.nil)
          go_simp
          refine hK.out _ _ trivial (fun _ => ?_)
          clear hK KK
          try simp only [Act.put, List.setIfInBounds_toArray, List.set_cons_zero, List.set_cons_succ]
          refine wpAnyH_ready (rs := [6]) (by kernel_rfl) (by simp) (AllReadyH.cons rfl (fun KK hK => ?_) AllReadyH.nil)
          go_simp
          refine (HWITH.out _ tt (below_drewN (HW2.out.trans' HV.out) 1) HRT.out.2).mono ?_
          rintro e V12 ⟨A4, c4, L4, rfl, hB4, hR4, hb4⟩
          have HB4 := Lib.hid hB4
          have HR4 := Lib.hid hR4
          have HV4 := Lib.hid (HV.out.trans' (below_of_drew hb4))
          obtain ⟨k0, k1, k2⟩ := tri_cells ((HV4.out.block X (Nat.lt_of_lt_of_le HXW.out HW2.out.size)).trans HXX.out)
          have q0 := free_of ((HV4.out.block X (Nat.lt_of_lt_of_le HXW.out HW2.out.size)).trans HXX.out) 0
          have q1 := free_of ((HV4.out.block X (Nat.lt_of_lt_of_le HXW.out HW2.out.size)).trans HXX.out) 1
          have q2 := free_of ((HV4.out.block X (Nat.lt_of_lt_of_le HXW.out HW2.out.size)).trans HXX.out) 2
          clear hB4 hR4 hb4
          go_wp2_with fail
          refine hK.out _ _ trivial (fun _ => ?_)
          clear hK KK
          refine wpAnyH_ready (rs := [7]) (by kernel_rfl) (by simp) (AllReadyH.cons rfl (fun KK hK => ?_) AllReadyH.nil)
          go_simp
          refine hK.out _ _ trivial (fun _ => ?_)
          clear hK KK
          refine wpAnyH_done (by kernel_rfl) ?_ _
          have hbWV := HW2.out.trans' HV4.out
          have hXV := (HV4.out.block X (Nat.lt_of_lt_of_le HXW.out HW2.out.size)).trans HXX.out
          have hch0 := (((Chg.of_below (F := fun j => j = X) hbWV).set (b := X) rfl 0 (.int .i64 (pp : Nat))).set (b := X) rfl 1 (.int .i64 ((DP.put (DP.zero pp) FP ⟨ix, tt⟩).length : Nat))).set (b := X) rfl 2 (.slice A4 L4.length c4)
          refine ⟨(chg_keeps hch0 ?_).1, (chg_keeps hch0 (B := X + 2) (by omega)).2, ⟨(HBEL.out.trans' hbWV).trans (set3_below _ _ _ _ _ _ (by have := HXN.out; omega)), (hch0.block _ HBOX.out.lt (by have := HXN.out; omega)).trans HBOX.out⟩, ?_⟩
          · omega
          rw [← HPP.out, HSNOC.out, HRT.out.1]
          exact ⟨A4, c4, L4, set3_heap hXV, HB4.out.st (set3_st hXV (by decide)), HR4.out⟩
  case done =>
    rintro D xs W hD hall ⟨⟨hbel, hbox⟩, A3, c3, L3, hX3, hP'⟩ hK
    have h1 : xs.map pln = List.range d.q.length := by
      have h0 : xs.map pln = List.range d.q.reverse.length := hall
      rw [h0, List.length_reverse]
    rw [h1, fo_all] at hX3 hP'
    obtain ⟨FP, hFP⟩ : ∃ FP, FP = DP.crash d.p d.kept d.q cs := ⟨_, rfl⟩
    rw [← hFP] at hX3 hP'
    obtain ⟨a0, a1, a2⟩ := tri_cells hX3
    have ho0 := HO1.out.below hbel
    have HSE := Lib.hid (settle_any b d.p d.room d.reads d.all.length d.kept.length lf (FP.length : Nat) _ _ _ A3 L3.length c3 lim W ho0)
    have HP' := Lib.hid hP'
    have HFP := Lib.hid hFP
    have HO0 := Lib.hid ho0
    have HBEL := Lib.hid hbel
    have HD : Hid (w.heap.size ≤ D) := Lib.hid (by have := HXN.out; omega)
    have HDK := Lib.hid hK
    clear hP' hX3 hbox h1 hall hFP ho0 hbel hK
    gi_wp2_with fail
    refine ⟨trivial, ?_⟩
    refine (callsIn_wide.2 HSE.out).mono ?_
    rintro e w2 ⟨rfl, ho, hch⟩
    have HO2 := Lib.hid ho
    have HCH := Lib.hid hch
    have y9 := ho.at 9 _ rfl
    have f9 := ho.free 9
    clear ho hch a0 a1 a2
    gi_wp2
    have hDb : D ≠ b := by have := HD.out; have := HBLT.out; omega
    have hch2 := HCH.out.set (b := b) rfl 9 (.bool false)
    have hD2 : (w2.setCell ⟨b, 9, none⟩ (.bool false)).heap[D]? = some (.deferred (some [])) := (hch2.block D (Array.getElem?_eq_some_iff.1 HDK.out).1 hDb).trans HDK.out
    have hput : ∀ k, k ≠ D → ((w2.setCell ⟨b, 9, none⟩ (.bool false)).putObj D (.deferred none)).heap[k]? = (w2.setCell ⟨b, 9, none⟩ (.bool false)).heap[k]? := fun k hk => World.putObj_heap_other hk
    have hstp : St (w2.setCell ⟨b, 9, none⟩ (.bool false)) ((w2.setCell ⟨b, 9, none⟩ (.bool false)).putObj D (.deferred none)) := same_st (fun j cs t fz hj => hput j (fun e => by rw [e, hD2] at hj; cases hj))
    refine ⟨by simp, .inl ⟨_, _, rfl, run_takeDeferred hD2, ?_⟩⟩
    refine ⟨.tuple #[], by first | simp [results, go_sem] | simp [results, Tryd.results27, go_sem], rfl, ?_, ?_⟩
    · refine ⟨⟨A3, c3, L3, A3, c3, L3, .pointer none, false, lf, ?_, ?_, ?_, rfl, HLF.out, rfl⟩, HOK.out.crash cs, HSM.out⟩
      · refine Obd.stays ?_ (hput b (Ne.symm hDb))
        have h9 := HO2.out.set9 false
        rw [HFP.out] at h9
        exact h9
      · have := (HP'.out.st (HO0.out.st hch2)).st hstp
        rw [HFP.out] at this
        exact this
      · have := (HP'.out.st (HO0.out.st hch2)).st hstp
        rw [HFP.out] at this
        exact this
    · have h0 := (Chg.of_below (F := fun j => j = b) HBEL.out).trans' hch2
      have hg := grownBy_putObj' (w2.setCell ⟨b, 9, none⟩ (.bool false)) D (.deferred none)
      exact ⟨hg.os.trans h0.os, hg.tape.trans h0.tape, hg.output.trans h0.output, Nat.le_trans h0.size hg.size, fun k hk hn => (hput k (by have := HD.out; omega)).trans (h0.block k hk hn)⟩
  case stop => rintro D c pre W hD hsome hIx hK; exact hIx.elim
end Go.Proofs.YtaeiifmdbdhoeaaDoor
