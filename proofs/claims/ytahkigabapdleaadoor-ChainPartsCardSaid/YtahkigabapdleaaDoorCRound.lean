/-
  What ranges over a function share: what a round keeps; a region that draws in a round.
-/
import Derived.RangeFuncNested
import Derived.RangeFuncBound
import Derived.RangeFuncCalls
import Derived.RangeFuncLeaves
import Derived.RangeFuncBox
import Derived.Shelf.RegionOpen
import Derived.WalkKit
import Derived.OwnWalkIn
import Derived.TacticsInMore
import Derived.LoopNIn
import Derived.LoopIn
import Derived.Deep.RegionHeld3
import Derived.Deep.AppendLies
import Derived.Test.YtahkigabapdleaaDoorCBox
namespace Go.Proofs.YtahkigabapdleaaDoor
open Go.RowKit CP
set_option linter.unusedVariables false
set_option linter.unusedSimpArgs false

/-- Block k is that of the slice that box X holds. -/
def RowAt (X : Nat) (W : World) (k : Nat) : Prop := ∃ a n c, W.cell? ⟨X, 0, none⟩ = some (.slice (some a) n c) ∧ a.block = k
def IsCells (W : World) (k : Nat) : Prop := ∃ cs t fz, W.heap[k]? = some (.cells cs t fz)
theorem IsCells.lt {W : World} {k : Nat} (h : IsCells W k) : k < W.heap.size := by
  obtain ⟨cs, t, fz, h⟩ := h
  exact (Array.getElem?_eq_some_iff.1 h).1
/-- What a round must keep: all cells but box X and the slice's that it holds. -/
def KpR (X : Nat) (W W' : World) : Prop := IsCells W X → IsCells W' X ∧ W.heap.size ≤ W'.heap.size ∧ (∀ k, IsCells W k → k ≠ X → ¬ RowAt X W k → W'.heap[k]? = W.heap[k]?) ∧ ∀ k, RowAt X W' k → RowAt X W k ∨ W.heap.size ≤ k
theorem IsCells.to {W W' : World} {k : Nat} (h : IsCells W k) (e : W'.heap[k]? = W.heap[k]?) : IsCells W' k := by
  obtain ⟨cs, t, fz, h⟩ := h
  exact ⟨cs, t, fz, e.trans h⟩
theorem KpR.trans {X : Nat} {A B C : World} (h : KpR X A B) (k : KpR X B C) : KpR X A C := fun hX => by
  obtain ⟨b1, b2, b3, b4⟩ := h hX
  obtain ⟨c1, c2, c3, c4⟩ := k b1
  refine ⟨c1, by omega, fun i hi hne hr => ?_, fun i hi => ?_⟩
  · have e := b3 i hi hne hr
    refine (c3 i (hi.to e) hne fun h => ?_).trans e
    rcases b4 i h with h | h
    · exact hr h
    · have := hi.lt
      omega
  · rcases c4 i hi with h | h
    · exact b4 i h
    · exact .inr (by omega)
theorem KpR.refl (X : Nat) (W : World) : KpR X W W := fun h => ⟨h, Nat.le_refl _, fun _ _ _ _ => rfl, fun _ h => .inl h⟩
theorem rowAt_of {X k : Nat} {W W' : World} (e : W'.heap[X]? = W.heap[X]?) (h : RowAt X W' k) : RowAt X W k := by
  obtain ⟨a, n, c, h1, h2⟩ := h
  exact ⟨a, n, c, (cell_otherblock (p := ⟨X, 0, none⟩) e).symm.trans h1, h2⟩
theorem KpR.of_below {X : Nat} {A B : World} (h : Below A.heap.size A B) : KpR X A B := fun hX =>
  ⟨hX.to (h.block X hX.lt), h.size, fun k hk _ _ => h.block k hk.lt, fun k hk => .inl (rowAt_of (h.block X hX.lt) hk)⟩
theorem kpR_b {w : World} (X : Nat) (W : World) (l : Nat) (o o' : Obj) (_ : w.heap.size ≤ l) (h : W.heap[l]? = some o) (ho : o.isCells = false) (_ : o.isWalk = false) : KpR X W (W.putObj l o') := fun hX => by
  have hne : ∀ k, IsCells W k → k ≠ l := fun k hk e => by
    subst e
    obtain ⟨cs, t, fz, hc⟩ := hk
    rw [hc] at h
    cases h
    cases ho
  have hk : ∀ k, IsCells W k → (W.putObj l o').heap[k]? = W.heap[k]? := fun k hk => World.putObj_heap_other (hne k hk)
  exact ⟨hX.to (hk X hX), by simp [World.putObj], fun k h _ _ => hk k h, fun k h => .inl (rowAt_of (hk X hX) h)⟩
theorem abides_below' {β : Type} {B : Nat} {J : β → World → Prop} {x : β} {W W' : World} (h : AbidesFrom B J) (hj : J x W) (b : Below W.heap.size W W') : J x W' :=
  h x W W' none hj ⟨b.os, b.tape, b.output, b.size, fun k hk _ => b.block k hk⟩ (fun r e => by cases e)
theorem own_cellsAt {w : World} {base e g n cap : Nat} {xs : List Value} (h : w.ownsRow base e 1 (.slice (some ⟨g, 0, none⟩) n cap) n xs) : IsCells w g := by
  rcases h.2 with ⟨h0, _⟩ | ⟨g', cap', cur, e', _, hb, _⟩
  · cases h0
  · have : g = g' := by injection e' with e1; injection e1 with e1; injection e1
    subst this
    exact ⟨_, _, _, hb⟩
theorem own_kept {w w' : World} {base e g n cap : Nat} {xs : List Value} (h : w.ownsRow base e 1 (.slice (some ⟨g, 0, none⟩) n cap) n xs) (k : w'.heap[g]? = w.heap[g]?) : w'.ownsRow base e 1 (.slice (some ⟨g, 0, none⟩) n cap) n xs := by
  refine ⟨h.1, ?_⟩
  rcases h.2 with ⟨h0, _⟩ | ⟨g', cap', cur, e', h1, hb, h2⟩
  · cases h0
  · have : g = g' := by injection e' with e1; injection e1 with e1; injection e1
    subst this
    exact .inr ⟨g, cap', cur, e', h1, k.trans hb, h2⟩

/-- What an append onto the row that box X holds, and the store there, keeps. -/
theorem kpR_append {X n₀ k g cap : Nat} {t e : TypeId} {v : Value} {xs : List Value} {W w1 : World} {tmp : Obj} (hv : Boxed W X t v) (hrow : W.ownsRow n₀ e 1 v k xs) (hgrow : (W.alloc tmp).grownBy w1 v.ownBlock) (hat : v.ownBlock = some g ∨ g = W.heap.size + 1) (hv2 : Boxed (w1.setCell ⟨X, 0, none⟩ (.slice (some ⟨g, 0, none⟩) (k + 1) cap)) X t (.slice (some ⟨g, 0, none⟩) (k + 1) cap)) :
    KpR X W (w1.setCell ⟨X, 0, none⟩ (.slice (some ⟨g, 0, none⟩) (k + 1) cap)) := fun hX => by
  have hs := hgrow.size
  have hsz : W.heap.size ≤ (w1.setCell ⟨X, 0, none⟩ (.slice (some ⟨g, 0, none⟩) (k + 1) cap)).heap.size := by
    have h2 : (W.alloc tmp).heap.size = W.heap.size + 1 := by simp
    have h3 : (w1.setCell ⟨X, 0, none⟩ (.slice (some ⟨g, 0, none⟩) (k + 1) cap)).heap.size = w1.heap.size := by simp
    omega
  have hrowAt : ∀ j, v.ownBlock = some j → RowAt X W j := fun j hj => by
    rcases hrow.2 with ⟨rfl, _⟩ | ⟨g', c', cur, rfl, _⟩
    · simp [Value.ownBlock] at hj
    · simp [Value.ownBlock] at hj
      subst hj
      exact ⟨_, _, _, hv.cell, rfl⟩
  refine ⟨⟨_, _, _, hv2⟩, hsz, fun j hj hne hr => ?_, fun j hj => ?_⟩
  · have h1 : (w1.setCell ⟨X, 0, none⟩ (.slice (some ⟨g, 0, none⟩) (k + 1) cap)).heap[j]? = w1.heap[j]? := Below.heap_setCell w1 ⟨X, 0, none⟩ _ j hne
    have h2 := hgrow.block j (by simp; have := hj.lt; omega) (fun e => hr (hrowAt j e.symm))
    rw [h1, h2]
    exact Below.heap_alloc W tmp j hj.lt
  · obtain ⟨a, n, c, h1, h2⟩ := hj
    rw [hv2.cell] at h1
    simp only [Option.some.injEq, Value.slice.injEq] at h1
    obtain ⟨h3, _, _⟩ := h1
    subst h3
    subst h2
    rcases hat with h | h
    · exact .inl (hrowAt _ h)
    · exact .inr (by show W.heap.size ≤ g; omega)
/-! A region that draws, in a round: out of the plain law. -/
section
variable {l n : Nat} {P : Program} {ops : Array Oper} {Q : Exit → Act → World → Prop} {md : Region.Mode} {S : World → Prop}
theorem rows_round {row : String} {args : Array Value} {w : World} {R : Value → World → Prop} (h : Rows P row args w R) : RowsIn (Fence.wide.inRound l) n P row args w R :=
  fun c cs _ => let ⟨v, w', r, s⟩ := h c cs; ⟨v, w', r, stepsIn_wide.2 s⟩
theorem calls_round {f : FuncId} {args : Array Value} {w : World} {R : Ending → World → Prop} (h : Calls P f args w R) : CallsIn (Fence.wide.inRound l) n P f args w R := CallsIn.inRound l (callsIn_wide.2 h)
theorem wp_round {o : Oper} {K : Act → World → Prop} {a : Act} {w : World} (hnd : ∀ c, o.op ≠ .defer c) (h : o.wp P a w K Q) : o.wpIn (Fence.wide.inRound l) n P a w K Q := by
  refine ⟨fun f _ => trivial, ?_⟩
  rw [Oper.semAt_eq _ _ _ hnd]
  unfold Oper.wp at h
  generalize (execOp a.eval o).run P w = r at *
  cases r with
  | ok x w' =>
    cases x <;> simp only [Oper.upon, Oper.uponIn] at h ⊢ <;>
      first
        | exact h
        | exact ⟨fun h => (by cases h), calls_round h⟩
        | exact ⟨fun h => (by cases h), rows_round h⟩
  | halt x w' => cases x <;> simp only [Oper.upon, Oper.uponIn] at h ⊢ <;> exact h
theorem wpOp_round {i : Nat} {K : Act → World → Prop} {a : Act} {w : World} (hnd : ∀ o, ops[i]? = some o → ∀ c, o.op ≠ .defer c) (hQ : ¬ LetsOut Q) (h : wpOp P ops Q i K a w) : wpOpIn (Fence.wide.inRound l) n P ops Q i K a w := by
  unfold wpOp at h
  unfold wpOpIn
  cases ho : ops[i]? with
  | none => rw [ho] at h; exact h
  | some o =>
    rw [ho] at h
    simp only at h ⊢
    split
    · rename_i hw
      rw [if_pos hw] at h
      rcases h with h | h
      · exact wp_round (hnd o ho) h
      · exact absurd h.2 hQ
    · rename_i hw
      rw [if_neg hw] at h
      exact ⟨fun f _ => trivial, h⟩
theorem wpAny_round (hnd : ∀ (i : Nat) (o : Oper), ops[i]? = some o → ∀ c, o.op ≠ .defer c) (hQ : ¬ LetsOut Q) : ∀ (fuel : Nat) (listed : Array Bool) (a : Act) (w : World), wpAny P md ops Q fuel listed a w → wpAnyIn (Fence.wide.inRound l) n P md ops Q fuel listed a w
  | 0, _, _, _, h => h
  | fuel + 1, listed, a, w, h => ⟨h.1, fun i hi => wpOpIn_mono (fun a' w' h' => wpAny_round hnd hQ fuel _ a' w' h') (wpOp_round (hnd i) hQ (h.2 i hi))⟩
theorem rows_wideC {row : String} {args : Array Value} {w : World} {R : Value → World → Prop} (h : Rows P row args w R) : RowsIn Fence.wide n P row args w R :=
  fun c cs _ => let ⟨v, w', r, s⟩ := h c cs; ⟨v, w', r, stepsIn_wide.2 s⟩
theorem calls_wideC {f : FuncId} {args : Array Value} {w : World} {R : Ending → World → Prop} (h : Calls P f args w R) : CallsIn Fence.wide n P f args w R := callsIn_wide.2 h
theorem wp_wideC {o : Oper} {K : Act → World → Prop} {a : Act} {w : World} (hnd : ∀ c, o.op ≠ .defer c) (h : o.wp P a w K Q) : o.wpIn Fence.wide n P a w K Q := by
  refine ⟨fun f _ => trivial, ?_⟩
  rw [Oper.semAt_eq _ _ _ hnd]
  unfold Oper.wp at h
  generalize (execOp a.eval o).run P w = r at *
  cases r with
  | ok x w' =>
    cases x <;> simp only [Oper.upon, Oper.uponIn] at h ⊢ <;>
      first
        | exact h
        | exact ⟨fun h => (by cases h), calls_wideC h⟩
        | exact ⟨fun h => (by cases h), rows_wideC h⟩
  | halt x w' => cases x <;> simp only [Oper.upon, Oper.uponIn] at h ⊢ <;> exact h
theorem wpOp_wideC {i : Nat} {K : Act → World → Prop} {a : Act} {w : World} (hnd : ∀ o, ops[i]? = some o → ∀ c, o.op ≠ .defer c) (hQ : ¬ LetsOut Q) (h : wpOp P ops Q i K a w) : wpOpIn Fence.wide n P ops Q i K a w := by
  unfold wpOp at h
  unfold wpOpIn
  cases ho : ops[i]? with
  | none => rw [ho] at h; exact h
  | some o =>
    rw [ho] at h
    simp only at h ⊢
    split
    · rename_i hw
      rw [if_pos hw] at h
      rcases h with h | h
      · exact wp_wideC (hnd o ho) h
      · exact absurd h.2 hQ
    · rename_i hw
      rw [if_neg hw] at h
      exact ⟨fun f _ => trivial, h⟩
theorem wpAny_wideC (hnd : ∀ (i : Nat) (o : Oper), ops[i]? = some o → ∀ c, o.op ≠ .defer c) (hQ : ¬ LetsOut Q) : ∀ (fuel : Nat) (listed : Array Bool) (a : Act) (w : World), wpAny P md ops Q fuel listed a w → wpAnyIn Fence.wide n P md ops Q fuel listed a w
  | 0, _, _, _, h => h
  | fuel + 1, listed, a, w, h => ⟨h.1, fun i hi => wpOpIn_mono (fun a' w' h' => wpAny_wideC hnd hQ fuel _ a' w' h') (wpOp_wideC (hnd i) hQ (h.2 i hi))⟩
def noDefer (ops : Array Oper) : Bool := ops.toList.all fun o => match o.op with | .defer _ => false | _ => true
theorem noDefer_spec (h : noDefer ops = true) : ∀ (i : Nat) (o : Oper), ops[i]? = some o → ∀ c, o.op ≠ .defer c := fun i o ho c e => by
  have h1 : o ∈ ops.toList := by rw [Array.mem_toList_iff]; exact Array.mem_of_getElem? ho
  have h2 := List.all_eq_true.1 h o h1
  rw [e] at h2
  cases h2
theorem wpIn_region_held {id : Nat} {a : Act} {w : World} (hm : P.follows .mixedOrders = true) (hnd : noDefer ops = true) (hQ : ¬ LetsOut Q) (hS : S w.drew)
    (h : S w.drew → wpAnyH P .any ops Q S ops.size (Array.replicate ops.size false) a w.drew) : (Code.region id ops true).wpIn (Fence.wide.inRound l) n P Q a w :=
  wpIn_region_any hm (wpAny_round (noDefer_spec hnd) hQ _ _ _ _ (wpAny_of_held _ _ _ _ (h hS)))
theorem wpIn_region_heldW {id : Nat} {a : Act} {w : World} (hm : P.follows .mixedOrders = true) (hnd : noDefer ops = true) (hQ : ¬ LetsOut Q) (hS : S w.drew)
    (h : S w.drew → wpAnyH P .any ops Q S ops.size (Array.replicate ops.size false) a w.drew) : (Code.region id ops true).wpIn Fence.wide n P Q a w :=
  wpIn_region_any hm (wpAny_wideC (noDefer_spec hnd) hQ _ _ _ _ (wpAny_of_held _ _ _ _ (h hS)))
end
/-- One operation that yields. -/
theorem take_op {P : Program} {ops : Array Oper} {Q : Exit → Act → World → Prop} {md : Region.Mode} {S : World → Prop} {i : Nat} {oi : Oper} {d : Option Tmp} {v : Value} {fuel : Nat} {listed : Array Bool} {a : Act} {w : World} (hi : ops[i]? = some oi) (hd : oi.dst = d)
    (hs : Region.noSelect ops = true) (hf : Region.free md ops listed i = true) (hr : (Region.ready md ops listed).contains i = true)
    (hQ : ∀ c a w, Q (.panic c) (a.put d v) w → Q (.panic c) a w) (hy : YieldsIf P ops S oi v a) (hS : S w)
    (h : wpAnyH P md ops Q S fuel (listed.setIfInBounds i true) (a.put d v) w) : wpAnyH P md ops Q S (fuel + 1) listed a w := by
  subst hd
  exact wpAnyH_take hi hs hf hr hQ hy hS h
end Go.Proofs.YtahkigabapdleaaDoor
