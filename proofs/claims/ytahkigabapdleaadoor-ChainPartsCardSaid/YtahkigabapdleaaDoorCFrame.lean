/-
  What the frames of the laws of layer 11 share: the row's premises with what was laid; how an inner page, a page with a key, and two texts, that came in, are opened.
-/
import Derived.Test.YtahkigabapdleaaDoorRows
import Derived.Test.YtahkigabapdleaaDoorHSize
import Derived.WalkKit
import Derived.ProofKit
import Derived.OpenShut
import Derived.ShutString
import Derived.ChangeOld
import Derived.Below
import Derived.RangeFuncOwn
import Derived.Deep.Slices
import Derived.Shelf.Vars
import Derived.SizedLaws
import Derived.Lib.SmallJoins
import Derived.LaidMore
import Derived.Lay
import Derived.Stop.Joined
namespace Go.Proofs.YtahkigabapdleaaDoor
open Go Go.ChangeShapes Go.WideShapes Go.ChangeAt Go.RowKit
set_option linter.unusedVariables false

theorem sizes_heap {w w' : World} (h : L7.Sizes w) (e : w'.heap = w.heap) : L7.Sizes w' :=
  ⟨(World.cell?_of_block (by rw [e])).trans h.1, (World.cell?_of_block (by rw [e])).trans h.2.1, (World.cell?_of_block (by rw [e])).trans h.2.2.1, (World.cell?_of_block (by rw [e])).trans h.2.2.2⟩

/-- A law's call, from the row's premises: with what was laid. -/
theorem lift_laid {H : Type} {enc : TypeId × Value → H} {a : Assume} {C : Checked} {os : Os} {f : FuncId} {fn : Func} {s : ChangeSpec} {conds : List PathCond} {X : World → Array Value → Prop}
    (own : ownKnob C.prog.godebug = none) (started : os.Started) (noInit : C.prog.inits.idxOf? f = none) (hfn : C.prog.funcs[f]? = some fn) (hX : ∀ w args, X w args → L7.Sizes w)
    (witness : ∃ (w : World) (tape : Tape) (i : Input), w.os = os ∧ (w.forCall tape i).Shaped C.prog ∧ i.vars = [] ∧ Input.okWide C.prog (w.forCall tape i) .any w.heap.size f i ∧
      ((s.pre enc C.prog fn conds false (w.forCall tape i).memory i.args ∧ X (w.forCall tape i).memory i.args) ∧ sizedMet enc C.prog fn (OpenSpec.ofChange s) false (w.forCall tape i).memory i.args) ∧ a.holds C.prog (lone (Frame.enter C.prog f i.args .normal) [] (w.forCall tape i)))
    (walk : ∀ (W : World) (base : Nat) (args : Array Value) (ds gs : List (DataW H)) (before : List MemPlace),
      (∀ (j : Nat) t v, fn.params[j]? = some t → args[j]? = some v → Value.okWide C.prog W .any base t v) →
      DataW.Whole enc C.prog fn.params.toList s.vars false W args.toList ds gs before → L7.Sizes W →
      Calls C.prog f args W fun e W' => ∃ v, e = .returned v ∧ s.post enc C.prog fn false true false false W args v W') :
    ReturnsInHanded a C os f .any (fun w args => (s.pre enc C.prog fn conds false w args ∧ X w args) ∧ sizedMet enc C.prog fn (OpenSpec.ofChange s) false w args) (s.post enc C.prog fn false true false false) := by
  refine returnsInHanded_of_calls own started noInit witness ?_
  intro w tape i _ hsh _ hok hpre _
  obtain ⟨_, _, _, fn', hfn', _, _, _, _, hval⟩ := hok
  obtain rfl : fn' = fn := Option.some.inj (hfn'.symm.trans hfn)
  obtain ⟨⟨⟨ds, gs, before, hw, _⟩, hx⟩, _⟩ := hpre
  refine (walk (w.forCall tape i) w.heap.size i.args ds gs before hval (DataW.Whole.of_heap (by rfl) hw) (sizes_heap (hX _ _ hx) (by rfl))).mono fun e W' ⟨v, he, hp⟩ => ?_
  subst he
  exact ChangeSpec.post_blind hp

theorem Tryd.cellsChain : Tryd.prog.cellsOf 23 = 3 := by kernel_rfl
theorem Tryd.cellsS1 : Tryd.prog.cellsOf 9 = 1 := by kernel_rfl
theorem Tryd.cellsI1 : Tryd.prog.cellsOf 3 = 1 := by kernel_rfl
set_option maxRecDepth 100000 in
theorem open_chain {H : Type} {enc : TypeId × Value → H} {w : World} {r : Reach} {b0 : Nat} {v : Value} {d : DataW H} {p : List MemPlace}
    (hv0 : Value.okWide Tryd.prog w r b0 23 v) (h : DataW.Trod enc Tryd.prog w 0 (fun _ => true) true 23 v d p) :
    ∃ (F N : Int) (D : ByteArray), v = .agg #[.int .i64 F, .int .i64 N, .string D] ∧ (Lit.int .i64 F).wf = true ∧ (Lit.int .i64 N).wf = true ∧ D.size ≤ maxLen := by
  obtain ⟨cs, rfl, hsz⟩ := okWide_struct Tryd.underlying23 hv0
  rw [Tryd.cellsChain] at hsz
  obtain ⟨v0, v1, v2, rfl⟩ := Go.Joins.array3 hsz
  obtain ⟨fuel, hf⟩ := h
  obtain ⟨y0, y1, y2, n, _, _, h0, h1, h2⟩ := Go.Deep.trod_struct3 Tryd.underlying23 hf
  simp only [Tryd.cellsI1, Tryd.cellsS1] at h0 h1 h2
  obtain ⟨F, e0, _, k0⟩ := DataW.trod_int Tryd.underlying3 h0
  obtain ⟨N, e1, _, k1⟩ := DataW.trod_int Tryd.underlying3 h1
  obtain ⟨D, e2, _, k2⟩ := DataW.trod_string Tryd.underlying9 h2
  simp [Value.cells] at e0 e1 e2
  subst e0 e1 e2
  exact ⟨F, N, D, rfl, k0, k1, k2⟩
end Go.Proofs.YtahkigabapdleaaDoor
