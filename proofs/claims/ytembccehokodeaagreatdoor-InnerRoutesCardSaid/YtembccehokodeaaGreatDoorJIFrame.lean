/-
  What the frames of the laws of layer 11 share: the row's premises with what was laid; how an inner page, a page with a key, and two texts, that came in, are opened.
-/
import Derived.Test.YtembccehokodeaaGreatDoorRows
import Derived.Test.YtembccehokodeaaGreatDoorJHSize
import Derived.Test.YtembccehokodeaaGreatDoorJ02
import Derived.WalkKit
import Derived.ProofKit
import Derived.OpenShut
import Derived.ShutString
import Derived.ChangeOld
import Derived.Below
import Derived.RangeFuncOwn
import Derived.Deep.Slices
import Derived.Shelf.Vars
import Derived.SizedLaws
import Derived.Lib.SmallJoins
import Derived.LaidMore
import Derived.Lay
import Derived.Stop.Joined
namespace Go.Proofs.YtembccehokodeaaGreatDoor
open Go Go.ChangeShapes Go.WideShapes Go.ChangeAt Go.RowKit IP
set_option linter.unusedVariables false

theorem sizes_heap {w w' : World} (h : L7.Sizes w) (e : w'.heap = w.heap) : L7.Sizes w' :=
  ⟨(World.cell?_of_block (by rw [e])).trans h.1, (World.cell?_of_block (by rw [e])).trans h.2.1, (World.cell?_of_block (by rw [e])).trans h.2.2.1, (World.cell?_of_block (by rw [e])).trans h.2.2.2⟩

/-- A law's call, from the row's premises: with what was laid. -/
theorem lift_laid {H : Type} {enc : TypeId × Value → H} {a : Assume} {C : Checked} {os : Os} {f : FuncId} {fn : Func} {s : ChangeSpec} {conds : List PathCond} {X : World → Array Value → Prop}
    (own : ownKnob C.prog.godebug = none) (started : os.Started) (noInit : C.prog.inits.idxOf? f = none) (hfn : C.prog.funcs[f]? = some fn) (hX : ∀ w args, X w args → L7.Sizes w)
    (witness : ∃ (w : World) (tape : Tape) (i : Input), w.os = os ∧ (w.forCall tape i).Shaped C.prog ∧ i.vars = [] ∧ Input.okWide C.prog (w.forCall tape i) .any w.heap.size f i ∧
      ((s.pre enc C.prog fn conds false (w.forCall tape i).memory i.args ∧ X (w.forCall tape i).memory i.args) ∧ sizedMet enc C.prog fn (OpenSpec.ofChange s) false (w.forCall tape i).memory i.args) ∧ a.holds C.prog (lone (Frame.enter C.prog f i.args .normal) [] (w.forCall tape i)))
    (walk : ∀ (W : World) (base : Nat) (args : Array Value) (ds gs : List (DataW H)) (before : List MemPlace),
      (∀ (j : Nat) t v, fn.params[j]? = some t → args[j]? = some v → Value.okWide C.prog W .any base t v) →
      DataW.Whole enc C.prog fn.params.toList s.vars false W args.toList ds gs before → L7.Sizes W →
      Calls C.prog f args W fun e W' => ∃ v, e = .returned v ∧ s.post enc C.prog fn false true false false W args v W') :
    ReturnsInHanded a C os f .any (fun w args => (s.pre enc C.prog fn conds false w args ∧ X w args) ∧ sizedMet enc C.prog fn (OpenSpec.ofChange s) false w args) (s.post enc C.prog fn false true false false) := by
  refine returnsInHanded_of_calls own started noInit witness ?_
  intro w tape i _ hsh _ hok hpre _
  obtain ⟨_, _, _, fn', hfn', _, _, _, _, hval⟩ := hok
  obtain rfl : fn' = fn := Option.some.inj (hfn'.symm.trans hfn)
  obtain ⟨⟨⟨ds, gs, before, hw, _⟩, hx⟩, _⟩ := hpre
  refine (walk (w.forCall tape i) w.heap.size i.args ds gs before hval (DataW.Whole.of_heap (by rfl) hw) (sizes_heap (hX _ _ hx) (by rfl))).mono fun e W' ⟨v, he, hp⟩ => ?_
  subst he
  exact ChangeSpec.post_blind hp

section
variable {P : Program} {H : Type} {enc : TypeId × Value → H} {w : World} {base : Nat} {spare held : _}
theorem trod_struct6 {t : TypeId} {f0 f1 f2 f3 f4 f5 : Field} {fuel : Nat} {cs : List Value} {x : DataW H × List MemPlace} (ht : P.underlying t = some (.struct #[f0, f1, f2, f3, f4, f5])) (h : DataW.trod enc P w 0 (fun _ => true) true fuel t cs = some x) :
    ∃ y0 y1 y2 y3 y4 y5 n, cs.length = P.cellsOf t ∧ DataW.trod enc P w 0 (fun _ => true) true n f0.type ((cs.drop f0.offset).take (P.cellsOf f0.type)) = some y0 ∧
      DataW.trod enc P w 0 (fun _ => true) true n f1.type ((cs.drop f1.offset).take (P.cellsOf f1.type)) = some y1 ∧ DataW.trod enc P w 0 (fun _ => true) true n f2.type ((cs.drop f2.offset).take (P.cellsOf f2.type)) = some y2 ∧
      DataW.trod enc P w 0 (fun _ => true) true n f3.type ((cs.drop f3.offset).take (P.cellsOf f3.type)) = some y3 ∧ DataW.trod enc P w 0 (fun _ => true) true n f4.type ((cs.drop f4.offset).take (P.cellsOf f4.type)) = some y4 ∧ DataW.trod enc P w 0 (fun _ => true) true n f5.type ((cs.drop f5.offset).take (P.cellsOf f5.type)) = some y5 := by
  obtain ⟨xs, n, _, rfl, hl, hlen, hf⟩ := DataW.trod_struct ht h
  match xs, hlen with
  | [y0, y1, y2, y3, y4, y5], _ => exact ⟨y0, y1, y2, y3, y4, y5, n, hl, by simpa using hf 0 f0 rfl, by simpa using hf 1 f1 rfl, by simpa using hf 2 f2 rfl, by simpa using hf 3 f3 rfl, by simpa using hf 4 f4 rfl, by simpa using hf 5 f5 rfl⟩
end
theorem Tryz.cellsInner : Tryz.prog.cellsOf 25 = 6 := by kernel_rfl
theorem Tryz.cellsPage : Tryz.prog.cellsOf 27 = 3 := by kernel_rfl
theorem Tryz.cellsS1 : Tryz.prog.cellsOf 9 = 1 := by kernel_rfl
theorem Tryz.cellsI1 : Tryz.prog.cellsOf 3 = 1 := by kernel_rfl
theorem Tryz.cellsSlN : Tryz.prog.cellsOf 22 = 1 := by kernel_rfl
theorem Tryz.cellsSlS : Tryz.prog.cellsOf 23 = 1 := by kernel_rfl
set_option maxRecDepth 100000 in
theorem open_nums {H : Type} {enc : TypeId × Value → H} {w : World} {v : Value} {fuel : Nat} {x : DataW H × List MemPlace}
    (hf : DataW.trod enc Tryz.prog w 0 (fun _ => true) true fuel 22 [v] = some x) :
    ∃ (a : Option Addr) (l : List Int) (cap : Nat), v = .slice a l.length cap ∧ LiesN w w.heap.size a l ∧ l.length ≤ maxLen ∧ l.length ≤ cap ∧ cap ≤ maxLen := by
  rcases Go.Deep.open_slice Tryz.underlying22 hf with ⟨hcs, _⟩ | ⟨x, len, c, m, n, D, Pl, hcs, _, hl, hm, hmm, hxx, hall⟩
  · simp at hcs
    subst hcs
    exact ⟨none, [], 0, rfl, LiesN.nil _ _ _, by simp, by simp, by simp⟩
  · simp at hcs
    subst hcs
    have hlm : len ≤ m := by rw [hmm]; simpa using hl
    have each : ∀ i, i < len → ∃ c : Int, w.cell? (x.add i) = some (.int .i64 c) ∧ x.block < w.heap.size := by
      intro i hi
      obtain ⟨cs', h1, h2⟩ := hall i (by omega)
      rw [Tryz.cellsI1] at h1
      obtain ⟨_, hlen, hcell⟩ := World.cells?_some h1
      match cs', hlen with
      | [v0], _ =>
        obtain ⟨k, e0, _, _⟩ := DataW.trod_int Tryz.underlying3 h2
        simp at e0
        subst e0
        have h3 := hcell 0 (by simp)
        simp only [Nat.mul_one] at h3
        have h4 : (x.add i).add 0 = x.add i := by cases x; simp [Addr.add]
        rw [h4] at h3
        have h5 : w.cell? (x.add i) = some (.int .i64 k) := by rw [h3]; rfl
        obtain ⟨o, ho, _⟩ := cells_of_cell h5
        rw [L5.addr_block] at ho
        exact ⟨k, h5, (Array.getElem?_eq_some_iff.1 ho).1⟩
    obtain ⟨f, hf⟩ := Go.Deep.choose_lt each
    refine ⟨some x, (List.range len).map f, c, by simp, fun i c hc => ?_, by simpa using Nat.le_trans hl hm, by simpa using hl, by simpa using hm⟩
    have hi : i < len := by have := (List.getElem?_eq_some_iff.1 hc).1; simpa using this
    have e : c = f i := by simp [hi] at hc; exact hc.symm
    subst e
    exact ⟨x, rfl, (hf i hi).2, (hf i hi).1⟩
set_option maxRecDepth 100000 in
theorem open_strs {H : Type} {enc : TypeId × Value → H} {w : World} {v : Value} {fuel : Nat} {x : DataW H × List MemPlace}
    (hf : DataW.trod enc Tryz.prog w 0 (fun _ => true) true fuel 23 [v] = some x) :
    ∃ (a : Option Addr) (l : List ByteArray) (cap : Nat), v = .slice a l.length cap ∧ L5.Lies w w.heap.size a l ∧ (∀ s ∈ l, s.size ≤ maxLen) ∧ l.length ≤ maxLen ∧ l.length ≤ cap := by
  rcases Go.Deep.open_slice Tryz.underlying23 hf with ⟨hcs, _⟩ | ⟨x, len, c, m, n, D, Pl, hcs, _, hl, hm, hmm, hxx, hall⟩
  · simp at hcs
    subst hcs
    exact ⟨none, [], 0, rfl, L5.Lies.nil _ _ _, by simp, by simp, by simp⟩
  · simp at hcs
    subst hcs
    have hlm : len ≤ m := by rw [hmm]; simpa using hl
    have each : ∀ i, i < len → ∃ c : ByteArray, w.cell? (x.add i) = some (.string c) ∧ x.block < w.heap.size ∧ c.size ≤ maxLen := by
      intro i hi
      obtain ⟨cs', h1, h2⟩ := hall i (by omega)
      rw [Tryz.cellsS1] at h1
      obtain ⟨_, hlen, hcell⟩ := World.cells?_some h1
      match cs', hlen with
      | [v0], _ =>
        obtain ⟨k, e0, _, hk⟩ := DataW.trod_string Tryz.underlying9 h2
        simp at e0
        subst e0
        have h3 := hcell 0 (by simp)
        simp only [Nat.mul_one] at h3
        have h4 : (x.add i).add 0 = x.add i := by cases x; simp [Addr.add]
        rw [h4] at h3
        have h5 : w.cell? (x.add i) = some (.string k) := by rw [h3]; rfl
        obtain ⟨o, ho, _⟩ := cells_of_cell h5
        rw [L5.addr_block] at ho
        exact ⟨k, h5, (Array.getElem?_eq_some_iff.1 ho).1, hk⟩
    have : Inhabited ByteArray := ⟨⟨#[]⟩⟩
    obtain ⟨f, hf⟩ := Go.Deep.choose_lt each
    refine ⟨some x, (List.range len).map f, c, by simp, fun i c hc => ?_, fun c hc => ?_, by simpa using Nat.le_trans hl hm, by simpa using hl⟩
    · have hi : i < len := by have := (List.getElem?_eq_some_iff.1 hc).1; simpa using this
      have e : c = f i := by simp [hi] at hc; exact hc.symm
      subst e
      exact ⟨x, rfl, (hf i hi).2.1, (hf i hi).1⟩
    · obtain ⟨i, hi, rfl⟩ := List.mem_map.1 hc
      exact (hf i (List.mem_range.1 hi)).2.2
set_option maxRecDepth 100000 in
theorem open_inner {H : Type} {enc : TypeId × Value → H} {w : World} {r : Reach} {b0 : Nat} {v : Value} {d : DataW H} {p : List MemPlace}
    (hv0 : Value.okWide Tryz.prog w r b0 25 v) (h : DataW.Trod enc Tryz.prog w 0 (fun _ => true) true 25 v d p) :
    ∃ (F L R : Int) (H : ByteArray) (A : Option Addr) (n ca : Nat) (C : Option Addr) (m cb : Nat) (ks : List Int) (ss : List ByteArray), v = nv F L R H A n ca C m cb ∧ Rows2 w A n ca C m cb ks ss ∧ n ≤ maxLen ∧ ca ≤ maxLen ∧ m ≤ maxLen ∧ H.size ≤ maxLen ∧ (∀ s ∈ ss, s.size ≤ maxLen) := by
  obtain ⟨cs, rfl, hsz⟩ := okWide_struct Tryz.underlying25 hv0
  rw [Tryz.cellsInner] at hsz
  obtain ⟨v0, v1, v2, v3, v4, v5, rfl⟩ : ∃ v0 v1 v2 v3 v4 v5, cs = #[v0, v1, v2, v3, v4, v5] := by
    match cs, hsz with
    | ⟨[v0, v1, v2, v3, v4, v5]⟩, _ => exact ⟨v0, v1, v2, v3, v4, v5, rfl⟩
  obtain ⟨fuel, hf⟩ := h
  obtain ⟨y0, y1, y2, y3, y4, y5, n, _, h0, h1, h2, h3, h4, h5⟩ := trod_struct6 Tryz.underlying25 hf
  simp only [Tryz.cellsI1, Tryz.cellsS1, Tryz.cellsSlN, Tryz.cellsSlS] at h0 h1 h2 h3 h4 h5
  obtain ⟨F, e0, _, _⟩ := DataW.trod_int Tryz.underlying3 h0
  obtain ⟨L, e1, _, _⟩ := DataW.trod_int Tryz.underlying3 h1
  obtain ⟨R, e2, _, _⟩ := DataW.trod_int Tryz.underlying3 h2
  obtain ⟨HH, e3, _, k3⟩ := DataW.trod_string Tryz.underlying9 h3
  simp [Value.cells] at e0 e1 e2 e3 h4 h5
  obtain ⟨a, l, cap, e4, g1, g2, g3, g4⟩ := open_nums h4
  obtain ⟨c, q, cp, e5, i1, i2, i3, i4⟩ := open_strs h5
  subst e0 e1 e2 e3 e4 e5
  exact ⟨F, L, R, HH, a, l.length, cap, c, q.length, cp, l, q, rfl, ⟨g1, i1, rfl, rfl, g3, i4⟩, g2, g4, i3, k3, i2⟩
set_option maxRecDepth 100000 in
theorem open_page {H : Type} {enc : TypeId × Value → H} {w : World} {r : Reach} {b0 : Nat} {v : Value} {d : DataW H} {p : List MemPlace}
    (hv0 : Value.okWide Tryz.prog w r b0 27 v) (h : DataW.Trod enc Tryz.prog w 0 (fun _ => true) true 27 v d p) :
    ∃ (s k : ByteArray) (i : Int), v = .agg #[.string s, .string k, .int .i64 i] ∧ s.size ≤ maxLen ∧ k.size ≤ maxLen ∧ (Lit.int .i64 i).wf = true := by
  obtain ⟨cs, rfl, hsz⟩ := okWide_struct Tryz.underlying27 hv0
  rw [Tryz.cellsPage] at hsz
  obtain ⟨v0, v1, v2, rfl⟩ := Go.Joins.array3 hsz
  obtain ⟨fuel, hf⟩ := h
  obtain ⟨y0, y1, y2, n, _, _, h0, h1, h2⟩ := Go.Deep.trod_struct3 Tryz.underlying27 hf
  simp only [Tryz.cellsI1, Tryz.cellsS1] at h0 h1 h2
  obtain ⟨S, e0, _, k0⟩ := DataW.trod_string Tryz.underlying9 h0
  obtain ⟨K, e1, _, k1⟩ := DataW.trod_string Tryz.underlying9 h1
  obtain ⟨I, e2, _, k2⟩ := DataW.trod_int Tryz.underlying3 h2
  simp [Value.cells] at e0 e1 e2
  subst e0 e1 e2
  exact ⟨S, K, I, rfl, k0, k1, k2⟩
end Go.Proofs.YtembccehokodeaaGreatDoor
