/-
  What the frames of the laws of layer 6 share: the row's premises with what was laid; how slices of writes, of numbers and of choices that came in are opened.
-/
import Derived.Test.YtaeiifmdbdhoeaaDoorFrame
import Derived.Test.YtaeiifmdbdhoeaaDoorGCrash
import Derived.Test.YtaeiifmdbdhoeaaDoorGNew
import Derived.RangeFuncOwn
import Derived.Deep.Slices
import Derived.Shelf.Vars
import Derived.SizedLaws
import Derived.Lib.SmallJoins
import Derived.LaidMore
import Derived.Lay
import Derived.Stop.Joined
namespace Go.Proofs.YtaeiifmdbdhoeaaDoor
open Go Go.ChangeShapes Go.WideShapes Go.ChangeAt Go.RowKit
open DP (C)
set_option linter.unusedVariables false

theorem Sizes.of_heap {w w' : World} (h : Sizes w) (e : w'.heap = w.heap) : Sizes w' :=
  ⟨(World.cell?_of_block (by rw [e])).trans h.1, (World.cell?_of_block (by rw [e])).trans h.2.1, (World.cell?_of_block (by rw [e])).trans h.2.2.1, (World.cell?_of_block (by rw [e])).trans h.2.2.2⟩

/-- A law's call, from the row's premises: with what was laid. -/
theorem lift_laid {H : Type} {enc : TypeId × Value → H} {a : Assume} {C : Checked} {os : Os} {f : FuncId} {fn : Func} {s : ChangeSpec} {conds : List PathCond} {X : World → Array Value → Prop}
    (own : ownKnob C.prog.godebug = none) (started : os.Started) (noInit : C.prog.inits.idxOf? f = none) (hfn : C.prog.funcs[f]? = some fn) (hX : ∀ w args, X w args → Sizes w)
    (witness : ∃ (w : World) (tape : Tape) (i : Input), w.os = os ∧ (w.forCall tape i).Shaped C.prog ∧ i.vars = [] ∧ Input.okWide C.prog (w.forCall tape i) .any w.heap.size f i ∧
      ((s.pre enc C.prog fn conds false (w.forCall tape i).memory i.args ∧ X (w.forCall tape i).memory i.args) ∧ sizedMet enc C.prog fn (OpenSpec.ofChange s) false (w.forCall tape i).memory i.args) ∧ a.holds C.prog (lone (Frame.enter C.prog f i.args .normal) [] (w.forCall tape i)))
    (walk : ∀ (W : World) (base : Nat) (args : Array Value) (ds gs : List (DataW H)) (before : List MemPlace),
      (∀ (j : Nat) t v, fn.params[j]? = some t → args[j]? = some v → Value.okWide C.prog W .any base t v) →
      DataW.Whole enc C.prog fn.params.toList s.vars false W args.toList ds gs before → Sizes W →
      Calls C.prog f args W fun e W' => ∃ v, e = .returned v ∧ s.post enc C.prog fn false true false false W args v W') :
    ReturnsInHanded a C os f .any (fun w args => (s.pre enc C.prog fn conds false w args ∧ X w args) ∧ sizedMet enc C.prog fn (OpenSpec.ofChange s) false w args) (s.post enc C.prog fn false true false false) := by
  refine returnsInHanded_of_calls own started noInit witness ?_
  intro w tape i _ hsh _ hok hpre _
  obtain ⟨_, _, _, fn', hfn', _, _, _, _, hval⟩ := hok
  obtain rfl : fn' = fn := Option.some.inj (hfn'.symm.trans hfn)
  obtain ⟨⟨⟨ds, gs, before, hw, _⟩, hx⟩, _⟩ := hpre
  refine (walk (w.forCall tape i) w.heap.size i.args ds gs before hval (DataW.Whole.of_heap (by rfl) hw) ((hX _ _ hx).of_heap (by rfl))).mono fun e W' ⟨v, he, hp⟩ => ?_
  subst he
  exact ChangeSpec.post_blind hp

/-- Behind an address below b stand these writes: a page, and its byte. -/
def LiesR (w : World) (b : Nat) (A : Option Addr) (l : List (UInt8 × UInt8)) : Prop :=
  ∀ k x, l[k]? = some x → ∃ a, A = some a ∧ a.block < b ∧ w.cell? (a.add (k * 2)) = some (.int .u8 x.1.toNat) ∧ w.cell? ⟨(a.add (k * 2)).block, (a.add (k * 2)).off + 1, none⟩ = some (.int .u8 x.2.toNat)
theorem LiesR.below {w w' : World} {b : Nat} {A : Option Addr} {l : List (UInt8 × UInt8)} (h : LiesR w b A l) (k : Below b w w') : LiesR w' b A l := fun i x hx => by
  obtain ⟨a, e, hb, h0, h1⟩ := h i x hx
  exact ⟨a, e, hb, (k.cell (by rw [addr_block]; exact hb)).trans h0, (k.cell (by show (a.add (i * 2)).block < _; rw [addr_block]; exact hb)).trans h1⟩
/-- Behind an address below b stand these numbers. -/
def LiesN (w : World) (b : Nat) (A : Option Addr) (l : List Int) : Prop :=
  ∀ k x, l[k]? = some x → ∃ a, A = some a ∧ a.block < b ∧ w.cell? (a.add k) = some (.int .i64 x) ∧ (Lit.int .i64 x).wf = true
theorem LiesN.below {w w' : World} {b : Nat} {A : Option Addr} {l : List Int} (h : LiesN w b A l) (k : Below b w w') : LiesN w' b A l := fun i x hx => by
  obtain ⟨a, e, hb, h0, h1⟩ := h i x hx
  exact ⟨a, e, hb, (k.cell (by rw [addr_block]; exact hb)).trans h0, h1⟩

theorem lt_of_heap {W : World} {k : Nat} {o : Obj} (h : W.heap[k]? = some o) : k < W.heap.size := (Array.getElem?_eq_some_iff.1 h).1
theorem Tryd.cellsWrote : Tryd.prog.cellsOf 49 = 2 := by kernel_rfl
theorem Tryd.cellsChoice : Tryd.prog.cellsOf 54 = 2 := by kernel_rfl
theorem Tryd.cellsU8 : Tryd.prog.cellsOf 5 = 1 := by kernel_rfl
theorem Tryd.cellsInt : Tryd.prog.cellsOf 3 = 1 := by kernel_rfl
theorem byte_of (K : Int) (h : 0 ≤ K ∧ K ≤ 255) : ∃ c : UInt8, K = c.toNat := by
  obtain ⟨k, rfl⟩ := Int.eq_ofNat_of_zero_le h.1
  refine ⟨UInt8.ofNat k, ?_⟩
  have : (UInt8.ofNat k).toNat = k := by simp; omega
  rw [this]
set_option maxRecDepth 100000 in
theorem wrote_cells {H : Type} {enc : TypeId × Value → H} {w : World} {n : Nat} {cs : List Value} {x : DataW H × List MemPlace}
    (h : DataW.trod enc Tryd.prog w 0 (fun _ => true) true n 49 cs = some x) (hl : cs.length = 2) :
    ∃ c : UInt8 × UInt8, cs = [.int .u8 c.1.toNat, .int .u8 c.2.toNat] := by
  match cs, hl with
  | [v0, v1], _ =>
    obtain ⟨y0, y1, n, _, _, h0, h1⟩ := trod_struct2 Tryd.underlying49 h
    simp only [Tryd.cellsU8] at h0 h1
    obtain ⟨K, e0, _, k0⟩ := DataW.trod_int Tryd.underlying5 h0
    obtain ⟨I, e1, _, k1⟩ := DataW.trod_int Tryd.underlying5 h1
    simp at e0 e1
    subst e0 e1
    obtain ⟨c0, rfl⟩ := byte_of K (by have := bounds_u8 k0; omega)
    obtain ⟨c1, rfl⟩ := byte_of I (by have := bounds_u8 k1; omega)
    exact ⟨(c0, c1), rfl⟩
set_option maxRecDepth 100000 in
theorem choice_cells {H : Type} {enc : TypeId × Value → H} {w : World} {n : Nat} {cs : List Value} {x : DataW H × List MemPlace}
    (h : DataW.trod enc Tryd.prog w 0 (fun _ => true) true n 54 cs = some x) (hl : cs.length = 2) :
    ∃ c : C, cs = [.int .i64 c.k, .int .i64 c.at_] ∧ (Lit.int .i64 c.k).wf = true ∧ (-9223372036854775808 ≤ c.at_ ∧ c.at_ ≤ 9223372036854775807) := by
  match cs, hl with
  | [v0, v1], _ =>
    obtain ⟨y0, y1, n, _, _, h0, h1⟩ := trod_struct2 Tryd.underlying54 h
    simp only [Tryd.cellsInt] at h0 h1
    obtain ⟨K, e0, _, k0⟩ := DataW.trod_int Tryd.underlying3 h0
    obtain ⟨I, e1, _, k1⟩ := DataW.trod_int Tryd.underlying3 h1
    simp at e0 e1
    subst e0 e1
    exact ⟨⟨K, I⟩, rfl, k0, by have := bounds_i64 k1; omega⟩

theorem open_wrotes {H : Type} {enc : TypeId × Value → H} {w : World} {a : Option Addr} {len cap : Nat} {d : DataW H} {p : List MemPlace}
    (h : DataW.Trod enc Tryd.prog w 0 (fun _ => true) true 46 (.slice a len cap) d p) :
    ∃ l : List (UInt8 × UInt8), len = l.length ∧ LiesR w w.heap.size a l ∧ l.length ≤ maxLen := by
  obtain ⟨fuel, hf⟩ := h
  rcases Go.Deep.open_slice Tryd.underlying46 hf with ⟨hcs, _⟩ | ⟨x, l, c, m, n, D, Pl, hcs, _, hl, hm, hmm, hxx, hall⟩
  · simp [Value.cells] at hcs
    obtain ⟨rfl, rfl, rfl⟩ := hcs
    exact ⟨[], rfl, fun k x h => by simp at h, by simp⟩
  · simp [Value.cells] at hcs
    obtain ⟨rfl, rfl, rfl⟩ := hcs
    have hlm : len ≤ m := by rw [hmm]; simpa using hl
    have each : ∀ i, i < len → ∃ c : UInt8 × UInt8, w.cells? 0 (x.add (i * 2)) 2 = some [.int .u8 c.1.toNat, .int .u8 c.2.toNat] := by
      intro i hi
      obtain ⟨cs', h1, h2⟩ := hall i (by omega)
      rw [Tryd.cellsWrote] at h1
      obtain ⟨_, hlen, _⟩ := World.cells?_some h1
      obtain ⟨c, rfl⟩ := wrote_cells h2 hlen
      exact ⟨c, h1⟩
    obtain ⟨f, hf⟩ := Go.Deep.choose_lt each
    refine ⟨(List.range len).map f, by simp, fun i c hc => ?_, by simpa using Nat.le_trans hl hm⟩
    have hi : i < len := by have := (List.getElem?_eq_some_iff.1 hc).1; simpa using this
    have e : c = f i := by simp [hi] at hc; exact hc.symm
    subst e
    obtain ⟨_, _, hcell⟩ := World.cells?_some (hf i hi)
    have h0 := hcell 0 (by simp)
    have h1 := hcell 1 (by simp)
    rw [addr_zero] at h0
    rw [addr_pos] at h1
    obtain ⟨o, ho, _⟩ := cells_of_cell (h0.trans rfl)
    rw [addr_block] at ho
    exact ⟨x, rfl, lt_of_heap ho, h0.trans rfl, h1.trans rfl⟩
theorem open_choices {H : Type} {enc : TypeId × Value → H} {w : World} {a : Option Addr} {len cap : Nat} {d : DataW H} {p : List MemPlace}
    (h : DataW.Trod enc Tryd.prog w 0 (fun _ => true) true 35 (.slice a len cap) d p) :
    ∃ l : List C, len = l.length ∧ LiesG w a l ∧ (∀ c ∈ l, (Lit.int .i64 c.k).wf = true) ∧ l.length ≤ maxLen := by
  obtain ⟨fuel, hf⟩ := h
  rcases Go.Deep.open_slice Tryd.underlying35 hf with ⟨hcs, _⟩ | ⟨x, l, c, m, n, D, Pl, hcs, _, hl, hm, hmm, hxx, hall⟩
  · simp [Value.cells] at hcs
    obtain ⟨rfl, rfl, rfl⟩ := hcs
    exact ⟨[], rfl, fun k x h => by simp at h, fun c h => by simp at h, by simp⟩
  · simp [Value.cells] at hcs
    obtain ⟨rfl, rfl, rfl⟩ := hcs
    have hlm : len ≤ m := by rw [hmm]; simpa using hl
    have each : ∀ i, i < len → ∃ c : C, w.cells? 0 (x.add (i * 2)) 2 = some [.int .i64 c.k, .int .i64 c.at_] ∧ (Lit.int .i64 c.k).wf = true ∧ (-9223372036854775808 ≤ c.at_ ∧ c.at_ ≤ 9223372036854775807) := by
      intro i hi
      obtain ⟨cs', h1, h2⟩ := hall i (by omega)
      rw [Tryd.cellsChoice] at h1
      obtain ⟨_, hlen, _⟩ := World.cells?_some h1
      obtain ⟨c, rfl, hc⟩ := choice_cells h2 hlen
      exact ⟨c, h1, hc⟩
    have : Inhabited C := ⟨⟨0, 0⟩⟩
    obtain ⟨f, hf⟩ := Go.Deep.choose_lt each
    refine ⟨(List.range len).map f, by simp, fun i c hc => ?_, fun c hc => ?_, by simpa using Nat.le_trans hl hm⟩
    · have hi : i < len := by have := (List.getElem?_eq_some_iff.1 hc).1; simpa using this
      have e : c = f i := by simp [hi] at hc; exact hc.symm
      subst e
      obtain ⟨_, _, hcell⟩ := World.cells?_some (hf i hi).1
      have h0 := hcell 0 (by simp)
      have h1 := hcell 1 (by simp)
      rw [addr_zero] at h0
      rw [addr_pos] at h1
      obtain ⟨o, ho, _⟩ := cells_of_cell (h0.trans rfl)
      rw [addr_block] at ho
      exact ⟨x, rfl, lt_of_heap ho, h0.trans rfl, h1.trans rfl, (hf i hi).2.2⟩
    · obtain ⟨i, hi, rfl⟩ := List.mem_map.1 hc
      exact (hf i (List.mem_range.1 hi)).2.1
theorem open_nums {H : Type} {enc : TypeId × Value → H} {w : World} {a : Option Addr} {len cap : Nat} {d : DataW H} {p : List MemPlace}
    (h : DataW.Trod enc Tryd.prog w 0 (fun _ => true) true 63 (.slice a len cap) d p) :
    ∃ l : List Int, len = l.length ∧ LiesN w w.heap.size a l ∧ l.length ≤ maxLen := by
  obtain ⟨zs, hz⟩ := isRow_of .i64 Tryd.underlying63 Tryd.underlying3 (by kernel_rfl) h
  rcases hz with ⟨rfl, rfl, rfl, rfl⟩ | ⟨x, rfl, h1, h2, h3, h4, h5⟩
  · exact ⟨[], rfl, fun k x h => by simp at h, by simp⟩
  · refine ⟨zs.take len, by simp; omega, fun i n hn => ?_, by simp; omega⟩
    have hi : i < len := by have := (List.getElem?_eq_some_iff.1 hn).1; simp at this; omega
    rw [List.getElem?_take, if_pos hi] at hn
    have h6 := h4 i (by omega)
    have e : zs.getD i 0 = n := by rw [List.getD_eq_getElem?_getD, hn]; rfl
    rw [e] at h6
    obtain ⟨o, ho, _⟩ := cells_of_cell h6
    rw [addr_block] at ho
    exact ⟨x, rfl, lt_of_heap ho, h6, h5 n (List.mem_of_getElem? hn)⟩
end Go.Proofs.YtaeiifmdbdhoeaaDoor
