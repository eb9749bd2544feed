/-
  How a life of calls that came in is opened.
-/
import Derived.Test.YtaeiifmdbdhoeaaDoorFrameD
namespace Go.Proofs.YtaeiifmdbdhoeaaDoor
open Go Go.ChangeShapes Go.WideShapes Go.ChangeAt Go.RowKit
open DP (C)
set_option linter.unusedVariables false

/-- A call, as the law has it. -/
structure Op1 where
  k : Int
  i : Int
  x : UInt8
  odd : Bool
  A : Option Addr
  cs : List C
  ca : Nat
def Op1.val (o : Op1) : Value := .agg #[.int .i64 o.k, .int .i64 o.i, .int .u8 o.x.toNat, .bool o.odd, .slice o.A o.cs.length o.ca]
def Op1.five (o : Op1) : List Value := [.int .i64 o.k, .int .i64 o.i, .int .u8 o.x.toNat, .bool o.odd, .slice o.A o.cs.length o.ca]
structure Op1.Ok (w : World) (o : Op1) : Prop where
  lies : LiesG w o.A o.cs
  room : o.cs.length ≤ o.ca
  none_ : o.A = none → o.cs = [] ∧ o.ca = 0
  few : o.ca ≤ maxLen
  wk : (Lit.int .i64 o.k).wf = true
  wi : (Lit.int .i64 o.i).wf = true
/-- Behind an address below b stand these calls. -/
def LiesO (w : World) (b : Nat) (A : Option Addr) (l : List Op1) : Prop :=
  ∀ k o, l[k]? = some o → ∃ a, A = some a ∧ a.block < b ∧ (∀ j v, o.five[j]? = some v → w.cell? ((a.add (k * 5)).add j) = some v) ∧ o.Ok w
section
variable {P : Program} {H : Type} {enc : TypeId × Value → H} {w : World} {base : Nat} {spare held : _}
theorem trod_struct5 {t : TypeId} {f0 f1 f2 f3 f4 : Field} {fuel : Nat} {cs : List Value} {x : DataW H × List MemPlace} (ht : P.underlying t = some (.struct #[f0, f1, f2, f3, f4])) (h : DataW.trod enc P w 0 (fun _ => true) true fuel t cs = some x) :
    ∃ y0 y1 y2 y3 y4 n, cs.length = P.cellsOf t ∧ DataW.trod enc P w 0 (fun _ => true) true n f0.type ((cs.drop f0.offset).take (P.cellsOf f0.type)) = some y0 ∧
      DataW.trod enc P w 0 (fun _ => true) true n f1.type ((cs.drop f1.offset).take (P.cellsOf f1.type)) = some y1 ∧ DataW.trod enc P w 0 (fun _ => true) true n f2.type ((cs.drop f2.offset).take (P.cellsOf f2.type)) = some y2 ∧
      DataW.trod enc P w 0 (fun _ => true) true n f3.type ((cs.drop f3.offset).take (P.cellsOf f3.type)) = some y3 ∧ DataW.trod enc P w 0 (fun _ => true) true n f4.type ((cs.drop f4.offset).take (P.cellsOf f4.type)) = some y4 := by
  obtain ⟨xs, n, _, rfl, hl, hlen, hf⟩ := DataW.trod_struct ht h
  match xs, hlen with
  | [y0, y1, y2, y3, y4], _ => exact ⟨y0, y1, y2, y3, y4, n, hl, by simpa using hf 0 f0 rfl, by simpa using hf 1 f1 rfl, by simpa using hf 2 f2 rfl, by simpa using hf 3 f3 rfl, by simpa using hf 4 f4 rfl⟩
end
theorem Tryd.cellsOp : Tryd.prog.cellsOf 37 = 5 := by kernel_rfl
theorem Tryd.cellsBool : Tryd.prog.cellsOf 4 = 1 := by kernel_rfl
theorem Tryd.cellsChs : Tryd.prog.cellsOf 35 = 1 := by kernel_rfl
theorem Tryd.cellsStr1 : Tryd.prog.cellsOf 9 = 1 := by kernel_rfl
theorem Tryd.cellsOps : Tryd.prog.cellsOf 22 = 1 := by kernel_rfl
theorem Tryd.cellsLife : Tryd.prog.cellsOf 24 = 2 := by kernel_rfl
theorem choices_of {H : Type} {enc : TypeId × Value → H} {w : World} {fuel : Nat} {cs' : List Value} {x0 : DataW H × List MemPlace}
    (hf : DataW.trod enc Tryd.prog w 0 (fun _ => true) true fuel 35 cs' = some x0) :
    ∃ (A : Option Addr) (l : List C) (ca : Nat), cs' = [.slice A l.length ca] ∧ LiesG w A l ∧ l.length ≤ ca ∧ (A = none → l = [] ∧ ca = 0) ∧ ca ≤ maxLen := by
  rcases Go.Deep.open_slice Tryd.underlying35 hf with ⟨rfl, _⟩ | ⟨x, l, c, m, n, D, Pl, rfl, _, hl, hm, hmm, hxx, hall⟩
  · exact ⟨none, [], 0, rfl, fun k x h => by simp at h, Nat.le_refl _, fun _ => ⟨rfl, rfl⟩, Nat.zero_le _⟩
  · have hlm : l ≤ m := by rw [hmm]; simpa using hl
    have each : ∀ i, i < l → ∃ c : C, w.cells? 0 (x.add (i * 2)) 2 = some [.int .i64 c.k, .int .i64 c.at_] ∧ (-9223372036854775808 ≤ c.at_ ∧ c.at_ ≤ 9223372036854775807) := by
      intro i hi
      obtain ⟨cs', h1, h2⟩ := hall i (by omega)
      rw [Tryd.cellsChoice] at h1
      obtain ⟨_, hlen, _⟩ := World.cells?_some h1
      obtain ⟨c, rfl, hc⟩ := choice_cells h2 hlen
      exact ⟨c, h1, hc.2⟩
    have : Inhabited C := ⟨⟨0, 0⟩⟩
    obtain ⟨f, hf⟩ := Go.Deep.choose_lt each
    refine ⟨some x, (List.range l).map f, c, by simp, fun i c' hc => ?_, by simpa using hl, fun e => by (cases e), hm⟩
    have hi : i < l := by have := (List.getElem?_eq_some_iff.1 hc).1; simpa using this
    have e : c' = f i := by simp [hi] at hc; exact hc.symm
    subst e
    obtain ⟨_, _, hcell⟩ := World.cells?_some (hf i hi).1
    have h0 := hcell 0 (by simp)
    have h1 := hcell 1 (by simp)
    rw [addr_zero] at h0
    rw [addr_pos] at h1
    obtain ⟨o, ho, _⟩ := cells_of_cell (h0.trans rfl)
    rw [addr_block] at ho
    exact ⟨x, rfl, lt_of_heap ho, h0.trans rfl, h1.trans rfl, (hf i hi).2⟩
set_option maxRecDepth 100000 in
theorem op_open {H : Type} {enc : TypeId × Value → H} {w : World} {n : Nat} {cs : List Value} {x : DataW H × List MemPlace}
    (h : DataW.trod enc Tryd.prog w 0 (fun _ => true) true n 37 cs = some x) (hl : cs.length = 5) :
    ∃ o : Op1, cs = o.five ∧ o.Ok w := by
  match cs, hl with
  | [v0, v1, v2, v3, v4], _ =>
    obtain ⟨y0, y1, y2, y3, y4, n, _, h0, h1, h2, h3, h4⟩ := trod_struct5 Tryd.underlying37 h
    simp only [Tryd.cellsInt, Tryd.cellsU8, Tryd.cellsBool, Tryd.cellsChs] at h0 h1 h2 h3 h4
    obtain ⟨K, e0, _, k0⟩ := DataW.trod_int Tryd.underlying3 h0
    obtain ⟨I, e1, _, k1⟩ := DataW.trod_int Tryd.underlying3 h1
    obtain ⟨X, e2, _, k2⟩ := DataW.trod_int Tryd.underlying5 h2
    obtain ⟨B, e3, _⟩ := DataW.trod_bool Tryd.underlying4 h3
    obtain ⟨A, l, ca, e4, hz1, hz2, hz3, hz4⟩ := choices_of h4
    simp at e0 e1 e2 e3 e4
    subst e0 e1 e2 e3 e4
    obtain ⟨c, rfl⟩ := byte_of X (by have := bounds_u8 k2; omega)
    exact ⟨⟨K, I, c, B, A, l, ca⟩, rfl, hz1, hz2, hz3, hz4, k0, k1⟩
theorem ops_of {H : Type} {enc : TypeId × Value → H} {w : World} {fuel : Nat} {cs' : List Value} {x0 : DataW H × List MemPlace}
    (hf : DataW.trod enc Tryd.prog w 0 (fun _ => true) true fuel 22 cs' = some x0) :
    ∃ (A : Option Addr) (l : List Op1) (ca : Nat), cs' = [.slice A l.length ca] ∧ LiesO w w.heap.size A l ∧ l.length ≤ maxLen := by
  rcases Go.Deep.open_slice Tryd.underlying22 hf with ⟨rfl, _⟩ | ⟨x, l, c, m, n, D, Pl, rfl, _, hl, hm, hmm, hxx, hall⟩
  · exact ⟨none, [], 0, rfl, fun k x h => by simp at h, Nat.zero_le _⟩
  · have hlm : l ≤ m := by rw [hmm]; simpa using hl
    have each : ∀ i, i < l → ∃ o : Op1, w.cells? 0 (x.add (i * 5)) 5 = some o.five ∧ o.Ok w := by
      intro i hi
      obtain ⟨cs', h1, h2⟩ := hall i (by omega)
      rw [Tryd.cellsOp] at h1
      obtain ⟨_, hlen, _⟩ := World.cells?_some h1
      obtain ⟨c, rfl, hc⟩ := op_open h2 hlen
      exact ⟨c, h1, hc⟩
    have : Inhabited Op1 := ⟨⟨0, 0, 0, false, none, [], 0⟩⟩
    obtain ⟨f, hf⟩ := Go.Deep.choose_lt each
    refine ⟨some x, (List.range l).map f, c, by simp, fun i c' hc => ?_, by simpa using Nat.le_trans hl hm⟩
    have hi : i < l := by have := (List.getElem?_eq_some_iff.1 hc).1; simpa using this
    have e : c' = f i := by simp [hi] at hc; exact hc.symm
    subst e
    obtain ⟨_, _, hcell⟩ := World.cells?_some (hf i hi).1
    have hat : ∀ j v, (f i).five[j]? = some v → w.cell? ((x.add (i * 5)).add j) = some v := fun j v hv => by
      rw [hcell j (by have := (List.getElem?_eq_some_iff.1 hv).1; simpa [Op1.five] using this)]
      exact hv
    obtain ⟨o, ho, _⟩ := cells_of_cell (hat 0 _ rfl)
    rw [addr_block, addr_block] at ho
    exact ⟨x, rfl, lt_of_heap ho, hat, (hf i hi).2⟩
set_option maxRecDepth 100000 in
theorem open_life {H : Type} {enc : TypeId × Value → H} {w : World} {r : Reach} {b0 : Nat} {v : Value} {d : DataW H} {p : List MemPlace}
    (hv : Value.okWide Tryd.prog w r b0 24 v) (h : DataW.Trod enc Tryd.prog w 0 (fun _ => true) true 24 v d p) :
    ∃ (S : ByteArray) (A : Option Addr) (l : List Op1) (ca : Nat), v = .agg #[.string S, .slice A l.length ca] ∧ S.size ≤ maxLen ∧ LiesO w w.heap.size A l ∧ l.length ≤ maxLen := by
  obtain ⟨cs, rfl, hsz⟩ := okWide_struct Tryd.underlying24 hv
  rw [Tryd.cellsLife] at hsz
  obtain ⟨v0, v1, rfl⟩ : ∃ v0 v1, cs = #[v0, v1] := by
    match cs, hsz with
    | ⟨[v0, v1]⟩, _ => exact ⟨v0, v1, rfl⟩
  obtain ⟨fuel, hf⟩ := h
  obtain ⟨y0, y1, n, _, _, h0, h1⟩ := trod_struct2 Tryd.underlying24 hf
  simp only [Tryd.cellsStr1, Tryd.cellsOps] at h0 h1
  obtain ⟨S, e0, _, k0⟩ := DataW.trod_string Tryd.underlying9 h0
  obtain ⟨A, l, ca, e1, hz1, hz2⟩ := ops_of h1
  simp [Value.cells] at e0 e1
  subst e0 e1
  exact ⟨S, A, l, ca, rfl, k0, hz1, hz2⟩
end Go.Proofs.YtaeiifmdbdhoeaaDoor
