/-
  The walk of the law ColTells.
-/
import Derived.Test.YtfclpoceaolgiaaDoorCDocGet
import Derived.Test.YtfclpoceaolgiaaDoorCDocPut
namespace Go.Proofs.YtfclpoceaolgiaaDoor
open Go.RowKit
set_option linter.unusedVariables false
set_option linter.unusedSimpArgs false

/-- A block that holds a place. -/
def PBox (g : Nat) (s : ByteArray) (a : Int) (w : World) : Prop := w.heap[g]? = some (.cells #[.string s, .int .i64 a] 26 (0, 0))
theorem PBox.below {g : Nat} {s : ByteArray} {a : Int} {w w' : World} (h : PBox g s a w) (b : Below w.heap.size w w') : PBox g s a w' := by
  unfold PBox at *
  rw [b.block g (lt_of_heap h)]
  exact h
theorem PBox.cells {g : Nat} {s : ByteArray} {a : Int} {w : World} (h : PBox g s a w) : w.cell? ⟨g, 0, none⟩ = some (.string s) ∧ w.cell? ⟨g, 1, none⟩ = some (.int .i64 a) := by
  unfold PBox at h
  refine ⟨?_, ?_⟩ <;> simp [World.cell?, h]
theorem PBox.set4 {w : World} {g q : Nat} {s : ByteArray} {a : Int} (h : PBox q s a w) (hq : q ≠ g) (K' I' U' : Int) (T : ByteArray) : PBox q s a (Go.Proofs.YtfclpoceaolgiaaDoor.set4 w g K' I' U' T) := by
  unfold PBox at *
  rw [set4_other hq]
  exact h

theorem both_put (K I U : Int) (T : ByteArray) (ho : CP.Ok ⟨K, I, U, T.data.toList⟩) (hT : T.size ≤ 60) : ∃ (P : ByteArray) (e : Int),
    Tells 10 #[.agg #[.int .i64 K, .int .i64 I, .int .u64 U, .string T]] (.tuple #[.string P, .int .i64 e]) ∧
    Tells 11 #[.agg #[.int .i64 K, .int .i64 I, .int .u64 U, .string T]] (.tuple #[.string P, .int .i64 e]) := by
  obtain ⟨P, e, hv⟩ : ∃ (P : ByteArray) (e : Int), putV K I U T = .tuple #[.string P, .int .i64 e] := by
    unfold putV
    split
    · exact ⟨_, _, rfl⟩
    · exact ⟨_, _, rfl⟩
  exact ⟨P, e, fp K I U T _ ho (by omega) hv, Tells.of fun W hW => by have h := dput_any K I U T W ho (by omega); rwa [hv] at h⟩

theorem both_get (s : ByteArray) (a : Int) (hs : s.size ≤ 100) : ∃ (K I U : Int) (T : ByteArray) (to e : Int),
    Tells 13 #[.string s, .int .i64 a] (.tuple #[.agg #[.int .i64 K, .int .i64 I, .int .u64 U, .string T], .int .i64 to, .int .i64 e]) ∧
    Tells 14 #[.string s, .int .i64 a] (.tuple #[.agg #[.int .i64 K, .int .i64 I, .int .u64 U, .string T], .int .i64 to, .int .i64 e]) := by
  by_cases hr : a < 0 ∨ (s.size : Int) < a
  · exact ⟨0, 0, 0, ⟨#[]⟩, 0, 4, Tells.of fun W _ => colGet_arg s a W hr, Tells.of fun W _ => dget_arg s a W hr⟩
  · obtain ⟨p, rfl⟩ := Int.eq_ofNat_of_zero_le (show 0 ≤ a by omega)
    obtain ⟨⟨⟨K, I, U, T⟩, to, e⟩, hg⟩ : ∃ g, CP.get s.data.toList p = g := ⟨_, rfl⟩
    refine ⟨K, I, U, ⟨T.toArray⟩, to, e, Tells.of fun W _ => ?_, Tells.of fun W _ => ?_⟩
    · have h := colGet_any s p W (by omega) (by omega); rw [hg] at h; exact h
    · have h := dget_any s p W (by omega) (by omega); rw [hg] at h; exact h

/-- An operation of a drawn region that yields in every world that meets S is taken first. -/
theorem take_op {P : Program} {ops : Array Oper} {Q : Exit → Act → World → Prop} {md : Region.Mode} {S : World → Prop} {i : Nat} {oi : Oper} {d : Option Tmp} {v : Value} {fuel : Nat} {listed : Array Bool} {a : Act} {w : World} (hi : ops[i]? = some oi) (hd : oi.dst = d)
    (hs : Region.noSelect ops = true) (hf : Region.free md ops listed i = true) (hr : (Region.ready md ops listed).contains i = true)
    (hQ : ∀ c a w, Q (.panic c) (a.put d v) w → Q (.panic c) a w) (hy : YieldsIf P ops S oi v a) (hS : S w)
    (h : wpAnyH P md ops Q S fuel (listed.setIfInBounds i true) (a.put d v) w) : wpAnyH P md ops Q S (fuel + 1) listed a w := by
  subst hd
  exact wpAnyH_take hi hs hf hr hQ hy hS h
/-- One that is not wanted is passed by. -/
theorem skip_op {P : Program} {ops : Array Oper} {Q : Exit → Act → World → Prop} {md : Region.Mode} {S : World → Prop} {i : Nat} {oi : Oper} {d : Option Tmp} {fuel : Nat} {listed : Array Bool} {a : Act} {w : World} (hi : ops[i]? = some oi) (hd : oi.dst = d)
    (hs : Region.noSelect ops = true) (hf : Region.free md ops listed i = true) (hr : (Region.ready md ops listed).contains i = true)
    (hQ : ∀ c a w, Q (.panic c) (a.put d undef) w → Q (.panic c) a w) (hw : Region.wanted oi (yielded ops a.tmps) = false) (hS : S w)
    (h : wpAnyH P md ops Q S fuel (listed.setIfInBounds i true) (a.put d undef) w) : wpAnyH P md ops Q S (fuel + 1) listed a w :=
  take_op hi hd hs hf hr hQ (Or.inr ⟨hw, rfl⟩) hS h

theorem eql_rcol (K I U K' I' U' : Int) (S S' : ByteArray) (w : World) :
    (binOp .eql 32 (.agg #[.int .i64 K, .int .i64 I, .int .u64 U, .string S]) (.agg #[.int .i64 K', .int .i64 I', .int .u64 U', .string S'])).run Tryd.prog w = .ok (.bool (sameV K I U S K' I' U' S')) w := by
  unfold sameV
  cases h1 : (K == K') <;> cases h2 : (I == I') <;> cases h3 : (U == U') <;> simp [go_sem, h1, h2, h3]
  by_cases h4 : S.toList = S'.toList <;> simp [h4]

section
attribute [local go_sem high] eql_col eql_rcol
set_option maxHeartbeats 4000000 in
set_option maxRecDepth 100000 in
theorem colTells_walk (K I U : Int) (S : ByteArray) (K' I' U' : Int) (S' : ByteArray) (s : ByteArray) (a : Int) (w : World) (M : MaxIs w) (ho : CP.Ok ⟨K, I, U, S.data.toList⟩) (hS : S.size ≤ maxLen) (ho' : CP.Ok ⟨K', I', U', S'.data.toList⟩) (hS' : S'.size ≤ maxLen) (ws : s.size ≤ maxLen) (wa : (Lit.int .i64 a).wf = true) :
    Calls Tryd.prog 3 #[.agg #[.int .i64 K, .int .i64 I, .int .u64 U, .string S], .agg #[.int .i64 K', .int .i64 I', .int .u64 U', .string S'], .agg #[.string s, .int .i64 a]] w fun e w' => e = .returned (.bool true) ∧ Below w.heap.size w w' := by
  obtain ⟨T, hT, HC'⟩ := cut_any K I U S hS
  have H1 := Lib.hid HC'
  clear HC'
  obtain ⟨T', hT', HC'⟩ := cut_any K' I' U' S' hS'
  have H2 := Lib.hid HC'
  clear HC' hS hS'
  have oa : CP.Ok ⟨K, I, U, T.data.toList⟩ := ho
  have ob : CP.Ok ⟨K', I', U', T'.data.toList⟩ := ho'
  have ua : 0 ≤ U := ho.2.2.1
  have ub : 0 ≤ U' := ho'.2.2.1
  clear ho ho' wa
  unfold maxLen at ws
  obtain ⟨m, hm, hm1, hms, hm2, hts⟩ := cut_min s 100 (by omega)
  have HTS := Lib.hid hts
  clear hts
  have HF := Lib.hid fixed_tells
  have L0 : Below w.heap.size w (((w.alloc (.cells #[.int .i64 K, .int .i64 I, .int .u64 U, .string S] 24)).alloc (.cells #[.int .i64 K', .int .i64 I', .int .u64 U', .string S'] 24)).alloc (.cells #[.string s, .int .i64 a] 26)) := ((below_alloc _ _).trans' (below_alloc _ _)).trans' (below_alloc _ _)
  have A0 : Hid (Box (w.heap.size) K I U S (((w.alloc (.cells #[.int .i64 K, .int .i64 I, .int .u64 U, .string S] 24)).alloc (.cells #[.int .i64 K', .int .i64 I', .int .u64 U', .string S'] 24)).alloc (.cells #[.string s, .int .i64 a] 26))) := Lib.hid (((Box.new K I U S w).below (below_alloc _ _)).below (below_alloc _ _))
  have B0 : Hid (Box (w.heap.size + 1) K' I' U' S' (((w.alloc (.cells #[.int .i64 K, .int .i64 I, .int .u64 U, .string S] 24)).alloc (.cells #[.int .i64 K', .int .i64 I', .int .u64 U', .string S'] 24)).alloc (.cells #[.string s, .int .i64 a] 26))) := Lib.hid (by
    have h := (Box.new K' I' U' S' (w.alloc (.cells #[.int .i64 K, .int .i64 I, .int .u64 U, .string S] 24))).below (below_alloc _ (.cells #[.string s, .int .i64 a] 26))
    rw [show (w.alloc (.cells #[.int .i64 K, .int .i64 I, .int .u64 U, .string S] 24)).heap.size = w.heap.size + 1 by simp] at h; exact h)
  have C0 : Hid (PBox (w.heap.size + 1 + 1) s a (((w.alloc (.cells #[.int .i64 K, .int .i64 I, .int .u64 U, .string S] 24)).alloc (.cells #[.int .i64 K', .int .i64 I', .int .u64 U', .string S'] 24)).alloc (.cells #[.string s, .int .i64 a] 26))) := Lib.hid (by
    have h := heap_alloc_new ((w.alloc (.cells #[.int .i64 K, .int .i64 I, .int .u64 U, .string S] 24)).alloc (.cells #[.int .i64 K', .int .i64 I', .int .u64 U', .string S'] 24)) (.cells #[.string s, .int .i64 a] 26)
    rw [show ((w.alloc (.cells #[.int .i64 K, .int .i64 I, .int .u64 U, .string S] 24)).alloc (.cells #[.int .i64 K', .int .i64 I', .int .u64 U', .string S'] 24)).heap.size = w.heap.size + 1 + 1 by simp] at h; exact h)
  go_enter Tryd.func3, Tryd.ntmps3
  go_wp2_with fail
  refine (H1.out _).mono ?_
  rintro e w1 ⟨rfl, hb1⟩
  obtain ⟨c0, c1, c2, c3⟩ := (A0.out.below hb1).cells
  obtain ⟨f0, f1, f2, f3⟩ := (A0.out.below hb1).free
  have A1 := Lib.hid (set4_box (A0.out.below hb1) K I U T)
  have B1 := Lib.hid ((B0.out.below hb1).set4 (g := w.heap.size) (by omega) K I U T)
  have C1 := Lib.hid ((C0.out.below hb1).set4 (g := w.heap.size) (by omega) K I U T)
  have L1 := set4_below (L0.trans' hb1) (by omega : w.heap.size ≤ w.heap.size) K I U T
  unfold set4 at A1 B1 C1 L1
  clear A0 B0 C0 L0 hb1 H1
  obtain ⟨j0, j1, j2, j3⟩ := B1.out.cells
  go_wp2_with fail
  generalize (((w1.setCell ⟨w.heap.size, 0, none⟩ (.int .i64 K)).setCell ⟨w.heap.size, 1, none⟩ (.int .i64 I)).setCell ⟨w.heap.size, 2, none⟩ (.int .u64 U)).setCell ⟨w.heap.size, 3, none⟩ (.string T) = W1 at *
  clear c0 c1 c2 c3 f0 f1 f2 f3 j0 j1 j2 j3
  refine (H2.out _).mono ?_
  rintro e w2 ⟨rfl, hb2⟩
  obtain ⟨c0, c1, c2, c3⟩ := (B1.out.below hb2).cells
  obtain ⟨f0, f1, f2, f3⟩ := (B1.out.below hb2).free
  have B2 := Lib.hid (set4_box (B1.out.below hb2) K' I' U' T')
  have A2 := Lib.hid ((A1.out.below hb2).set4 (g := w.heap.size + 1) (by omega) K' I' U' T')
  have C2 := Lib.hid ((C1.out.below hb2).set4 (g := w.heap.size + 1) (by omega) K' I' U' T')
  have L2 := set4_below (L1.trans' hb2) (by omega : w.heap.size ≤ w.heap.size + 1) K' I' U' T'
  unfold set4 at A2 B2 C2 L2
  clear A1 B1 C1 L1 hb2 H2
  obtain ⟨j0, j1⟩ := C2.out.cells
  obtain ⟨i0, i1, i2, i3⟩ := A2.out.cells
  go_wp2_with fail
  generalize (((w2.setCell ⟨w.heap.size + 1, 0, none⟩ (.int .i64 K')).setCell ⟨w.heap.size + 1, 1, none⟩ (.int .i64 I')).setCell ⟨w.heap.size + 1, 2, none⟩ (.int .u64 U')).setCell ⟨w.heap.size + 1, 3, none⟩ (.string T') = W2 at *
  clear c0 c1 c2 c3 f0 f1 f2 f3 j0 j1 i0 i1 i2 i3 hm hm2
  generalize s.extract 0 m = X at *
  obtain rfl := HTS.out
  clear HTS ws hms
  have M2 := M.below L2
  clear M
  obtain ⟨P, pe, hp, hq⟩ := both_put K I U T oa hT
  obtain ⟨GK, GI, GU, GT, to, ge, hg, hh⟩ := both_get X a (by omega)
  have HP := Lib.hid hp
  have HQ := Lib.hid hq
  have HG := Lib.hid hg
  have HH := Lib.hid hh
  clear hp hq hg hh
  refine (HP.out _ M2).mono ?_
  rintro e w3 ⟨rfl, hb3, M3⟩
  have A3 := Lib.hid (A2.out.below hb3)
  have B3 := Lib.hid (B2.out.below hb3)
  have C3 := Lib.hid (C2.out.below hb3)
  have L3 := L2.trans' hb3
  clear A2 B2 C2 L2 hb3 M2
  obtain ⟨i0, i1, i2, i3⟩ := A3.out.cells
  go_wp2_with fail
  clear i0 i1 i2 i3
  refine (ref_any _ _ _ _ _).mono ?_
  rintro e w4 ⟨rfl, hb4⟩
  go_wp2_with fail
  refine (HQ.out _ (M3.below hb4)).mono ?_
  rintro e w5 ⟨rfl, hb5, M5⟩
  have A5 := Lib.hid ((A3.out.below hb4).below hb5)
  have B5 := Lib.hid ((B3.out.below hb4).below hb5)
  have C5 := Lib.hid ((C3.out.below hb4).below hb5)
  have L5 := (L3.trans' hb4).trans' hb5
  clear A3 B3 C3 L3 hb4 hb5 M3
  obtain ⟨j0, j1⟩ := C5.out.cells
  go_wp2_with fail
  clear j0 j1
  refine (HG.out _ M5).mono ?_
  rintro e w6 ⟨rfl, hb6, M6⟩
  have A6 := Lib.hid ((A5.out.below hb6).below (below_alloc w6 (.cells #[.int .i64 GK, .int .i64 GI, .int .u64 GU, .string GT] 24)))
  have B6 := Lib.hid ((B5.out.below hb6).below (below_alloc w6 (.cells #[.int .i64 GK, .int .i64 GI, .int .u64 GU, .string GT] 24)))
  have C6 := Lib.hid ((C5.out.below hb6).below (below_alloc w6 (.cells #[.int .i64 GK, .int .i64 GI, .int .u64 GU, .string GT] 24)))
  have D6 := Lib.hid (Box.new GK GI GU GT w6)
  have L6 := (L5.trans' hb6).trans' (below_alloc w6 (.cells #[.int .i64 GK, .int .i64 GI, .int .u64 GU, .string GT] 24))
  have M6' := M6.alloc (.cells #[.int .i64 GK, .int .i64 GI, .int .u64 GU, .string GT] 24)
  clear A5 B5 C5 L5 hb6 M5 M6
  obtain ⟨j0, j1⟩ := C6.out.cells
  go_wp2_with fail
  clear j0 j1
  refine (HH.out _ M6').mono ?_
  rintro e w7 ⟨rfl, hb7, M7⟩
  have A7 := Lib.hid ((A6.out.below hb7).below (below_alloc w7 (.cells #[.int .i64 GK, .int .i64 GI, .int .u64 GU, .string GT] 32)))
  have B7 := Lib.hid ((B6.out.below hb7).below (below_alloc w7 (.cells #[.int .i64 GK, .int .i64 GI, .int .u64 GU, .string GT] 32)))
  have D7 := Lib.hid ((D6.out.below hb7).below (below_alloc w7 (.cells #[.int .i64 GK, .int .i64 GI, .int .u64 GU, .string GT] 32)))
  have E7 := Lib.hid (RBox.new GK GI GU GT w7)
  have L7 := (L6.trans' hb7).trans' (below_alloc w7 (.cells #[.int .i64 GK, .int .i64 GI, .int .u64 GU, .string GT] 32))
  have M7' := M7.alloc (.cells #[.int .i64 GK, .int .i64 GI, .int .u64 GU, .string GT] 32)
  clear A6 B6 C6 D6 L6 hb7 M6' M7
  go_wp2_with fail
  generalize w7.alloc (.cells #[.int .i64 GK, .int .i64 GI, .int .u64 GU, .string GT] 32) = W8 at *
  have HW := Lib.hid L7
  clear L7
  generalize w7.heap.size = ge' at *
  generalize w6.heap.size = gd at *
  obtain ⟨ga, hga⟩ : ∃ ga, w.heap.size = ga := ⟨_, rfl⟩
  obtain ⟨gb, hgb⟩ : ∃ gb, w.heap.size + 1 = gb := ⟨_, rfl⟩
  rw [hgb] at B7 ⊢
  rw [hga] at A7 ⊢
  have HMk : Hid (∀ W, Hid (MaxIs W) → Hid (Box ga K I U T W) → Hid (Box gb K' I' U' T' W) → Hid (Box gd GK GI GU GT W) → Hid (RBox ge' GK GI GU GT W) → Hid (MaxIs W) ∧ Hid (Box ga K I U T W) ∧ Hid (Box gb K' I' U' T' W) ∧ Hid (Box gd GK GI GU GT W) ∧ Hid (RBox ge' GK GI GU GT W) ∧ W.cell? ⟨ga, 0, none⟩ = some (.int .i64 K) ∧ W.cell? ⟨ga, 1, none⟩ = some (.int .i64 I) ∧ W.cell? ⟨ga, 2, none⟩ = some (.int .u64 U) ∧ W.cell? ⟨ga, 3, none⟩ = some (.string T) ∧ W.cell? ⟨gb, 0, none⟩ = some (.int .i64 K') ∧ W.cell? ⟨gb, 1, none⟩ = some (.int .i64 I') ∧ W.cell? ⟨gb, 2, none⟩ = some (.int .u64 U') ∧ W.cell? ⟨gb, 3, none⟩ = some (.string T')) := Lib.hid (fun W M A B D E => ⟨M, A, B, D, E, A.out.cells.1, A.out.cells.2.1, A.out.cells.2.2.1, A.out.cells.2.2.2, B.out.cells⟩)
  have HKeep : Hid (∀ W W' : World, Below W.heap.size W W' → (Hid (MaxIs W) ∧ Hid (Box ga K I U T W) ∧ Hid (Box gb K' I' U' T' W) ∧ Hid (Box gd GK GI GU GT W) ∧ Hid (RBox ge' GK GI GU GT W) ∧ W.cell? ⟨ga, 0, none⟩ = some (.int .i64 K) ∧ W.cell? ⟨ga, 1, none⟩ = some (.int .i64 I) ∧ W.cell? ⟨ga, 2, none⟩ = some (.int .u64 U) ∧ W.cell? ⟨ga, 3, none⟩ = some (.string T) ∧ W.cell? ⟨gb, 0, none⟩ = some (.int .i64 K') ∧ W.cell? ⟨gb, 1, none⟩ = some (.int .i64 I') ∧ W.cell? ⟨gb, 2, none⟩ = some (.int .u64 U') ∧ W.cell? ⟨gb, 3, none⟩ = some (.string T')) → Hid (MaxIs W') ∧ Hid (Box ga K I U T W') ∧ Hid (Box gb K' I' U' T' W') ∧ Hid (Box gd GK GI GU GT W') ∧ Hid (RBox ge' GK GI GU GT W') ∧ W'.cell? ⟨ga, 0, none⟩ = some (.int .i64 K) ∧ W'.cell? ⟨ga, 1, none⟩ = some (.int .i64 I) ∧ W'.cell? ⟨ga, 2, none⟩ = some (.int .u64 U) ∧ W'.cell? ⟨ga, 3, none⟩ = some (.string T) ∧ W'.cell? ⟨gb, 0, none⟩ = some (.int .i64 K') ∧ W'.cell? ⟨gb, 1, none⟩ = some (.int .i64 I') ∧ W'.cell? ⟨gb, 2, none⟩ = some (.int .u64 U') ∧ W'.cell? ⟨gb, 3, none⟩ = some (.string T')) := Lib.hid (fun W W' b h => HMk.out W' (Lib.hid (h.1.out.below b)) (Lib.hid (h.2.1.out.below b)) (Lib.hid (h.2.2.1.out.below b)) (Lib.hid (h.2.2.2.1.out.below b)) (Lib.hid (h.2.2.2.2.1.out.below b)))
  have H8 : Hid (Hid (MaxIs W8.drew) ∧ Hid (Box ga K I U T W8.drew) ∧ Hid (Box gb K' I' U' T' W8.drew) ∧ Hid (Box gd GK GI GU GT W8.drew) ∧ Hid (RBox ge' GK GI GU GT W8.drew) ∧ W8.drew.cell? ⟨ga, 0, none⟩ = some (.int .i64 K) ∧ W8.drew.cell? ⟨ga, 1, none⟩ = some (.int .i64 I) ∧ W8.drew.cell? ⟨ga, 2, none⟩ = some (.int .u64 U) ∧ W8.drew.cell? ⟨ga, 3, none⟩ = some (.string T) ∧ W8.drew.cell? ⟨gb, 0, none⟩ = some (.int .i64 K') ∧ W8.drew.cell? ⟨gb, 1, none⟩ = some (.int .i64 I') ∧ W8.drew.cell? ⟨gb, 2, none⟩ = some (.int .u64 U') ∧ W8.drew.cell? ⟨gb, 3, none⟩ = some (.string T')) := Lib.hid (HMk.out W8.drew (Lib.hid M7'.drew) A7 B7 D7 E7)
  clear hga hgb A7 B7 D7 E7 M7'
  have HMy : Hid (∀ W, Hid (MaxIs W) → Hid (Box gd GK GI GU GT W) → Hid (RBox ge' GK GI GU GT W) → Hid (MaxIs W) ∧ Hid (Box gd GK GI GU GT W) ∧ Hid (RBox ge' GK GI GU GT W) ∧ W.cell? ⟨gd, 0, none⟩ = some (.int .i64 GK) ∧ W.cell? ⟨gd, 1, none⟩ = some (.int .i64 GI) ∧ W.cell? ⟨gd, 2, none⟩ = some (.int .u64 GU) ∧ W.cell? ⟨gd, 3, none⟩ = some (.string GT) ∧ W.cell? ⟨ge', 0, none⟩ = some (.int .i64 GK) ∧ W.cell? ⟨ge', 1, none⟩ = some (.int .i64 GI) ∧ W.cell? ⟨ge', 2, none⟩ = some (.int .u64 GU) ∧ W.cell? ⟨ge', 3, none⟩ = some (.string GT)) := Lib.hid (fun W M D E => ⟨M, D, E, D.out.cells.1, D.out.cells.2.1, D.out.cells.2.2.1, D.out.cells.2.2.2, E.out.cells⟩)
  have HKeepy : Hid (∀ W W' : World, Below W.heap.size W W' → (Hid (MaxIs W) ∧ Hid (Box gd GK GI GU GT W) ∧ Hid (RBox ge' GK GI GU GT W) ∧ W.cell? ⟨gd, 0, none⟩ = some (.int .i64 GK) ∧ W.cell? ⟨gd, 1, none⟩ = some (.int .i64 GI) ∧ W.cell? ⟨gd, 2, none⟩ = some (.int .u64 GU) ∧ W.cell? ⟨gd, 3, none⟩ = some (.string GT) ∧ W.cell? ⟨ge', 0, none⟩ = some (.int .i64 GK) ∧ W.cell? ⟨ge', 1, none⟩ = some (.int .i64 GI) ∧ W.cell? ⟨ge', 2, none⟩ = some (.int .u64 GU) ∧ W.cell? ⟨ge', 3, none⟩ = some (.string GT)) → Hid (MaxIs W') ∧ Hid (Box gd GK GI GU GT W') ∧ Hid (RBox ge' GK GI GU GT W') ∧ W'.cell? ⟨gd, 0, none⟩ = some (.int .i64 GK) ∧ W'.cell? ⟨gd, 1, none⟩ = some (.int .i64 GI) ∧ W'.cell? ⟨gd, 2, none⟩ = some (.int .u64 GU) ∧ W'.cell? ⟨gd, 3, none⟩ = some (.string GT) ∧ W'.cell? ⟨ge', 0, none⟩ = some (.int .i64 GK) ∧ W'.cell? ⟨ge', 1, none⟩ = some (.int .i64 GI) ∧ W'.cell? ⟨ge', 2, none⟩ = some (.int .u64 GU) ∧ W'.cell? ⟨ge', 3, none⟩ = some (.string GT)) := Lib.hid (fun W W' b h => HMy.out W' (Lib.hid (h.1.out.below b)) (Lib.hid (h.2.1.out.below b)) (Lib.hid (h.2.2.1.out.below b)))
  have HMq : Hid (∀ W : World, (Hid (MaxIs W) ∧ Hid (Box gd GK GI GU GT W) ∧ Hid (RBox ge' GK GI GU GT W) ∧ W.cell? ⟨gd, 0, none⟩ = some (.int .i64 GK) ∧ W.cell? ⟨gd, 1, none⟩ = some (.int .i64 GI) ∧ W.cell? ⟨gd, 2, none⟩ = some (.int .u64 GU) ∧ W.cell? ⟨gd, 3, none⟩ = some (.string GT) ∧ W.cell? ⟨ge', 0, none⟩ = some (.int .i64 GK) ∧ W.cell? ⟨ge', 1, none⟩ = some (.int .i64 GI) ∧ W.cell? ⟨ge', 2, none⟩ = some (.int .u64 GU) ∧ W.cell? ⟨ge', 3, none⟩ = some (.string GT)) → MaxIs W) := Lib.hid (fun W h => h.1.out)
  have HFg := Lib.hid (fun W => ref_any GK GI GU GT W)
  have hsame : sameV GK GI GU GT GK GI GU GT = true := (sameV_iff _ _ _ _ _ _ _ _).2 rfl
  have HMy : Hid (∀ W, Hid (MaxIs W) → Hid (Box gd GK GI GU GT W) → Hid (RBox ge' GK GI GU GT W) → Hid (MaxIs W) ∧ Hid (Box gd GK GI GU GT W) ∧ Hid (RBox ge' GK GI GU GT W) ∧ W.cell? ⟨gd, 0, none⟩ = some (.int .i64 GK) ∧ W.cell? ⟨gd, 1, none⟩ = some (.int .i64 GI) ∧ W.cell? ⟨gd, 2, none⟩ = some (.int .u64 GU) ∧ W.cell? ⟨gd, 3, none⟩ = some (.string GT) ∧ W.cell? ⟨ge', 0, none⟩ = some (.int .i64 GK) ∧ W.cell? ⟨ge', 1, none⟩ = some (.int .i64 GI) ∧ W.cell? ⟨ge', 2, none⟩ = some (.int .u64 GU) ∧ W.cell? ⟨ge', 3, none⟩ = some (.string GT)) := Lib.hid (fun W M D E => ⟨M, D, E, D.out.cells.1, D.out.cells.2.1, D.out.cells.2.2.1, D.out.cells.2.2.2, E.out.cells⟩)
  have HKeepy : Hid (∀ W W' : World, Below W.heap.size W W' → (Hid (MaxIs W) ∧ Hid (Box gd GK GI GU GT W) ∧ Hid (RBox ge' GK GI GU GT W) ∧ W.cell? ⟨gd, 0, none⟩ = some (.int .i64 GK) ∧ W.cell? ⟨gd, 1, none⟩ = some (.int .i64 GI) ∧ W.cell? ⟨gd, 2, none⟩ = some (.int .u64 GU) ∧ W.cell? ⟨gd, 3, none⟩ = some (.string GT) ∧ W.cell? ⟨ge', 0, none⟩ = some (.int .i64 GK) ∧ W.cell? ⟨ge', 1, none⟩ = some (.int .i64 GI) ∧ W.cell? ⟨ge', 2, none⟩ = some (.int .u64 GU) ∧ W.cell? ⟨ge', 3, none⟩ = some (.string GT)) → Hid (MaxIs W') ∧ Hid (Box gd GK GI GU GT W') ∧ Hid (RBox ge' GK GI GU GT W') ∧ W'.cell? ⟨gd, 0, none⟩ = some (.int .i64 GK) ∧ W'.cell? ⟨gd, 1, none⟩ = some (.int .i64 GI) ∧ W'.cell? ⟨gd, 2, none⟩ = some (.int .u64 GU) ∧ W'.cell? ⟨gd, 3, none⟩ = some (.string GT) ∧ W'.cell? ⟨ge', 0, none⟩ = some (.int .i64 GK) ∧ W'.cell? ⟨ge', 1, none⟩ = some (.int .i64 GI) ∧ W'.cell? ⟨ge', 2, none⟩ = some (.int .u64 GU) ∧ W'.cell? ⟨ge', 3, none⟩ = some (.string GT)) := Lib.hid (fun W W' b h => HMy.out W' (Lib.hid (h.1.out.below b)) (Lib.hid (h.2.1.out.below b)) (Lib.hid (h.2.2.1.out.below b)))
  have HMq : Hid (∀ W : World, (Hid (MaxIs W) ∧ Hid (Box gd GK GI GU GT W) ∧ Hid (RBox ge' GK GI GU GT W) ∧ W.cell? ⟨gd, 0, none⟩ = some (.int .i64 GK) ∧ W.cell? ⟨gd, 1, none⟩ = some (.int .i64 GI) ∧ W.cell? ⟨gd, 2, none⟩ = some (.int .u64 GU) ∧ W.cell? ⟨gd, 3, none⟩ = some (.string GT) ∧ W.cell? ⟨ge', 0, none⟩ = some (.int .i64 GK) ∧ W.cell? ⟨ge', 1, none⟩ = some (.int .i64 GI) ∧ W.cell? ⟨ge', 2, none⟩ = some (.int .u64 GU) ∧ W.cell? ⟨ge', 3, none⟩ = some (.string GT)) → MaxIs W) := Lib.hid (fun W h => h.1.out)
  have HFg := Lib.hid (fun W => ref_any GK GI GU GT W)
  have hsame : sameV GK GI GU GT GK GI GU GT = true := (sameV_iff _ _ _ _ _ _ _ _).2 rfl
  obtain ⟨ra, hra⟩ : ∃ ra, rt K I U T = ra := ⟨_, rfl⟩
  obtain ⟨rb, hrb⟩ : ∃ rb, rt K' I' U' T' = rb := ⟨_, rfl⟩
  have HR := Lib.hid (fun W => by have h := right_any K I U T W ua; rwa [hra] at h)
  have HRa := rright_hid K I U T ua _ hra
  have HRb := rright_hid K' I' U' T' ub _ hrb
  have HCa := Lib.hid (fun W => compare_any K I U T K' I' U' T' W)
  have HCb := Lib.hid (fun W => rcompare_any K I U T K' I' U' T' W)
  have HFa := Lib.hid (fun W => ref_any K I U T W)
  have HFb := Lib.hid (fun W => ref_any K' I' U' T' W)
  clear ua ub oa ob HP HQ HG HH hm1 hT hT'
  cases ra with
  | false =>
    clear hra hrb HCa HCb
    refine wp_region_held_drew (S := fun W => Hid (MaxIs W) ∧ Hid (Box ga K I U T W) ∧ Hid (Box gb K' I' U' T' W) ∧ Hid (Box gd GK GI GU GT W) ∧ Hid (RBox ge' GK GI GU GT W) ∧ W.cell? ⟨ga, 0, none⟩ = some (.int .i64 K) ∧ W.cell? ⟨ga, 1, none⟩ = some (.int .i64 I) ∧ W.cell? ⟨ga, 2, none⟩ = some (.int .u64 U) ∧ W.cell? ⟨ga, 3, none⟩ = some (.string T) ∧ W.cell? ⟨gb, 0, none⟩ = some (.int .i64 K') ∧ W.cell? ⟨gb, 1, none⟩ = some (.int .i64 I') ∧ W.cell? ⟨gb, 2, none⟩ = some (.int .u64 U') ∧ W.cell? ⟨gb, 3, none⟩ = some (.string T')) (by kernel_rfl) H8.out (fun hHeld => ?_)
    refine take_op (i := 0) (d := some 56) (v := ?_) rfl rfl (by kernel_rfl) (by kernel_rfl) (by kernel_rfl) (fun _ _ _ h => h) (Or.inl ⟨by kernel_rfl, ?_⟩) (by assumption) ?_
    rotate_left
    · intro W hSw; (try dsimp only at hSw); go_simp; with_reducible rfl
    try simp only [Act.put, List.setIfInBounds_toArray, List.set_cons_zero, List.set_cons_succ]
    refine take_op (i := 2) (d := some 58) (v := ?_) rfl rfl (by kernel_rfl) (by kernel_rfl) (by kernel_rfl) (fun _ _ _ h => h) (Or.inl ⟨by kernel_rfl, ?_⟩) (by assumption) ?_
    rotate_left
    · intro W hSw; (try dsimp only at hSw); go_simp; with_reducible rfl
    try simp only [Act.put, List.setIfInBounds_toArray, List.set_cons_zero, List.set_cons_succ]
    refine wpAnyH_ready (rs := [1]) (by kernel_rfl) (by simp) (AllReadyH.cons rfl (fun KK hK => ?_) AllReadyH.nil)
    go_simp
    refine (HR.out _).mono ?_
    rintro e x1 ⟨rfl, hx1⟩
    go_wp2_with fail
    have hHeld2 := HKeep.out _ _ hx1 hHeld
    refine hK.out _ _ hHeld2 (fun _ => ?_)
    clear hK KK hHeld
    have hHeld := hHeld2
    clear hHeld2
    try simp only [Act.put, List.setIfInBounds_toArray, List.set_cons_zero, List.set_cons_succ]
    refine wpAnyH_ready (rs := [3]) (by kernel_rfl) (by simp) (AllReadyH.cons rfl (fun KK hK => ?_) AllReadyH.nil)
    go_simp
    refine (HFa.out _).mono ?_
    rintro e x2 ⟨rfl, hx2⟩
    go_wp2_with fail
    have hHeld2 := HKeep.out _ _ hx2 hHeld
    refine hK.out _ _ hHeld2 (fun _ => ?_)
    clear hK KK hHeld
    have hHeld := hHeld2
    clear hHeld2
    try simp only [Act.put, List.setIfInBounds_toArray, List.set_cons_zero, List.set_cons_succ]
    refine wpAnyH_ready (rs := [4]) (by kernel_rfl) (by simp) (AllReadyH.cons rfl (fun KK hK => ?_) AllReadyH.nil)
    go_simp
    refine (HRa.out _).mono ?_
    rintro e x3 ⟨rfl, hx3⟩
    go_wp2_with fail
    have hHeld2 := HKeep.out _ _ hx3 hHeld
    refine hK.out _ _ hHeld2 (fun _ => ?_)
    clear hK KK hHeld
    have hHeld := hHeld2
    clear hHeld2
    try simp only [Act.put, List.setIfInBounds_toArray, List.set_cons_zero, List.set_cons_succ]
    refine take_op (i := 5) (d := some 61) (v := ?_) rfl rfl (by kernel_rfl) (by kernel_rfl) (by kernel_rfl) (fun _ _ _ h => h) (Or.inl ⟨by kernel_rfl, ?_⟩) (by assumption) ?_
    rotate_left
    · intro W hSw; (try dsimp only at hSw); go_simp; with_reducible rfl
    try simp only [Act.put, List.setIfInBounds_toArray, List.set_cons_zero, List.set_cons_succ]
    refine take_op (i := 6) (d := some 62) (v := ?_) rfl rfl (by kernel_rfl) (by kernel_rfl) (by kernel_rfl) (fun _ _ _ h => h) (Or.inl ⟨by kernel_rfl, ?_⟩) (by assumption) ?_
    rotate_left
    · intro W hSw; (try dsimp only at hSw); go_simp; with_reducible rfl
    try simp only [Act.put, List.setIfInBounds_toArray, List.set_cons_zero, List.set_cons_succ]
    refine take_op (i := 7) (d := some 63) (v := ?_) rfl rfl (by kernel_rfl) (by kernel_rfl) (by kernel_rfl) (fun _ _ _ h => h) (Or.inl ⟨by kernel_rfl, ?_⟩) (by assumption) ?_
    rotate_left
    · intro W hSw; (try dsimp only at hSw); go_simp; with_reducible rfl
    try simp only [Act.put, List.setIfInBounds_toArray, List.set_cons_zero, List.set_cons_succ]
    refine wpAnyH_ready (rs := [8]) (by kernel_rfl) (by simp) (AllReadyH.cons rfl (fun KK hK => ?_) AllReadyH.nil)
    go_simp
    refine (HFa.out _).mono ?_
    rintro e x4 ⟨rfl, hx4⟩
    go_wp2_with fail
    have hHeld2 := HKeep.out _ _ hx4 hHeld
    refine hK.out _ _ hHeld2 (fun _ => ?_)
    clear hK KK hHeld
    have hHeld := hHeld2
    clear hHeld2
    try simp only [Act.put, List.setIfInBounds_toArray, List.set_cons_zero, List.set_cons_succ]
    refine wpAnyH_ready (rs := [9]) (by kernel_rfl) (by simp) (AllReadyH.cons rfl (fun KK hK => ?_) AllReadyH.nil)
    go_simp
    refine (HRa.out _).mono ?_
    rintro e x5 ⟨rfl, hx5⟩
    go_wp2_with fail
    have hHeld2 := HKeep.out _ _ hx5 hHeld
    refine hK.out _ _ hHeld2 (fun _ => ?_)
    clear hK KK hHeld
    have hHeld := hHeld2
    clear hHeld2
    try simp only [Act.put, List.setIfInBounds_toArray, List.set_cons_zero, List.set_cons_succ]
    refine take_op (i := 10) (d := some 66) (v := ?_) rfl rfl (by kernel_rfl) (by kernel_rfl) (by kernel_rfl) (fun _ _ _ h => h) (Or.inl ⟨by kernel_rfl, ?_⟩) (by assumption) ?_
    rotate_left
    · intro W hSw; (try dsimp only at hSw); go_simp; with_reducible rfl
    try simp only [Act.put, List.setIfInBounds_toArray, List.set_cons_zero, List.set_cons_succ]
    refine skip_op (i := 11) (d := some 67) rfl rfl (by kernel_rfl) (by kernel_rfl) (by kernel_rfl) (fun _ _ _ h => h) (by kernel_rfl) (by assumption) ?_
    try simp only [Act.put, List.setIfInBounds_toArray, List.set_cons_zero, List.set_cons_succ]
    refine skip_op (i := 12) (d := some 68) rfl rfl (by kernel_rfl) (by kernel_rfl) (by kernel_rfl) (fun _ _ _ h => h) (by kernel_rfl) (by assumption) ?_
    try simp only [Act.put, List.setIfInBounds_toArray, List.set_cons_zero, List.set_cons_succ]
    refine skip_op (i := 13) (d := some 69) rfl rfl (by kernel_rfl) (by kernel_rfl) (by kernel_rfl) (fun _ _ _ h => h) (by kernel_rfl) (by assumption) ?_
    try simp only [Act.put, List.setIfInBounds_toArray, List.set_cons_zero, List.set_cons_succ]
    refine take_op (i := 14) (d := some 70) (v := ?_) rfl rfl (by kernel_rfl) (by kernel_rfl) (by kernel_rfl) (fun _ _ _ h => h) (Or.inl ⟨by kernel_rfl, ?_⟩) (by assumption) ?_
    rotate_left
    · intro W hSw; (try dsimp only at hSw); go_simp; with_reducible rfl
    try simp only [Act.put, List.setIfInBounds_toArray, List.set_cons_zero, List.set_cons_succ]
    refine take_op (i := 15) (d := some 71) (v := ?_) rfl rfl (by kernel_rfl) (by kernel_rfl) (by kernel_rfl) (fun _ _ _ h => h) (Or.inl ⟨by kernel_rfl, ?_⟩) (by assumption) ?_
    rotate_left
    · intro W hSw; (try dsimp only at hSw); go_simp; with_reducible rfl
    try simp only [Act.put, List.setIfInBounds_toArray, List.set_cons_zero, List.set_cons_succ]
    refine skip_op (i := 16) (d := some 72) rfl rfl (by kernel_rfl) (by kernel_rfl) (by kernel_rfl) (fun _ _ _ h => h) (by kernel_rfl) (by assumption) ?_
    try simp only [Act.put, List.setIfInBounds_toArray, List.set_cons_zero, List.set_cons_succ]
    refine skip_op (i := 17) (d := some 73) rfl rfl (by kernel_rfl) (by kernel_rfl) (by kernel_rfl) (fun _ _ _ h => h) (by kernel_rfl) (by assumption) ?_
    try simp only [Act.put, List.setIfInBounds_toArray, List.set_cons_zero, List.set_cons_succ]
    refine skip_op (i := 18) (d := some 74) rfl rfl (by kernel_rfl) (by kernel_rfl) (by kernel_rfl) (fun _ _ _ h => h) (by kernel_rfl) (by assumption) ?_
    try simp only [Act.put, List.setIfInBounds_toArray, List.set_cons_zero, List.set_cons_succ]
    refine skip_op (i := 19) (d := some 75) rfl rfl (by kernel_rfl) (by kernel_rfl) (by kernel_rfl) (fun _ _ _ h => h) (by kernel_rfl) (by assumption) ?_
    try simp only [Act.put, List.setIfInBounds_toArray, List.set_cons_zero, List.set_cons_succ]
    refine skip_op (i := 20) (d := some 76) rfl rfl (by kernel_rfl) (by kernel_rfl) (by kernel_rfl) (fun _ _ _ h => h) (by kernel_rfl) (by assumption) ?_
    try simp only [Act.put, List.setIfInBounds_toArray, List.set_cons_zero, List.set_cons_succ]
    refine skip_op (i := 21) (d := some 77) rfl rfl (by kernel_rfl) (by kernel_rfl) (by kernel_rfl) (fun _ _ _ h => h) (by kernel_rfl) (by assumption) ?_
    try simp only [Act.put, List.setIfInBounds_toArray, List.set_cons_zero, List.set_cons_succ]
    refine skip_op (i := 22) (d := some 78) rfl rfl (by kernel_rfl) (by kernel_rfl) (by kernel_rfl) (fun _ _ _ h => h) (by kernel_rfl) (by assumption) ?_
    try simp only [Act.put, List.setIfInBounds_toArray, List.set_cons_zero, List.set_cons_succ]
    refine skip_op (i := 23) (d := some 79) rfl rfl (by kernel_rfl) (by kernel_rfl) (by kernel_rfl) (fun _ _ _ h => h) (by kernel_rfl) (by assumption) ?_
    try simp only [Act.put, List.setIfInBounds_toArray, List.set_cons_zero, List.set_cons_succ]
    refine skip_op (i := 24) (d := some 80) rfl rfl (by kernel_rfl) (by kernel_rfl) (by kernel_rfl) (fun _ _ _ h => h) (by kernel_rfl) (by assumption) ?_
    try simp only [Act.put, List.setIfInBounds_toArray, List.set_cons_zero, List.set_cons_succ]
    refine take_op (i := 25) (d := some 81) (v := ?_) rfl rfl (by kernel_rfl) (by kernel_rfl) (by kernel_rfl) (fun _ _ _ h => h) (Or.inl ⟨by kernel_rfl, ?_⟩) (by assumption) ?_
    rotate_left
    · intro W hSw; (try dsimp only at hSw); go_simp; with_reducible rfl
    try simp only [Act.put, List.setIfInBounds_toArray, List.set_cons_zero, List.set_cons_succ]
    refine take_op (i := 26) (d := some 82) (v := ?_) rfl rfl (by kernel_rfl) (by kernel_rfl) (by kernel_rfl) (fun _ _ _ h => h) (Or.inl ⟨by kernel_rfl, ?_⟩) (by assumption) ?_
    rotate_left
    · intro W hSw; (try dsimp only at hSw); go_simp; with_reducible rfl
    try simp only [Act.put, List.setIfInBounds_toArray, List.set_cons_zero, List.set_cons_succ]
    refine wpAnyH_done (by kernel_rfl) ?_ _
    have LE : Below w.heap.size w x5 := HW.out.trans' ((below_of_drew hx1).trans' (hx2.trans' (hx3.trans' (hx4.trans' (hx5)))))
    have H10 : Hid (Hid (MaxIs x5.drew) ∧ Hid (Box gd GK GI GU GT x5.drew) ∧ Hid (RBox ge' GK GI GU GT x5.drew) ∧ x5.drew.cell? ⟨gd, 0, none⟩ = some (.int .i64 GK) ∧ x5.drew.cell? ⟨gd, 1, none⟩ = some (.int .i64 GI) ∧ x5.drew.cell? ⟨gd, 2, none⟩ = some (.int .u64 GU) ∧ x5.drew.cell? ⟨gd, 3, none⟩ = some (.string GT) ∧ x5.drew.cell? ⟨ge', 0, none⟩ = some (.int .i64 GK) ∧ x5.drew.cell? ⟨ge', 1, none⟩ = some (.int .i64 GI) ∧ x5.drew.cell? ⟨ge', 2, none⟩ = some (.int .u64 GU) ∧ x5.drew.cell? ⟨ge', 3, none⟩ = some (.string GT)) := Lib.hid (HMy.out x5.drew (Lib.hid hHeld.1.out.drew) hHeld.2.2.2.1 hHeld.2.2.2.2.1)
    clear hHeld HKeep H8 HMk HR HRa HRb HFa HFb HW hx1 hx2 hx3 hx4 hx5
    go_wp2_with fail
    go_region_held3 (fun W => Hid (MaxIs W) ∧ Hid (Box gd GK GI GU GT W) ∧ Hid (RBox ge' GK GI GU GT W) ∧ W.cell? ⟨gd, 0, none⟩ = some (.int .i64 GK) ∧ W.cell? ⟨gd, 1, none⟩ = some (.int .i64 GI) ∧ W.cell? ⟨gd, 2, none⟩ = some (.int .u64 GU) ∧ W.cell? ⟨gd, 3, none⟩ = some (.string GT) ∧ W.cell? ⟨ge', 0, none⟩ = some (.int .i64 GK) ∧ W.cell? ⟨ge', 1, none⟩ = some (.int .i64 GI) ∧ W.cell? ⟨ge', 2, none⟩ = some (.int .u64 GU) ∧ W.cell? ⟨ge', 3, none⟩ = some (.string GT))
      (first | assumption | exact H10.out | exact HKeepy.out _ _ (by assumption) (by assumption))
      (first
        | (go_at_call 12; refine (HFg.out _).mono ?_; rintro e y1 ⟨rfl, hy1⟩)
        | (go_at_call 19; refine (HF.out _ (HMq.out _ (by assumption))).mono ?_; rintro e y2 ⟨rfl, hy2, _⟩))
    all_goals
      go_wp2_with fail
      go_ret
      exact ⟨rfl, LE.trans' ((below_of_drew hy1).trans' hy2)⟩
  | true =>
    cases rb with
    | false =>
      clear hra hrb HCa HCb
      refine wp_region_held_drew (S := fun W => Hid (MaxIs W) ∧ Hid (Box ga K I U T W) ∧ Hid (Box gb K' I' U' T' W) ∧ Hid (Box gd GK GI GU GT W) ∧ Hid (RBox ge' GK GI GU GT W) ∧ W.cell? ⟨ga, 0, none⟩ = some (.int .i64 K) ∧ W.cell? ⟨ga, 1, none⟩ = some (.int .i64 I) ∧ W.cell? ⟨ga, 2, none⟩ = some (.int .u64 U) ∧ W.cell? ⟨ga, 3, none⟩ = some (.string T) ∧ W.cell? ⟨gb, 0, none⟩ = some (.int .i64 K') ∧ W.cell? ⟨gb, 1, none⟩ = some (.int .i64 I') ∧ W.cell? ⟨gb, 2, none⟩ = some (.int .u64 U') ∧ W.cell? ⟨gb, 3, none⟩ = some (.string T')) (by kernel_rfl) H8.out (fun hHeld => ?_)
      refine take_op (i := 0) (d := some 56) (v := ?_) rfl rfl (by kernel_rfl) (by kernel_rfl) (by kernel_rfl) (fun _ _ _ h => h) (Or.inl ⟨by kernel_rfl, ?_⟩) (by assumption) ?_
      rotate_left
      · intro W hSw; (try dsimp only at hSw); go_simp; with_reducible rfl
      try simp only [Act.put, List.setIfInBounds_toArray, List.set_cons_zero, List.set_cons_succ]
      refine take_op (i := 2) (d := some 58) (v := ?_) rfl rfl (by kernel_rfl) (by kernel_rfl) (by kernel_rfl) (fun _ _ _ h => h) (Or.inl ⟨by kernel_rfl, ?_⟩) (by assumption) ?_
      rotate_left
      · intro W hSw; (try dsimp only at hSw); go_simp; with_reducible rfl
      try simp only [Act.put, List.setIfInBounds_toArray, List.set_cons_zero, List.set_cons_succ]
      refine wpAnyH_ready (rs := [1]) (by kernel_rfl) (by simp) (AllReadyH.cons rfl (fun KK hK => ?_) AllReadyH.nil)
      go_simp
      refine (HR.out _).mono ?_
      rintro e x1 ⟨rfl, hx1⟩
      go_wp2_with fail
      have hHeld2 := HKeep.out _ _ hx1 hHeld
      refine hK.out _ _ hHeld2 (fun _ => ?_)
      clear hK KK hHeld
      have hHeld := hHeld2
      clear hHeld2
      try simp only [Act.put, List.setIfInBounds_toArray, List.set_cons_zero, List.set_cons_succ]
      refine wpAnyH_ready (rs := [3]) (by kernel_rfl) (by simp) (AllReadyH.cons rfl (fun KK hK => ?_) AllReadyH.nil)
      go_simp
      refine (HFa.out _).mono ?_
      rintro e x2 ⟨rfl, hx2⟩
      go_wp2_with fail
      have hHeld2 := HKeep.out _ _ hx2 hHeld
      refine hK.out _ _ hHeld2 (fun _ => ?_)
      clear hK KK hHeld
      have hHeld := hHeld2
      clear hHeld2
      try simp only [Act.put, List.setIfInBounds_toArray, List.set_cons_zero, List.set_cons_succ]
      refine wpAnyH_ready (rs := [4]) (by kernel_rfl) (by simp) (AllReadyH.cons rfl (fun KK hK => ?_) AllReadyH.nil)
      go_simp
      refine (HRa.out _).mono ?_
      rintro e x3 ⟨rfl, hx3⟩
      go_wp2_with fail
      have hHeld2 := HKeep.out _ _ hx3 hHeld
      refine hK.out _ _ hHeld2 (fun _ => ?_)
      clear hK KK hHeld
      have hHeld := hHeld2
      clear hHeld2
      try simp only [Act.put, List.setIfInBounds_toArray, List.set_cons_zero, List.set_cons_succ]
      refine take_op (i := 5) (d := some 61) (v := ?_) rfl rfl (by kernel_rfl) (by kernel_rfl) (by kernel_rfl) (fun _ _ _ h => h) (Or.inl ⟨by kernel_rfl, ?_⟩) (by assumption) ?_
      rotate_left
      · intro W hSw; (try dsimp only at hSw); go_simp; with_reducible rfl
      try simp only [Act.put, List.setIfInBounds_toArray, List.set_cons_zero, List.set_cons_succ]
      refine take_op (i := 6) (d := some 62) (v := ?_) rfl rfl (by kernel_rfl) (by kernel_rfl) (by kernel_rfl) (fun _ _ _ h => h) (Or.inl ⟨by kernel_rfl, ?_⟩) (by assumption) ?_
      rotate_left
      · intro W hSw; (try dsimp only at hSw); go_simp; with_reducible rfl
      try simp only [Act.put, List.setIfInBounds_toArray, List.set_cons_zero, List.set_cons_succ]
      refine take_op (i := 7) (d := some 63) (v := ?_) rfl rfl (by kernel_rfl) (by kernel_rfl) (by kernel_rfl) (fun _ _ _ h => h) (Or.inl ⟨by kernel_rfl, ?_⟩) (by assumption) ?_
      rotate_left
      · intro W hSw; (try dsimp only at hSw); go_simp; with_reducible rfl
      try simp only [Act.put, List.setIfInBounds_toArray, List.set_cons_zero, List.set_cons_succ]
      refine wpAnyH_ready (rs := [8]) (by kernel_rfl) (by simp) (AllReadyH.cons rfl (fun KK hK => ?_) AllReadyH.nil)
      go_simp
      refine (HFa.out _).mono ?_
      rintro e x4 ⟨rfl, hx4⟩
      go_wp2_with fail
      have hHeld2 := HKeep.out _ _ hx4 hHeld
      refine hK.out _ _ hHeld2 (fun _ => ?_)
      clear hK KK hHeld
      have hHeld := hHeld2
      clear hHeld2
      try simp only [Act.put, List.setIfInBounds_toArray, List.set_cons_zero, List.set_cons_succ]
      refine wpAnyH_ready (rs := [9]) (by kernel_rfl) (by simp) (AllReadyH.cons rfl (fun KK hK => ?_) AllReadyH.nil)
      go_simp
      refine (HRa.out _).mono ?_
      rintro e x5 ⟨rfl, hx5⟩
      go_wp2_with fail
      have hHeld2 := HKeep.out _ _ hx5 hHeld
      refine hK.out _ _ hHeld2 (fun _ => ?_)
      clear hK KK hHeld
      have hHeld := hHeld2
      clear hHeld2
      try simp only [Act.put, List.setIfInBounds_toArray, List.set_cons_zero, List.set_cons_succ]
      refine take_op (i := 10) (d := some 66) (v := ?_) rfl rfl (by kernel_rfl) (by kernel_rfl) (by kernel_rfl) (fun _ _ _ h => h) (Or.inl ⟨by kernel_rfl, ?_⟩) (by assumption) ?_
      rotate_left
      · intro W hSw; (try dsimp only at hSw); go_simp; with_reducible rfl
      try simp only [Act.put, List.setIfInBounds_toArray, List.set_cons_zero, List.set_cons_succ]
      refine take_op (i := 11) (d := some 67) (v := ?_) rfl rfl (by kernel_rfl) (by kernel_rfl) (by kernel_rfl) (fun _ _ _ h => h) (Or.inl ⟨by kernel_rfl, ?_⟩) (by assumption) ?_
      rotate_left
      · intro W hSw; (try dsimp only at hSw); go_simp; with_reducible rfl
      try simp only [Act.put, List.setIfInBounds_toArray, List.set_cons_zero, List.set_cons_succ]
      refine wpAnyH_ready (rs := [12]) (by kernel_rfl) (by simp) (AllReadyH.cons rfl (fun KK hK => ?_) AllReadyH.nil)
      go_simp
      refine (HFb.out _).mono ?_
      rintro e x6 ⟨rfl, hx6⟩
      go_wp2_with fail
      have hHeld2 := HKeep.out _ _ hx6 hHeld
      refine hK.out _ _ hHeld2 (fun _ => ?_)
      clear hK KK hHeld
      have hHeld := hHeld2
      clear hHeld2
      try simp only [Act.put, List.setIfInBounds_toArray, List.set_cons_zero, List.set_cons_succ]
      refine wpAnyH_ready (rs := [13]) (by kernel_rfl) (by simp) (AllReadyH.cons rfl (fun KK hK => ?_) AllReadyH.nil)
      go_simp
      refine (HRb.out _).mono ?_
      rintro e x7 ⟨rfl, hx7⟩
      go_wp2_with fail
      have hHeld2 := HKeep.out _ _ hx7 hHeld
      refine hK.out _ _ hHeld2 (fun _ => ?_)
      clear hK KK hHeld
      have hHeld := hHeld2
      clear hHeld2
      try simp only [Act.put, List.setIfInBounds_toArray, List.set_cons_zero, List.set_cons_succ]
      refine take_op (i := 14) (d := some 70) (v := ?_) rfl rfl (by kernel_rfl) (by kernel_rfl) (by kernel_rfl) (fun _ _ _ h => h) (Or.inl ⟨by kernel_rfl, ?_⟩) (by assumption) ?_
      rotate_left
      · intro W hSw; (try dsimp only at hSw); go_simp; with_reducible rfl
      try simp only [Act.put, List.setIfInBounds_toArray, List.set_cons_zero, List.set_cons_succ]
      refine take_op (i := 15) (d := some 71) (v := ?_) rfl rfl (by kernel_rfl) (by kernel_rfl) (by kernel_rfl) (fun _ _ _ h => h) (Or.inl ⟨by kernel_rfl, ?_⟩) (by assumption) ?_
      rotate_left
      · intro W hSw; (try dsimp only at hSw); go_simp; with_reducible rfl
      try simp only [Act.put, List.setIfInBounds_toArray, List.set_cons_zero, List.set_cons_succ]
      refine skip_op (i := 16) (d := some 72) rfl rfl (by kernel_rfl) (by kernel_rfl) (by kernel_rfl) (fun _ _ _ h => h) (by kernel_rfl) (by assumption) ?_
      try simp only [Act.put, List.setIfInBounds_toArray, List.set_cons_zero, List.set_cons_succ]
      refine skip_op (i := 17) (d := some 73) rfl rfl (by kernel_rfl) (by kernel_rfl) (by kernel_rfl) (fun _ _ _ h => h) (by kernel_rfl) (by assumption) ?_
      try simp only [Act.put, List.setIfInBounds_toArray, List.set_cons_zero, List.set_cons_succ]
      refine skip_op (i := 18) (d := some 74) rfl rfl (by kernel_rfl) (by kernel_rfl) (by kernel_rfl) (fun _ _ _ h => h) (by kernel_rfl) (by assumption) ?_
      try simp only [Act.put, List.setIfInBounds_toArray, List.set_cons_zero, List.set_cons_succ]
      refine skip_op (i := 19) (d := some 75) rfl rfl (by kernel_rfl) (by kernel_rfl) (by kernel_rfl) (fun _ _ _ h => h) (by kernel_rfl) (by assumption) ?_
      try simp only [Act.put, List.setIfInBounds_toArray, List.set_cons_zero, List.set_cons_succ]
      refine skip_op (i := 20) (d := some 76) rfl rfl (by kernel_rfl) (by kernel_rfl) (by kernel_rfl) (fun _ _ _ h => h) (by kernel_rfl) (by assumption) ?_
      try simp only [Act.put, List.setIfInBounds_toArray, List.set_cons_zero, List.set_cons_succ]
      refine skip_op (i := 21) (d := some 77) rfl rfl (by kernel_rfl) (by kernel_rfl) (by kernel_rfl) (fun _ _ _ h => h) (by kernel_rfl) (by assumption) ?_
      try simp only [Act.put, List.setIfInBounds_toArray, List.set_cons_zero, List.set_cons_succ]
      refine skip_op (i := 22) (d := some 78) rfl rfl (by kernel_rfl) (by kernel_rfl) (by kernel_rfl) (fun _ _ _ h => h) (by kernel_rfl) (by assumption) ?_
      try simp only [Act.put, List.setIfInBounds_toArray, List.set_cons_zero, List.set_cons_succ]
      refine skip_op (i := 23) (d := some 79) rfl rfl (by kernel_rfl) (by kernel_rfl) (by kernel_rfl) (fun _ _ _ h => h) (by kernel_rfl) (by assumption) ?_
      try simp only [Act.put, List.setIfInBounds_toArray, List.set_cons_zero, List.set_cons_succ]
      refine skip_op (i := 24) (d := some 80) rfl rfl (by kernel_rfl) (by kernel_rfl) (by kernel_rfl) (fun _ _ _ h => h) (by kernel_rfl) (by assumption) ?_
      try simp only [Act.put, List.setIfInBounds_toArray, List.set_cons_zero, List.set_cons_succ]
      refine take_op (i := 25) (d := some 81) (v := ?_) rfl rfl (by kernel_rfl) (by kernel_rfl) (by kernel_rfl) (fun _ _ _ h => h) (Or.inl ⟨by kernel_rfl, ?_⟩) (by assumption) ?_
      rotate_left
      · intro W hSw; (try dsimp only at hSw); go_simp; with_reducible rfl
      try simp only [Act.put, List.setIfInBounds_toArray, List.set_cons_zero, List.set_cons_succ]
      refine take_op (i := 26) (d := some 82) (v := ?_) rfl rfl (by kernel_rfl) (by kernel_rfl) (by kernel_rfl) (fun _ _ _ h => h) (Or.inl ⟨by kernel_rfl, ?_⟩) (by assumption) ?_
      rotate_left
      · intro W hSw; (try dsimp only at hSw); go_simp; with_reducible rfl
      try simp only [Act.put, List.setIfInBounds_toArray, List.set_cons_zero, List.set_cons_succ]
      refine wpAnyH_done (by kernel_rfl) ?_ _
      have LE : Below w.heap.size w x7 := HW.out.trans' ((below_of_drew hx1).trans' (hx2.trans' (hx3.trans' (hx4.trans' (hx5.trans' (hx6.trans' (hx7)))))))
      have H10 : Hid (Hid (MaxIs x7.drew) ∧ Hid (Box gd GK GI GU GT x7.drew) ∧ Hid (RBox ge' GK GI GU GT x7.drew) ∧ x7.drew.cell? ⟨gd, 0, none⟩ = some (.int .i64 GK) ∧ x7.drew.cell? ⟨gd, 1, none⟩ = some (.int .i64 GI) ∧ x7.drew.cell? ⟨gd, 2, none⟩ = some (.int .u64 GU) ∧ x7.drew.cell? ⟨gd, 3, none⟩ = some (.string GT) ∧ x7.drew.cell? ⟨ge', 0, none⟩ = some (.int .i64 GK) ∧ x7.drew.cell? ⟨ge', 1, none⟩ = some (.int .i64 GI) ∧ x7.drew.cell? ⟨ge', 2, none⟩ = some (.int .u64 GU) ∧ x7.drew.cell? ⟨ge', 3, none⟩ = some (.string GT)) := Lib.hid (HMy.out x7.drew (Lib.hid hHeld.1.out.drew) hHeld.2.2.2.1 hHeld.2.2.2.2.1)
      clear hHeld HKeep H8 HMk HR HRa HRb HFa HFb HW hx1 hx2 hx3 hx4 hx5 hx6 hx7
      go_wp2_with fail
      go_region_held3 (fun W => Hid (MaxIs W) ∧ Hid (Box gd GK GI GU GT W) ∧ Hid (RBox ge' GK GI GU GT W) ∧ W.cell? ⟨gd, 0, none⟩ = some (.int .i64 GK) ∧ W.cell? ⟨gd, 1, none⟩ = some (.int .i64 GI) ∧ W.cell? ⟨gd, 2, none⟩ = some (.int .u64 GU) ∧ W.cell? ⟨gd, 3, none⟩ = some (.string GT) ∧ W.cell? ⟨ge', 0, none⟩ = some (.int .i64 GK) ∧ W.cell? ⟨ge', 1, none⟩ = some (.int .i64 GI) ∧ W.cell? ⟨ge', 2, none⟩ = some (.int .u64 GU) ∧ W.cell? ⟨ge', 3, none⟩ = some (.string GT))
        (first | assumption | exact H10.out | exact HKeepy.out _ _ (by assumption) (by assumption))
        (first
          | (go_at_call 12; refine (HFg.out _).mono ?_; rintro e y1 ⟨rfl, hy1⟩)
          | (go_at_call 19; refine (HF.out _ (HMq.out _ (by assumption))).mono ?_; rintro e y2 ⟨rfl, hy2, _⟩))
      all_goals
        go_wp2_with fail
        go_ret
        exact ⟨rfl, LE.trans' ((below_of_drew hy1).trans' hy2)⟩
    | true =>
      have HCe := CP.rcmp_eq (a := ⟨K, I, U, T.data.toList⟩) (b := ⟨K', I', U', T'.data.toList⟩) (of_decide_eq_true hra) (of_decide_eq_true hrb)
      rw [HCe] at HCb
      clear hra hrb HCe
      generalize CP.cmp ⟨K, I, U, T.data.toList⟩ ⟨K', I', U', T'.data.toList⟩ = c at *
      refine wp_region_held_drew (S := fun W => Hid (MaxIs W) ∧ Hid (Box ga K I U T W) ∧ Hid (Box gb K' I' U' T' W) ∧ Hid (Box gd GK GI GU GT W) ∧ Hid (RBox ge' GK GI GU GT W) ∧ W.cell? ⟨ga, 0, none⟩ = some (.int .i64 K) ∧ W.cell? ⟨ga, 1, none⟩ = some (.int .i64 I) ∧ W.cell? ⟨ga, 2, none⟩ = some (.int .u64 U) ∧ W.cell? ⟨ga, 3, none⟩ = some (.string T) ∧ W.cell? ⟨gb, 0, none⟩ = some (.int .i64 K') ∧ W.cell? ⟨gb, 1, none⟩ = some (.int .i64 I') ∧ W.cell? ⟨gb, 2, none⟩ = some (.int .u64 U') ∧ W.cell? ⟨gb, 3, none⟩ = some (.string T')) (by kernel_rfl) H8.out (fun hHeld => ?_)
      refine take_op (i := 0) (d := some 56) (v := ?_) rfl rfl (by kernel_rfl) (by kernel_rfl) (by kernel_rfl) (fun _ _ _ h => h) (Or.inl ⟨by kernel_rfl, ?_⟩) (by assumption) ?_
      rotate_left
      · intro W hSw; (try dsimp only at hSw); go_simp; with_reducible rfl
      try simp only [Act.put, List.setIfInBounds_toArray, List.set_cons_zero, List.set_cons_succ]
      refine take_op (i := 2) (d := some 58) (v := ?_) rfl rfl (by kernel_rfl) (by kernel_rfl) (by kernel_rfl) (fun _ _ _ h => h) (Or.inl ⟨by kernel_rfl, ?_⟩) (by assumption) ?_
      rotate_left
      · intro W hSw; (try dsimp only at hSw); go_simp; with_reducible rfl
      try simp only [Act.put, List.setIfInBounds_toArray, List.set_cons_zero, List.set_cons_succ]
      refine wpAnyH_ready (rs := [1]) (by kernel_rfl) (by simp) (AllReadyH.cons rfl (fun KK hK => ?_) AllReadyH.nil)
      go_simp
      refine (HR.out _).mono ?_
      rintro e x1 ⟨rfl, hx1⟩
      go_wp2_with fail
      have hHeld2 := HKeep.out _ _ hx1 hHeld
      refine hK.out _ _ hHeld2 (fun _ => ?_)
      clear hK KK hHeld
      have hHeld := hHeld2
      clear hHeld2
      try simp only [Act.put, List.setIfInBounds_toArray, List.set_cons_zero, List.set_cons_succ]
      refine wpAnyH_ready (rs := [3]) (by kernel_rfl) (by simp) (AllReadyH.cons rfl (fun KK hK => ?_) AllReadyH.nil)
      go_simp
      refine (HFa.out _).mono ?_
      rintro e x2 ⟨rfl, hx2⟩
      go_wp2_with fail
      have hHeld2 := HKeep.out _ _ hx2 hHeld
      refine hK.out _ _ hHeld2 (fun _ => ?_)
      clear hK KK hHeld
      have hHeld := hHeld2
      clear hHeld2
      try simp only [Act.put, List.setIfInBounds_toArray, List.set_cons_zero, List.set_cons_succ]
      refine wpAnyH_ready (rs := [4]) (by kernel_rfl) (by simp) (AllReadyH.cons rfl (fun KK hK => ?_) AllReadyH.nil)
      go_simp
      refine (HRa.out _).mono ?_
      rintro e x3 ⟨rfl, hx3⟩
      go_wp2_with fail
      have hHeld2 := HKeep.out _ _ hx3 hHeld
      refine hK.out _ _ hHeld2 (fun _ => ?_)
      clear hK KK hHeld
      have hHeld := hHeld2
      clear hHeld2
      try simp only [Act.put, List.setIfInBounds_toArray, List.set_cons_zero, List.set_cons_succ]
      refine take_op (i := 5) (d := some 61) (v := ?_) rfl rfl (by kernel_rfl) (by kernel_rfl) (by kernel_rfl) (fun _ _ _ h => h) (Or.inl ⟨by kernel_rfl, ?_⟩) (by assumption) ?_
      rotate_left
      · intro W hSw; (try dsimp only at hSw); go_simp; with_reducible rfl
      try simp only [Act.put, List.setIfInBounds_toArray, List.set_cons_zero, List.set_cons_succ]
      refine take_op (i := 6) (d := some 62) (v := ?_) rfl rfl (by kernel_rfl) (by kernel_rfl) (by kernel_rfl) (fun _ _ _ h => h) (Or.inl ⟨by kernel_rfl, ?_⟩) (by assumption) ?_
      rotate_left
      · intro W hSw; (try dsimp only at hSw); go_simp; with_reducible rfl
      try simp only [Act.put, List.setIfInBounds_toArray, List.set_cons_zero, List.set_cons_succ]
      refine take_op (i := 7) (d := some 63) (v := ?_) rfl rfl (by kernel_rfl) (by kernel_rfl) (by kernel_rfl) (fun _ _ _ h => h) (Or.inl ⟨by kernel_rfl, ?_⟩) (by assumption) ?_
      rotate_left
      · intro W hSw; (try dsimp only at hSw); go_simp; with_reducible rfl
      try simp only [Act.put, List.setIfInBounds_toArray, List.set_cons_zero, List.set_cons_succ]
      refine wpAnyH_ready (rs := [8]) (by kernel_rfl) (by simp) (AllReadyH.cons rfl (fun KK hK => ?_) AllReadyH.nil)
      go_simp
      refine (HFa.out _).mono ?_
      rintro e x4 ⟨rfl, hx4⟩
      go_wp2_with fail
      have hHeld2 := HKeep.out _ _ hx4 hHeld
      refine hK.out _ _ hHeld2 (fun _ => ?_)
      clear hK KK hHeld
      have hHeld := hHeld2
      clear hHeld2
      try simp only [Act.put, List.setIfInBounds_toArray, List.set_cons_zero, List.set_cons_succ]
      refine wpAnyH_ready (rs := [9]) (by kernel_rfl) (by simp) (AllReadyH.cons rfl (fun KK hK => ?_) AllReadyH.nil)
      go_simp
      refine (HRa.out _).mono ?_
      rintro e x5 ⟨rfl, hx5⟩
      go_wp2_with fail
      have hHeld2 := HKeep.out _ _ hx5 hHeld
      refine hK.out _ _ hHeld2 (fun _ => ?_)
      clear hK KK hHeld
      have hHeld := hHeld2
      clear hHeld2
      try simp only [Act.put, List.setIfInBounds_toArray, List.set_cons_zero, List.set_cons_succ]
      refine take_op (i := 10) (d := some 66) (v := ?_) rfl rfl (by kernel_rfl) (by kernel_rfl) (by kernel_rfl) (fun _ _ _ h => h) (Or.inl ⟨by kernel_rfl, ?_⟩) (by assumption) ?_
      rotate_left
      · intro W hSw; (try dsimp only at hSw); go_simp; with_reducible rfl
      try simp only [Act.put, List.setIfInBounds_toArray, List.set_cons_zero, List.set_cons_succ]
      refine take_op (i := 11) (d := some 67) (v := ?_) rfl rfl (by kernel_rfl) (by kernel_rfl) (by kernel_rfl) (fun _ _ _ h => h) (Or.inl ⟨by kernel_rfl, ?_⟩) (by assumption) ?_
      rotate_left
      · intro W hSw; (try dsimp only at hSw); go_simp; with_reducible rfl
      try simp only [Act.put, List.setIfInBounds_toArray, List.set_cons_zero, List.set_cons_succ]
      refine wpAnyH_ready (rs := [12]) (by kernel_rfl) (by simp) (AllReadyH.cons rfl (fun KK hK => ?_) AllReadyH.nil)
      go_simp
      refine (HFb.out _).mono ?_
      rintro e x6 ⟨rfl, hx6⟩
      go_wp2_with fail
      have hHeld2 := HKeep.out _ _ hx6 hHeld
      refine hK.out _ _ hHeld2 (fun _ => ?_)
      clear hK KK hHeld
      have hHeld := hHeld2
      clear hHeld2
      try simp only [Act.put, List.setIfInBounds_toArray, List.set_cons_zero, List.set_cons_succ]
      refine wpAnyH_ready (rs := [13]) (by kernel_rfl) (by simp) (AllReadyH.cons rfl (fun KK hK => ?_) AllReadyH.nil)
      go_simp
      refine (HRb.out _).mono ?_
      rintro e x7 ⟨rfl, hx7⟩
      go_wp2_with fail
      have hHeld2 := HKeep.out _ _ hx7 hHeld
      refine hK.out _ _ hHeld2 (fun _ => ?_)
      clear hK KK hHeld
      have hHeld := hHeld2
      clear hHeld2
      try simp only [Act.put, List.setIfInBounds_toArray, List.set_cons_zero, List.set_cons_succ]
      refine take_op (i := 14) (d := some 70) (v := ?_) rfl rfl (by kernel_rfl) (by kernel_rfl) (by kernel_rfl) (fun _ _ _ h => h) (Or.inl ⟨by kernel_rfl, ?_⟩) (by assumption) ?_
      rotate_left
      · intro W hSw; (try dsimp only at hSw); go_simp; with_reducible rfl
      try simp only [Act.put, List.setIfInBounds_toArray, List.set_cons_zero, List.set_cons_succ]
      refine take_op (i := 15) (d := some 71) (v := ?_) rfl rfl (by kernel_rfl) (by kernel_rfl) (by kernel_rfl) (fun _ _ _ h => h) (Or.inl ⟨by kernel_rfl, ?_⟩) (by assumption) ?_
      rotate_left
      · intro W hSw; (try dsimp only at hSw); go_simp; with_reducible rfl
      try simp only [Act.put, List.setIfInBounds_toArray, List.set_cons_zero, List.set_cons_succ]
      refine take_op (i := 16) (d := some 72) (v := ?_) rfl rfl (by kernel_rfl) (by kernel_rfl) (by kernel_rfl) (fun _ _ _ h => h) (Or.inl ⟨by kernel_rfl, ?_⟩) (by assumption) ?_
      rotate_left
      · intro W hSw; (try dsimp only at hSw); go_simp; with_reducible rfl
      try simp only [Act.put, List.setIfInBounds_toArray, List.set_cons_zero, List.set_cons_succ]
      refine take_op (i := 17) (d := some 73) (v := ?_) rfl rfl (by kernel_rfl) (by kernel_rfl) (by kernel_rfl) (fun _ _ _ h => h) (Or.inl ⟨by kernel_rfl, ?_⟩) (by assumption) ?_
      rotate_left
      · intro W hSw; (try dsimp only at hSw); go_simp; with_reducible rfl
      try simp only [Act.put, List.setIfInBounds_toArray, List.set_cons_zero, List.set_cons_succ]
      refine take_op (i := 19) (d := some 75) (v := ?_) rfl rfl (by kernel_rfl) (by kernel_rfl) (by kernel_rfl) (fun _ _ _ h => h) (Or.inl ⟨by kernel_rfl, ?_⟩) (by assumption) ?_
      rotate_left
      · intro W hSw; (try dsimp only at hSw); go_simp; with_reducible rfl
      try simp only [Act.put, List.setIfInBounds_toArray, List.set_cons_zero, List.set_cons_succ]
      refine take_op (i := 21) (d := some 77) (v := ?_) rfl rfl (by kernel_rfl) (by kernel_rfl) (by kernel_rfl) (fun _ _ _ h => h) (Or.inl ⟨by kernel_rfl, ?_⟩) (by assumption) ?_
      rotate_left
      · intro W hSw; (try dsimp only at hSw); go_simp; with_reducible rfl
      try simp only [Act.put, List.setIfInBounds_toArray, List.set_cons_zero, List.set_cons_succ]
      refine wpAnyH_ready (rs := [18]) (by kernel_rfl) (by simp) (AllReadyH.cons rfl (fun KK hK => ?_) AllReadyH.nil)
      go_simp
      refine (HCa.out _).mono ?_
      rintro e x8 ⟨rfl, hx8⟩
      go_wp2_with fail
      have hHeld2 := HKeep.out _ _ hx8 hHeld
      refine hK.out _ _ hHeld2 (fun _ => ?_)
      clear hK KK hHeld
      have hHeld := hHeld2
      clear hHeld2
      try simp only [Act.put, List.setIfInBounds_toArray, List.set_cons_zero, List.set_cons_succ]
      refine wpAnyH_ready (rs := [20]) (by kernel_rfl) (by simp) (AllReadyH.cons rfl (fun KK hK => ?_) AllReadyH.nil)
      go_simp
      refine (HFa.out _).mono ?_
      rintro e x9 ⟨rfl, hx9⟩
      go_wp2_with fail
      have hHeld2 := HKeep.out _ _ hx9 hHeld
      refine hK.out _ _ hHeld2 (fun _ => ?_)
      clear hK KK hHeld
      have hHeld := hHeld2
      clear hHeld2
      try simp only [Act.put, List.setIfInBounds_toArray, List.set_cons_zero, List.set_cons_succ]
      refine wpAnyH_ready (rs := [22]) (by kernel_rfl) (by simp) (AllReadyH.cons rfl (fun KK hK => ?_) AllReadyH.nil)
      go_simp
      refine (HFb.out _).mono ?_
      rintro e x10 ⟨rfl, hx10⟩
      go_wp2_with fail
      have hHeld2 := HKeep.out _ _ hx10 hHeld
      refine hK.out _ _ hHeld2 (fun _ => ?_)
      clear hK KK hHeld
      have hHeld := hHeld2
      clear hHeld2
      try simp only [Act.put, List.setIfInBounds_toArray, List.set_cons_zero, List.set_cons_succ]
      refine wpAnyH_ready (rs := [23]) (by kernel_rfl) (by simp) (AllReadyH.cons rfl (fun KK hK => ?_) AllReadyH.nil)
      go_simp
      refine (HCb.out _).mono ?_
      rintro e x11 ⟨rfl, hx11⟩
      go_wp2_with fail
      have hHeld2 := HKeep.out _ _ hx11 hHeld
      refine hK.out _ _ hHeld2 (fun _ => ?_)
      clear hK KK hHeld
      have hHeld := hHeld2
      clear hHeld2
      try simp only [Act.put, List.setIfInBounds_toArray, List.set_cons_zero, List.set_cons_succ]
      refine take_op (i := 24) (d := some 80) (v := ?_) rfl rfl (by kernel_rfl) (by kernel_rfl) (by kernel_rfl) (fun _ _ _ h => h) (Or.inl ⟨by kernel_rfl, ?_⟩) (by assumption) ?_
      rotate_left
      · intro W hSw; (try dsimp only at hSw); go_simp; with_reducible rfl
      try simp only [Act.put, List.setIfInBounds_toArray, List.set_cons_zero, List.set_cons_succ]
      refine take_op (i := 25) (d := some 81) (v := ?_) rfl rfl (by kernel_rfl) (by kernel_rfl) (by kernel_rfl) (fun _ _ _ h => h) (Or.inl ⟨by kernel_rfl, ?_⟩) (by assumption) ?_
      rotate_left
      · intro W hSw; (try dsimp only at hSw); go_simp; with_reducible rfl
      try simp only [Act.put, List.setIfInBounds_toArray, List.set_cons_zero, List.set_cons_succ]
      refine take_op (i := 26) (d := some 82) (v := ?_) rfl rfl (by kernel_rfl) (by kernel_rfl) (by kernel_rfl) (fun _ _ _ h => h) (Or.inl ⟨by kernel_rfl, ?_⟩) (by assumption) ?_
      rotate_left
      · intro W hSw; (try dsimp only at hSw); go_simp; with_reducible rfl
      try simp only [Act.put, List.setIfInBounds_toArray, List.set_cons_zero, List.set_cons_succ]
      refine wpAnyH_done (by kernel_rfl) ?_ _
      have LE : Below w.heap.size w x11 := HW.out.trans' ((below_of_drew hx1).trans' (hx2.trans' (hx3.trans' (hx4.trans' (hx5.trans' (hx6.trans' (hx7.trans' (hx8.trans' (hx9.trans' (hx10.trans' (hx11)))))))))))
      have H10 : Hid (Hid (MaxIs x11.drew) ∧ Hid (Box gd GK GI GU GT x11.drew) ∧ Hid (RBox ge' GK GI GU GT x11.drew) ∧ x11.drew.cell? ⟨gd, 0, none⟩ = some (.int .i64 GK) ∧ x11.drew.cell? ⟨gd, 1, none⟩ = some (.int .i64 GI) ∧ x11.drew.cell? ⟨gd, 2, none⟩ = some (.int .u64 GU) ∧ x11.drew.cell? ⟨gd, 3, none⟩ = some (.string GT) ∧ x11.drew.cell? ⟨ge', 0, none⟩ = some (.int .i64 GK) ∧ x11.drew.cell? ⟨ge', 1, none⟩ = some (.int .i64 GI) ∧ x11.drew.cell? ⟨ge', 2, none⟩ = some (.int .u64 GU) ∧ x11.drew.cell? ⟨ge', 3, none⟩ = some (.string GT)) := Lib.hid (HMy.out x11.drew (Lib.hid hHeld.1.out.drew) hHeld.2.2.2.1 hHeld.2.2.2.2.1)
      clear hHeld HKeep H8 HMk HR HRa HRb HFa HFb HW hx1 hx2 hx3 hx4 hx5 hx6 hx7 hx8 hx9 hx10 hx11
      go_wp2_with fail
      go_region_held3 (fun W => Hid (MaxIs W) ∧ Hid (Box gd GK GI GU GT W) ∧ Hid (RBox ge' GK GI GU GT W) ∧ W.cell? ⟨gd, 0, none⟩ = some (.int .i64 GK) ∧ W.cell? ⟨gd, 1, none⟩ = some (.int .i64 GI) ∧ W.cell? ⟨gd, 2, none⟩ = some (.int .u64 GU) ∧ W.cell? ⟨gd, 3, none⟩ = some (.string GT) ∧ W.cell? ⟨ge', 0, none⟩ = some (.int .i64 GK) ∧ W.cell? ⟨ge', 1, none⟩ = some (.int .i64 GI) ∧ W.cell? ⟨ge', 2, none⟩ = some (.int .u64 GU) ∧ W.cell? ⟨ge', 3, none⟩ = some (.string GT))
        (first | assumption | exact H10.out | exact HKeepy.out _ _ (by assumption) (by assumption))
        (first
          | (go_at_call 12; refine (HFg.out _).mono ?_; rintro e y1 ⟨rfl, hy1⟩)
          | (go_at_call 19; refine (HF.out _ (HMq.out _ (by assumption))).mono ?_; rintro e y2 ⟨rfl, hy2, _⟩))
      all_goals
        go_wp2_with fail
        go_ret
        exact ⟨rfl, LE.trans' ((below_of_drew hy1).trans' hy2)⟩
end
end Go.Proofs.YtfclpoceaolgiaaDoor
