/-
  The walk of the law ColThree.
-/
import Derived.Test.YtfclpoceaolgiaaDoorCRef
import Derived.Test.YtfclpoceaolgiaaDoorCCmp
import Derived.Test.YtfclpoceaolgiaaDoorCOrd
namespace Go.Proofs.YtfclpoceaolgiaaDoor
open Go.RowKit
set_option linter.unusedVariables false

section
attribute [local go_sem high] eql_col
set_option maxHeartbeats 4000000 in
set_option maxRecDepth 100000 in
theorem colThree_walk (K I U : Int) (S : ByteArray) (K' I' U' : Int) (S' : ByteArray) (L J V : Int) (R : ByteArray) (w : World) (M : MaxIs w) (ho : CP.Ok ⟨K, I, U, S.data.toList⟩) (hS : S.size ≤ maxLen) (ho' : CP.Ok ⟨K', I', U', S'.data.toList⟩) (hS' : S'.size ≤ maxLen) (ho2 : CP.Ok ⟨L, J, V, R.data.toList⟩) (hS2 : R.size ≤ maxLen) :
    Calls Tryd.prog 7 #[.agg #[.int .i64 K, .int .i64 I, .int .u64 U, .string S], .agg #[.int .i64 K', .int .i64 I', .int .u64 U', .string S'], .agg #[.int .i64 L, .int .i64 J, .int .u64 V, .string R]] w fun e w' => e = .returned (.bool true) ∧ Below w.heap.size w w' := by
  obtain ⟨T, hT, HC'⟩ := cut_any K I U S hS
  have H1 := Lib.hid HC'
  clear HC'
  obtain ⟨T', hT', HC'⟩ := cut_any K' I' U' S' hS'
  have H2 := Lib.hid HC'
  clear HC'
  obtain ⟨Q, hQ, HC'⟩ := cut_any L J V R hS2
  have H3 := Lib.hid HC'
  clear HC' hS hS' hS2
  have oa : CP.Ok ⟨K, I, U, T.data.toList⟩ := ho
  have ob : CP.Ok ⟨K', I', U', T'.data.toList⟩ := ho'
  have oc : CP.Ok ⟨L, J, V, Q.data.toList⟩ := ho2
  have ua : 0 ≤ U := ho.2.2.1
  have ub : 0 ≤ U' := ho'.2.2.1
  have uc : 0 ≤ V := ho2.2.2.1
  clear ho ho' ho2
  have HF := Lib.hid fixed_tells
  have L0 : Below w.heap.size w (((w.alloc (.cells #[.int .i64 K, .int .i64 I, .int .u64 U, .string S] 24)).alloc (.cells #[.int .i64 K', .int .i64 I', .int .u64 U', .string S'] 24)).alloc (.cells #[.int .i64 L, .int .i64 J, .int .u64 V, .string R] 24)) := ((below_alloc _ _).trans' (below_alloc _ _)).trans' (below_alloc _ _)
  have A0 : Hid (Box (w.heap.size) K I U S (((w.alloc (.cells #[.int .i64 K, .int .i64 I, .int .u64 U, .string S] 24)).alloc (.cells #[.int .i64 K', .int .i64 I', .int .u64 U', .string S'] 24)).alloc (.cells #[.int .i64 L, .int .i64 J, .int .u64 V, .string R] 24))) := Lib.hid (((Box.new K I U S w).below (below_alloc _ _)).below (below_alloc _ _))
  have B0 : Hid (Box (w.heap.size + 1) K' I' U' S' (((w.alloc (.cells #[.int .i64 K, .int .i64 I, .int .u64 U, .string S] 24)).alloc (.cells #[.int .i64 K', .int .i64 I', .int .u64 U', .string S'] 24)).alloc (.cells #[.int .i64 L, .int .i64 J, .int .u64 V, .string R] 24))) := Lib.hid (by
    have h := (Box.new K' I' U' S' (w.alloc (.cells #[.int .i64 K, .int .i64 I, .int .u64 U, .string S] 24))).below (below_alloc _ (.cells #[.int .i64 L, .int .i64 J, .int .u64 V, .string R] 24))
    rw [show (w.alloc (.cells #[.int .i64 K, .int .i64 I, .int .u64 U, .string S] 24)).heap.size = w.heap.size + 1 by simp] at h; exact h)
  have C0 : Hid (Box (w.heap.size + 1 + 1) L J V R (((w.alloc (.cells #[.int .i64 K, .int .i64 I, .int .u64 U, .string S] 24)).alloc (.cells #[.int .i64 K', .int .i64 I', .int .u64 U', .string S'] 24)).alloc (.cells #[.int .i64 L, .int .i64 J, .int .u64 V, .string R] 24))) := Lib.hid (by
    have h := Box.new L J V R ((w.alloc (.cells #[.int .i64 K, .int .i64 I, .int .u64 U, .string S] 24)).alloc (.cells #[.int .i64 K', .int .i64 I', .int .u64 U', .string S'] 24))
    rw [show ((w.alloc (.cells #[.int .i64 K, .int .i64 I, .int .u64 U, .string S] 24)).alloc (.cells #[.int .i64 K', .int .i64 I', .int .u64 U', .string S'] 24)).heap.size = w.heap.size + 1 + 1 by simp] at h; exact h)
  go_enter Tryd.func7, Tryd.ntmps7
  go_wp2_with fail
  refine (H1.out _).mono ?_
  rintro e w1 ⟨rfl, hb1⟩
  obtain ⟨c0, c1, c2, c3⟩ := (A0.out.below hb1).cells
  obtain ⟨f0, f1, f2, f3⟩ := (A0.out.below hb1).free
  have A1 := Lib.hid (set4_box (A0.out.below hb1) K I U T)
  have B1 := Lib.hid ((B0.out.below hb1).set4 (g := w.heap.size) (by omega) K I U T)
  have C1 := Lib.hid ((C0.out.below hb1).set4 (g := w.heap.size) (by omega) K I U T)
  have L1 := set4_below (L0.trans' hb1) (by omega : w.heap.size ≤ w.heap.size) K I U T
  unfold set4 at A1 B1 C1 L1
  clear A0 B0 C0 L0 hb1 H1
  obtain ⟨j0, j1, j2, j3⟩ := B1.out.cells
  go_wp2_with fail
  generalize (((w1.setCell ⟨w.heap.size, 0, none⟩ (.int .i64 K)).setCell ⟨w.heap.size, 1, none⟩ (.int .i64 I)).setCell ⟨w.heap.size, 2, none⟩ (.int .u64 U)).setCell ⟨w.heap.size, 3, none⟩ (.string T) = W1 at *
  clear c0 c1 c2 c3 f0 f1 f2 f3 j0 j1 j2 j3
  refine (H2.out _).mono ?_
  rintro e w2 ⟨rfl, hb2⟩
  obtain ⟨c0, c1, c2, c3⟩ := (B1.out.below hb2).cells
  obtain ⟨f0, f1, f2, f3⟩ := (B1.out.below hb2).free
  have B2 := Lib.hid (set4_box (B1.out.below hb2) K' I' U' T')
  have A2 := Lib.hid ((A1.out.below hb2).set4 (g := w.heap.size + 1) (by omega) K' I' U' T')
  have C2 := Lib.hid ((C1.out.below hb2).set4 (g := w.heap.size + 1) (by omega) K' I' U' T')
  have L2 := set4_below (L1.trans' hb2) (by omega : w.heap.size ≤ w.heap.size + 1) K' I' U' T'
  unfold set4 at A2 B2 C2 L2
  clear A1 B1 C1 L1 hb2 H2
  obtain ⟨j0, j1, j2, j3⟩ := C2.out.cells
  go_wp2_with fail
  generalize (((w2.setCell ⟨w.heap.size + 1, 0, none⟩ (.int .i64 K')).setCell ⟨w.heap.size + 1, 1, none⟩ (.int .i64 I')).setCell ⟨w.heap.size + 1, 2, none⟩ (.int .u64 U')).setCell ⟨w.heap.size + 1, 3, none⟩ (.string T') = W2 at *
  clear c0 c1 c2 c3 f0 f1 f2 f3 j0 j1 j2 j3
  refine (H3.out _).mono ?_
  rintro e w3 ⟨rfl, hb3⟩
  obtain ⟨c0, c1, c2, c3⟩ := (C2.out.below hb3).cells
  obtain ⟨f0, f1, f2, f3⟩ := (C2.out.below hb3).free
  have C3 := Lib.hid (set4_box (C2.out.below hb3) L J V Q)
  have A3 := Lib.hid ((A2.out.below hb3).set4 (g := w.heap.size + 1 + 1) (by omega) L J V Q)
  have B3 := Lib.hid ((B2.out.below hb3).set4 (g := w.heap.size + 1 + 1) (by omega) L J V Q)
  have L3 := set4_below (L2.trans' hb3) (by omega : w.heap.size ≤ w.heap.size + 1 + 1) L J V Q
  unfold set4 at A3 B3 C3 L3
  clear A2 B2 C2 L2 hb3 H3
  obtain ⟨j0, j1, j2, j3⟩ := A3.out.cells
  go_wp2_with fail
  generalize (((w3.setCell ⟨w.heap.size + 1 + 1, 0, none⟩ (.int .i64 L)).setCell ⟨w.heap.size + 1 + 1, 1, none⟩ (.int .i64 J)).setCell ⟨w.heap.size + 1 + 1, 2, none⟩ (.int .u64 V)).setCell ⟨w.heap.size + 1 + 1, 3, none⟩ (.string Q) = W3 at *
  clear c0 c1 c2 c3 f0 f1 f2 f3 j0 j1 j2 j3
  have M3 := M.below L3
  clear M
  refine (ref_any _ _ _ _ _).mono ?_
  rintro e w4 ⟨rfl, hb4⟩
  go_wp2_with fail
  refine (rright_any _ _ _ _ _ ua).mono ?_
  rintro e w5 ⟨rfl, hb5⟩
  have A5 := Lib.hid ((A3.out.below hb4).below hb5)
  have B5 := Lib.hid ((B3.out.below hb4).below hb5)
  have C5 := Lib.hid ((C3.out.below hb4).below hb5)
  have L5 := (L3.trans' hb4).trans' hb5
  have M5 := (M3.below hb4).below hb5
  clear A3 B3 C3 L3 M3 hb4 hb5
  obtain ⟨j0, j1, j2, j3⟩ := B5.out.cells
  cases ra : rt K I U T
  · go_wp2_with fail
    refine (HF.out _ M5).mono ?_
    rintro e w7 ⟨rfl, hb7, _⟩
    go_wp2_with fail
    go_ret
    exact ⟨rfl, L5.trans' hb7⟩
  go_wp2_with fail
  clear j0 j1 j2 j3
  refine (ref_any _ _ _ _ _).mono ?_
  rintro e w6 ⟨rfl, hb4⟩
  go_wp2_with fail
  refine (rright_any _ _ _ _ _ ub).mono ?_
  rintro e w7 ⟨rfl, hb5⟩
  have A7 := Lib.hid ((A5.out.below hb4).below hb5)
  have B7 := Lib.hid ((B5.out.below hb4).below hb5)
  have C7 := Lib.hid ((C5.out.below hb4).below hb5)
  have L7 := (L5.trans' hb4).trans' hb5
  have M7 := (M5.below hb4).below hb5
  clear A5 B5 C5 L5 M5 hb4 hb5
  obtain ⟨j0, j1, j2, j3⟩ := C7.out.cells
  cases rb : rt K' I' U' T'
  · go_wp2_with fail
    refine (HF.out _ M7).mono ?_
    rintro e w8 ⟨rfl, hb8, _⟩
    go_wp2_with fail
    go_ret
    exact ⟨rfl, L7.trans' hb8⟩
  go_wp2_with fail
  clear j0 j1 j2 j3
  refine (ref_any _ _ _ _ _).mono ?_
  rintro e w8 ⟨rfl, hb4⟩
  go_wp2_with fail
  refine (rright_any _ _ _ _ _ uc).mono ?_
  rintro e w9 ⟨rfl, hb5⟩
  have A9 := Lib.hid ((A7.out.below hb4).below hb5)
  have B9 := Lib.hid ((B7.out.below hb4).below hb5)
  have C9 := Lib.hid ((C7.out.below hb4).below hb5)
  have L9 := (L7.trans' hb4).trans' hb5
  have M9 := (M7.below hb4).below hb5
  clear A7 B7 C7 L7 M7 hb4 hb5
  cases rc : rt L J V Q
  · go_wp2_with fail
    refine (HF.out _ M9).mono ?_
    rintro e w10 ⟨rfl, hb8, _⟩
    go_wp2_with fail
    go_ret
    exact ⟨rfl, L9.trans' hb8⟩
  have ra' : CP.Right ⟨K, I, U, T.data.toList⟩ := of_decide_eq_true ra
  have rb' : CP.Right ⟨K', I', U', T'.data.toList⟩ := of_decide_eq_true rb
  have rc' : CP.Right ⟨L, J, V, Q.data.toList⟩ := of_decide_eq_true rc
  have HX := Lib.hid (CP.cmp_three oa ob oc ra' rb' rc')
  have Hab := Lib.hid (compare_any K I U T K' I' U' T')
  have Hbc := Lib.hid (compare_any K' I' U' T' L J V Q)
  have Hac := Lib.hid (compare_any K I U T L J V Q)
  have Hba := Lib.hid (compare_any K' I' U' T' K I U T)
  have Haa := Lib.hid (compare_any K I U T K I U T)
  have HS := Lib.hid (sameV_iff K I U T K' I' U' T')
  rw [HX.out.2.2.2.1] at Hba
  rw [HX.out.2.2.2.2.2.1] at Haa
  clear ra rb rc ra' rb' rc' oa ob oc ua ub uc
  generalize CP.cmp ⟨K, I, U, T.data.toList⟩ ⟨K', I', U', T'.data.toList⟩ = x at *
  generalize CP.cmp ⟨K', I', U', T'.data.toList⟩ ⟨L, J, V, Q.data.toList⟩ = y at *
  generalize CP.cmp ⟨K, I, U, T.data.toList⟩ ⟨L, J, V, Q.data.toList⟩ = z at *
  have HMk : Hid (∀ W, Hid (Box w.heap.size K I U T W) → Hid (Box (w.heap.size + 1) K' I' U' T' W) → Hid (Box (w.heap.size + 1 + 1) L J V Q W) → Hid (Box w.heap.size K I U T W) ∧ Hid (Box (w.heap.size + 1) K' I' U' T' W) ∧ Hid (Box (w.heap.size + 1 + 1) L J V Q W) ∧ W.cell? ⟨w.heap.size, 0, none⟩ = some (.int .i64 K) ∧ W.cell? ⟨w.heap.size, 1, none⟩ = some (.int .i64 I) ∧ W.cell? ⟨w.heap.size, 2, none⟩ = some (.int .u64 U) ∧ W.cell? ⟨w.heap.size, 3, none⟩ = some (.string T) ∧ W.cell? ⟨w.heap.size + 1, 0, none⟩ = some (.int .i64 K') ∧ W.cell? ⟨w.heap.size + 1, 1, none⟩ = some (.int .i64 I') ∧ W.cell? ⟨w.heap.size + 1, 2, none⟩ = some (.int .u64 U') ∧ W.cell? ⟨w.heap.size + 1, 3, none⟩ = some (.string T') ∧ W.cell? ⟨w.heap.size + 1 + 1, 0, none⟩ = some (.int .i64 L) ∧ W.cell? ⟨w.heap.size + 1 + 1, 1, none⟩ = some (.int .i64 J) ∧ W.cell? ⟨w.heap.size + 1 + 1, 2, none⟩ = some (.int .u64 V) ∧ W.cell? ⟨w.heap.size + 1 + 1, 3, none⟩ = some (.string Q)) := Lib.hid (fun W A B C => ⟨A, B, C, A.out.cells.1, A.out.cells.2.1, A.out.cells.2.2.1, A.out.cells.2.2.2, B.out.cells.1, B.out.cells.2.1, B.out.cells.2.2.1, B.out.cells.2.2.2, C.out.cells.1, C.out.cells.2.1, C.out.cells.2.2.1, C.out.cells.2.2.2⟩)
  have HKeep : Hid (∀ W W' : World, Below W.heap.size W W' → (Hid (Box w.heap.size K I U T W) ∧ Hid (Box (w.heap.size + 1) K' I' U' T' W) ∧ Hid (Box (w.heap.size + 1 + 1) L J V Q W) ∧ W.cell? ⟨w.heap.size, 0, none⟩ = some (.int .i64 K) ∧ W.cell? ⟨w.heap.size, 1, none⟩ = some (.int .i64 I) ∧ W.cell? ⟨w.heap.size, 2, none⟩ = some (.int .u64 U) ∧ W.cell? ⟨w.heap.size, 3, none⟩ = some (.string T) ∧ W.cell? ⟨w.heap.size + 1, 0, none⟩ = some (.int .i64 K') ∧ W.cell? ⟨w.heap.size + 1, 1, none⟩ = some (.int .i64 I') ∧ W.cell? ⟨w.heap.size + 1, 2, none⟩ = some (.int .u64 U') ∧ W.cell? ⟨w.heap.size + 1, 3, none⟩ = some (.string T') ∧ W.cell? ⟨w.heap.size + 1 + 1, 0, none⟩ = some (.int .i64 L) ∧ W.cell? ⟨w.heap.size + 1 + 1, 1, none⟩ = some (.int .i64 J) ∧ W.cell? ⟨w.heap.size + 1 + 1, 2, none⟩ = some (.int .u64 V) ∧ W.cell? ⟨w.heap.size + 1 + 1, 3, none⟩ = some (.string Q)) → Hid (Box w.heap.size K I U T W') ∧ Hid (Box (w.heap.size + 1) K' I' U' T' W') ∧ Hid (Box (w.heap.size + 1 + 1) L J V Q W') ∧ W'.cell? ⟨w.heap.size, 0, none⟩ = some (.int .i64 K) ∧ W'.cell? ⟨w.heap.size, 1, none⟩ = some (.int .i64 I) ∧ W'.cell? ⟨w.heap.size, 2, none⟩ = some (.int .u64 U) ∧ W'.cell? ⟨w.heap.size, 3, none⟩ = some (.string T) ∧ W'.cell? ⟨w.heap.size + 1, 0, none⟩ = some (.int .i64 K') ∧ W'.cell? ⟨w.heap.size + 1, 1, none⟩ = some (.int .i64 I') ∧ W'.cell? ⟨w.heap.size + 1, 2, none⟩ = some (.int .u64 U') ∧ W'.cell? ⟨w.heap.size + 1, 3, none⟩ = some (.string T') ∧ W'.cell? ⟨w.heap.size + 1 + 1, 0, none⟩ = some (.int .i64 L) ∧ W'.cell? ⟨w.heap.size + 1 + 1, 1, none⟩ = some (.int .i64 J) ∧ W'.cell? ⟨w.heap.size + 1 + 1, 2, none⟩ = some (.int .u64 V) ∧ W'.cell? ⟨w.heap.size + 1 + 1, 3, none⟩ = some (.string Q)) := Lib.hid (fun W W' b h => HMk.out W' (Lib.hid (h.1.out.below b)) (Lib.hid (h.2.1.out.below b)) (Lib.hid (h.2.2.1.out.below b)))
  have HX' := Lib.hid (And.intro HX.out.1 (And.intro HX.out.2.2.2.2.1 HX.out.2.2.2.2.2.2))
  clear HX
  go_wp2_with fail
  go_region_held3 (fun W => Hid (Box w.heap.size K I U T W) ∧ Hid (Box (w.heap.size + 1) K' I' U' T' W) ∧ Hid (Box (w.heap.size + 1 + 1) L J V Q W) ∧ W.cell? ⟨w.heap.size, 0, none⟩ = some (.int .i64 K) ∧ W.cell? ⟨w.heap.size, 1, none⟩ = some (.int .i64 I) ∧ W.cell? ⟨w.heap.size, 2, none⟩ = some (.int .u64 U) ∧ W.cell? ⟨w.heap.size, 3, none⟩ = some (.string T) ∧ W.cell? ⟨w.heap.size + 1, 0, none⟩ = some (.int .i64 K') ∧ W.cell? ⟨w.heap.size + 1, 1, none⟩ = some (.int .i64 I') ∧ W.cell? ⟨w.heap.size + 1, 2, none⟩ = some (.int .u64 U') ∧ W.cell? ⟨w.heap.size + 1, 3, none⟩ = some (.string T') ∧ W.cell? ⟨w.heap.size + 1 + 1, 0, none⟩ = some (.int .i64 L) ∧ W.cell? ⟨w.heap.size + 1 + 1, 1, none⟩ = some (.int .i64 J) ∧ W.cell? ⟨w.heap.size + 1 + 1, 2, none⟩ = some (.int .u64 V) ∧ W.cell? ⟨w.heap.size + 1 + 1, 3, none⟩ = some (.string Q))
    (first | assumption | exact HMk.out _ A9 B9 C9 | exact HKeep.out _ _ (by assumption) (by assumption))
    (first
      | (go_at_call 17; with_reducible refine (Hab.out _).mono ?_; rintro e w10 ⟨rfl, hb10⟩)
      | (go_at_call 17; with_reducible refine (Hbc.out _).mono ?_; rintro e w11 ⟨rfl, hb11⟩)
      | (go_at_call 17; with_reducible refine (Hac.out _).mono ?_; rintro e w12 ⟨rfl, hb12⟩))
  have B12 : Below w9.heap.size w9 w12 := ((below_of_drew hb10).trans' hb11).trans' hb12
  have A12 := Lib.hid (A9.out.below B12)
  have D12 := Lib.hid (B9.out.below B12)
  have L12 := L9.trans' B12
  have M12 := M9.below B12
  clear HMk HKeep A9 B9 C9 L9 M9 B12 hb10 hb11 hb12 Hab Hbc Hac
  obtain ⟨hx, h0, hz1, hz2⟩ := HX'.out
  obtain ⟨x', hx'⟩ : ∃ x', -x = x' := ⟨_, rfl⟩
  rw [hx'] at Hba
  clear HX' HS
  obtain ⟨j0, j1, j2, j3⟩ := A12.out.cells
  obtain ⟨k0, k1, k2, k3⟩ := D12.out.cells
  rcases hx with rfl | rfl | rfl
  · have hsame : sameV K I U T K' I' U' T' = false := sameV_eq (Iff.intro (fun e => absurd e (by decide)) (fun e => absurd (h0.2 e) (by decide)))
    obtain rfl : x' = 1 := by omega
    clear h0 hx'
    go_wp2_with fail
    refine (Hba.out _).mono ?_
    rintro e w13 ⟨rfl, hb13⟩
    obtain ⟨c0, c1, c2, c3⟩ := (A12.out.below hb13).cells
    obtain ⟨d0, d1, d2, d3⟩ := (D12.out.below hb13).cells
    have L13 := L12.trans' hb13
    have M13 := M12.below hb13
    clear L12 M12 hb13 Hba
    rcases (show 0 < y ∨ (¬ 0 < y ∧ z = -1) by omega) with hy | ⟨hy, rfl⟩
    · clear hz1 hz2
      go_wp2_with fail
      refine (Haa.out _).mono ?_
      rintro e w14 ⟨rfl, hb14⟩
      go_wp2_with fail
      refine (HF.out _ (M13.below hb14)).mono ?_
      rintro e w15 ⟨rfl, hb15, _⟩
      go_wp2_with fail
      go_ret
      exact ⟨rfl, (L13.trans' hb14).trans' hb15⟩
    · clear hz1 hz2
      go_wp2_with fail
      refine (Haa.out _).mono ?_
      rintro e w14 ⟨rfl, hb14⟩
      go_wp2_with fail
      refine (HF.out _ (M13.below hb14)).mono ?_
      rintro e w15 ⟨rfl, hb15, _⟩
      go_wp2_with fail
      go_ret
      exact ⟨rfl, (L13.trans' hb14).trans' hb15⟩
  · have hsame : sameV K I U T K' I' U' T' = true := sameV_eq (Iff.intro (fun _ => h0.1 rfl) (fun _ => rfl))
    obtain rfl : x' = 0 := by omega
    clear h0 hx'
    go_wp2_with fail
    refine (Hba.out _).mono ?_
    rintro e w13 ⟨rfl, hb13⟩
    obtain ⟨c0, c1, c2, c3⟩ := (A12.out.below hb13).cells
    obtain ⟨d0, d1, d2, d3⟩ := (D12.out.below hb13).cells
    have L13 := L12.trans' hb13
    have M13 := M12.below hb13
    clear L12 M12 hb13 Hba
    clear hz2
    rcases (show 0 < y ∨ (¬ 0 < y ∧ z ≤ 0) by omega) with hy | ⟨hy, hz⟩
    · clear hz1
      go_wp2_with fail
      refine (Haa.out _).mono ?_
      rintro e w14 ⟨rfl, hb14⟩
      go_wp2_with fail
      refine (HF.out _ (M13.below hb14)).mono ?_
      rintro e w15 ⟨rfl, hb15, _⟩
      go_wp2_with fail
      go_ret
      exact ⟨rfl, (L13.trans' hb14).trans' hb15⟩
    · clear hz1
      go_wp2_with fail
      refine (Haa.out _).mono ?_
      rintro e w14 ⟨rfl, hb14⟩
      go_wp2_with fail
      refine (HF.out _ (M13.below hb14)).mono ?_
      rintro e w15 ⟨rfl, hb15, _⟩
      go_wp2_with fail
      go_ret
      exact ⟨rfl, (L13.trans' hb14).trans' hb15⟩
  · have hsame : sameV K I U T K' I' U' T' = false := sameV_eq (Iff.intro (fun e => absurd e (by decide)) (fun e => absurd (h0.2 e) (by decide)))
    obtain rfl : x' = -1 := by omega
    clear h0 hx'
    go_wp2_with fail
    refine (Hba.out _).mono ?_
    rintro e w13 ⟨rfl, hb13⟩
    obtain ⟨c0, c1, c2, c3⟩ := (A12.out.below hb13).cells
    obtain ⟨d0, d1, d2, d3⟩ := (D12.out.below hb13).cells
    have L13 := L12.trans' hb13
    have M13 := M12.below hb13
    clear L12 M12 hb13 Hba
    clear hz1 hz2
    go_wp2_with fail
    refine (Haa.out _).mono ?_
    rintro e w14 ⟨rfl, hb14⟩
    go_wp2_with fail
    refine (HF.out _ (M13.below hb14)).mono ?_
    rintro e w15 ⟨rfl, hb15, _⟩
    go_wp2_with fail
    go_ret
    exact ⟨rfl, (L13.trans' hb14).trans' hb15⟩
end
end Go.Proofs.YtfclpoceaolgiaaDoor
