/-
  Walks of col.Right at any column, col.Put.
-/
import Derived.Test.YtdcijbclafpkmaaDoorCPut
namespace Go.Proofs.YtdcijbclafpkmaaDoor
open Go.RowKit
set_option linter.unusedVariables false
set_option linter.unusedSimpArgs false

/-- May it be? -/
def rt (K I U : Int) (S : ByteArray) : Bool := decide (CP.Right ⟨K, I, U, S.data.toList⟩)

set_option maxHeartbeats 1000000 in
set_option maxRecDepth 100000 in
theorem right_no (K I U : Int) (S : ByteArray) (w : World) (h : K < 0 ∨ 4 < K) : Calls Tryd.prog 45 #[.agg #[.int .i64 K, .int .i64 I, .int .u64 U, .string S]] w fun e w' => e = .returned (.bool false) ∧ Below w.heap.size w w' := by
  have HB : Hid (∀ n, Below w.heap.size w ((w.alloc (.cells #[.int .i64 K, .int .i64 I, .int .u64 U, .string S] 51)).drewN n)) := Lib.hid (fun n => by have h := below_alloc w (.cells #[.int .i64 K, .int .i64 I, .int .u64 U, .string S] 51); exact ⟨h.os, h.tape, h.output, h.size, h.block⟩)
  rcases (show K < 0 ∨ (0 ≤ K ∧ 4 < K) by omega) with h | ⟨h, h'⟩
  · have d1 : decide (0 ≤ K) = false := decide_eq_false (by omega)
    clear h
    go_enter Tryd.func45, Tryd.ntmps45
    go_wp2_with fail
    go_quiet (fail)
    all_goals
      go_wp2_with fail
      go_ret
      exact ⟨rfl, HB.out _⟩
  · have d1 : decide (0 ≤ K) = true := decide_eq_true (by omega)
    have d2 : decide (K < 5) = false := decide_eq_false (by omega)
    clear h h'
    go_enter Tryd.func45, Tryd.ntmps45
    go_wp2_with fail
    go_quiet (fail)
    all_goals
      go_wp2_with fail
      go_ret
      exact ⟨rfl, HB.out _⟩

theorem right_any (K I U : Int) (S : ByteArray) (w : World) (h0 : 0 ≤ U) : Calls Tryd.prog 45 #[.agg #[.int .i64 K, .int .i64 I, .int .u64 U, .string S]] w fun e w' => e = .returned (.bool (rt K I U S)) ∧ Below w.heap.size w w' := by
  have hU : (U = min U 1) ↔ U ≤ 1 := by omega
  rcases (show K = 0 ∨ K = 1 ∨ K = 2 ∨ K = 3 ∨ K = 4 ∨ (K < 0 ∨ 4 < K) by omega) with rfl | rfl | rfl | rfl | rfl | h
  · have e := sameV_eq (K := 0) (I := I) (U := U) (S := S) (K' := 0) (I' := 0) (U' := 0) (S' := ⟨#[]⟩) (b := rt 0 I U S) (by simp [rt, CP.Right, CP.Col.eq_iff, hU])
    rw [← e]; exact right0 I U S w
  · have e := sameV_eq (K := 1) (I := I) (U := U) (S := S) (K' := 1) (I' := 0) (U' := min U 1) (S' := ⟨#[]⟩) (b := rt 1 I U S) (by simp [rt, CP.Right, CP.Col.eq_iff, hU])
    rw [← e]; exact right1 I U S w
  · have e := sameV_eq (K := 2) (I := I) (U := U) (S := S) (K' := 2) (I' := I) (U' := 0) (S' := ⟨#[]⟩) (b := rt 2 I U S) (by simp [rt, CP.Right, CP.Col.eq_iff, hU])
    rw [← e]; exact right2 I U S w
  · have e := sameV_eq (K := 3) (I := I) (U := U) (S := S) (K' := 3) (I' := 0) (U' := U) (S' := ⟨#[]⟩) (b := rt 3 I U S) (by simp [rt, CP.Right, CP.Col.eq_iff, hU])
    rw [← e]; exact right3 I U S w
  · have e := sameV_eq (K := 4) (I := I) (U := U) (S := S) (K' := 4) (I' := 0) (U' := 0) (S' := S) (b := rt 4 I U S) (by simp [rt, CP.Right, CP.Col.eq_iff, hU])
    rw [← e]; exact right4 I U S w
  · have e : rt K I U S = false := decide_eq_false (by unfold CP.Right; simp only; omega)
    rw [e]; exact right_no K I U S w h

theorem put_none (K I U : Int) (S : ByteArray) (w : World) (h0 : 0 ≤ U) (h : rt K I U S = false) : Calls Tryd.prog 32 #[.agg #[.int .i64 K, .int .i64 I, .int .u64 U, .string S]] w fun e w' => e = .returned (.tuple #[.string ⟨#[]⟩, .int .i64 3]) ∧ Below w.heap.size w w' := by
  have HR : Hid (∀ W, Calls Tryd.prog 45 #[.agg #[.int .i64 K, .int .i64 I, .int .u64 U, .string S]] W fun e w' => e = .returned (.bool false) ∧ Below W.heap.size W w') := Lib.hid (fun W => by have h2 := right_any K I U S W h0; rwa [h] at h2)
  go_enter Tryd.func32, Tryd.ntmps32
  go_wp2_with fail
  refine (HR.out _).mono ?_
  rintro e w1 ⟨rfl, hb1⟩
  go_wp2_with fail
  go_ret2
  exact ⟨rfl, (below_alloc _ _).trans' hb1⟩

set_option maxHeartbeats 1000000 in
set_option maxRecDepth 100000 in
theorem put_some0 (I U : Int) (S : ByteArray) (w : World) (h0 : 0 ≤ U) (h : rt 0 I U S = true) (hP : PutsIt 58 0 I U S) (HM : MaxIs w) : Calls Tryd.prog 32 #[.agg #[.int .i64 0, .int .i64 I, .int .u64 U, .string S]] w fun e w' => e = .returned (.tuple #[.string ⟨(CP.put ⟨0, I, U, S.data.toList⟩).toArray⟩, .int .i64 0]) ∧ Below w.heap.size w w' := by
  have HR : Hid (∀ W, Calls Tryd.prog 45 #[.agg #[.int .i64 0, .int .i64 I, .int .u64 U, .string S]] W fun e w' => e = .returned (.bool true) ∧ Below W.heap.size W w') := Lib.hid (fun W => by have h2 := right_any 0 I U S W h0; rwa [h] at h2)
  obtain ⟨X, hX⟩ : ∃ X : ByteArray, X = ⟨(CP.put ⟨0, I, U, S.data.toList⟩).toArray⟩ := ⟨_, rfl⟩
  rw [← hX]
  have HP : Hid (∀ W, MaxIs W → Calls Tryd.prog 58 #[.agg #[.int .i64 0, .int .i64 I, .int .u64 U, .string S]] W fun e w' => e = .returned (.string X) ∧ Below W.heap.size W w') := Lib.hid (by rw [hX]; exact hP)
  have HK0 : Hid (∀ W : World, Below (w.alloc (.cells #[.int .i64 0, .int .i64 I, .int .u64 U, .string S] 51)).heap.size (w.alloc (.cells #[.int .i64 0, .int .i64 I, .int .u64 U, .string S] 51)) W → (Hid (MaxIs W) ∧ Hid (Box w.heap.size 0 I U S W) ∧ W.cell? ⟨w.heap.size, 0, none⟩ = some (.int .i64 0) ∧ W.cell? ⟨w.heap.size, 1, none⟩ = some (.int .i64 I) ∧ W.cell? ⟨w.heap.size, 2, none⟩ = some (.int .u64 U) ∧ W.cell? ⟨w.heap.size, 3, none⟩ = some (.string S))) :=
    Lib.hid (fun W b => ⟨Lib.hid ((HM.alloc _).below b), Lib.hid ((Box.new 0 I U S w).below b), ((Box.new 0 I U S w).below b).cells⟩)
  have HKeep : Hid (∀ W W' : World, Below W.heap.size W W' → (Hid (MaxIs W) ∧ Hid (Box w.heap.size 0 I U S W) ∧ W.cell? ⟨w.heap.size, 0, none⟩ = some (.int .i64 0) ∧ W.cell? ⟨w.heap.size, 1, none⟩ = some (.int .i64 I) ∧ W.cell? ⟨w.heap.size, 2, none⟩ = some (.int .u64 U) ∧ W.cell? ⟨w.heap.size, 3, none⟩ = some (.string S)) → (Hid (MaxIs W') ∧ Hid (Box w.heap.size 0 I U S W') ∧ W'.cell? ⟨w.heap.size, 0, none⟩ = some (.int .i64 0) ∧ W'.cell? ⟨w.heap.size, 1, none⟩ = some (.int .i64 I) ∧ W'.cell? ⟨w.heap.size, 2, none⟩ = some (.int .u64 U) ∧ W'.cell? ⟨w.heap.size, 3, none⟩ = some (.string S))) :=
    Lib.hid (fun W W' b h => ⟨Lib.hid (h.1.out.below b), Lib.hid (h.2.1.out.below b), (h.2.1.out.below b).cells⟩)
  have HQ : Hid (∀ W : World, (Hid (MaxIs W) ∧ Hid (Box w.heap.size 0 I U S W) ∧ W.cell? ⟨w.heap.size, 0, none⟩ = some (.int .i64 0) ∧ W.cell? ⟨w.heap.size, 1, none⟩ = some (.int .i64 I) ∧ W.cell? ⟨w.heap.size, 2, none⟩ = some (.int .u64 U) ∧ W.cell? ⟨w.heap.size, 3, none⟩ = some (.string S)) → MaxIs W) := Lib.hid (fun W h => h.1.out)
  have hix := ixPuts0
  clear hP h hX
  go_enter Tryd.func32, Tryd.ntmps32
  go_wp2_with fail
  refine (HR.out _).mono ?_
  rintro e w1 ⟨rfl, hb1⟩
  have H1 := Lib.hid (HK0.out w1 hb1)
  go_wp2_with fail
  go_region_held3 (fun W => (Hid (MaxIs W) ∧ Hid (Box w.heap.size 0 I U S W) ∧ W.cell? ⟨w.heap.size, 0, none⟩ = some (.int .i64 0) ∧ W.cell? ⟨w.heap.size, 1, none⟩ = some (.int .i64 I) ∧ W.cell? ⟨w.heap.size, 2, none⟩ = some (.int .u64 U) ∧ W.cell? ⟨w.heap.size, 3, none⟩ = some (.string S)))
    (first | assumption | exact H1.out | exact HKeep.out _ _ (by assumption) (by assumption))
    (first
      | (go_at_call 46; refine (puts_any _).mono ?_; rintro e w2 ⟨rfl, hb2⟩)
      | (go_at_call 58; refine (HP.out _ (HQ.out _ (by assumption))).mono ?_; rintro e w3 ⟨rfl, hb3⟩))
  all_goals
    go_wp2_with fail
    go_ret2
    exact ⟨rfl, (below_alloc _ _).trans' (hb1.trans' ((below_of_drew hb2).trans' hb3))⟩

set_option maxHeartbeats 1000000 in
set_option maxRecDepth 100000 in
theorem put_some1 (I U : Int) (S : ByteArray) (w : World) (h0 : 0 ≤ U) (h : rt 1 I U S = true) (hP : PutsIt 60 1 I U S) (HM : MaxIs w) : Calls Tryd.prog 32 #[.agg #[.int .i64 1, .int .i64 I, .int .u64 U, .string S]] w fun e w' => e = .returned (.tuple #[.string ⟨(CP.put ⟨1, I, U, S.data.toList⟩).toArray⟩, .int .i64 0]) ∧ Below w.heap.size w w' := by
  have HR : Hid (∀ W, Calls Tryd.prog 45 #[.agg #[.int .i64 1, .int .i64 I, .int .u64 U, .string S]] W fun e w' => e = .returned (.bool true) ∧ Below W.heap.size W w') := Lib.hid (fun W => by have h2 := right_any 1 I U S W h0; rwa [h] at h2)
  obtain ⟨X, hX⟩ : ∃ X : ByteArray, X = ⟨(CP.put ⟨1, I, U, S.data.toList⟩).toArray⟩ := ⟨_, rfl⟩
  rw [← hX]
  have HP : Hid (∀ W, MaxIs W → Calls Tryd.prog 60 #[.agg #[.int .i64 1, .int .i64 I, .int .u64 U, .string S]] W fun e w' => e = .returned (.string X) ∧ Below W.heap.size W w') := Lib.hid (by rw [hX]; exact hP)
  have HK0 : Hid (∀ W : World, Below (w.alloc (.cells #[.int .i64 1, .int .i64 I, .int .u64 U, .string S] 51)).heap.size (w.alloc (.cells #[.int .i64 1, .int .i64 I, .int .u64 U, .string S] 51)) W → (Hid (MaxIs W) ∧ Hid (Box w.heap.size 1 I U S W) ∧ W.cell? ⟨w.heap.size, 0, none⟩ = some (.int .i64 1) ∧ W.cell? ⟨w.heap.size, 1, none⟩ = some (.int .i64 I) ∧ W.cell? ⟨w.heap.size, 2, none⟩ = some (.int .u64 U) ∧ W.cell? ⟨w.heap.size, 3, none⟩ = some (.string S))) :=
    Lib.hid (fun W b => ⟨Lib.hid ((HM.alloc _).below b), Lib.hid ((Box.new 1 I U S w).below b), ((Box.new 1 I U S w).below b).cells⟩)
  have HKeep : Hid (∀ W W' : World, Below W.heap.size W W' → (Hid (MaxIs W) ∧ Hid (Box w.heap.size 1 I U S W) ∧ W.cell? ⟨w.heap.size, 0, none⟩ = some (.int .i64 1) ∧ W.cell? ⟨w.heap.size, 1, none⟩ = some (.int .i64 I) ∧ W.cell? ⟨w.heap.size, 2, none⟩ = some (.int .u64 U) ∧ W.cell? ⟨w.heap.size, 3, none⟩ = some (.string S)) → (Hid (MaxIs W') ∧ Hid (Box w.heap.size 1 I U S W') ∧ W'.cell? ⟨w.heap.size, 0, none⟩ = some (.int .i64 1) ∧ W'.cell? ⟨w.heap.size, 1, none⟩ = some (.int .i64 I) ∧ W'.cell? ⟨w.heap.size, 2, none⟩ = some (.int .u64 U) ∧ W'.cell? ⟨w.heap.size, 3, none⟩ = some (.string S))) :=
    Lib.hid (fun W W' b h => ⟨Lib.hid (h.1.out.below b), Lib.hid (h.2.1.out.below b), (h.2.1.out.below b).cells⟩)
  have HQ : Hid (∀ W : World, (Hid (MaxIs W) ∧ Hid (Box w.heap.size 1 I U S W) ∧ W.cell? ⟨w.heap.size, 0, none⟩ = some (.int .i64 1) ∧ W.cell? ⟨w.heap.size, 1, none⟩ = some (.int .i64 I) ∧ W.cell? ⟨w.heap.size, 2, none⟩ = some (.int .u64 U) ∧ W.cell? ⟨w.heap.size, 3, none⟩ = some (.string S)) → MaxIs W) := Lib.hid (fun W h => h.1.out)
  have hix := ixPuts1
  clear hP h hX
  go_enter Tryd.func32, Tryd.ntmps32
  go_wp2_with fail
  refine (HR.out _).mono ?_
  rintro e w1 ⟨rfl, hb1⟩
  have H1 := Lib.hid (HK0.out w1 hb1)
  go_wp2_with fail
  go_region_held3 (fun W => (Hid (MaxIs W) ∧ Hid (Box w.heap.size 1 I U S W) ∧ W.cell? ⟨w.heap.size, 0, none⟩ = some (.int .i64 1) ∧ W.cell? ⟨w.heap.size, 1, none⟩ = some (.int .i64 I) ∧ W.cell? ⟨w.heap.size, 2, none⟩ = some (.int .u64 U) ∧ W.cell? ⟨w.heap.size, 3, none⟩ = some (.string S)))
    (first | assumption | exact H1.out | exact HKeep.out _ _ (by assumption) (by assumption))
    (first
      | (go_at_call 46; refine (puts_any _).mono ?_; rintro e w2 ⟨rfl, hb2⟩)
      | (go_at_call 60; refine (HP.out _ (HQ.out _ (by assumption))).mono ?_; rintro e w3 ⟨rfl, hb3⟩))
  all_goals
    go_wp2_with fail
    go_ret2
    exact ⟨rfl, (below_alloc _ _).trans' (hb1.trans' ((below_of_drew hb2).trans' hb3))⟩

set_option maxHeartbeats 1000000 in
set_option maxRecDepth 100000 in
theorem put_some2 (I U : Int) (S : ByteArray) (w : World) (h0 : 0 ≤ U) (h : rt 2 I U S = true) (hP : PutsIt 61 2 I U S) (HM : MaxIs w) : Calls Tryd.prog 32 #[.agg #[.int .i64 2, .int .i64 I, .int .u64 U, .string S]] w fun e w' => e = .returned (.tuple #[.string ⟨(CP.put ⟨2, I, U, S.data.toList⟩).toArray⟩, .int .i64 0]) ∧ Below w.heap.size w w' := by
  have HR : Hid (∀ W, Calls Tryd.prog 45 #[.agg #[.int .i64 2, .int .i64 I, .int .u64 U, .string S]] W fun e w' => e = .returned (.bool true) ∧ Below W.heap.size W w') := Lib.hid (fun W => by have h2 := right_any 2 I U S W h0; rwa [h] at h2)
  obtain ⟨X, hX⟩ : ∃ X : ByteArray, X = ⟨(CP.put ⟨2, I, U, S.data.toList⟩).toArray⟩ := ⟨_, rfl⟩
  rw [← hX]
  have HP : Hid (∀ W, MaxIs W → Calls Tryd.prog 61 #[.agg #[.int .i64 2, .int .i64 I, .int .u64 U, .string S]] W fun e w' => e = .returned (.string X) ∧ Below W.heap.size W w') := Lib.hid (by rw [hX]; exact hP)
  have HK0 : Hid (∀ W : World, Below (w.alloc (.cells #[.int .i64 2, .int .i64 I, .int .u64 U, .string S] 51)).heap.size (w.alloc (.cells #[.int .i64 2, .int .i64 I, .int .u64 U, .string S] 51)) W → (Hid (MaxIs W) ∧ Hid (Box w.heap.size 2 I U S W) ∧ W.cell? ⟨w.heap.size, 0, none⟩ = some (.int .i64 2) ∧ W.cell? ⟨w.heap.size, 1, none⟩ = some (.int .i64 I) ∧ W.cell? ⟨w.heap.size, 2, none⟩ = some (.int .u64 U) ∧ W.cell? ⟨w.heap.size, 3, none⟩ = some (.string S))) :=
    Lib.hid (fun W b => ⟨Lib.hid ((HM.alloc _).below b), Lib.hid ((Box.new 2 I U S w).below b), ((Box.new 2 I U S w).below b).cells⟩)
  have HKeep : Hid (∀ W W' : World, Below W.heap.size W W' → (Hid (MaxIs W) ∧ Hid (Box w.heap.size 2 I U S W) ∧ W.cell? ⟨w.heap.size, 0, none⟩ = some (.int .i64 2) ∧ W.cell? ⟨w.heap.size, 1, none⟩ = some (.int .i64 I) ∧ W.cell? ⟨w.heap.size, 2, none⟩ = some (.int .u64 U) ∧ W.cell? ⟨w.heap.size, 3, none⟩ = some (.string S)) → (Hid (MaxIs W') ∧ Hid (Box w.heap.size 2 I U S W') ∧ W'.cell? ⟨w.heap.size, 0, none⟩ = some (.int .i64 2) ∧ W'.cell? ⟨w.heap.size, 1, none⟩ = some (.int .i64 I) ∧ W'.cell? ⟨w.heap.size, 2, none⟩ = some (.int .u64 U) ∧ W'.cell? ⟨w.heap.size, 3, none⟩ = some (.string S))) :=
    Lib.hid (fun W W' b h => ⟨Lib.hid (h.1.out.below b), Lib.hid (h.2.1.out.below b), (h.2.1.out.below b).cells⟩)
  have HQ : Hid (∀ W : World, (Hid (MaxIs W) ∧ Hid (Box w.heap.size 2 I U S W) ∧ W.cell? ⟨w.heap.size, 0, none⟩ = some (.int .i64 2) ∧ W.cell? ⟨w.heap.size, 1, none⟩ = some (.int .i64 I) ∧ W.cell? ⟨w.heap.size, 2, none⟩ = some (.int .u64 U) ∧ W.cell? ⟨w.heap.size, 3, none⟩ = some (.string S)) → MaxIs W) := Lib.hid (fun W h => h.1.out)
  have hix := ixPuts2
  clear hP h hX
  go_enter Tryd.func32, Tryd.ntmps32
  go_wp2_with fail
  refine (HR.out _).mono ?_
  rintro e w1 ⟨rfl, hb1⟩
  have H1 := Lib.hid (HK0.out w1 hb1)
  go_wp2_with fail
  go_region_held3 (fun W => (Hid (MaxIs W) ∧ Hid (Box w.heap.size 2 I U S W) ∧ W.cell? ⟨w.heap.size, 0, none⟩ = some (.int .i64 2) ∧ W.cell? ⟨w.heap.size, 1, none⟩ = some (.int .i64 I) ∧ W.cell? ⟨w.heap.size, 2, none⟩ = some (.int .u64 U) ∧ W.cell? ⟨w.heap.size, 3, none⟩ = some (.string S)))
    (first | assumption | exact H1.out | exact HKeep.out _ _ (by assumption) (by assumption))
    (first
      | (go_at_call 46; refine (puts_any _).mono ?_; rintro e w2 ⟨rfl, hb2⟩)
      | (go_at_call 61; refine (HP.out _ (HQ.out _ (by assumption))).mono ?_; rintro e w3 ⟨rfl, hb3⟩))
  all_goals
    go_wp2_with fail
    go_ret2
    exact ⟨rfl, (below_alloc _ _).trans' (hb1.trans' ((below_of_drew hb2).trans' hb3))⟩

set_option maxHeartbeats 1000000 in
set_option maxRecDepth 100000 in
theorem put_some3 (I U : Int) (S : ByteArray) (w : World) (h0 : 0 ≤ U) (h : rt 3 I U S = true) (hP : PutsIt 63 3 I U S) (HM : MaxIs w) : Calls Tryd.prog 32 #[.agg #[.int .i64 3, .int .i64 I, .int .u64 U, .string S]] w fun e w' => e = .returned (.tuple #[.string ⟨(CP.put ⟨3, I, U, S.data.toList⟩).toArray⟩, .int .i64 0]) ∧ Below w.heap.size w w' := by
  have HR : Hid (∀ W, Calls Tryd.prog 45 #[.agg #[.int .i64 3, .int .i64 I, .int .u64 U, .string S]] W fun e w' => e = .returned (.bool true) ∧ Below W.heap.size W w') := Lib.hid (fun W => by have h2 := right_any 3 I U S W h0; rwa [h] at h2)
  obtain ⟨X, hX⟩ : ∃ X : ByteArray, X = ⟨(CP.put ⟨3, I, U, S.data.toList⟩).toArray⟩ := ⟨_, rfl⟩
  rw [← hX]
  have HP : Hid (∀ W, MaxIs W → Calls Tryd.prog 63 #[.agg #[.int .i64 3, .int .i64 I, .int .u64 U, .string S]] W fun e w' => e = .returned (.string X) ∧ Below W.heap.size W w') := Lib.hid (by rw [hX]; exact hP)
  have HK0 : Hid (∀ W : World, Below (w.alloc (.cells #[.int .i64 3, .int .i64 I, .int .u64 U, .string S] 51)).heap.size (w.alloc (.cells #[.int .i64 3, .int .i64 I, .int .u64 U, .string S] 51)) W → (Hid (MaxIs W) ∧ Hid (Box w.heap.size 3 I U S W) ∧ W.cell? ⟨w.heap.size, 0, none⟩ = some (.int .i64 3) ∧ W.cell? ⟨w.heap.size, 1, none⟩ = some (.int .i64 I) ∧ W.cell? ⟨w.heap.size, 2, none⟩ = some (.int .u64 U) ∧ W.cell? ⟨w.heap.size, 3, none⟩ = some (.string S))) :=
    Lib.hid (fun W b => ⟨Lib.hid ((HM.alloc _).below b), Lib.hid ((Box.new 3 I U S w).below b), ((Box.new 3 I U S w).below b).cells⟩)
  have HKeep : Hid (∀ W W' : World, Below W.heap.size W W' → (Hid (MaxIs W) ∧ Hid (Box w.heap.size 3 I U S W) ∧ W.cell? ⟨w.heap.size, 0, none⟩ = some (.int .i64 3) ∧ W.cell? ⟨w.heap.size, 1, none⟩ = some (.int .i64 I) ∧ W.cell? ⟨w.heap.size, 2, none⟩ = some (.int .u64 U) ∧ W.cell? ⟨w.heap.size, 3, none⟩ = some (.string S)) → (Hid (MaxIs W') ∧ Hid (Box w.heap.size 3 I U S W') ∧ W'.cell? ⟨w.heap.size, 0, none⟩ = some (.int .i64 3) ∧ W'.cell? ⟨w.heap.size, 1, none⟩ = some (.int .i64 I) ∧ W'.cell? ⟨w.heap.size, 2, none⟩ = some (.int .u64 U) ∧ W'.cell? ⟨w.heap.size, 3, none⟩ = some (.string S))) :=
    Lib.hid (fun W W' b h => ⟨Lib.hid (h.1.out.below b), Lib.hid (h.2.1.out.below b), (h.2.1.out.below b).cells⟩)
  have HQ : Hid (∀ W : World, (Hid (MaxIs W) ∧ Hid (Box w.heap.size 3 I U S W) ∧ W.cell? ⟨w.heap.size, 0, none⟩ = some (.int .i64 3) ∧ W.cell? ⟨w.heap.size, 1, none⟩ = some (.int .i64 I) ∧ W.cell? ⟨w.heap.size, 2, none⟩ = some (.int .u64 U) ∧ W.cell? ⟨w.heap.size, 3, none⟩ = some (.string S)) → MaxIs W) := Lib.hid (fun W h => h.1.out)
  have hix := ixPuts3
  clear hP h hX
  go_enter Tryd.func32, Tryd.ntmps32
  go_wp2_with fail
  refine (HR.out _).mono ?_
  rintro e w1 ⟨rfl, hb1⟩
  have H1 := Lib.hid (HK0.out w1 hb1)
  go_wp2_with fail
  go_region_held3 (fun W => (Hid (MaxIs W) ∧ Hid (Box w.heap.size 3 I U S W) ∧ W.cell? ⟨w.heap.size, 0, none⟩ = some (.int .i64 3) ∧ W.cell? ⟨w.heap.size, 1, none⟩ = some (.int .i64 I) ∧ W.cell? ⟨w.heap.size, 2, none⟩ = some (.int .u64 U) ∧ W.cell? ⟨w.heap.size, 3, none⟩ = some (.string S)))
    (first | assumption | exact H1.out | exact HKeep.out _ _ (by assumption) (by assumption))
    (first
      | (go_at_call 46; refine (puts_any _).mono ?_; rintro e w2 ⟨rfl, hb2⟩)
      | (go_at_call 63; refine (HP.out _ (HQ.out _ (by assumption))).mono ?_; rintro e w3 ⟨rfl, hb3⟩))
  all_goals
    go_wp2_with fail
    go_ret2
    exact ⟨rfl, (below_alloc _ _).trans' (hb1.trans' ((below_of_drew hb2).trans' hb3))⟩

set_option maxHeartbeats 1000000 in
set_option maxRecDepth 100000 in
theorem put_some4 (I U : Int) (S : ByteArray) (w : World) (h0 : 0 ≤ U) (h : rt 4 I U S = true) (hP : PutsIt 65 4 I U S) (HM : MaxIs w) : Calls Tryd.prog 32 #[.agg #[.int .i64 4, .int .i64 I, .int .u64 U, .string S]] w fun e w' => e = .returned (.tuple #[.string ⟨(CP.put ⟨4, I, U, S.data.toList⟩).toArray⟩, .int .i64 0]) ∧ Below w.heap.size w w' := by
  have HR : Hid (∀ W, Calls Tryd.prog 45 #[.agg #[.int .i64 4, .int .i64 I, .int .u64 U, .string S]] W fun e w' => e = .returned (.bool true) ∧ Below W.heap.size W w') := Lib.hid (fun W => by have h2 := right_any 4 I U S W h0; rwa [h] at h2)
  obtain ⟨X, hX⟩ : ∃ X : ByteArray, X = ⟨(CP.put ⟨4, I, U, S.data.toList⟩).toArray⟩ := ⟨_, rfl⟩
  rw [← hX]
  have HP : Hid (∀ W, MaxIs W → Calls Tryd.prog 65 #[.agg #[.int .i64 4, .int .i64 I, .int .u64 U, .string S]] W fun e w' => e = .returned (.string X) ∧ Below W.heap.size W w') := Lib.hid (by rw [hX]; exact hP)
  have HK0 : Hid (∀ W : World, Below (w.alloc (.cells #[.int .i64 4, .int .i64 I, .int .u64 U, .string S] 51)).heap.size (w.alloc (.cells #[.int .i64 4, .int .i64 I, .int .u64 U, .string S] 51)) W → (Hid (MaxIs W) ∧ Hid (Box w.heap.size 4 I U S W) ∧ W.cell? ⟨w.heap.size, 0, none⟩ = some (.int .i64 4) ∧ W.cell? ⟨w.heap.size, 1, none⟩ = some (.int .i64 I) ∧ W.cell? ⟨w.heap.size, 2, none⟩ = some (.int .u64 U) ∧ W.cell? ⟨w.heap.size, 3, none⟩ = some (.string S))) :=
    Lib.hid (fun W b => ⟨Lib.hid ((HM.alloc _).below b), Lib.hid ((Box.new 4 I U S w).below b), ((Box.new 4 I U S w).below b).cells⟩)
  have HKeep : Hid (∀ W W' : World, Below W.heap.size W W' → (Hid (MaxIs W) ∧ Hid (Box w.heap.size 4 I U S W) ∧ W.cell? ⟨w.heap.size, 0, none⟩ = some (.int .i64 4) ∧ W.cell? ⟨w.heap.size, 1, none⟩ = some (.int .i64 I) ∧ W.cell? ⟨w.heap.size, 2, none⟩ = some (.int .u64 U) ∧ W.cell? ⟨w.heap.size, 3, none⟩ = some (.string S)) → (Hid (MaxIs W') ∧ Hid (Box w.heap.size 4 I U S W') ∧ W'.cell? ⟨w.heap.size, 0, none⟩ = some (.int .i64 4) ∧ W'.cell? ⟨w.heap.size, 1, none⟩ = some (.int .i64 I) ∧ W'.cell? ⟨w.heap.size, 2, none⟩ = some (.int .u64 U) ∧ W'.cell? ⟨w.heap.size, 3, none⟩ = some (.string S))) :=
    Lib.hid (fun W W' b h => ⟨Lib.hid (h.1.out.below b), Lib.hid (h.2.1.out.below b), (h.2.1.out.below b).cells⟩)
  have HQ : Hid (∀ W : World, (Hid (MaxIs W) ∧ Hid (Box w.heap.size 4 I U S W) ∧ W.cell? ⟨w.heap.size, 0, none⟩ = some (.int .i64 4) ∧ W.cell? ⟨w.heap.size, 1, none⟩ = some (.int .i64 I) ∧ W.cell? ⟨w.heap.size, 2, none⟩ = some (.int .u64 U) ∧ W.cell? ⟨w.heap.size, 3, none⟩ = some (.string S)) → MaxIs W) := Lib.hid (fun W h => h.1.out)
  have hix := ixPuts4
  clear hP h hX
  go_enter Tryd.func32, Tryd.ntmps32
  go_wp2_with fail
  refine (HR.out _).mono ?_
  rintro e w1 ⟨rfl, hb1⟩
  have H1 := Lib.hid (HK0.out w1 hb1)
  go_wp2_with fail
  go_region_held3 (fun W => (Hid (MaxIs W) ∧ Hid (Box w.heap.size 4 I U S W) ∧ W.cell? ⟨w.heap.size, 0, none⟩ = some (.int .i64 4) ∧ W.cell? ⟨w.heap.size, 1, none⟩ = some (.int .i64 I) ∧ W.cell? ⟨w.heap.size, 2, none⟩ = some (.int .u64 U) ∧ W.cell? ⟨w.heap.size, 3, none⟩ = some (.string S)))
    (first | assumption | exact H1.out | exact HKeep.out _ _ (by assumption) (by assumption))
    (first
      | (go_at_call 46; refine (puts_any _).mono ?_; rintro e w2 ⟨rfl, hb2⟩)
      | (go_at_call 65; refine (HP.out _ (HQ.out _ (by assumption))).mono ?_; rintro e w3 ⟨rfl, hb3⟩))
  all_goals
    go_wp2_with fail
    go_ret2
    exact ⟨rfl, (below_alloc _ _).trans' (hb1.trans' ((below_of_drew hb2).trans' hb3))⟩

/-- What Put answers. -/
def putV (K I U : Int) (S : ByteArray) : Value := if rt K I U S then .tuple #[.string ⟨(CP.put ⟨K, I, U, S.data.toList⟩).toArray⟩, .int .i64 0] else .tuple #[.string ⟨#[]⟩, .int .i64 3]
theorem colPut_any (K I U : Int) (S : ByteArray) (w : World) (ho : CP.Ok ⟨K, I, U, S.data.toList⟩) (hS : S.size ≤ 1000) (HM : MaxIs w) : Calls Tryd.prog 32 #[.agg #[.int .i64 K, .int .i64 I, .int .u64 U, .string S]] w fun e w' => e = .returned (putV K I U S) ∧ Below w.heap.size w w' := by
  unfold CP.Ok at ho
  simp only at ho
  unfold putV
  cases h : rt K I U S with
  | false => exact put_none K I U S w (by omega) h
  | true =>
    have hr : CP.Right ⟨K, I, U, S.data.toList⟩ := of_decide_eq_true h
    have hk := hr.kind
    simp only at hk
    rcases (show K = 0 ∨ K = 1 ∨ K = 2 ∨ K = 3 ∨ K = 4 by omega) with rfl | rfl | rfl | rfl | rfl
    · exact put_some0 I U S w (by omega) h (puts0 I U S) HM
    · exact put_some1 I U S w (by omega) h (puts1 I U S (by omega) (by unfold CP.Right at hr; simp only at hr; omega)) HM
    · exact put_some2 I U S w (by omega) h (puts2 I U S (by omega) (by omega)) HM
    · exact put_some3 I U S w (by omega) h (puts3 I U S (by omega) (by omega)) HM
    · exact put_some4 I U S w (by omega) h (puts4 I U S hS) HM
end Go.Proofs.YtdcijbclafpkmaaDoor
