/-
  Walks of col.owns, col.Right.
-/
import Derived.Test.YtdcijbclafpkmaaDoorCBase
import Derived.Test.YtdcijbclafpkmaaDoorCPlain
import Derived.Deep.RegionHeld3
import Derived.Laws.Rows
import Derived.Laws.Tables
import Derived.Great.BuildSlice
import Derived.OneCell
import Derived.OwnWalk
import Derived.Lib.Hide
import Derived.Laws.EntriesVeiled
import Derived.Outline
namespace Go.Proofs.YtdcijbclafpkmaaDoor
open Go.RowKit
set_option linter.unusedVariables false

theorem below_setRow (w : World) (g : Nat) (cs : Array Value) : Below g w (w.setRow g cs) := by
  refine ⟨rfl, rfl, rfl, by simp, fun k hk => ?_⟩
  simp only [World.setRow, Array.getElem?_modify]
  rw [if_neg (by omega)]
theorem below_alloc (w : World) (o : Obj) : Below w.heap.size w (w.alloc o) := (Below.refl _ w).alloc (Nat.le_refl _) _
theorem below_alloc2 (w : World) (o p : Obj) : Below w.heap.size w ((w.alloc o).alloc p) := (below_alloc w o).alloc (by simp) _

/-- What col.owns answers. -/
def ownsV : Array Value := #[.func (.func 73) #[] #[], .func (.func 74) #[] #[], .func (.func 75) #[] #[], .func (.func 76) #[] #[], .func (.func 77) #[] #[]]
theorem Tryd.sizeOwns : (Tryd.prog.info? 112).map (·.size) = some 5 := by kernel_rfl
theorem owns_any (w : World) : Calls Tryd.prog 57 #[] w fun e w' => e = .returned (.agg ownsV) ∧ Below w.heap.size w w' := by
  go_enter Tryd.func57, Tryd.ntmps57
  go_wp2
  refine bodyPost_ret (v := .agg ownsV) (by simp [results, Tryd.results57, go_sem, ownsV]) rfl ⟨rfl, below_alloc _ _⟩
theorem ixOwns0 (W : World) : (Instr.index 112 (.agg ownsV) (.int .i64 0)).run Tryd.prog W = .ok (.func (.func 73) #[] #[]) W := by kernel_rfl
theorem ixOwns1 (W : World) : (Instr.index 112 (.agg ownsV) (.int .i64 1)).run Tryd.prog W = .ok (.func (.func 74) #[] #[]) W := by kernel_rfl
theorem ixOwns2 (W : World) : (Instr.index 112 (.agg ownsV) (.int .i64 2)).run Tryd.prog W = .ok (.func (.func 75) #[] #[]) W := by kernel_rfl
theorem ixOwns3 (W : World) : (Instr.index 112 (.agg ownsV) (.int .i64 3)).run Tryd.prog W = .ok (.func (.func 76) #[] #[]) W := by kernel_rfl
theorem ixOwns4 (W : World) : (Instr.index 112 (.agg ownsV) (.int .i64 4)).run Tryd.prog W = .ok (.func (.func 77) #[] #[]) W := by kernel_rfl

theorem owns1_any (K I U : Int) (S : ByteArray) (w : World) : Calls Tryd.prog 73 #[.agg #[.int .i64 K, .int .i64 I, .int .u64 U, .string S]] w fun e w' => e = .returned (.agg #[.int .i64 0, .int .i64 0, .int .u64 0, .string ⟨#[]⟩]) ∧ Below w.heap.size w w' := by
  go_enter Tryd.func73, Tryd.ntmps73
  go_wp2
  refine bodyPost_ret (v := .agg #[.int .i64 0, .int .i64 0, .int .u64 0, .string ⟨#[]⟩]) (by simp [results, Tryd.results73, go_sem]) rfl ⟨rfl, below_alloc2 _ _ _⟩

theorem owns2_any (K I U : Int) (S : ByteArray) (w : World) : Calls Tryd.prog 74 #[.agg #[.int .i64 K, .int .i64 I, .int .u64 U, .string S]] w fun e w' => e = .returned (.agg #[.int .i64 1, .int .i64 0, .int .u64 (min U 1), .string ⟨#[]⟩]) ∧ Below w.heap.size w w' := by
  go_enter Tryd.func74, Tryd.ntmps74
  go_wp2
  refine bodyPost_ret (v := .agg #[.int .i64 1, .int .i64 0, .int .u64 (min U 1), .string ⟨#[]⟩]) (by simp [results, Tryd.results74, go_sem]) rfl ⟨rfl, below_alloc2 _ _ _⟩

theorem owns3_any (K I U : Int) (S : ByteArray) (w : World) : Calls Tryd.prog 75 #[.agg #[.int .i64 K, .int .i64 I, .int .u64 U, .string S]] w fun e w' => e = .returned (.agg #[.int .i64 2, .int .i64 I, .int .u64 0, .string ⟨#[]⟩]) ∧ Below w.heap.size w w' := by
  go_enter Tryd.func75, Tryd.ntmps75
  go_wp2
  refine bodyPost_ret (v := .agg #[.int .i64 2, .int .i64 I, .int .u64 0, .string ⟨#[]⟩]) (by simp [results, Tryd.results75, go_sem]) rfl ⟨rfl, below_alloc2 _ _ _⟩

theorem owns4_any (K I U : Int) (S : ByteArray) (w : World) : Calls Tryd.prog 76 #[.agg #[.int .i64 K, .int .i64 I, .int .u64 U, .string S]] w fun e w' => e = .returned (.agg #[.int .i64 3, .int .i64 0, .int .u64 U, .string ⟨#[]⟩]) ∧ Below w.heap.size w w' := by
  go_enter Tryd.func76, Tryd.ntmps76
  go_wp2
  refine bodyPost_ret (v := .agg #[.int .i64 3, .int .i64 0, .int .u64 U, .string ⟨#[]⟩]) (by simp [results, Tryd.results76, go_sem]) rfl ⟨rfl, below_alloc2 _ _ _⟩

theorem owns5_any (K I U : Int) (S : ByteArray) (w : World) : Calls Tryd.prog 77 #[.agg #[.int .i64 K, .int .i64 I, .int .u64 U, .string S]] w fun e w' => e = .returned (.agg #[.int .i64 4, .int .i64 0, .int .u64 0, .string S]) ∧ Below w.heap.size w w' := by
  go_enter Tryd.func77, Tryd.ntmps77
  go_wp2
  refine bodyPost_ret (v := .agg #[.int .i64 4, .int .i64 0, .int .u64 0, .string S]) (by simp [results, Tryd.results77, go_sem]) rfl ⟨rfl, below_alloc2 _ _ _⟩

/-- A box that holds a column. -/
def Box (g : Nat) (K I U : Int) (S : ByteArray) (w : World) : Prop := w.heap[g]? = some (.cells #[.int .i64 K, .int .i64 I, .int .u64 U, .string S] 51 (0, 0))
theorem Box.below {g : Nat} {K I U : Int} {S : ByteArray} {w w' : World} (h : Box g K I U S w) (b : Below w.heap.size w w') : Box g K I U S w' := by
  unfold Box at *
  rw [b.block g (by rcases Nat.lt_or_ge g w.heap.size with e | e; exact e; rw [Array.getElem?_eq_none e] at h; cases h)]
  exact h
theorem Box.new (K I U : Int) (S : ByteArray) (w : World) : Box w.heap.size K I U S (w.alloc (.cells #[.int .i64 K, .int .i64 I, .int .u64 U, .string S] 51)) := heap_alloc_new _ _

/-- The box, and each of its cells. -/
def Cells (g : Nat) (K I U : Int) (S : ByteArray) (w : World) : Prop :=
  w.cell? ⟨g, 0, none⟩ = some (.int .i64 K) ∧ w.cell? ⟨g, 1, none⟩ = some (.int .i64 I) ∧ w.cell? ⟨g, 2, none⟩ = some (.int .u64 U) ∧ w.cell? ⟨g, 3, none⟩ = some (.string S)
theorem Box.cells {g : Nat} {K I U : Int} {S : ByteArray} {w : World} (h : Box g K I U S w) : Cells g K I U S w := by
  unfold Box at h
  refine ⟨?_, ?_, ?_, ?_⟩ <;> simp [World.cell?, h]

theorem Box.free {g : Nat} {K I U : Int} {S : ByteArray} {w : World} (h : Box g K I U S w) : w.frozen? ⟨g, 0, none⟩ = false ∧ w.frozen? ⟨g, 1, none⟩ = false ∧ w.frozen? ⟨g, 2, none⟩ = false ∧ w.frozen? ⟨g, 3, none⟩ = false := by
  unfold Box at h
  refine ⟨?_, ?_, ?_, ?_⟩ <;> simp [World.frozen?, h]

/-- Two columns are the same, field by field. -/
def sameV (K I U : Int) (S : ByteArray) (K' I' U' : Int) (S' : ByteArray) : Bool := (K == K') && ((I == I') && ((U == U') && (S.toList == S'.toList)))
theorem eql_col (K I U K' I' U' : Int) (S S' : ByteArray) (w : World) :
    (binOp .eql 51 (.agg #[.int .i64 K, .int .i64 I, .int .u64 U, .string S]) (.agg #[.int .i64 K', .int .i64 I', .int .u64 U', .string S'])).run Tryd.prog w = .ok (.bool (sameV K I U S K' I' U' S')) w := by
  unfold sameV
  cases h1 : (K == K') <;> cases h2 : (I == I') <;> cases h3 : (U == U') <;> simp [go_sem, h1, h2, h3]
  by_cases h4 : S.toList = S'.toList <;> simp [h4]

theorem sameV_iff (K I U : Int) (S : ByteArray) (K' I' U' : Int) (S' : ByteArray) : sameV K I U S K' I' U' S' = true ↔ (⟨K, I, U, S.data.toList⟩ : CP.Col) = ⟨K', I', U', S'.data.toList⟩ := by
  simp [sameV, ByteArray.toList_eq]
theorem sameV_eq {K I U : Int} {S : ByteArray} {K' I' U' : Int} {S' : ByteArray} {b : Bool} (h : b = true ↔ (⟨K, I, U, S.data.toList⟩ : CP.Col) = ⟨K', I', U', S'.data.toList⟩) : sameV K I U S K' I' U' S' = b := by
  have h2 := sameV_iff K I U S K' I' U' S'
  cases b <;> cases hs : sameV K I U S K' I' U' S' <;> simp_all

section
attribute [local go_sem high] eql_col

/-- What Right asks of the box. -/
def Held (g : Nat) (K I U : Int) (S : ByteArray) (w' : World) : Prop := Hid (Box g K I U S w') ∧ w'.cell? ⟨g, 0, none⟩ = some (.int .i64 K) ∧ w'.cell? ⟨g, 1, none⟩ = some (.int .i64 I) ∧ w'.cell? ⟨g, 2, none⟩ = some (.int .u64 U) ∧ w'.cell? ⟨g, 3, none⟩ = some (.string S)
theorem held_keep (g : Nat) (K I U : Int) (S : ByteArray) : Hid (∀ W W' : World, Below W.heap.size W W' → (Hid (Box g K I U S W) ∧ W.cell? ⟨g, 0, none⟩ = some (.int .i64 K) ∧ W.cell? ⟨g, 1, none⟩ = some (.int .i64 I) ∧ W.cell? ⟨g, 2, none⟩ = some (.int .u64 U) ∧ W.cell? ⟨g, 3, none⟩ = some (.string S)) → Hid (Box g K I U S W') ∧ W'.cell? ⟨g, 0, none⟩ = some (.int .i64 K) ∧ W'.cell? ⟨g, 1, none⟩ = some (.int .i64 I) ∧ W'.cell? ⟨g, 2, none⟩ = some (.int .u64 U) ∧ W'.cell? ⟨g, 3, none⟩ = some (.string S)) :=
  Lib.hid (fun W W' b h => ⟨Lib.hid (h.1.out.below b), (h.1.out.below b).cells⟩)

set_option maxHeartbeats 1000000 in
set_option maxRecDepth 100000 in
theorem right0 (I U : Int) (S : ByteArray) (w : World) : Calls Tryd.prog 45 #[.agg #[.int .i64 0, .int .i64 I, .int .u64 U, .string S]] w fun e w' => e = .returned (.bool (sameV 0 I U S 0 0 0 ⟨#[]⟩)) ∧ Below w.heap.size w w' := by
  have HK0 := Lib.hid (Box.new 0 I U S w)
  have HKeep := held_keep w.heap.size 0 I U S
  have hix := ixOwns0
  go_enter Tryd.func45, Tryd.ntmps45
  go_wp2_with fail
  go_region_held3 (fun w' => Hid (Box w.heap.size 0 I U S w') ∧ w'.cell? ⟨w.heap.size, 0, none⟩ = some (.int .i64 0) ∧ w'.cell? ⟨w.heap.size, 1, none⟩ = some (.int .i64 I) ∧ w'.cell? ⟨w.heap.size, 2, none⟩ = some (.int .u64 U) ∧ w'.cell? ⟨w.heap.size, 3, none⟩ = some (.string S))
    (first | assumption | exact ⟨HK0, HK0.out.cells⟩ | exact HKeep.out _ _ (by assumption) (by assumption))
    (first
      | (go_at_call 57; refine (owns_any _).mono ?_; rintro e w1 ⟨rfl, hb1⟩)
      | (go_at_call 73; refine (owns1_any _ _ _ _ _).mono ?_; rintro e w2 ⟨rfl, hb2⟩))
  go_wp2_with fail
  go_ret
  exact ⟨rfl, (below_alloc _ _).trans' ((below_of_drew hb1).trans' hb2)⟩

set_option maxHeartbeats 1000000 in
set_option maxRecDepth 100000 in
theorem right1 (I U : Int) (S : ByteArray) (w : World) : Calls Tryd.prog 45 #[.agg #[.int .i64 1, .int .i64 I, .int .u64 U, .string S]] w fun e w' => e = .returned (.bool (sameV 1 I U S 1 0 (min U 1) ⟨#[]⟩)) ∧ Below w.heap.size w w' := by
  have HK0 := Lib.hid (Box.new 1 I U S w)
  have HKeep := held_keep w.heap.size 1 I U S
  have hix := ixOwns1
  go_enter Tryd.func45, Tryd.ntmps45
  go_wp2_with fail
  go_region_held3 (fun w' => Hid (Box w.heap.size 1 I U S w') ∧ w'.cell? ⟨w.heap.size, 0, none⟩ = some (.int .i64 1) ∧ w'.cell? ⟨w.heap.size, 1, none⟩ = some (.int .i64 I) ∧ w'.cell? ⟨w.heap.size, 2, none⟩ = some (.int .u64 U) ∧ w'.cell? ⟨w.heap.size, 3, none⟩ = some (.string S))
    (first | assumption | exact ⟨HK0, HK0.out.cells⟩ | exact HKeep.out _ _ (by assumption) (by assumption))
    (first
      | (go_at_call 57; refine (owns_any _).mono ?_; rintro e w1 ⟨rfl, hb1⟩)
      | (go_at_call 74; refine (owns2_any _ _ _ _ _).mono ?_; rintro e w2 ⟨rfl, hb2⟩))
  go_wp2_with fail
  go_ret
  exact ⟨rfl, (below_alloc _ _).trans' ((below_of_drew hb1).trans' hb2)⟩

set_option maxHeartbeats 1000000 in
set_option maxRecDepth 100000 in
theorem right2 (I U : Int) (S : ByteArray) (w : World) : Calls Tryd.prog 45 #[.agg #[.int .i64 2, .int .i64 I, .int .u64 U, .string S]] w fun e w' => e = .returned (.bool (sameV 2 I U S 2 I 0 ⟨#[]⟩)) ∧ Below w.heap.size w w' := by
  have HK0 := Lib.hid (Box.new 2 I U S w)
  have HKeep := held_keep w.heap.size 2 I U S
  have hix := ixOwns2
  go_enter Tryd.func45, Tryd.ntmps45
  go_wp2_with fail
  go_region_held3 (fun w' => Hid (Box w.heap.size 2 I U S w') ∧ w'.cell? ⟨w.heap.size, 0, none⟩ = some (.int .i64 2) ∧ w'.cell? ⟨w.heap.size, 1, none⟩ = some (.int .i64 I) ∧ w'.cell? ⟨w.heap.size, 2, none⟩ = some (.int .u64 U) ∧ w'.cell? ⟨w.heap.size, 3, none⟩ = some (.string S))
    (first | assumption | exact ⟨HK0, HK0.out.cells⟩ | exact HKeep.out _ _ (by assumption) (by assumption))
    (first
      | (go_at_call 57; refine (owns_any _).mono ?_; rintro e w1 ⟨rfl, hb1⟩)
      | (go_at_call 75; refine (owns3_any _ _ _ _ _).mono ?_; rintro e w2 ⟨rfl, hb2⟩))
  go_wp2_with fail
  go_ret
  exact ⟨rfl, (below_alloc _ _).trans' ((below_of_drew hb1).trans' hb2)⟩

set_option maxHeartbeats 1000000 in
set_option maxRecDepth 100000 in
theorem right3 (I U : Int) (S : ByteArray) (w : World) : Calls Tryd.prog 45 #[.agg #[.int .i64 3, .int .i64 I, .int .u64 U, .string S]] w fun e w' => e = .returned (.bool (sameV 3 I U S 3 0 U ⟨#[]⟩)) ∧ Below w.heap.size w w' := by
  have HK0 := Lib.hid (Box.new 3 I U S w)
  have HKeep := held_keep w.heap.size 3 I U S
  have hix := ixOwns3
  go_enter Tryd.func45, Tryd.ntmps45
  go_wp2_with fail
  go_region_held3 (fun w' => Hid (Box w.heap.size 3 I U S w') ∧ w'.cell? ⟨w.heap.size, 0, none⟩ = some (.int .i64 3) ∧ w'.cell? ⟨w.heap.size, 1, none⟩ = some (.int .i64 I) ∧ w'.cell? ⟨w.heap.size, 2, none⟩ = some (.int .u64 U) ∧ w'.cell? ⟨w.heap.size, 3, none⟩ = some (.string S))
    (first | assumption | exact ⟨HK0, HK0.out.cells⟩ | exact HKeep.out _ _ (by assumption) (by assumption))
    (first
      | (go_at_call 57; refine (owns_any _).mono ?_; rintro e w1 ⟨rfl, hb1⟩)
      | (go_at_call 76; refine (owns4_any _ _ _ _ _).mono ?_; rintro e w2 ⟨rfl, hb2⟩))
  go_wp2_with fail
  go_ret
  exact ⟨rfl, (below_alloc _ _).trans' ((below_of_drew hb1).trans' hb2)⟩

set_option maxHeartbeats 1000000 in
set_option maxRecDepth 100000 in
theorem right4 (I U : Int) (S : ByteArray) (w : World) : Calls Tryd.prog 45 #[.agg #[.int .i64 4, .int .i64 I, .int .u64 U, .string S]] w fun e w' => e = .returned (.bool (sameV 4 I U S 4 0 0 S)) ∧ Below w.heap.size w w' := by
  have HK0 := Lib.hid (Box.new 4 I U S w)
  have HKeep := held_keep w.heap.size 4 I U S
  have hix := ixOwns4
  go_enter Tryd.func45, Tryd.ntmps45
  go_wp2_with fail
  go_region_held3 (fun w' => Hid (Box w.heap.size 4 I U S w') ∧ w'.cell? ⟨w.heap.size, 0, none⟩ = some (.int .i64 4) ∧ w'.cell? ⟨w.heap.size, 1, none⟩ = some (.int .i64 I) ∧ w'.cell? ⟨w.heap.size, 2, none⟩ = some (.int .u64 U) ∧ w'.cell? ⟨w.heap.size, 3, none⟩ = some (.string S))
    (first | assumption | exact ⟨HK0, HK0.out.cells⟩ | exact HKeep.out _ _ (by assumption) (by assumption))
    (first
      | (go_at_call 57; refine (owns_any _).mono ?_; rintro e w1 ⟨rfl, hb1⟩)
      | (go_at_call 77; refine (owns5_any _ _ _ _ _).mono ?_; rintro e w2 ⟨rfl, hb2⟩))
  go_wp2_with fail
  go_ret
  exact ⟨rfl, (below_alloc _ _).trans' ((below_of_drew hb1).trans' hb2)⟩

end
end Go.Proofs.YtdcijbclafpkmaaDoor
