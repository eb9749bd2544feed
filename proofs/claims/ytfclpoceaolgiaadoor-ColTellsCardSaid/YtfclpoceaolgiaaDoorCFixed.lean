/-
  The fixed calls of the statements of layer 3: each answers as the document fixes it, so the conjunction is true.
-/
import Derived.Test.YtfclpoceaolgiaaDoorCPutAll
import Derived.Test.YtfclpoceaolgiaaDoorCGetAll
import Derived.Test.YtfclpoceaolgiaaDoorCCmp
namespace Go.Proofs.YtfclpoceaolgiaaDoor
open Go.RowKit
set_option linter.unusedVariables false

/-- A call with one answer, in any world in which MaxLen holds an integer. -/
def Tells (f : Nat) (args : Array Value) (v : Value) : Prop := ∀ W, MaxIs W → Calls Tryd.prog f args W fun e w' => e = .returned v ∧ Below W.heap.size W w' ∧ MaxIs w'
theorem Tells.of {f : Nat} {args : Array Value} {v : Value} (h : ∀ W, MaxIs W → Calls Tryd.prog f args W fun e w' => e = .returned v ∧ Below W.heap.size W w') : Tells f args v := fun W hW => (h W hW).mono fun e w' ⟨he, hb⟩ => ⟨he, hb, hW.below hb⟩

theorem fp (K I U : Int) (S : ByteArray) (v : Value) (ho : CP.Ok ⟨K, I, U, S.data.toList⟩) (hS : S.size ≤ 1000) (hv : putV K I U S = v) : Tells 10 #[.agg #[.int .i64 K, .int .i64 I, .int .u64 U, .string S]] v :=
  Tells.of fun W hW => by have h := colPut_any K I U S W ho hS hW; rwa [hv] at h
theorem fg (s : ByteArray) (p : Nat) (v : Value) (h : p ≤ s.size) (hs : s.size ≤ 1000000) (hv : gotV (CP.get s.data.toList p) = v) : Tells 13 #[.string s, .int .i64 p] v :=
  Tells.of fun W hW => by have h := colGet_any s p W h hs; rwa [hv] at h

theorem fx0 : Tells 10 #[.agg #[.int .i64 2, .int .i64 (-1), .int .u64 0, .string ⟨#[]⟩]] (.tuple #[.string ⟨#[48, 127, 255, 255, 255, 255, 255, 255, 255]⟩, .int .i64 0]) :=
  fp 2 (-1) 0 ⟨#[]⟩ _ (by unfold CP.Ok; decide) (by decide +kernel) (by unfold putV; rw [if_pos (by decide +kernel), show CP.put ⟨2, -1, 0, (⟨#[]⟩ : ByteArray).data.toList⟩ = [48, 127, 255, 255, 255, 255, 255, 255, 255] by decide +kernel])
theorem fx1 : Tells 10 #[.agg #[.int .i64 4, .int .i64 0, .int .u64 0, .string ⟨#[0, 97]⟩]] (.tuple #[.string ⟨#[80, 0, 255, 97, 0, 1]⟩, .int .i64 0]) :=
  fp 4 0 0 ⟨#[0, 97]⟩ _ (by unfold CP.Ok; decide) (by decide +kernel) (by unfold putV; rw [if_pos (by decide +kernel), show CP.put ⟨4, 0, 0, (⟨#[0, 97]⟩ : ByteArray).data.toList⟩ = [80, 0, 255, 97, 0, 1] by decide +kernel])
theorem fx2 : Tells 10 #[.agg #[.int .i64 0, .int .i64 0, .int .u64 0, .string ⟨#[]⟩]] (.tuple #[.string ⟨#[16]⟩, .int .i64 0]) :=
  fp 0 0 0 ⟨#[]⟩ _ (by unfold CP.Ok; decide) (by decide +kernel) (by unfold putV; rw [if_pos (by decide +kernel), show CP.put ⟨0, 0, 0, (⟨#[]⟩ : ByteArray).data.toList⟩ = [16] by decide +kernel])
theorem fx3 : Tells 10 #[.agg #[.int .i64 1, .int .i64 0, .int .u64 1, .string ⟨#[]⟩]] (.tuple #[.string ⟨#[33]⟩, .int .i64 0]) :=
  fp 1 0 1 ⟨#[]⟩ _ (by unfold CP.Ok; decide) (by decide +kernel) (by unfold putV; rw [if_pos (by decide +kernel), show CP.put ⟨1, 0, 1, (⟨#[]⟩ : ByteArray).data.toList⟩ = [33] by decide +kernel])
theorem fx4 : Tells 10 #[.agg #[.int .i64 1, .int .i64 0, .int .u64 2, .string ⟨#[]⟩]] (.tuple #[.string ⟨#[]⟩, .int .i64 3]) :=
  fp 1 0 2 ⟨#[]⟩ _ (by unfold CP.Ok; decide) (by decide +kernel) (by unfold putV; rw [if_neg (by decide +kernel)])
theorem fx5 : Tells 13 #[.string ⟨#[122, 80, 0, 255, 97, 0, 1, 121]⟩, .int .i64 1] (.tuple #[.agg #[.int .i64 4, .int .i64 0, .int .u64 0, .string ⟨#[0, 97]⟩], .int .i64 7, .int .i64 0]) :=
  fg ⟨#[122, 80, 0, 255, 97, 0, 1, 121]⟩ 1 _ (by decide +kernel) (by decide +kernel) (by kernel_rfl)
theorem fx6 : Tells 13 #[.string ⟨#[80, 97]⟩, .int .i64 0] (.tuple #[.agg #[.int .i64 0, .int .i64 0, .int .u64 0, .string ⟨#[]⟩], .int .i64 0, .int .i64 7]) :=
  fg ⟨#[80, 97]⟩ 0 _ (by decide +kernel) (by decide +kernel) (by kernel_rfl)
theorem fx7 : Tells 13 #[.string ⟨#[80, 0, 2]⟩, .int .i64 0] (.tuple #[.agg #[.int .i64 0, .int .i64 0, .int .u64 0, .string ⟨#[]⟩], .int .i64 0, .int .i64 3]) :=
  fg ⟨#[80, 0, 2]⟩ 0 _ (by decide +kernel) (by decide +kernel) (by kernel_rfl)
theorem fx8 : Tells 13 #[.string ⟨#[17]⟩, .int .i64 0] (.tuple #[.agg #[.int .i64 0, .int .i64 0, .int .u64 0, .string ⟨#[]⟩], .int .i64 0, .int .i64 3]) :=
  fg ⟨#[17]⟩ 0 _ (by decide +kernel) (by decide +kernel) (by kernel_rfl)
theorem fx9 : Tells 13 #[.string ⟨#[64, 241, 0]⟩, .int .i64 0] (.tuple #[.agg #[.int .i64 0, .int .i64 0, .int .u64 0, .string ⟨#[]⟩], .int .i64 0, .int .i64 3]) :=
  fg ⟨#[64, 241, 0]⟩ 0 _ (by decide +kernel) (by decide +kernel) (by kernel_rfl)
theorem fx10 : Tells 13 #[.string ⟨#[97]⟩, .int .i64 2] (.tuple #[.agg #[.int .i64 0, .int .i64 0, .int .u64 0, .string ⟨#[]⟩], .int .i64 0, .int .i64 4]) :=
  Tells.of fun W hW => colGet_arg ⟨#[97]⟩ 2 W (by decide +kernel)
theorem fx11 : Tells 17 #[.agg #[.int .i64 2, .int .i64 (-1), .int .u64 0, .string ⟨#[]⟩], .agg #[.int .i64 2, .int .i64 0, .int .u64 0, .string ⟨#[]⟩]] (.int .i64 (-1)) :=
  Tells.of fun W hW => by have h := compare_any 2 (-1) 0 ⟨#[]⟩ 2 0 0 ⟨#[]⟩ W; rwa [show CP.cmp _ _ = (-1 : Int) by decide +kernel] at h
theorem fx12 : Tells 17 #[.agg #[.int .i64 4, .int .i64 0, .int .u64 0, .string ⟨#[]⟩], .agg #[.int .i64 3, .int .i64 0, .int .u64 9, .string ⟨#[]⟩]] (.int .i64 1) :=
  Tells.of fun W hW => by have h := compare_any 4 0 0 ⟨#[]⟩ 3 0 9 ⟨#[]⟩ W; rwa [show CP.cmp _ _ = (1 : Int) by decide +kernel] at h
theorem fx13 : Tells 15 #[.agg #[.int .i64 3, .int .i64 0, .int .u64 9, .string ⟨#[]⟩]] (.bool true) :=
  Tells.of fun W hW => by have h := right_any 3 0 9 ⟨#[]⟩ W (by decide); rwa [show rt _ _ _ _ = true by decide +kernel] at h
theorem fx14 : Tells 15 #[.agg #[.int .i64 3, .int .i64 9, .int .u64 0, .string ⟨#[]⟩]] (.bool false) :=
  Tells.of fun W hW => by have h := right_any 3 9 0 ⟨#[]⟩ W (by decide); rwa [show rt _ _ _ _ = false by decide +kernel] at h

section
attribute [local go_sem high] eql_col
set_option maxHeartbeats 2000000 in
set_option maxRecDepth 100000 in
theorem fixed_tells : Tells 19 #[] (.bool true) := Tells.of fun w M0 => by
  have hsame : sameV 4 0 0 ⟨#[0, 97]⟩ 4 0 0 ⟨#[0, 97]⟩ = true := by decide +kernel
  go_enter Tryd.func19, Tryd.ntmps19
  go_wp2_with fail
  refine (fx0 _ M0).mono ?_
  rintro e w1 ⟨rfl, hb1, M1⟩
  go_wp2_with fail
  refine (fx1 _ M1).mono ?_
  rintro e w2 ⟨rfl, hb2, M2⟩
  go_wp2_with fail
  refine (fx2 _ M2).mono ?_
  rintro e w3 ⟨rfl, hb3, M3⟩
  go_wp2_with fail
  refine (fx3 _ M3).mono ?_
  rintro e w4 ⟨rfl, hb4, M4⟩
  go_wp2_with fail
  refine (fx4 _ M4).mono ?_
  rintro e w5 ⟨rfl, hb5, M5⟩
  go_wp2_with fail
  refine (fx5 _ M5).mono ?_
  rintro e w6 ⟨rfl, hb6, M6⟩
  have B6 : Below w.heap.size w w6 := ((((hb1.trans' hb2).trans' hb3).trans' hb4).trans' hb5).trans' hb6
  clear hb1 hb2 hb3 hb4 hb5 hb6 M0 M1 M2 M3 M4 M5
  have X0 := Lib.hid (Box.new 4 0 0 ⟨#[0, 97]⟩ w6)
  have M6' := M6.alloc (.cells #[.int .i64 4, .int .i64 0, .int .u64 0, .string ⟨#[0, 97]⟩] 24)
  go_wp2_with fail
  refine (fx6 _ M6').mono ?_
  rintro e w7 ⟨rfl, hb7, M7⟩
  have M7' := M7.alloc (.cells #[.int .i64 0, .int .i64 0, .int .u64 0, .string ⟨#[]⟩] 24)
  go_wp2_with fail
  refine (fx7 _ M7').mono ?_
  rintro e w8 ⟨rfl, hb8, M8⟩
  have M8' := M8.alloc (.cells #[.int .i64 0, .int .i64 0, .int .u64 0, .string ⟨#[]⟩] 24)
  go_wp2_with fail
  refine (fx8 _ M8').mono ?_
  rintro e w9 ⟨rfl, hb9, M9⟩
  have M9' := M9.alloc (.cells #[.int .i64 0, .int .i64 0, .int .u64 0, .string ⟨#[]⟩] 24)
  go_wp2_with fail
  refine (fx9 _ M9').mono ?_
  rintro e w10 ⟨rfl, hb10, M10⟩
  have M10' := M10.alloc (.cells #[.int .i64 0, .int .i64 0, .int .u64 0, .string ⟨#[]⟩] 24)
  go_wp2_with fail
  refine (fx10 _ M10').mono ?_
  rintro e w11 ⟨rfl, hb11, M11⟩
  have B11 : Below w6.heap.size w6 w11 := (below_alloc _ _).trans' (hb7.trans' ((below_alloc _ _).trans' (hb8.trans' ((below_alloc _ _).trans' (hb9.trans' ((below_alloc _ _).trans' (hb10.trans' ((below_alloc _ _).trans' hb11))))))))
  have BX : Below (w6.alloc (.cells #[.int .i64 4, .int .i64 0, .int .u64 0, .string ⟨#[0, 97]⟩] 24)).heap.size (w6.alloc (.cells #[.int .i64 4, .int .i64 0, .int .u64 0, .string ⟨#[0, 97]⟩] 24)) w11 := hb7.trans' ((below_alloc _ _).trans' (hb8.trans' ((below_alloc _ _).trans' (hb9.trans' ((below_alloc _ _).trans' (hb10.trans' ((below_alloc _ _).trans' hb11)))))))
  have X1 := Lib.hid ((X0.out.below BX).below (below_alloc w11 (.cells #[.int .i64 0, .int .i64 0, .int .u64 0, .string ⟨#[]⟩] 24)))
  have M11' := M11.alloc (.cells #[.int .i64 0, .int .i64 0, .int .u64 0, .string ⟨#[]⟩] 24)
  have B12 : Below w.heap.size w (w11.alloc (.cells #[.int .i64 0, .int .i64 0, .int .u64 0, .string ⟨#[]⟩] 24)) := (B6.trans' B11).trans' (below_alloc _ _)
  clear hb7 hb8 hb9 hb10 hb11 M6 M7 M8 M9 M10 M11 M6' M7' M8' M9' M10' B6 B11 BX X0
  obtain ⟨c0, c1, c2, c3⟩ := X1.out.cells
  go_wp2_with fail
  refine (fx11 _ M11').mono ?_
  rintro e w12 ⟨rfl, hb12, M12⟩
  go_wp2_with fail
  refine (fx12 _ M12).mono ?_
  rintro e w13 ⟨rfl, hb13, M13⟩
  go_wp2_with fail
  refine (fx13 _ M13).mono ?_
  rintro e w14 ⟨rfl, hb14, M14⟩
  go_wp2_with fail
  refine (fx14 _ M14).mono ?_
  rintro e w15 ⟨rfl, hb15, M15⟩
  go_wp2_with fail
  go_ret
  exact ⟨rfl, (((B12.trans' hb12).trans' hb13).trans' hb14).trans' hb15⟩
end
end Go.Proofs.YtfclpoceaolgiaaDoor
