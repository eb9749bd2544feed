/-
  The walk of errors.Is, of an error of the program's own make that wraps a number, once or twice.
-/
import Derived.Test.YtembccehokodeaaGreatDoorJ04
import Derived.Test.YtembccehokodeaaGreatDoorRows
import Derived.WalkKit
import Derived.WalkSpells
import Derived.WalkLawsBesides
import Derived.Lib.Walk
import Derived.Lib.Hide
import Derived.LaidEql
import Derived.Stop.Asserts
import Derived.RowKitTokens
import Derived.Below
namespace Go.Proofs.YtembccehokodeaaGreatDoor.L7
open Go.RowKit Go.Extern
set_option linter.unusedVariables false
set_option linter.unusedSimpArgs false

/-- An error that is a number, and one that wraps another. -/
def er (x : Int) : Value := .iface 29 (.int .i64 x)
def fa (a : ByteArray) (e : Value) : Value := .iface 125 (.agg #[.string a, e])

theorem isTypeOf (v : Value) (w : World) : (Extern.ReflectliteType.typeOf #[.iface 29 v]).run Tryz.prog w = .ok (.iface 152 (.agg #[.pointer (some ⟨2, 29, none⟩)])) w := by kernel_rfl
/-- What '(rtype).Comparable' does. -/
def cmpOf : Array Value → Sem Value := Extern.ReflectliteType.method fun t => do Extern.Rtype.noPackHeld "Comparable" t; pure (.bool (← typeInfo t).comparable)
theorem isComparable (w : World) : (cmpOf #[.agg #[.pointer (some ⟨2, 29, none⟩)]]).run Tryz.prog w = .ok (.bool true) w := by kernel_rfl
theorem isMethodComparable (N : Nat) (v : Value) (w : World) : (Go.method (N + 1) 152 v "Comparable").run Tryz.prog w = .ok (159, v) w := by kernel_rfl
theorem noIsE (v : Value) (xT : TypeId) (w : World) : (Instr.typeAssert (.iface 29 v) xT 154 true).run Tryz.prog w = .ok (.tuple #[.nilIface, .bool false]) w := run_typeAssert_lacksB Tryz.underlying154 (by kernel_rfl) (by kernel_rfl) v xT w
theorem noUnwrapE (v : Value) (xT : TypeId) (w : World) : (Instr.typeAssert (.iface 29 v) xT 157 true).run Tryz.prog w = .ok (.tuple #[.nilIface, .bool false]) w := run_typeAssert_lacksB Tryz.underlying157 (by kernel_rfl) (by kernel_rfl) v xT w
theorem noUnwrapsE (v : Value) (xT : TypeId) (w : World) : (Instr.typeAssert (.iface 29 v) xT 159 true).run Tryz.prog w = .ok (.tuple #[.nilIface, .bool false]) w := run_typeAssert_lacksB Tryz.underlying159 (by kernel_rfl) (by kernel_rfl) v xT w
theorem noIsF (v : Value) (xT : TypeId) (w : World) : (Instr.typeAssert (.iface 125 v) xT 154 true).run Tryz.prog w = .ok (.tuple #[.nilIface, .bool false]) w := run_typeAssert_lacksB Tryz.underlying154 (by kernel_rfl) (by kernel_rfl) v xT w
theorem hasUnwrapF (v : Value) (xT : TypeId) (w : World) : (Instr.typeAssert (.iface 125 v) xT 157 true).run Tryz.prog w = .ok (.tuple #[.iface 125 v, .bool true]) w := run_typeAssert_hasB Tryz.underlying157 (by kernel_rfl) v xT w
theorem methodUnwrap (N : Nat) (v : Value) (w : World) : (Go.method (N + 1) 125 v "Unwrap").run Tryz.prog w = .ok (155, v) w := by kernel_rfl
theorem eqlE (x y : Int) (w : World) : (binOp .eql 101 (.iface 29 (.int .i64 x)) (.iface 29 (.int .i64 y))).run Tryz.prog w = .ok (.bool (x == y)) w := by
  kernel_rfl
theorem eqlF (a : Value) (y : Int) (w : World) : (binOp .eql 101 (.iface 125 a) (.iface 29 (.int .i64 y))).run Tryz.prog w = .ok (.bool false) w :=
  run_eql_iface_types (P := Tryz.prog) 125 29 a (.int .i64 y) Tryz.underlying101 (by decide) w
theorem nilL (y : Int) (w : World) : (binOp .eql 101 .nilIface (.iface 29 (.int .i64 y))).run Tryz.prog w = .ok (.bool false) w := run_eql_iface_nil_left (P := Tryz.prog) w 29 (.int .i64 y) Tryz.underlying101
theorem unwrap_any (a : ByteArray) (e : Value) (w : World) : Calls Tryz.prog 155 #[.agg #[.string a, e]] w fun r w' => r = .returned e ∧ Below w.heap.size w w' := by
  go_enter Tryz.func155, Tryz.ntmps155
  go_wp2_with fail
  go_ret
  exact ⟨rfl, (Below.refl _ w).alloc (Nat.le_refl _) _⟩

set_option maxHeartbeats 2000000 in
theorem is_fa1 (a : ByteArray) (x y : Int) (w : World) : Calls Tryz.prog 93 #[fa a (er x), er y, .bool true] w fun r w' => r = .returned (.bool (x == y)) ∧ Below w.heap.size w w' := by
  have hE := eqlE x y
  have n1 := noIsE
  have n2 := noUnwrapE
  have n3 := noUnwrapsE
  have f1 := noIsF
  have f2 := hasUnwrapF
  have f3 := methodUnwrap
  have f4 := eqlF (.agg #[.string a, er x]) y
  have hU := Lib.hid (unwrap_any a (er x))
  unfold fa
  unfold er at *
  cases h : (x == y)
  all_goals
    rw [h] at hE
    clear h
    go_enter Tryz.func93, Tryz.ntmps93
    go_wp2_with fail
    refine wp_loop_rounds 2 ?_
    rw [rounds_succ]
    go_wp2_with fail
    refine (hU.out _).mono ?_
    rintro e w1 ⟨rfl, hb1⟩
    go_wp2_with fail
    rw [rounds_succ]
    go_wp2_with fail
    go_ret
    exact ⟨rfl, hb1⟩
set_option maxHeartbeats 2000000 in
theorem is_fa2 (a b : ByteArray) (x y : Int) (w : World) : Calls Tryz.prog 93 #[fa a (fa b (er x)), er y, .bool true] w fun r w' => r = .returned (.bool (x == y)) ∧ Below w.heap.size w w' := by
  have hE := eqlE x y
  have n1 := noIsE
  have n2 := noUnwrapE
  have n3 := noUnwrapsE
  have f1 := noIsF
  have f2 := hasUnwrapF
  have f3 := methodUnwrap
  have f4 := eqlF (.agg #[.string a, fa b (er x)]) y
  have f5 := eqlF (.agg #[.string b, er x]) y
  have hU := Lib.hid (unwrap_any a (fa b (er x)))
  have hV := Lib.hid (unwrap_any b (er x))
  unfold fa at *
  unfold er at *
  cases h : (x == y)
  all_goals
    rw [h] at hE
    clear h
    go_enter Tryz.func93, Tryz.ntmps93
    go_wp2_with fail
    refine wp_loop_rounds 3 ?_
    rw [rounds_succ]
    go_wp2_with fail
    refine (hU.out _).mono ?_
    rintro e w1 ⟨rfl, hb1⟩
    go_wp2_with fail
    rw [rounds_succ]
    go_wp2_with fail
    refine (hV.out _).mono ?_
    rintro e w2 ⟨rfl, hb2⟩
    have hb3 := hb1.trans' hb2
    go_wp2_with fail
    rw [rounds_succ]
    go_wp2_with fail
    go_ret
    exact ⟨rfl, hb3⟩

/-- errors.Is, of what errors.is answers. -/
theorem Is_of {e : Value} {v : Value} {y : Int} {r : Bool} {w : World} (he : e = .iface 125 v)
    (h : Calls Tryz.prog 93 #[e, er y, .bool true] w fun q w' => q = .returned (.bool r) ∧ Below w.heap.size w w') :
    Calls Tryz.prog 62 #[e, er y] w fun q w' => q = .returned (.bool r) ∧ Below w.heap.size w w' := by
  subst he
  have h8 := @run_callFunc_extern Tryz.prog 92 _ Extern.ReflectliteType.typeOf Tryz.func92 (by kernel_rfl) (by kernel_rfl) (by kernel_rfl) (by kernel_rfl)
  have h32 := @run_callFunc_extern Tryz.prog 159 _ cmpOf Tryz.func159 (by kernel_rfl) (by kernel_rfl) (by kernel_rfl) (by kernel_rfl)
  have tT := isTypeOf
  have cT := isComparable
  have mR := isMethodComparable
  have H := Lib.hid h
  clear h
  unfold er at *
  go_enter Tryz.func62, Tryz.ntmps62
  go_wp2_with fail
  refine H.out.mono ?_
  rintro e w1 ⟨rfl, hb1⟩
  go_wp2_with fail
  go_ret
  exact ⟨rfl, hb1⟩
theorem Is_fa1 (a : ByteArray) (x y : Int) (w : World) : Calls Tryz.prog 62 #[fa a (er x), er y] w fun r w' => r = .returned (.bool (x == y)) ∧ Below w.heap.size w w' := Is_of rfl (is_fa1 a x y w)
theorem Is_fa2 (a b : ByteArray) (x y : Int) (w : World) : Calls Tryz.prog 62 #[fa a (fa b (er x)), er y] w fun r w' => r = .returned (.bool (x == y)) ∧ Below w.heap.size w w' := Is_of rfl (is_fa2 a b x y w)
theorem Is_nil (y : Int) (w : World) : Calls Tryz.prog 62 #[.nilIface, er y] w fun r w' => r = .returned (.bool false) ∧ w = w' := by
  have hn := nilL y
  unfold er
  go_enter Tryz.func62, Tryz.ntmps62
  go_wp2_with fail
  go_ret
  exact ⟨rfl, rfl⟩
end Go.Proofs.YtembccehokodeaaGreatDoor.L7
