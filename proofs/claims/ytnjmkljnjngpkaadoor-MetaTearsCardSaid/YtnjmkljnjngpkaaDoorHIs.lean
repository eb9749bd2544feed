/-
  The walk of errors.Is, of an error of the program's own make that wraps a number, once or twice.
-/
import Derived.Test.YtnjmkljnjngpkaaDoorHRef
import Derived.Test.YtnjmkljnjngpkaaDoorRows
import Derived.WalkKit
import Derived.WalkSpells
import Derived.WalkLawsBesides
import Derived.Lib.Walk
import Derived.Lib.Hide
import Derived.LaidEql
import Derived.Stop.Asserts
import Derived.RowKitTokens
import Derived.Below
namespace Go.Proofs.YtnjmkljnjngpkaaDoor.L7
open Go.RowKit Go.Extern
set_option linter.unusedVariables false
set_option linter.unusedSimpArgs false

/-- An error that is a number, and one that wraps another. -/
def er (x : Int) : Value := .iface 25 (.int .i64 x)
def fa (a : ByteArray) (e : Value) : Value := .iface 96 (.agg #[.string a, e])

theorem isTypeOf (v : Value) (w : World) : (Extern.ReflectliteType.typeOf #[.iface 25 v]).run Tryd.prog w = .ok (.iface 113 (.agg #[.pointer (some ⟨2, 25, none⟩)])) w := by kernel_rfl
/-- What '(rtype).Comparable' does. -/
def cmpOf : Array Value → Sem Value := Extern.ReflectliteType.method fun t => do Extern.Rtype.noPackHeld "Comparable" t; pure (.bool (← typeInfo t).comparable)
theorem isComparable (w : World) : (cmpOf #[.agg #[.pointer (some ⟨2, 25, none⟩)]]).run Tryd.prog w = .ok (.bool true) w := by kernel_rfl
theorem isMethodComparable (N : Nat) (v : Value) (w : World) : (Go.method (N + 1) 113 v "Comparable").run Tryd.prog w = .ok (91, v) w := by kernel_rfl
theorem noIsE (v : Value) (xT : TypeId) (w : World) : (Instr.typeAssert (.iface 25 v) xT 115 true).run Tryd.prog w = .ok (.tuple #[.nilIface, .bool false]) w := run_typeAssert_lacksB Tryd.underlying115 (by kernel_rfl) (by kernel_rfl) v xT w
theorem noUnwrapE (v : Value) (xT : TypeId) (w : World) : (Instr.typeAssert (.iface 25 v) xT 118 true).run Tryd.prog w = .ok (.tuple #[.nilIface, .bool false]) w := run_typeAssert_lacksB Tryd.underlying118 (by kernel_rfl) (by kernel_rfl) v xT w
theorem noUnwrapsE (v : Value) (xT : TypeId) (w : World) : (Instr.typeAssert (.iface 25 v) xT 120 true).run Tryd.prog w = .ok (.tuple #[.nilIface, .bool false]) w := run_typeAssert_lacksB Tryd.underlying120 (by kernel_rfl) (by kernel_rfl) v xT w
theorem noIsF (v : Value) (xT : TypeId) (w : World) : (Instr.typeAssert (.iface 96 v) xT 115 true).run Tryd.prog w = .ok (.tuple #[.nilIface, .bool false]) w := run_typeAssert_lacksB Tryd.underlying115 (by kernel_rfl) (by kernel_rfl) v xT w
theorem hasUnwrapF (v : Value) (xT : TypeId) (w : World) : (Instr.typeAssert (.iface 96 v) xT 118 true).run Tryd.prog w = .ok (.tuple #[.iface 96 v, .bool true]) w := run_typeAssert_hasB Tryd.underlying118 (by kernel_rfl) v xT w
theorem methodUnwrap (N : Nat) (v : Value) (w : World) : (Go.method (N + 1) 96 v "Unwrap").run Tryd.prog w = .ok (87, v) w := by kernel_rfl
theorem eqlE (x y : Int) (w : World) : (binOp .eql 75 (.iface 25 (.int .i64 x)) (.iface 25 (.int .i64 y))).run Tryd.prog w = .ok (.bool (x == y)) w := by
  kernel_rfl
theorem eqlF (a : Value) (y : Int) (w : World) : (binOp .eql 75 (.iface 96 a) (.iface 25 (.int .i64 y))).run Tryd.prog w = .ok (.bool false) w :=
  run_eql_iface_types (P := Tryd.prog) 96 25 a (.int .i64 y) Tryd.underlying75 (by decide) w
theorem nilL (y : Int) (w : World) : (binOp .eql 75 .nilIface (.iface 25 (.int .i64 y))).run Tryd.prog w = .ok (.bool false) w := run_eql_iface_nil_left (P := Tryd.prog) w 25 (.int .i64 y) Tryd.underlying75
theorem unwrap_any (a : ByteArray) (e : Value) (w : World) : Calls Tryd.prog 87 #[.agg #[.string a, e]] w fun r w' => r = .returned e ∧ Below w.heap.size w w' := by
  go_enter Tryd.func87, Tryd.ntmps87
  go_wp2_with fail
  go_ret
  exact ⟨rfl, (Below.refl _ w).alloc (Nat.le_refl _) _⟩

set_option maxHeartbeats 2000000 in
theorem is_fa1 (a : ByteArray) (x y : Int) (w : World) : Calls Tryd.prog 55 #[fa a (er x), er y, .bool true] w fun r w' => r = .returned (.bool (x == y)) ∧ Below w.heap.size w w' := by
  have hE := eqlE x y
  have n1 := noIsE
  have n2 := noUnwrapE
  have n3 := noUnwrapsE
  have f1 := noIsF
  have f2 := hasUnwrapF
  have f3 := methodUnwrap
  have f4 := eqlF (.agg #[.string a, er x]) y
  have hU := Lib.hid (unwrap_any a (er x))
  unfold fa
  unfold er at *
  cases h : (x == y)
  all_goals
    rw [h] at hE
    clear h
    go_enter Tryd.func55, Tryd.ntmps55
    go_wp2_with fail
    refine wp_loop_rounds 2 ?_
    rw [rounds_succ]
    go_wp2_with fail
    refine (hU.out _).mono ?_
    rintro e w1 ⟨rfl, hb1⟩
    go_wp2_with fail
    rw [rounds_succ]
    go_wp2_with fail
    go_ret
    exact ⟨rfl, hb1⟩
set_option maxHeartbeats 2000000 in
theorem is_fa2 (a b : ByteArray) (x y : Int) (w : World) : Calls Tryd.prog 55 #[fa a (fa b (er x)), er y, .bool true] w fun r w' => r = .returned (.bool (x == y)) ∧ Below w.heap.size w w' := by
  have hE := eqlE x y
  have n1 := noIsE
  have n2 := noUnwrapE
  have n3 := noUnwrapsE
  have f1 := noIsF
  have f2 := hasUnwrapF
  have f3 := methodUnwrap
  have f4 := eqlF (.agg #[.string a, fa b (er x)]) y
  have f5 := eqlF (.agg #[.string b, er x]) y
  have hU := Lib.hid (unwrap_any a (fa b (er x)))
  have hV := Lib.hid (unwrap_any b (er x))
  unfold fa at *
  unfold er at *
  cases h : (x == y)
  all_goals
    rw [h] at hE
    clear h
    go_enter Tryd.func55, Tryd.ntmps55
    go_wp2_with fail
    refine wp_loop_rounds 3 ?_
    rw [rounds_succ]
    go_wp2_with fail
    refine (hU.out _).mono ?_
    rintro e w1 ⟨rfl, hb1⟩
    go_wp2_with fail
    rw [rounds_succ]
    go_wp2_with fail
    refine (hV.out _).mono ?_
    rintro e w2 ⟨rfl, hb2⟩
    have hb3 := hb1.trans' hb2
    go_wp2_with fail
    rw [rounds_succ]
    go_wp2_with fail
    go_ret
    exact ⟨rfl, hb3⟩

/-- errors.Is, of what errors.is answers. -/
theorem Is_of {e : Value} {v : Value} {y : Int} {r : Bool} {w : World} (he : e = .iface 96 v)
    (h : Calls Tryd.prog 55 #[e, er y, .bool true] w fun q w' => q = .returned (.bool r) ∧ Below w.heap.size w w') :
    Calls Tryd.prog 40 #[e, er y] w fun q w' => q = .returned (.bool r) ∧ Below w.heap.size w w' := by
  subst he
  have h8 := @run_callFunc_extern Tryd.prog 54 _ Extern.ReflectliteType.typeOf Tryd.func54 (by kernel_rfl) (by kernel_rfl) (by kernel_rfl) (by kernel_rfl)
  have h32 := @run_callFunc_extern Tryd.prog 91 _ cmpOf Tryd.func91 (by kernel_rfl) (by kernel_rfl) (by kernel_rfl) (by kernel_rfl)
  have tT := isTypeOf
  have cT := isComparable
  have mR := isMethodComparable
  have H := Lib.hid h
  clear h
  unfold er at *
  go_enter Tryd.func40, Tryd.ntmps40
  go_wp2_with fail
  refine H.out.mono ?_
  rintro e w1 ⟨rfl, hb1⟩
  go_wp2_with fail
  go_ret
  exact ⟨rfl, hb1⟩
theorem Is_fa1 (a : ByteArray) (x y : Int) (w : World) : Calls Tryd.prog 40 #[fa a (er x), er y] w fun r w' => r = .returned (.bool (x == y)) ∧ Below w.heap.size w w' := Is_of rfl (is_fa1 a x y w)
theorem Is_fa2 (a b : ByteArray) (x y : Int) (w : World) : Calls Tryd.prog 40 #[fa a (fa b (er x)), er y] w fun r w' => r = .returned (.bool (x == y)) ∧ Below w.heap.size w w' := Is_of rfl (is_fa2 a b x y w)
theorem Is_nil (y : Int) (w : World) : Calls Tryd.prog 40 #[.nilIface, er y] w fun r w' => r = .returned (.bool false) ∧ w = w' := by
  have hn := nilL y
  unfold er
  go_enter Tryd.func40, Tryd.ntmps40
  go_wp2_with fail
  go_ret
  exact ⟨rfl, rfl⟩
end Go.Proofs.YtnjmkljnjngpkaaDoor.L7
