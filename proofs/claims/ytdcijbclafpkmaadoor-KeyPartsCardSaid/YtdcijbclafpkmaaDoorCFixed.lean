/-
  A call with one answer, in any world in which MaxLen holds an integer; col.Put and col.Get as such.
-/
import Derived.Test.YtdcijbclafpkmaaDoorCPutAll
import Derived.Test.YtdcijbclafpkmaaDoorCGetAll
import Derived.Test.YtdcijbclafpkmaaDoorCCmp
namespace Go.Proofs.YtdcijbclafpkmaaDoor
open Go.RowKit
set_option linter.unusedVariables false

/-- A call with one answer, in any world in which MaxLen holds an integer. -/
def Tells (f : Nat) (args : Array Value) (v : Value) : Prop := ∀ W, MaxIs W → Calls Tryd.prog f args W fun e w' => e = .returned v ∧ Below W.heap.size W w' ∧ MaxIs w'
theorem Tells.of {f : Nat} {args : Array Value} {v : Value} (h : ∀ W, MaxIs W → Calls Tryd.prog f args W fun e w' => e = .returned v ∧ Below W.heap.size W w') : Tells f args v := fun W hW => (h W hW).mono fun e w' ⟨he, hb⟩ => ⟨he, hb, hW.below hb⟩

theorem fp (K I U : Int) (S : ByteArray) (v : Value) (ho : CP.Ok ⟨K, I, U, S.data.toList⟩) (hS : S.size ≤ 1000) (hv : putV K I U S = v) : Tells 32 #[.agg #[.int .i64 K, .int .i64 I, .int .u64 U, .string S]] v :=
  Tells.of fun W hW => by have h := colPut_any K I U S W ho hS hW; rwa [hv] at h
theorem fg (s : ByteArray) (p : Nat) (v : Value) (h : p ≤ s.size) (hs : s.size ≤ 1000000) (hv : gotV (CP.get s.data.toList p) = v) : Tells 37 #[.string s, .int .i64 p] v :=
  Tells.of fun W hW => by have h := colGet_any s p W h hs; rwa [hv] at h

end Go.Proofs.YtdcijbclafpkmaaDoor
