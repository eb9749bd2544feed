import Derived.Test.YtpeghilfldpgfaaGreatDoorT01
import Derived.LaidEql
import Derived.Stop.Asserts
import Derived.RowKitTokens
import Derived.Lib.LaidTab
set_option linter.unusedVariables false
set_option linter.unusedSimpArgs false
set_option maxHeartbeats 8000000
set_option maxRecDepth 100000
namespace Go.Proofs.YtpeghilfldpgfaaGreatDoor.L7
open Go.RowKit Go.Extern
def er (x : Int) : Value := .iface 36 (.int .i64 x)
def fa (a : ByteArray) (e : Value) : Value := .iface 274 (.agg #[.string a, e])
theorem isTypeOf (v : Value) (w : World) : (Extern.ReflectliteType.typeOf #[.iface 36 v]).run Tryz.prog w = .ok (.iface 253 (.agg #[.pointer (some ⟨6, 36, none⟩)])) w := by kernel_rfl
def cmpOf : Array Value → Sem Value := Extern.ReflectliteType.method fun t => do Extern.Rtype.noPackHeld "Comparable" t; pure (.bool (← typeInfo t).comparable)
theorem isComparable (w : World) : (cmpOf #[.agg #[.pointer (some ⟨6, 36, none⟩)]]).run Tryz.prog w = .ok (.bool true) w := by kernel_rfl
theorem isMethodComparable (N : Nat) (v : Value) (w : World) : (Go.method (N + 1) 253 v "Comparable").run Tryz.prog w = .ok (262, v) w := by kernel_rfl
theorem noIsE (v : Value) (xT : TypeId) (w : World) : (Instr.typeAssert (.iface 36 v) xT 300 true).run Tryz.prog w = .ok (.tuple #[.nilIface, .bool false]) w := run_typeAssert_lacksB Tryz.underlying300 (by kernel_rfl) (by kernel_rfl) v xT w
theorem noUnwrapE (v : Value) (xT : TypeId) (w : World) : (Instr.typeAssert (.iface 36 v) xT 261 true).run Tryz.prog w = .ok (.tuple #[.nilIface, .bool false]) w := run_typeAssert_lacksB Tryz.underlying261 (by kernel_rfl) (by kernel_rfl) v xT w
theorem noUnwrapsE (v : Value) (xT : TypeId) (w : World) : (Instr.typeAssert (.iface 36 v) xT 263 true).run Tryz.prog w = .ok (.tuple #[.nilIface, .bool false]) w := run_typeAssert_lacksB Tryz.underlying263 (by kernel_rfl) (by kernel_rfl) v xT w
theorem noIsF (v : Value) (xT : TypeId) (w : World) : (Instr.typeAssert (.iface 274 v) xT 300 true).run Tryz.prog w = .ok (.tuple #[.nilIface, .bool false]) w := run_typeAssert_lacksB Tryz.underlying300 (by kernel_rfl) (by kernel_rfl) v xT w
theorem hasUnwrapF (v : Value) (xT : TypeId) (w : World) : (Instr.typeAssert (.iface 274 v) xT 261 true).run Tryz.prog w = .ok (.tuple #[.iface 274 v, .bool true]) w := run_typeAssert_hasB Tryz.underlying261 (by kernel_rfl) v xT w
theorem methodUnwrap (N : Nat) (v : Value) (w : World) : (Go.method (N + 1) 274 v "Unwrap").run Tryz.prog w = .ok (272, v) w := by kernel_rfl
theorem eqlE (x y : Int) (w : World) : (binOp .eql 112 (.iface 36 (.int .i64 x)) (.iface 36 (.int .i64 y))).run Tryz.prog w = .ok (.bool (x == y)) w := by
 kernel_rfl
theorem eqlF (a : Value) (y : Int) (w : World) : (binOp .eql 112 (.iface 274 a) (.iface 36 (.int .i64 y))).run Tryz.prog w = .ok (.bool false) w :=
 run_eql_iface_types (P := Tryz.prog) 274 36 a (.int .i64 y) Tryz.underlying112 (by decide) w
theorem nilL (y : Int) (w : World) : (binOp .eql 112 .nilIface (.iface 36 (.int .i64 y))).run Tryz.prog w = .ok (.bool false) w := run_eql_iface_nil_left (P := Tryz.prog) w 36 (.int .i64 y) Tryz.underlying112
theorem unwrap_any (a : ByteArray) (e : Value) (w : World) : Calls Tryz.prog 272 #[.agg #[.string a, e]] w fun r w' => r = .returned e ∧ Below w.heap.size w w' := by
 go_enter Tryz.func272, Tryz.ntmps272; go_wp2_with fail; go_ret; exact ⟨rfl, (Below.refl _ w).alloc (Nat.le_refl _) _⟩
theorem is_fa1 (a : ByteArray) (x y : Int) (w : World) : Calls Tryz.prog 168 #[fa a (er x), er y, .bool true] w fun r w' => r = .returned (.bool (x == y)) ∧ Below w.heap.size w w' := by
 have hE := eqlE x y; have n1 := noIsE; have n2 := noUnwrapE; have n3 := noUnwrapsE; have f1 := noIsF; have f2 := hasUnwrapF; have f3 := methodUnwrap; have f4 := eqlF (.agg #[.string a, er x]) y; have hU := zj (unwrap_any a (er x)); unfold fa; unfold er at *; cases h : (x == y)
 all_goals
  rw [h] at hE; clear h; go_enter Tryz.func168, Tryz.ntmps168; go_wp2_with fail; refine wp_loop_rounds 2 ?_; rw [rounds_succ]; go_wp2_with fail; refine (hU.out _).mono ?_; rintro e w1 ⟨rfl, hb1⟩; go_wp2_with fail; rw [rounds_succ]; go_wp2_with fail; go_ret; exact ⟨rfl, hb1⟩
theorem is_fa2 (a b : ByteArray) (x y : Int) (w : World) : Calls Tryz.prog 168 #[fa a (fa b (er x)), er y, .bool true] w fun r w' => r = .returned (.bool (x == y)) ∧ Below w.heap.size w w' := by
 have hE := eqlE x y; have n1 := noIsE; have n2 := noUnwrapE; have n3 := noUnwrapsE; have f1 := noIsF; have f2 := hasUnwrapF; have f3 := methodUnwrap; have f4 := eqlF (.agg #[.string a, fa b (er x)]) y; have f5 := eqlF (.agg #[.string b, er x]) y; have hU := zj (unwrap_any a (fa b (er x))); have hV := zj (unwrap_any b (er x)); unfold fa at *; unfold er at *; cases h : (x == y)
 all_goals
  rw [h] at hE; clear h; go_enter Tryz.func168, Tryz.ntmps168; go_wp2_with fail; refine wp_loop_rounds 3 ?_; rw [rounds_succ]; go_wp2_with fail; refine (hU.out _).mono ?_; rintro e w1 ⟨rfl, hb1⟩; go_wp2_with fail; rw [rounds_succ]; go_wp2_with fail; refine (hV.out _).mono ?_; rintro e w2 ⟨rfl, hb2⟩; have hb3 := hb1.trans' hb2; go_wp2_with fail; rw [rounds_succ]; go_wp2_with fail; go_ret; exact ⟨rfl, hb3⟩
theorem Is_of {e : Value} {v : Value} {y : Int} {r : Bool} {w : World} (he : e = .iface 274 v)
  (h : Calls Tryz.prog 168 #[e, er y, .bool true] w fun q w' => q = .returned (.bool r) ∧ Below w.heap.size w w') :
  Calls Tryz.prog 108 #[e, er y] w fun q w' => q = .returned (.bool r) ∧ Below w.heap.size w w' := by
 subst he; have h8 := @run_callFunc_extern Tryz.prog 155 _ Extern.ReflectliteType.typeOf Tryz.func155 (by kernel_rfl) (by kernel_rfl) (by kernel_rfl) (by kernel_rfl); have h32 := @run_callFunc_extern Tryz.prog 262 _ cmpOf Tryz.func262 (by kernel_rfl) (by kernel_rfl) (by kernel_rfl) (by kernel_rfl); have tT := isTypeOf; have cT := isComparable; have mR := isMethodComparable; have H := zj h; clear h; unfold er at *; go_enter Tryz.func108, Tryz.ntmps108; go_wp2_with fail; refine H.out.mono ?_; rintro e w1 ⟨rfl, hb1⟩; go_wp2_with fail; go_ret; exact ⟨rfl, hb1⟩
theorem Is_fa1 (a : ByteArray) (x y : Int) (w : World) : Calls Tryz.prog 108 #[fa a (er x), er y] w fun r w' => r = .returned (.bool (x == y)) ∧ Below w.heap.size w w' := Is_of rfl (is_fa1 a x y w)
theorem Is_fa2 (a b : ByteArray) (x y : Int) (w : World) : Calls Tryz.prog 108 #[fa a (fa b (er x)), er y] w fun r w' => r = .returned (.bool (x == y)) ∧ Below w.heap.size w w' := Is_of rfl (is_fa2 a b x y w)
theorem Is_nil (y : Int) (w : World) : Calls Tryz.prog 108 #[.nilIface, er y] w fun r w' => r = .returned (.bool false) ∧ w = w' := by
 have hn := nilL y; unfold er; go_enter Tryz.func108, Tryz.ntmps108; go_wp2_with fail; go_ret; exact ⟨rfl, rfl⟩
end Go.Proofs.YtpeghilfldpgfaaGreatDoor.L7
namespace Go.Proofs.YtpeghilfldpgfaaGreatDoor.L7
open Go.RowKit
def hv (h : HP.H) : Value := .agg #[.int .i64 h.k, .int .i64 h.l, .int .i64 h.c, .int .i64 h.r, .int .i64 h.s]
theorem refRight_any (h : HP.H) (w : World) :
  Calls Tryz.prog 180 #[hv h] w fun e w' => e = .returned (.bool (HP.right h)) ∧ Below w.heap.size w w' := by
 obtain ⟨k, l, c, r, s⟩ := h; unfold hv; by_cases h0 : 1 ≤ k
 ·by_cases h1 : k ≤ 4
  ·by_cases h2 : 0 ≤ l
   ·by_cases h3 : l ≤ 255
    ·by_cases h4 : 0 ≤ c
     ·by_cases h5 : c ≤ 65535
      ·by_cases h6 : 0 ≤ r
       ·by_cases h7 : r ≤ 4095
        ·by_cases h8 : 0 ≤ s
         ·by_cases h9 : s ≤ 4095
          ·have hv : HP.right ⟨k, l, c, r, s⟩ = true := by
            unfold HP.right HP.Ok; exact dT (by simp only; omega)
           rw [hv]; clear hv; go_enter Tryz.func180, Tryz.ntmps180; go_wp2_with fail; go_ret; exact ⟨rfl, (Below.refl _ w).alloc (Nat.le_refl _) _⟩
          ·have hv : HP.right ⟨k, l, c, r, s⟩ = false := by
            unfold HP.right HP.Ok; exact dF (by simp only; omega)
           rw [hv]; clear hv; go_enter Tryz.func180, Tryz.ntmps180; go_wp2_with fail; go_ret; exact ⟨rfl, (Below.refl _ w).alloc (Nat.le_refl _) _⟩
         ·have hv : HP.right ⟨k, l, c, r, s⟩ = false := by
           unfold HP.right HP.Ok; exact dF (by simp only; omega)
          rw [hv]; clear hv; go_enter Tryz.func180, Tryz.ntmps180; go_wp2_with fail; go_ret; exact ⟨rfl, (Below.refl _ w).alloc (Nat.le_refl _) _⟩
        ·have hv : HP.right ⟨k, l, c, r, s⟩ = false := by
          unfold HP.right HP.Ok; exact dF (by simp only; omega)
         rw [hv]; clear hv; go_enter Tryz.func180, Tryz.ntmps180; go_wp2_with fail; go_ret; exact ⟨rfl, (Below.refl _ w).alloc (Nat.le_refl _) _⟩
       ·have hv : HP.right ⟨k, l, c, r, s⟩ = false := by
         unfold HP.right HP.Ok; exact dF (by simp only; omega)
        rw [hv]; clear hv; go_enter Tryz.func180, Tryz.ntmps180; go_wp2_with fail; go_ret; exact ⟨rfl, (Below.refl _ w).alloc (Nat.le_refl _) _⟩
      ·have hv : HP.right ⟨k, l, c, r, s⟩ = false := by
        unfold HP.right HP.Ok; exact dF (by simp only; omega)
       rw [hv]; clear hv; go_enter Tryz.func180, Tryz.ntmps180; go_wp2_with fail; go_ret; exact ⟨rfl, (Below.refl _ w).alloc (Nat.le_refl _) _⟩
     ·have hv : HP.right ⟨k, l, c, r, s⟩ = false := by
       unfold HP.right HP.Ok; exact dF (by simp only; omega)
      rw [hv]; clear hv; go_enter Tryz.func180, Tryz.ntmps180; go_wp2_with fail; go_ret; exact ⟨rfl, (Below.refl _ w).alloc (Nat.le_refl _) _⟩
    ·have hv : HP.right ⟨k, l, c, r, s⟩ = false := by
      unfold HP.right HP.Ok; exact dF (by simp only; omega)
     rw [hv]; clear hv; go_enter Tryz.func180, Tryz.ntmps180; go_wp2_with fail; go_ret; exact ⟨rfl, (Below.refl _ w).alloc (Nat.le_refl _) _⟩
   ·have hv : HP.right ⟨k, l, c, r, s⟩ = false := by
     unfold HP.right HP.Ok; exact dF (by simp only; omega)
    rw [hv]; clear hv; go_enter Tryz.func180, Tryz.ntmps180; go_wp2_with fail; go_ret; exact ⟨rfl, (Below.refl _ w).alloc (Nat.le_refl _) _⟩
  ·have hv : HP.right ⟨k, l, c, r, s⟩ = false := by
    unfold HP.right HP.Ok; exact dF (by simp only; omega)
   rw [hv]; clear hv; go_enter Tryz.func180, Tryz.ntmps180; go_wp2_with fail; go_ret; exact ⟨rfl, (Below.refl _ w).alloc (Nat.le_refl _) _⟩
 ·have hv : HP.right ⟨k, l, c, r, s⟩ = false := by
   unfold HP.right HP.Ok; exact dF (by simp only; omega)
  rw [hv]; clear hv; go_enter Tryz.func180, Tryz.ntmps180; go_wp2_with fail; go_ret; exact ⟨rfl, (Below.refl _ w).alloc (Nat.le_refl _) _⟩
structure Fd where
 nm : ByteArray
 n : Int
 lo : Int
 hi : Int
 sz : Nat
def fd (h : HP.H) : Nat → Fd
 | 0 => ⟨⟨#[75, 105, 110, 100]⟩, h.k, 1, 4, 1⟩
 | 1 => ⟨⟨#[76, 101, 118, 101, 108]⟩, h.l, 0, 255, 1⟩
 | 2 => ⟨⟨#[67, 111, 117, 110, 116]⟩, h.c, 0, 65535, 2⟩
 | 3 => ⟨⟨#[82, 105, 103, 104, 116]⟩, h.r, 0, 4095, 4⟩
 | _ => ⟨⟨#[83, 101, 108, 102]⟩, h.s, 0, 4095, 4⟩
theorem right_fd (h : HP.H) : HP.right h = true ↔ ∀ k, k < 5 → (fd h k).lo ≤ (fd h k).n ∧ (fd h k).n ≤ (fd h k).hi := by
 rw [HP.right_iff]; unfold HP.Ok; constructor
 ·rintro ⟨h1, h2, h3, h4, h5, h6, h7, h8, h9, h10⟩ k hk
  rcases (show k = 0 ∨ k = 1 ∨ k = 2 ∨ k = 3 ∨ k = 4 by omega) with rfl | rfl | rfl | rfl | rfl <;> simp only [fd] <;> omega
 ·intro H
  have a0 := H 0 (by omega); have a1 := H 1 (by omega); have a2 := H 2 (by omega); have a3 := H 3 (by omega); have a4 := H 4 (by omega); simp only [fd] at a0 a1 a2 a3 a4; omega
def At5 (w : World) (a : Addr) (f : Fd) : Prop :=
 w.cell? a = some (.string f.nm) ∧ w.cell? ⟨a.block, a.off + 1, none⟩ = some (.int .i64 f.n) ∧ w.cell? ⟨a.block, a.off + 2, none⟩ = some (.int .i64 f.lo) ∧ w.cell? ⟨a.block, a.off + 3, none⟩ = some (.int .i64 f.hi) ∧ w.cell? ⟨a.block, a.off + 4, none⟩ = some (.int .i64 f.sz)
def FL (w : World) (a : Addr) (h : HP.H) : Prop := a.block < w.heap.size ∧ ∀ k, k < 5 → (a.add (k * 5)).block = a.block ∧ At5 w (a.add (k * 5)) (fd h k)
theorem FL.below {w w' : World} {a : Addr} {h : HP.H} (H : FL w a h) (b : Below w.heap.size w w') : FL w' a h := by
 refine ⟨Nat.lt_of_lt_of_le H.1 b.size, fun k hk => ?_⟩; obtain ⟨e, x0, x1, x2, x3, x4⟩ := H.2 k hk
 have c : ∀ p : Addr, p.block = a.block → w'.cell? p = w.cell? p := fun p hp => by
  unfold World.cell?; rw [hp, b.block _ H.1]
 exact ⟨e, (c _ e).trans x0, (c ⟨_, _, none⟩ e).trans x1, (c ⟨_, _, none⟩ e).trans x2, (c ⟨_, _, none⟩ e).trans x3, (c ⟨_, _, none⟩ e).trans x4⟩
def fcells (h : HP.H) : Array Value := #[.string ⟨#[75, 105, 110, 100]⟩, .int .i64 h.k, .int .i64 1, .int .i64 4, .int .i64 1, .string ⟨#[76, 101, 118, 101, 108]⟩, .int .i64 h.l, .int .i64 0, .int .i64 255, .int .i64 1, .string ⟨#[67, 111, 117, 110, 116]⟩, .int .i64 h.c, .int .i64 0, .int .i64 65535, .int .i64 2, .string ⟨#[82, 105, 103, 104, 116]⟩, .int .i64 h.r, .int .i64 0, .int .i64 4095, .int .i64 4, .string ⟨#[83, 101, 108, 102]⟩, .int .i64 h.s, .int .i64 0, .int .i64 4095, .int .i64 4]
theorem fl_of {w : World} {g : Nat} {h : HP.H} {t : TypeId} (H : w.heap[g]? = some (.cells (fcells h) t (0, 0))) : FL w ⟨g, 0, none⟩ h := by
 refine ⟨(Array.getElem?_eq_some_iff.1 H).1, fun k hk => ?_⟩
 have e : (⟨g, 0, none⟩ : Addr).add (k * 5) = ⟨g, k * 5, none⟩ := by
  unfold Addr.add
  split <;> simp_all
 rw [e]; refine ⟨rfl, ?_⟩; unfold At5; simp only [World.cell?, H]
 rcases (show k = 0 ∨ k = 1 ∨ k = 2 ∨ k = 3 ∨ k = 4 by omega) with rfl | rfl | rfl | rfl | rfl <;> simp [fcells, fd]
theorem heap_alloc_new2 (w : World) (o p : Obj) : ((w.alloc o).alloc p).heap[w.heap.size + 1]? = some p := by
 have h := heap_alloc_new (w.alloc o) p
 simpa using h
theorem fields_any (h : HP.H) (w : World) :
  Calls Tryz.prog 167 #[hv h] w fun e w' => ∃ a : Addr, e = .returned (.slice (some a) 5 5) ∧ FL w' a h ∧ Below w.heap.size w w' := by
 obtain ⟨k, l, c, r, s⟩ := h; unfold hv; go_enter Tryz.func167, Tryz.ntmps167; go_wp2_with fail; go_ret; exact ⟨_, rfl, fl_of (h := ⟨k, l, c, r, s⟩) (heap_alloc_new2 w _ _), (below_alloc _ _).trans' (below_alloc _ _)⟩
theorem within_any (h : HP.H) (a : Addr) (w : World) (ha : FL w a h) :
  Calls Tryz.prog 166 #[.slice (some a) 5 5] w fun e w' => ∃ v, e = .returned v ∧ Below w.heap.size w w' ∧ ((HP.right h = true ∧ v = .nilIface) ∨ (HP.right h = false ∧ ∃ nm, v = fa nm (er 3))) := by
 have HA := zj ha; clear ha; go_enter Tryz.func166, Tryz.ntmps166; go_wp2_with fail
 go_loopw [7] (fun iv wr => ∃ k : Nat, k ≤ 5 ∧ iv = .int .i64 k ∧ Hid (∀ j, j < k → (fd h j).lo ≤ (fd h j).n ∧ (fd h j).n ≤ (fd h j).hi) ∧ Below w.heap.size w wr) (fun iv _ => 5 - (intOf iv).toNat)
 case atStart => exact ⟨0, by omega, rfl, zj (fun j hj => absurd hj (by omega)), Below.refl _ _⟩
 case round =>
  obtain ⟨k, hk, rfl, HK, hbw⟩ := hrel; by_cases hlt : k < 5
  ·have hF := (HA.out.below hbw).2 k hlt
   obtain ⟨f, hf⟩ : ∃ f, f = fd h k := ⟨_, rfl⟩; rw [← hf] at hF; have HFD := zj hf; clear hf; obtain ⟨nm, n, lo, hi, sz⟩ := f; obtain ⟨hab, x0, x1, x2, x3, x4⟩ := hF; simp only at x0 x1 x2 x3 x4
   have HNO : Hid (n < lo ∨ hi < n → HP.right h = false) := zj (fun hn => by
    cases hr : HP.right h with
    | false => rfl
    | true =>
     have := (right_fd h).1 hr k hlt; rw [← HFD.out] at this; simp only at this
     omega)
   clear hab; by_cases h1 : n < lo
   ·go_wp2_with fail
    go_ret; exact ⟨_, rfl, hbw.trans' (below_alloc _ _), .inr ⟨HNO.out (.inl h1), nm, rfl⟩⟩
   ·by_cases h2 : hi < n
    ·go_wp2_with fail
     go_ret; exact ⟨_, rfl, hbw.trans' (below_alloc _ _), .inr ⟨HNO.out (.inr h2), nm, rfl⟩⟩
    ·go_wp2_with fail
     go_roundw
     case rel =>
      refine ⟨k + 1, by omega, by go_num, zj (fun j hj => ?_), hbw.trans' (below_alloc _ _)⟩; rcases (show j < k ∨ j = k by omega) with hj | rfl
      ·exact HK.out j hj
      ·rw [← HFD.out]
       simp only; omega
     case measure => simp [intOf]; omega
  ·obtain rfl : k = 5 := by omega
   go_wp2_with fail; go_ret; exact ⟨_, rfl, hbw, .inl ⟨(right_fd h).2 HK.out, rfl⟩⟩
def piece (h : HP.H) (k : Nat) : List UInt8 := (Lib.leBytes 4 (fd h k).n.toNat).take (fd h k).sz
def outAt (h : HP.H) (k : Nat) : List UInt8 := (List.range k).flatMap (piece h)
theorem outAt_succ (h : HP.H) (k : Nat) : outAt h (k + 1) = outAt h k ++ piece h k := by simp [outAt, List.range_succ]
theorem piece_length (h : HP.H) (k : Nat) : (piece h k).length ≤ 4 := by simp [piece, Lib.leBytes_length]; omega
theorem outAt_length (h : HP.H) : ∀ k, (outAt h k).length ≤ 4 * k
 | 0 => by simp [outAt]
 | k + 1 => by
  rw [outAt_succ, List.length_append]; have := outAt_length h k; have := piece_length h k; omega
theorem outAt_all (h : HP.H) (hh : HP.Ok h) : outAt h 5 = HP.front h := by
 obtain ⟨k, l, c, r, s⟩ := h; obtain ⟨h1, h2, h3, h4, h5, h6, h7, h8, h9, h10⟩ := hh; simp only at h1 h2 h3 h4 h5 h6 h7 h8 h9 h10; obtain ⟨k, rfl⟩ := Int.eq_ofNat_of_zero_le (show 0 ≤ k by omega); obtain ⟨l, rfl⟩ := Int.eq_ofNat_of_zero_le h3; obtain ⟨c, rfl⟩ := Int.eq_ofNat_of_zero_le h5; obtain ⟨r, rfl⟩ := Int.eq_ofNat_of_zero_le h7; obtain ⟨s, rfl⟩ := Int.eq_ofNat_of_zero_le h9; have e : ∀ v : Nat, (Lib.leBytes 4 v).take 4 = Lib.leBytes 4 v := fun v => List.take_of_length_le (by rw [Lib.leBytes_length]; exact Nat.le_refl _)
 have e1 : ∀ v : Nat, v < 256 → (Lib.leBytes 4 v).take 1 = [HP.u8 v] := fun v hv => by
  simp only [Lib.leBytes, List.take_succ_cons, List.take_zero, HP.u8]; rw [u8n v v rfl]
  congr 1
  apply UInt8.toNat_inj.1; simp [Nat.toUInt8]
 have e2 : ∀ v : Nat, v < 65536 → (Lib.leBytes 4 v).take 2 = [HP.u8 (v % 256), HP.u8 (v / 256)] := fun v hv => by
  simp only [Lib.leBytes, List.take_succ_cons, List.take_zero, HP.u8]; rw [show (v % 256).toUInt8 = UInt8.ofNat (v % 256) from rfl, show (v / 256 % 256).toUInt8 = UInt8.ofNat (v / 256 % 256) from rfl, Nat.mod_eq_of_lt (show v / 256 < 256 by omega)]
 simp only [outAt, List.range, List.range.loop, List.flatMap_cons, List.flatMap_nil, piece, fd, Int.toNat_natCast, e, HP.front]; rw [e1 k (by omega), e1 l (by omega), e2 c (by omega)]; simp
def outS (h : HP.H) (k : Nat) : ByteArray := ⟨(outAt h k).toArray⟩
theorem outS_succ (h : HP.H) (k : Nat) : outS h k ++ (⟨(Lib.leBytes 4 (fd h k).n.toNat).toArray⟩ : ByteArray).extract 0 (fd h k).sz = outS h (k + 1) := by
 unfold outS; rw [outAt_succ]; apply ByteArray.ext; simp [piece]
theorem outS_size (h : HP.H) (k : Nat) : (outS h k).size ≤ 4 * k := by
 have := outAt_length h k
 simpa [outS, ByteArray.size] using this
theorem fd_sz (h : HP.H) (k : Nat) (hk : k < 5) : (fd h k).sz ≤ 4 := by
 rcases (show k = 0 ∨ k = 1 ∨ k = 2 ∨ k = 3 ∨ k = 4 by omega) with rfl | rfl | rfl | rfl | rfl <;> simp [fd]
theorem fd_n (h : HP.H) (hh : HP.Ok h) (k : Nat) (hk : k < 5) : 0 ≤ (fd h k).n ∧ (fd h k).n ≤ 65535 := by
 obtain ⟨h1, h2, h3, h4, h5, h6, h7, h8, h9, h10⟩ := hh
 rcases (show k = 0 ∨ k = 1 ∨ k = 2 ∨ k = 3 ∨ k = 4 by omega) with rfl | rfl | rfl | rfl | rfl <;> simp only [fd] <;> omega
def Fx (g : Nat) (f : Fd) (w : World) : Prop := w.heap[g]? = some (.cells #[.string f.nm, .int .i64 f.n, .int .i64 f.lo, .int .i64 f.hi, .int .i64 f.sz] 299 (0, 0))
theorem Fx.cells {g : Nat} {f : Fd} {w : World} (k : Fx g f w) : w.cell? ⟨g, 1, none⟩ = some (.int .i64 f.n) ∧ w.cell? ⟨g, 4, none⟩ = some (.int .i64 f.sz) := by
 unfold Fx at k
 refine ⟨?_, ?_⟩ <;> simp [World.cell?, k]
theorem Fx.lt {g : Nat} {f : Fd} {w : World} (k : Fx g f w) : g < w.heap.size := (Array.getElem?_eq_some_iff.1 k).1
theorem Fx.below {g : Nat} {f : Fd} {w w' : World} (k : Fx g f w) (b : Below w.heap.size w w') : Fx g f w' := (b.block g k.lt).trans k
theorem hasFx {g : Nat} {f : Fd} {w : World} (k : Fx g f w) : Hid (Fx g f w) ∧ w.cell? ⟨g, 1, none⟩ = some (.int .i64 f.n) ∧ w.cell? ⟨g, 4, none⟩ = some (.int .i64 f.sz) := ⟨zj k, k.cells⟩
theorem laid_any (h : HP.H) (hh : HP.Ok h) (a : Addr) (w : World) (ha : FL w a h) :
  Calls Tryz.prog 169 #[.slice (some a) 5 5] w fun e w' => e = .returned (.string ⟨(HP.front h).toArray⟩) ∧ Below w.heap.size w w' := by
 have HA := zj ha; clear ha; have HE : Hid (outS h 5 = ⟨(HP.front h).toArray⟩) := zj (by unfold outS; rw [outAt_all h hh]); rw [← HE.out]; clear HE; have hz0 : outS h 0 = ⟨#[]⟩ := rfl; go_enter Tryz.func169, Tryz.ntmps169; go_wp2_with fail
 go_loopw [3, 8] (fun ov iv wr => ∃ k : Nat, k ≤ 5 ∧ iv = .int .i64 k ∧ ov = .string (outS h k) ∧ Below w.heap.size w wr) (fun _ iv _ => 5 - (intOf iv).toNat)
 case atStart => exact ⟨0, by omega, rfl, rfl, Below.refl _ _⟩
 case round =>
  obtain ⟨k, hk, rfl, rfl, hbw⟩ := hrel; by_cases hlt : k < 5
  ·have hF := (HA.out.below hbw).2 k hlt
   have hsz := fd_sz h k hlt; have hn := fd_n h hh k hlt; have hos := outS_size h k; have HS := zj (outS_succ h k); obtain ⟨f, hf⟩ : ∃ f, fd h k = f := ⟨_, rfl⟩; rw [hf] at hF hsz hn HS; clear hf; obtain ⟨nm, n, lo, hi, sz⟩ := f; obtain ⟨hab, x0, x1, x2, x3, x4⟩ := hF; simp only at x0 x1 x2 x3 x4 hsz hn HS; clear hab; obtain ⟨n, rfl⟩ := Int.eq_ofNat_of_zero_le hn.1; obtain ⟨T, hT⟩ : ∃ T : ByteArray, ⟨(Lib.leBytes 4 n).toArray⟩ = T := ⟨_, rfl⟩
   have sT : T.size = 4 := by rw [← hT]; simp [ByteArray.size, Lib.leBytes_length]
   have HF : Hid (∀ W, Calls Tryz.prog 61 #[.int .u32 (n : Int)] W fun e w' => e = .returned (.string T) ∧ Below W.heap.size W w') := zj (fun W => by
    have h := four_any (n : Int) W (by omega) (by omega); rw [Int.toNat_natCast, hT] at h
    exact h)
   rw [Int.toNat_natCast, hT] at HS; clear hT; obtain ⟨O, hO⟩ : ∃ O, outS h k = O := ⟨_, rfl⟩; rw [hO] at HS hos ⊢; clear hO; have q1 : IntKind.u32.wrap (n : Int) = n := IntWalk.u32_in _ (by omega); obtain ⟨U, hU⟩ : ∃ U, T.extract 0 sz = U := ⟨_, rfl⟩
   have sU : U.size = sz := by rw [← hU]; simp; omega
   have HS2 : Hid (O ++ U = outS h (k + 1)) := zj (by rw [← hU]; exact HS.out)
   have b1 : (0 : Int) ≤ (sz : Int) := by omega
   have b2 : (sz : Int) ≤ (T.size : Int) := by omega
   have b3 : sz ≤ T.size := by omega
   have b5 : ¬ 9223372036854775807 < O.size + U.size := by omega
   have b6 : ¬ (9223372036854775807 : Int) < (O.size : Int) + (U.size : Int) := by omega
   clear sT sU hos HS hsz; have hfx : Fx wr.heap.size ⟨nm, n, lo, hi, sz⟩ (wr.alloc (.cells #[.string nm, .int .i64 n, .int .i64 lo, .int .i64 hi, .int .i64 sz] 299)) := heap_alloc_new wr _; have hb0 := hbw.trans' (below_alloc wr (.cells #[.string nm, .int .i64 n, .int .i64 lo, .int .i64 hi, .int .i64 sz] 299)); have HSB : Hid (∀ V V' : World, Below V.heap.size V V' → (Hid (Fx wr.heap.size ⟨nm, n, lo, hi, sz⟩ V) ∧ V.cell? ⟨wr.heap.size, 1, none⟩ = some (.int .i64 n) ∧ V.cell? ⟨wr.heap.size, 4, none⟩ = some (.int .i64 sz)) → (Hid (Fx wr.heap.size ⟨nm, n, lo, hi, sz⟩ V') ∧ V'.cell? ⟨wr.heap.size, 1, none⟩ = some (.int .i64 n) ∧ V'.cell? ⟨wr.heap.size, 4, none⟩ = some (.int .i64 sz))) := zj (fun V V' hb hh => hasFx (hh.1.out.below hb)); have hSV := hasFx hfx; have hSd := HSB.out _ _ (below_drewN (Below.refl _ (wr.alloc (.cells #[.string nm, .int .i64 n, .int .i64 lo, .int .i64 hi, .int .i64 sz] 299))) 1) hSV; have HB0 := zj hb0; clear hfx hb0; go_wp2_with fail
   go_region_held3 (fun V => Hid (Fx wr.heap.size ⟨nm, n, lo, hi, sz⟩ V) ∧ V.cell? ⟨wr.heap.size, 1, none⟩ = some (.int .i64 n) ∧ V.cell? ⟨wr.heap.size, 4, none⟩ = some (.int .i64 sz))
    (first | assumption | exact hSd)
    (first
     | (go_at_call 61; refine (HF.out _).mono ?_; rintro e V2 ⟨rfl, hb2⟩; have HB2 := zj (below_of_drew hb2); have hSV2 := HSB.out _ _ (below_of_drew hb2) (by assumption))
     | fail "no arm")
   rw [HS2.out]; go_wp2_with fail
   go_roundw
   case rel => exact ⟨k + 1, by omega, by go_num, rfl, HB0.out.trans' HB2.out⟩
   case measure => simp [intOf]; omega
  ·obtain rfl : k = 5 := by omega
   go_wp2_with fail; go_ret; exact ⟨rfl, hbw⟩
end Go.Proofs.YtpeghilfldpgfaaGreatDoor.L7
namespace Go.Proofs.YtpeghilfldpgfaaGreatDoor.L7
open Go.RowKit
open Go.ChangeShapes
def Sizes (w : World) : Prop := w.cell? ⟨1, 0, none⟩ = some (.int .i64 128) ∧ w.cell? ⟨1, 1, none⟩ = some (.int .i64 256) ∧ w.cell? ⟨1, 2, none⟩ = some (.int .i64 512) ∧ w.cell? ⟨1, 3, none⟩ = some (.int .i64 1024)
theorem Sizes.lt {w : World} (h : Sizes w) : 1 < w.heap.size := by
 refine Nat.lt_of_not_le fun hn => ?_; have := h.1; simp [World.cell?, Array.getElem?_eq_none hn] at this
theorem Sizes.below {w w' : World} {c : Nat} (h : Sizes w) (hc : 1 < c) (k : Below c w w') : Sizes w' :=
 ⟨(k.cell hc).trans h.1, (k.cell hc).trans h.2.1, (k.cell hc).trans h.2.2.1, (k.cell hc).trans h.2.2.2⟩
theorem sizes_of {W : World} (h : laidMet Tryz.prog [("withy/disk.sizes", Rows.laid_withy_disk_sizes)] W) : Sizes W := by
 have t : Lib.TabIs Tryz.prog W "withy/disk.sizes" .i64 [128, 256, 512, 1024] :=
  Lib.tabIs_of_head (g := 1) (t := 209) (e := 3) (n := 4) (rest := []) (by kernel_rfl) (by kernel_rfl) Tryz.underlying209 Tryz.underlying3 (by kernel_rfl) (by kernel_rfl) h
 have hg : Tryz.prog.globalNamed "withy/disk.sizes" = some 1 := by kernel_rfl
 exact ⟨t.cell hg 0 (by decide), t.cell hg 1 (by decide), t.cell hg 2 (by decide), t.cell hg 3 (by decide)⟩
theorem ix0 : ∀ W : World, (Instr.index 209 (.agg #[.int .i64 128, .int .i64 256, .int .i64 512, .int .i64 1024]) (.int .i64 0)).run Tryz.prog W = .ok (.int .i64 128) W := fun W => by kernel_rfl
theorem ix1 : ∀ W : World, (Instr.index 209 (.agg #[.int .i64 128, .int .i64 256, .int .i64 512, .int .i64 1024]) (.int .i64 1)).run Tryz.prog W = .ok (.int .i64 256) W := fun W => by kernel_rfl
theorem ix2 : ∀ W : World, (Instr.index 209 (.agg #[.int .i64 128, .int .i64 256, .int .i64 512, .int .i64 1024]) (.int .i64 2)).run Tryz.prog W = .ok (.int .i64 512) W := fun W => by kernel_rfl
theorem ix3 : ∀ W : World, (Instr.index 209 (.agg #[.int .i64 128, .int .i64 256, .int .i64 512, .int .i64 1024]) (.int .i64 3)).run Tryz.prog W = .ok (.int .i64 1024) W := fun W => by kernel_rfl
theorem size_any (p : Int) (w : World) (h : Sizes w) : Calls Tryz.prog 64 #[.int .i64 p] w fun e w' => e = .returned (.bool (mayBe p)) ∧ w = w' := by
 obtain ⟨s0, s1, s2, s3⟩ := h; have ix0 := ix0; have ix1 := ix1; have ix2 := ix2; have ix3 := ix3; obtain ⟨r, hr⟩ : ∃ r, r = mayBe p := ⟨_, rfl⟩; have HR := zj hr; rw [← hr]; clear hr; go_enter Tryz.func64, Tryz.ntmps64; go_wp2_with fail
 go_loopw [6] (fun iv wr => ∃ k : Nat, k ≤ 4 ∧ iv = .int .i64 k ∧ Hid (wr = w) ∧ Hid ((0 < k → p ≠ 128) ∧ (1 < k → p ≠ 256) ∧ (2 < k → p ≠ 512) ∧ (3 < k → p ≠ 1024))) (fun iv _ => 4 - (intOf iv).toNat)
 case atStart => exact ⟨0, by omega, rfl, zj rfl, zj ⟨by omega, by omega, by omega, by omega⟩⟩
 case round =>
  obtain ⟨k, hk, rfl, HW, HP⟩ := hrel; obtain rfl := HW.out; by_cases h4 : k = 4
  ·subst h4
   have HF : Hid (r = false) := zj (by
    rw [HR.out]; obtain ⟨a, b, c, d⟩ := HP.out; have := a (by omega); have := b (by omega); have := c (by omega); have := d (by omega); unfold mayBe
    simp [*])
   go_wp2_with fail; go_ret; exact ⟨by rw [HF.out]; try rfl, rfl⟩
  ·have hcase : k = 0 ∨ k = 1 ∨ k = 2 ∨ k = 3 := by omega
   clear hk h4; rcases hcase with rfl | rfl | rfl | rfl
   ·by_cases hp : p = 128
    ·subst hp
     have HT : Hid (r = true) := zj (by rw [HR.out]; rfl); go_wp2_with fail; go_ret; exact ⟨by rw [HT.out]; try rfl, rfl⟩
    ·have q1 : (p == 128) = false := beq_eq_false_iff_ne.2 hp
     go_wp2_with fail
     go_roundw
     case rel => exact ⟨1, by omega, rfl, (by first | exact zj rfl | exact zj trivial), zj ⟨fun _ => hp, by omega, by omega, by omega⟩⟩
     case measure => simp [intOf]
   ·by_cases hp : p = 256
    ·subst hp
     have HT : Hid (r = true) := zj (by rw [HR.out]; rfl); go_wp2_with fail; go_ret; exact ⟨by rw [HT.out]; try rfl, rfl⟩
    ·have q1 : (p == 256) = false := beq_eq_false_iff_ne.2 hp
     go_wp2_with fail
     go_roundw
     case rel => exact ⟨2, by omega, rfl, (by first | exact zj rfl | exact zj trivial), zj ⟨fun _ => HP.out.1 (by omega), fun _ => hp, by omega, by omega⟩⟩
     case measure => simp [intOf]
   ·by_cases hp : p = 512
    ·subst hp
     have HT : Hid (r = true) := zj (by rw [HR.out]; rfl); go_wp2_with fail; go_ret; exact ⟨by rw [HT.out]; try rfl, rfl⟩
    ·have q1 : (p == 512) = false := beq_eq_false_iff_ne.2 hp
     go_wp2_with fail
     go_roundw
     case rel => exact ⟨3, by omega, rfl, (by first | exact zj rfl | exact zj trivial), zj ⟨fun _ => HP.out.1 (by omega), fun _ => HP.out.2.1 (by omega), fun _ => hp, by omega⟩⟩
     case measure => simp [intOf]
   ·by_cases hp : p = 1024
    ·subst hp
     have HT : Hid (r = true) := zj (by rw [HR.out]; rfl); go_wp2_with fail; go_ret; exact ⟨by rw [HT.out]; try rfl, rfl⟩
    ·have q1 : (p == 1024) = false := beq_eq_false_iff_ne.2 hp
     go_wp2_with fail
     go_roundw
     case rel => exact ⟨4, by omega, rfl, (by first | exact zj rfl | exact zj trivial), zj ⟨fun _ => HP.out.1 (by omega), fun _ => HP.out.2.1 (by omega), fun _ => HP.out.2.2.1 (by omega), fun _ => hp⟩⟩
     case measure => simp [intOf]
theorem le4_size (v : Nat) : (⟨(Lib.leBytes 4 v).toArray⟩ : ByteArray).size = 4 := by simp [ByteArray.size, Lib.leBytes_length]
def Bx (t : TypeId) (g : Nat) (h : HP.H) (w : World) : Prop := w.heap[g]? = some (.cells #[.int .i64 h.k, .int .i64 h.l, .int .i64 h.c, .int .i64 h.r, .int .i64 h.s] t (0, 0))
theorem Bx.cells {t : TypeId} {g : Nat} {h : HP.H} {w : World} (k : Bx t g h w) : w.cell? ⟨g, 0, none⟩ = some (.int .i64 h.k) ∧ w.cell? ⟨g, 1, none⟩ = some (.int .i64 h.l) ∧ w.cell? ⟨g, 2, none⟩ = some (.int .i64 h.c) ∧ w.cell? ⟨g, 3, none⟩ = some (.int .i64 h.r) ∧ w.cell? ⟨g, 4, none⟩ = some (.int .i64 h.s) := by
 unfold Bx at k
 refine ⟨?_, ?_, ?_, ?_, ?_⟩ <;> simp [World.cell?, k]
theorem Bx.lt {t : TypeId} {g : Nat} {h : HP.H} {w : World} (k : Bx t g h w) : g < w.heap.size := (Array.getElem?_eq_some_iff.1 k).1
theorem Bx.below {t : TypeId} {g : Nat} {h : HP.H} {w w' : World} (k : Bx t g h w) (b : Below w.heap.size w w') : Bx t g h w' := (b.block g k.lt).trans k
def HasBx (t : TypeId) (g : Nat) (h : HP.H) (w : World) : Prop := Hid (Bx t g h w) ∧ w.cell? ⟨g, 0, none⟩ = some (.int .i64 h.k) ∧ w.cell? ⟨g, 1, none⟩ = some (.int .i64 h.l) ∧ w.cell? ⟨g, 2, none⟩ = some (.int .i64 h.c) ∧ w.cell? ⟨g, 3, none⟩ = some (.int .i64 h.r) ∧ w.cell? ⟨g, 4, none⟩ = some (.int .i64 h.s)
theorem hasBx {t : TypeId} {g : Nat} {h : HP.H} {w : World} (k : Bx t g h w) : HasBx t g h w := ⟨zj k, k.cells⟩
def set5 (w : World) (g : Nat) (h : HP.H) : World := ((((w.setCell ⟨g, 0, none⟩ (.int .i64 h.k)).setCell ⟨g, 1, none⟩ (.int .i64 h.l)).setCell ⟨g, 2, none⟩ (.int .i64 h.c)).setCell ⟨g, 3, none⟩ (.int .i64 h.r)).setCell ⟨g, 4, none⟩ (.int .i64 h.s)
theorem set5_box {t : TypeId} {w : World} {g : Nat} {h : HP.H} (k : Bx t g h w) (h' : HP.H) : Bx t g h' (set5 w g h') := by
 unfold Bx at *; unfold set5; have h0 := heap_setCell_same w g 0 _ _ (.int .i64 h'.k) k; have h1 := heap_setCell_same _ g 1 _ _ (.int .i64 h'.l) h0; have h2 := heap_setCell_same _ g 2 _ _ (.int .i64 h'.c) h1; have h3 := heap_setCell_same _ g 3 _ _ (.int .i64 h'.r) h2; have h4 := heap_setCell_same _ g 4 _ _ (.int .i64 h'.s) h3; exact h4
theorem set5_below {w W : World} {g : Nat} (h : Below w.heap.size w W) (hg : w.heap.size ≤ g) (h' : HP.H) : Below w.heap.size w (set5 W g h') :=
 ((((h.setCell hg _).setCell hg _).setCell hg _).setCell hg _).setCell hg _
theorem Bx.frozen {t : TypeId} {g : Nat} {h : HP.H} {w : World} (k : Bx t g h w) : w.frozen? ⟨g, 0, none⟩ = false ∧ w.frozen? ⟨g, 1, none⟩ = false ∧ w.frozen? ⟨g, 2, none⟩ = false ∧ w.frozen? ⟨g, 3, none⟩ = false ∧ w.frozen? ⟨g, 4, none⟩ = false := by
 unfold Bx at k
 refine ⟨?_, ?_, ?_, ?_, ?_⟩ <;> simp [World.frozen?, k]
end Go.Proofs.YtpeghilfldpgfaaGreatDoor.L7
