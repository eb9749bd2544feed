import Derived.Test.YtpeghilfldpgfaaGreatDoorQ01
import Derived.LaidEql
import Derived.Stop.Asserts
import Derived.RowKitTokens
namespace Go.Proofs.YtpeghilfldpgfaaGreatDoor.L7
open Go.RowKit
set_option linter.unusedVariables false
namespace WP
end WP
theorem below_alloc (w : World) (o : Obj) : Below w.heap.size w (w.alloc o) := (Below.refl _ w).alloc (Nat.le_refl _) o
theorem below_drewN {c : Nat} {w v : World} (h : Below c w v) (n : Nat) : Below c w (v.drewN n) := ⟨h.os, h.tape, h.output, h.size, h.block⟩
theorem below_of_drew {w v : World} (h : Below w.drew.heap.size w.drew v) : Below w.heap.size w v := ⟨h.os, h.tape, h.output, h.size, h.block⟩
theorem u8n (a b : Nat) (h : a % 256 = b % 256) : UInt8.ofNat a = b.toUInt8 := by
  apply UInt8.toNat_inj.1
  simp [Nat.toUInt8, h]
def byteCells (l : List UInt8) : List Value := l.map fun b => .int .u8 b.toNat
theorem own_none {w : World} {base : Nat} {t : TypeId} (h : base ≤ w.heap.size) : (w.alloc (.cells #[] t)).ownsRow base t 1 (.slice (some ⟨w.heap.size, 0, none⟩) 0 0) 0 [] :=
  ⟨rfl, .inr ⟨w.heap.size, 0, #[], rfl, h, heap_alloc_new _ _, Nat.le_refl _, by unfold maxLen; omega, rfl, rfl⟩⟩
theorem conv_own {P : Program} {w : World} {base : Nat} {t e s : TypeId} {g n cap : Nat} {l : List UInt8} (ht : P.underlying t = some (.slice e)) (he : P.underlying e = some (.int .u8)) (hs : P.underlying s = some .string)
    (h : w.ownsRow base e 1 (.slice (some ⟨g, 0, none⟩) n cap) n (byteCells l)) (hl : l.length = n) : (convert t s (.slice (some ⟨g, 0, none⟩) n cap)).run P w = .ok (.string ⟨l.toArray⟩) w := by
  subst hl
  refine run_convert_bytes_back w t s e _ cap l ht he hs (fun j hj => ?_)
  rw [addr_at, h.cellAt j (by omega)]
  simp [byteCells, hj]
theorem Tryz.infoByte : (Tryz.prog.info? 5).map (fun i => (i.zero, i.size, i.bytes)) = some (some (.int .u8 0), 1, 1) := by kernel_rfl
theorem byteCells_snoc (l : List UInt8) (b : UInt8) : byteCells (l ++ [b]) = byteCells l ++ [.int .u8 b.toNat] := by simp [byteCells]
set_option maxHeartbeats 400000 in
theorem refRepeat_any (c : UInt8) (n : Nat) (w : World) (hn : n ≤ 100000) :
    Calls Tryz.prog 38 #[.int .u8 c.toNat, .int .i64 n] w fun e w' => e = .returned (.string ⟨(List.replicate n c).toArray⟩) ∧ Below w.heap.size w w' := by
  obtain ⟨i0, hi, hz0, hz1, hz2⟩ := info_parts Tryz.infoByte
  go_enter Tryz.func38, Tryz.ntmps38
  go_wp2_with fail
  go_loopw [5, 6] (fun v i wr => ∃ (k g cap : Nat), k ≤ n ∧ i = .int .i64 k ∧ v = .slice (some ⟨g, 0, none⟩) k cap ∧ w.heap.size ≤ g ∧ wr.ownsRow w.heap.size 5 1 (.slice (some ⟨g, 0, none⟩) k cap) k (byteCells (List.replicate k c)) ∧ Below w.heap.size w wr) (fun _ i _ => n - (intOf i).toNat)
  case atStart => exact ⟨0, w.heap.size, 0, by omega, rfl, rfl, Nat.le_refl _, own_none (Nat.le_refl _), (Below.refl _ w).alloc (Nat.le_refl _) _⟩
  case round =>
    obtain ⟨k, g, cap, hk, rfl, rfl, hg, hown, hb⟩ := hrel
    have hbs := hb.size
    by_cases hlt : k < n
    · go_wp2_with (at_builtin; refine wpList_append_lies _ rfl _ _ 86 rfl w.heap.size 5 i0 (.int .u8 0) 1 1 Tryz.underlying86 hi hz0 hz1 hz2 rfl (by decide) (.slice (some ⟨g, 0, none⟩) k cap) k _ rfl (hown.alloc _) ⟨wr.heap.size, 0, none⟩ 1 1 [.int .u8 c.toNat] rfl rfl (World.news_of_block (cs := #[.int .u8 c.toNat]) (t := 5) (fr := (0, 0)) (heap_alloc_new wr _)) (by simp [Value.oneCell']) (by omega) (by unfold maxLen; omega) (by omega) (by simp; omega) (wr.heap.size + 1) (by simp) ?_; intro g' cap' w1 hown1 hgrow hat hlt1)
      have hg' : w.heap.size ≤ g' := by rcases hat with h | h; (simp [Value.ownBlock] at h; omega); omega
      have hb' : Below w.heap.size w w1 := (hb.alloc hbs _).grown hgrow (by simp; omega) (fun j e => by simp [Value.ownBlock] at e; omega)
      clear hat hgrow hlt1
      go_roundw
      case rel => exact ⟨k + 1, g', cap', by omega, by go_num, rfl, hg', by rw [List.replicate_succ', byteCells_snoc]; exact hown1, hb'⟩
      case measure => simp [intOf]; omega
    · obtain rfl : k = n := by omega
      have hcv := conv_own Tryz.underlying86 Tryz.underlying5 Tryz.underlying9 hown (by simp)
      go_wp2_with fail
      go_ret
      exact ⟨rfl, hb⟩
end Go.Proofs.YtpeghilfldpgfaaGreatDoor.L7
namespace Go.Proofs.YtpeghilfldpgfaaGreatDoor.L7
open Go.RowKit Go.Extern
set_option linter.unusedVariables false
set_option linter.unusedSimpArgs false
def er (x : Int) : Value := .iface 36 (.int .i64 x)
def fa (a : ByteArray) (e : Value) : Value := .iface 274 (.agg #[.string a, e])
theorem isTypeOf (v : Value) (w : World) : (Extern.ReflectliteType.typeOf #[.iface 36 v]).run Tryz.prog w = .ok (.iface 253 (.agg #[.pointer (some ⟨6, 36, none⟩)])) w := by kernel_rfl
def cmpOf : Array Value → Sem Value := Extern.ReflectliteType.method fun t => do Extern.Rtype.noPackHeld "Comparable" t; pure (.bool (← typeInfo t).comparable)
theorem isComparable (w : World) : (cmpOf #[.agg #[.pointer (some ⟨6, 36, none⟩)]]).run Tryz.prog w = .ok (.bool true) w := by kernel_rfl
theorem isMethodComparable (N : Nat) (v : Value) (w : World) : (Go.method (N + 1) 253 v "Comparable").run Tryz.prog w = .ok (262, v) w := by kernel_rfl
theorem noIsE (v : Value) (xT : TypeId) (w : World) : (Instr.typeAssert (.iface 36 v) xT 300 true).run Tryz.prog w = .ok (.tuple #[.nilIface, .bool false]) w := run_typeAssert_lacksB Tryz.underlying300 (by kernel_rfl) (by kernel_rfl) v xT w
theorem noUnwrapE (v : Value) (xT : TypeId) (w : World) : (Instr.typeAssert (.iface 36 v) xT 261 true).run Tryz.prog w = .ok (.tuple #[.nilIface, .bool false]) w := run_typeAssert_lacksB Tryz.underlying261 (by kernel_rfl) (by kernel_rfl) v xT w
theorem noUnwrapsE (v : Value) (xT : TypeId) (w : World) : (Instr.typeAssert (.iface 36 v) xT 263 true).run Tryz.prog w = .ok (.tuple #[.nilIface, .bool false]) w := run_typeAssert_lacksB Tryz.underlying263 (by kernel_rfl) (by kernel_rfl) v xT w
theorem noIsF (v : Value) (xT : TypeId) (w : World) : (Instr.typeAssert (.iface 274 v) xT 300 true).run Tryz.prog w = .ok (.tuple #[.nilIface, .bool false]) w := run_typeAssert_lacksB Tryz.underlying300 (by kernel_rfl) (by kernel_rfl) v xT w
theorem hasUnwrapF (v : Value) (xT : TypeId) (w : World) : (Instr.typeAssert (.iface 274 v) xT 261 true).run Tryz.prog w = .ok (.tuple #[.iface 274 v, .bool true]) w := run_typeAssert_hasB Tryz.underlying261 (by kernel_rfl) v xT w
theorem methodUnwrap (N : Nat) (v : Value) (w : World) : (Go.method (N + 1) 274 v "Unwrap").run Tryz.prog w = .ok (272, v) w := by kernel_rfl
theorem eqlE (x y : Int) (w : World) : (binOp .eql 112 (.iface 36 (.int .i64 x)) (.iface 36 (.int .i64 y))).run Tryz.prog w = .ok (.bool (x == y)) w := by
  kernel_rfl
theorem eqlF (a : Value) (y : Int) (w : World) : (binOp .eql 112 (.iface 274 a) (.iface 36 (.int .i64 y))).run Tryz.prog w = .ok (.bool false) w :=
  run_eql_iface_types (P := Tryz.prog) 274 36 a (.int .i64 y) Tryz.underlying112 (by decide) w
theorem nilL (y : Int) (w : World) : (binOp .eql 112 .nilIface (.iface 36 (.int .i64 y))).run Tryz.prog w = .ok (.bool false) w := run_eql_iface_nil_left (P := Tryz.prog) w 36 (.int .i64 y) Tryz.underlying112
theorem unwrap_any (a : ByteArray) (e : Value) (w : World) : Calls Tryz.prog 272 #[.agg #[.string a, e]] w fun r w' => r = .returned e ∧ Below w.heap.size w w' := by
  go_enter Tryz.func272, Tryz.ntmps272
  go_wp2_with fail
  go_ret
  exact ⟨rfl, (Below.refl _ w).alloc (Nat.le_refl _) _⟩
set_option maxHeartbeats 2000000 in
theorem is_fa1 (a : ByteArray) (x y : Int) (w : World) : Calls Tryz.prog 168 #[fa a (er x), er y, .bool true] w fun r w' => r = .returned (.bool (x == y)) ∧ Below w.heap.size w w' := by
  have hE := eqlE x y
  have n1 := noIsE
  have n2 := noUnwrapE
  have n3 := noUnwrapsE
  have f1 := noIsF
  have f2 := hasUnwrapF
  have f3 := methodUnwrap
  have f4 := eqlF (.agg #[.string a, er x]) y
  have hU := Lib.hid (unwrap_any a (er x))
  unfold fa
  unfold er at *
  cases h : (x == y)
  all_goals
    rw [h] at hE
    clear h
    go_enter Tryz.func168, Tryz.ntmps168
    go_wp2_with fail
    refine wp_loop_rounds 2 ?_
    rw [rounds_succ]
    go_wp2_with fail
    refine (hU.out _).mono ?_
    rintro e w1 ⟨rfl, hb1⟩
    go_wp2_with fail
    rw [rounds_succ]
    go_wp2_with fail
    go_ret
    exact ⟨rfl, hb1⟩
set_option maxHeartbeats 2000000 in
theorem is_fa2 (a b : ByteArray) (x y : Int) (w : World) : Calls Tryz.prog 168 #[fa a (fa b (er x)), er y, .bool true] w fun r w' => r = .returned (.bool (x == y)) ∧ Below w.heap.size w w' := by
  have hE := eqlE x y
  have n1 := noIsE
  have n2 := noUnwrapE
  have n3 := noUnwrapsE
  have f1 := noIsF
  have f2 := hasUnwrapF
  have f3 := methodUnwrap
  have f4 := eqlF (.agg #[.string a, fa b (er x)]) y
  have f5 := eqlF (.agg #[.string b, er x]) y
  have hU := Lib.hid (unwrap_any a (fa b (er x)))
  have hV := Lib.hid (unwrap_any b (er x))
  unfold fa at *
  unfold er at *
  cases h : (x == y)
  all_goals
    rw [h] at hE
    clear h
    go_enter Tryz.func168, Tryz.ntmps168
    go_wp2_with fail
    refine wp_loop_rounds 3 ?_
    rw [rounds_succ]
    go_wp2_with fail
    refine (hU.out _).mono ?_
    rintro e w1 ⟨rfl, hb1⟩
    go_wp2_with fail
    rw [rounds_succ]
    go_wp2_with fail
    refine (hV.out _).mono ?_
    rintro e w2 ⟨rfl, hb2⟩
    have hb3 := hb1.trans' hb2
    go_wp2_with fail
    rw [rounds_succ]
    go_wp2_with fail
    go_ret
    exact ⟨rfl, hb3⟩
theorem Is_of {e : Value} {v : Value} {y : Int} {r : Bool} {w : World} (he : e = .iface 274 v)
    (h : Calls Tryz.prog 168 #[e, er y, .bool true] w fun q w' => q = .returned (.bool r) ∧ Below w.heap.size w w') :
    Calls Tryz.prog 108 #[e, er y] w fun q w' => q = .returned (.bool r) ∧ Below w.heap.size w w' := by
  subst he
  have h8 := @run_callFunc_extern Tryz.prog 155 _ Extern.ReflectliteType.typeOf Tryz.func155 (by kernel_rfl) (by kernel_rfl) (by kernel_rfl) (by kernel_rfl)
  have h32 := @run_callFunc_extern Tryz.prog 262 _ cmpOf Tryz.func262 (by kernel_rfl) (by kernel_rfl) (by kernel_rfl) (by kernel_rfl)
  have tT := isTypeOf
  have cT := isComparable
  have mR := isMethodComparable
  have H := Lib.hid h
  clear h
  unfold er at *
  go_enter Tryz.func108, Tryz.ntmps108
  go_wp2_with fail
  refine H.out.mono ?_
  rintro e w1 ⟨rfl, hb1⟩
  go_wp2_with fail
  go_ret
  exact ⟨rfl, hb1⟩
theorem Is_fa1 (a : ByteArray) (x y : Int) (w : World) : Calls Tryz.prog 108 #[fa a (er x), er y] w fun r w' => r = .returned (.bool (x == y)) ∧ Below w.heap.size w w' := Is_of rfl (is_fa1 a x y w)
theorem Is_fa2 (a b : ByteArray) (x y : Int) (w : World) : Calls Tryz.prog 108 #[fa a (fa b (er x)), er y] w fun r w' => r = .returned (.bool (x == y)) ∧ Below w.heap.size w w' := Is_of rfl (is_fa2 a b x y w)
theorem Is_nil (y : Int) (w : World) : Calls Tryz.prog 108 #[.nilIface, er y] w fun r w' => r = .returned (.bool false) ∧ w = w' := by
  have hn := nilL y
  unfold er
  go_enter Tryz.func108, Tryz.ntmps108
  go_wp2_with fail
  go_ret
  exact ⟨rfl, rfl⟩
end Go.Proofs.YtpeghilfldpgfaaGreatDoor.L7
namespace Go.Proofs.YtpeghilfldpgfaaGreatDoor.L7
open Go.RowKit
set_option linter.unusedVariables false
def hv (h : HP.H) : Value := .agg #[.int .i64 h.k, .int .i64 h.l, .int .i64 h.c, .int .i64 h.r, .int .i64 h.s]
end Go.Proofs.YtpeghilfldpgfaaGreatDoor.L7
namespace Go.Proofs.YtpeghilfldpgfaaGreatDoor.L7
open Go.RowKit
set_option linter.unusedVariables false
set_option linter.unusedSimpArgs false
structure Fd where
  nm : ByteArray
  n : Int
  lo : Int
  hi : Int
  sz : Nat
def fd (h : HP.H) : Nat → Fd
  | 0 => ⟨⟨#[75, 105, 110, 100]⟩, h.k, 1, 4, 1⟩
  | 1 => ⟨⟨#[76, 101, 118, 101, 108]⟩, h.l, 0, 255, 1⟩
  | 2 => ⟨⟨#[67, 111, 117, 110, 116]⟩, h.c, 0, 65535, 2⟩
  | 3 => ⟨⟨#[82, 105, 103, 104, 116]⟩, h.r, 0, 4095, 4⟩
  | _ => ⟨⟨#[83, 101, 108, 102]⟩, h.s, 0, 4095, 4⟩
theorem right_fd (h : HP.H) : HP.right h = true ↔ ∀ k, k < 5 → (fd h k).lo ≤ (fd h k).n ∧ (fd h k).n ≤ (fd h k).hi := by
  rw [HP.right_iff]
  unfold HP.Ok
  constructor
  · rintro ⟨h1, h2, h3, h4, h5, h6, h7, h8, h9, h10⟩ k hk
    rcases (show k = 0 ∨ k = 1 ∨ k = 2 ∨ k = 3 ∨ k = 4 by omega) with rfl | rfl | rfl | rfl | rfl <;> simp only [fd] <;> omega
  · intro H
    have a0 := H 0 (by omega)
    have a1 := H 1 (by omega)
    have a2 := H 2 (by omega)
    have a3 := H 3 (by omega)
    have a4 := H 4 (by omega)
    simp only [fd] at a0 a1 a2 a3 a4
    omega
def At5 (w : World) (a : Addr) (f : Fd) : Prop :=
  w.cell? a = some (.string f.nm) ∧ w.cell? ⟨a.block, a.off + 1, none⟩ = some (.int .i64 f.n) ∧ w.cell? ⟨a.block, a.off + 2, none⟩ = some (.int .i64 f.lo) ∧ w.cell? ⟨a.block, a.off + 3, none⟩ = some (.int .i64 f.hi) ∧ w.cell? ⟨a.block, a.off + 4, none⟩ = some (.int .i64 f.sz)
def FL (w : World) (a : Addr) (h : HP.H) : Prop := a.block < w.heap.size ∧ ∀ k, k < 5 → (a.add (k * 5)).block = a.block ∧ At5 w (a.add (k * 5)) (fd h k)
theorem FL.below {w w' : World} {a : Addr} {h : HP.H} (H : FL w a h) (b : Below w.heap.size w w') : FL w' a h := by
  refine ⟨Nat.lt_of_lt_of_le H.1 b.size, fun k hk => ?_⟩
  obtain ⟨e, x0, x1, x2, x3, x4⟩ := H.2 k hk
  have c : ∀ p : Addr, p.block = a.block → w'.cell? p = w.cell? p := fun p hp => by
    unfold World.cell?
    rw [hp, b.block _ H.1]
  exact ⟨e, (c _ e).trans x0, (c ⟨_, _, none⟩ e).trans x1, (c ⟨_, _, none⟩ e).trans x2, (c ⟨_, _, none⟩ e).trans x3, (c ⟨_, _, none⟩ e).trans x4⟩
def fcells (h : HP.H) : Array Value := #[.string ⟨#[75, 105, 110, 100]⟩, .int .i64 h.k, .int .i64 1, .int .i64 4, .int .i64 1, .string ⟨#[76, 101, 118, 101, 108]⟩, .int .i64 h.l, .int .i64 0, .int .i64 255, .int .i64 1, .string ⟨#[67, 111, 117, 110, 116]⟩, .int .i64 h.c, .int .i64 0, .int .i64 65535, .int .i64 2, .string ⟨#[82, 105, 103, 104, 116]⟩, .int .i64 h.r, .int .i64 0, .int .i64 4095, .int .i64 4, .string ⟨#[83, 101, 108, 102]⟩, .int .i64 h.s, .int .i64 0, .int .i64 4095, .int .i64 4]
theorem fl_of {w : World} {g : Nat} {h : HP.H} {t : TypeId} (H : w.heap[g]? = some (.cells (fcells h) t (0, 0))) : FL w ⟨g, 0, none⟩ h := by
  refine ⟨(Array.getElem?_eq_some_iff.1 H).1, fun k hk => ?_⟩
  have e : (⟨g, 0, none⟩ : Addr).add (k * 5) = ⟨g, k * 5, none⟩ := by
    unfold Addr.add
    split <;> simp_all
  rw [e]
  refine ⟨rfl, ?_⟩
  unfold At5
  simp only [World.cell?, H]
  rcases (show k = 0 ∨ k = 1 ∨ k = 2 ∨ k = 3 ∨ k = 4 by omega) with rfl | rfl | rfl | rfl | rfl <;> simp [fcells, fd]
theorem heap_alloc_new2 (w : World) (o p : Obj) : ((w.alloc o).alloc p).heap[w.heap.size + 1]? = some p := by
  have h := heap_alloc_new (w.alloc o) p
  simpa using h
set_option maxHeartbeats 1000000 in
set_option maxRecDepth 100000 in
theorem fields_any (h : HP.H) (w : World) :
    Calls Tryz.prog 167 #[hv h] w fun e w' => ∃ a : Addr, e = .returned (.slice (some a) 5 5) ∧ FL w' a h ∧ Below w.heap.size w w' := by
  obtain ⟨k, l, c, r, s⟩ := h
  unfold hv
  go_enter Tryz.func167, Tryz.ntmps167
  go_wp2_with fail
  go_ret
  exact ⟨_, rfl, fl_of (h := ⟨k, l, c, r, s⟩) (heap_alloc_new2 w _ _), (below_alloc _ _).trans' (below_alloc _ _)⟩
set_option maxHeartbeats 2000000 in
set_option maxRecDepth 100000 in
theorem within_any (h : HP.H) (a : Addr) (w : World) (ha : FL w a h) :
    Calls Tryz.prog 166 #[.slice (some a) 5 5] w fun e w' => ∃ v, e = .returned v ∧ Below w.heap.size w w' ∧ ((HP.right h = true ∧ v = .nilIface) ∨ (HP.right h = false ∧ ∃ nm, v = fa nm (er 3))) := by
  have HA := Lib.hid ha
  clear ha
  go_enter Tryz.func166, Tryz.ntmps166
  go_wp2_with fail
  go_loopw [7] (fun iv wr => ∃ k : Nat, k ≤ 5 ∧ iv = .int .i64 k ∧ Hid (∀ j, j < k → (fd h j).lo ≤ (fd h j).n ∧ (fd h j).n ≤ (fd h j).hi) ∧ Below w.heap.size w wr) (fun iv _ => 5 - (intOf iv).toNat)
  case atStart => exact ⟨0, by omega, rfl, Lib.hid (fun j hj => absurd hj (by omega)), Below.refl _ _⟩
  case round =>
    obtain ⟨k, hk, rfl, HK, hbw⟩ := hrel
    by_cases hlt : k < 5
    · have hF := (HA.out.below hbw).2 k hlt
      obtain ⟨f, hf⟩ : ∃ f, f = fd h k := ⟨_, rfl⟩
      rw [← hf] at hF
      have HFD := Lib.hid hf
      clear hf
      obtain ⟨nm, n, lo, hi, sz⟩ := f
      obtain ⟨hab, x0, x1, x2, x3, x4⟩ := hF
      simp only at x0 x1 x2 x3 x4
      have HNO : Hid (n < lo ∨ hi < n → HP.right h = false) := Lib.hid (fun hn => by
        cases hr : HP.right h with
        | false => rfl
        | true =>
          have := (right_fd h).1 hr k hlt
          rw [← HFD.out] at this
          simp only at this
          omega)
      clear hab
      by_cases h1 : n < lo
      · go_wp2_with fail
        go_ret
        exact ⟨_, rfl, hbw.trans' (below_alloc _ _), .inr ⟨HNO.out (.inl h1), nm, rfl⟩⟩
      · by_cases h2 : hi < n
        · go_wp2_with fail
          go_ret
          exact ⟨_, rfl, hbw.trans' (below_alloc _ _), .inr ⟨HNO.out (.inr h2), nm, rfl⟩⟩
        · go_wp2_with fail
          go_roundw
          case rel =>
            refine ⟨k + 1, by omega, by go_num, Lib.hid (fun j hj => ?_), hbw.trans' (below_alloc _ _)⟩
            rcases (show j < k ∨ j = k by omega) with hj | rfl
            · exact HK.out j hj
            · rw [← HFD.out]
              simp only
              omega
          case measure => simp [intOf]; omega
    · obtain rfl : k = 5 := by omega
      go_wp2_with fail
      go_ret
      exact ⟨_, rfl, hbw, .inl ⟨(right_fd h).2 HK.out, rfl⟩⟩
end Go.Proofs.YtpeghilfldpgfaaGreatDoor.L7
namespace Go.Proofs.YtpeghilfldpgfaaGreatDoor.L7
open Go.RowKit
set_option linter.unusedVariables false
theorem le4_size (v : Nat) : (⟨(Lib.leBytes 4 v).toArray⟩ : ByteArray).size = 4 := by simp [ByteArray.size, Lib.leBytes_length]
def Bx (t : TypeId) (g : Nat) (h : HP.H) (w : World) : Prop := w.heap[g]? = some (.cells #[.int .i64 h.k, .int .i64 h.l, .int .i64 h.c, .int .i64 h.r, .int .i64 h.s] t (0, 0))
theorem Bx.cells {t : TypeId} {g : Nat} {h : HP.H} {w : World} (k : Bx t g h w) : w.cell? ⟨g, 0, none⟩ = some (.int .i64 h.k) ∧ w.cell? ⟨g, 1, none⟩ = some (.int .i64 h.l) ∧ w.cell? ⟨g, 2, none⟩ = some (.int .i64 h.c) ∧ w.cell? ⟨g, 3, none⟩ = some (.int .i64 h.r) ∧ w.cell? ⟨g, 4, none⟩ = some (.int .i64 h.s) := by
  unfold Bx at k
  refine ⟨?_, ?_, ?_, ?_, ?_⟩ <;> simp [World.cell?, k]
theorem Bx.lt {t : TypeId} {g : Nat} {h : HP.H} {w : World} (k : Bx t g h w) : g < w.heap.size := (Array.getElem?_eq_some_iff.1 k).1
theorem Bx.below {t : TypeId} {g : Nat} {h : HP.H} {w w' : World} (k : Bx t g h w) (b : Below w.heap.size w w') : Bx t g h w' := (b.block g k.lt).trans k
def set5 (w : World) (g : Nat) (h : HP.H) : World := ((((w.setCell ⟨g, 0, none⟩ (.int .i64 h.k)).setCell ⟨g, 1, none⟩ (.int .i64 h.l)).setCell ⟨g, 2, none⟩ (.int .i64 h.c)).setCell ⟨g, 3, none⟩ (.int .i64 h.r)).setCell ⟨g, 4, none⟩ (.int .i64 h.s)
theorem set5_box {t : TypeId} {w : World} {g : Nat} {h : HP.H} (k : Bx t g h w) (h' : HP.H) : Bx t g h' (set5 w g h') := by
  unfold Bx at *
  unfold set5
  have h0 := heap_setCell_same w g 0 _ _ (.int .i64 h'.k) k
  have h1 := heap_setCell_same _ g 1 _ _ (.int .i64 h'.l) h0
  have h2 := heap_setCell_same _ g 2 _ _ (.int .i64 h'.c) h1
  have h3 := heap_setCell_same _ g 3 _ _ (.int .i64 h'.r) h2
  have h4 := heap_setCell_same _ g 4 _ _ (.int .i64 h'.s) h3
  exact h4
theorem set5_below {w W : World} {g : Nat} (h : Below w.heap.size w W) (hg : w.heap.size ≤ g) (h' : HP.H) : Below w.heap.size w (set5 W g h') :=
  ((((h.setCell hg _).setCell hg _).setCell hg _).setCell hg _).setCell hg _
theorem Bx.frozen {t : TypeId} {g : Nat} {h : HP.H} {w : World} (k : Bx t g h w) : w.frozen? ⟨g, 0, none⟩ = false ∧ w.frozen? ⟨g, 1, none⟩ = false ∧ w.frozen? ⟨g, 2, none⟩ = false ∧ w.frozen? ⟨g, 3, none⟩ = false ∧ w.frozen? ⟨g, 4, none⟩ = false := by
  unfold Bx at k
  refine ⟨?_, ?_, ?_, ?_, ?_⟩ <;> simp [World.frozen?, k]
end Go.Proofs.YtpeghilfldpgfaaGreatDoor.L7
