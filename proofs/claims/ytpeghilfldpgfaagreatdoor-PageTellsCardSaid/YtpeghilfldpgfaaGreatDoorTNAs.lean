import Derived.Test.YtpeghilfldpgfaaGreatDoorT05
set_option linter.unusedVariables false
set_option linter.unusedSimpArgs false
set_option maxHeartbeats 8000000
set_option maxRecDepth 100000
namespace Go.Proofs.YtpeghilfldpgfaaGreatDoor.L10
open Go.RowKit Go.Extern.Stop Go.Stop Go.Extern
theorem as_nil (t : Value) (w : World) : Calls Tryz.prog 53 #[.nilIface, t] w fun e w' => e = .returned (.bool false) ∧ w' = w := by
 go_enter Tryz.func53, Tryz.ntmps53
 go_wp2
 go_ret; exact ⟨rfl, rfl⟩
theorem asValueP (t : Addr) (w : World) : (ReflectliteValue.unpack (.iface 118 (.pointer (some t)))).run Tryz.prog w
  = .ok (.agg #[.pointer (some ⟨6, 118, none⟩), .pointer (some ⟨w.heap.size, 0, none⟩), .int .u64 150]) (w.alloc (.cells #[.pointer (some t)] 118)) := by kernel_rfl
theorem asTypeP (a : Addr) (w : World) : (ReflectliteValue.methodAny (ReflectliteValue.valueError "reflectlite.Value.Type" 0) (fun t _ _ _ => ReflectliteType.toType t) #[.agg #[.pointer (some ⟨6, 118, none⟩), .pointer (some a), .int .u64 150]]).run Tryz.prog w
  = .ok (.iface 253 (.agg #[.pointer (some ⟨6, 118, none⟩)])) w := by kernel_rfl
theorem asMethodKind (N : Nat) (h : Value) (w : World) : (Go.method (N + 1) 253 (.agg #[h]) "Kind").run Tryz.prog w = .ok (240, h) w := by kernel_rfl
theorem asKindP (w : World) : ((ReflectliteType.abiMethod fun t => (fun a : Nat => Value.int IntKind.u8 (a : Int)) <$> Rtype.kind t) #[.pointer (some ⟨6, 118, none⟩)]).run Tryz.prog w = .ok (.int .u8 22) w := by kernel_rfl
theorem asKindF (w : World) : ((ReflectliteType.abiMethod fun t => (fun a : Nat => Value.int IntKind.u8 (a : Int)) <$> Rtype.kind t) #[.pointer (some ⟨6, 116, none⟩)]).run Tryz.prog w = .ok (.int .u8 25) w := by kernel_rfl
theorem asMatch1 (v : Value) (h1 : Value → Sem Value) (h2 : Array Value → Sem Value) : ReflectliteValue.method.match_2 (fun _ => Sem Value) #[v] h1 h2 = h1 v := rfl
theorem asMatch2 (v x : Value) (h1 : Value → Value → Sem Value) (h2 : Array Value → Sem Value) : ReflectliteValue.set.match_3 (fun _ => Sem Value) #[v, x] h1 h2 = h1 v x := rfl
theorem asPartsP (a : Addr) (w : World) : (ReflectliteValue.parts (.agg #[.pointer (some ⟨6, 118, none⟩), .pointer (some a), .int .u64 150])).run Tryz.prog w = .ok (some (118, a, 150)) w := by kernel_rfl
theorem asIsNilP (a p : Addr) (W : World) (ha : W.cell? a = some (.pointer (some p))) :
  (ReflectliteValue.method (ReflectliteValue.valueError "reflectlite.Value.IsNil" 0) ReflectliteValue.isNil #[.agg #[.pointer (some ⟨6, 118, none⟩), .pointer (some a), .int .u64 150]]).run Tryz.prog W = .ok (.bool false) W := by
 delta ReflectliteValue.method
 rw [asMatch1]; simp only [Sem.run_bind, asPartsP, Result.andThen]; simp [ReflectliteValue.isNil, loadVar, isAgg, underlying, Tryz.underlying118, ha, Result.andThen]
theorem asMethodElem (N : Nat) (h : Value) (w : World) : (Go.method (N + 1) 253 (.agg #[h]) "Elem").run Tryz.prog w = .ok (263, .agg #[h]) w := by kernel_rfl
theorem asMethodImplements (N : Nat) (h : Value) (w : World) : (Go.method (N + 1) 253 (.agg #[h]) "Implements").run Tryz.prog w = .ok (264, .agg #[h]) w := by kernel_rfl
theorem asMethodAssignableTo (N : Nat) (h : Value) (w : World) : (Go.method (N + 1) 253 (.agg #[h]) "AssignableTo").run Tryz.prog w = .ok (261, .agg #[h]) w := by kernel_rfl
theorem asElemP (w : World) : (ReflectliteType.method ReflectliteType.elem #[.agg #[.pointer (some ⟨6, 118, none⟩)]]).run Tryz.prog w = .ok (.iface 253 (.agg #[.pointer (some ⟨6, 116, none⟩)])) w := by kernel_rfl
theorem asImplements (w : World) : (ReflectliteType.relation "Implements" ReflectliteType.implements_ #[.agg #[.pointer (some ⟨6, 116, none⟩)], .iface 253 (.agg #[.pointer (some ⟨6, 112, none⟩)])]).run Tryz.prog w = .ok (.bool true) w := by kernel_rfl
theorem asTypeOfF (v : Value) (w : World) : (ReflectliteType.typeOf #[.iface 116 v]).run Tryz.prog w = .ok (.iface 253 (.agg #[.pointer (some ⟨6, 116, none⟩)])) w := by kernel_rfl
theorem asAssignable (w : World) : (ReflectliteType.relation "AssignableTo" ReflectliteType.assignableTo #[.agg #[.pointer (some ⟨6, 116, none⟩)], .iface 253 (.agg #[.pointer (some ⟨6, 116, none⟩)])]).run Tryz.prog w = .ok (.bool true) w := by kernel_rfl
theorem asValueF (s : ByteArray) (X : Value) (w : World) : (ReflectliteValue.unpack (.iface 116 (.agg #[.string s, X]))).run Tryz.prog w
  = .ok (.agg #[.pointer (some ⟨6, 116, none⟩), .pointer (some ⟨w.heap.size, 0, none⟩), .int .u64 153]) (w.alloc (.cells #[.string s, X] 116)) := by kernel_rfl
theorem asElemOfP (w : World) : (Rtype.elem? 118).run Tryz.prog w = .ok (some 116) w := by kernel_rfl
theorem asMkF (p : Addr) (w : World) : (ReflectliteValue.mk 116 p ReflectliteValue.flagAddr).run Tryz.prog w = .ok (.agg #[.pointer (some ⟨6, 116, none⟩), .pointer (some p), .int .u64 409]) w := by kernel_rfl
theorem asElemV (a p : Addr) (W : World) (ha : W.cell? a = some (.pointer (some p))) :
  (ReflectliteValue.method (ReflectliteValue.valueError "reflectlite.Value.Elem" 0) ReflectliteValue.elem #[.agg #[.pointer (some ⟨6, 118, none⟩), .pointer (some a), .int .u64 150]]).run Tryz.prog W
   = .ok (.agg #[.pointer (some ⟨6, 116, none⟩), .pointer (some p), .int .u64 409]) W := by
 delta ReflectliteValue.method
 rw [asMatch1]; simp only [Sem.run_bind, asPartsP, Result.andThen]; simp [ReflectliteValue.elem, loadVar, isAgg, underlying, Tryz.underlying118, ha, Result.andThen, asElemOfP, asMkF]
theorem asPartsFa (a : Addr) (w : World) : (ReflectliteValue.parts (.agg #[.pointer (some ⟨6, 116, none⟩), .pointer (some a), .int .u64 409])).run Tryz.prog w = .ok (some (116, a, 409)) w := by kernel_rfl
theorem asPartsF (a : Addr) (w : World) : (ReflectliteValue.parts (.agg #[.pointer (some ⟨6, 116, none⟩), .pointer (some a), .int .u64 153])).run Tryz.prog w = .ok (some (116, a, 153)) w := by kernel_rfl
theorem asDirect (w : World) : (Rtype.directlyAssignable 116 116).run Tryz.prog w = .ok true w := by kernel_rfl
theorem asSize (w : World) : (sizeOf 116).run Tryz.prog w = .ok 2 w := by kernel_rfl
def FBx (g : Nat) (s : ByteArray) (X : Value) (w : World) : Prop := w.heap[g]? = some (.cells #[.string s, X] 116 (0, 0))
theorem FBx.cells {g : Nat} {s : ByteArray} {X : Value} {w : World} (k : FBx g s X w) : w.cell? ⟨g, 0, none⟩ = some (.string s) ∧ w.cell? ⟨g, 1, none⟩ = some X := by
 unfold FBx at k
 refine ⟨?_, ?_⟩ <;> simp [World.cell?, k]
theorem FBx.free {g : Nat} {s : ByteArray} {X : Value} {w : World} (k : FBx g s X w) : w.frozen? ⟨g, 0, none⟩ = false ∧ w.frozen? ⟨g, 1, none⟩ = false := by
 unfold FBx at k
 refine ⟨?_, ?_⟩ <;> simp [World.frozen?, k]
theorem FBx.lt {g : Nat} {s : ByteArray} {X : Value} {w : World} (k : FBx g s X w) : g < w.heap.size := (Array.getElem?_eq_some_iff.1 k).1
theorem FBx.below {g : Nat} {s : ByteArray} {X : Value} {w w' : World} (k : FBx g s X w) (b : Below w.heap.size w w') : FBx g s X w' := (b.block g k.lt).trans k
theorem asSet (g b : Nat) (s0 s : ByteArray) (X0 : Value) (te : TypeId) (ve : Value) (W : World) (hg : FBx g s0 X0 W) (hb : FBx b s (.iface te ve) W) :
  (ReflectliteValue.set #[.agg #[.pointer (some ⟨6, 116, none⟩), .pointer (some ⟨g, 0, none⟩), .int .u64 409], .agg #[.pointer (some ⟨6, 116, none⟩), .pointer (some ⟨b, 0, none⟩), .int .u64 153]]).run Tryz.prog W
   = .ok (.tuple #[]) ((W.setCell ⟨g, 0, none⟩ (.string s)).setCell ⟨g, 1, none⟩ (.iface te ve)) := by
 obtain ⟨c0, c1⟩ := hb.cells; obtain ⟨t0, t1⟩ := hg.cells; obtain ⟨f0, f1⟩ := hg.free
 have hl : Sem.run Tryz.prog (loadCells ⟨b, 0, none⟩ 2) W = .ok #[.string s, .iface te ve] W := by
  simp [loadCells, loadCellsFrom, Addr.add, c0, c1, Result.andThen]
 have hg1 : (W.setCell ⟨g, 0, none⟩ (.string s)).heap[g]? = some (.cells #[.string s, X0] 116 (0, 0)) := by
  have h := heap_setCell_same W g 0 _ _ (.string s) hg
  simpa using h
 have t2 : (W.setCell ⟨g, 0, none⟩ (.string s)).cell? ⟨g, 1, none⟩ = some X0 := by simp [World.cell?, hg1]
 have f2 : (W.setCell ⟨g, 0, none⟩ (.string s)).frozen? ⟨g, 1, none⟩ = false := by simp [World.frozen?, hg1]
 have hst : Sem.run Tryz.prog (storeVar 116 ⟨g, 0, none⟩ (.agg #[.string s, .iface te ve])) W = .ok () ((W.setCell ⟨g, 0, none⟩ (.string s)).setCell ⟨g, 1, none⟩ (.iface te ve)) := by
  simp [storeVar, Value.cells, storeCells, Addr.add, asSize, Result.andThen]; rw [run_store Tryz.prog W _ _ _ (by rfl)]; simp only [t0, f0]; simp only [Bool.false_eq_true, if_false]; rw [run_store Tryz.prog _ _ _ _ (by rfl)]; simp [t2, f2]
 delta ReflectliteValue.set
 rw [asMatch2]; simp only [Sem.run_bind, asPartsFa, asPartsF, Result.andThen]; simp [ReflectliteValue.flagAddr, loadVar, isAgg, underlying, Tryz.underlying116, Result.andThen, asDirect, asSize, hl, hst]
theorem as_hit (s : ByteArray) (te : TypeId) (ve : Value) (g : Nat) (s0 : ByteArray) (X0 : Value) (w : World) (hg : ErrT w) (ht : FBx g s0 X0 w) :
  Calls Tryz.prog 53 #[.iface 116 (.agg #[.string s, .iface te ve]), .iface 118 (.pointer (some ⟨g, 0, none⟩))] w fun ev w' => ev = .returned (.bool true) ∧ ∀ c, c ≤ g → c ≤ w.heap.size → Below c w w' := by
 have h6 := @run_callFunc_extern Tryz.prog 92 _ (fun args => ReflectliteValue.unpack (args.getD 0 (.tuple #[]))) Tryz.func92 (by kernel_rfl) (by kernel_rfl) (by kernel_rfl) (by kernel_rfl); have h7 := @run_callFunc_extern Tryz.prog 93 _ (ReflectliteValue.methodAny (ReflectliteValue.valueError "reflectlite.Value.Type" 0) (fun t _ _ _ => ReflectliteType.toType t)) Tryz.func93 (by kernel_rfl) (by kernel_rfl) (by kernel_rfl) (by kernel_rfl); have h8 := @run_callFunc_extern Tryz.prog 94 _ (ReflectliteValue.method (ReflectliteValue.valueError "reflectlite.Value.IsNil" 0) ReflectliteValue.isNil) Tryz.func94 (by kernel_rfl) (by kernel_rfl) (by kernel_rfl) (by kernel_rfl); have h27 := @run_callFunc_extern Tryz.prog 240 _ (ReflectliteType.abiMethod fun t => do pure (.int .u8 (← Rtype.kind t))) Tryz.func240 (by kernel_rfl) (by kernel_rfl) (by kernel_rfl) (by kernel_rfl); have h37 := @run_callFunc_extern Tryz.prog 263 _ (ReflectliteType.method ReflectliteType.elem) Tryz.func263 (by kernel_rfl) (by kernel_rfl) (by kernel_rfl) (by kernel_rfl); have h38 := @run_callFunc_extern Tryz.prog 264 _ (ReflectliteType.relation "Implements" ReflectliteType.implements_) Tryz.func264 (by kernel_rfl) (by kernel_rfl) (by kernel_rfl) (by kernel_rfl); have h10 := @run_callFunc_extern Tryz.prog 155 _ ReflectliteType.typeOf Tryz.func155 (by kernel_rfl) (by kernel_rfl) (by kernel_rfl) (by kernel_rfl); have h35 := @run_callFunc_extern Tryz.prog 261 _ (ReflectliteType.relation "AssignableTo" ReflectliteType.assignableTo) Tryz.func261 (by kernel_rfl) (by kernel_rfl) (by kernel_rfl) (by kernel_rfl); have h11 := @run_callFunc_extern Tryz.prog 156 _ (ReflectliteValue.method (ReflectliteValue.valueError "reflectlite.Value.Elem" 0) ReflectliteValue.elem) Tryz.func156 (by kernel_rfl) (by kernel_rfl) (by kernel_rfl) (by kernel_rfl); have h12 := @run_callFunc_extern Tryz.prog 157 _ ReflectliteValue.set Tryz.func157 (by kernel_rfl) (by kernel_rfl) (by kernel_rfl) (by kernel_rfl); have tO := asTypeOfF; have mA := asMethodAssignableTo; have a25 := asAssignable; have v25 := asValueF; have f6 := asValueP; have f7 := asTypeP; have mK := asMethodKind; have mE := asMethodElem; have mI := asMethodImplements; have k27 := asKindP; have k25 := asKindF; have e27 := asElemP; have i25 := asImplements; have hb1 : Below w.heap.size w (w.alloc (.cells #[.pointer (some ⟨g, 0, none⟩)] 118)) := L5.below_alloc _ _
 have n8 := asIsNilP ⟨w.heap.size, 0, none⟩ ⟨g, 0, none⟩ ((w.alloc (.cells #[.pointer (some ⟨g, 0, none⟩)] 118)).alloc (.cells #[.pointer (some ⟨6, 118, none⟩), .pointer (some ⟨w.heap.size, 0, none⟩), .int .u64 150] 182)) (by simp); have hg2 := (hg.on hb1).on (L5.below_alloc _ (.cells #[.pointer (some ⟨6, 118, none⟩), .pointer (some ⟨w.heap.size, 0, none⟩), .int .u64 150] 182)); unfold ErrT at hg2; have el := asElemV ⟨w.heap.size, 0, none⟩ ⟨g, 0, none⟩ (((w.alloc (.cells #[.pointer (some ⟨g, 0, none⟩)] 118)).alloc (.cells #[.pointer (some ⟨6, 118, none⟩), .pointer (some ⟨w.heap.size, 0, none⟩), .int .u64 150] 182)).alloc (.cells #[.pointer (some ⟨6, 118, none⟩), .pointer (some ⟨w.heap.size, 0, none⟩), .int .u64 150] 182)) (by rw [World.cell?_alloc_lt _ _ ⟨w.heap.size, 0, none⟩ (by simp; omega)]; simp)
 have hbA : Below w.heap.size w ((((w.alloc (.cells #[.pointer (some ⟨g, 0, none⟩)] 118)).alloc (.cells #[.pointer (some ⟨6, 118, none⟩), .pointer (some ⟨w.heap.size, 0, none⟩), .int .u64 150] 182)).alloc (.cells #[.pointer (some ⟨6, 118, none⟩), .pointer (some ⟨w.heap.size, 0, none⟩), .int .u64 150] 182)).alloc (.cells #[.string s, .iface te ve] 116)) :=
  ((hb1.trans' (L5.below_alloc _ _)).trans' (L5.below_alloc _ _)).trans' (L5.below_alloc _ _)
 have st := asSet g (w.heap.size + 1 + 1 + 1) s0 s X0 te ve ((((w.alloc (.cells #[.pointer (some ⟨g, 0, none⟩)] 118)).alloc (.cells #[.pointer (some ⟨6, 118, none⟩), .pointer (some ⟨w.heap.size, 0, none⟩), .int .u64 150] 182)).alloc (.cells #[.pointer (some ⟨6, 118, none⟩), .pointer (some ⟨w.heap.size, 0, none⟩), .int .u64 150] 182)).alloc (.cells #[.string s, .iface te ve] 116))
  (ht.below hbA) (by
   have h := heap_alloc_new (((w.alloc (.cells #[.pointer (some ⟨g, 0, none⟩)] 118)).alloc (.cells #[.pointer (some ⟨6, 118, none⟩), .pointer (some ⟨w.heap.size, 0, none⟩), .int .u64 150] 182)).alloc (.cells #[.pointer (some ⟨6, 118, none⟩), .pointer (some ⟨w.heap.size, 0, none⟩), .int .u64 150] 182)) (.cells #[.string s, .iface te ve] 116); unfold FBx
   simpa using h)
 have HBA := zj hbA; clear hb1 hbA ht hg; go_enter Tryz.func53, Tryz.ntmps53
 go_wp2
 refine wp_loop_rounds 1 ?_; rw [rounds_succ]
 go_wp2
 go_ret; exact ⟨rfl, fun c h1 h2 => ((HBA.out.mono h2).setCell (p := ⟨g, 0, none⟩) h1 _).setCell (p := ⟨g, 1, none⟩) h1 _⟩
end Go.Proofs.YtpeghilfldpgfaaGreatDoor.L10
