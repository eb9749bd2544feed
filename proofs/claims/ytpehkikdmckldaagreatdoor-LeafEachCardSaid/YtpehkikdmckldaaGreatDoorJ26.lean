/-
  What the frames of the laws of layer 10 share: the row's premises with what was laid; how a leaf, and a page with a key, that came in, are opened.
  Walks of the document's own answers of layer 5: Common, Span, Least.
  The walk of the document's Keys.
  The walk of the document's number: bytes, the lowest first.
-/
import Derived.Test.YtpehkikdmckldaaGreatDoorRows
import Derived.Test.YtpehkikdmckldaaGreatDoorJ15
import Derived.WalkKit
import Derived.ProofKit
import Derived.OpenShut
import Derived.ShutString
import Derived.ChangeOld
import Derived.Below
import Derived.RangeFuncOwn
import Derived.Deep.Slices
import Derived.Shelf.Vars
import Derived.SizedLaws
import Derived.Lib.SmallJoins
import Derived.LaidMore
import Derived.LaidSub
import Derived.LaidHandle
import Derived.Lay
import Derived.Stop.Joined
import Derived.Stop.LaidErr
import Derived.Test.YtpehkikdmckldaaGreatDoorJ08
import Derived.Test.YtpehkikdmckldaaGreatDoorJ10
import Derived.Test.YtpehkikdmckldaaGreatDoorJ12
namespace Go.Proofs.YtpehkikdmckldaaGreatDoor
open Go Go.ChangeShapes Go.WideShapes Go.ChangeAt Go.RowKit NP
set_option linter.unusedVariables false

theorem Glo.of_heap {w w' : World} (h : Glo w) (e : w'.heap = w.heap) : Glo w' := by
  have hc : ∀ p : Addr, w'.cell? p = w.cell? p := fun p => World.cell?_of_block (by rw [e])
  obtain ⟨⟨s0, s1, s2, s3⟩, hp, ht⟩ := h
  refine ⟨⟨(hc _).trans s0, (hc _).trans s1, (hc _).trans s2, (hc _).trans s3⟩, ?_, (hc _).trans ht⟩
  unfold Pow Lib.TabIs World.var? at *
  rw [pow_named] at *
  simp only [Option.bind_some] at *
  rw [e]
  exact hp

/-- A law's call, from the row's premises: with what was laid. -/
theorem lift_laid {H : Type} {enc : TypeId × Value → H} {a : Assume} {C : Checked} {os : Os} {f : FuncId} {fn : Func} {s : ChangeSpec} {conds : List PathCond} {X : World → Array Value → Prop}
    (own : ownKnob C.prog.godebug = none) (started : os.Started) (noInit : C.prog.inits.idxOf? f = none) (hfn : C.prog.funcs[f]? = some fn) (hX : ∀ w args, X w args → Glo w)
    (witness : ∃ (w : World) (tape : Tape) (i : Input), w.os = os ∧ (w.forCall tape i).Shaped C.prog ∧ i.vars = [] ∧ Input.okWide C.prog (w.forCall tape i) .any w.heap.size f i ∧
      ((s.pre enc C.prog fn conds false (w.forCall tape i).memory i.args ∧ X (w.forCall tape i).memory i.args) ∧ sizedMet enc C.prog fn (OpenSpec.ofChange s) false (w.forCall tape i).memory i.args) ∧ a.holds C.prog (lone (Frame.enter C.prog f i.args .normal) [] (w.forCall tape i)))
    (walk : ∀ (W : World) (base : Nat) (args : Array Value) (ds gs : List (DataW H)) (before : List MemPlace),
      (∀ (j : Nat) t v, fn.params[j]? = some t → args[j]? = some v → Value.okWide C.prog W .any base t v) →
      DataW.Whole enc C.prog fn.params.toList s.vars false W args.toList ds gs before → Glo W →
      Calls C.prog f args W fun e W' => ∃ v, e = .returned v ∧ s.post enc C.prog fn false true false false W args v W') :
    ReturnsInHanded a C os f .any (fun w args => (s.pre enc C.prog fn conds false w args ∧ X w args) ∧ sizedMet enc C.prog fn (OpenSpec.ofChange s) false w args) (s.post enc C.prog fn false true false false) := by
  refine returnsInHanded_of_calls own started noInit witness ?_
  intro w tape i _ hsh _ hok hpre _
  obtain ⟨_, _, _, fn', hfn', _, _, _, _, hval⟩ := hok
  obtain rfl : fn' = fn := Option.some.inj (hfn'.symm.trans hfn)
  obtain ⟨⟨⟨ds, gs, before, hw, _⟩, hx⟩, _⟩ := hpre
  refine (walk (w.forCall tape i) w.heap.size i.args ds gs before hval (DataW.Whole.of_heap (by rfl) hw) ((hX _ _ hx).of_heap (by rfl))).mono fun e W' ⟨v, he, hp⟩ => ?_
  subst he
  exact ChangeSpec.post_blind hp

/-- The variables that each row lists: the plain ones, and the handle. -/
def plainLaid : List (String × DataW Unit) := [("math/bits.deBruijn32tab", Rows.laid_math_bits_deBruijn32tab), ("math/bits.deBruijn64tab", Rows.laid_math_bits_deBruijn64tab), ("internal/strconv.uint64pow10", Rows.laid_internal_strconv_uint64pow10), ("withy/disk.sizes", Rows.laid_withy_disk_sizes)]
def allLaid : List (String × DataW Unit) := [("math/bits.deBruijn32tab", Rows.laid_math_bits_deBruijn32tab), ("math/bits.deBruijn64tab", Rows.laid_math_bits_deBruijn64tab), ("internal/strconv.uint64pow10", Rows.laid_internal_strconv_uint64pow10), ("errors.errorType", Rows.laid_errors_errorType), ("withy/disk.sizes", Rows.laid_withy_disk_sizes)]
theorem Tryz.et : Tryz.prog.globalNamed "errors.errorType" = some 1 := by kernel_rfl
theorem Tryz.rt : (Tryz.prog.cutTypes.find? (·.1 == "internal/reflectlite.rtype")).map (·.2) = some 178 := by kernel_rfl
theorem Tryz.oneRow : ((List.range Tryz.prog.types.size).filter fun t => Tryz.prog.rowNamed t [101, 114, 114, 111, 114]) = [84] := by kernel_rfl
theorem Tryz.errHandle : typeHandle Tryz.prog 84 = .pointer (some ⟨6, 84, none⟩) := by kernel_rfl
theorem glo_of {W : World} (h : laidMetH Tryz.prog allLaid W) : Glo W := by
  have h' : laidMet Tryz.prog plainLaid W ∧ handlesMet Tryz.prog [("errors.errorType", Rows.laid_errors_errorType)] W := h
  obtain ⟨h1, h2⟩ := h'
  unfold plainLaid at h1
  have h3 := h1.tail.tail
  refine ⟨L7.sizes_of h3.tail, ?_, ?_⟩
  · exact Lib.tabIs_of_head (g := 2) (t := 233) (e := 105) (n := 20) (rest := [("withy/disk.sizes", Rows.laid_withy_disk_sizes)]) (by kernel_rfl) (by kernel_rfl) Tryz.underlying233 Tryz.underlying105 (by kernel_rfl) (by kernel_rfl) h3
  · obtain ⟨name, u, ty, e1, e2, e3, e4, e5⟩ := h2 _ (List.mem_singleton.2 rfl)
    have en : name = [101, 114, 114, 111, 114] := (Option.some.inj e1).symm
    subst en
    obtain rfl := Option.some.inj (Tryz.rt.symm.trans e2)
    have hm : ty ∈ (List.range Tryz.prog.types.size).filter fun t => Tryz.prog.rowNamed t [101, 114, 114, 111, 114] := List.mem_filter.2 ⟨List.mem_range.2 e3, e4⟩
    rw [Tryz.oneRow] at hm
    obtain rfl := List.mem_singleton.1 hm
    rw [Tryz.errHandle] at e5
    unfold ErrT
    simpa using World.var?_cell Tryz.et e5 0
/-- A world that has them: the handle first, then the plain ones. -/
noncomputable def laidW0 (os : Os) : World :=
  let w0 := World.holding Tryz.prog os ⟨#[], #[], []⟩
  { w0 with heap := w0.heap.modify 1 fun
      | .cells _ t frozen => .cells #[.iface 178 (.agg #[.pointer (some ⟨6, 84, none⟩)])] t frozen
      | o => o }
noncomputable def laidW (os : Os) : World := (laidW0 os).layVars Tryz.prog plainLaid
theorem laidW_os (os : Os) : (laidW os).os = os := World.layVars_os _ _ _
theorem laidMet_layAll {P : Program} {w0 : World} {laid : List (String × DataW Unit)} (args : Array Value)
    (hf : w0.layFits P laid [] = true) (hi : w0.layIfaces P laid (w0.layVars P laid) = true) :
    laidMet P laid ((w0.layVars P laid).forCall (fun _ _ => 0) ⟨#[], args, []⟩).memory := by
  have e1 : (laid.filter fun x => (laid.map (·.1)).contains x.1) = laid := List.filter_eq_self.2 fun x hx => List.contains_iff_mem.2 (List.mem_map.2 ⟨x, hx, rfl⟩)
  have e2 : (laid.filter fun x => !(laid.map (·.1)).contains x.1) = [] := List.filter_eq_nil_iff.2 fun x hx => by rw [List.contains_iff_mem.2 (List.mem_map.2 ⟨x, hx, rfl⟩)]; simp
  have h : laidMet P laid (w0.layVars P laid) := laidMet_layVars (w0 := w0) (laid.map (·.1)) [] (by rw [e1]) (by rw [e1]; exact hf) (by rw [e1]; exact hi) (by rw [e2]; exact LaidIn.none)
  exact h.of_heap (by simp [World.memory, World.forCall, Input.heap])
theorem laidW_met (os : Os) (args : Array Value) : laidMetH Tryz.prog allLaid ((laidW os).forCall (fun _ _ => 0) ⟨#[], args, []⟩).memory :=
  laidMetH_of_parts (laidMet_layAll args (by kernel_rfl) (by kernel_rfl)) (by kernel_rfl)

theorem Tryz.cellsLeaf : Tryz.prog.cellsOf 24 = 4 := by kernel_rfl
theorem Tryz.cellsItem : Tryz.prog.cellsOf 59 = 5 := by kernel_rfl
theorem Tryz.cellsVal : Tryz.prog.cellsOf 41 = 4 := by kernel_rfl
theorem Tryz.cellsPage : Tryz.prog.cellsOf 26 = 2 := by kernel_rfl
theorem Tryz.cellsB1 : Tryz.prog.cellsOf 4 = 1 := by kernel_rfl
theorem Tryz.cellsS1 : Tryz.prog.cellsOf 9 = 1 := by kernel_rfl
theorem Tryz.cellsI1 : Tryz.prog.cellsOf 3 = 1 := by kernel_rfl
theorem Tryz.cellsSl : Tryz.prog.cellsOf 22 = 1 := by kernel_rfl
set_option maxRecDepth 100000 in
theorem item_cells {H : Type} {enc : TypeId × Value → H} {w : World} {n : Nat} {cs : List Value} {x : DataW H × List MemPlace}
    (h : DataW.trod enc Tryz.prog w 0 (fun _ => true) true n 59 cs = some x) (hl : cs.length = 5) :
    ∃ c : It, cs = five c ∧ c.k.size ≤ maxLen ∧ c.s.size ≤ maxLen := by
  match cs, hl with
  | [v0, v1, v2, v3, v4], _ =>
    obtain ⟨y0, y1, n, _, _, h0, h1⟩ := trod_struct2 Tryz.underlying59 h
    simp only [Tryz.cellsS1, Tryz.cellsVal] at h0 h1
    obtain ⟨z0, z1, z2, z3, m, _, _, g0, g1, g2, g3⟩ := Go.Joins.trod_struct4 Tryz.underlying41 h1
    simp only [Tryz.cellsB1, Tryz.cellsS1, Tryz.cellsI1] at g0 g1 g2 g3
    obtain ⟨K, e0, _, k0⟩ := DataW.trod_string Tryz.underlying9 h0
    obtain ⟨O, e1, _⟩ := DataW.trod_bool Tryz.underlying4 g0
    obtain ⟨S, e2, _, k2⟩ := DataW.trod_string Tryz.underlying9 g1
    obtain ⟨L, e3, _, _⟩ := DataW.trod_int Tryz.underlying3 g2
    obtain ⟨P, e4, _, _⟩ := DataW.trod_int Tryz.underlying3 g3
    simp at e0 e1 e2 e3 e4
    subst e0 e1 e2 e3 e4
    exact ⟨⟨K, O, S, L, P⟩, rfl, k0, k2⟩
theorem open_items {H : Type} {enc : TypeId × Value → H} {w : World} {v : Value} {fuel : Nat} {x : DataW H × List MemPlace}
    (hf : DataW.trod enc Tryz.prog w 0 (fun _ => true) true fuel 22 [v] = some x) :
    ∃ (a : Option Addr) (l : List It) (cap : Nat), v = .slice a l.length cap ∧ Lies5 w w.heap.size a l ∧ (∀ c ∈ l, c.k.size ≤ maxLen ∧ c.s.size ≤ maxLen) ∧ l.length ≤ maxLen := by
  rcases Go.Deep.open_slice Tryz.underlying22 hf with ⟨hcs, _⟩ | ⟨x, len, c, m, n, D, Pl, hcs, _, hl, hm, hmm, hxx, hall⟩
  · simp at hcs
    subst hcs
    exact ⟨none, [], 0, rfl, Lies5.nil _ _ _, fun c h => by simp at h, by simp⟩
  · simp at hcs
    subst hcs
    have hlm : len ≤ m := by rw [hmm]; simpa using hl
    have each : ∀ i, i < len → ∃ c : It, w.cells? 0 (x.add (i * 5)) 5 = some (five c) ∧ c.k.size ≤ maxLen ∧ c.s.size ≤ maxLen := by
      intro i hi
      obtain ⟨cs', h1, h2⟩ := hall i (by omega)
      rw [Tryz.cellsItem] at h1
      obtain ⟨_, hlen, _⟩ := World.cells?_some h1
      obtain ⟨c, rfl, hc⟩ := item_cells h2 hlen
      exact ⟨c, h1, hc⟩
    have : Inhabited It := ⟨⟨⟨#[]⟩, false, ⟨#[]⟩, 0, 0⟩⟩
    obtain ⟨f, hf⟩ := Go.Deep.choose_lt each
    refine ⟨some x, (List.range len).map f, c, by simp, fun i c hc => ?_, fun c hc => ?_, by simpa using Nat.le_trans hl hm⟩
    · have hi : i < len := by have := (List.getElem?_eq_some_iff.1 hc).1; simpa using this
      have e : c = f i := by simp [hi] at hc; exact hc.symm
      subst e
      obtain ⟨_, _, hcell⟩ := World.cells?_some (hf i hi).1
      have hat : ∀ j v, (five (f i))[j]? = some v → w.cell? ((x.add (i * 5)).add j) = some v := fun j v hv => by
        rw [hcell j (by have := (List.getElem?_eq_some_iff.1 hv).1; simpa [five] using this)]
        exact hv
      obtain ⟨o, ho, _⟩ := cells_of_cell (hat 0 _ rfl)
      rw [L5.addr_block, L5.addr_block] at ho
      exact ⟨x, rfl, (Array.getElem?_eq_some_iff.1 ho).1, hat⟩
    · obtain ⟨i, hi, rfl⟩ := List.mem_map.1 hc
      exact (hf i (List.mem_range.1 hi)).2
set_option maxRecDepth 100000 in
theorem open_leaf {H : Type} {enc : TypeId × Value → H} {w : World} {r : Reach} {b0 : Nat} {v : Value} {d : DataW H} {p : List MemPlace}
    (hv0 : Value.okWide Tryz.prog w r b0 24 v) (h : DataW.Trod enc Tryz.prog w 0 (fun _ => true) true 24 v d p) :
    ∃ (F R : Int) (H : ByteArray) (A : Option Addr) (l : List It) (cap : Nat), v = lv F R H A l.length cap ∧ H.size ≤ maxLen ∧ Lies5 w w.heap.size A l ∧ (∀ c ∈ l, c.k.size ≤ maxLen ∧ c.s.size ≤ maxLen) ∧ l.length ≤ maxLen := by
  obtain ⟨cs, rfl, hsz⟩ := okWide_struct Tryz.underlying24 hv0
  rw [Tryz.cellsLeaf] at hsz
  obtain ⟨v0, v1, v2, v3, rfl⟩ := Go.Joins.array4 hsz
  obtain ⟨fuel, hf⟩ := h
  obtain ⟨y0, y1, y2, y3, n, _, _, h0, h1, h2, h3⟩ := Go.Joins.trod_struct4 Tryz.underlying24 hf
  simp only [Tryz.cellsI1, Tryz.cellsS1, Tryz.cellsSl] at h0 h1 h2 h3
  obtain ⟨F, e0, _, _⟩ := DataW.trod_int Tryz.underlying3 h0
  obtain ⟨R, e1, _, _⟩ := DataW.trod_int Tryz.underlying3 h1
  obtain ⟨HH, e2, _, k2⟩ := DataW.trod_string Tryz.underlying9 h2
  simp [Value.cells] at e0 e1 e2 h3
  obtain ⟨a, l, cap, e3, g1, g2, g3⟩ := open_items h3
  subst e0 e1 e2 e3
  exact ⟨F, R, HH, a, l, cap, rfl, k2, g1, g2, g3⟩
set_option maxRecDepth 100000 in
theorem open_page {H : Type} {enc : TypeId × Value → H} {w : World} {r : Reach} {b0 : Nat} {v : Value} {d : DataW H} {p : List MemPlace}
    (hv0 : Value.okWide Tryz.prog w r b0 26 v) (h : DataW.Trod enc Tryz.prog w 0 (fun _ => true) true 26 v d p) :
    ∃ (s k : ByteArray), v = .agg #[.string s, .string k] ∧ s.size ≤ maxLen ∧ k.size ≤ maxLen := by
  obtain ⟨v0, v1, y0, y1, n, rfl, _, _, h0, h1⟩ := Go.Joins.open_agg2 Tryz.underlying26 (by kernel_rfl) Tryz.cellsPage hv0 h
  obtain ⟨S, e0, _, k0⟩ := DataW.trod_string Tryz.underlying9 h0
  obtain ⟨K, e1, _, k1⟩ := DataW.trod_string Tryz.underlying9 h1
  simp at e0 e1
  subst e0 e1
  exact ⟨S, K, rfl, k0, k1⟩
end Go.Proofs.YtpehkikdmckldaaGreatDoor

namespace Go.Proofs.YtpehkikdmckldaaGreatDoor.L5
open Go.RowKit
set_option linter.unusedVariables false
set_option linter.unusedSimpArgs false
theorem al_self (x : List UInt8) (l : List (List UInt8)) : EP.al x (x :: l) = EP.al x l := by simp [EP.al, EP.com_self]

set_option maxHeartbeats 1000000 in
theorem rspan_none (A : Option Addr) (ca : Nat) (w : World) :
    Calls Tryz.prog 27 #[.slice A 0 ca] w fun e w' => e = .returned (.int .i64 0) ∧ Below w.heap.size w w' := by
  go_enter Tryz.func27, Tryz.ntmps27
  go_wp2_with fail
  go_loopw [3] (fun nv wr => nv = .int .i64 0 ∧ Below w.heap.size w wr) (fun nv _ => 0)
  case atStart => exact ⟨rfl, Below.refl _ _⟩
  case round =>
    obtain ⟨rfl, hbw⟩ := hrel
    go_wp2_with fail
    go_ret
    exact ⟨rfl, hbw⟩

set_option maxHeartbeats 1000000 in
set_option maxRecDepth 100000 in
theorem rspan_some (a : Addr) (s0 : ByteArray) (l : List ByteArray) (ca : Nat) (w : World) (ha : Lies w w.heap.size (some a) l) (h0 : l[0]? = some s0) (hl : l.length ≤ 1000) (hs : ∀ s ∈ l, s.size ≤ 1000) :
    Calls Tryz.prog 27 #[.slice (some a) l.length ca] w fun e w' => e = .returned (.int .i64 (sp l)) ∧ Below w.heap.size w w' := by
  have HA := Lib.hid ha
  have HS := Lib.hid hs
  have H0 := Lib.hid h0
  have hs0 := hs s0 (List.mem_of_getElem? h0)
  obtain ⟨p, hp⟩ : ∃ p, p = sp l := ⟨_, rfl⟩
  have HP := Lib.hid hp
  have HAL : Hid (∀ m, m ≤ p ↔ m ≤ EP.al (B s0) (Bs l)) := Lib.hid (fun m => by
    cases l with
    | nil => simp at h0
    | cons s r =>
      have e : s = s0 := by simpa using h0
      subst e
      rw [hp, show EP.al (B s) (Bs (s :: r)) = EP.al (B s) (Bs r) from al_self _ _]
      exact Iff.rfl)
  have HLE : Hid (p ≤ s0.size) := Lib.hid (by rw [hp]; exact sp_le l s0 (List.mem_of_getElem? h0))
  obtain ⟨n, hn⟩ : ∃ n, n = l.length := ⟨_, rfl⟩
  have hn0 : 0 < n := by have := (List.getElem?_eq_some_iff.1 h0).1; omega
  have HN := Lib.hid hn
  rw [← hn, ← hp]
  rw [← hn] at hl
  have hn0' : (0 : Int) < n := by omega
  clear ha hs hp h0 hn
  go_enter Tryz.func27, Tryz.ntmps27
  go_wp2_with fail
  go_loopw [3] (fun nv wr => ∃ k : Nat, nv = .int .i64 k ∧ k ≤ s0.size ∧ Hid (k ≤ p) ∧ Below w.heap.size w wr) (fun nv _ => s0.size - (intOf nv).toNat)
  case atStart => exact ⟨0, rfl, by omega, Lib.hid (by omega), Below.refl _ _⟩
  case round =>
    obtain ⟨k, rfl, hks, HK, hbw⟩ := hrel
    have hk0 : (0 : Int) ≤ k := by omega
    obtain ⟨_, e, hab, x0⟩ := (HA.out.below hbw) 0 s0 H0.out
    obtain rfl := Option.some.inj e
    rw [addr_zero] at x0
    clear hab
    by_cases hlt : k < s0.size
    · have d1 : decide ((k : Int) < s0.size) = true := by simp; omega
      go_wp2_with fail
      clear x0
      go_loopw [4] (fun iv wq => ∃ i : Nat, iv = .int .i64 i ∧ i ≤ n ∧ Hid (k + 1 ≤ EP.al (B s0) (Bs (l.take i))) ∧ Below w.heap.size w wq) (fun iv _ => n - (intOf iv).toNat)
      case atStart => exact ⟨0, rfl, by omega, Lib.hid (by simp [EP.al, Bs, b_size]; omega), hbw⟩
      case round =>
        obtain ⟨i, rfl, hi, HI, hbq⟩ := hrel
        have hi0 : (0 : Int) ≤ i := by omega
        by_cases hin : i < n
        · obtain ⟨t, hc⟩ : ∃ c, l[i]? = some c := ⟨_, List.getElem?_eq_getElem (by have := HN.out; omega)⟩
          obtain ⟨_, e, hab, x0⟩ := (HA.out.below hbq) i t hc
          obtain rfl := Option.some.inj e
          obtain ⟨_, e, hab', y0⟩ := (HA.out.below hbq) 0 s0 H0.out
          obtain rfl := Option.some.inj e
          rw [addr_zero] at y0
          have htz := HS.out t (List.mem_of_getElem? hc)
          have HC := Lib.hid hc
          have HPC : Hid (p ≤ EP.com (B s0) (B t)) := Lib.hid (by
            have h1 := (HAL.out p).1 (Nat.le_refl _)
            exact Nat.le_trans h1 (EP.al_com _ _ _ (bs_mem (List.mem_of_getElem? hc))))
          have HKC : Hid (k ≤ EP.com (B s0) (B t)) := Lib.hid (by have := HK.out; have := HPC.out; omega)
          clear hc hab hab'
          have hin' : (i : Int) < n := by omega
          by_cases hkt : k < t.size
          · have d2 : decide ((t.size : Int) ≤ k) = false := by simp; omega
            have HE : Hid (k < EP.com (B s0) (B t) ↔ t[k] = s0[k]) := Lib.hid (by
              rw [EP.com_next _ _ _ HKC.out, b_get s0 k hlt, b_get t k hkt]
              simp [eq_comm])
            by_cases he : t[k] = s0[k]
            · have d3 : ((t[k].toNat : Int) != (s0[k].toNat : Int)) = false := by rw [he]; simp
              have HI' : Hid (k + 1 ≤ EP.al (B s0) (Bs (l.take (i + 1)))) := Lib.hid (by
                rw [bs_snoc l i t HC.out, EP.al_snoc]
                have := HI.out
                have := HE.out.2 he
                omega)
              clear he HE HI
              go_wp2_with fail
              go_quiet (fail)
              go_wp2_with fail
              go_roundw
              case rel => exact ⟨i + 1, by simp, by omega, HI', below_drewN hbq _⟩
              case measure => simp [intOf]; omega
            · have d3 : ((t[k].toNat : Int) != (s0[k].toNat : Int)) = true := by
                rw [bne_iff_ne]
                intro e
                exact he (UInt8.toNat_inj.1 (by omega))
              have HV : Hid (k = p) := Lib.hid (Nat.le_antisymm HK.out (Nat.le_trans HPC.out (Nat.not_lt.1 fun h => he (HE.out.1 h))))
              clear he HE HI
              go_wp2_with fail
              go_quiet (fail)
              go_wp2_with fail
              go_ret
              exact ⟨congrArg (fun z : Nat => Ending.returned (Value.int IntKind.i64 (z : Int))) HV.out, below_drewN hbq _⟩
          · have d2 : decide ((t.size : Int) ≤ k) = true := by simp; omega
            have HV : Hid (k = p) := Lib.hid (by
              have h1 := EP.com_right (B s0) (B t)
              rw [b_size] at h1
              have := HK.out
              have := HPC.out
              omega)
            clear HI
            go_wp2_with fail
            go_quiet (fail)
            go_wp2_with fail
            go_ret
            exact ⟨congrArg (fun z : Nat => Ending.returned (Value.int IntKind.i64 (z : Int))) HV.out, below_drewN hbq _⟩
        · obtain rfl : i = n := by omega
          have HK' : Hid (k + 1 ≤ p) := Lib.hid (by
            have h1 := HI.out
            rw [List.take_of_length_le (by have := HN.out; omega)] at h1
            exact (HAL.out _).2 h1)
          clear HI
          go_wp2_with fail
          go_roundw
          case rel => exact ⟨k + 1, by simp, by omega, HK', hbq⟩
          case measure => simp [intOf]; omega
    · have d1 : decide ((k : Int) < s0.size) = false := by simp; omega
      have HV : Hid (k = p) := Lib.hid (by have := HK.out; have := HLE.out; omega)
      go_wp2_with fail
      go_ret
      exact ⟨congrArg (fun z : Nat => Ending.returned (Value.int IntKind.i64 (z : Int))) HV.out, hbw⟩

theorem rspan_any (A : Option Addr) (l : List ByteArray) (ca : Nat) (w : World) (ha : Lies w w.heap.size A l) (hl : l.length ≤ 1000) (hs : ∀ s ∈ l, s.size ≤ 1000) :
    Calls Tryz.prog 27 #[.slice A l.length ca] w fun e w' => e = .returned (.int .i64 (sp l)) ∧ Below w.heap.size w w' := by
  cases l with
  | nil => exact rspan_none A ca w
  | cons s l =>
    obtain ⟨a, rfl, _, _⟩ := ha 0 s rfl
    exact rspan_some a s (s :: l) ca w ha rfl hl hs

set_option maxHeartbeats 1000000 in
set_option maxRecDepth 100000 in
theorem rstrip_any (A : Option Addr) (l : List ByteArray) (ca : Nat) (w : World) (ha : Lies w w.heap.size A l) (hl : l.length ≤ 1000) (hs : ∀ s ∈ l, s.size ≤ 1000) :
    Calls Tryz.prog 68 #[.slice A l.length ca] w fun e w' => ∃ G cap, e = .returned (.tuple #[.string (headS l), .slice G l.length cap]) ∧ Lies w' w'.heap.size G (bares l) ∧ Below w.heap.size w w' := by
  obtain ⟨i0, hi, hz0, hz1, hz2⟩ := info_parts Tryz.infoStr
  have HA := Lib.hid ha
  have HS := Lib.hid hs
  have HSP := Lib.hid (rspan_any A l ca w ha hl hs)
  have HLE : Hid (∀ s ∈ l, sp l ≤ s.size) := Lib.hid (fun s h => sp_le l s h)
  have HB : Hid (bares l = l.map (bare (sp l))) := Lib.hid rfl
  have HH : Hid (∀ s ∈ l, s.extract 0 (sp l) = headS l) := Lib.hid (fun s h => by
    cases l with
    | nil => simp at h
    | cons t r => exact b_inj (by rw [headS, b_head, b_head]; exact EP.span_take _ _ _ (bs_mem h) (bs_mem (by simp))))
  have HN0 : Hid (l.length = 0 → headS l = ⟨#[]⟩) := Lib.hid (fun h => by
    rw [List.eq_nil_of_length_eq_zero h]
    rfl)
  generalize sp l = p at *
  generalize headS l = hd at *
  obtain ⟨n, hn⟩ : ∃ n, n = l.length := ⟨_, rfl⟩
  have HN := Lib.hid hn
  rw [← hn]
  rw [← hn] at hl HSP HN0
  clear ha hs hn
  go_enter Tryz.func68, Tryz.ntmps68
  go_wp2_with fail
  refine HSP.out.mono ?_
  rintro e w1 ⟨rfl, hb1⟩
  clear HSP
  go_wp2_with fail
  go_loopw [5, 6, 7] (fun ov sv iv wr => ∃ (k g cap : Nat) (X : ByteArray), k ≤ n ∧ iv = .int .i64 k ∧ ov = .slice (some ⟨g, 0, none⟩) k cap ∧ sv = .string X ∧ Hid ((k = 0 → X = ⟨#[]⟩) ∧ (0 < k → X = hd)) ∧ Hid (Owns wr w1.heap.size (.slice (some ⟨g, 0, none⟩) k cap) k ((l.take k).map (bare p))) ∧ Below w1.heap.size w1 wr) (fun _ _ iv _ => n - (intOf iv).toNat)
  case atStart =>
    exact ⟨0, w1.heap.size, 0, ⟨#[]⟩, by omega, rfl, rfl, rfl, Lib.hid ⟨fun _ => rfl, fun h => by omega⟩, Lib.hid (own_empty w1 _), below_alloc _ _⟩
  case round =>
    obtain ⟨k, g, cap, X, hk, rfl, rfl, rfl, HX, HO, hbr⟩ := hrel
    have hbw := hb1.trans' hbr
    by_cases hlt : k < n
    · obtain ⟨s, hc⟩ : ∃ c, l[k]? = some c := ⟨_, List.getElem?_eq_getElem (by have := HN.out; omega)⟩
      obtain ⟨a, rfl, hab, x0⟩ := (HA.out.below hbw) k s hc
      have hsz := HS.out s (List.mem_of_getElem? hc)
      have hps := HLE.out s (List.mem_of_getElem? hc)
      have HE := Lib.hid (HH.out s (List.mem_of_getElem? hc))
      have HC : Hid ((l.take (k + 1)).map (bare p) = (l.take k).map (bare p) ++ [s.extract p s.size]) := Lib.hid (by
        have : l.take (k + 1) = l.take k ++ [s] := by rw [List.take_add_one, hc]; rfl
        rw [this]
        simp [bare])
      have hbs := hbr.size
      have hbs1 := hb1.size
      have HKB : Hid (∀ W, Below w1.heap.size wr W → W.cell? (a.add k) = some (.string s)) := Lib.hid (fun W hW => (hW.cell (by rw [addr_block]; omega)).trans x0)
      clear hc hab
      go_wp2_with (at_builtin; refine wpList_append_lies _ rfl _ _ 66 rfl w1.heap.size 9 i0 (.string ⟨#[]⟩) 1 16 Tryz.underlying66 hi hz0 hz1 hz2 rfl (by decide) (.slice (some ⟨g, 0, none⟩) k cap) k _ rfl (HO.out.alloc _) ⟨wr.heap.size, 0, none⟩ 1 1 [.string (s.extract p s.size)] rfl rfl (World.news_of_block (cs := #[.string (s.extract p s.size)]) (t := 9) (fr := (0, 0)) (heap_alloc_new wr _)) (str_one _) (by omega) (by unfold maxLen; omega) (by omega) (by simp; omega) (wr.heap.size + 1) (by simp) ?_; intro g' cap' w2 hown' hgrow hat hlt1; have hb3 : Below w1.heap.size wr w2 := ((Below.refl _ wr).alloc hbs (.cells #[.string (s.extract p s.size)] 9)).trans (own_apart (HO.out.alloc _) hgrow (Nat.le_refl _) (by simp; omega)); have x1 := HKB.out w2 hb3; clear hat hlt1 hgrow x0)
      have hb4 := hbr.trans hb3
      go_roundw
      case rel => exact ⟨k + 1, g', cap', _, by omega, by simp, rfl, rfl, Lib.hid ⟨fun h => by omega, fun _ => HE.out⟩, Lib.hid (by rw [HC.out, Owns, strCells_snoc]; exact hown'), hb4⟩
      case measure => simp [intOf]; omega
    · obtain rfl : k = n := by omega
      have HL : Hid (Lies wr wr.heap.size (some ⟨g, 0, none⟩) (bares l)) := Lib.hid (by
        have h := HO.out
        rw [List.take_of_length_le (by have := HN.out; omega), ← HB.out] at h
        exact lies_own h (by rw [bares_length]; exact HN.out))
      have HXV : Hid (X = hd) := Lib.hid (by
        rcases Nat.eq_zero_or_pos k with h | h
        · rw [HX.out.1 h, HN0.out h]
        · exact HX.out.2 h)
      go_wp2_with fail
      go_ret2
      exact ⟨some ⟨g, 0, none⟩, cap, by rw [HXV.out]; rfl, HL.out, hbw⟩
end Go.Proofs.YtpehkikdmckldaaGreatDoor.L5

namespace Go.Proofs.YtpehkikdmckldaaGreatDoor
open Go.RowKit NP
set_option linter.unusedVariables false
set_option linter.unusedSimpArgs false

theorem ks_snoc {l : List It} {k : Nat} {x : It} (hc : l[k]? = some x) : ks (l.take (k + 1)) = ks (l.take k) ++ [x.k] := by
  rw [take_snoc hc]
  simp [ks]
set_option maxHeartbeats 4000000 in
set_option maxRecDepth 100000 in
theorem rkeys_any (F R : Int) (H : ByteArray) (A : Option Addr) (l : List It) (ca : Nat) (w : World) (ha : Lies5 w w.heap.size A l) (hl : l.length ≤ 1000) :
    Calls Tryz.prog 28 #[lv F R H A l.length ca] w fun e w' => ∃ G cap, e = .returned (.slice G l.length cap) ∧ L5.Lies w' w'.heap.size G (ks l) ∧ Below w.heap.size w w' := by
  obtain ⟨i0, hi, hz0, hz1, hz2⟩ := info_parts L5.Tryz.infoStr
  have hb0 := lbox_below 34 F R H A l.length ca w
  have HB0 := Lib.hid hb0
  have HA := Lib.hid (ha.on hb0)
  have HK := Lib.hid (lbox_new 34 F R H A l.length ca w)
  obtain ⟨n, hn⟩ : ∃ n, n = l.length := ⟨_, rfl⟩
  have HN := Lib.hid hn
  rw [← hn]
  rw [← hn] at hl HK HB0 HA
  clear ha hn hb0
  have HZ := Lib.hid (lbox_size 34 F R H A n ca w)
  simp only [lbox] at HK HB0 HA HZ
  go_enter Tryz.func28, Tryz.ntmps28
  go_wp2_with fail
  generalize w.alloc (.cells #[.int .i64 F, .int .i64 R, .string H, .slice A n ca] 34) = w1 at *
  have hlt1 := HK.out.lt
  have hsz1 : w1.heap.size = w.heap.size + 1 := HZ.out
  rw [← hsz1]
  clear hsz1
  go_loopw [3, 4] (fun ov iv wr => ∃ (k g cap : Nat), k ≤ n ∧ iv = .int .i64 k ∧ ov = .slice (some ⟨g, 0, none⟩) k cap ∧ Hid (L5.Owns wr w1.heap.size (.slice (some ⟨g, 0, none⟩) k cap) k (ks (l.take k))) ∧ Below w1.heap.size w1 wr) (fun _ iv _ => n - (intOf iv).toNat)
  case atStart =>
    exact ⟨0, w1.heap.size, 0, by omega, rfl, rfl, Lib.hid (L5.own_empty w1 _), L5.below_alloc _ _⟩
  case round =>
    obtain ⟨k, g, cap, hk, rfl, rfl, HO, hbr⟩ := hrel
    obtain ⟨p0, p1, p2, p3⟩ := (HK.out.below hbr).cells
    by_cases hlt : k < n
    · obtain ⟨⟨KK, O, S, L, P⟩, hc⟩ : ∃ c, l[k]? = some c := ⟨_, List.getElem?_eq_getElem (by have := HN.out; omega)⟩
      obtain ⟨a, rfl, hab, x0, x1, x2, x3, x4⟩ := (HA.out.below hbr).load hc
      have HC : Hid (ks (l.take (k + 1)) = ks (l.take k) ++ [KK]) := Lib.hid (ks_snoc hc)
      have hbs := hbr.size
      clear hc hab x1 x2 x3 x4
      go_wp2_with (at_builtin; refine wpList_append_lies _ rfl _ _ 66 rfl w1.heap.size 9 i0 (.string ⟨#[]⟩) 1 16 Tryz.underlying66 hi hz0 hz1 hz2 rfl (by decide) (.slice (some ⟨g, 0, none⟩) k cap) k _ rfl (HO.out.alloc _) ⟨wr.heap.size, 0, none⟩ 1 1 [.string KK] rfl rfl (World.news_of_block (cs := #[.string KK]) (t := 9) (fr := (0, 0)) (heap_alloc_new wr _)) (L5.str_one _) (by omega) (by unfold maxLen; omega) (by omega) (by simp; omega) (wr.heap.size + 1) (by simp) ?_; intro g' cap' w2 hown' hgrow hat hlt1; have hb3 : Below w1.heap.size wr w2 := ((Below.refl _ wr).alloc hbs (.cells #[.string KK] 9)).trans (L5.own_apart (HO.out.alloc _) hgrow (Nat.le_refl _) (by simp; omega)); clear hat hlt1 hgrow)
      have hb4 := hbr.trans hb3

      go_roundw
      case rel => exact ⟨k + 1, g', cap', by omega, by simp, rfl, Lib.hid (by rw [HC.out, L5.Owns, L5.strCells_snoc]; exact hown'), hb4⟩
      case measure => simp [intOf]; omega
    · obtain rfl : k = n := by omega
      have HL : Hid (L5.Lies wr wr.heap.size (some ⟨g, 0, none⟩) (ks l)) := Lib.hid (by
        have h := HO.out
        rw [List.take_of_length_le (by have := HN.out; omega)] at h
        exact L5.lies_own h (by rw [ks_length]; exact HN.out))
      have hlt' : ¬ (k : Int) < k := by omega
      go_wp2_with fail
      go_ret
      exact ⟨some ⟨g, 0, none⟩, ⟨cap, rfl⟩, HL.out, HB0.out.trans' hbr⟩
end Go.Proofs.YtpehkikdmckldaaGreatDoor

namespace Go.Proofs.YtpehkikdmckldaaGreatDoor.L7
open Go.RowKit
set_option linter.unusedVariables false

set_option maxHeartbeats 400000 in
theorem refNumber_any (s : ByteArray) (w : World) (h4 : s.size ≤ 4) :
    Calls Tryz.prog 54 #[.string s] w fun e w' => e = .returned (.int .i64 (Lib.leNat s.data.toList : Nat)) ∧ w = w' := by
  go_enter Tryz.func54, Tryz.ntmps54
  go_wp2_with fail
  go_loop [3, 4] (fun n i => ∃ q : Int, -1 ≤ q ∧ q + 1 ≤ s.size ∧ i = .int .i64 q ∧ n = .int .i64 (Lib.leNat (s.data.toList.drop (q + 1).toNat) : Nat)) (fun _ i => (intOf i + 1).toNat)
  case atStart => exact ⟨(s.size : Int) - 1, by omega, by omega, rfl, by rw [show ((s.size : Int) - 1 + 1).toNat = s.size by omega, List.drop_of_length_le (by simp)]; rfl⟩
  case round =>
    obtain ⟨q, hq0, hq3, rfl, rfl⟩ := hrel
    by_cases hlt : 0 ≤ q
    · obtain ⟨j, rfl⟩ := Int.eq_ofNat_of_zero_le hlt
      rw [show ((j : Int) + 1).toNat = j + 1 by omega]
      have hb := WP.leNat_lt (s.data.toList.drop (j + 1))
      have hbp : 256 ^ (s.data.toList.drop (j + 1)).length ≤ 256 ^ 3 := Nat.pow_le_pow_right (by omega) (by simp; omega)
      have HE : Hid (Lib.leNat (s.data.toList.drop j) = (s[j]'(by omega)).toNat + 256 * Lib.leNat (s.data.toList.drop (j + 1))) :=
        Lib.hid (by rw [WP.drop_cons s j (by omega)]; simp only [Lib.leNat])
      have hv : Lib.leNat (s.data.toList.drop (j + 1)) < 16777216 := by omega
      have hby := (s[j]'(by omega)).toNat_lt
      clear hb hbp
      generalize Lib.leNat (s.data.toList.drop (j + 1)) = v at *
      go_wp2_with fail
      go_round
      case rel =>
        refine ⟨(j : Int) - 1, by omega, by omega, rfl, ?_⟩
        rw [show ((j : Int) - 1 + 1).toNat = j by omega, HE.out]
        go_num
      case measure => simp [intOf]
    · obtain rfl : q = -1 := by omega
      go_wp2_with fail
      go_ret
      exact ⟨rfl, rfl⟩
end Go.Proofs.YtpehkikdmckldaaGreatDoor.L7
