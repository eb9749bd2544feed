/-
  What all layers share.
  Slices of texts, read.
  Walks of sep.alike, sep.Common, sep.Span.
  Walks of strings.Clone, sep.Least.
  Slices of texts that a call makes; the walks of the laws' Cut, and of the document's Words.
-/
import Derived.Test.YtpehkikdmckldaaGreatDoorChecked
import Derived.Below
import Derived.ProofKit
import Derived.WalkKit
import Derived.Test.YtpehkikdmckldaaGreatDoorJ01
import Derived.Lib.Strings
import Derived.Lib.Hide
import Derived.Laws.OwnMore
import Derived.Deep.AppendLies
import Derived.Deep.QuietTactic
import Derived.BigQuiet
import Derived.Deep.RegionHeld3
import Derived.Lib.Walk
import Derived.Lib.BufferWrite
import Derived.Lib.UnsafeStr
import Derived.Laws.MakeOwn
import Derived.Laws.Cover1
import Derived.StillTailTactics
import Derived.Laws.IdiomStrings
namespace Go.Proofs.YtpehkikdmckldaaGreatDoor
open Go.RowKit
theorem _root_.Go.RowKit.Below.trans' {w a b : World} (h : Below w.heap.size w a) (k : Below a.heap.size a b) : Below w.heap.size w b := h.trans (k.mono h.size)
end Go.Proofs.YtpehkikdmckldaaGreatDoor

namespace Go.Proofs.YtpehkikdmckldaaGreatDoor.L5
open Go.RowKit
set_option linter.unusedVariables false

theorem below_alloc (w : World) (o : Obj) : Below w.heap.size w (w.alloc o) := (Below.refl _ w).alloc (Nat.le_refl _) o
theorem below_drewN {c : Nat} {w v : World} (h : Below c w v) (n : Nat) : Below c w (v.drewN n) := ⟨h.os, h.tape, h.output, h.size, h.block⟩
theorem below_of_drew {w v : World} (h : Below w.drew.heap.size w.drew v) : Below w.heap.size w v := ⟨h.os, h.tape, h.output, h.size, h.block⟩
/-- A text's bytes. -/
abbrev B (s : ByteArray) : List UInt8 := s.data.toList
def Bs (l : List ByteArray) : List (List UInt8) := l.map B
theorem b_size (s : ByteArray) : (B s).length = s.size := by simp [B]
theorem b_get (s : ByteArray) (j : Nat) (h : j < s.size) : (B s)[j]? = some s[j] := by
  rw [List.getElem?_eq_getElem (by rw [b_size]; exact h)]
  rfl
theorem b_extract (s : ByteArray) (i j : Nat) : B (s.extract i j) = ((B s).drop i).take (j - i) := Lib.extract_data s i j
theorem b_inj {s t : ByteArray} (h : B s = B t) : s = t := ByteArray.ext (Array.toList_inj.1 h)
theorem bs_length (l : List ByteArray) : (Bs l).length = l.length := by simp [Bs]
theorem bs_mem {l : List ByteArray} {s : ByteArray} (h : s ∈ l) : B s ∈ Bs l := List.mem_map.2 ⟨s, h, rfl⟩
theorem bs_snoc (l : List ByteArray) (k : Nat) (s : ByteArray) (h : l[k]? = some s) : Bs (l.take (k + 1)) = Bs (l.take k) ++ [B s] := by
  have : l.take (k + 1) = l.take k ++ [s] := by rw [List.take_add_one, h]; rfl
  rw [this]
  simp [Bs]

theorem addr_block (a : Addr) (n : Nat) : (a.add n).block = a.block := by unfold Addr.add; split <;> rfl
theorem addr_add (a : Addr) (i j : Nat) : (a.add i).add j = a.add (i + j) := by
  unfold Addr.add
  by_cases hi : i = 0 <;> by_cases hj : j = 0 <;> simp [hi, hj, Nat.add_assoc]

/-- Behind an address below block b stand these texts. -/
def Lies (w : World) (b : Nat) (A : Option Addr) (l : List ByteArray) : Prop :=
  ∀ i s, l[i]? = some s → ∃ a, A = some a ∧ a.block < b ∧ w.cell? (a.add i) = some (.string s)
section
variable {w w' : World} {b b' : Nat} {A : Option Addr} {l : List ByteArray}
theorem Lies.nil (w : World) (b : Nat) (A : Option Addr) : Lies w b A [] := fun i c h => by simp at h
theorem Lies.keep (h : Lies w b A l) (hk : ∀ p : Addr, p.block < b → w'.cell? p = w.cell? p) : Lies w' b A l := fun i c hc => by
  obtain ⟨a, e, hb, hx⟩ := h i c hc
  exact ⟨a, e, hb, (hk _ (by rw [addr_block]; exact hb)).trans hx⟩
theorem Lies.more (h : Lies w b A l) (hB : b ≤ b') : Lies w b' A l := fun i c hc => by
  obtain ⟨a, e, hb, hx⟩ := h i c hc
  exact ⟨a, e, by omega, hx⟩
theorem Lies.below (h : Lies w b A l) (k : Below b w w') : Lies w' b A l := h.keep fun _ hp => k.cell hp
/-- The same slice, in a later world. -/
theorem Lies.on (h : Lies w w.heap.size A l) (k : Below w.heap.size w w') : Lies w' w'.heap.size A l := (h.below k).more k.size
theorem Lies.tail {s : ByteArray} {a : Addr} (h : Lies w b (some a) (s :: l)) : Lies w b (some (a.add 1)) l := fun i c hc => by
  obtain ⟨a', e, hb, hx⟩ := h (i + 1) c (by simpa using hc)
  obtain rfl := Option.some.inj e
  exact ⟨_, rfl, by rw [addr_block]; exact hb, by rw [addr_add, Nat.add_comm]; exact hx⟩
end
/-- The cells of texts. -/
def strCells (l : List ByteArray) : List Value := l.map Value.string
theorem strCells_length (l : List ByteArray) : (strCells l).length = l.length := by simp [strCells]
theorem strCells_snoc (l : List ByteArray) (s : ByteArray) : strCells (l ++ [s]) = strCells l ++ [.string s] := by simp [strCells]
/-- A block that is just these texts. -/
theorem lies_new (w : World) (t : TypeId) (l : List ByteArray) : Lies (w.alloc (.cells (strCells l).toArray t)) (w.alloc (.cells (strCells l).toArray t)).heap.size (some ⟨w.heap.size, 0, none⟩) l := fun i c hc =>
  ⟨_, rfl, by simp, World.news_of_block (heap_alloc_new w _) _ _ (by simp [strCells, hc])⟩
/-- A row that the call owns, read. -/
theorem lies_own {w : World} {base e : Nat} {A : Option Addr} {n cap : Nat} {l : List ByteArray} (h : w.ownsRow base e 1 (.slice A n cap) n (strCells l)) (hn : n = l.length) : Lies w w.heap.size A l := fun i c hc => by
  have hi : i < l.length := (List.getElem?_eq_some_iff.1 hc).1
  obtain ⟨g, cap', hv, _, hlt⟩ := h.form (by omega)
  have hA : A = some ⟨g, 0, none⟩ := by injection hv
  subst hA
  exact ⟨_, rfl, hlt, h.cells (g := g) rfl _ _ (by simp [strCells, hc])⟩
end Go.Proofs.YtpehkikdmckldaaGreatDoor.L5

namespace Go.Proofs.YtpehkikdmckldaaGreatDoor.L5
open Go.RowKit
set_option linter.unusedVariables false
set_option linter.unusedSimpArgs false

set_option maxHeartbeats 1000000 in
set_option maxRecDepth 100000 in
theorem alike_any (x : ByteArray) (A : Option Addr) (l : List ByteArray) (ca : Nat) (w : World) (ha : Lies w w.heap.size A l) (hl : l.length ≤ 1000) (hx : x.size ≤ 1000000) (hs : ∀ s ∈ l, s.size ≤ 1000000) :
    Calls Tryz.prog 117 #[.string x, .slice A l.length ca] w fun e w' => e = .returned (.int .i64 (EP.al (B x) (Bs l))) ∧ Below w.heap.size w w' := by
  have HA := Lib.hid ha
  have HS := Lib.hid hs
  obtain ⟨r, HR⟩ : ∃ r, Hid (r = EP.al (B x) (Bs l)) := ⟨_, Lib.hid rfl⟩
  rw [← HR.out]
  obtain ⟨n, hn⟩ : ∃ n, n = l.length := ⟨_, rfl⟩
  have HN := Lib.hid hn
  rw [← hn]
  rw [← hn] at hl
  clear ha hs hn
  go_enter Tryz.func117, Tryz.ntmps117
  go_wp2_with fail
  go_loopw [5, 13] (fun nv iv wr => ∃ k m : Nat, k ≤ n ∧ iv = .int .i64 k ∧ nv = .int .i64 m ∧ m ≤ x.size ∧ Hid (m = EP.al (B x) (Bs (l.take k))) ∧ Below w.heap.size w wr) (fun _ iv _ => n - (intOf iv).toNat)
  case atStart =>
    exact ⟨0, x.size, by omega, rfl, rfl, Nat.le_refl _, Lib.hid (by simp [EP.al, Bs]), Below.refl _ _⟩
  case round =>
    obtain ⟨k, m, hk, rfl, rfl, hm, HM, hbw⟩ := hrel
    by_cases hlt : k < n
    · obtain ⟨s, hc⟩ : ∃ c, l[k]? = some c := ⟨_, List.getElem?_eq_getElem (by have := HN.out; omega)⟩
      obtain ⟨a, rfl, hab, x0⟩ := (HA.out.below hbw) k s hc
      have HC := Lib.hid hc
      have hsz := HS.out s (List.mem_of_getElem? hc)
      obtain ⟨q, hq, hqm, hqs, HQ⟩ : ∃ q : Nat, min (m : Int) s.size = q ∧ q ≤ m ∧ q ≤ s.size ∧ Hid (q = min m s.size) := ⟨min m s.size, by omega, by omega, by omega, Lib.hid rfl⟩
      clear hc hab
      go_wp2_with fail
      go_loopw [8] (fun av wq => ∃ j : Nat, av = .int .i64 j ∧ j ≤ q ∧ Hid (j ≤ EP.com (B x) (B s)) ∧ Below w.heap.size w wq) (fun av _ => q - (intOf av).toNat)
      case atStart => exact ⟨0, rfl, by omega, Lib.hid (by omega), hbw⟩
      case round =>
        obtain ⟨j, rfl, hj, HJ, hbq⟩ := hrel
        clear hbw x0
        have h0 : ((0 : Int) ≤ j) := by omega
        by_cases hjq : j < q
        · have hjs : j < s.size := by omega
          have hjx : j < x.size := by omega
          have d1 : decide ((j : Int) < q) = true := by simp; omega
          have HN2 : Hid (j < EP.com (B x) (B s) ↔ s[j] = x[j]) := Lib.hid (by
            rw [EP.com_next _ _ _ HJ.out, b_get x j hjx, b_get s j hjs]
            simp [eq_comm])
          by_cases he : s[j] = x[j]
          · have h1 := HN2.out.2 he
            have HJ' : Hid (j + 1 ≤ EP.com (B x) (B s)) := Lib.hid h1
            have d2 : ((s[j].toNat : Int) == (x[j].toNat : Int)) = true := by rw [he]; simp
            clear he h1 HN2 HJ
            go_wp2_with fail
            go_quiet (fail)
            go_wp2_with fail
            go_round
            case rel => exact ⟨j + 1, by simp, by omega, HJ', below_drewN hbq _⟩
            case measure => simp [intOf]; omega
          · have h1 : Hid (EP.com (B x) (B s) = j) := Lib.hid (Nat.le_antisymm (Nat.not_lt.1 fun h => he (HN2.out.1 h)) HJ.out)
            have d2 : ((s[j].toNat : Int) == (x[j].toNat : Int)) = false := by
              rw [beq_eq_false_iff_ne]
              intro e
              exact he (UInt8.toNat_inj.1 (by omega))
            clear he HN2 HJ
            go_wp2_with fail
            go_quiet (fail)
            go_wp2_with fail
            go_round
            case rel => exact ⟨k + 1, j, by omega, by simp, rfl, by omega, Lib.hid (by rw [bs_snoc l k s HC.out, EP.al_snoc, ← HM.out, h1.out]; omega), below_drewN hbq _⟩
            case measure => simp [intOf]; omega
        · have hjq' : j = q := by omega
          subst hjq'
          have d1 : decide ((j : Int) < j) = false := by simp
          have h1 : Hid (min m (EP.com (B x) (B s)) = j) := Lib.hid (by
            have h1 := HQ.out
            have h2 := HJ.out
            have h3 := EP.com_right (B x) (B s)
            rw [b_size] at h3
            omega)
          clear HJ
          go_wp2_with fail
          go_quiet (fail)
          go_wp2_with fail
          go_round
          case rel => exact ⟨k + 1, j, by omega, by simp, rfl, by omega, Lib.hid (by rw [bs_snoc l k s HC.out, EP.al_snoc, ← HM.out, h1.out]), below_drewN hbq _⟩
          case measure => simp [intOf]; omega
    · have hkn : k = n := by omega
      subst hkn
      have HL : Hid (m = r) := Lib.hid (by rw [HM.out, HR.out, List.take_of_length_le (by have := HN.out; omega)])
      go_wp2_with fail
      go_ret
      exact ⟨by rw [HL.out]; rfl, hbw⟩

theorem addr_zero (a : Addr) : a.add 0 = a := by simp [Addr.add]
theorem span_none (A : Option Addr) (ca : Nat) (w : World) :
    Calls Tryz.prog 92 #[.slice A 0 ca] w fun e w' => e = .returned (.int .i64 0) ∧ Below w.heap.size w w' := by
  go_enter Tryz.func92, Tryz.ntmps92
  go_wp2_with fail
  go_ret
  exact ⟨rfl, Below.refl _ _⟩

/-- The slice behind the first text, as the walk spells it. -/
abbrev behind (a : Addr) (ca : Nat) : Option Addr := if ca = 1 then some a else some { block := a.block, off := a.off + 1 }
theorem Lies.behind {w : World} {b ca : Nat} {s : ByteArray} {a : Addr} {l : List ByteArray} (h : Lies w b (some a) (s :: l)) (hc : l.length + 1 ≤ ca) : Lies w b (behind a ca) l := by
  by_cases h1 : ca = 1
  · have h0 : l = [] := List.eq_nil_of_length_eq_zero (by omega)
    subst h0
    exact Lies.nil _ _ _
  · rw [Go.Proofs.YtpehkikdmckldaaGreatDoor.L5.behind, if_neg h1]
    exact h.tail

set_option maxHeartbeats 400000 in
set_option maxRecDepth 100000 in
theorem span_some (a : Addr) (s : ByteArray) (l : List ByteArray) (ca : Nat) (w : World) (ha : Lies w w.heap.size (some a) (s :: l)) (hl : l.length ≤ 1000) (hs : ∀ t ∈ s :: l, t.size ≤ 1000000) (hc : l.length + 1 ≤ ca) :
    Calls Tryz.prog 92 #[.slice (some a) (l.length + 1 : Nat) ca] w fun e w' => e = .returned (.int .i64 (EP.span (Bs (s :: l)))) ∧ Below w.heap.size w w' := by
  have HC := Lib.hid (fun W (h : Lies W W.heap.size (behind a ca) l) => alike_any s (behind a ca) l (ca - 1) W h hl (hs s (by simp)) (fun t ht => hs t (by simp [ht])))
  rw [show EP.span (Bs (s :: l)) = EP.al (B s) (Bs l) from rfl]
  have HT := Lib.hid (ha.behind hc)
  obtain ⟨_, e, hab, x0⟩ := ha 0 s rfl
  obtain rfl := Option.some.inj e
  rw [addr_zero] at x0
  have HK0 : Hid (Below w.heap.size w w.drew) := Lib.hid ⟨rfl, rfl, rfl, Nat.le_refl _, fun _ _ => rfl⟩
  have HKeep : Hid (∀ W W' : World, Below W.heap.size W W' → (W.cell? a = some (.string s) ∧ Hid (Below w.heap.size w W)) → (W'.cell? a = some (.string s) ∧ Hid (Below w.heap.size w W'))) := Lib.hid (fun W W' hb h => by
    have h2 := h.2.out.trans' hb
    exact ⟨(h2.cell hab).trans x0, Lib.hid h2⟩)
  generalize EP.al (B s) (Bs l) = r at *
  clear ha hs hab
  generalize l.length = n at *
  have hn1 : ¬ (ca : Int) < 1 := by omega
  have hn2 : (1 : Int) ≤ n + 1 := by omega
  by_cases h1 : ca = 1
  · subst h1
    obtain rfl : n = 0 := by omega
    have HC : Hid (∀ W : World, Lies W W.heap.size (some a) l → Calls Tryz.prog 117 #[.string s, .slice (some a) 0 0] W fun e w' => e = .returned (.int .i64 (r : Nat)) ∧ Below W.heap.size W w') := HC
    have HT : Hid (Lies w w.heap.size (some a) l) := HT
    go_enter Tryz.func92, Tryz.ntmps92
    go_wp2_with fail
    go_region_held3 (fun W => W.cell? a = some (.string s) ∧ Hid (Below w.heap.size w W)) (first | assumption | exact ⟨x0, HK0⟩ | exact HKeep.out _ _ (by assumption) (by assumption))
      (first
        | (go_at_call 117; refine (HC.out _ (HT.out.on HK0.out)).mono ?_; rintro e w1 ⟨rfl, hb1⟩)
        | fail "no arm")
    go_wp2_with fail
    go_ret
    exact ⟨rfl, below_of_drew hb1⟩
  · rw [show behind a ca = some ⟨a.block, a.off + 1, none⟩ from if_neg h1] at HC HT
    go_enter Tryz.func92, Tryz.ntmps92
    go_wp2_with fail
    go_region_held3 (fun W => W.cell? a = some (.string s) ∧ Hid (Below w.heap.size w W)) (first | assumption | exact ⟨x0, HK0⟩ | exact HKeep.out _ _ (by assumption) (by assumption))
      (first
        | (go_at_call 117; refine (HC.out _ (HT.out.on HK0.out)).mono ?_; rintro e w1 ⟨rfl, hb1⟩)
        | fail "no arm")
    go_wp2_with fail
    go_ret
    exact ⟨rfl, below_of_drew hb1⟩
end Go.Proofs.YtpehkikdmckldaaGreatDoor.L5

namespace Go.Proofs.YtpehkikdmckldaaGreatDoor.L5
open Go.RowKit
set_option linter.unusedVariables false
set_option linter.unusedSimpArgs false

theorem Tryz.infoByte : (Tryz.prog.info? 5).map (fun i => (i.zero, i.size, i.bytes)) = some (some (.int .u8 0), 1, 1) := by kernel_rfl

/-- The cells of a text's bytes. -/
def txt (s : ByteArray) : Array Value := (Lib.byteCells (B s)).toArray
theorem txt_size (s : ByteArray) : (txt s).size = s.size := by simp [txt, Lib.byteCells_length]

set_option maxHeartbeats 2000000 in
set_option maxRecDepth 100000 in
theorem litClone_any (s : ByteArray) (w : World) (hs : s.size ≤ 1000000) :
    Calls Tryz.prog 88 #[.string s] w fun e w' => e = .returned (.string s) ∧ Below w.heap.size w w' := by
  by_cases h0 : s.size = 0
  · obtain rfl : s = ⟨#[]⟩ := ByteArray.ext (Array.eq_empty_of_size_eq_zero h0)
    go_enter Tryz.func88, Tryz.ntmps88
    go_wp2
    go_ret
    exact ⟨rfl, Below.refl _ _⟩
  · obtain ⟨i0, hi, hz0, hz1, hz2⟩ := info_parts Tryz.infoByte
    have hsz : (Tryz.prog.info? 5).map (·.size) = some 1 := by rw [hi]; simp [hz1]
    have hcells : Tryz.prog.cellsOf 5 = 1 := by simp [Program.cellsOf, hi, hz1]
    obtain ⟨Z, hZ⟩ : ∃ Z, Z = madeCells (Value.int .u8 0).cells (((s.size : Nat) : Int).toNat * i0.size) := ⟨_, rfl⟩
    have hZs : Z.size = s.size := by rw [hZ, size_madeCells, hz1]; simp
    -- the bytes are made,
    have mk : ∀ W : World, (Instr.makeSlice 103 (.int .i64 (s.size : Int)) (.int .i64 (s.size : Int))).run Tryz.prog W = .ok (.slice (some ⟨W.heap.size, 0, none⟩) s.size s.size) (W.alloc (.cells Z 5)) := fun W => by
      have h := run_make (P := Tryz.prog) W 103 5 i0 (.int .u8 0) Tryz.underlying103 hi hz0 .i64 .i64 (s.size : Int) (s.size : Int) (by omega) (by omega) (by rw [hz2]; omega) (by omega)
      rw [← hZ] at h
      simpa using h
    clear hZ
    -- become the text's,
    have heap1 := heap_alloc_new w (.cells Z 5)
    have cp := Lib.run_copy_row_string (P := Tryz.prog) (w.alloc (.cells Z 5)) 103 9 3 5 w.heap.size 0 s.size s.size s Z 5 Tryz.underlying103 hsz heap1 (Nat.le_refl _) (by omega)
    rw [show (Z.toList.take 0 ++ Lib.byteCells s.data.toList ++ Z.toList.drop (0 + s.size)).toArray = txt s by
      rw [List.take_zero, List.nil_append, List.drop_of_length_le (by simp; omega), List.append_nil]; rfl] at cp
    have heap2 : ((w.alloc (.cells Z 5)).setRow w.heap.size (txt s)).heap[w.heap.size]? = some (.cells (txt s) 5 (0, 0)) := setRow_heap _ _ Z _ 5 (0, 0) heap1
    have hb2 : Below w.heap.size w ((w.alloc (.cells Z 5)).setRow w.heap.size (txt s)) := (below_alloc w _).trans ⟨rfl, rfl, rfl, by simp, fun k hk => setRow_other _ _ _ _ (by omega)⟩
    have hne : B s ≠ [] := fun e => h0 (by rw [← b_size, e]; rfl)
    generalize (w.alloc (.cells Z 5)).setRow w.heap.size (txt s) = w2 at *
    -- and are the answer.
    have us := Lib.run_unsafeString_row (P := Tryz.prog) w2 190 3 9 5 Tryz.underlying190 hcells w.heap.size (txt s).size (by unfold World.shape?; rw [heap2]) (B s) hne (by rw [b_size, txt_size]; exact Nat.le_refl _) (by rw [b_size]; omega)
      (fun j x hx => Lib.cells_of_row heap2 (txt s).size j _ (by rw [List.take_of_length_le (by rw [Array.length_toList]; exact Nat.le_refl _)]; simp [txt, Lib.byteCells, hx]))
    rw [b_size] at us
    have hfz := Lib.below_freeze hb2 (p := ⟨w.heap.size, 0, none⟩) (Nat.le_refl _) s.size
    go_enter Tryz.func88, Tryz.ntmps88
    go_wp2
    go_ret
    exact ⟨rfl, hfz⟩

theorem clone_any (s : ByteArray) (w : World) (hs : s.size ≤ 1000000) :
    Calls Tryz.prog 44 #[.string s] w fun e w' => e = .returned (.string s) ∧ Below w.heap.size w w' := by
  go_enter Tryz.func44, Tryz.ntmps44
  go_wp2_with fail
  refine (litClone_any s _ hs).mono ?_
  rintro e w1 ⟨rfl, hb1⟩
  go_wp2_with fail
  go_ret
  exact ⟨rfl, hb1⟩

theorem less_of (a b : ByteArray) : Op.bytesLess a.toList b.toList = decide (B a < B b) := by rw [bytesLess_eq, Lib.toList_data, Lib.toList_data]
theorem less_yes {a b : ByteArray} (h : B a < B b) : Op.bytesLess a.toList b.toList = true := by rw [less_of]; exact decide_eq_true h
theorem less_no {a b : ByteArray} (h : ¬ B a < B b) : Op.bytesLess a.toList b.toList = false := by rw [less_of]; exact decide_eq_false h
theorem same_yes {a b : ByteArray} (h : B a = B b) : (a.toList == b.toList) = true := by rw [Lib.toList_data, Lib.toList_data]; exact beq_iff_eq.2 h
theorem same_no {a b : ByteArray} (h : B a ≠ B b) : (a.toList == b.toList) = false := by rw [Lib.toList_data, Lib.toList_data]; exact beq_eq_false_iff_ne.2 h

end Go.Proofs.YtpehkikdmckldaaGreatDoor.L5

namespace Go.Proofs.YtpehkikdmckldaaGreatDoor.L5
open Go.RowKit
set_option linter.unusedVariables false
set_option linter.unusedSimpArgs false

theorem Tryz.infoStr : (Tryz.prog.info? 9).map (fun i => (i.zero, i.size, i.bytes)) = some (some (.string ⟨#[]⟩), 1, 16) := by kernel_rfl
/-- A row of texts of the call's own. -/
abbrev Owns (w : World) (base : Nat) (v : Value) (n : Nat) (l : List ByteArray) : Prop := w.ownsRow base 9 1 v n (strCells l)
theorem own_below {base n : Nat} {v : Value} {xs : List Value} {e : TypeId} {w w' : World} (h : w.ownsRow base e 1 v n xs) (k : Below w.heap.size w w') : w'.ownsRow base e 1 v n xs := by
  refine h.kept (row := none) ⟨k.os, k.tape, k.output, k.size, fun i hi _ => k.block i hi⟩ ?_
  cases hv : v.ownBlock with
  | none => exact .inl rfl
  | some x => exact .inr (by simp)
theorem own_empty (w : World) (e : Nat) : (w.alloc (.cells #[] e)).ownsRow w.heap.size e 1 (.slice (some ⟨w.heap.size, 0, none⟩) 0 0) 0 [] :=
  ⟨by simp, .inr ⟨w.heap.size, 0, #[], rfl, Nat.le_refl _, heap_alloc_new w _, by omega, by unfold maxLen; omega, by simp, by simp⟩⟩
theorem own_apart {w w' : World} {base e n q : Nat} {v : Value} {xs : List Value} (h : w.ownsRow base e 1 v n xs) (hg : w.grownBy w' v.ownBlock) (hb : q ≤ base) (hq : q ≤ w.heap.size) : Below q w w' :=
  (Below.refl q w).grown hg hq (fun k hk => by
    rcases h.2 with ⟨rfl, _⟩ | ⟨g, cap, cur, rfl, hg', _⟩
    · simp [Value.ownBlock] at hk
    · simp [Value.ownBlock] at hk; omega)
theorem own_form {w : World} {base e n : Nat} {v : Value} {xs : List Value} (h : w.ownsRow base e 1 v n xs) (hn : 0 < n) : ∃ g cap, v = .slice (some ⟨g, 0, none⟩) n cap ∧ n ≤ cap := by
  rcases h.2 with ⟨_, h0⟩ | ⟨g, cap, cur, rfl, _, _, hc, _⟩
  · omega
  · exact ⟨g, cap, rfl, hc⟩
theorem own_cap {w : World} {base e n cap : Nat} {A : Option Addr} {xs : List Value} (h : w.ownsRow base e 1 (.slice A n cap) n xs) : n ≤ cap := by
  rcases h.2 with ⟨_, h0⟩ | ⟨g, c, cur, e, _, _, hc, _⟩
  · omega
  · simp only [Value.slice.injEq] at e
    omega
theorem str_one (s : ByteArray) : ∀ u ∈ [Value.string s], u.oneCell' = true := by simp [Value.oneCell']

theorem cut_min (s : ByteArray) (c : Int) (hc : 0 ≤ c) : ∃ m : Nat, min (s.size : Int) c = m ∧ (m : Int) ≤ c ∧ m ≤ s.size ∧ min m s.size = m ∧ (s.extract 0 m).size = m := by
  refine ⟨min s.size c.toNat, by omega, by omega, by omega, by omega, ?_⟩
  simp

end Go.Proofs.YtpehkikdmckldaaGreatDoor.L5
