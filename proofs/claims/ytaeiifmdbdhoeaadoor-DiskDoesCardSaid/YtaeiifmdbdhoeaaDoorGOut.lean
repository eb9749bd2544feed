/-
  The walks of the program's outcome, and of slices.Reverse over pointers.
-/
import Derived.Test.YtaeiifmdbdhoeaaDoorGRow
import Derived.Deep.RegionHeldLaw
import Derived.OpenShut
namespace Go.Proofs.YtaeiifmdbdhoeaaDoor
open Go.RowKit
open Go.ChangeShapes
open DP (W D)
set_option linter.unusedVariables false
set_option linter.unusedSimpArgs false

/-- What a write is behind a crash: its text, or none. -/
def out (p : Nat) (c : DP.C) (fresh old : ByteArray) : Option ByteArray := if c.k = 1 then some fresh else if c.k = 2 then some (DP.torn p old fresh c.at_) else none
theorem chosen_out (p : Nat) (l : List ByteArray) (w : W) (c : DP.C) : DP.chosen p l w c = match out p c w.s (DP.page (DP.zero p) l w.i) with | some t => DP.put (DP.zero p) l ⟨w.i, t⟩ | none => l := by
  unfold DP.chosen out
  split
  · rfl
  split <;> rfl
theorem out_whole (p : Nat) (at_ : Int) (fresh old : ByteArray) : out p ⟨1, at_⟩ fresh old = some fresh := rfl
theorem out_torn (p : Nat) (at_ : Int) (fresh old : ByteArray) : out p ⟨2, at_⟩ fresh old = some (DP.torn p old fresh at_) := rfl
theorem out_lost (p : Nat) (K at_ : Int) (fresh old : ByteArray) (h1 : K ≠ 1) (h2 : K ≠ 2) : out p ⟨K, at_⟩ fresh old = none := by unfold out; rw [if_neg h1, if_neg h2]
/-- As the program answers it. -/
def outV (o : Option ByteArray) : Value := .tuple #[.string (o.getD ⟨#[]⟩), .bool o.isSome]
theorem pair_cells {w : World} {b : Nat} {x y : Value} {t : TypeId} (h : w.heap[b]? = some (.cells #[x, y] t (0, 0))) : w.cell? ⟨b, 0, none⟩ = some x ∧ w.cell? ⟨b, 1, none⟩ = some y := by
  refine ⟨?_, ?_⟩ <;> simp [World.cell?, h]

set_option maxHeartbeats 1000000 in
set_option maxRecDepth 100000 in
theorem outcome_any (p : Nat) (K at_ : Int) (fresh old : ByteArray) (w : World) (hf : fresh.size = p) (ho : old.size = p) (hp : p ≤ 1024) (hat : -9223372036854775808 ≤ at_ ∧ at_ ≤ 9223372036854775807) :
    Calls Tryd.prog 45 #[.agg #[.int .i64 K, .int .i64 at_], .string fresh, .string old] w fun e w' => e = .returned (outV (out p ⟨K, at_⟩ fresh old)) ∧ Below w.heap.size w w' := by
  have hbx := heap_alloc_new w (.cells #[.int .i64 K, .int .i64 at_] 54)
  have HB0 := Lib.hid (below_alloc w (.cells #[.int .i64 K, .int .i64 at_] 54))
  obtain ⟨x0, x1⟩ := pair_cells hbx
  clear hbx
  generalize hw0 : w.alloc (.cells #[.int .i64 K, .int .i64 at_] 54) = w0 at *
  by_cases h1 : K = 1
  · subst h1
    rw [out_whole]
    clear hf ho
    go_enter Tryd.func45, Tryd.ntmps45
    go_wp2_with fail
    go_ret2
    exact ⟨rfl, HB0.out⟩
  have q1 : (K == 1) = false := beq_eq_false_iff_ne.2 h1
  by_cases h2 : K = 2
  · subst h2
    rw [out_torn]
    have HT : Hid (DP.torn p old fresh at_ = fresh.extract 0 (DP.clamp p at_) ++ old.extract (DP.clamp p at_) p) := Lib.hid rfl
    obtain ⟨m, hm⟩ : ∃ m, m = at_.toNat := ⟨_, rfl⟩
    obtain ⟨k, hk⟩ : ∃ k, k = DP.clamp p at_ := ⟨_, rfl⟩
    have hkm : k = min m p := by rw [hk, hm]; rfl
    rw [← hk] at HT
    rw [HT.out]
    have hmx : max at_ 0 = (m : Int) := by omega
    have hmn : min (m : Int) (fresh.size : Int) = (k : Int) := by omega
    have hkf : k ≤ fresh.size := by omega
    have hko : k ≤ old.size := by omega
    have hx1 : (fresh.extract 0 k).size = k := by rw [ByteArray.size_extract]; omega
    have hx2 : (old.extract k old.size).size = old.size - k := by rw [ByteArray.size_extract]; omega
    have hfs : fresh.size ≤ 1024 := by omega
    have hos : old.size ≤ 1024 := by omega
    have HO := Lib.hid ho
    have hsum : ¬ (9223372036854775807 : Int) < ((fresh.extract 0 k).size : Int) + ((old.extract k old.size).size : Int) := by rw [hx1, hx2]; omega
    have hsumN : ¬ 9223372036854775807 < (fresh.extract 0 k).size + (old.extract k old.size).size := by rw [hx1, hx2]; omega
    clear hf ho hk hm hkm h1 hx1 hx2 HT
    go_enter Tryd.func45, Tryd.ntmps45
    go_wp2_with fail
    first | go_quiet (fail) | skip
    go_wp2_with fail
    go_ret2
    refine ⟨?_, ?_⟩
    · rw [← HO.out]; rfl
    · first | exact HB0.out | exact below_drewN HB0.out _
  · rw [out_lost p K at_ fresh old h1 h2]
    have q2 : (K == 2) = false := beq_eq_false_iff_ne.2 h2
    clear hf ho h1 h2
    go_enter Tryd.func45, Tryd.ntmps45
    go_wp2_with fail
    go_ret2
    exact ⟨rfl, HB0.out⟩

/-- Pointers, the first k and the last k of them changed for one another. -/
def sw (ps : List (Option Addr)) (k : Nat) : List (Option Addr) := (List.range ps.length).map fun i => if i < k ∨ ps.length - k ≤ i then ps.reverse.getD i none else ps.getD i none
theorem sw_length (ps : List (Option Addr)) (k : Nat) : (sw ps k).length = ps.length := by simp [sw]
theorem sw_get (ps : List (Option Addr)) (k i : Nat) (h : i < ps.length) : (sw ps k)[i]? = some (if i < k ∨ ps.length - k ≤ i then ps.reverse.getD i none else ps.getD i none) := by
  simp [sw, h]
theorem sw_zero (ps : List (Option Addr)) : sw ps 0 = ps := by
  apply List.ext_getElem?
  intro i
  by_cases h : i < ps.length
  · rw [sw_get _ _ _ h, if_neg (by omega), List.getD_eq_getElem?_getD, List.getElem?_eq_getElem h]; rfl
  · rw [List.getElem?_eq_none (by rw [sw_length]; omega), List.getElem?_eq_none (by omega)]
theorem rev_get (ps : List (Option Addr)) (i : Nat) (h : i < ps.length) : ps.reverse.getD i none = ps.getD (ps.length - 1 - i) none := by
  rw [List.getD_eq_getElem?_getD, List.getD_eq_getElem?_getD, List.getElem?_reverse h]
theorem sw_end (ps : List (Option Addr)) (k : Nat) (h : ps.length ≤ 2 * k + 1) : sw ps k = ps.reverse := by
  apply List.ext_getElem?
  intro i
  by_cases hi : i < ps.length
  · rw [sw_get _ _ _ hi]
    have e : ps.reverse[i]? = some (ps.reverse.getD i none) := by
      rw [List.getD_eq_getElem?_getD, List.getElem?_eq_getElem (by simpa using hi)]; rfl
    rw [e]
    split
    · rfl
    · rw [rev_get _ _ hi, show ps.length - 1 - i = i by omega]
  · rw [List.getElem?_eq_none (by rw [sw_length]; omega), List.getElem?_eq_none (by simp; omega)]
theorem sw_step (ps : List (Option Addr)) (k j : Nat) (h : k + j + 1 = ps.length) (hk : k < j) : ((sw ps k).set k (ps.getD j none)).set j (ps.getD k none) = sw ps (k + 1) := by
  apply List.ext_getElem?
  intro i
  by_cases hi : i < ps.length
  · rw [sw_get _ _ _ hi, List.getElem?_set, List.getElem?_set]
    simp only [List.length_set, sw_length]
    by_cases e1 : j = i
    · subst e1
      rw [if_pos rfl, if_pos hi, if_pos (by omega), rev_get _ _ hi, show ps.length - 1 - j = k by omega]
    · rw [if_neg e1]
      by_cases e2 : k = i
      · subst e2
        rw [if_pos rfl, if_pos hi, if_pos (by omega), rev_get _ _ hi, show ps.length - 1 - k = j by omega]
      · rw [if_neg e2, sw_get _ _ _ hi]
        by_cases e3 : i < k ∨ ps.length - k ≤ i
        · rw [if_pos e3, if_pos (by omega)]
        · rw [if_neg e3, if_neg (by omega)]
  · rw [List.getElem?_eq_none (by simp [sw_length]; omega), List.getElem?_eq_none (by rw [sw_length]; omega)]
theorem chg_drew {F : Nat → Prop} {w w' : World} (h : Chg F w w') : Chg F w w'.drew := ⟨h.os, h.tape, h.output, h.size, h.block⟩
def ptrCells (ps : List (Option Addr)) : List Value := ps.map Value.pointer
theorem ptrCells_length (ps : List (Option Addr)) : (ptrCells ps).length = ps.length := by simp [ptrCells]
theorem ptrCells_set (ps : List (Option Addr)) (i : Nat) (p : Option Addr) : ptrCells (ps.set i p) = (ptrCells ps).set i (.pointer p) := by simp [ptrCells, List.map_set]
theorem ptrCells_get {ps : List (Option Addr)} {i : Nat} {p : Option Addr} (h : ps[i]? = some p) : (ptrCells ps)[i]? = some (.pointer p) := by simp [ptrCells, h]

set_option maxHeartbeats 1000000 in
set_option maxRecDepth 100000 in
theorem reverse_any (base g n cap : Nat) (ps : List (Option Addr)) (w : World) (h : w.ownsRow base 68 1 (.slice (some ⟨g, 0, none⟩) n cap) n (ptrCells ps)) (hn : n ≤ 100000) :
    Calls Tryd.prog 53 #[.slice (some ⟨g, 0, none⟩) n cap] w fun e w' => e = .returned (.tuple #[]) ∧ w'.ownsRow base 68 1 (.slice (some ⟨g, 0, none⟩) n cap) n (ptrCells ps.reverse) ∧ Chg (fun j => j = g) w w' := by
  have hlen : ps.length = n := by have := h.1; rw [ptrCells_length] at this; omega
  have HLEN := Lib.hid hlen
  have HO : Hid (w.ownsRow base 68 1 (.slice (some ⟨g, 0, none⟩) n cap) n (ptrCells (sw ps 0))) := Lib.hid (by rw [sw_zero]; exact h)
  have HG : Hid (∀ k i, i < n → (sw ps k)[i]? = some (if i < k ∨ n - k ≤ i then ps.reverse.getD i none else ps.getD i none)) := Lib.hid (fun k i hi => by rw [← hlen]; exact sw_get ps k i (by omega))
  have HE : Hid (∀ k, n ≤ 2 * k + 1 → sw ps k = ps.reverse) := Lib.hid (fun k hk => sw_end ps k (by omega))
  have HS : Hid (∀ k j, k + j + 1 = n → k < j → ((sw ps k).set k (ps.getD j none)).set j (ps.getD k none) = sw ps (k + 1)) := Lib.hid (fun k j h1 h2 => sw_step ps k j (by omega) h2)
  have wn : IntKind.i64.wrap ((n : Int) - 1) = (n : Int) - 1 := IntWalk.i64_in _ (by omega)
  clear h hlen
  go_enter Tryd.func53, Tryd.ntmps53
  go_wp2_with fail
  go_loopw [2, 3] (fun iv jv wr => ∃ (k : Nat) (J : Int), iv = .int .i64 k ∧ jv = .int .i64 J ∧ (k : Int) + J + 1 = n ∧ k ≤ n ∧ Hid (wr.ownsRow base 68 1 (.slice (some ⟨g, 0, none⟩) n cap) n (ptrCells (sw ps k))) ∧ Hid (Chg (fun j => j = g) w wr)) (fun iv jv _ => n - (intOf iv).toNat)
  case atStart => exact ⟨0, (n : Int) - 1, rfl, rfl, by omega, by omega, HO, Lib.hid (Chg.refl _ _)⟩
  case round =>
    obtain ⟨k, J, rfl, rfl, hkj, hkn, HOr, HC⟩ := hrel
    by_cases hlt : (k : Int) < J
    · obtain ⟨j, rfl⟩ := Int.eq_ofNat_of_zero_le (show 0 ≤ J by omega)
      have d1 : decide ((k : Int) < (j : Int)) = true := decide_eq_true hlt
      have d1n : decide (k < j) = true := decide_eq_true (by omega)
      have ck : wr.cell? ⟨g, k, none⟩ = some (.pointer (ps.getD k none)) := (HOr.out.cellAt k (by omega)).trans (ptrCells_get (by rw [HG.out k k (by omega), if_neg (by omega)]))
      have cj : wr.cell? ⟨g, j, none⟩ = some (.pointer (ps.getD j none)) := (HOr.out.cellAt j (by omega)).trans (ptrCells_get (by rw [HG.out k j (by omega), if_neg (by omega)]))
      have fk := HOr.out.frozenAt k
      have fj := HOr.out.frozenAt j
      have b1 : (k : Int) < n := by omega
      have b2 : (j : Int) < n := by omega
      have hne : k ≠ j := by omega
      have hne' : j ≠ k := by omega
      have HO1 := Lib.hid (HOr.out.stored k (.pointer (ps.getD j none))).1
      have HO2 := Lib.hid (HO1.out.stored j (.pointer (ps.getD k none))).1
      go_wp2_with fail
      first | go_region | skip
      all_goals
        go_wp2_with fail
        go_roundw
        case rel => exact ⟨k + 1, (j : Int) - 1, by first | rfl | simp, by first | rfl | simp, by omega, by omega, Lib.hid (by rw [← HS.out k j (by omega) (by omega), ptrCells_set, ptrCells_set]; exact HO2.out), Lib.hid (by first | exact chg_drew (((HC.out).set (b := g) rfl _ _).set (b := g) rfl _ _) | exact ((HC.out).set (b := g) rfl _ _).set (b := g) rfl _ _)⟩
        case measure => simp [intOf]; omega
    · have d1 : decide ((k : Int) < J) = false := decide_eq_false hlt
      have HF : Hid (sw ps k = ps.reverse) := Lib.hid (HE.out k (by omega))
      go_wp2_with fail
      go_end0
      have h9 := HOr.out
      rw [HF.out] at h9
      exact ⟨rfl, h9, HC.out⟩
end Go.Proofs.YtaeiifmdbdhoeaaDoor
