/-
  Walk of sep.Strip.
-/
import Derived.Test.YtkeobalbfngniaaECut
import Derived.WalkSpells
import Derived.WalkLawsBesides
namespace Go.Proofs.Ytkeobalbfngniaa
open Go.RowKit
set_option linter.unusedVariables false
set_option linter.unusedSimpArgs false

/-- How many bytes all have in common. -/
def sp (l : List ByteArray) : Nat := EP.span (Bs l)
/-- A text without its first bytes. -/
def bare (p : Nat) (s : ByteArray) : ByteArray := s.extract p s.size
/-- The bytes that all have in common. -/
def headS : List ByteArray → ByteArray
  | [] => ⟨#[]⟩
  | s :: l => s.extract 0 (sp (s :: l))
def bares (l : List ByteArray) : List ByteArray := l.map (bare (sp l))
theorem bares_length (l : List ByteArray) : (bares l).length = l.length := by simp [bares]
theorem b_bare (p : Nat) (s : ByteArray) : B (bare p s) = (B s).drop p := by
  rw [bare, b_extract]
  refine List.take_of_length_le ?_
  rw [List.length_drop, b_size]
  exact Nat.le_refl _
theorem b_head (p : Nat) (s : ByteArray) : B (s.extract 0 p) = (B s).take p := by rw [b_extract]; rfl
theorem sp_le (l : List ByteArray) (s : ByteArray) (h : s ∈ l) : sp l ≤ s.size := by
  have := EP.span_le (Bs l) (B s) (bs_mem h)
  rwa [b_size] at this

theorem span_any (A : Option Addr) (l : List ByteArray) (ca : Nat) (w : World) (ha : Lies w w.heap.size A l) (hl : l.length ≤ 1000) (hs : ∀ s ∈ l, s.size ≤ 1000) (hc : l.length ≤ ca) :
    Calls Try.prog 16 #[.slice A l.length ca] w fun e w' => e = .returned (.int .i64 (sp l)) ∧ Below w.heap.size w w' := by
  cases l with
  | nil => exact span_none A ca w
  | cons s l =>
    obtain ⟨a, rfl, _, _⟩ := ha 0 s rfl
    exact span_some a s l ca w ha (by simp at hl; omega) (fun t ht => by have := hs t ht; omega) (by simpa using hc)

/-- The cells of texts, the first of which are bare. -/
def bareTo (l : List ByteArray) (p k : Nat) : List Value := strCells ((l.take k).map (bare p)) ++ List.replicate (l.length - k) (.string ⟨#[]⟩)
theorem bareTo_zero (l : List ByteArray) (p : Nat) : bareTo l p 0 = List.replicate l.length (.string ⟨#[]⟩) := by simp [bareTo, strCells]
theorem bareTo_full (l : List ByteArray) (p : Nat) : bareTo l p l.length = strCells (l.map (bare p)) := by simp [bareTo]
theorem bareTo_set (l : List ByteArray) (p k : Nat) (s : ByteArray) (h : l[k]? = some s) : (bareTo l p k).set k (.string (bare p s)) = bareTo l p (k + 1) := by
  have hk : k < l.length := (List.getElem?_eq_some_iff.1 h).1
  have h1 : l.take (k + 1) = l.take k ++ [s] := by rw [List.take_add_one, h]; rfl
  have hlen : (strCells ((l.take k).map (bare p))).length = k := by simp [strCells]; omega
  rw [bareTo, List.set_append_right _ _ (by omega), hlen, Nat.sub_self, bareTo, h1, show l.length - k = (l.length - (k + 1)) + 1 by omega, List.replicate_succ, List.set_cons_zero]
  simp [strCells]
theorem bareTo_at (l : List ByteArray) (p k : Nat) (h : k < l.length) : (bareTo l p k)[k]? = some (.string ⟨#[]⟩) := by
  have hlen : (strCells ((l.take k).map (bare p))).length = k := by simp [strCells]; omega
  rw [bareTo, List.getElem?_append_right (by omega), hlen, Nat.sub_self, List.getElem?_replicate, if_pos (by omega)]
theorem made_blank (m : Nat) : (madeCells (Value.string ⟨#[]⟩).cells (m * 1)).toList = List.replicate m (.string ⟨#[]⟩) := by
  apply List.ext_getElem
  · simp [madeCells]
  · intro i h1 h2
    simp [madeCells, Value.cells, Nat.mod_one]

set_option maxHeartbeats 1000000 in
set_option maxRecDepth 100000 in
theorem strip_some (a : Addr) (s0 : ByteArray) (l : List ByteArray) (ca p : Nat) (w : World) (ha : Lies w w.heap.size (some a) l) (h0 : l[0]? = some s0) (hl : l.length ≤ 1000) (hs : ∀ s ∈ l, s.size ≤ 1000) (hc : l.length ≤ ca) (hp : sp l = p) :
    Calls Try.prog 12 #[.slice (some a) l.length ca] w fun e w' => ∃ G, e = .returned (.tuple #[.string (s0.extract 0 p), .slice G l.length l.length]) ∧ Lies w' w'.heap.size G (l.map (bare p)) ∧ Below w.heap.size w w' := by
  obtain ⟨i0, hi, hz0, hz1, hz2⟩ := info_parts Try.infoStr
  have HA := Lib.hid ha
  have HS := Lib.hid hs
  have HP : Hid (∀ s ∈ l, p ≤ s.size) := Lib.hid (fun s h => by rw [← hp]; exact sp_le l s h)
  have HSP := Lib.hid (span_any (some a) l ca w ha hl hs hc)
  rw [hp] at HSP
  have H0 := Lib.hid h0
  have hs0 := hs s0 (List.mem_of_getElem? h0)
  have hp0 := HP.out s0 (List.mem_of_getElem? h0)
  obtain ⟨n, hn⟩ : ∃ n, n = l.length := ⟨_, rfl⟩
  have hn0 : 0 < n := by have := (List.getElem?_eq_some_iff.1 h0).1; omega
  have HN := Lib.hid hn
  rw [← hn] at HSP hl hc
  rw [← hn]
  clear ha hs hp h0 hn
  go_enter Try.func12, Try.ntmps12
  go_wp2_with fail
  refine HSP.out.mono ?_
  rintro e w1 ⟨rfl, hb1⟩
  clear HSP
  go_wp2_with (at_make; refine wpList_make_full _ rfl _ _ 22 rfl w1.heap.size 9 i0 (.string ⟨#[]⟩) 1 Try.underlying22 hi hz0 hz1 _ _ _ _ n rfl rfl rfl rfl (by rw [hz2]; omega) (by unfold maxLen; omega) (Nat.le_refl _) ?_; intro w2 hown2 hg2)
  have hb2 : Below w1.heap.size w1 w2 := (Below.refl _ w1).grown hg2 (Nat.le_refl _) (by simp)
  rw [made_blank] at hown2
  have HO2 : Hid (w2.ownsRow w1.heap.size 9 1 (.slice (some ⟨w1.heap.size, 0, none⟩) n n) n (bareTo l p 0)) := Lib.hid (by rw [bareTo_zero, ← HN.out]; exact hown2)
  clear hown2 hg2
  go_loopw [18] (fun iv wr => ∃ k : Nat, k ≤ n ∧ iv = .int .i64 k ∧ Hid (wr.ownsRow w1.heap.size 9 1 (.slice (some ⟨w1.heap.size, 0, none⟩) n n) n (bareTo l p k)) ∧ Below w1.heap.size w1 wr) (fun iv _ => n - (intOf iv).toNat)
  case atStart => exact ⟨0, Nat.zero_le _, rfl, HO2, hb2⟩
  case round =>
    obtain ⟨k, hk, rfl, HO, hbr⟩ := hrel
    have hbw := hb1.trans' hbr
    by_cases hlt : k < n
    · obtain ⟨s, hc⟩ : ∃ c, l[k]? = some c := ⟨_, List.getElem?_eq_getElem (by have := HN.out; omega)⟩
      obtain ⟨_, e, hab, x0⟩ := (HA.out.below hbw) k s hc
      obtain rfl := Option.some.inj e
      have hsz := HS.out s (List.mem_of_getElem? hc)
      have hps := HP.out s (List.mem_of_getElem? hc)
      have HC := Lib.hid hc
      clear hc hab
      have HCL := Lib.hid (clone_any (s.extract p s.size))
      have hes : (s.extract p s.size).size ≤ 1000000 := by simp; omega
      go_wp2_with fail
      refine (HCL.out _ hes).mono ?_
      rintro e w3 ⟨rfl, hb3⟩
      have HO3 := Lib.hid (own_below HO.out hb3)
      have hb13 := hbr.trans' hb3
      have hcell : w3.cell? ⟨w1.heap.size, k, none⟩ = some (.string ⟨#[]⟩) := by
        rw [HO3.out.cellAt k (by omega), bareTo_at l p k (by have := HN.out; omega)]
      have hfr := HO3.out.frozenAt k
      clear x0 hb3 hbr hbw
      go_wp2_with fail
      go_roundw
      case rel =>
        refine ⟨k + 1, by omega, by simp, Lib.hid ?_, hb13.setCell (Nat.le_refl _) _⟩
        have h := (HO3.out.stored k (.string (bare p s))).1
        rwa [bareTo_set l p k s HC.out] at h
      case measure => simp [intOf]; omega
    · obtain rfl : k = n := by omega
      have HL : Hid (Lies wr wr.heap.size (some ⟨w1.heap.size, 0, none⟩) (l.map (bare p))) := Lib.hid (by
        have h := HO.out
        rw [show bareTo l p k = strCells (l.map (bare p)) by rw [HN.out, bareTo_full]] at h
        exact lies_own h (by simp [HN.out]))
      obtain ⟨_, e, hab, x0⟩ := (HA.out.below hbw) 0 s0 H0.out
      obtain rfl := Option.some.inj e
      rw [addr_zero] at x0
      have HCL := Lib.hid (clone_any (s0.extract 0 p))
      have hes : (s0.extract 0 p).size ≤ 1000000 := by simp; omega
      clear hab
      go_wp2_with fail
      refine (HCL.out _ hes).mono ?_
      rintro e w3 ⟨rfl, hb3⟩
      go_wp2_with fail
      go_ret2
      exact ⟨_, rfl, HL.out.on hb3, hbw.trans' hb3⟩

theorem strip_none (A : Option Addr) (ca : Nat) (w : World) :
    Calls Try.prog 12 #[.slice A 0 ca] w fun e w' => e = .returned (.tuple #[.string ⟨#[]⟩, .slice none 0 0]) ∧ Below w.heap.size w w' := by
  go_enter Try.func12, Try.ntmps12
  go_wp2_with fail
  go_ret2
  exact ⟨rfl, Below.refl _ _⟩

theorem strip_any (A : Option Addr) (l : List ByteArray) (ca : Nat) (w : World) (ha : Lies w w.heap.size A l) (hl : l.length ≤ 1000) (hs : ∀ s ∈ l, s.size ≤ 1000) (hc : l.length ≤ ca) :
    Calls Try.prog 12 #[.slice A l.length ca] w fun e w' => ∃ G cap, e = .returned (.tuple #[.string (headS l), .slice G l.length cap]) ∧ l.length ≤ cap ∧ Lies w' w'.heap.size G (bares l) ∧ Below w.heap.size w w' := by
  cases l with
  | nil =>
    refine (strip_none A ca w).mono ?_
    rintro e w' ⟨rfl, hb⟩
    exact ⟨none, 0, rfl, Nat.le_refl _, Lies.nil _ _ _, hb⟩
  | cons s l =>
    obtain ⟨a, rfl, _, _⟩ := ha 0 s rfl
    refine (strip_some a s (s :: l) ca _ w ha rfl hl hs hc rfl).mono ?_
    rintro e w' ⟨G, rfl, hL, hb⟩
    exact ⟨G, _, rfl, Nat.le_refl _, hL, hb⟩
end Go.Proofs.Ytkeobalbfngniaa
