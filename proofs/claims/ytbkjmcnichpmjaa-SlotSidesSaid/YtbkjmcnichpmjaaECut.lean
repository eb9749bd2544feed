/-
  Slices of texts that a call makes; the walks of the laws' Cut, and of the document's Words.
-/
import Derived.Test.YtbkjmcnichpmjaaERow
import Derived.WalkSpells
import Derived.WalkLawsBesides
import Derived.Lib.Walk
import Derived.BigQuiet
import Derived.Deep.RegionHeld3
import Derived.Lib.BufferWrite
import Derived.Laws.MakeOwn
import Derived.Laws.Cover1
import Derived.StillTailTactics
import Derived.Laws.IdiomStrings
namespace Go.Proofs.Ytbkjmcnichpmjaa
open Go.RowKit
set_option linter.unusedVariables false
set_option linter.unusedSimpArgs false

theorem Try.infoStr : (Try.prog.info? 9).map (fun i => (i.zero, i.size, i.bytes)) = some (some (.string ⟨#[]⟩), 1, 16) := by kernel_rfl
/-- A row of texts of the call's own. -/
abbrev Owns (w : World) (base : Nat) (v : Value) (n : Nat) (l : List ByteArray) : Prop := w.ownsRow base 9 1 v n (strCells l)
theorem own_below {base n : Nat} {v : Value} {xs : List Value} {e : TypeId} {w w' : World} (h : w.ownsRow base e 1 v n xs) (k : Below w.heap.size w w') : w'.ownsRow base e 1 v n xs := by
  refine h.kept (row := none) ⟨k.os, k.tape, k.output, k.size, fun i hi _ => k.block i hi⟩ ?_
  cases hv : v.ownBlock with
  | none => exact .inl rfl
  | some x => exact .inr (by simp)
theorem own_empty (w : World) (e : Nat) : (w.alloc (.cells #[] e)).ownsRow w.heap.size e 1 (.slice (some ⟨w.heap.size, 0, none⟩) 0 0) 0 [] :=
  ⟨by simp, .inr ⟨w.heap.size, 0, #[], rfl, Nat.le_refl _, heap_alloc_new w _, by omega, by unfold maxLen; omega, by simp, by simp⟩⟩
theorem own_apart {w w' : World} {base e n q : Nat} {v : Value} {xs : List Value} (h : w.ownsRow base e 1 v n xs) (hg : w.grownBy w' v.ownBlock) (hb : q ≤ base) (hq : q ≤ w.heap.size) : Below q w w' :=
  (Below.refl q w).grown hg hq (fun k hk => by
    rcases h.2 with ⟨rfl, _⟩ | ⟨g, cap, cur, rfl, hg', _⟩
    · simp [Value.ownBlock] at hk
    · simp [Value.ownBlock] at hk; omega)
theorem own_form {w : World} {base e n : Nat} {v : Value} {xs : List Value} (h : w.ownsRow base e 1 v n xs) (hn : 0 < n) : ∃ g cap, v = .slice (some ⟨g, 0, none⟩) n cap ∧ n ≤ cap := by
  rcases h.2 with ⟨_, h0⟩ | ⟨g, cap, cur, rfl, _, _, hc, _⟩
  · omega
  · exact ⟨g, cap, rfl, hc⟩
theorem own_cap {w : World} {base e n cap : Nat} {A : Option Addr} {xs : List Value} (h : w.ownsRow base e 1 (.slice A n cap) n xs) : n ≤ cap := by
  rcases h.2 with ⟨_, h0⟩ | ⟨g, c, cur, e, _, _, hc, _⟩
  · omega
  · simp only [Value.slice.injEq] at e
    omega
theorem str_one (s : ByteArray) : ∀ u ∈ [Value.string s], u.oneCell' = true := by simp [Value.oneCell']

/-- What the laws' Cut answers. -/
def cutS (s : ByteArray) : ByteArray := s.extract 0 (min s.size 60)
def cutL (l : List ByteArray) : List ByteArray := (l.take 30).map cutS
theorem cutS_size (s : ByteArray) : (cutS s).size ≤ 60 := by simp [cutS]; omega
theorem cutL_length (l : List ByteArray) : (cutL l).length = min 30 l.length := by simp [cutL]
theorem cutL_size (l : List ByteArray) : ∀ s ∈ cutL l, s.size ≤ 60 := fun s hs => by
  obtain ⟨t, _, rfl⟩ := List.mem_map.1 hs
  exact cutS_size t
/-- The first texts, cut. -/
def cutTo (l : List ByteArray) (k : Nat) : List ByteArray := (l.take k).map cutS
theorem cutTo_snoc (l : List ByteArray) (k : Nat) (s : ByteArray) (h : l[k]? = some s) : cutTo l (k + 1) = cutTo l k ++ [cutS s] := by
  have : l.take (k + 1) = l.take k ++ [s] := by rw [List.take_add_one, h]; rfl
  rw [cutTo, this]
  simp [cutTo]
theorem cut_min (s : ByteArray) (c : Int) (hc : 0 ≤ c) : ∃ m : Nat, min (s.size : Int) c = m ∧ (m : Int) ≤ c ∧ m ≤ s.size ∧ min m s.size = m ∧ (s.extract 0 m).size = m := by
  refine ⟨min s.size c.toNat, by omega, by omega, by omega, by omega, ?_⟩
  simp

set_option maxHeartbeats 1000000 in
set_option maxRecDepth 100000 in
theorem cut_any (A : Option Addr) (l : List ByteArray) (ca : Nat) (w : World) (ha : Lies w w.heap.size A l) (hl : l.length ≤ maxLen) (hs : ∀ s ∈ l, s.size ≤ maxLen) :
    Calls Try.prog 8 #[.slice A l.length ca] w fun e w' => ∃ g cap, e = .returned (.slice (some ⟨g, 0, none⟩) (cutL l).length cap) ∧ (cutL l).length ≤ cap ∧ Lies w' w'.heap.size (some ⟨g, 0, none⟩) (cutL l) ∧ Below w.heap.size w w' := by
  obtain ⟨i0, hi, hz0, hz1, hz2⟩ := info_parts Try.infoStr
  unfold maxLen at hl hs
  have HA := Lib.hid ha
  have HS := Lib.hid hs
  have HLC := Lib.hid (cutL_length l)
  obtain ⟨n, hn⟩ : ∃ n, n = l.length := ⟨_, rfl⟩
  have HN := Lib.hid hn
  rw [← hn]
  rw [← hn] at hl
  clear ha hn hs
  go_enter Try.func8, Try.ntmps8
  go_wp2_with fail
  go_loopw [3, 4] (fun ov iv wr => ∃ (k g cap : Nat), k ≤ n ∧ k ≤ 30 ∧ iv = .int .i64 k ∧ ov = .slice (some ⟨g, 0, none⟩) k cap ∧ Hid (Owns wr w.heap.size (.slice (some ⟨g, 0, none⟩) k cap) k (cutTo l k)) ∧ k ≤ cap ∧ Below w.heap.size w wr) (fun _ iv _ => 30 - (intOf iv).toNat)
  case atStart =>
    exact ⟨0, w.heap.size, 0, by omega, by omega, rfl, rfl, Lib.hid (own_empty w _), by omega, below_alloc _ _⟩
  case round =>
    obtain ⟨k, g, cap, hk, hk30, rfl, rfl, HO, hcap, hbw⟩ := hrel
    by_cases hlt : k < n ∧ k < 30
    · obtain ⟨h1, h2⟩ := hlt
      obtain ⟨s, hc⟩ : ∃ c, l[k]? = some c := ⟨_, List.getElem?_eq_getElem (by have := HN.out; omega)⟩
      obtain ⟨a, rfl, hab, x0⟩ := (HA.out.below hbw) k s hc
      have hsz := HS.out s (List.mem_of_getElem? hc)
      have HC := Lib.hid (cutTo_snoc l k s hc)
      obtain ⟨m, hm, hm6, hms, hmm, HE⟩ : ∃ m : Nat, min (s.size : Int) 60 = m ∧ m ≤ 60 ∧ m ≤ s.size ∧ min m s.size = m ∧ Hid (cutS s = s.extract 0 m) := ⟨min s.size 60, by omega, by omega, by omega, by omega, Lib.hid rfl⟩
      rw [HE.out] at HC
      have d1 : decide ((k : Int) < n) = true := by simp; omega
      have d2 : decide ((k : Int) < 30) = true := by simp; omega
      have hbs := hbw.size
      have y0 : wr.drew.cell? (a.add k) = some (.string s) := x0
      have HKB : Hid (∀ W, Below w.heap.size (wr.drew.alloc (.cells #[.string (s.extract 0 m)] 9)) W → W.cell? (a.add k) = some (.string s)) := Lib.hid (fun W hW => by
        have h1 : Below w.heap.size wr.drew W := ((Below.refl _ wr.drew).alloc hbs _).trans hW
        exact (h1.cell (by rw [addr_block]; exact hab)).trans y0)
      have y1 := HKB.out _ (Below.refl _ _)
      clear hc hab
      go_wp2_with fail
      go_region_held3 (fun W => W.cell? (a.add k) = some (.string s)) (first | assumption | exact x0 | exact y0 | exact y1 | exact HKB.out _ (own_apart (HO.out.drew.alloc _) (by assumption) (Nat.le_refl _) (by simp; omega)))
        (first
          | (refine step_append_lies _ (by rfl) _ _ _ (by rfl) w.heap.size 9 i0 (.string ⟨#[]⟩) 1 16 Try.underlying22 hi hz0 hz1 hz2 rfl (by decide) (.slice (some ⟨g, 0, none⟩) k cap) k _ (by rfl) (HO.out.drew.alloc _) ⟨wr.heap.size, 0, none⟩ 1 1 [.string (s.extract 0 m)] (by rfl) (by rfl) (World.news_of_block (cs := #[.string (s.extract 0 m)]) (t := 9) (fr := (0, 0)) (heap_alloc_new wr.drew _)) (str_one _) (by omega) (by unfold maxLen; omega) (by omega) (by simp; omega) (wr.heap.size + 1) (by simp) ?_; intro g' cap' w1 hown' hgrow hat hlt1)
          | fail "no arm")
      clear hat hlt1
      have hcap' := own_cap hown'
      have hb3 : Below w.heap.size w w1 := (hbw.drew.trans' (below_alloc wr.drew (.cells #[.string (s.extract 0 m)] 9))).trans (own_apart (HO.out.drew.alloc _) hgrow (Nat.le_refl _) (by simp; omega))
      go_wp2_with fail
      go_roundw
      case rel => exact ⟨k + 1, g', cap', by omega, by omega, by simp, rfl, Lib.hid (by rw [HC.out, Owns, strCells_snoc]; exact hown'), by omega, hb3⟩
      case measure => simp [intOf]; omega
    · have hkn : Hid (cutTo l k = cutL l) := Lib.hid (by
        have h1 := HN.out
        have h2 : l.take k = l.take 30 := by
          by_cases h3 : k = 30
          · rw [h3]
          · rw [List.take_of_length_le (by omega), List.take_of_length_le (by omega)]
        rw [cutTo, cutL, h2])
      have hlen : Hid (k = (cutL l).length) := Lib.hid (by have h1 := HN.out; rw [HLC.out]; omega)
      have HL : Hid (Lies wr wr.heap.size (some ⟨g, 0, none⟩) (cutL l)) := Lib.hid (by
        have := HO.out
        rw [hkn.out] at this
        exact lies_own this hlen.out)
      by_cases h1 : k < n
      · have d1 : decide ((k : Int) < n) = true := by simp; omega
        have d2 : decide ((k : Int) < 30) = false := by simp; omega
        clear hlt
        go_wp2_with fail
        go_ret
        exact ⟨g, cap, by rw [← hlen.out]; try rfl, by rw [← hlen.out]; exact hcap, HL.out, hbw⟩
      · have d1 : decide ((k : Int) < n) = false := by simp; omega
        clear hlt
        go_wp2_with fail
        go_ret
        exact ⟨g, cap, by rw [← hlen.out]; try rfl, by rw [← hlen.out]; exact hcap, HL.out, hbw⟩

set_option maxHeartbeats 1000000 in
set_option maxRecDepth 100000 in
theorem words_any (A C : Option Addr) (l m : List ByteArray) (ca cb : Nat) (w : World) (ha : Lies w w.heap.size A l) (hb : Lies w w.heap.size C m) (hl : l.length ≤ 1000) (he : l = m) :
    Calls Try.prog 15 #[.slice A l.length ca, .slice C m.length cb] w fun e w' => e = .returned (.bool true) ∧ Below w.heap.size w w' := by
  subst he
  have HA := Lib.hid ha
  have HB := Lib.hid hb
  obtain ⟨n, hn⟩ : ∃ n, n = l.length := ⟨_, rfl⟩
  have HN := Lib.hid hn
  rw [← hn]
  rw [← hn] at hl
  clear ha hb hn
  have dn : ((n : Int) != (n : Int)) = false := by simp
  go_enter Try.func15, Try.ntmps15
  go_wp2_with fail
  go_loopw [5] (fun iv wr => ∃ k : Nat, k ≤ n ∧ iv = .int .i64 k ∧ Below w.heap.size w wr) (fun iv _ => n - (intOf iv).toNat)
  case atStart => exact ⟨0, by omega, rfl, Below.refl _ _⟩
  case round =>
    obtain ⟨k, hk, rfl, hbw⟩ := hrel
    by_cases hlt : k < n
    · obtain ⟨s, hc⟩ : ∃ c, l[k]? = some c := ⟨_, List.getElem?_eq_getElem (by have := HN.out; omega)⟩
      obtain ⟨a, rfl, hab, x0⟩ := (HA.out.below hbw) k s hc
      obtain ⟨b, rfl, hbb, y0⟩ := (HB.out.below hbw) k s hc
      clear hc hab hbb
      have h0 : (0 : Int) ≤ k := by omega
      have hkn : (k : Int) < n := by omega
      go_wp2_with fail
      go_quiet (fail)
      go_wp2_with fail
      go_roundw
      case rel => exact ⟨k + 1, by omega, by simp, below_drewN hbw _⟩
      case measure => simp [intOf]; omega
    · go_wp2_with fail
      go_ret
      exact ⟨rfl, hbw⟩
end Go.Proofs.Ytbkjmcnichpmjaa
