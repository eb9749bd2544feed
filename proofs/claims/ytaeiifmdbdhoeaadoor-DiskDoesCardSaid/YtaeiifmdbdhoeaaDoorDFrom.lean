/-
  The document's disk: the walk of its From.
-/
import Derived.Test.YtaeiifmdbdhoeaaDoorDCalls2
import Derived.Deep.RegionLaw
import Derived.Deep.AppendLies
namespace Go.Proofs.YtaeiifmdbdhoeaaDoor
open Go.RowKit
open DP (W D)
open Go.ChangeShapes
set_option linter.unusedVariables false
set_option linter.unusedSimpArgs false

/-- May it be? -/
def sizeB (p : Int) : Bool := decide (p = 128 ∨ p = 256 ∨ p = 512 ∨ p = 1024)
/-- A disk of so many pages of bytes. -/
def upTo (p room : Nat) (s : ByteArray) (k : Nat) : D := ⟨p, room, DP.cuts p s k, [], none, 0⟩
theorem upTo_ok (p room : Nat) (s : ByteArray) (k : Nat) (hk : k ≤ room) (h : ∀ i, i < k → i * p ≤ s.size) : (upTo p room s k).Ok := by
  refine ⟨fun t ht => ?_, ?_, fun w hw => by simp [upTo] at hw, fun w hw => by simp [upTo] at hw⟩
  · obtain ⟨i, hi, rfl⟩ := List.mem_map.1 ht
    exact DP.cut_size p s i (h i (List.mem_range.1 hi))
  · show (DP.cuts p s k).length ≤ room
    rw [DP.cuts_length]; exact hk

set_option maxHeartbeats 1000000 in
set_option maxRecDepth 100000 in
theorem fromRef_ok (p room : Nat) (s : ByteArray) (w : World) (hp : sizeB p = true) (hr0 : 1 ≤ room) (hr : room ≤ 4096) (hs : s.size ≤ room * p) :
    Calls Tryd.prog 10 #[.int .i64 p, .int .i64 room, .string s] w fun e w' => ∃ F b, e = .returned (.tuple #[.pointer (some ⟨b, 0, none⟩), .int .i64 0]) ∧ Has w' w.heap.size F b (DP.made p room s) ∧ Below w.heap.size w w' := by
  obtain ⟨i0, hi0, hz0, hz1, hz2⟩ := info_parts Tryd.infoStr
  have hps : p = 128 ∨ p = 256 ∨ p = 512 ∨ p = 1024 := by
    have := of_decide_eq_true hp
    omega
  have hp0 : 0 < p := by omega
  have hp1 : p ≤ 1024 := by omega
  have hsz : s.size ≤ 4194304 := Nat.le_trans hs (Nat.mul_le_mul hr hp1)
  have hmul : IntKind.i64.wrap ((room : Int) * (p : Int)) = (room : Int) * p := IntWalk.i64_in _ (by
    have h1 : room * p ≤ 4194304 := Nat.mul_le_mul hr hp1
    have h2 : ((room * p : Nat) : Int) ≤ 4194304 := Int.ofNat_le.2 h1
    rw [Int.natCast_mul] at h2
    have h3 : (0 : Int) ≤ (room : Int) * p := Int.mul_nonneg (by omega) (by omega)
    omega)
  have hmul2 : wrap64 ((room : Int) * (p : Int)) = (room : Int) * p := by rw [← IntWalk.i64_left]; exact hmul
  have hle : decide ((room : Int) * (p : Int) < (s.size : Int)) = false := by
    rw [decide_eq_false_iff_not, ← Int.natCast_mul]
    omega
  have HSZ := Lib.hid (fun W => sizeRef_any p W)
  rw [show decide ((p : Int) = 128 ∨ (p : Int) = 256 ∨ (p : Int) = 512 ∨ (p : Int) = 1024) = true from hp] at HSZ
  have hr1 : decide ((room : Int) < 1) = false := by rw [decide_eq_false_iff_not]; omega
  have hr2 : decide ((4096 : Int) < room) = false := by rw [decide_eq_false_iff_not]; omega
  have HMANY := Lib.hid (fun k => DP.many_lt p s.size k hp0)
  have HS := Lib.hid hs
  have HPS := Lib.hid hps
  go_enter Tryd.func10, Tryd.ntmps10
  go_wp2_with fail
  refine (HSZ.out _).mono ?_
  rintro e w1 ⟨rfl, rfl⟩
  clear hs hps hp
  go_wp2_with fail
  have H6 : Hid (Six (w.alloc (.cells #[.int .i64 p, .int .i64 room, .int .i64 0, .slice none 0 0, .slice none 0 0, .int .i64 (-1)] 42)) w.heap.size p room 0 (.slice none 0 0) (.slice none 0 0) (-1)) := Lib.hid (heap_alloc_new w _)
  have hb0 := below_alloc w (.cells #[.int .i64 p, .int .i64 room, .int .i64 0, .slice none 0 0, .slice none 0 0, .int .i64 (-1)] 42)
  have HAS0 : Hid (Has (w.alloc (.cells #[.int .i64 p, .int .i64 room, .int .i64 0, .slice none 0 0, .slice none 0 0, .int .i64 (-1)] 42)) w.heap.size (fun k => k = w.heap.size) w.heap.size (upTo p room s 0)) := Lib.hid
    ⟨⟨none, none, 0, 0, H6.out, World.ownsRow_nil _ _ _ _, World.ownsRow_nil _ _ _ _, fun g hg => by simp [Value.ownBlock] at hg, fun g hg => by simp [Value.ownBlock] at hg⟩, rfl, fun k hk => by omega, fun k hk => by simp; omega, upTo_ok p room s 0 (by omega) (fun i hi => by omega), hp1, hr, fun n hn => by cases hn⟩
  generalize w.alloc (.cells #[.int .i64 p, .int .i64 room, .int .i64 0, .slice none 0 0, .slice none 0 0, .int .i64 (-1)] 42) = w0 at *
  clear H6 hmul hmul2 hle HSZ hr1 hr2
  go_loopw [9] (fun av wr => ∃ k at_ : Nat, av = .int .i64 at_ ∧ at_ = k * p ∧ at_ < s.size + p ∧ k ≤ room ∧ Hid (∀ i, i < k → i * p < s.size) ∧ Hid (∃ F', Has wr w.heap.size F' w.heap.size (upTo p room s k)) ∧ Below w.heap.size w wr) (fun av _ => s.size - (intOf av).toNat)
  case atStart => exact ⟨0, 0, rfl, by omega, by omega, by omega, Lib.hid (fun i hi => by omega), Lib.hid ⟨_, HAS0.out⟩, hb0⟩
  case round =>
    obtain ⟨k, at_, rfl, hat, hlt, hkr, HI, HH, hbr⟩ := hrel
    have HAT := Lib.hid hat
    clear hat
    by_cases hls : at_ < s.size
    · obtain ⟨en, hen, hen1, hen2, hen3⟩ : ∃ en : Nat, min ((at_ : Int) + p) s.size = en ∧ at_ ≤ en ∧ en ≤ s.size ∧ en ≤ at_ + p := ⟨min (at_ + p) s.size, by omega, by omega, by omega, by omega⟩
      obtain ⟨zn, hzn⟩ : ∃ zn, zn = p - (en - at_) := ⟨_, rfl⟩
      obtain ⟨F', hhas⟩ := HH.out
      obtain ⟨K, P, kc, pc, h6, hK, hP, fK, fP⟩ := hhas.parts
      obtain ⟨c0, c1, c2, c3, c4, c5⟩ := h6.cells
      have f3 := h6.free 3
      have hlen : (upTo p room s k).kept.length = k := DP.cuts_length p s k
      rw [hlen] at c3 h6 hK
      have hkr' : k < room := by
        refine Nat.lt_of_not_le fun hle => ?_
        have h1 := HAT.out
        have h2 : room * p ≤ k * p := Nat.mul_le_mul_right p hle
        have := HS.out
        omega
      have HHAS := Lib.hid hhas
      have HH6 := Lib.hid h6
      have HHK := Lib.hid hK
      have HHP := Lib.hid hP
      have HFP := Lib.hid fP
      have HREP := Lib.hid (fun W => zero_any zn W (by omega))
      have z3 : IntKind.i64.wrap ((p : Int) - ((en - at_ : Nat) : Int)) = zn := by rw [IntWalk.i64_in _ (by omega)]; omega
      have z4 : wrap64 ((p : Int) - ((en - at_ : Nat) : Int)) = zn := by rw [← IntWalk.i64_left]; exact z3
      have d1 : decide ((at_ : Int) < s.size) = true := by simp; omega
      have a0 : (0 : Int) ≤ (at_ : Int) := by omega
      have a1 : (at_ : Int) ≤ en := by omega
      have a2 : (en : Int) ≤ s.size := by omega
      clear hhas h6 hK hP fK fP hlen HH
      go_wp2_with fail
      have HNB : Hid (∀ g, (Value.slice K k kc).ownBlock = some g → g ≠ w.heap.size) := Lib.hid (HH6.out.ne_own HHK.out (by decide))
      have HNP : Hid ((Value.slice P (upTo p room s k).q.length pc).ownBlock = none ∨ (Value.slice P (upTo p room s k).q.length pc).ownBlock ≠ (Value.slice K k kc).ownBlock) := Lib.hid (by
        cases hg : (Value.slice P (upTo p room s k).q.length pc).ownBlock with
        | none => exact .inl rfl
        | some g => exact .inr (fun e => own_ne_own HHP.out HHK.out (by decide) g hg e.symm))
      have HCUT : Hid (DP.cuts p s (k + 1) = DP.cuts p s k ++ [s.extract at_ en ++ DP.zero zn]) := Lib.hid (by
        have e1 : min (k * p + p) s.size = en := by have := HAT.out; omega
        rw [DP.cuts_succ, DP.cut, e1, ← HAT.out, hzn])
      generalize hnew : s.extract at_ en ++ DP.zero zn = new at *
      have s5 : ¬ (9223372036854775807 : Int) < ((s.extract at_ en).size : Int) + (DP.zero zn).size := by rw [DP.zero_size]; simp; omega
      have s6 : ¬ 9223372036854775807 < (s.extract at_ en).size + (DP.zero zn).size := by rw [DP.zero_size]; simp; omega
      have s7 : ¬ 9223372036854775807 < en - at_ + (DP.zero zn).size := by rw [DP.zero_size]; omega
      have hsw := hbr.size
      have HZN := Lib.hid hzn
      clear hzn
      go_region_law (first
        | (go_simp; go_at_call 33; refine (HREP.out _).mono ?_; rintro e w2 ⟨rfl, hb2⟩; have E3 := (HH6.out.below (below_of_drew hb2)).cells.2.2.2.1; have F3 := (HH6.out.below (below_of_drew hb2)).free 3; have E3b := ((HH6.out.below (below_of_drew hb2)).below (below_alloc w2 (.cells #[.string new] 9))).cells.2.2.2.1)
        | (refine step_append_lies _ (by rfl) _ _ _ (by rfl) w.heap.size 9 i0 (.string ⟨#[]⟩) 1 16 Tryd.underlying39 hi0 hz0 hz1 hz2 rfl (by decide) (.slice K k kc) k _ (by rfl) ((own_below HHK.out.drew hb2).alloc _) ⟨w2.heap.size, 0, none⟩ 1 1 [.string new] (by rfl) (by rfl) (World.news_of_block (cs := #[.string new]) (t := 9) (fr := (0, 0)) (heap_alloc_new w2 _)) (str_one _) (by omega) (by unfold maxLen; omega) (by omega) (by have := hb2.size; simp at this ⊢; omega) (w2.heap.size + 1) (by simp) ?_; intro g' cap' w3 hown3 hgrow3 hat3 hlt3; have SIX3 : Hid (Six w3 w.heap.size p room 0 (.slice K k kc) (.slice P (upTo p room s k).q.length pc) (-1)) := Lib.hid (((HH6.out.below (below_of_drew hb2)).below (below_alloc w2 _)).stays (hgrow3.block w.heap.size (by have := hb2.size; simp at this ⊢; omega) (fun e => HNB.out _ e.symm rfl))); have E4 := SIX3.out.cells.2.2.2.1; have F4 := SIX3.out.free 3))
      all_goals
        have HAS4 : Hid (Has (w3.setCell ⟨w.heap.size, 3, none⟩ (.slice (some ⟨g', 0, none⟩) (k + 1 : Nat) cap')) w.heap.size (fun j => F' j ∨ j = g') w.heap.size (upTo p room s (k + 1))) := Lib.hid (by
          have hl4 : (upTo p room s (k + 1)).kept.length = k + 1 := DP.cuts_length p s (k + 1)
          have hq4 : (upTo p room s (k + 1)).q.length = (upTo p room s k).q.length := rfl
          have hown4 : w3.ownsRow w.heap.size 9 1 (.slice (some ⟨g', 0, none⟩) (k + 1) cap') (k + 1) (strCells (upTo p room s (k + 1)).kept) := by
            show w3.ownsRow w.heap.size 9 1 (.slice (some ⟨g', 0, none⟩) (k + 1) cap') (k + 1) (strCells (DP.cuts p s (k + 1)))
            rw [HCUT.out, strCells_snoc]
            exact hown3
          have hP3 := ((own_below HHP.out.drew hb2).alloc (.cells #[.string new] 9)).kept hgrow3 HNP.out
          refine ⟨⟨some ⟨g', 0, none⟩, P, cap', pc, ?_, ?_, ?_, fun g hg => .inr ?_, fun g hg => .inl (HFP.out g hg)⟩, .inl HHAS.out.mine, fun j hj => ?_, fun j hj => ?_, upTo_ok p room s (k + 1) (by omega) (fun i hi => ?_), hp1, hr, fun n hn => by cases hn⟩
          · rw [hl4, hq4]; exact SIX3.out.set3 _
          · rw [hl4]; exact own_set hown4 (SIX3.out.ne_own hown4 (by decide))
          · exact own_set hP3 (SIX3.out.ne_own hP3 (by decide))
          · have e : g' = g := by simpa [Value.ownBlock] using hg
            exact e.symm
          · rcases hj with hj | hj
            · exact HHAS.out.low j hj
            · subst hj; exact (hown3.lt j rfl).1
          · rcases hj with hj | hj
            · have h1 := HHAS.out.high j hj
              have h2 := (below_of_drew hb2).size
              have h3 := hgrow3.size
              simp at h3 ⊢
              omega
            · subst hj; have := (hown3.lt j rfl).2; simpa using this
          · have h1 := HI.out i
            have h2 := HAT.out
            rcases Nat.lt_or_ge i k with h3 | h3
            · have := h1 h3; omega
            · have e : i = k := by omega
              subst e; omega)
        have HB4 : Hid (Below w.heap.size w (w3.setCell ⟨w.heap.size, 3, none⟩ (.slice (some ⟨g', 0, none⟩) (k + 1 : Nat) cap'))) := Lib.hid (by
          have h1 := (hbr.trans' (below_of_drew hb2)).trans' (below_alloc w2 (.cells #[.string new] 9))
          have h2 := own_apart ((own_below HHK.out.drew hb2).alloc (.cells #[.string new] 9)) hgrow3 (Nat.le_refl _) h1.size
          exact (h1.trans h2).setCell (p := ⟨w.heap.size, 3, none⟩) (Nat.le_refl _) _)
        have HI' : Hid (∀ i, i < k + 1 → i * p < s.size) := Lib.hid (fun i hi => by
          rcases Nat.lt_or_ge i k with h3 | h3
          · exact HI.out i h3
          · have e : i = k := by omega
            subst e; have := HAT.out; omega)
        have hAP : IntKind.i64.wrap ((at_ : Int) + (p : Int)) = ((at_ + p : Nat) : Int) := by
          have h1 : ((at_ : Int) + (p : Int)) = ((at_ + p : Nat) : Int) := by simp
          rw [h1]
          exact IntWalk.i64_in _ (by omega)
        have HRG : Hid (at_ + p = (k + 1) * p) := Lib.hid (by rw [HAT.out]; exact (Nat.succ_mul k p).symm)
        clear E3 F3 E3b E4 F4 SIX3 hown3 hgrow3 hat3 hlt3 hb2
        generalize w3.setCell ⟨w.heap.size, 3, none⟩ (.slice (some ⟨g', 0, none⟩) (k + 1 : Nat) cap') = w4 at *
        go_wp2_with fail
        go_roundw
        case rel => exact ⟨k + 1, at_ + p, by first | rfl | simp, HRG.out, by omega, by omega, HI', Lib.hid ⟨_, HAS4.out⟩, HB4.out⟩
        case measure => simp [intOf]; omega
    · have d1 : decide ((at_ : Int) < s.size) = false := by simp; omega
      have HM : Hid (k = DP.many p s.size) := Lib.hid (by
        have h1 := HMANY.out k
        have h2 := HAT.out
        rcases Nat.lt_trichotomy k (DP.many p s.size) with h | h | h
        · have := h1.1 h; omega
        · exact h
        · have h3 := HI.out _ h
          have h4 := (HMANY.out (DP.many p s.size)).2 h3
          omega)
      obtain ⟨F', hhas⟩ := HH.out
      have HHAS := Lib.hid hhas
      have HBR := Lib.hid hbr
      clear hhas HH hbr
      go_wp2_with fail
      go_ret2
      refine ⟨F', w.heap.size, rfl, ?_, HBR.out⟩
      have h9 := HHAS.out
      rw [HM.out] at h9
      exact h9
end Go.Proofs.YtaeiifmdbdhoeaaDoor
