/-
  Go's put and get of the program's disk, at texts and at lists of texts.
-/
import Derived.Test.YtaeiifmdbdhoeaaDoorGRow
import Derived.Lib.MinMaxS
namespace Go.Proofs.YtaeiifmdbdhoeaaDoor
open Go.RowKit
set_option linter.unusedVariables false
set_option linter.unusedSimpArgs false

theorem Tryd.infoT : (Tryd.prog.info? 9).map (fun i => (i.zero, i.size, i.bytes)) = some (some (.string ⟨#[]⟩), 1, 16) := by kernel_rfl
theorem getT_any (A : Option Addr) (ca : Nat) (vs : List Value) (i : Nat) (w : World) (h : LV w 9 A vs) (hi : i ≤ 100000) (hn : vs.length ≤ 100000) (hq : ∀ v ∈ vs, ∃ s, v = .string s) :
    Calls Tryd.prog 51 #[.slice A vs.length ca, .int .i64 i] w fun e w' => e = .returned (vs.getD i (.string ⟨#[]⟩)) ∧ w = w' := by
  by_cases hl : i < vs.length
  · obtain ⟨v, hv⟩ : ∃ v, vs[i]? = some v := ⟨_, List.getElem?_eq_getElem hl⟩
    obtain ⟨a, rfl, hb, hc⟩ := h i v hv
    have e : vs.getD i (.string ⟨#[]⟩) = v := by rw [List.getD_eq_getElem?_getD, hv]; rfl
    rw [e]
    have h0 : (0 : Int) ≤ i := by omega
    have h1 : (i : Int) < vs.length := by omega
    have HV := Lib.hid e
    generalize vs.length = n at *
    obtain ⟨s, rfl⟩ := hq v (List.mem_of_getElem? hv)
    clear h e hv
    go_enter Tryd.func51, Tryd.ntmps51
    go_wp2_with fail
    go_ret
    exact ⟨rfl, rfl⟩
  · have e : vs.getD i (.string ⟨#[]⟩) = .string ⟨#[]⟩ := by rw [List.getD_eq_getElem?_getD, List.getElem?_eq_none (by omega)]; rfl
    rw [e]
    have h1 : decide ((i : Int) < vs.length) = false := by simp; omega
    have h2 : decide (i < vs.length) = false := by simp; omega
    generalize vs.length = n at *
    clear h e
    go_enter Tryd.func51, Tryd.ntmps51
    go_wp2_with fail
    go_ret
    exact ⟨rfl, rfl⟩

set_option maxHeartbeats 1000000 in
set_option maxRecDepth 100000 in
theorem putT_any (A : Option Addr) (ca : Nat) (vs : List Value) (i : Nat) (s : ByteArray) (w : World) (hA : A = none → vs = [] ∧ ca = 0) (h : LV w 9 A vs) (hc : vs.length ≤ ca) (hn : vs.length ≤ 5000) (hi : i ≤ 5000) (hone : ∀ u ∈ vs, u.oneCell' = true) :
    Calls Tryd.prog 46 #[.slice A vs.length ca, .int .i64 i, .string s] w fun e w' => ∃ g cap, e = .returned (.slice (some ⟨g, 0, none⟩) (putG (.string ⟨#[]⟩) vs i (.string s)).length cap) ∧ w'.ownsRow w.heap.size 9 1 (.slice (some ⟨g, 0, none⟩) (putG (.string ⟨#[]⟩) vs i (.string s)).length cap) (putG (.string ⟨#[]⟩) vs i (.string s)).length (putG (.string ⟨#[]⟩) vs i (.string s)) ∧ Below w.heap.size w w' := by
  obtain ⟨i0, hi0, hz0, hz1, hz2⟩ := info_parts Tryd.infoT
  have HPL := Lib.hid (putG_length (.string ⟨#[]⟩) vs i (.string s))
  have HLOW := Lib.hid (putG_low (.string ⟨#[]⟩) vs i (.string s))
  have HHIGH := Lib.hid (putG_high (.string ⟨#[]⟩) vs i (.string s))
  have HZ : Hid ((.string ⟨#[]⟩ : Value).oneCell' = true) := Lib.hid rfl
  obtain ⟨out, hout⟩ : ∃ out, out = putG (.string ⟨#[]⟩) vs i (.string s) := ⟨_, rfl⟩
  rw [← hout] at HPL HLOW HHIGH ⊢
  clear hout
  have HL := Lib.hid h
  have hi0' : (0 : Int) ≤ i := by omega
  have wi1 : wrap64 ((i : Int) + 1) = ((i + 1 : Nat) : Int) := by rw [← IntWalk.i64_left]; exact (IntWalk.i64_in _ (by omega)).trans (by omega)
  by_cases hl : i < vs.length
  · -- the place is there
    have mn : min (i : Int) (vs.length : Int) = i := by omega
    have mx : min ((i : Int) + 1) (vs.length : Int) = ((i + 1 : Nat) : Int) := by omega
    have wk : wrap64 (((i + 1 : Nat) : Int) - (i : Int)) = ((1 : Nat) : Int) := by rw [← IntWalk.i64_left]; exact (IntWalk.i64_in _ (by omega)).trans (by omega)
    have hcut : (i : Int) ≤ ca := by omega
    obtain ⟨a, rfl⟩ : ∃ a, A = some a := by
      cases A with
      | some a => exact ⟨a, rfl⟩
      | none => have := (hA rfl).1; subst this; simp at hl
    have HT : Hid (LV w 9 (some a) (vs.take i)) := Lib.hid (h.take i)
    have HTL : Hid ((vs.take i).length = i) := Lib.hid (by simp; omega)
    obtain ⟨n, hnn⟩ : ∃ n, n = vs.length := ⟨_, rfl⟩
    have HNN := Lib.hid hnn
    rw [← hnn] at hl mn mx hc hn ⊢
    clear h hA hnn
    have hz21 : Hid ((Value.int .i64 ((i : Int) + 1 - (i : Int))) = .int .i64 ((1 : Nat) : Int)) := Lib.hid (by congr 1; omega)
    by_cases hl2 : i + 1 < n
    · have HDN : Hid (∀ W, Below w.heap.size w W → ∀ j u, (vs.drop (i + 1))[j]? = some u → W.cell? ((⟨a.block, a.off + (i + 1), none⟩ : Addr).add j) = some u) := Lib.hid (fun W hW => by
        rw [← addr_pos]
        exact ((HL.out.on hW).drop (i + 1)).news)
      have HDL : Hid ((vs.drop (i + 1)).length = (n - (i + 1)) * 1) := Lib.hid (by have := HNN.out; simp; omega)
      have HD1 : Hid (∀ u ∈ vs.drop (i + 1), u.oneCell' = true) := Lib.hid (fun u hu => hone u (List.mem_of_mem_drop hu))
      clear hone
      go_enter Tryd.func46, Tryd.ntmps46
      go_wp2_with (first
        | (at_builtin; refine wpList_append_zeros _ rfl _ _ 39 3 rfl 9 i0 (.string ⟨#[]⟩) 16 .i64 Tryd.underlying39 Tryd.underlying3 hi0 hz0 hz1 hz2 rfl (some a) i (vs.take i) 1 rfl hz21.out HTL.out (fun e => by cases e) HT.out (by omega) (by unfold maxLen; omega) (by omega) ?_; intro g1 cap1 w1 hown1 hb1 hlt1;
            have hcell : w1.cell? ⟨g1, i, none⟩ = some (.string ⟨#[]⟩) := (hown1.cellAt i (by omega)).trans (by rw [List.getElem?_append_right (by have := HTL.out; omega), HTL.out, Nat.sub_self]; rfl);
            have hfr := hown1.frozenAt i;
            have HST := Lib.hid (hown1.stored i (.string s)).1;
            have HB1 : Hid (Below w.heap.size w (w1.setCell ⟨g1, i, none⟩ (.string s))) := Lib.hid (hb1.setCell (hown1.lt g1 rfl).1 _);
            have hcp1 := own_cap hown1;
            clear hown1)
        | (at_builtin; refine wpList_append_lies _ rfl _ _ 39 rfl w.heap.size 9 i0 (.string ⟨#[]⟩) 1 16 Tryd.underlying39 hi0 hz0 hz1 hz2 rfl (by decide) (.slice (some ⟨g1, 0, none⟩) (i + 1) cap1) (i + 1) _ rfl HST.out ⟨a.block, a.off + (i + 1), none⟩ (n - (i + 1)) _ _ rfl HDL.out (HDN.out _ HB1.out) HD1.out (by omega) (by unfold maxLen; omega) (by omega) (HB1.out.size) _ rfl ?_; intro g2 cap2 w2 hown2 hgrow2 hat2 hlt2)
        | fail)
      go_ret
      have HS : (vs.take i ++ List.replicate 1 (.string ⟨#[]⟩ : Value)).set i (.string s) ++ vs.drop (i + 1) = out := HLOW.out (by have := HNN.out; omega)
      have hlen : i + 1 + (n - (i + 1)) = out.length := by have := HPL.out; have := HNN.out; omega
      rw [HS, hlen] at hown2
      exact ⟨g2, cap2, by rw [hlen]; try rfl, hown2, HB1.out.trans (own_apart HST.out hgrow2 (Nat.le_refl _) HB1.out.size)⟩
    · have hl3 : i + 1 = n := by omega
      clear hone
      go_enter Tryd.func46, Tryd.ntmps46
      go_wp2_with (first
        | (at_builtin; refine wpList_append_zeros _ rfl _ _ 39 3 rfl 9 i0 (.string ⟨#[]⟩) 16 .i64 Tryd.underlying39 Tryd.underlying3 hi0 hz0 hz1 hz2 rfl (some a) i (vs.take i) 1 rfl hz21.out HTL.out (fun e => by cases e) HT.out (by omega) (by unfold maxLen; omega) (by omega) ?_; intro g1 cap1 w1 hown1 hb1 hlt1;
            have hcell : w1.cell? ⟨g1, i, none⟩ = some (.string ⟨#[]⟩) := (hown1.cellAt i (by omega)).trans (by rw [List.getElem?_append_right (by have := HTL.out; omega), HTL.out, Nat.sub_self]; rfl);
            have hfr := hown1.frozenAt i;
            have HST := Lib.hid (hown1.stored i (.string s)).1;
            have HB1 : Hid (Below w.heap.size w (w1.setCell ⟨g1, i, none⟩ (.string s))) := Lib.hid (hb1.setCell (hown1.lt g1 rfl).1 _);
            have hcp1 := own_cap hown1;
            clear hown1)
        | (at_builtin; refine wpList_append_none' _ rfl _ _ 39 rfl 9 i0 Tryd.underlying39 hi0 hz1 g1 (i + 1) cap1 hcp1 _ _ rfl rfl ?_)
        | fail)
      all_goals
        go_ret
        have HS : (vs.take i ++ List.replicate 1 (.string ⟨#[]⟩ : Value)).set i (.string s) ++ vs.drop (i + 1) = out := HLOW.out (by have := HNN.out; omega)
        have hlen : i + 1 = out.length := by have := HPL.out; have := HNN.out; omega
        have hln : n = out.length := by omega
        have h3 := HST.out
        have h4 : vs.drop (i + 1) = [] := List.drop_eq_nil_of_le (by have := HNN.out; omega)
        rw [h4, List.append_nil] at HS
        rw [HS, hlen] at h3
        exact ⟨g1, cap1, by first | (rw [← hln]; rfl) | (rw [← hlen]; rfl), h3, HB1.out⟩
  · -- the place is behind the last one
    obtain ⟨k, hk⟩ : ∃ k, k = i + 1 - vs.length := ⟨_, rfl⟩
    have mn : min (i : Int) (vs.length : Int) = vs.length := by omega
    have mx : min ((i : Int) + 1) (vs.length : Int) = vs.length := by omega
    have hcut : (vs.length : Int) ≤ ca := by omega
    have HRZ : Hid ((vs ++ List.replicate k (.string ⟨#[]⟩ : Value))[i]? = some (.string ⟨#[]⟩)) := Lib.hid (by rw [List.getElem?_append_right (by omega), List.getElem?_replicate, if_pos (by omega)])
    have HAN : Hid (A = none → vs.length = 0) := Lib.hid (fun e => by rw [(hA e).1]; rfl)
    have HKK := Lib.hid hk
    obtain ⟨n, hnn⟩ : ∃ n, n = vs.length := ⟨_, rfl⟩
    have HNN := Lib.hid hnn
    rw [← hnn] at hl mn mx hc hn hcut hk HAN ⊢
    have hz21 : Hid ((Value.int .i64 ((i : Int) + 1 - (n : Int))) = .int .i64 (k : Int)) := Lib.hid (by congr 1; omega)
    have hnk : n + k = i + 1 := by omega
    have hk0 : 0 < k := by omega
    clear h hA hnn hk hone
    go_enter Tryd.func46, Tryd.ntmps46
    go_wp2_with (first
      | (at_builtin; refine wpList_append_zeros _ rfl _ _ 39 3 rfl 9 i0 (.string ⟨#[]⟩) 16 .i64 Tryd.underlying39 Tryd.underlying3 hi0 hz0 hz1 hz2 rfl A n vs k rfl hz21.out HNN.out.symm HAN.out HL.out (by omega) (by unfold maxLen; omega) (by omega) ?_; intro g1 cap1 w1 hown1 hb1 hlt1;
          rw [hnk] at hown1 ⊢;
          have hcell : w1.cell? ⟨g1, i, none⟩ = some (.string ⟨#[]⟩) := (hown1.cellAt i (by omega)).trans HRZ.out;
          have hfr := hown1.frozenAt i;
          have HST := Lib.hid (hown1.stored i (.string s)).1;
          have HB1 : Hid (Below w.heap.size w (w1.setCell ⟨g1, i, none⟩ (.string s))) := Lib.hid (hb1.setCell (hown1.lt g1 rfl).1 _);
          have hcp1 := own_cap hown1;
          clear hown1)
      | (at_builtin; refine wpList_append_none' _ rfl _ _ 39 rfl 9 i0 Tryd.underlying39 hi0 hz1 g1 (i + 1) cap1 hcp1 _ _ rfl rfl ?_)
      | fail)
    all_goals
      go_ret
      have HS : (vs ++ List.replicate (i + 1 - vs.length) (.string ⟨#[]⟩ : Value)).set i (.string s) = out := HHIGH.out (by have := HNN.out; omega)
      have hlen : i + 1 = out.length := by have := HPL.out; have := HNN.out; omega
      have h3 := HST.out
      rw [HKK.out] at h3
      rw [HS, hlen] at h3
      exact ⟨g1, cap1, by rw [← hlen]; rfl, h3, HB1.out⟩

theorem Tryd.infoL : (Tryd.prog.info? 39).map (fun i => (i.zero, i.size, i.bytes)) = some (some (.slice none 0 0), 1, 24) := by kernel_rfl
theorem getL_any (A : Option Addr) (ca : Nat) (vs : List Value) (i : Nat) (w : World) (h : LV w 39 A vs) (hi : i ≤ 100000) (hn : vs.length ≤ 100000) (hq : ∀ v ∈ vs, ∃ A n c, v = .slice A n c) :
    Calls Tryd.prog 47 #[.slice A vs.length ca, .int .i64 i] w fun e w' => e = .returned (vs.getD i (.slice none 0 0)) ∧ w = w' := by
  by_cases hl : i < vs.length
  · obtain ⟨v, hv⟩ : ∃ v, vs[i]? = some v := ⟨_, List.getElem?_eq_getElem hl⟩
    obtain ⟨a, rfl, hb, hc⟩ := h i v hv
    have e : vs.getD i (.slice none 0 0) = v := by rw [List.getD_eq_getElem?_getD, hv]; rfl
    rw [e]
    have h0 : (0 : Int) ≤ i := by omega
    have h1 : (i : Int) < vs.length := by omega
    have HV := Lib.hid e
    generalize vs.length = n at *
    obtain ⟨q1, q2, q3, rfl⟩ := hq v (List.mem_of_getElem? hv)
    clear h e hv
    go_enter Tryd.func47, Tryd.ntmps47
    go_wp2_with fail
    go_ret
    exact ⟨rfl, rfl⟩
  · have e : vs.getD i (.slice none 0 0) = .slice none 0 0 := by rw [List.getD_eq_getElem?_getD, List.getElem?_eq_none (by omega)]; rfl
    rw [e]
    have h1 : decide ((i : Int) < vs.length) = false := by simp; omega
    have h2 : decide (i < vs.length) = false := by simp; omega
    generalize vs.length = n at *
    clear h e
    go_enter Tryd.func47, Tryd.ntmps47
    go_wp2_with fail
    go_ret
    exact ⟨rfl, rfl⟩

set_option maxHeartbeats 1000000 in
set_option maxRecDepth 100000 in
theorem putL_any (A : Option Addr) (ca : Nat) (vs : List Value) (i : Nat) (q1 : Option Addr) (q2 q3 : Nat) (w : World) (hA : A = none → vs = [] ∧ ca = 0) (h : LV w 39 A vs) (hc : vs.length ≤ ca) (hn : vs.length ≤ 5000) (hi : i ≤ 5000) (hone : ∀ u ∈ vs, u.oneCell' = true) :
    Calls Tryd.prog 48 #[.slice A vs.length ca, .int .i64 i, .slice q1 q2 q3] w fun e w' => ∃ g cap, e = .returned (.slice (some ⟨g, 0, none⟩) (putG (.slice none 0 0) vs i (.slice q1 q2 q3)).length cap) ∧ w'.ownsRow w.heap.size 39 1 (.slice (some ⟨g, 0, none⟩) (putG (.slice none 0 0) vs i (.slice q1 q2 q3)).length cap) (putG (.slice none 0 0) vs i (.slice q1 q2 q3)).length (putG (.slice none 0 0) vs i (.slice q1 q2 q3)) ∧ Below w.heap.size w w' := by
  obtain ⟨i0, hi0, hz0, hz1, hz2⟩ := info_parts Tryd.infoL
  have HPL := Lib.hid (putG_length (.slice none 0 0) vs i (.slice q1 q2 q3))
  have HLOW := Lib.hid (putG_low (.slice none 0 0) vs i (.slice q1 q2 q3))
  have HHIGH := Lib.hid (putG_high (.slice none 0 0) vs i (.slice q1 q2 q3))
  have HZ : Hid ((.slice none 0 0 : Value).oneCell' = true) := Lib.hid rfl
  obtain ⟨out, hout⟩ : ∃ out, out = putG (.slice none 0 0) vs i (.slice q1 q2 q3) := ⟨_, rfl⟩
  rw [← hout] at HPL HLOW HHIGH ⊢
  clear hout
  have HL := Lib.hid h
  have hi0' : (0 : Int) ≤ i := by omega
  have wi1 : wrap64 ((i : Int) + 1) = ((i + 1 : Nat) : Int) := by rw [← IntWalk.i64_left]; exact (IntWalk.i64_in _ (by omega)).trans (by omega)
  by_cases hl : i < vs.length
  · -- the place is there
    have mn : min (i : Int) (vs.length : Int) = i := by omega
    have mx : min ((i : Int) + 1) (vs.length : Int) = ((i + 1 : Nat) : Int) := by omega
    have wk : wrap64 (((i + 1 : Nat) : Int) - (i : Int)) = ((1 : Nat) : Int) := by rw [← IntWalk.i64_left]; exact (IntWalk.i64_in _ (by omega)).trans (by omega)
    have hcut : (i : Int) ≤ ca := by omega
    obtain ⟨a, rfl⟩ : ∃ a, A = some a := by
      cases A with
      | some a => exact ⟨a, rfl⟩
      | none => have := (hA rfl).1; subst this; simp at hl
    have HT : Hid (LV w 39 (some a) (vs.take i)) := Lib.hid (h.take i)
    have HTL : Hid ((vs.take i).length = i) := Lib.hid (by simp; omega)
    obtain ⟨n, hnn⟩ : ∃ n, n = vs.length := ⟨_, rfl⟩
    have HNN := Lib.hid hnn
    rw [← hnn] at hl mn mx hc hn ⊢
    clear h hA hnn
    have hz21 : Hid ((Value.int .i64 ((i : Int) + 1 - (i : Int))) = .int .i64 ((1 : Nat) : Int)) := Lib.hid (by congr 1; omega)
    by_cases hl2 : i + 1 < n
    · have HDN : Hid (∀ W, Below w.heap.size w W → ∀ j u, (vs.drop (i + 1))[j]? = some u → W.cell? ((⟨a.block, a.off + (i + 1), none⟩ : Addr).add j) = some u) := Lib.hid (fun W hW => by
        rw [← addr_pos]
        exact ((HL.out.on hW).drop (i + 1)).news)
      have HDL : Hid ((vs.drop (i + 1)).length = (n - (i + 1)) * 1) := Lib.hid (by have := HNN.out; simp; omega)
      have HD1 : Hid (∀ u ∈ vs.drop (i + 1), u.oneCell' = true) := Lib.hid (fun u hu => hone u (List.mem_of_mem_drop hu))
      clear hone
      go_enter Tryd.func48, Tryd.ntmps48
      go_wp2_with (first
        | (at_builtin; refine wpList_append_zeros _ rfl _ _ 65 3 rfl 39 i0 (.slice none 0 0) 24 .i64 Tryd.underlying65 Tryd.underlying3 hi0 hz0 hz1 hz2 rfl (some a) i (vs.take i) 1 rfl hz21.out HTL.out (fun e => by cases e) HT.out (by omega) (by unfold maxLen; omega) (by omega) ?_; intro g1 cap1 w1 hown1 hb1 hlt1;
            have hcell : w1.cell? ⟨g1, i, none⟩ = some (.slice none 0 0) := (hown1.cellAt i (by omega)).trans (by rw [List.getElem?_append_right (by have := HTL.out; omega), HTL.out, Nat.sub_self]; rfl);
            have hfr := hown1.frozenAt i;
            have HST := Lib.hid (hown1.stored i (.slice q1 q2 q3)).1;
            have HB1 : Hid (Below w.heap.size w (w1.setCell ⟨g1, i, none⟩ (.slice q1 q2 q3))) := Lib.hid (hb1.setCell (hown1.lt g1 rfl).1 _);
            have hcp1 := own_cap hown1;
            clear hown1)
        | (at_builtin; refine wpList_append_lies _ rfl _ _ 65 rfl w.heap.size 39 i0 (.slice none 0 0) 1 24 Tryd.underlying65 hi0 hz0 hz1 hz2 rfl (by decide) (.slice (some ⟨g1, 0, none⟩) (i + 1) cap1) (i + 1) _ rfl HST.out ⟨a.block, a.off + (i + 1), none⟩ (n - (i + 1)) _ _ rfl HDL.out (HDN.out _ HB1.out) HD1.out (by omega) (by unfold maxLen; omega) (by omega) (HB1.out.size) _ rfl ?_; intro g2 cap2 w2 hown2 hgrow2 hat2 hlt2)
        | fail)
      go_ret
      have HS : (vs.take i ++ List.replicate 1 (.slice none 0 0 : Value)).set i (.slice q1 q2 q3) ++ vs.drop (i + 1) = out := HLOW.out (by have := HNN.out; omega)
      have hlen : i + 1 + (n - (i + 1)) = out.length := by have := HPL.out; have := HNN.out; omega
      rw [HS, hlen] at hown2
      exact ⟨g2, cap2, by rw [hlen]; try rfl, hown2, HB1.out.trans (own_apart HST.out hgrow2 (Nat.le_refl _) HB1.out.size)⟩
    · have hl3 : i + 1 = n := by omega
      clear hone
      go_enter Tryd.func48, Tryd.ntmps48
      go_wp2_with (first
        | (at_builtin; refine wpList_append_zeros _ rfl _ _ 65 3 rfl 39 i0 (.slice none 0 0) 24 .i64 Tryd.underlying65 Tryd.underlying3 hi0 hz0 hz1 hz2 rfl (some a) i (vs.take i) 1 rfl hz21.out HTL.out (fun e => by cases e) HT.out (by omega) (by unfold maxLen; omega) (by omega) ?_; intro g1 cap1 w1 hown1 hb1 hlt1;
            have hcell : w1.cell? ⟨g1, i, none⟩ = some (.slice none 0 0) := (hown1.cellAt i (by omega)).trans (by rw [List.getElem?_append_right (by have := HTL.out; omega), HTL.out, Nat.sub_self]; rfl);
            have hfr := hown1.frozenAt i;
            have HST := Lib.hid (hown1.stored i (.slice q1 q2 q3)).1;
            have HB1 : Hid (Below w.heap.size w (w1.setCell ⟨g1, i, none⟩ (.slice q1 q2 q3))) := Lib.hid (hb1.setCell (hown1.lt g1 rfl).1 _);
            have hcp1 := own_cap hown1;
            clear hown1)
        | (at_builtin; refine wpList_append_none' _ rfl _ _ 65 rfl 39 i0 Tryd.underlying65 hi0 hz1 g1 (i + 1) cap1 hcp1 _ _ rfl rfl ?_)
        | fail)
      all_goals
        go_ret
        have HS : (vs.take i ++ List.replicate 1 (.slice none 0 0 : Value)).set i (.slice q1 q2 q3) ++ vs.drop (i + 1) = out := HLOW.out (by have := HNN.out; omega)
        have hlen : i + 1 = out.length := by have := HPL.out; have := HNN.out; omega
        have hln : n = out.length := by omega
        have h3 := HST.out
        have h4 : vs.drop (i + 1) = [] := List.drop_eq_nil_of_le (by have := HNN.out; omega)
        rw [h4, List.append_nil] at HS
        rw [HS, hlen] at h3
        exact ⟨g1, cap1, by first | (rw [← hln]; rfl) | (rw [← hlen]; rfl), h3, HB1.out⟩
  · -- the place is behind the last one
    obtain ⟨k, hk⟩ : ∃ k, k = i + 1 - vs.length := ⟨_, rfl⟩
    have mn : min (i : Int) (vs.length : Int) = vs.length := by omega
    have mx : min ((i : Int) + 1) (vs.length : Int) = vs.length := by omega
    have hcut : (vs.length : Int) ≤ ca := by omega
    have HRZ : Hid ((vs ++ List.replicate k (.slice none 0 0 : Value))[i]? = some (.slice none 0 0)) := Lib.hid (by rw [List.getElem?_append_right (by omega), List.getElem?_replicate, if_pos (by omega)])
    have HAN : Hid (A = none → vs.length = 0) := Lib.hid (fun e => by rw [(hA e).1]; rfl)
    have HKK := Lib.hid hk
    obtain ⟨n, hnn⟩ : ∃ n, n = vs.length := ⟨_, rfl⟩
    have HNN := Lib.hid hnn
    rw [← hnn] at hl mn mx hc hn hcut hk HAN ⊢
    have hz21 : Hid ((Value.int .i64 ((i : Int) + 1 - (n : Int))) = .int .i64 (k : Int)) := Lib.hid (by congr 1; omega)
    have hnk : n + k = i + 1 := by omega
    have hk0 : 0 < k := by omega
    clear h hA hnn hk hone
    go_enter Tryd.func48, Tryd.ntmps48
    go_wp2_with (first
      | (at_builtin; refine wpList_append_zeros _ rfl _ _ 65 3 rfl 39 i0 (.slice none 0 0) 24 .i64 Tryd.underlying65 Tryd.underlying3 hi0 hz0 hz1 hz2 rfl A n vs k rfl hz21.out HNN.out.symm HAN.out HL.out (by omega) (by unfold maxLen; omega) (by omega) ?_; intro g1 cap1 w1 hown1 hb1 hlt1;
          rw [hnk] at hown1 ⊢;
          have hcell : w1.cell? ⟨g1, i, none⟩ = some (.slice none 0 0) := (hown1.cellAt i (by omega)).trans HRZ.out;
          have hfr := hown1.frozenAt i;
          have HST := Lib.hid (hown1.stored i (.slice q1 q2 q3)).1;
          have HB1 : Hid (Below w.heap.size w (w1.setCell ⟨g1, i, none⟩ (.slice q1 q2 q3))) := Lib.hid (hb1.setCell (hown1.lt g1 rfl).1 _);
          have hcp1 := own_cap hown1;
          clear hown1)
      | (at_builtin; refine wpList_append_none' _ rfl _ _ 65 rfl 39 i0 Tryd.underlying65 hi0 hz1 g1 (i + 1) cap1 hcp1 _ _ rfl rfl ?_)
      | fail)
    all_goals
      go_ret
      have HS : (vs ++ List.replicate (i + 1 - vs.length) (.slice none 0 0 : Value)).set i (.slice q1 q2 q3) = out := HHIGH.out (by have := HNN.out; omega)
      have hlen : i + 1 = out.length := by have := HPL.out; have := HNN.out; omega
      have h3 := HST.out
      rw [HKK.out] at h3
      rw [HS, hlen] at h3
      exact ⟨g1, cap1, by rw [← hlen]; rfl, h3, HB1.out⟩

end Go.Proofs.YtaeiifmdbdhoeaaDoor
