/-
  The walk of the law SepSpan.
-/
import Derived.Test.YtkeobalbfngniaaELists
import Derived.Deep.RegionHeld3
namespace Go.Proofs.Ytkeobalbfngniaa
open Go.RowKit
set_option linter.unusedVariables false
set_option linter.unusedSimpArgs false

/-- An operation of a drawn region that yields in every world that meets S is taken first. -/
theorem take_op {P : Program} {ops : Array Oper} {Q : Exit → Act → World → Prop} {md : Region.Mode} {S : World → Prop} {i : Nat} {oi : Oper} {d : Option Tmp} {v : Value} {fuel : Nat} {listed : Array Bool} {a : Act} {w : World} (hi : ops[i]? = some oi) (hd : oi.dst = d)
    (hs : Region.noSelect ops = true) (hf : Region.free md ops listed i = true) (hr : (Region.ready md ops listed).contains i = true)
    (hQ : ∀ c a w, Q (.panic c) (a.put d v) w → Q (.panic c) a w) (hy : YieldsIf P ops S oi v a) (hS : S w)
    (h : wpAnyH P md ops Q S fuel (listed.setIfInBounds i true) (a.put d v) w) : wpAnyH P md ops Q S (fuel + 1) listed a w := by
  subst hd
  exact wpAnyH_take hi hs hf hr hQ hy hS h
/-- One that is not wanted is passed by. -/
theorem skip_op {P : Program} {ops : Array Oper} {Q : Exit → Act → World → Prop} {md : Region.Mode} {S : World → Prop} {i : Nat} {oi : Oper} {d : Option Tmp} {fuel : Nat} {listed : Array Bool} {a : Act} {w : World} (hi : ops[i]? = some oi) (hd : oi.dst = d)
    (hs : Region.noSelect ops = true) (hf : Region.free md ops listed i = true) (hr : (Region.ready md ops listed).contains i = true)
    (hQ : ∀ c a w, Q (.panic c) (a.put d undef) w → Q (.panic c) a w) (hw : Region.wanted oi (yielded ops a.tmps) = false) (hS : S w)
    (h : wpAnyH P md ops Q S fuel (listed.setIfInBounds i true) (a.put d undef) w) : wpAnyH P md ops Q S (fuel + 1) listed a w :=
  take_op hi hd hs hf hr hQ (Or.inr ⟨hw, rfl⟩) hS h

/-- The texts rise as far as the k-th. -/
def Up (l : List ByteArray) (k : Nat) : Prop := ∀ i s t, i + 1 < k → l[i]? = some s → l[i + 1]? = some t → ¬ B t < B s
theorem not_less_trans {x y z : List UInt8} (h : ¬ y < x) (k : ¬ z < y) : ¬ z < x := fun e => by
  rcases EP.tri x y with a | a | a
  · exact k (EP.lt_trans e a)
  · subst a; exact k e
  · exact h a
theorem Up.far {l : List ByteArray} {k : Nat} (h : Up l k) : ∀ (d i : Nat) (s t : ByteArray), i + d < k → l[i]? = some s → l[i + d]? = some t → ¬ B t < B s
  | 0, i, s, t, _, hs, ht => by
    rw [Nat.add_zero, hs] at ht
    rw [Option.some.inj ht]
    exact EP.lt_irrefl _
  | d + 1, i, s, t, hk, hs, ht => by
    have hl : i + d < l.length := by have := (List.getElem?_eq_some_iff.1 ht).1; omega
    have hu : l[i + d]? = some l[i + d] := List.getElem?_eq_getElem hl
    exact not_less_trans (h.far d i s _ (by omega) hs hu) (h (i + d) _ t (by omega) hu (by rw [← ht]; congr 1))
theorem Up.span {l : List ByteArray} {q : Nat} {s t : ByteArray} (h : Up l l.length) (hn : l.length = q + 1) (h0 : l[0]? = some s) (hq : l[q]? = some t) : sp l = EP.com (B s) (B t) := by
  match l, h0 with
  | x :: r, h0 =>
    have e : x = s := by simpa using h0
    subst e
    refine EP.span_rise (B x) (B t) (Bs r) (fun u hu => ?_) ?_
    · obtain ⟨v, hv, rfl⟩ := List.mem_map.1 hu
      obtain ⟨i, hi⟩ := List.getElem?_of_mem hv
      have hi1 : (x :: r)[i + 1]? = some v := by simpa using hi
      have hlt := (List.getElem?_eq_some_iff.1 hi1).1
      refine ⟨by have := h.far (i + 1) 0 x v (by omega) rfl (by rw [Nat.zero_add]; exact hi1); exact this, ?_⟩
      exact h.far (q - (i + 1)) (i + 1) v t (by omega) hi1 (by rw [show i + 1 + (q - (i + 1)) = q by omega]; exact hq)
    · exact bs_mem (l := x :: r) (List.mem_of_getElem? hq)
theorem sp_snoc {l : List ByteArray} {s y : ByteArray} (h0 : l[0]? = some s) : sp (l ++ [y]) = min (sp l) (EP.com (B s) (B y)) := by
  match l, h0 with
  | x :: r, h0 =>
    have e : x = s := by simpa using h0
    subst e
    show EP.al (B x) (Bs (r ++ [y])) = _
    rw [show Bs (r ++ [y]) = Bs r ++ [B y] by simp [Bs], EP.al_snoc]
    rfl
theorem lies_news {w : World} {b : Nat} {a : Addr} {l : List ByteArray} (h : Lies w b (some a) l) : ∀ j u, (strCells l)[j]? = some u → w.cell? (a.add j) = some u := fun j u hu => by
  rw [strCells, List.getElem?_map] at hu
  obtain ⟨s, hs, rfl⟩ := Option.map_eq_some_iff.1 hu
  obtain ⟨_, e, _, hc⟩ := h j s hs
  obtain rfl := Option.some.inj e
  exact hc
theorem strs_one (l : List ByteArray) : ∀ u ∈ strCells l, u.oneCell' = true := fun u hu => by
  obtain ⟨s, _, rfl⟩ := List.mem_map.1 hu
  rfl

set_option maxHeartbeats 4000000 in
set_option maxRecDepth 100000 in
theorem sepSpan_walk (A : Option Addr) (l0 : List ByteArray) (ca : Nat) (b : ByteArray) (w : World) (ha : Lies w w.heap.size A l0) (hs0 : ∀ s ∈ l0, s.size ≤ maxLen) (hl0 : l0.length ≤ maxLen) (wb : b.size ≤ maxLen) :
    Calls Try.prog 7 #[.slice A l0.length ca, .string b] w fun e w' => e = .returned (.bool true) ∧ Below w.heap.size w w' := by
  obtain ⟨i0, hi, hz0, hz1, hz2⟩ := info_parts Try.infoStr
  have HCUT := Lib.hid (cut_any A l0 ca w ha hl0 hs0)
  have HLEN := Lib.hid (cutL_length l0)
  have HSZ := Lib.hid (cutL_size l0)
  generalize cutL l0 = l at *
  clear ha hs0 hl0
  unfold maxLen at wb
  obtain ⟨m, hm, hm4, hms, hm2, hts⟩ := cut_min b 60 (by omega)
  have HTS := Lib.hid hts
  clear hts
  go_enter Try.func7, Try.ntmps7
  go_wp2_with fail
  refine HCUT.out.mono ?_
  rintro e w1 ⟨g, cap, rfl, hcap, hL, hb1⟩
  have hl : l.length ≤ 30 := by have := HLEN.out; omega
  have hs : ∀ s ∈ l, s.size ≤ 1000 := fun s h => by have := HSZ.out s h; omega
  have HSPAN := Lib.hid (fun W (h : Lies W W.heap.size (some ⟨g, 0, none⟩) l) => span_any (some ⟨g, 0, none⟩) l cap W h (by omega) hs hcap)
  have HSNOC := Lib.hid (fun s y h => sp_snoc (l := l) (s := s) (y := y) h)
  have HUPS := Lib.hid (fun q s t h hn h0 hq => Up.span (l := l) (q := q) (s := s) (t := t) h hn h0 hq)
  have HL := Lib.hid hL
  have HSS := Lib.hid hs
  have HNIL : Hid (l.length = 0 → sp l = 0) := Lib.hid (fun h => by rw [List.eq_nil_of_length_eq_zero h]; rfl)
  generalize hp : sp l = p at *
  have HP := Lib.hid hp
  obtain ⟨n, hn⟩ : ∃ n, n = l.length := ⟨_, rfl⟩
  have HN := Lib.hid hn
  rw [← hn] at hl hcap HSPAN HNIL
  simp only [← hn]
  clear hL hs hp hn
  by_cases hz : n = 0
  · subst hz
    obtain rfl := HNIL.out rfl
    go_wp2_with fail
    refine (HSPAN.out _ HL.out).mono ?_
    rintro e w2 ⟨rfl, hb2⟩
    go_wp2_with fail
    refine (fixed_any _).mono ?_
    rintro e w3 ⟨rfl, hb3⟩
    go_wp2_with fail
    go_ret
    exact ⟨rfl, (hb1.trans' hb2).trans' hb3⟩
  · have hzi : ((n : Int) == 0) = false := by rw [beq_eq_false_iff_ne]; omega
    have hnews := lies_news HL.out
    have HNW : Hid (∀ W, Below w1.heap.size w1 W → ∀ j u, (strCells l)[j]? = some u → W.cell? ((⟨g, 0, none⟩ : Addr).add j) = some u) := Lib.hid (fun W hW => lies_news (HL.out.on hW))
    clear hnews
    have hsc : Hid ((strCells l).length = n) := Lib.hid (by rw [strCells_length, HN.out])
    go_wp2_with (first
      | (at_builtin; refine wpList_append_lies _ rfl _ _ 22 rfl w1.heap.size 9 i0 (.string ⟨#[]⟩) 1 16 Try.underlying22 hi hz0 hz1 hz2 rfl (by decide) (.slice (some ⟨w1.heap.size, 0, none⟩) 0 0) 0 [] rfl (own_empty w1 9) ⟨g, 0, none⟩ n cap (strCells l) rfl (by rw [hsc.out]; omega) (HNW.out _ (below_alloc _ _)) (strs_one l) (by omega) (by unfold maxLen; omega) (by omega) (by simp) (w1.heap.size + 1) (by simp) ?_; intro g1 cap1 w2 hown2 hgrow2 hat2 hlt2;
          have hb2 : Below w1.heap.size w1 w2 := (below_alloc w1 (.cells #[] 9)).trans (own_apart (own_empty w1 9) hgrow2 (Nat.le_refl _) (by simp));
          rw [Nat.zero_add] at hown2;
          have HO2 : Hid (Owns w2 w1.heap.size (.slice (some ⟨g1, 0, none⟩) n cap1) n l) := Lib.hid hown2;
          clear hat2 hgrow2 hown2 hlt2)
      | (at_builtin; refine wpList_append_lies _ rfl _ _ 22 rfl w1.heap.size 9 i0 (.string ⟨#[]⟩) 1 16 Try.underlying22 hi hz0 hz1 hz2 rfl (by decide) (.slice (some ⟨g1, 0, none⟩) n cap1) n _ rfl (HO2.out.alloc _) ⟨w2.heap.size, 0, none⟩ 1 1 [.string (b.extract 0 m)] rfl rfl (World.news_of_block (cs := #[.string (b.extract 0 m)]) (t := 9) (fr := (0, 0)) (heap_alloc_new w2 _)) (str_one _) (by omega) (by unfold maxLen; omega) (by omega) (by have := hb2.size; simp; omega) (w2.heap.size + 1) (by simp) ?_; intro g2 cap2 w3 hown3 hgrow3 hat3 hlt3))
    have hb3 : Below w1.heap.size w1 w3 := (hb2.trans' (below_alloc w2 (.cells #[.string (b.extract 0 m)] 9))).trans (own_apart (HO2.out.alloc _) hgrow3 (Nat.le_refl _) (by have := hb2.size; simp; omega))
    have hcap2 := own_cap hown3
    have HLA3 : Hid (Lies w3 w3.heap.size (some ⟨g2, 0, none⟩) (l ++ [b.extract 0 m])) := Lib.hid (lies_own (by rw [strCells_snoc]; exact hown3) (by simp [HN.out]))
    clear hat3 hgrow3 hown3 hlt3 hm hm2
    generalize b.extract 0 m = y at *
    obtain rfl := HTS.out
    clear HTS HO2
    have HL3 := Lib.hid (HL.out.on hb3)
    refine (HSPAN.out _ HL3.out).mono ?_
    rintro e w6 ⟨rfl, hb6⟩
    have HL6 := Lib.hid (HL3.out.on hb6)
    have HLall := Lib.hid (HLA3.out.on hb6)
    have b6 := (hb1.trans' hb3).trans' hb6
    clear hb1 hb2 hb3 hb6 HL HL3 HLA3 HNW HSPAN HNIL
    obtain ⟨q, rfl⟩ : ∃ q, n = q + 1 := ⟨n - 1, by omega⟩
    obtain ⟨s0, h0⟩ : ∃ c, l[0]? = some c := ⟨_, List.getElem?_eq_getElem (by have := HN.out; omega)⟩
    obtain ⟨sl, hq⟩ : ∃ c, l[q]? = some c := ⟨_, List.getElem?_eq_getElem (by have := HN.out; omega)⟩
    have H0 := Lib.hid h0
    have HQ := Lib.hid hq
    have hz0' := HSS.out s0 (List.mem_of_getElem? h0)
    have hzq := HSS.out sl (List.mem_of_getElem? hq)
    have hy : y.size ≤ 1000 := by omega
    clear h0 hq
    go_wp2_with fail
    go_loopw [7, 8] (fun rv iv wr => ∃ (r : Bool) (k : Nat), rv = .bool r ∧ iv = .int .i64 k ∧ 1 ≤ k ∧ k ≤ q + 1 ∧ Hid (r = true → Up l k) ∧ Below w6.heap.size w6 wr) (fun _ iv _ => q + 1 - (intOf iv).toNat)
    case atStart => exact ⟨true, 1, rfl, rfl, by omega, by omega, Lib.hid (fun _ i s t h => by omega), Below.refl _ _⟩
    case round =>
      obtain ⟨r, k, rfl, rfl, hk1, hk, HU, hbr⟩ := hrel
      by_cases hlt : k < q + 1
      · obtain ⟨j, rfl⟩ : ∃ j, k = j + 1 := ⟨k - 1, by omega⟩
        have hltI : (j : Int) + 1 < (q : Int) + 1 := by omega
        have hltJ : (j : Int) < q := by omega
        cases r with
        | false =>
          go_wp2_with fail
          go_quiet (fail)
          go_wp2_with fail
          go_roundw
          case rel => exact ⟨false, j + 1 + 1, rfl, by simp, by omega, by omega, Lib.hid (fun h => by cases h), below_drewN hbr _⟩
          case measure => simp [intOf]; omega
        | true =>
          obtain ⟨s, hc⟩ : ∃ c, l[j]? = some c := ⟨_, List.getElem?_eq_getElem (by have := HN.out; omega)⟩
          obtain ⟨t, hd⟩ : ∃ c, l[j + 1]? = some c := ⟨_, List.getElem?_eq_getElem (by have := HN.out; omega)⟩
          obtain ⟨_, e, _, x0⟩ := (HL6.out.below hbr) j s hc
          obtain rfl := Option.some.inj e
          obtain ⟨_, e, _, y0⟩ := (HL6.out.below hbr) (j + 1) t hd
          obtain rfl := Option.some.inj e
          have x2 : wr.cell? ⟨g, j, none⟩ = some (.string s) := by rw [addr_at] at x0; exact x0
          rw [addr_pos, Nat.zero_add] at y0
          have HUP : Hid (¬ B t < B s → Up l (j + 1 + 1)) := Lib.hid (fun h i u v hi hu hv => by
            rcases Nat.lt_or_ge (i + 1) (j + 1) with h1 | h1
            · exact HU.out rfl i u v h1 hu hv
            · have e : i = j := by omega
              subst e
              rw [hc] at hu
              rw [hd] at hv
              rw [← Option.some.inj hu, ← Option.some.inj hv]
              exact h)
          have hj0 : (0 : Int) ≤ j := by omega
          have hj1 : (0 : Int) ≤ (j : Int) + 1 := by omega
          have hjn : (j : Int) < (q : Int) + 1 := by omega
          clear hc hd HU
          rcases EP.tri (B s) (B t) with h | h | h
          · have HV := Lib.hid (HUP.out (EP.lt_asymm h))
            have d1 := less_yes h
            clear h HUP
            go_wp2_with fail
            refine wp_region_quiet_lit (by kernel_rfl) (by kernel_rfl) ?_
            repeat (first | (go_big_quiet_step (fail)) | (quiet_step (fail)))
            refine wpQuiet_nil ?_
            rintro _ ⟨nq, rfl⟩
            go_wp2_with fail
            go_roundw
            case rel => exact ⟨true, j + 1 + 1, rfl, by simp, by omega, by omega, Lib.hid (fun _ => HV.out), below_drewN hbr _⟩
            case measure => simp [intOf]; omega
          · have HV := Lib.hid (HUP.out (by rw [h]; exact EP.lt_irrefl _))
            have d1 := less_no (a := s) (b := t) (by rw [h]; exact EP.lt_irrefl _)
            have d2 := same_yes h
            clear h HUP
            go_wp2_with fail
            refine wp_region_quiet_lit (by kernel_rfl) (by kernel_rfl) ?_
            repeat (first | (go_big_quiet_step (fail)) | (quiet_step (fail)))
            refine wpQuiet_nil ?_
            rintro _ ⟨nq, rfl⟩
            go_wp2_with fail
            go_roundw
            case rel => exact ⟨true, j + 1 + 1, rfl, by simp, by omega, by omega, Lib.hid (fun _ => HV.out), below_drewN hbr _⟩
            case measure => simp [intOf]; omega
          · have d1 := less_no (EP.lt_asymm h)
            have d2 := same_no (a := s) (b := t) (fun e => EP.lt_irrefl (B t) (by rw [e] at h; exact h))
            clear h HUP
            go_wp2_with fail
            refine wp_region_quiet_lit (by kernel_rfl) (by kernel_rfl) ?_
            repeat (first | (go_big_quiet_step (fail)) | (quiet_step (fail)))
            refine wpQuiet_nil ?_
            rintro _ ⟨nq, rfl⟩
            go_wp2_with fail
            go_roundw
            case rel => exact ⟨false, j + 1 + 1, rfl, by simp, by omega, by omega, Lib.hid (fun h => by cases h), below_drewN hbr _⟩
            case measure => simp [intOf]; omega
      · obtain rfl : k = q + 1 := by omega
        obtain ⟨c, hc⟩ : ∃ c, EP.com (B s0) (B y) = c := ⟨_, rfl⟩
        have hmin : min (p : Int) c = (min p c : Nat) := by omega
        obtain ⟨M, hM⟩ : ∃ M, M = min p c := ⟨_, rfl⟩
        have HSA : Hid (∀ W, Lies W W.heap.size (some ⟨g2, 0, none⟩) (l ++ [y]) → Calls Try.prog 16 #[.slice (some ⟨g2, 0, none⟩) (q + 1 + 1 : Nat) cap2] W fun e w' => e = .returned (.int .i64 M) ∧ Below W.heap.size W w') := Lib.hid (fun W h => by
          have h1 := span_any (some ⟨g2, 0, none⟩) (l ++ [y]) cap2 W h (by simp [← HN.out]; omega) (fun s hs => by
            rcases List.mem_append.1 hs with h | h
            · exact HSS.out s h
            · rw [List.mem_singleton.1 h]; exact hy) (by simp [← HN.out]; omega)
          rw [HSNOC.out s0 y H0.out, hc, ← hM, List.length_append, ← HN.out] at h1
          exact h1)
        have hM' : min (p : Int) c = M := by omega
        have HC1 := Lib.hid (tCommon s0 y c hz0' hy hc)
        have HC2 := Lib.hid (tCommon y s0 c hy hz0' (by rw [EP.com_comm]; exact hc))
        have x0 : wr.cell? ⟨g, 0, none⟩ = some (.string s0) := by
          obtain ⟨_, e, _, h⟩ := (HL6.out.below hbr) 0 s0 H0.out
          obtain rfl := Option.some.inj e
          rw [addr_at] at h
          exact h
        have xq : wr.cell? ⟨g, q, none⟩ = some (.string sl) := by
          obtain ⟨_, e, _, h⟩ := (HL6.out.below hbr) q sl HQ.out
          obtain rfl := Option.some.inj e
          rw [addr_at] at h
          exact h
        have hgb : g < w6.heap.size := by
          obtain ⟨_, e, h, _⟩ := HL6.out 0 s0 H0.out
          obtain rfl := Option.some.inj e
          exact h
        have HB0 : Hid (Below w6.heap.size w6 wr.drew) := Lib.hid hbr.drew
        have HS0 : Hid (wr.drew.cell? ⟨g, 0, none⟩ = some (.string s0) ∧ wr.drew.cell? ⟨g, q, none⟩ = some (.string sl) ∧ Hid (Below w6.heap.size w6 wr.drew)) := Lib.hid ⟨x0, xq, HB0⟩
        have HKeep : Hid (∀ W W' : World, Below W.heap.size W W' → (W.cell? ⟨g, 0, none⟩ = some (.string s0) ∧ W.cell? ⟨g, q, none⟩ = some (.string sl) ∧ Hid (Below w6.heap.size w6 W)) → (W'.cell? ⟨g, 0, none⟩ = some (.string s0) ∧ W'.cell? ⟨g, q, none⟩ = some (.string sl) ∧ Hid (Below w6.heap.size w6 W'))) := Lib.hid (fun W W' hb h => by
          have h1 := h.2.2.out.size
          exact ⟨(hb.cell (by show g < _; omega)).trans h.1, (hb.cell (by show g < _; omega)).trans h.2.1, Lib.hid (h.2.2.out.trans' hb)⟩)
        have hq4 : ((M : Int) == M) = true := by simp
        have hq5 : ((c : Int) == c) = true := by simp
        have hq0 : (0 : Int) ≤ (q : Int) := by omega
        have hq1 : (q : Int) < (q : Int) + 1 := by omega
        have hqw : IntKind.i64.wrap (q : Int) = q := IntWalk.i64_in _ (by omega)
        have hq6 : (0 : Int) < (q : Int) + 1 := by omega
        clear hmin hM hc hlt hgb
        cases r with
        | false =>
          clear HU
          go_wp2_with fail
          refine wp_region_held_drew (S := fun W => W.cell? ⟨g, 0, none⟩ = some (.string s0) ∧ W.cell? ⟨g, q, none⟩ = some (.string sl) ∧ Hid (Below w6.heap.size w6 W)) (by kernel_rfl) HS0.out (fun hHeld => ?_)
          refine take_op (i := 0) (d := some 53) (v := ?_) rfl rfl (by kernel_rfl) (by kernel_rfl) (by kernel_rfl) (fun _ _ _ h => h) (Or.inl ⟨by kernel_rfl, ?_⟩) (by assumption) ?_
          rotate_left
          · intro W hSw; (try dsimp only at hSw); go_simp; with_reducible rfl
          try simp only [Act.put, List.setIfInBounds_toArray, List.set_cons_zero, List.set_cons_succ]
          refine take_op (i := 2) (d := some 55) (v := ?_) rfl rfl (by kernel_rfl) (by kernel_rfl) (by kernel_rfl) (fun _ _ _ h => h) (Or.inl ⟨by kernel_rfl, ?_⟩) (by assumption) ?_
          rotate_left
          · intro W hSw; (try dsimp only at hSw); go_simp; with_reducible rfl
          try simp only [Act.put, List.setIfInBounds_toArray, List.set_cons_zero, List.set_cons_succ]
          refine take_op (i := 3) (d := some 56) (v := ?_) rfl rfl (by kernel_rfl) (by kernel_rfl) (by kernel_rfl) (fun _ _ _ h => h) (Or.inl ⟨by kernel_rfl, ?_⟩) (by assumption) ?_
          rotate_left
          · intro W hSw; (try dsimp only at hSw); go_simp; with_reducible rfl
          try simp only [Act.put, List.setIfInBounds_toArray, List.set_cons_zero, List.set_cons_succ]
          refine take_op (i := 4) (d := some 57) (v := ?_) rfl rfl (by kernel_rfl) (by kernel_rfl) (by kernel_rfl) (fun _ _ _ h => h) (Or.inl ⟨by kernel_rfl, ?_⟩) (by assumption) ?_
          rotate_left
          · intro W hSw; (try dsimp only at hSw); go_simp; with_reducible rfl
          try simp only [Act.put, List.setIfInBounds_toArray, List.set_cons_zero, List.set_cons_succ]
          refine take_op (i := 5) (d := some 58) (v := ?_) rfl rfl (by kernel_rfl) (by kernel_rfl) (by kernel_rfl) (fun _ _ _ h => h) (Or.inl ⟨by kernel_rfl, ?_⟩) (by assumption) ?_
          rotate_left
          · intro W hSw; (try dsimp only at hSw); go_simp; with_reducible rfl
          try simp only [Act.put, List.setIfInBounds_toArray, List.set_cons_zero, List.set_cons_succ]
          refine take_op (i := 6) (d := some 59) (v := ?_) rfl rfl (by kernel_rfl) (by kernel_rfl) (by kernel_rfl) (fun _ _ _ h => h) (Or.inl ⟨by kernel_rfl, ?_⟩) (by assumption) ?_
          rotate_left
          · intro W hSw; (try dsimp only at hSw); go_simp; with_reducible rfl
          try simp only [Act.put, List.setIfInBounds_toArray, List.set_cons_zero, List.set_cons_succ]
          refine wpAnyH_ready (rs := [1]) (by kernel_rfl) (by simp) (AllReadyH.cons rfl (fun KK hK => ?_) AllReadyH.nil)
          go_simp
          refine (HSA.out _ (HLall.out.on hHeld.2.2.out)).mono ?_
          rintro e x1 ⟨rfl, hx1⟩
          go_wp2_with fail
          have hHeld2 := HKeep.out _ _ hx1 hHeld
          refine hK.out _ _ hHeld2 (fun _ => ?_)
          clear hK KK hHeld
          have hHeld := hHeld2
          clear hHeld2
          try simp only [Act.put, List.setIfInBounds_toArray, List.set_cons_zero, List.set_cons_succ]
          refine wpAnyH_ready (rs := [7]) (by kernel_rfl) (by simp) (AllReadyH.cons rfl (fun KK hK => ?_) AllReadyH.nil)
          go_simp
          refine (HC1.out _).mono ?_
          rintro e x2 ⟨rfl, hx2⟩
          go_wp2_with fail
          have hHeld2 := HKeep.out _ _ hx2 hHeld
          refine hK.out _ _ hHeld2 (fun _ => ?_)
          clear hK KK hHeld
          have hHeld := hHeld2
          clear hHeld2
          try simp only [Act.put, List.setIfInBounds_toArray, List.set_cons_zero, List.set_cons_succ]
          refine take_op (i := 8) (d := some 61) (v := ?_) rfl rfl (by kernel_rfl) (by kernel_rfl) (by kernel_rfl) (fun _ _ _ h => h) (Or.inl ⟨by kernel_rfl, ?_⟩) (by assumption) ?_
          rotate_left
          · intro W hSw; (try dsimp only at hSw); go_simp; with_reducible rfl
          try simp only [Act.put, List.setIfInBounds_toArray, List.set_cons_zero, List.set_cons_succ]
          refine take_op (i := 9) (d := some 62) (v := ?_) rfl rfl (by kernel_rfl) (by kernel_rfl) (by kernel_rfl) (fun _ _ _ h => h) (Or.inl ⟨by kernel_rfl, ?_⟩) (by assumption) ?_
          rotate_left
          · intro W hSw; (try dsimp only at hSw); go_simp; with_reducible rfl
          try simp only [Act.put, List.setIfInBounds_toArray, List.set_cons_zero, List.set_cons_succ]
          refine take_op (i := 10) (d := some 63) (v := ?_) rfl rfl (by kernel_rfl) (by kernel_rfl) (by kernel_rfl) (fun _ _ _ h => h) (Or.inl ⟨by kernel_rfl, ?_⟩) (by assumption) ?_
          rotate_left
          · intro W hSw; (try dsimp only at hSw); go_simp; with_reducible rfl
          try simp only [Act.put, List.setIfInBounds_toArray, List.set_cons_zero, List.set_cons_succ]
          refine take_op (i := 11) (d := some 64) (v := ?_) rfl rfl (by kernel_rfl) (by kernel_rfl) (by kernel_rfl) (fun _ _ _ h => h) (Or.inl ⟨by kernel_rfl, ?_⟩) (by assumption) ?_
          rotate_left
          · intro W hSw; (try dsimp only at hSw); go_simp; with_reducible rfl
          try simp only [Act.put, List.setIfInBounds_toArray, List.set_cons_zero, List.set_cons_succ]
          refine take_op (i := 12) (d := some 65) (v := ?_) rfl rfl (by kernel_rfl) (by kernel_rfl) (by kernel_rfl) (fun _ _ _ h => h) (Or.inl ⟨by kernel_rfl, ?_⟩) (by assumption) ?_
          rotate_left
          · intro W hSw; (try dsimp only at hSw); go_simp; with_reducible rfl
          try simp only [Act.put, List.setIfInBounds_toArray, List.set_cons_zero, List.set_cons_succ]
          refine take_op (i := 13) (d := some 66) (v := ?_) rfl rfl (by kernel_rfl) (by kernel_rfl) (by kernel_rfl) (fun _ _ _ h => h) (Or.inl ⟨by kernel_rfl, ?_⟩) (by assumption) ?_
          rotate_left
          · intro W hSw; (try dsimp only at hSw); go_simp; with_reducible rfl
          try simp only [Act.put, List.setIfInBounds_toArray, List.set_cons_zero, List.set_cons_succ]
          refine skip_op (i := 14) (d := some 67) rfl rfl (by kernel_rfl) (by kernel_rfl) (by kernel_rfl) (fun _ _ _ h => h) (by kernel_rfl) (by assumption) ?_
          try simp only [Act.put, List.setIfInBounds_toArray, List.set_cons_zero, List.set_cons_succ]
          refine skip_op (i := 15) (d := some 68) rfl rfl (by kernel_rfl) (by kernel_rfl) (by kernel_rfl) (fun _ _ _ h => h) (by kernel_rfl) (by assumption) ?_
          try simp only [Act.put, List.setIfInBounds_toArray, List.set_cons_zero, List.set_cons_succ]
          refine skip_op (i := 16) (d := some 69) rfl rfl (by kernel_rfl) (by kernel_rfl) (by kernel_rfl) (fun _ _ _ h => h) (by kernel_rfl) (by assumption) ?_
          try simp only [Act.put, List.setIfInBounds_toArray, List.set_cons_zero, List.set_cons_succ]
          refine skip_op (i := 17) (d := some 70) rfl rfl (by kernel_rfl) (by kernel_rfl) (by kernel_rfl) (fun _ _ _ h => h) (by kernel_rfl) (by assumption) ?_
          try simp only [Act.put, List.setIfInBounds_toArray, List.set_cons_zero, List.set_cons_succ]
          refine skip_op (i := 18) (d := some 71) rfl rfl (by kernel_rfl) (by kernel_rfl) (by kernel_rfl) (fun _ _ _ h => h) (by kernel_rfl) (by assumption) ?_
          try simp only [Act.put, List.setIfInBounds_toArray, List.set_cons_zero, List.set_cons_succ]
          refine skip_op (i := 19) (d := some 72) rfl rfl (by kernel_rfl) (by kernel_rfl) (by kernel_rfl) (fun _ _ _ h => h) (by kernel_rfl) (by assumption) ?_
          try simp only [Act.put, List.setIfInBounds_toArray, List.set_cons_zero, List.set_cons_succ]
          refine skip_op (i := 20) (d := some 73) rfl rfl (by kernel_rfl) (by kernel_rfl) (by kernel_rfl) (fun _ _ _ h => h) (by kernel_rfl) (by assumption) ?_
          try simp only [Act.put, List.setIfInBounds_toArray, List.set_cons_zero, List.set_cons_succ]
          refine skip_op (i := 21) (d := some 74) rfl rfl (by kernel_rfl) (by kernel_rfl) (by kernel_rfl) (fun _ _ _ h => h) (by kernel_rfl) (by assumption) ?_
          try simp only [Act.put, List.setIfInBounds_toArray, List.set_cons_zero, List.set_cons_succ]
          refine skip_op (i := 22) (d := some 75) rfl rfl (by kernel_rfl) (by kernel_rfl) (by kernel_rfl) (fun _ _ _ h => h) (by kernel_rfl) (by assumption) ?_
          try simp only [Act.put, List.setIfInBounds_toArray, List.set_cons_zero, List.set_cons_succ]
          refine skip_op (i := 23) (d := some 76) rfl rfl (by kernel_rfl) (by kernel_rfl) (by kernel_rfl) (fun _ _ _ h => h) (by kernel_rfl) (by assumption) ?_
          try simp only [Act.put, List.setIfInBounds_toArray, List.set_cons_zero, List.set_cons_succ]
          refine skip_op (i := 24) (d := some 77) rfl rfl (by kernel_rfl) (by kernel_rfl) (by kernel_rfl) (fun _ _ _ h => h) (by kernel_rfl) (by assumption) ?_
          try simp only [Act.put, List.setIfInBounds_toArray, List.set_cons_zero, List.set_cons_succ]
          refine skip_op (i := 25) (d := some 78) rfl rfl (by kernel_rfl) (by kernel_rfl) (by kernel_rfl) (fun _ _ _ h => h) (by kernel_rfl) (by assumption) ?_
          try simp only [Act.put, List.setIfInBounds_toArray, List.set_cons_zero, List.set_cons_succ]
          refine take_op (i := 26) (d := some 79) (v := ?_) rfl rfl (by kernel_rfl) (by kernel_rfl) (by kernel_rfl) (fun _ _ _ h => h) (Or.inl ⟨by kernel_rfl, ?_⟩) (by assumption) ?_
          rotate_left
          · intro W hSw; (try dsimp only at hSw); go_simp; with_reducible rfl
          try simp only [Act.put, List.setIfInBounds_toArray, List.set_cons_zero, List.set_cons_succ]
          refine take_op (i := 27) (d := some 80) (v := ?_) rfl rfl (by kernel_rfl) (by kernel_rfl) (by kernel_rfl) (fun _ _ _ h => h) (Or.inl ⟨by kernel_rfl, ?_⟩) (by assumption) ?_
          rotate_left
          · intro W hSw; (try dsimp only at hSw); go_simp; with_reducible rfl
          try simp only [Act.put, List.setIfInBounds_toArray, List.set_cons_zero, List.set_cons_succ]
          refine take_op (i := 28) (d := some 81) (v := ?_) rfl rfl (by kernel_rfl) (by kernel_rfl) (by kernel_rfl) (fun _ _ _ h => h) (Or.inl ⟨by kernel_rfl, ?_⟩) (by assumption) ?_
          rotate_left
          · intro W hSw; (try dsimp only at hSw); go_simp; with_reducible rfl
          try simp only [Act.put, List.setIfInBounds_toArray, List.set_cons_zero, List.set_cons_succ]
          refine take_op (i := 29) (d := some 82) (v := ?_) rfl rfl (by kernel_rfl) (by kernel_rfl) (by kernel_rfl) (fun _ _ _ h => h) (Or.inl ⟨by kernel_rfl, ?_⟩) (by assumption) ?_
          rotate_left
          · intro W hSw; (try dsimp only at hSw); go_simp; with_reducible rfl
          try simp only [Act.put, List.setIfInBounds_toArray, List.set_cons_zero, List.set_cons_succ]
          refine take_op (i := 30) (d := some 83) (v := ?_) rfl rfl (by kernel_rfl) (by kernel_rfl) (by kernel_rfl) (fun _ _ _ h => h) (Or.inl ⟨by kernel_rfl, ?_⟩) (by assumption) ?_
          rotate_left
          · intro W hSw; (try dsimp only at hSw); go_simp; with_reducible rfl
          try simp only [Act.put, List.setIfInBounds_toArray, List.set_cons_zero, List.set_cons_succ]
          refine take_op (i := 31) (d := some 84) (v := ?_) rfl rfl (by kernel_rfl) (by kernel_rfl) (by kernel_rfl) (fun _ _ _ h => h) (Or.inl ⟨by kernel_rfl, ?_⟩) (by assumption) ?_
          rotate_left
          · intro W hSw; (try dsimp only at hSw); go_simp; with_reducible rfl
          try simp only [Act.put, List.setIfInBounds_toArray, List.set_cons_zero, List.set_cons_succ]
          refine take_op (i := 32) (d := some 85) (v := ?_) rfl rfl (by kernel_rfl) (by kernel_rfl) (by kernel_rfl) (fun _ _ _ h => h) (Or.inl ⟨by kernel_rfl, ?_⟩) (by assumption) ?_
          rotate_left
          · intro W hSw; (try dsimp only at hSw); go_simp; with_reducible rfl
          try simp only [Act.put, List.setIfInBounds_toArray, List.set_cons_zero, List.set_cons_succ]
          refine take_op (i := 34) (d := some 87) (v := ?_) rfl rfl (by kernel_rfl) (by kernel_rfl) (by kernel_rfl) (fun _ _ _ h => h) (Or.inl ⟨by kernel_rfl, ?_⟩) (by assumption) ?_
          rotate_left
          · intro W hSw; (try dsimp only at hSw); go_simp; with_reducible rfl
          try simp only [Act.put, List.setIfInBounds_toArray, List.set_cons_zero, List.set_cons_succ]
          refine take_op (i := 35) (d := some 88) (v := ?_) rfl rfl (by kernel_rfl) (by kernel_rfl) (by kernel_rfl) (fun _ _ _ h => h) (Or.inl ⟨by kernel_rfl, ?_⟩) (by assumption) ?_
          rotate_left
          · intro W hSw; (try dsimp only at hSw); go_simp; with_reducible rfl
          try simp only [Act.put, List.setIfInBounds_toArray, List.set_cons_zero, List.set_cons_succ]
          refine take_op (i := 36) (d := some 89) (v := ?_) rfl rfl (by kernel_rfl) (by kernel_rfl) (by kernel_rfl) (fun _ _ _ h => h) (Or.inl ⟨by kernel_rfl, ?_⟩) (by assumption) ?_
          rotate_left
          · intro W hSw; (try dsimp only at hSw); go_simp; with_reducible rfl
          try simp only [Act.put, List.setIfInBounds_toArray, List.set_cons_zero, List.set_cons_succ]
          refine take_op (i := 37) (d := some 90) (v := ?_) rfl rfl (by kernel_rfl) (by kernel_rfl) (by kernel_rfl) (fun _ _ _ h => h) (Or.inl ⟨by kernel_rfl, ?_⟩) (by assumption) ?_
          rotate_left
          · intro W hSw; (try dsimp only at hSw); go_simp; with_reducible rfl
          try simp only [Act.put, List.setIfInBounds_toArray, List.set_cons_zero, List.set_cons_succ]
          refine wpAnyH_ready (rs := [33]) (by kernel_rfl) (by simp) (AllReadyH.cons rfl (fun KK hK => ?_) AllReadyH.nil)
          go_simp
          refine (HC1.out _).mono ?_
          rintro e x3 ⟨rfl, hx3⟩
          go_wp2_with fail
          have hHeld2 := HKeep.out _ _ hx3 hHeld
          refine hK.out _ _ hHeld2 (fun _ => ?_)
          clear hK KK hHeld
          have hHeld := hHeld2
          clear hHeld2
          try simp only [Act.put, List.setIfInBounds_toArray, List.set_cons_zero, List.set_cons_succ]
          refine wpAnyH_ready (rs := [38]) (by kernel_rfl) (by simp) (AllReadyH.cons rfl (fun KK hK => ?_) AllReadyH.nil)
          go_simp
          refine (HC2.out _).mono ?_
          rintro e x4 ⟨rfl, hx4⟩
          go_wp2_with fail
          have hHeld2 := HKeep.out _ _ hx4 hHeld
          refine hK.out _ _ hHeld2 (fun _ => ?_)
          clear hK KK hHeld
          have hHeld := hHeld2
          clear hHeld2
          try simp only [Act.put, List.setIfInBounds_toArray, List.set_cons_zero, List.set_cons_succ]
          refine take_op (i := 39) (d := some 92) (v := ?_) rfl rfl (by kernel_rfl) (by kernel_rfl) (by kernel_rfl) (fun _ _ _ h => h) (Or.inl ⟨by kernel_rfl, ?_⟩) (by assumption) ?_
          rotate_left
          · intro W hSw; (try dsimp only at hSw); go_simp; with_reducible rfl
          try simp only [Act.put, List.setIfInBounds_toArray, List.set_cons_zero, List.set_cons_succ]
          refine take_op (i := 40) (d := some 93) (v := ?_) rfl rfl (by kernel_rfl) (by kernel_rfl) (by kernel_rfl) (fun _ _ _ h => h) (Or.inl ⟨by kernel_rfl, ?_⟩) (by assumption) ?_
          rotate_left
          · intro W hSw; (try dsimp only at hSw); go_simp; with_reducible rfl
          try simp only [Act.put, List.setIfInBounds_toArray, List.set_cons_zero, List.set_cons_succ]
          refine take_op (i := 41) (d := some 94) (v := ?_) rfl rfl (by kernel_rfl) (by kernel_rfl) (by kernel_rfl) (fun _ _ _ h => h) (Or.inl ⟨by kernel_rfl, ?_⟩) (by assumption) ?_
          rotate_left
          · intro W hSw; (try dsimp only at hSw); go_simp; with_reducible rfl
          try simp only [Act.put, List.setIfInBounds_toArray, List.set_cons_zero, List.set_cons_succ]
          refine wpAnyH_ready (rs := [42]) (by kernel_rfl) (by simp) (AllReadyH.cons rfl (fun KK hK => ?_) AllReadyH.nil)
          go_simp
          refine (fixed_any _).mono ?_
          rintro e x5 ⟨rfl, hx5⟩
          go_wp2_with fail
          have hHeld2 := HKeep.out _ _ hx5 hHeld
          refine hK.out _ _ hHeld2 (fun _ => ?_)
          clear hK KK hHeld
          have hHeld := hHeld2
          clear hHeld2
          try simp only [Act.put, List.setIfInBounds_toArray, List.set_cons_zero, List.set_cons_succ]
          refine take_op (i := 43) (d := some 96) (v := ?_) rfl rfl (by kernel_rfl) (by kernel_rfl) (by kernel_rfl) (fun _ _ _ h => h) (Or.inl ⟨by kernel_rfl, ?_⟩) (by assumption) ?_
          rotate_left
          · intro W hSw; (try dsimp only at hSw); go_simp; with_reducible rfl
          try simp only [Act.put, List.setIfInBounds_toArray, List.set_cons_zero, List.set_cons_succ]
          refine take_op (i := 44) (d := some 4) (v := ?_) rfl rfl (by kernel_rfl) (by kernel_rfl) (by kernel_rfl) (fun _ _ _ h => h) (Or.inl ⟨by kernel_rfl, ?_⟩) (by assumption) ?_
          rotate_left
          · intro W hSw; (try dsimp only at hSw); go_simp; with_reducible rfl
          try simp only [Act.put, List.setIfInBounds_toArray, List.set_cons_zero, List.set_cons_succ]
          refine wpAnyH_done (by kernel_rfl) ?_ _
          go_wp2_with fail
          go_ret
          exact ⟨rfl, b6.trans' hHeld.2.2.out⟩
        | true =>
          have hpl : EP.com (B s0) (B sl) = p := by
            rw [← HUPS.out q s0 sl (by rw [← HN.out]; exact HU.out rfl) HN.out.symm H0.out HQ.out]
          have HC3 := Lib.hid (tCommon s0 sl p hz0' hzq hpl)
          have hq7 : ((p : Int) == p) = true := by simp
          clear HU hpl
          go_wp2_with fail
          go_region_held3 (fun W => W.cell? ⟨g, 0, none⟩ = some (.string s0) ∧ W.cell? ⟨g, q, none⟩ = some (.string sl) ∧ Hid (Below w6.heap.size w6 W))
            (first | assumption | exact HS0.out | exact HKeep.out _ _ (by assumption) (by assumption))
            (first
              | (go_at_call 20; refine (fixed_any _).mono ?_; rintro e x6 ⟨rfl, hx6⟩)
              | (go_at_call 14; have hz := hx4; refine (HC2.out _).mono ?_; rintro e x5 ⟨rfl, hx5⟩)
              | (go_at_call 14; have hz := hx3; refine (HC1.out _).mono ?_; rintro e x4 ⟨rfl, hx4⟩)
              | (go_at_call 14; have hz := hx2; refine (HC3.out _).mono ?_; rintro e x3 ⟨rfl, hx3⟩)
              | (go_at_call 14; have hz := hx1; refine (HC1.out _).mono ?_; rintro e x2 ⟨rfl, hx2⟩)
              | (go_at_call 16; refine (HSA.out _ (HLall.out.on HB0.out)).mono ?_; rintro e x1 ⟨rfl, hx1⟩)
              | fail "no arm")
          go_wp2_with fail
          go_ret
          exact ⟨rfl, (b6.trans' hbr).trans' ((((((below_of_drew hx1).trans' hx2).trans' hx3).trans' hx4).trans' hx5).trans' hx6)⟩
end Go.Proofs.Ytkeobalbfngniaa
