import Derived.Test.YtpeghilfldpgfaaGreatDoorQ16
namespace Go.Proofs.YtpeghilfldpgfaaGreatDoor
open Go.RowKit
set_option linter.unusedVariables false
set_option linter.unusedSimpArgs false
theorem dec_kinds {s : ByteArray} {x : GP.Pg} (h : GP.dec s = some x) : x.k = 2 ∨ x.k = 3 ∨ x.k = 4 ∨ x.k = 1 := by
  rcases GP.dec_cases s with ⟨l, -, -, -, -, h5⟩ | ⟨n, -, -, -, -, h5⟩ | ⟨c, -, -, -, -, h5⟩ | ⟨m, -, -, -, -, h5⟩ | ⟨-, -, -, -, h5⟩
  · obtain rfl := Option.some.inj (h5.symm.trans h)
    exact .inl rfl
  · obtain rfl := Option.some.inj (h5.symm.trans h)
    exact .inr (.inl rfl)
  · obtain rfl := Option.some.inj (h5.symm.trans h)
    exact .inr (.inr (.inl rfl))
  · obtain rfl := Option.some.inj (h5.symm.trans h)
    exact .inr (.inr (.inr rfl))
  · rw [h5] at h
    cases h
theorem dec_kind_ne {s : ByteArray} {x : GP.Pg} (h : GP.dec s = some x) : (x.k != 0) = true := by
  rcases dec_kinds h with e | e | e | e <;> rw [e] <;> rfl
theorem kindAt_one (l : List ByteArray) (i : Nat) (hi : 1 ≤ i) : GP.kindAt l i ≠ 1 := by
  unfold GP.kindAt
  by_cases h : i < l.length
  · have hl : l[i]? = some l[i] := List.getElem?_eq_getElem h
    cases hd : GP.dec l[i] with
    | none => rw [GP.at_none hl hd]; decide
    | some x =>
      by_cases hs : GP.self x = i
      · rw [GP.at_ok hl hd hs]
        intro e
        have : GP.self x = 0 := by simp [GP.self, show x.k = 1 from e]
        omega
      · rw [GP.at_moved hl hd hs]; decide
  · rw [GP.at_arg (by omega)]; decide
theorem survey_at {l : List ByteArray} {k : Nat} (h : k < l.length) : (GP.survey l)[k]? = some (GP.kindAt l k) := by simp [GP.survey, h]
theorem rem_at {a n k : Nat} (ha : a ≤ 255) (hk : a % n = k) : (wrap64 (a : Int)).tmod (n : Int) = (k : Int) := by
  rw [IntWalk.wrap64_in (a : Int) (by clear hk; omega), show (a : Int).tmod (n : Int) = ((a % n : Nat) : Int) from rfl, hk]
set_option maxHeartbeats 4000000 in
set_option maxRecDepth 100000 in
theorem pageMoves_nat (A : Option Addr) (l : List ByteArray) (ca : Nat) (s : ByteArray) (a : Nat) (w : World) (hg : L10.Glo w) (hla : L5.Lies w w.heap.size A l) (hls : ∀ s ∈ l, s.size ≤ maxLen) (hll : l.length ≤ maxLen) (ws : s.size ≤ maxLen) (wa : a ≤ 255) :
    Calls Tryz.prog 5 #[.slice A l.length ca, .string s, .int .u8 a] w fun e w' => e = .returned (.bool true) ∧ Below w.heap.size w w' := by
  obtain ⟨m, hm, hm1, hms, hm2, hts⟩ := L9.cut_min s 1100 (by decide)
  have q1 : (m : Int) ≤ s.size := by omega
  obtain ⟨X, hX⟩ : ∃ X, s.extract 0 m = X := ⟨_, rfl⟩
  rw [hX] at hts
  have HSX : Hid (X.size ≤ 1000000) := Lib.hid (by omega)
  have HCUT := Lib.hid (GC.cutO_any A l ca w hla hll hls)
  have HL0 := Lib.hid (GC.cutL_few l)
  have HS0 := Lib.hid (@GC.cutL_size l)
  have HF : Hid Fixes := Lib.hid fixed_any
  have HG := Lib.hid hg
  have HG0 := Lib.hid hg
  have HB := Lib.hid (Below.refl w.heap.size w)
  have HWA := Lib.hid wa
  generalize l.length = ln at *
  clear hg hm1 hms hts ws hla hls hll wa
  generalize GC.cutL l = L0 at *
  go_enter Tryz.func5, Tryz.ntmps5
  go_wp2_with fail
  refine HCUT.out.mono ?_
  rintro e V ⟨g, cap, rfl, hcap, hlies, hb, hown⟩
  replace HB := Lib.hid (HB.out.trans' hb)
  replace HG := Lib.hid (HG.out.on hb)
  have HO := Lib.hid hown
  have HLI := Lib.hid hlies
  obtain ⟨n, hn⟩ : ∃ n, L0.length = n := ⟨_, rfl⟩
  rw [hn] at HO HL0 ⊢
  have HNN := Lib.hid hn
  clear hb hown hlies hcap hn HCUT
  by_cases h0 : n = 0
  · subst h0
    obtain rfl : L0 = [] := List.eq_nil_of_length_eq_zero HNN.out
    clear HNN
    go_wp2_with fail
    clear hm hm2 hX q1
    refine (psurvey1 (l := []) (n := 0) rfl (by decide) (fun s h => by simp at h) HG.out HLI.out).mono ?_
    rintro e V ⟨G, gc, rfl, hl, hb⟩
    replace HB := Lib.hid (HB.out.trans' hb)
    replace HG := Lib.hid (HG.out.on hb)
    clear hl hb
    go_wp2_with fail
    refine (HF.out _ HG.out).mono ?_
    rintro e V4 ⟨rfl, hb⟩
    go_wp2_with fail
    go_ret
    exact ⟨rfl, HB.out.trans' hb⟩
  · have hnz : ((n : Int) == 0) = false := by simpa using h0
    have hnz2 : (n : Int) ≠ 0 := by omega
    obtain ⟨k, hk, hkn⟩ : ∃ k, a % n = k ∧ k < n := ⟨a % n, rfl, Nat.mod_lt _ (by omega)⟩
    have hrem := rem_at HWA.out hk
    have p1 : (0 : Int) ≤ k := by omega
    have p2 : (k : Int) < n := by omega
    obtain ⟨L, hL⟩ : ∃ L, L0.set k X = L := ⟨_, rfl⟩
    have hsto := HO.out.stored k (.string X)
    have hcell : V.cell? ⟨g, k, none⟩ = some (.string (L0[k]'(by have := HNN.out; omega))) := (HO.out.cellAt k (by omega)).trans (by simp [L5.strCells])
    have hfr := HO.out.frozenAt k
    have HOW : Hid (L5.Owns (V.setCell ⟨g, k, none⟩ (.string X)) w.heap.size (.slice (some ⟨g, 0, none⟩) n cap) n L) := Lib.hid (by
      have h := hsto.1
      rw [show (L5.strCells L0).set k (.string X) = L5.strCells L from by rw [← hL]; simp [L5.strCells, List.map_set]] at h
      exact h)
    have HLL : Hid (L.length = n) := Lib.hid (by rw [← hL, List.length_set]; exact HNN.out)
    have HL : Hid (L5.Lies (V.setCell ⟨g, k, none⟩ (.string X)) (V.setCell ⟨g, k, none⟩ (.string X)).heap.size (some ⟨g, 0, none⟩) L) := Lib.hid (L5.lies_own HOW.out HLL.out.symm)
    have hgw : w.heap.size ≤ g := (HO.out.lt g rfl).1
    have HBS : Hid (Below w.heap.size w (V.setCell ⟨g, k, none⟩ (.string X))) := Lib.hid (HB.out.setCell (p := ⟨g, k, none⟩) hgw (.string X))
    have HGS := Lib.hid (HG0.out.on HBS.out)
    have HSS : Hid (∀ s ∈ L, s.size ≤ 1000000) := Lib.hid (fun t ht => by
      rw [← hL] at ht
      rcases List.mem_or_eq_of_mem_set ht with h | h
      · exact HS0.out t h
      · rw [h]; exact HSX.out)
    have HLK : Hid (L[k]? = some X) := Lib.hid (by rw [← hL, List.getElem?_set_self (by have := HNN.out; omega)])
    have HSK : Hid ((GP.survey L)[k]? = some (GP.kindAt L k)) := Lib.hid (survey_at (by have := HLL.out; omega))
    have HSJ : Hid (∀ j, j < n → (GP.survey L)[j]? = some (GP.kindAt L j)) := Lib.hid (fun j hj => survey_at (by have := HLL.out; omega))
    have HN1 := Lib.hid (kindAt_one L)
    have HN30 : Hid (n ≤ 1000) := Lib.hid (by have := HL0.out; omega)
    clear hsto hL hgw HOW HO HLI HB HG hk
    go_wp2_with fail
    clear hcell hfr hm hm2 hX q1 hrem hnz2
    have HB := HBS
    have HG := HGS
    clear HBS HGS HS0 HL0 HNN
    generalize V.setCell ⟨g, k, none⟩ (.string X) = U at *
    cases hx : GP.dec X with
    | none =>
      have HDX := Lib.hid hx
      have HAT := Lib.hid (GP.at_none HLK.out hx)
      have HKK : Hid ((GP.survey L)[k]? = some 0) := Lib.hid ((HSK.out).trans (congrArg some (by unfold GP.kindAt; rw [HAT.out])))
      clear hx
      refine (pdec0 HDX.out HSX.out HG.out).mono ?_
      rintro e V ⟨rfl, hb⟩
      have hba := gbox_below 35 0 LV0 NV0 CV0 Mv0 V
      have hbb := hb.trans' hba
      replace HB := Lib.hid (HB.out.trans' hbb)
      replace HG := Lib.hid (HG.out.on hbb)
      replace HL := Lib.hid (HL.out.on hbb)
      have HX := Lib.hid (gbox_new 35 0 LV0 NV0 CV0 Mv0 V)
      have HXG := Lib.hid (hasG0 (gbox 35 0 LV0 NV0 CV0 Mv0 V))
      clear hb hba hbb
      go_wp2_with (first | (refine store_page Tryz.sizeG rfl _ _ rfl V.heap.size 0 LV0 NV0 CV0 Mv0 rfl rfl (gbox_zero 35 V) ?_; rw [setG_alloc]; generalize gbox 35 0 LV0 NV0 CV0 Mv0 V = V1 at *))
      generalize V.heap.size = gp at *
      refine (pat0 HAT.out HLL.out HSS.out HG.out HL.out).mono ?_
      rintro e V ⟨rfl, hb⟩
      have hba := gbox_below 35 0 LV0 NV0 CV0 Mv0 V
      have hbb := hb.trans' hba
      replace HB := Lib.hid (HB.out.trans' hbb)
      replace HG := Lib.hid (HG.out.on hbb)
      replace HL := Lib.hid (HL.out.on hbb)
      replace HX := Lib.hid (HX.out.below hbb)
      replace HXG := Lib.hid (HXG.out.on hbb)
      have HY := Lib.hid (gbox_new 35 0 LV0 NV0 CV0 Mv0 V)
      have HYG := Lib.hid (hasG0 (gbox 35 0 LV0 NV0 CV0 Mv0 V))
      clear hb hba hbb
      go_wp2_with (first | (refine store_page Tryz.sizeG rfl _ _ rfl V.heap.size 0 LV0 NV0 CV0 Mv0 rfl rfl (gbox_zero 35 V) ?_; rw [setG_alloc]; generalize gbox 35 0 LV0 NV0 CV0 Mv0 V = V1 at *) | (refine load_wantedP0 (.tmp 10) rfl HY.out rfl (by rfl) ?_))
      generalize V.heap.size = gq at *
      refine (psame_any _ HYG.out (hasG0 _) small0 small0 (q := true) (by simp)).mono ?_
      rintro e V ⟨rfl, hb⟩
      replace HB := Lib.hid (HB.out.trans' hb)
      replace HG := Lib.hid (HG.out.on hb)
      replace HL := Lib.hid (HL.out.on hb)
      clear hb HX HY HXG HYG
      go_wp2_with fail
      refine (psurvey1 HLL.out HN30.out HSS.out HG.out HL.out).mono ?_
      rintro e V ⟨G, gc, rfl, hl, hb⟩
      replace HB := Lib.hid (HB.out.trans' hb)
      replace HG := Lib.hid (HG.out.on hb)
      have HK := Lib.hid hl
      clear hb hl HL
      obtain ⟨ga, hga, hgb, hgc⟩ := HK.out k _ HKK.out
      subst hga
      go_wp2_with fail
      go_loopw [14] (fun iv wr => ∃ j : Nat, 1 ≤ j ∧ j ≤ n + 1 ∧ iv = .int .i64 j ∧ wr = V) (fun iv _ => n + 1 - (intOf iv).toNat)
      case atStart => exact ⟨1, by omega, by omega, rfl, rfl⟩
      case round =>
        obtain ⟨j, hj1, hjn, rfl, rfl⟩ := hrel
        by_cases hlt : j < n
        · have d1 : decide ((j : Int) < n) = true := decide_eq_true (by omega)
          obtain ⟨ga', hga', -, hgc'⟩ := HK.out j _ (HSJ.out j hlt)
          obtain rfl := Option.some.inj hga'
          have hne := HN1.out j hj1
          have q1 : (0 : Int) ≤ j := by omega
          have q2 : (j : Int) < n := by omega
          have q3 : wrap64 ((j : Int) + 1) = (j : Int) + 1 := IntWalk.wrap64_in _ (by have := HN30.out; omega)
          generalize GP.kindAt L j = kj at *
          have q4 : (kj == 1) = false := by simpa using hne
          clear hne hgc
          go_wp2_with fail
          have HQ3 := Lib.hid q3
          clear q3
          go_roundw
          case rel => exact ⟨j + 1, by omega, by omega, by rw [HQ3.out]; simp, by first | rfl | trivial⟩
          case measure => rw [HQ3.out]; simp only [intOf]; omega
        · have d1 : decide ((j : Int) < n) = false := decide_eq_false (by omega)
          clear hgc
          go_wp2_with fail
          refine (HF.out _ HG.out).mono ?_
          rintro e V4 ⟨rfl, hb⟩
          go_wp2_with fail
          go_ret
          exact ⟨rfl, HB.out.trans' hb⟩
    | some x =>
      have HDX := Lib.hid hx
      have HSM := Lib.hid (small_dec hx)
      have HKX := Lib.hid (dec_kind_ne hx)
      by_cases hs : GP.self x = k
      · have HAT := Lib.hid (GP.at_ok HLK.out hx hs)
        have HKK : Hid ((GP.survey L)[k]? = some x.k) := Lib.hid ((HSK.out).trans (congrArg some (by unfold GP.kindAt; rw [HAT.out])))
        have HS := Lib.hid hs
        clear hx hs
        refine (pdec1 HDX.out HSX.out HG.out).mono ?_
        rintro e V ⟨kp, ap, bp, cp, mp, rfl, hG, hO, hb⟩
        have hba := gbox_below 35 kp ap bp cp mp V
        have hbb := hb.trans' hba
        replace HB := Lib.hid (HB.out.trans' hbb)
        replace HG := Lib.hid (HG.out.on hbb)
        replace HL := Lib.hid (HL.out.on hbb)
        have HX := Lib.hid (gbox_new 35 kp ap bp cp mp V)
        have HXG := Lib.hid (hG.on hba)
        clear hb hba hbb hG hO
        go_wp2_with (first | (refine store_page Tryz.sizeG rfl _ _ rfl V.heap.size kp ap bp cp mp rfl rfl (gbox_zero 35 V) ?_; rw [setG_alloc]; generalize gbox 35 kp ap bp cp mp V = V1 at *))
        generalize V.heap.size = gp at *
        refine (pat1 HAT.out HLL.out HSS.out HG.out HL.out).mono ?_
        rintro e V ⟨kq, aq, bq, cq, mq, rfl, hG, hO, hb⟩
        have hba := gbox_below 35 kq aq bq cq mq V
        have hbb := hb.trans' hba
        replace HB := Lib.hid (HB.out.trans' hbb)
        replace HG := Lib.hid (HG.out.on hbb)
        replace HL := Lib.hid (HL.out.on hbb)
        replace HX := Lib.hid (HX.out.below hbb)
        replace HXG := Lib.hid (HXG.out.on hbb)
        have HY := Lib.hid (gbox_new 35 kq aq bq cq mq V)
        have HYG := Lib.hid (hG.on hba)
        clear hb hba hbb hG hO
        go_wp2_with (first | (refine store_page Tryz.sizeG rfl _ _ rfl V.heap.size kq aq bq cq mq rfl rfl (gbox_zero 35 V) ?_; rw [setG_alloc]; generalize gbox 35 kq aq bq cq mq V = V1 at *) | (refine load_wantedP0 (.tmp 8) rfl HX.out rfl (by rfl) ?_))
        generalize V.heap.size = gq at *
        refine ((pself1 HXG.out HS.out).out _).mono ?_
        rintro e V ⟨rfl, hb⟩
        replace HB := Lib.hid (HB.out.trans' hb)
        replace HG := Lib.hid (HG.out.on hb)
        replace HL := Lib.hid (HL.out.on hb)
        replace HX := Lib.hid (HX.out.below hb)
        replace HXG := Lib.hid (HXG.out.on hb)
        replace HY := Lib.hid (HY.out.below hb)
        replace HYG := Lib.hid (HYG.out.on hb)
        clear hb
        go_wp2_with (first | (refine load_wantedP0 (.tmp 8) rfl HX.out rfl (by rfl) ?_) | (refine load_wantedP0 (.tmp 10) rfl HY.out rfl (by rfl) ?_))
        refine (psame_any _ HXG.out HYG.out HSM.out HSM.out (q := true) (by simp)).mono ?_
        rintro e V ⟨rfl, hb⟩
        replace HB := Lib.hid (HB.out.trans' hb)
        replace HG := Lib.hid (HG.out.on hb)
        replace HL := Lib.hid (HL.out.on hb)
        have hk0 : (x.k != 0) = true := HKX.out
        have hk1 : (x.k == 0) = false := by simpa using hk0
        clear hb HX HY HXG HYG
        go_wp2_with fail
        refine (psurvey1 HLL.out HN30.out HSS.out HG.out HL.out).mono ?_
        rintro e V ⟨G, gc, rfl, hl, hb⟩
        replace HB := Lib.hid (HB.out.trans' hb)
        replace HG := Lib.hid (HG.out.on hb)
        have HK := Lib.hid hl
        clear hb hl HL
        obtain ⟨ga, hga, hgb, hgc⟩ := HK.out k _ HKK.out
        subst hga
        go_wp2_with fail
        go_loopw [14] (fun iv wr => ∃ j : Nat, 1 ≤ j ∧ j ≤ n + 1 ∧ iv = .int .i64 j ∧ wr = V) (fun iv _ => n + 1 - (intOf iv).toNat)
        case atStart => exact ⟨1, by omega, by omega, rfl, rfl⟩
        case round =>
          obtain ⟨j, hj1, hjn, rfl, rfl⟩ := hrel
          by_cases hlt : j < n
          · have d1 : decide ((j : Int) < n) = true := decide_eq_true (by omega)
            obtain ⟨ga', hga', -, hgc'⟩ := HK.out j _ (HSJ.out j hlt)
            obtain rfl := Option.some.inj hga'
            have hne := HN1.out j hj1
            have q1 : (0 : Int) ≤ j := by omega
            have q2 : (j : Int) < n := by omega
            have q3 : wrap64 ((j : Int) + 1) = (j : Int) + 1 := IntWalk.wrap64_in _ (by have := HN30.out; omega)
            generalize GP.kindAt L j = kj at *
            have q4 : (kj == 1) = false := by simpa using hne
            clear hne hgc
            go_wp2_with fail
            have HQ3 := Lib.hid q3
            clear q3
            go_roundw
            case rel => exact ⟨j + 1, by omega, by omega, by rw [HQ3.out]; simp, by first | rfl | trivial⟩
            case measure => rw [HQ3.out]; simp only [intOf]; omega
          · have d1 : decide ((j : Int) < n) = false := decide_eq_false (by omega)
            clear hgc
            go_wp2_with fail
            refine (HF.out _ HG.out).mono ?_
            rintro e V4 ⟨rfl, hb⟩
            go_wp2_with fail
            go_ret
            exact ⟨rfl, HB.out.trans' hb⟩
      · have HAT := Lib.hid (GP.at_moved HLK.out hx hs)
        have HKK : Hid ((GP.survey L)[k]? = some 0) := Lib.hid ((HSK.out).trans (congrArg some (by unfold GP.kindAt; rw [HAT.out])))
        obtain ⟨sx, hsx⟩ : ∃ sx, GP.self x = sx := ⟨_, rfl⟩
        have HS := Lib.hid hsx
        have hs0 : (sx == (k : Int)) = false := by rw [← hsx]; simpa using hs
        clear hx hs hsx
        refine (pdec1 HDX.out HSX.out HG.out).mono ?_
        rintro e V ⟨kp, ap, bp, cp, mp, rfl, hG, hO, hb⟩
        have hba := gbox_below 35 kp ap bp cp mp V
        have hbb := hb.trans' hba
        replace HB := Lib.hid (HB.out.trans' hbb)
        replace HG := Lib.hid (HG.out.on hbb)
        replace HL := Lib.hid (HL.out.on hbb)
        have HX := Lib.hid (gbox_new 35 kp ap bp cp mp V)
        have HXG := Lib.hid (hG.on hba)
        clear hb hba hbb hG hO
        go_wp2_with (first | (refine store_page Tryz.sizeG rfl _ _ rfl V.heap.size kp ap bp cp mp rfl rfl (gbox_zero 35 V) ?_; rw [setG_alloc]; generalize gbox 35 kp ap bp cp mp V = V1 at *))
        generalize V.heap.size = gp at *
        refine (pat0 HAT.out HLL.out HSS.out HG.out HL.out).mono ?_
        rintro e V ⟨rfl, hb⟩
        have hba := gbox_below 35 0 LV0 NV0 CV0 Mv0 V
        have hbb := hb.trans' hba
        replace HB := Lib.hid (HB.out.trans' hbb)
        replace HG := Lib.hid (HG.out.on hbb)
        replace HL := Lib.hid (HL.out.on hbb)
        replace HX := Lib.hid (HX.out.below hbb)
        replace HXG := Lib.hid (HXG.out.on hbb)
        have HY := Lib.hid (gbox_new 35 0 LV0 NV0 CV0 Mv0 V)
        have HYG := Lib.hid (hasG0 (gbox 35 0 LV0 NV0 CV0 Mv0 V))
        clear hb hba hbb
        go_wp2_with (first | (refine store_page Tryz.sizeG rfl _ _ rfl V.heap.size 0 LV0 NV0 CV0 Mv0 rfl rfl (gbox_zero 35 V) ?_; rw [setG_alloc]; generalize gbox 35 0 LV0 NV0 CV0 Mv0 V = V1 at *) | (refine load_wantedP0 (.tmp 8) rfl HX.out rfl (by rfl) ?_))
        generalize V.heap.size = gq at *
        refine ((pself1 HXG.out HS.out).out _).mono ?_
        rintro e V ⟨rfl, hb⟩
        replace HB := Lib.hid (HB.out.trans' hb)
        replace HG := Lib.hid (HG.out.on hb)
        replace HL := Lib.hid (HL.out.on hb)
        replace HX := Lib.hid (HX.out.below hb)
        replace HXG := Lib.hid (HXG.out.on hb)
        replace HY := Lib.hid (HY.out.below hb)
        replace HYG := Lib.hid (HYG.out.on hb)
        clear hb
        go_wp2_with (first | (refine load_wantedP0 (.tmp 8) rfl HX.out rfl (by rfl) ?_) | (refine load_wantedP0 (.tmp 10) rfl HY.out rfl (by rfl) ?_))
        refine (psame_any _ HYG.out (hasG0 _) small0 small0 (q := true) (by simp)).mono ?_
        rintro e V ⟨rfl, hb⟩
        replace HB := Lib.hid (HB.out.trans' hb)
        replace HG := Lib.hid (HG.out.on hb)
        replace HL := Lib.hid (HL.out.on hb)
        clear hb HX HY HXG HYG hs0
        go_wp2_with fail
        refine (psurvey1 HLL.out HN30.out HSS.out HG.out HL.out).mono ?_
        rintro e V ⟨G, gc, rfl, hl, hb⟩
        replace HB := Lib.hid (HB.out.trans' hb)
        replace HG := Lib.hid (HG.out.on hb)
        have HK := Lib.hid hl
        clear hb hl HL
        obtain ⟨ga, hga, hgb, hgc⟩ := HK.out k _ HKK.out
        subst hga
        go_wp2_with fail
        go_loopw [14] (fun iv wr => ∃ j : Nat, 1 ≤ j ∧ j ≤ n + 1 ∧ iv = .int .i64 j ∧ wr = V) (fun iv _ => n + 1 - (intOf iv).toNat)
        case atStart => exact ⟨1, by omega, by omega, rfl, rfl⟩
        case round =>
          obtain ⟨j, hj1, hjn, rfl, rfl⟩ := hrel
          by_cases hlt : j < n
          · have d1 : decide ((j : Int) < n) = true := decide_eq_true (by omega)
            obtain ⟨ga', hga', -, hgc'⟩ := HK.out j _ (HSJ.out j hlt)
            obtain rfl := Option.some.inj hga'
            have hne := HN1.out j hj1
            have q1 : (0 : Int) ≤ j := by omega
            have q2 : (j : Int) < n := by omega
            have q3 : wrap64 ((j : Int) + 1) = (j : Int) + 1 := IntWalk.wrap64_in _ (by have := HN30.out; omega)
            generalize GP.kindAt L j = kj at *
            have q4 : (kj == 1) = false := by simpa using hne
            clear hne hgc
            go_wp2_with fail
            have HQ3 := Lib.hid q3
            clear q3
            go_roundw
            case rel => exact ⟨j + 1, by omega, by omega, by rw [HQ3.out]; simp, by first | rfl | trivial⟩
            case measure => rw [HQ3.out]; simp only [intOf]; omega
          · have d1 : decide ((j : Int) < n) = false := decide_eq_false (by omega)
            clear hgc
            go_wp2_with fail
            refine (HF.out _ HG.out).mono ?_
            rintro e V4 ⟨rfl, hb⟩
            go_wp2_with fail
            go_ret
            exact ⟨rfl, HB.out.trans' hb⟩
theorem pageMoves_walk (A : Option Addr) (l : List ByteArray) (ca : Nat) (s : ByteArray) (a : Int) (w : World) (hg : L10.Glo w) (hla : L5.Lies w w.heap.size A l) (hls : ∀ s ∈ l, s.size ≤ maxLen) (hll : l.length ≤ maxLen) (ws : s.size ≤ maxLen) (wa : (Lit.int .u8 a).wf = true) :
    Calls Tryz.prog 5 #[.slice A l.length ca, .string s, .int .u8 a] w fun e w' => e = .returned (.bool true) ∧ Below w.heap.size w w' := by
  have h2 : 0 ≤ a ∧ a ≤ 255 := by simpa [Lit.wf, IntKind.min, IntKind.max, IntKind.signed, IntKind.bits] using wa
  obtain ⟨k, rfl⟩ := Int.eq_ofNat_of_zero_le h2.1
  exact pageMoves_nat A l ca s k w hg hla hls hll ws (by omega)
end Go.Proofs.YtpeghilfldpgfaaGreatDoor
