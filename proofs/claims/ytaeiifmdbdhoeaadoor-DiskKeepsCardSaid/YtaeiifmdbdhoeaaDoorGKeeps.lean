/-
  The walk of DiskKeeps.
-/
import Derived.Test.YtaeiifmdbdhoeaaDoorGKeep
namespace Go.Proofs.YtaeiifmdbdhoeaaDoor
open Go.RowKit
open Go.ChangeShapes
open DP (W D C)
set_option linter.unusedVariables false
set_option linter.unusedSimpArgs false

theorem all_step (q : List W) (kp : List ByteArray) (x : W) : DP.all (DP.zero 128) kp (q ++ [x]) = DP.put (DP.zero 128) (DP.all (DP.zero 128) kp q) x := DP.all_snoc _ _ _ _
theorem put_fill (wl : List ByteArray) (k : Nat) (s : ByteArray) : (DP.fill (pg 0) wl (k + 1)).set k s = DP.put (DP.zero 128) wl ⟨k, s⟩ := rfl
/-- What a choice leaves, as the law lays it. -/
theorem chosen_torn (l : List ByteArray) (x : W) (c : C) (at_ : Int) (hl : DP.Sized 128 l) (hx : x.s.size = 128) (h : c.k = 1 ∧ at_ = 128 ∨ c.k = 2 ∧ at_ = c.at_) : DP.chosen 128 l x c = DP.put (DP.zero 128) l ⟨x.i, DP.torn 128 (DP.page (DP.zero 128) l x.i) x.s at_⟩ := by
  unfold DP.chosen
  rcases h with ⟨h1, rfl⟩ | ⟨h1, rfl⟩
  · rw [if_pos h1, DP.torn_whole 128 _ _ _ (hl.page _) hx (by omega)]
  · rw [if_neg (by omega), if_pos h1]
theorem chosen_skip (l : List ByteArray) (x : W) (c : C) (h1 : c.k ≠ 1) (h2 : c.k ≠ 2) : DP.chosen 128 l x c = l := by
  unfold DP.chosen
  rw [if_neg h1, if_neg h2]
theorem fill_page (l : List ByteArray) (k : Nat) : (DP.fill (pg 0) l (k + 1))[k]? = some (DP.page (DP.zero 128) l k) := by
  unfold DP.page
  rw [List.getD_eq_getElem?_getD]
  rcases Nat.lt_or_ge k l.length with h | h
  · rw [DP.fill_old _ _ _ _ h, List.getElem?_eq_getElem h]
    rfl
  · rw [DP.fill_new _ _ _ _ h (by omega), List.getElem?_eq_none h]
    rfl
theorem crash_len (kp : List ByteArray) (q : List W) (cs : List C) : D.crash ⟨128, 8, kp, q, none, 0⟩ cs = ⟨128, 8, DP.crash 128 kp q cs, [], none, 0⟩ := rfl
theorem take_wrs (l : List (UInt8 × UInt8)) (m k : Nat) (x : UInt8 × UInt8) (h : l[k]? = some x) (hk : k < m) : (wrs (l.take m))[k]? = some (wr8 x) := by
  rw [wrs, List.getElem?_map, List.getElem?_take, if_pos hk, h]
  rfl
theorem wrs_whole (l : List (UInt8 × UInt8)) : ∀ w ∈ wrs l, w.s.size = 128 := fun w hw => by
  obtain ⟨x, _, rfl⟩ := List.mem_map.1 hw
  exact pg_size _
theorem wrs_inside (l : List (UInt8 × UInt8)) : ∀ w ∈ wrs l, w.i < 8 := fun w hw => by
  obtain ⟨x, _, rfl⟩ := List.mem_map.1 hw
  exact Nat.mod_lt _ (by omega)
theorem torn_clamp (was s : ByteArray) (at_ : Int) (k : Nat) (h : DP.clamp 128 at_ = k) : DP.torn 128 was s at_ = s.extract 0 k ++ was.extract k 128 := by
  unfold DP.torn
  rw [h]

set_option maxHeartbeats 8000000 in
set_option maxRecDepth 100000 in
theorem diskKeeps_walk (A0 : Option Addr) (l : List (UInt8 × UInt8)) (ca0 : Nat) (A1 : Option Addr) (l2 : List (UInt8 × UInt8)) (ca1 : Nat) (A2 : Option Addr) (cs : List C) (ca2 : Nat) (w : World) (hz : Sizes w)
    (hl : LiesR w w.heap.size A0 l) (hlm : l.length ≤ maxLen) (hl2 : LiesR w w.heap.size A1 l2) (hlm2 : l2.length ≤ maxLen) (hcs : LiesG w A2 cs) (hcw : ∀ c ∈ cs, (Lit.int .i64 c.k).wf = true) (hcm : cs.length ≤ maxLen) :
    Calls Tryd.prog 4 #[.slice A0 l.length ca0, .slice A1 l2.length ca1, .slice A2 cs.length ca2] w fun e w' => e = .returned (.bool true) ∧ Below w.heap.size w w' := by
  have hg0 := hz.lt
  have HZ : Hid (∀ W, Below w.heap.size w W → Sizes W) := Lib.hid (fun W hW => hz.below hg0 hW)
  have HFIX : Hid (∀ W, Below w.heap.size w W → Calls Tryd.prog 13 #[] W fun e w' => e = .returned (.bool true) ∧ Below W.heap.size W w') := Lib.hid (fun W hW => fixed_any W (hz.below hg0 hW) (Nat.lt_of_lt_of_le hg0 hW.size))
  have HN : Hid (w.heap.size ≤ w.heap.size) := Lib.hid (Nat.le_refl _)
  have HB0 : Hid (Below w.heap.size w w) := Lib.hid (Below.refl _ _)
  have HL := Lib.hid hl
  have HL2 := Lib.hid hl2
  have HCS := Lib.hid hcs
  unfold maxLen at hlm hlm2 hcm
  have HCM : Hid (cs.length ≤ 9223372036854775807) := Lib.hid hcm
  obtain ⟨n, hn⟩ : ∃ n, n = l.length := ⟨_, rfl⟩
  have HLN := Lib.hid hn
  rw [← hn] at hlm ⊢
  obtain ⟨n2, hn2⟩ : ∃ n2, n2 = l2.length := ⟨_, rfl⟩
  have HLN2 := Lib.hid hn2
  rw [← hn2] at hlm2 ⊢
  obtain ⟨cn, hcn⟩ : ∃ cn, cn = cs.length := ⟨_, rfl⟩
  have HCN := Lib.hid hcn
  rw [← hcn] at hcm ⊢
  have HSN : Hid (∀ k x, l[k]? = some x → wrs (l.take (k + 1)) = wrs (l.take k) ++ [wr8 x]) := Lib.hid (wrs_snoc l)
  have HSN2 : Hid (∀ k x, l2[k]? = some x → wrs (l2.take (k + 1)) = wrs (l2.take k) ++ [wr8 x]) := Lib.hid (wrs_snoc l2)
  clear hz hl hn hl2 hn2 hcs hcw hcn hg0
  obtain ⟨i0, hi, hz0, hz1, hz2⟩ := info_parts Tryd.infoText
  go_enter Tryd.func4, Tryd.ntmps4
  go_wp2_with fail
  refine (new_at HB0.out HN.out (HZ.out _ HB0.out) 128 8 _ _ rfl rfl rfl (by decide) (by decide)).mono ?_
  rintro e w1 ⟨b, rfl, ha1, _, _⟩
  have HK1 : Hid (KW w.heap.size w (w1.alloc (.cells #[] 9)) b ⟨128, 8, [], wrs (l.take 0), none, 0⟩ w1.heap.size 0 []) := Lib.hid (kw_new ha1 HN.out)
  clear ha1
  go_wp2_with fail
  go_loopw [9, 10] (fun wv iv wr => ∃ (k g cap nl : Nat) (wl : List ByteArray), k ≤ min n 12 ∧ iv = .int .i64 k ∧ wv = .slice (some ⟨g, 0, none⟩) nl cap ∧ nl ≤ 8 ∧ Hid (nl = wl.length) ∧ Hid (wl = DP.all (DP.zero 128) [] (wrs (l.take k))) ∧ Hid (KW w.heap.size w wr b ⟨128, 8, [], wrs (l.take k), none, 0⟩ g cap wl)) (fun _ iv _ => 12 - (intOf iv).toNat)
  case atStart => exact ⟨0, w1.heap.size, 0, 0, [], by omega, rfl, rfl, by omega, Lib.hid rfl, Lib.hid rfl, HK1⟩
  case round =>
    clear HK1
    obtain ⟨k, g, cap, nl, wl, hk, rfl, rfl, hnl, HNL, HWL, HK⟩ := hrel
    by_cases hlt : k < min n 12
    · have d1 : decide ((k : Int) < (n : Int)) = true := decide_eq_true (by omega)
      have d1n : decide (k < n) = true := decide_eq_true (by omega)
      have d2 : decide ((k : Int) < 12) = true := decide_eq_true (by omega)
      have d2n : decide (k < 12) = true := decide_eq_true (by omega)
      have hk0 : (0 : Int) ≤ k := by omega
      have hkn : (k : Int) < n := by omega
      obtain ⟨x, hx⟩ : ∃ x, l[k]? = some x := ⟨_, List.getElem?_eq_getElem (by have := HLN.out; omega)⟩
      obtain ⟨a, rfl, hab, x0, x1⟩ := (HL.out.below HK.out.bel) k x hx
      have hi8 : x.1.toNat ≤ 255 := by have := x.1.toNat_lt; omega
      obtain ⟨j0, hj0⟩ : ∃ j0, j0 = x.1.toNat := ⟨_, rfl⟩
      obtain ⟨m8, hm8⟩ : ∃ m8, m8 = j0 % 8 := ⟨_, rfl⟩
      have HWX : Hid (wr8 x = ⟨m8, pg x.2⟩) := Lib.hid (by rw [hm8, hj0]; rfl)
      rw [← hj0] at hi8 x0
      have hmd : (j0 : Int) % 8 = (m8 : Int) := by omega
      have hmd2 : (j0 : Int).tmod 8 = (m8 : Int) := by rw [Int.tmod_eq_emod_of_nonneg (by omega)]; exact hmd
      have hm8' : m8 < 8 := by omega
      have wi : IntKind.i64.wrap (j0 : Int) = (j0 : Int) := IntWalk.i64_in _ (by omega)
      obtain ⟨c, hc⟩ : ∃ c, c = x.2 := ⟨_, rfl⟩
      rw [← hc] at x1 HWX
      have HCELL : Hid (∀ V, Below w.heap.size w V → V.cell? (a.add (k * 2)) = some (.int .u8 (j0 : Nat)) ∧ V.cell? ⟨(a.add (k * 2)).block, (a.add (k * 2)).off + 1, none⟩ = some (.int .u8 c.toNat)) := Lib.hid (fun V hV => by
        obtain ⟨_, e, hab', y0, y1⟩ := (HL.out.below hV) k x hx
        obtain rfl := Option.some.inj e
        rw [← hj0] at y0
        rw [← hc] at y1
        exact ⟨y0, y1⟩)
      have hm0 : (0 : Int) ≤ m8 := by omega
      have HST : Hid (D.write ⟨128, 8, [], wrs (l.take k), none, 0⟩ (m8 : Int) (pg c) = (⟨128, 8, [], wrs (l.take (k + 1)), none, 0⟩, 0)) := Lib.hid (by
        have h1 := w8 ⟨128, 8, [], wrs (l.take k), none, 0⟩ x rfl (Nat.le_refl _) rfl
        rw [← hj0, ← hm8, ← hc] at h1
        rw [h1, HSN.out k x hx])
      have HNEW : Hid (DP.all (DP.zero 128) [] (wrs (l.take (k + 1))) = DP.put (DP.zero 128) wl ⟨m8, pg c⟩) := Lib.hid (by rw [HSN.out k x hx, all_step, ← HWL.out, HWX.out])
      obtain ⟨dd, hdd⟩ : ∃ dd, dd = D.mk 128 8 [] (wrs (l.take k)) none 0 := ⟨_, rfl⟩
      rw [← hdd] at HK HST
      clear hx hj0 hm8 hc hab hdd
      go_wp2_with fail
      clear x0 x1
      go_loopw [9] (fun wv wr => ∃ (g cap nl : Nat) (cur : List ByteArray), wv = .slice (some ⟨g, 0, none⟩) nl cap ∧ nl ≤ 8 ∧ Hid (nl = cur.length) ∧ Hid (DP.fill (pg 0) cur (m8 + 1) = DP.fill (pg 0) wl (m8 + 1)) ∧ Hid (KW w.heap.size w wr b dd g cap cur)) (fun wv _ => 8 - lenOf wv)
      case atStart => exact ⟨g, cap, nl, wl, rfl, hnl, HNL, Lib.hid rfl, HK⟩
      case round =>
        clear HK HNL hnl
        obtain ⟨g, cap, nl, cur, rfl, hnl, HNL, HFE, HKR⟩ := hrel
        by_cases hle : nl ≤ m8
        · have dl : decide ((nl : Int) ≤ (m8 : Int)) = true := decide_eq_true (by omega)
          have dln : decide (nl ≤ m8) = true := decide_eq_true hle
          have HFS : Hid (DP.fill (pg 0) (cur ++ [pg 0]) (m8 + 1) = DP.fill (pg 0) wl (m8 + 1)) := Lib.hid (by rw [DP.fill_snoc _ _ _ (by have := HNL.out; omega)]; exact HFE.out)
          go_wp2_with fail
          refine (page_at 0 _ rfl _).mono ?_
          rintro e w3 ⟨rfl, hb3⟩
          have HK3 := Lib.hid ((HKR.out.below HN.out hb3).below HN.out (below_alloc w3 (.cells #[.string (pg 0)] 9)))
          have hrow := HK3.out.row
          rw [← HNL.out] at hrow
          have HROW := Lib.hid hrow
          clear hb3 hrow HKR
          go_wp2_with (at_builtin; refine wpList_append_lies _ rfl _ _ 39 rfl w.heap.size 9 i0 (.string ⟨#[]⟩) 1 16 Tryd.underlying39 hi hz0 hz1 hz2 rfl (by decide) (.slice (some ⟨g, 0, none⟩) nl cap) nl _ rfl HROW.out ⟨w3.heap.size, 0, none⟩ 1 1 [.string (pg 0)] rfl rfl (World.news_of_block (cs := #[.string (pg 0)]) (t := 9) (fr := (0, 0)) (heap_alloc_new w3 _)) (str_one _) (by omega) (by unfold maxLen; omega) (by omega) (by exact HK3.out.bel.size) (w3.heap.size + 1) (by simp) ?_; intro g' cap' w5 hown5 hgrow5 hat5 hlt5; have HK5 : Hid (KW w.heap.size w w5 b dd g' cap' (cur ++ [pg 0])) := Lib.hid (HK3.out.more HN.out (by rw [← HNL.out]; exact hown5) (by rw [← HNL.out]; exact hgrow5) (by rw [← HNL.out]; simpa using hat5)); clear hown5 hgrow5 hat5 hlt5)
          go_roundw
          case rel => exact ⟨g', cap', nl + 1, cur ++ [pg 0], by first | rfl | simp, by omega, Lib.hid (by rw [List.length_append, HNL.out]; rfl), HFS, HK5⟩
          case measure => simp [lenOf]; omega
        · have dl : decide ((nl : Int) ≤ (m8 : Int)) = false := decide_eq_false (by omega)
          have dln : decide (nl ≤ m8) = false := decide_eq_false hle
          have HCUR : Hid (cur = DP.fill (pg 0) wl (m8 + 1)) := Lib.hid (by rw [← HFE.out, DP.fill_enough _ _ _ (by have := HNL.out; omega)])
          have hmn : (m8 : Int) < (nl : Int) := by omega
          have HMN : Hid (m8 < nl) := Lib.hid (by omega)
          have HWK : Hid (cur[m8]? = some (DP.page (DP.zero 128) wl m8)) := Lib.hid (by rw [HCUR.out]; exact fill_page wl m8)
          clear hle HFE
          obtain ⟨y0, y1⟩ := HCELL.out wr HKR.out.bel
          go_wp2_with fail
          refine (page_law c _).mono ?_
          rintro e w6 ⟨rfl, hb6⟩
          have HK6 := Lib.hid (HKR.out.below HN.out hb6)
          have hcell := HK6.out.row.cellAt m8 (by have := HNL.out; have := HMN.out; omega)
          have cw : w6.cell? ⟨g, m8, none⟩ = some (.string (DP.page (DP.zero 128) wl m8)) := hcell.trans (by simp [strCells, HWK.out])
          have fw := HK6.out.row.frozenAt m8
          have HK7 : Hid (KW w.heap.size w (w6.setCell ⟨g, m8, none⟩ (.string (pg c))) b dd g cap (cur.set m8 (pg c))) := Lib.hid (HK6.out.set HN.out m8 (pg c))
          obtain ⟨z0, z1⟩ := HCELL.out _ HK7.out.bel
          have HSET : Hid (cur.set m8 (pg c) = DP.all (DP.zero 128) [] (wrs (l.take (k + 1)))) := Lib.hid (by rw [HNEW.out, HCUR.out]; rfl)
          have HNL7 : Hid (nl = (cur.set m8 (pg c)).length) := Lib.hid (by rw [List.length_set]; exact HNL.out)
          clear hb6 hcell y0 y1 HKR
          go_wp2_with fail
          refine (page_law c _).mono ?_
          rintro e w8 ⟨rfl, hb8⟩
          have HK8 := Lib.hid (HK7.out.below HN.out hb8)
          clear hb8 cw fw z0 z1
          go_wp2_with fail
          refine (kw_write HK8.out HN.out _ 0 _ (by simp [Lit.wf, IntKind.min, IntKind.max, IntKind.signed, IntKind.bits]; omega) (by rw [pg_size]; unfold maxLen; decide) HST.out).mono ?_
          rintro e w9 ⟨rfl, hk9⟩
          have HK9 := Lib.hid hk9
          clear hk9
          go_wp2_with fail
          go_roundw
          case rel => exact ⟨k + 1, g, cap, nl, _, by omega, by first | rfl | simp, rfl, hnl, HNL7, HSET, HK9⟩
          case measure => simp [intOf]; omega
    · skip
      have hkcase : (decide ((k : Int) < (n : Int)) = false ∧ decide (k < n) = false) ∨ (decide ((k : Int) < (n : Int)) = true ∧ decide (k < n) = true) ∧ decide ((k : Int) < 12) = false ∧ decide (k < 12) = false := by
        by_cases h : k < n
        · exact .inr ⟨⟨decide_eq_true (by omega), decide_eq_true h⟩, decide_eq_false (by omega), decide_eq_false (by omega)⟩
        · exact .inl ⟨decide_eq_false (by omega), decide_eq_false h⟩
      obtain ⟨q, hq⟩ : ∃ q, q = wrs (l.take k) := ⟨_, rfl⟩
      have HQ8 : Hid (DP.all (DP.zero 128) [] q = wl) := Lib.hid (by rw [hq]; exact HWL.out.symm)
      rw [← hq] at HK
      have HSY : Hid (D.sync ⟨128, 8, [], q, none, 0⟩ = (⟨128, 8, wl, [], none, 0⟩, 0)) := Lib.hid (by rw [sync_none]; show (_, _) = _; rw [show D.all ⟨128, 8, [], q, none, 0⟩ = wl from HQ8.out])
      clear hlt hk hq
      obtain ⟨m2, hm2⟩ : ∃ m2, m2 = min n2 12 := ⟨_, rfl⟩
      obtain ⟨Q, hQ⟩ : ∃ Q, Q = wrs (l2.take m2) := ⟨_, rfl⟩
      have HQL : Hid (Q.length = m2) := Lib.hid (by rw [hQ, wrs_length, List.length_take]; have := HLN2.out; omega)
      have HQW : Hid (∀ w ∈ Q, w.s.size = 128) := Lib.hid (by rw [hQ]; exact wrs_whole _)
      have HQI : Hid (∀ w ∈ Q, w.i < 8) := Lib.hid (by rw [hQ]; exact wrs_inside _)
      have HQG : Hid (∀ k x, l2[k]? = some x → k < m2 → Q[k]? = some (wr8 x)) := Lib.hid (fun k x h1 h2 => by rw [hQ]; exact take_wrs l2 m2 k x h1 h2)
      have HQE : Hid (wrs (l2.take m2) = Q) := Lib.hid hQ.symm
      clear hQ
      rcases hkcase with ⟨e1, e2⟩ | ⟨⟨e1, e2⟩, e3, e4⟩
      all_goals
        go_wp2_with fail
        refine (kw_sync HK.out HN.out 0 HSY.out).mono ?_
        rintro e w5 ⟨rfl, hk5⟩
        have HK5 := Lib.hid hk5
        clear hk5
        go_wp2_with fail
        refine (at_all HK5.out.at_ HN.out wl rfl).mono ?_
        rintro e w6 ⟨g6, rfl, ho6, ha6, hb6⟩
        rw [← HNL.out] at ho6 ⊢
        have HK6 := Lib.hid (HK5.out.below HN.out hb6)
        have HL6 := Lib.hid (own_lies ho6)
        have hrow := HK6.out.row
        rw [← HNL.out] at hrow
        have HW6 := Lib.hid (own_lies hrow)
        clear ho6 ha6 hb6 hrow
        go_wp2_with fail
        have HWD := Lib.hid (words_any _ _ wl wl nl cap w6 HL6.out HW6.out (by have := HNL.out; omega) rfl)
        rw [← HNL.out] at HWD
        refine HWD.out.mono ?_
        rintro e w7 ⟨rfl, hb7⟩
        have HK7 := Lib.hid (HK6.out.below HN.out hb7)
        clear hb7 HWD HL6 HW6 HK HK5 HK6
        go_wp2_with fail
        obtain ⟨kp, hkp⟩ : ∃ kp, kp = wl := ⟨_, rfl⟩
        rw [show D.mk 128 8 wl [] none 0 = D.mk 128 8 kp (wrs (l2.take 0)) none 0 by rw [hkp]; rfl] at HK7
        have HKP : Hid (DP.Sized 128 kp ∧ kp.length ≤ 8) := Lib.hid ⟨HK7.out.has.ok.sized, HK7.out.has.ok.fits⟩
        have HWL0 : Hid (wl = fo 128 Q cs kp (List.range 0)) := Lib.hid (by rw [hkp]; rfl)
        clear hkp HSY HQ8 HWL
        go_loopw [9, 12] (fun wv iv wr => ∃ (i g cap nl : Nat) (wl : List ByteArray), i ≤ m2 ∧ iv = .int .i64 i ∧ wv = .slice (some ⟨g, 0, none⟩) nl cap ∧ nl ≤ 8 ∧ Hid (nl = wl.length) ∧ Hid (wl = fo 128 Q cs kp (List.range i)) ∧ Hid (KW w.heap.size w wr b ⟨128, 8, kp, wrs (l2.take i), none, 0⟩ g cap wl)) (fun _ iv _ => 12 - (intOf iv).toNat)
        case atStart => exact ⟨0, g, cap, nl, wl, by omega, rfl, rfl, hnl, HNL, HWL0, HK7⟩
        case round =>
          clear HK7 HNL hnl HWL0
          obtain ⟨i, g, cap, nl, wl, hi2, rfl, rfl, hnl, HNL, HWL, HK⟩ := hrel
          have HSZ : Hid (DP.Sized 128 wl) := Lib.hid (by rw [HWL.out]; exact (fo_ok HQW.out HQI.out _ kp HKP.out).1)
          by_cases hlt : i < m2
          · have d1 : decide ((i : Int) < (n2 : Int)) = true := decide_eq_true (by omega)
            have d1n : decide (i < n2) = true := decide_eq_true (by omega)
            have d2 : decide ((i : Int) < 12) = true := decide_eq_true (by omega)
            have d2n : decide (i < 12) = true := decide_eq_true (by omega)
            have hk0 : (0 : Int) ≤ i := by omega
            have hkn : (i : Int) < n2 := by omega
            obtain ⟨x, hx⟩ : ∃ x, l2[i]? = some x := ⟨_, List.getElem?_eq_getElem (by have := HLN2.out; omega)⟩
            obtain ⟨a, rfl, hab, x0, x1⟩ := (HL2.out.below HK.out.bel) i x hx
            have hi8 : x.1.toNat ≤ 255 := by have := x.1.toNat_lt; omega
            obtain ⟨j0, hj0⟩ : ∃ j0, j0 = x.1.toNat := ⟨_, rfl⟩
            obtain ⟨m8, hm8⟩ : ∃ m8, m8 = j0 % 8 := ⟨_, rfl⟩
            have HWX : Hid (wr8 x = ⟨m8, pg x.2⟩) := Lib.hid (by rw [hm8, hj0]; rfl)
            rw [← hj0] at hi8 x0
            have hmd : (j0 : Int) % 8 = (m8 : Int) := by omega
            have hmd2 : (j0 : Int).tmod 8 = (m8 : Int) := by rw [Int.tmod_eq_emod_of_nonneg (by omega)]; exact hmd
            have hm8' : m8 < 8 := by omega
            have wi : IntKind.i64.wrap (j0 : Int) = (j0 : Int) := IntWalk.i64_in _ (by omega)
            obtain ⟨c, hc⟩ : ∃ c, c = x.2 := ⟨_, rfl⟩
            rw [← hc] at x1 HWX
            have HCELL : Hid (∀ V, Below w.heap.size w V → V.cell? (a.add (i * 2)) = some (.int .u8 (j0 : Nat)) ∧ V.cell? ⟨(a.add (i * 2)).block, (a.add (i * 2)).off + 1, none⟩ = some (.int .u8 c.toNat)) := Lib.hid (fun V hV => by
              obtain ⟨_, e, hab', y0, y1⟩ := (HL2.out.below hV) i x hx
              obtain rfl := Option.some.inj e
              rw [← hj0] at y0
              rw [← hc] at y1
              exact ⟨y0, y1⟩)
            have hm0 : (0 : Int) ≤ m8 := by omega
            have HST : Hid (D.write ⟨128, 8, kp, wrs (l2.take i), none, 0⟩ (m8 : Int) (pg c) = (⟨128, 8, kp, wrs (l2.take (i + 1)), none, 0⟩, 0)) := Lib.hid (by
              have h1 := w8 ⟨128, 8, kp, wrs (l2.take i), none, 0⟩ x rfl (Nat.le_refl _) rfl
              rw [← hj0, ← hm8, ← hc] at h1
              rw [h1, HSN2.out i x hx])
            have HQX : Hid (Q[i]? = some (⟨m8, pg c⟩ : W)) := Lib.hid (by rw [HQG.out i x hx hlt, HWX.out])
            clear hx hj0 hm8 hc hab
            go_wp2_with fail
            refine (page_law c _).mono ?_
            rintro e w4 ⟨rfl, hb4⟩
            have HK4 := Lib.hid (HK.out.below HN.out hb4)
            clear hb4 x0 x1 HK
            go_wp2_with fail
            refine (kw_write HK4.out HN.out _ 0 _ (by simp [Lit.wf, IntKind.min, IntKind.max, IntKind.signed, IntKind.bits]; omega) (by rw [pg_size]; unfold maxLen; decide) HST.out).mono ?_
            rintro e w5 ⟨rfl, hk5⟩
            have HK5 := Lib.hid hk5
            clear hk5 HK4
            by_cases hic : i < cn
            rotate_left
            · have dc : decide ((cn : Int) ≤ (i : Int)) = true := decide_eq_true (by omega)
              have dcn : decide (cn ≤ i) = true := decide_eq_true (by omega)
              have HSKIP : Hid (stepN 128 Q cs wl i = wl) := Lib.hid (step_none (List.getElem?_eq_none (by have := HCN.out; omega)))
              go_wp2_with fail
              go_roundw
              case rel => exact ⟨i + 1, g, cap, nl, wl, by omega, by first | rfl | simp, rfl, hnl, HNL, Lib.hid (by rw [List.range_succ, fo_snoc, ← HWL.out, HSKIP.out]), HK5⟩
              case measure => simp [intOf]; omega
            have dc : decide ((cn : Int) ≤ (i : Int)) = false := decide_eq_false (by omega)
            have dcn : decide (cn ≤ i) = false := decide_eq_false (by omega)
            have hic2 : (i : Int) < cn := by omega
            obtain ⟨⟨K, AT⟩, hcc⟩ : ∃ c, cs[i]? = some c := ⟨_, List.getElem?_eq_getElem (by have := HCN.out; omega)⟩
            obtain ⟨a2, rfl, hab2, _, _, hat⟩ := HCS.out i _ hcc
            have HCCELL : Hid (∀ V, Below w.heap.size w V → V.cell? (a2.add (i * 2)) = some (.int .i64 K) ∧ V.cell? ⟨(a2.add (i * 2)).block, (a2.add (i * 2)).off + 1, none⟩ = some (.int .i64 AT)) := Lib.hid (fun V hV => by
              obtain ⟨_, e, _, y0, y1, _⟩ := (HCS.out.below hV) i _ hcc
              obtain rfl := Option.some.inj e
              exact ⟨y0, y1⟩)
            have HCC := Lib.hid hcc
            simp only at hat
            clear hcc hab2
            obtain ⟨u0, u1⟩ := HCCELL.out w5 HK5.out.bel
            obtain ⟨dd, hdd⟩ : ∃ dd, dd = D.mk 128 8 kp (wrs (l2.take (i + 1))) none 0 := ⟨_, rfl⟩
            by_cases hK1 : K = 1
            · subst hK1
              have HSTEP : Hid (stepN 128 Q cs wl i = DP.put (DP.zero 128) wl ⟨m8, (pg c).extract 0 128 ++ (DP.page (DP.zero 128) wl m8).extract 128 128⟩) := Lib.hid (by
                rw [step_some HQX.out HCC.out, chosen_torn wl _ _ 128 HSZ.out (pg_size c) (.inl ⟨rfl, rfl⟩), torn_clamp _ _ _ 128 rfl])
              rw [← hdd] at HK5
              have HDD := Lib.hid hdd
              clear hdd
              go_wp2_with fail
              clear u0 u1
              go_loopw [9] (fun wv wr => ∃ (g cap nl : Nat) (cur : List ByteArray), wv = .slice (some ⟨g, 0, none⟩) nl cap ∧ nl ≤ 8 ∧ Hid (nl = cur.length) ∧ Hid (DP.fill (pg 0) cur (m8 + 1) = DP.fill (pg 0) wl (m8 + 1)) ∧ Hid (KW w.heap.size w wr b dd g cap cur)) (fun wv _ => 8 - lenOf wv)
              case atStart => exact ⟨g, cap, nl, wl, rfl, hnl, HNL, Lib.hid rfl, HK5⟩
              case round =>
                clear HK5 HNL hnl
                obtain ⟨g, cap, nl, cur, rfl, hnl, HNL, HFE, HKR⟩ := hrel
                by_cases hle : nl ≤ m8
                · have dl : decide ((nl : Int) ≤ (m8 : Int)) = true := decide_eq_true (by omega)
                  have dln : decide (nl ≤ m8) = true := decide_eq_true hle
                  have HFS : Hid (DP.fill (pg 0) (cur ++ [pg 0]) (m8 + 1) = DP.fill (pg 0) wl (m8 + 1)) := Lib.hid (by rw [DP.fill_snoc _ _ _ (by have := HNL.out; omega)]; exact HFE.out)
                  go_wp2_with fail
                  refine (page_at 0 _ rfl _).mono ?_
                  rintro e w3 ⟨rfl, hb3⟩
                  have HK3 := Lib.hid ((HKR.out.below HN.out hb3).below HN.out (below_alloc w3 (.cells #[.string (pg 0)] 9)))
                  have hrow := HK3.out.row
                  rw [← HNL.out] at hrow
                  have HROW := Lib.hid hrow
                  clear hb3 hrow HKR
                  go_wp2_with (at_builtin; refine wpList_append_lies _ rfl _ _ 39 rfl w.heap.size 9 i0 (.string ⟨#[]⟩) 1 16 Tryd.underlying39 hi hz0 hz1 hz2 rfl (by decide) (.slice (some ⟨g, 0, none⟩) nl cap) nl _ rfl HROW.out ⟨w3.heap.size, 0, none⟩ 1 1 [.string (pg 0)] rfl rfl (World.news_of_block (cs := #[.string (pg 0)]) (t := 9) (fr := (0, 0)) (heap_alloc_new w3 _)) (str_one _) (by omega) (by unfold maxLen; omega) (by omega) (by exact HK3.out.bel.size) (w3.heap.size + 1) (by simp) ?_; intro g' cap' w5 hown5 hgrow5 hat5 hlt5; have HK5 : Hid (KW w.heap.size w w5 b dd g' cap' (cur ++ [pg 0])) := Lib.hid (HK3.out.more HN.out (by rw [← HNL.out]; exact hown5) (by rw [← HNL.out]; exact hgrow5) (by rw [← HNL.out]; simpa using hat5)); clear hown5 hgrow5 hat5 hlt5)
                  go_roundw
                  case rel => exact ⟨g', cap', nl + 1, cur ++ [pg 0], by first | rfl | simp, by omega, Lib.hid (by rw [List.length_append, HNL.out]; rfl), HFS, HK5⟩
                  case measure => simp [lenOf]; omega
                · have dl : decide ((nl : Int) ≤ (m8 : Int)) = false := decide_eq_false (by omega)
                  have dln : decide (nl ≤ m8) = false := decide_eq_false hle
                  have HCUR : Hid (cur = DP.fill (pg 0) wl (m8 + 1)) := Lib.hid (by rw [← HFE.out, DP.fill_enough _ _ _ (by have := HNL.out; omega)])
                  have hmn : (m8 : Int) < (nl : Int) := by omega
                  have HMN : Hid (m8 < nl) := Lib.hid (by omega)
                  have HWK : Hid (cur[m8]? = some (DP.page (DP.zero 128) wl m8)) := Lib.hid (by rw [HCUR.out]; exact fill_page wl m8)
                  clear hle HFE
                  obtain ⟨y0, y1⟩ := HCELL.out wr HKR.out.bel
                  obtain ⟨v0, v1⟩ := HCCELL.out wr HKR.out.bel
                  obtain ⟨wk, hwk⟩ : ∃ wk, wk = DP.page (DP.zero 128) wl m8 := ⟨_, rfl⟩
                  rw [← hwk] at HWK
                  have hwks : wk.size = 128 := by rw [hwk]; exact HSZ.out.page m8
                  have HWKE := Lib.hid hwk
                  have hpgs : (pg c).size = 128 := pg_size c
                  have cw : wr.cell? ⟨g, m8, none⟩ = some (.string wk) := (HKR.out.row.cellAt m8 (by have := HNL.out; have := HMN.out; omega)).trans (by simp [strCells, HWK.out])
                  have hx1 : ((pg c).extract 0 128).size = 128 := by rw [ByteArray.size_extract]; omega
                  have hx2 : (wk.extract 128 128).size = 128 - 128 := by rw [ByteArray.size_extract]; omega
                  have hsum : ¬ (9223372036854775807 : Int) < (((pg c).extract 0 128).size : Int) + ((wk.extract 128 128).size : Int) := by rw [hx1, hx2]; omega
                  have hsumN : ¬ 9223372036854775807 < ((pg c).extract 0 128).size + (wk.extract 128 128).size := by rw [hx1, hx2]; omega
                  clear hwk hx1 hx2
                  have HE : Hid ((pg c).extract 0 128 ++ wk.extract 128 128 = (pg c).extract 0 128) := Lib.hid (by simp)
                  go_wp2_with fail
                  go_region_law (first
                    | (go_simp; go_at_call 24; refine (page_law c _).mono ?_; rintro e w9 ⟨rfl, hb9⟩;
                       have HK9 := Lib.hid (HKR.out.below HN.out (below_of_drew hb9));
                       have cw9 : w9.cell? ⟨g, m8, none⟩ = some (.string wk) := (HK9.out.row.cellAt m8 (by have := HNL.out; have := HMN.out; omega)).trans (by simp [strCells, HWK.out]);
                       have fw9 := HK9.out.row.frozenAt m8; clear hb9))
                  all_goals
                    have HK10 : Hid (KW w.heap.size w (w9.setCell ⟨g, m8, none⟩ (.string ((pg c).extract 0 128))) b dd g cap (cur.set m8 ((pg c).extract 0 128))) := Lib.hid (HK9.out.set HN.out m8 _)
                    have HNL10 : Hid (nl = (cur.set m8 ((pg c).extract 0 128)).length) := Lib.hid (by rw [List.length_set]; exact HNL.out)
                    have HSET : Hid (cur.set m8 ((pg c).extract 0 128) = fo 128 Q cs kp (List.range (i + 1))) := Lib.hid (by
                      rw [List.range_succ, fo_snoc, ← HWL.out, HSTEP.out, HCUR.out, ← HWKE.out, HE.out]
                      rfl)
                    clear cw9 fw9 v0 v1 y0 y1
                    go_wp2_with fail
                    go_roundw
                    case rel => exact ⟨i + 1, g, cap, nl, cur.set m8 ((pg c).extract 0 128), by omega, by first | rfl | simp, rfl, hnl, HNL10, HSET, by rw [← HDD.out]; exact HK10⟩
                    case measure => simp [intOf]; omega
            by_cases hK2 : K = 2
            · subst hK2
              obtain ⟨AM, hAM⟩ : ∃ AM, min AT 128 = AM := ⟨_, rfl⟩
              obtain ⟨cl, hcl⟩ : ∃ cl : Nat, max 0 AM = (cl : Int) := ⟨(max 0 AM).toNat, by omega⟩
              have hcl8 : cl ≤ 128 := by omega
              have HSTEP : Hid (stepN 128 Q cs wl i = DP.put (DP.zero 128) wl ⟨m8, (pg c).extract 0 cl ++ (DP.page (DP.zero 128) wl m8).extract cl 128⟩) := Lib.hid (by
                rw [step_some HQX.out HCC.out, chosen_torn wl _ _ AT HSZ.out (pg_size c) (.inr ⟨rfl, rfl⟩), torn_clamp _ _ _ cl (by unfold DP.clamp; omega)])
              rw [← hdd] at HK5
              have HDD := Lib.hid hdd
              clear hdd
              go_wp2_with fail
              clear u0 u1
              go_loopw [9] (fun wv wr => ∃ (g cap nl : Nat) (cur : List ByteArray), wv = .slice (some ⟨g, 0, none⟩) nl cap ∧ nl ≤ 8 ∧ Hid (nl = cur.length) ∧ Hid (DP.fill (pg 0) cur (m8 + 1) = DP.fill (pg 0) wl (m8 + 1)) ∧ Hid (KW w.heap.size w wr b dd g cap cur)) (fun wv _ => 8 - lenOf wv)
              case atStart => exact ⟨g, cap, nl, wl, rfl, hnl, HNL, Lib.hid rfl, HK5⟩
              case round =>
                clear HK5 HNL hnl
                obtain ⟨g, cap, nl, cur, rfl, hnl, HNL, HFE, HKR⟩ := hrel
                by_cases hle : nl ≤ m8
                · have dl : decide ((nl : Int) ≤ (m8 : Int)) = true := decide_eq_true (by omega)
                  have dln : decide (nl ≤ m8) = true := decide_eq_true hle
                  have HFS : Hid (DP.fill (pg 0) (cur ++ [pg 0]) (m8 + 1) = DP.fill (pg 0) wl (m8 + 1)) := Lib.hid (by rw [DP.fill_snoc _ _ _ (by have := HNL.out; omega)]; exact HFE.out)
                  go_wp2_with fail
                  refine (page_at 0 _ rfl _).mono ?_
                  rintro e w3 ⟨rfl, hb3⟩
                  have HK3 := Lib.hid ((HKR.out.below HN.out hb3).below HN.out (below_alloc w3 (.cells #[.string (pg 0)] 9)))
                  have hrow := HK3.out.row
                  rw [← HNL.out] at hrow
                  have HROW := Lib.hid hrow
                  clear hb3 hrow HKR
                  go_wp2_with (at_builtin; refine wpList_append_lies _ rfl _ _ 39 rfl w.heap.size 9 i0 (.string ⟨#[]⟩) 1 16 Tryd.underlying39 hi hz0 hz1 hz2 rfl (by decide) (.slice (some ⟨g, 0, none⟩) nl cap) nl _ rfl HROW.out ⟨w3.heap.size, 0, none⟩ 1 1 [.string (pg 0)] rfl rfl (World.news_of_block (cs := #[.string (pg 0)]) (t := 9) (fr := (0, 0)) (heap_alloc_new w3 _)) (str_one _) (by omega) (by unfold maxLen; omega) (by omega) (by exact HK3.out.bel.size) (w3.heap.size + 1) (by simp) ?_; intro g' cap' w5 hown5 hgrow5 hat5 hlt5; have HK5 : Hid (KW w.heap.size w w5 b dd g' cap' (cur ++ [pg 0])) := Lib.hid (HK3.out.more HN.out (by rw [← HNL.out]; exact hown5) (by rw [← HNL.out]; exact hgrow5) (by rw [← HNL.out]; simpa using hat5)); clear hown5 hgrow5 hat5 hlt5)
                  go_roundw
                  case rel => exact ⟨g', cap', nl + 1, cur ++ [pg 0], by first | rfl | simp, by omega, Lib.hid (by rw [List.length_append, HNL.out]; rfl), HFS, HK5⟩
                  case measure => simp [lenOf]; omega
                · have dl : decide ((nl : Int) ≤ (m8 : Int)) = false := decide_eq_false (by omega)
                  have dln : decide (nl ≤ m8) = false := decide_eq_false hle
                  have HCUR : Hid (cur = DP.fill (pg 0) wl (m8 + 1)) := Lib.hid (by rw [← HFE.out, DP.fill_enough _ _ _ (by have := HNL.out; omega)])
                  have hmn : (m8 : Int) < (nl : Int) := by omega
                  have HMN : Hid (m8 < nl) := Lib.hid (by omega)
                  have HWK : Hid (cur[m8]? = some (DP.page (DP.zero 128) wl m8)) := Lib.hid (by rw [HCUR.out]; exact fill_page wl m8)
                  clear hle HFE
                  obtain ⟨y0, y1⟩ := HCELL.out wr HKR.out.bel
                  obtain ⟨v0, v1⟩ := HCCELL.out wr HKR.out.bel
                  obtain ⟨wk, hwk⟩ : ∃ wk, wk = DP.page (DP.zero 128) wl m8 := ⟨_, rfl⟩
                  rw [← hwk] at HWK
                  have hwks : wk.size = 128 := by rw [hwk]; exact HSZ.out.page m8
                  have HWKE := Lib.hid hwk
                  have hpgs : (pg c).size = 128 := pg_size c
                  have cw : wr.cell? ⟨g, m8, none⟩ = some (.string wk) := (HKR.out.row.cellAt m8 (by have := HNL.out; have := HMN.out; omega)).trans (by simp [strCells, HWK.out])
                  have hx1 : ((pg c).extract 0 cl).size = cl := by rw [ByteArray.size_extract]; omega
                  have hx2 : (wk.extract cl 128).size = 128 - cl := by rw [ByteArray.size_extract]; omega
                  have hsum : ¬ (9223372036854775807 : Int) < (((pg c).extract 0 cl).size : Int) + ((wk.extract cl 128).size : Int) := by rw [hx1, hx2]; omega
                  have hsumN : ¬ 9223372036854775807 < ((pg c).extract 0 cl).size + (wk.extract cl 128).size := by rw [hx1, hx2]; omega
                  clear hwk hx1 hx2
                  have hmin : min AT 128 = AM := hAM
                  have hmax : max 0 AM = (cl : Int) := hcl
                  have hclI : (cl : Int) ≤ 128 := by omega
                  have hcl0 : (0 : Int) ≤ (cl : Int) := by omega
                  go_wp2_with fail
                  go_region_law (first
                    | (go_simp; go_at_call 24; refine (page_law c _).mono ?_; rintro e w9 ⟨rfl, hb9⟩;
                       have HK9 := Lib.hid (HKR.out.below HN.out (below_of_drew hb9));
                       have cw9 : w9.cell? ⟨g, m8, none⟩ = some (.string wk) := (HK9.out.row.cellAt m8 (by have := HNL.out; have := HMN.out; omega)).trans (by simp [strCells, HWK.out]);
                       have fw9 := HK9.out.row.frozenAt m8; clear hb9))
                  all_goals
                    have HK10 : Hid (KW w.heap.size w (w9.setCell ⟨g, m8, none⟩ (.string ((pg c).extract 0 cl ++ wk.extract cl 128))) b dd g cap (cur.set m8 ((pg c).extract 0 cl ++ wk.extract cl 128))) := Lib.hid (HK9.out.set HN.out m8 _)
                    have HNL10 : Hid (nl = (cur.set m8 ((pg c).extract 0 cl ++ wk.extract cl 128)).length) := Lib.hid (by rw [List.length_set]; exact HNL.out)
                    have HSET : Hid (cur.set m8 ((pg c).extract 0 cl ++ wk.extract cl 128) = fo 128 Q cs kp (List.range (i + 1))) := Lib.hid (by
                      rw [List.range_succ, fo_snoc, ← HWL.out, HSTEP.out, HCUR.out, ← HWKE.out]
                      rfl)
                    clear cw9 fw9 v0 v1 y0 y1
                    go_wp2_with fail
                    go_roundw
                    case rel => exact ⟨i + 1, g, cap, nl, cur.set m8 ((pg c).extract 0 cl ++ wk.extract cl 128), by omega, by first | rfl | simp, rfl, hnl, HNL10, HSET, by rw [← HDD.out]; exact HK10⟩
                    case measure => simp [intOf]; omega
            have q1 : (K == 1) = false := beq_eq_false_iff_ne.2 hK1
            have q2 : (K == 2) = false := beq_eq_false_iff_ne.2 hK2
            have q1' : (K != 1) = true := bne_iff_ne.2 hK1
            have q2' : (K != 2) = true := bne_iff_ne.2 hK2
            have HSKIP : Hid (stepN 128 Q cs wl i = wl) := Lib.hid (by rw [step_some HQX.out HCC.out]; exact chosen_skip wl _ _ hK1 hK2)
            clear hdd
            go_wp2_with fail
            go_roundw
            case rel => exact ⟨i + 1, g, cap, nl, wl, by omega, by first | rfl | simp, rfl, hnl, HNL, Lib.hid (by rw [List.range_succ, fo_snoc, ← HWL.out, HSKIP.out]), HK5⟩
            case measure => simp [intOf]; omega
          · obtain rfl : i = m2 := by omega
            have hicase : (decide ((i : Int) < (n2 : Int)) = false ∧ decide (i < n2) = false) ∨ (decide ((i : Int) < (n2 : Int)) = true ∧ decide (i < n2) = true) ∧ decide ((i : Int) < 12) = false ∧ decide (i < 12) = false := by
              by_cases h : i < n2
              · exact .inr ⟨⟨decide_eq_true (by omega), decide_eq_true h⟩, decide_eq_false (by omega), decide_eq_false (by omega)⟩
              · exact .inl ⟨decide_eq_false (by omega), decide_eq_false h⟩
            have HKE := Lib.hid HK.out
            rw [HQE.out] at HK
            have HWC : Hid (DP.crash 128 kp Q cs = wl) := Lib.hid (by rw [HWL.out, ← fo_all, HQL.out])
            have HCR : Hid (D.crash ⟨128, 8, kp, Q, none, 0⟩ cs = ⟨128, 8, wl, [], none, 0⟩) := Lib.hid (by rw [crash_len, HWC.out])
            have HQ5 : Hid (Q.length ≤ 5000) := Lib.hid (by rw [HQL.out]; omega)
            clear hlt hi2 hm2 HKE
            rcases hicase with ⟨f1, f2⟩ | ⟨⟨f1, f2⟩, f3, f4⟩
            all_goals
              go_wp2_with fail
              have HCRA := Lib.hid (kw_crash HK.out HN.out A2 cs ca2 (HCS.out.below HK.out.bel) HQ5.out HCM.out HCR.out)
              rw [← HCN.out] at HCRA
              refine HCRA.out.mono ?_
              rintro e w8 ⟨rfl, hk8⟩
              have HK8 := Lib.hid hk8
              clear hk8 HCRA
              go_wp2_with fail
              refine (at_all HK8.out.at_ HN.out wl rfl).mono ?_
              rintro e w9 ⟨g9, rfl, ho9, ha9, hb9⟩
              rw [← HNL.out] at ho9 ⊢
              have HK9 := Lib.hid (HK8.out.below HN.out hb9)
              have HL9 := Lib.hid (own_lies ho9)
              have hrow := HK9.out.row
              rw [← HNL.out] at hrow
              have HW9 := Lib.hid (own_lies hrow)
              clear ho9 ha9 hb9 hrow
              go_wp2_with fail
              have HWD := Lib.hid (words_any _ _ wl wl nl cap w9 HL9.out HW9.out (by have := HNL.out; omega) rfl)
              rw [← HNL.out] at HWD
              refine HWD.out.mono ?_
              rintro e w10 ⟨rfl, hb10⟩
              have HK10 := Lib.hid (HK9.out.below HN.out hb10)
              clear hb10 HWD
              go_wp2_with fail
              refine (at_len HK10.out.at_ (nl : Int) (by rw [HNL.out]; rfl)).mono ?_
              rintro e w' ⟨rfl, rfl⟩
              go_wp2_with fail
              refine (kw_sync HK10.out HN.out 0 (sync_none wl [])).mono ?_
              rintro e w11 ⟨rfl, hk11⟩
              have HK11 := Lib.hid hk11
              clear hk11
              go_wp2_with fail
              refine (HFIX.out _ HK11.out.bel).mono ?_
              rintro e w12 ⟨rfl, hb12⟩
              have HK12 := Lib.hid (HK11.out.below HN.out hb12)
              clear hb12
              go_wp2_with fail
              go_ret
              exact ⟨rfl, HK12.out.bel⟩
end Go.Proofs.YtaeiifmdbdhoeaaDoor
