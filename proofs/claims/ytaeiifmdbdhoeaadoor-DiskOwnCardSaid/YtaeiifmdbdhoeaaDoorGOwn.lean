/-
  The walk of DiskOwn.
-/
import Derived.Test.YtaeiifmdbdhoeaaDoorGLaws
namespace Go.Proofs.YtaeiifmdbdhoeaaDoor
open Go.RowKit
open Go.ChangeShapes
open DP (W D C)
set_option linter.unusedVariables false
set_option linter.unusedSimpArgs false

theorem own_read (q : List W) (c : UInt8) : D.read ⟨128, 8, [], q ++ [⟨0, pg c⟩], none, 0⟩ 0 = (⟨128, 8, [], q ++ [⟨0, pg c⟩], none, 1⟩, pg c, 0) := by
  have hlen : 0 < D.len ⟨128, 8, [], q ++ [⟨0, pg c⟩], none, 0⟩ := by
    show 0 < DP.len 0 (q ++ [⟨0, pg c⟩])
    rw [DP.len_snoc]
    omega
  rw [read_up _ 0 ⟨by omega, by omega⟩]
  have : DP.page (DP.zero 128) (D.all ⟨128, 8, [], q ++ [⟨0, pg c⟩], none, 0⟩) (0 : Int).toNat = pg c := by
    show DP.page (DP.zero 128) (DP.all (DP.zero 128) [] (q ++ [⟨0, pg c⟩])) 0 = pg c
    rw [DP.all_snoc, DP.page_put, if_pos rfl]
  rw [this]
theorem own_write (q : List W) (c : UInt8) : D.write ⟨128, 8, [], q, none, 0⟩ 0 (pg c) = (⟨128, 8, [], q ++ [⟨0, pg c⟩], none, 0⟩, 0) := by
  have := D.write_ok ⟨128, 8, [], q, none, 0⟩ 0 (pg c) (fun e => by cases e) (pg_size c) (by show 0 < 8; omega)
  exact this

set_option maxHeartbeats 4000000 in
set_option maxRecDepth 100000 in
theorem diskOwn_walk (A0 : Option Addr) (l : List (UInt8 × UInt8)) (ca0 : Nat) (c0 : Int) (w : World) (hz : Sizes w) (hl : LiesR w w.heap.size A0 l) (hlm : l.length ≤ maxLen) (hc0 : (Lit.int .u8 c0).wf = true) :
    Calls Tryd.prog 7 #[.slice A0 l.length ca0, .int .u8 c0] w fun e w' => e = .returned (.bool true) ∧ Below w.heap.size w w' := by
  obtain ⟨c9, rfl⟩ := byte_of c0 (by have := bounds_u8 hc0; omega)
  have hg0 := hz.lt
  have HZ : Hid (∀ W, Below w.heap.size w W → Sizes W) := Lib.hid (fun W hW => hz.below hg0 hW)
  have HFIX : Hid (∀ W, Below w.heap.size w W → Calls Tryd.prog 13 #[] W fun e w' => e = .returned (.bool true) ∧ Below W.heap.size W w') := Lib.hid (fun W hW => fixed_any W (hz.below hg0 hW) (Nat.lt_of_lt_of_le hg0 hW.size))
  have HN : Hid (w.heap.size ≤ w.heap.size) := Lib.hid (Nat.le_refl _)
  have HB0 : Hid (Below w.heap.size w w) := Lib.hid (Below.refl _ _)
  have HL := Lib.hid hl
  unfold maxLen at hlm
  obtain ⟨n, hn⟩ : ∃ n, n = l.length := ⟨_, rfl⟩
  have HLN := Lib.hid hn
  rw [← hn] at hlm ⊢
  have HSN : Hid (∀ k x, l[k]? = some x → wrs (l.take (k + 1)) = wrs (l.take k) ++ [wr8 x]) := Lib.hid (wrs_snoc l)
  clear hz hl hn hg0
  obtain ⟨i0', hi, hz0, hz1, hz2⟩ := info_parts Tryd.infoText
  go_enter Tryd.func7, Tryd.ntmps7
  go_wp2_with fail
  refine (new_at HB0.out HN.out (HZ.out _ HB0.out) 128 8 _ _ rfl rfl rfl (by decide) (by decide)).mono ?_
  rintro e w1 ⟨b, rfl, ha1, _, _⟩
  have HD1 := Lib.hid ha1
  have HBLO : Hid (w.heap.size ≤ b) := Lib.hid ha1.low
  clear ha1
  go_wp2_with fail
  go_loopw [7] (fun iv wr => ∃ k : Nat, k ≤ min n 12 ∧ iv = .int .i64 k ∧ Hid (At w.heap.size w wr b ⟨128, 8, [], wrs (l.take k), none, 0⟩)) (fun iv _ => 12 - (intOf iv).toNat)
  case atStart => exact ⟨0, by omega, rfl, HD1⟩
  case round =>
    obtain ⟨k, hk, rfl, HD⟩ := hrel
    by_cases hlt : k < min n 12
    · obtain ⟨x, hx⟩ : ∃ x, l[k]? = some x := ⟨_, List.getElem?_eq_getElem (by have := HLN.out; omega)⟩
      obtain ⟨a, rfl, hab, x0, x1⟩ := (HL.out.below HD.out.bel) k x hx
      have d1 : decide ((k : Int) < (n : Int)) = true := decide_eq_true (by omega)
      have d1n : decide (k < n) = true := decide_eq_true (by omega)
      have d2 : decide ((k : Int) < 12) = true := decide_eq_true (by omega)
      have d2n : decide (k < 12) = true := decide_eq_true (by omega)
      have hk0 : (0 : Int) ≤ k := by omega
      have hkn : (k : Int) < n := by omega
      have HSTEP := Lib.hid (w8 ⟨128, 8, [], wrs (l.take k), none, 0⟩ x rfl (Nat.le_refl _) rfl)
      have HSX := Lib.hid (HSN.out k x hx)
      have hi8 : x.1.toNat ≤ 255 := by have := x.1.toNat_lt; omega
      obtain ⟨i0, hi0⟩ : ∃ i0, i0 = x.1.toNat := ⟨_, rfl⟩
      obtain ⟨m8, hm8⟩ : ∃ m8, m8 = i0 % 8 := ⟨_, rfl⟩
      rw [← hi0] at hi8 x0 HSTEP
      rw [← hm8] at HSTEP
      have hmd : (i0 : Int) % 8 = (m8 : Int) := by omega
      have hmd2 : (i0 : Int).tmod 8 = (m8 : Int) := by rw [Int.tmod_eq_emod_of_nonneg (by omega)]; exact hmd
      have hm8' : m8 < 8 := by omega
      have wi : IntKind.i64.wrap (i0 : Int) = (i0 : Int) := IntWalk.i64_in _ (by omega)
      obtain ⟨c, hc⟩ : ∃ c, c = x.2 := ⟨_, rfl⟩
      rw [← hc] at x1 HSTEP
      have HKB : Hid (∀ V V', Below V.heap.size V V' → (Hid (Below w.heap.size w V) ∧ V.cell? (a.add (k * 2)) = some (.int .u8 (i0 : Nat)) ∧ V.cell? ⟨(a.add (k * 2)).block, (a.add (k * 2)).off + 1, none⟩ = some (.int .u8 c.toNat)) → (Hid (Below w.heap.size w V') ∧ V'.cell? (a.add (k * 2)) = some (.int .u8 (i0 : Nat)) ∧ V'.cell? ⟨(a.add (k * 2)).block, (a.add (k * 2)).off + 1, none⟩ = some (.int .u8 c.toNat))) := Lib.hid (fun V V' hv h => ⟨Lib.hid (below_then h.1.out hv), (hv.cell (by rw [addr_block]; exact Nat.lt_of_lt_of_le hab h.1.out.size)).trans h.2.1, (hv.cell (by show (a.add (k * 2)).block < _; rw [addr_block]; exact Nat.lt_of_lt_of_le hab h.1.out.size)).trans h.2.2⟩)
      have HKC : Hid (∀ V V', Chg (fun j => j = b) V V' → (Hid (Below w.heap.size w V) ∧ V.cell? (a.add (k * 2)) = some (.int .u8 (i0 : Nat)) ∧ V.cell? ⟨(a.add (k * 2)).block, (a.add (k * 2)).off + 1, none⟩ = some (.int .u8 c.toNat)) → (Hid (Below w.heap.size w V') ∧ V'.cell? (a.add (k * 2)) = some (.int .u8 (i0 : Nat)) ∧ V'.cell? ⟨(a.add (k * 2)).block, (a.add (k * 2)).off + 1, none⟩ = some (.int .u8 c.toNat))) := Lib.hid (fun V V' hv h => by
        have hv' := hv.below (c := w.heap.size) (fun j e => by rw [e]; exact HBLO.out) h.1.out.size
        exact ⟨Lib.hid (h.1.out.trans hv'), (hv'.cell (by rw [addr_block]; exact hab)).trans h.2.1, (hv'.cell (by show (a.add (k * 2)).block < _; rw [addr_block]; exact hab)).trans h.2.2⟩)
      have hS0 : Hid (Below w.heap.size w wr.drew) := Lib.hid (below_drewN HD.out.bel 1)
      clear hx hi0 hm8 hc
      go_wp2_with fail
      go_region_held3 (fun V => Hid (Below w.heap.size w V) ∧ V.cell? (a.add (k * 2)) = some (.int .u8 (i0 : Nat)) ∧ V.cell? ⟨(a.add (k * 2)).block, (a.add (k * 2)).off + 1, none⟩ = some (.int .u8 c.toNat))
        (first | assumption | exact ⟨hS0, x0, x1⟩ | exact HKB.out _ _ (by assumption) (by assumption) | exact HKC.out _ _ (by assumption) (by assumption))
        (first
          | (go_at_call 24; refine (page_law c _).mono ?_; rintro e w3 ⟨rfl, hb3⟩; have HD3 := Lib.hid (HD.out.below HN.out (below_of_drew hb3)))
          | (go_at_call 25; refine (at_write HD3.out HN.out _ 0 _ (by simp [Lit.wf, IntKind.min, IntKind.max, IntKind.signed, IntKind.bits]; omega) (by rw [pg_size]; unfold maxLen; decide) HSTEP.out).mono ?_; rintro e w4 ⟨rfl, ha4, hc4⟩; have HD4 := Lib.hid ha4)
          | fail "no arm")
      all_goals
        go_wp2_with fail
        go_roundw
        case rel => exact ⟨k + 1, by omega, by first | rfl | simp, by rw [HSX.out]; exact HD4⟩
        case measure => simp [intOf]; omega
    · obtain ⟨q, hq⟩ : ∃ q, q = wrs (l.take k) := ⟨_, rfl⟩
      rw [← hq] at HD
      obtain ⟨all, hall⟩ : ∃ all, all = D.all ⟨128, 8, [], q, none, 0⟩ := ⟨_, rfl⟩
      have HALL : Hid (∀ j, D.all ⟨128, 8, [], q, none, j⟩ = all) := Lib.hid (fun j => hall.symm)
      obtain ⟨nl, hnl⟩ : ∃ nl, nl = all.length := ⟨_, rfl⟩
      have HLEN : Hid (∀ j, (D.len ⟨128, 8, [], q, none, j⟩ : Int) = (nl : Int)) := Lib.hid (fun j => by rw [← D.all_length, HALL.out, hnl])
      have HNL := Lib.hid hnl
      have hnl8 : nl ≤ 8 := by
        have h1 := HD.out.has.ok.len
        have h2 := HLEN.out 0
        have h3 : D.room ⟨128, 8, [], q, none, 0⟩ = 8 := rfl
        omega
      clear hq hall hnl
      have hkcase : (decide ((k : Int) < (n : Int)) = false ∧ decide (k < n) = false) ∨ (decide ((k : Int) < (n : Int)) = true ∧ decide (k < n) = true) ∧ decide ((k : Int) < 12) = false ∧ decide (k < 12) = false := by
        by_cases h : k < n
        · exact .inr ⟨⟨decide_eq_true (by omega), decide_eq_true h⟩, decide_eq_false (by omega), decide_eq_false (by omega)⟩
        · exact .inl ⟨decide_eq_false (by omega), decide_eq_false h⟩
      clear hlt hk
      rcases hkcase with ⟨e1, e2⟩ | ⟨⟨e1, e2⟩, e3, e4⟩
      all_goals
        go_wp2_with fail
        refine (at_all HD.out HN.out all (HALL.out 0)).mono ?_
        rintro e w5 ⟨g1, rfl, ho5, ha5, hb5⟩
        rw [← HNL.out] at ho5 ⊢
        have HO5 := Lib.hid ho5
        have HD5 := Lib.hid ha5
        have HB5 := Lib.hid hb5
        clear ho5 ha5 hb5
        go_wp2_with fail
        refine (at_all HD5.out HN.out all (HALL.out 0)).mono ?_
        rintro e w6 ⟨g2, rfl, ho6, ha6, hb6⟩
        rw [← HNL.out] at ho6 ⊢
        have HB6 := Lib.hid (HB5.out.trans' hb6)
        have HO6 := Lib.hid ho6
        have HP6 := Lib.hid (own_below HO5.out hb6)
        have hg12 : g2 ≠ g1 := by have h1 := (HO5.out.lt g1 rfl).2; have h2 := (ho6.lt g2 rfl).1; omega
        have HG12 := Lib.hid hg12
        clear hg12
        have HSZ6 : Hid (wr.heap.size ≤ w5.heap.size) := Lib.hid HB5.out.size
        clear ho6 ha6 hb6
        obtain ⟨W1, hW1⟩ : ∃ W1, W1 = wr := ⟨_, rfl⟩
        subst hW1
        have hown6 := own_empty w6 9 1
        have hal6 := below_alloc w6 (.cells #[] 9)
        have HNW : Hid (∀ j u, (strCells all)[j]? = some u → (w6.alloc (.cells #[] 9)).cell? ((⟨g1, 0, none⟩ : Addr).add j) = some u) := Lib.hid (lies_news ((own_lies HP6.out).on hal6))
        have hsc : (strCells all).length = nl * 1 := by rw [strCells_length, HNL.out]; omega
        go_wp2_with (at_builtin; refine wpList_append_own _ rfl _ _ 39 rfl w6.heap.size 9 i0' (.string ⟨#[]⟩) 1 16 Tryd.underlying39 hi hz0 hz1 hz2 rfl (by decide) (.slice (some ⟨w6.heap.size, 0, none⟩) 0 0) 0 [] rfl hown6 ⟨g1, 0, none⟩ nl nl (strCells all) rfl hsc HNW.out (strs_one _) (by unfold maxLen; omega) (by omega) (by simp) ?_; intro v7 w7 hown7 hgrow7 hnil7; rw [Nat.zero_add, List.nil_append] at hown7; obtain ⟨gw, capw, rfl⟩ := own_some' hown7 (fun e => by have := hnil7.1 e; simp at this))
        have hb67 : Below w6.heap.size w6 w7 := hal6.trans (own_apart hown6 hgrow7 (Nat.le_refl _) (by simp))
        have HO7 := Lib.hid hown7
        have HG1W : Hid (gw ≠ g1) := Lib.hid (by have h1 := (HP6.out.lt g1 rfl).2; have h2 := (hown7.lt gw rfl).1; omega)
        have HP7 := Lib.hid (own_below HP6.out hb67)
        have HQ7 := Lib.hid (own_below HO6.out hb67)
        have HB7 := Lib.hid (HB6.out.trans' hb67)
        have HLOW : Hid (W1.heap.size ≤ g1) := Lib.hid (HO5.out.lt g1 rfl).1
        obtain ⟨b1, hb1⟩ : ∃ b1, b1 = W1.heap.size := ⟨_, rfl⟩
        obtain ⟨b2, hb2⟩ : ∃ b2, b2 = w5.heap.size := ⟨_, rfl⟩
        obtain ⟨b6, hb6⟩ : ∃ b6, b6 = w6.heap.size := ⟨_, rfl⟩
        rw [← hb1] at HP7
        rw [← hb2] at HQ7
        rw [← hb6] at HO7
        clear hown6 hal6 hown7 hgrow7 hnil7 hb67 hb1 hb2 hb6 HO5 HO6 HP6 HNW HD1 HD5 HB5 HB6 HSZ6
        go_loopw [11] (fun iv wr => ∃ (j : Nat) (xs : List Value), j ≤ nl ∧ iv = .int .i64 j ∧ Hid (wr.ownsRow b1 9 1 (.slice (some ⟨g1, 0, none⟩) nl nl) nl xs) ∧ Hid (Below W1.heap.size W1 wr) ∧ Hid (wr.ownsRow b2 9 1 (.slice (some ⟨g2, 0, none⟩) nl nl) nl (strCells all)) ∧ Hid (wr.ownsRow b6 9 1 (.slice (some ⟨gw, 0, none⟩) nl capw) nl (strCells all))) (fun iv _ => nl - (intOf iv).toNat)
        case atStart => exact ⟨0, _, by omega, rfl, HP7, HB7, HQ7, HO7⟩
        case round =>
          obtain ⟨j, xs, hj, rfl, HX, HBX, HY, HW⟩ := hrel
          by_cases hjl : j < nl
          · have dj : decide ((j : Int) < (nl : Int)) = true := decide_eq_true (by omega)
            have djn : decide (j < nl) = true := decide_eq_true hjl
            have hj0 : (0 : Int) ≤ j := by omega
            have hjn : (j : Int) < nl := by omega
            obtain ⟨y, hy⟩ : ∃ y, xs[j]? = some y := ⟨_, List.getElem?_eq_getElem (by have := HX.out.1; omega)⟩
            have cj : wr.cell? ⟨g1, j, none⟩ = some y := (HX.out.cellAt j (by omega)).trans hy
            have fj := HX.out.frozenAt j
            have HX' := Lib.hid (HX.out.stored j (.string ⟨#[120]⟩)).1
            have HY' := Lib.hid (own_stays (w' := wr.setCell ⟨g1, j, none⟩ (.string ⟨#[120]⟩)) HY.out (fun g hg => heap_setCell_other _ _ _ _ (own_ne hg HG12.out)))
            have HW' := Lib.hid (own_stays (w' := wr.setCell ⟨g1, j, none⟩ (.string ⟨#[120]⟩)) HW.out (fun g hg => heap_setCell_other _ _ _ _ (own_ne hg HG1W.out)))
            have HBX' := Lib.hid (HBX.out.setCell (p := ⟨g1, j, none⟩) HLOW.out (.string ⟨#[120]⟩))
            clear hy
            go_wp2_with fail
            go_roundw
            case rel => exact ⟨j + 1, _, by omega, by first | rfl | simp, HX', HBX', HY', HW'⟩
            case measure => simp [intOf]; omega
          · have dj : decide ((j : Int) < (nl : Int)) = false := decide_eq_false (by omega)
            have djn : decide (j < nl) = false := decide_eq_false hjl
            have HD8 := Lib.hid (HD.out.below HN.out HBX.out)
            go_wp2_with fail
            refine (at_all HD8.out HN.out all (HALL.out 0)).mono ?_
            rintro e w9 ⟨g9, rfl, ho9, ha9, hb9⟩
            rw [← HNL.out] at ho9 ⊢
            have HD9 := Lib.hid ha9
            have HL9 := Lib.hid (own_lies ho9)
            have HW9 := Lib.hid (own_below HW.out hb9)
            have HY9 := Lib.hid (own_below HY.out hb9)
            clear ho9 ha9 hb9
            go_wp2_with fail
            have HWD := Lib.hid (words_any _ _ all all nl capw w9 HL9.out (own_lies HW9.out) (by have := HNL.out; omega) rfl)
            rw [← HNL.out] at HWD
            refine HWD.out.mono ?_
            rintro e w10 ⟨rfl, hb10⟩
            have HD10 := Lib.hid (HD9.out.below HN.out hb10)
            have HW10 := Lib.hid (own_below HW9.out hb10)
            have HY10 := Lib.hid (own_below HY9.out hb10)
            clear hb10 HWD
            go_wp2_with fail
            refine (page_law c9 _).mono ?_
            rintro e w11 ⟨rfl, hb11⟩
            have HD11 := Lib.hid (HD10.out.below HN.out hb11)
            have HW11 := Lib.hid (own_below HW10.out hb11)
            have HY11 := Lib.hid (own_below HY10.out hb11)
            clear hb11
            go_wp2_with fail
            refine (at_write HD11.out HN.out _ _ _ (by decide) (by rw [pg_size]; unfold maxLen; decide) (own_write q c9)).mono ?_
            rintro e w12 ⟨rfl, ha12, hc12⟩
            have HD12 := Lib.hid ha12
            have HW12 := Lib.hid (own_other HD11.out.has HW11.out (by decide) hc12)
            have HY12 := Lib.hid (own_other HD11.out.has HY11.out (by decide) hc12)
            clear ha12 hc12
            go_wp2_with fail
            have HWD := Lib.hid (words_any _ _ all all nl capw w12 (own_lies HY12.out) (own_lies HW12.out) (by have := HNL.out; omega) rfl)
            rw [← HNL.out] at HWD
            refine HWD.out.mono ?_
            rintro e w13 ⟨rfl, hb13⟩
            have HD13 := Lib.hid (HD12.out.below HN.out hb13)
            clear hb13 HWD
            go_wp2_with fail
            refine (at_read HD13.out HN.out _ _ _ (by decide) (by show 0 < 1000000; omega) (own_read q c9)).mono ?_
            rintro e w14 ⟨rfl, ha14, hc14⟩
            have HD14 := Lib.hid ha14
            clear ha14 hc14
            go_wp2_with fail
            refine (page_law c9 _).mono ?_
            rintro e w15 ⟨rfl, hb15⟩
            have HD15 := Lib.hid (HD14.out.below HN.out hb15)
            clear hb15
            go_wp2_with fail
            refine (at_reads HD15.out 1 rfl).mono ?_
            rintro e w' ⟨rfl, rfl⟩
            go_wp2_with fail
            refine (HFIX.out _ HD15.out.bel).mono ?_
            rintro e w16 ⟨rfl, hb16⟩
            have HD16 := Lib.hid (HD15.out.below HN.out hb16)
            clear hb16
            go_wp2_with fail
            go_ret
            exact ⟨rfl, HD16.out.bel⟩
end Go.Proofs.YtaeiifmdbdhoeaaDoor
