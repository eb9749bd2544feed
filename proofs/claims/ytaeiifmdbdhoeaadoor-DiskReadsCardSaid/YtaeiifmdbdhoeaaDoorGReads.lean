/-
  The walk of DiskReads.
-/
import Derived.Test.YtaeiifmdbdhoeaaDoorGLaws
namespace Go.Proofs.YtaeiifmdbdhoeaaDoor
open Go.RowKit
open Go.ChangeShapes
open DP (W D C)
set_option linter.unusedVariables false
set_option linter.unusedSimpArgs false

set_option maxHeartbeats 4000000 in
set_option maxRecDepth 100000 in
theorem diskReads_walk (A0 : Option Addr) (l : List (UInt8 × UInt8)) (ca0 : Nat) (A1 : Option Addr) (rd : List Int) (ca1 : Nat) (w : World) (hz : Sizes w) (hl : LiesR w w.heap.size A0 l) (hlm : l.length ≤ maxLen) (hr : LiesN w w.heap.size A1 rd) (hrm : rd.length ≤ maxLen) :
    Calls Tryd.prog 8 #[.slice A0 l.length ca0, .slice A1 rd.length ca1] w fun e w' => e = .returned (.bool true) ∧ Below w.heap.size w w' := by
  have hg0 := hz.lt
  have HZ : Hid (∀ W, Below w.heap.size w W → Sizes W) := Lib.hid (fun W hW => hz.below hg0 hW)
  have HFIX : Hid (∀ W, Below w.heap.size w W → Calls Tryd.prog 13 #[] W fun e w' => e = .returned (.bool true) ∧ Below W.heap.size W w') := Lib.hid (fun W hW => fixed_any W (hz.below hg0 hW) (Nat.lt_of_lt_of_le hg0 hW.size))
  have HN : Hid (w.heap.size ≤ w.heap.size) := Lib.hid (Nat.le_refl _)
  have HB0 : Hid (Below w.heap.size w w) := Lib.hid (Below.refl _ _)
  have HL := Lib.hid hl
  have HR := Lib.hid hr
  unfold maxLen at hlm hrm
  obtain ⟨n, hn⟩ : ∃ n, n = l.length := ⟨_, rfl⟩
  have HLN := Lib.hid hn
  obtain ⟨m, hm⟩ : ∃ m, m = rd.length := ⟨_, rfl⟩
  have HRM := Lib.hid hm
  rw [← hn] at hlm ⊢
  rw [← hm] at hrm ⊢
  have HSN : Hid (∀ k x, l[k]? = some x → wrs (l.take (k + 1)) = wrs (l.take k) ++ [wr8 x]) := Lib.hid (wrs_snoc l)
  clear hz hl hr hn hm hg0
  go_enter Tryd.func8, Tryd.ntmps8
  go_wp2_with fail
  refine (new_at HB0.out HN.out (HZ.out _ HB0.out) 128 8 _ _ rfl rfl rfl (by decide) (by decide)).mono ?_
  rintro e w1 ⟨b, rfl, ha1, _, _⟩
  have HD1 := Lib.hid ha1
  have HBLO : Hid (w.heap.size ≤ b) := Lib.hid ha1.low
  clear ha1
  go_wp2_with fail
  go_loopw [7] (fun iv wr => ∃ k : Nat, k ≤ min n 12 ∧ iv = .int .i64 k ∧ Hid (At w.heap.size w wr b ⟨128, 8, [], wrs (l.take k), none, 0⟩)) (fun iv _ => 12 - (intOf iv).toNat)
  case atStart => exact ⟨0, by omega, rfl, HD1⟩
  case round =>
    obtain ⟨k, hk, rfl, HD⟩ := hrel
    by_cases hlt : k < min n 12
    · obtain ⟨x, hx⟩ : ∃ x, l[k]? = some x := ⟨_, List.getElem?_eq_getElem (by have := HLN.out; omega)⟩
      obtain ⟨a, rfl, hab, x0, x1⟩ := (HL.out.below HD.out.bel) k x hx
      have d1 : decide ((k : Int) < (n : Int)) = true := decide_eq_true (by omega)
      have d1n : decide (k < n) = true := decide_eq_true (by omega)
      have d2 : decide ((k : Int) < 12) = true := decide_eq_true (by omega)
      have d2n : decide (k < 12) = true := decide_eq_true (by omega)
      have hk0 : (0 : Int) ≤ k := by omega
      have hkn : (k : Int) < n := by omega
      have HSTEP := Lib.hid (w8 ⟨128, 8, [], wrs (l.take k), none, 0⟩ x rfl (Nat.le_refl _) rfl)
      have HSX := Lib.hid (HSN.out k x hx)
      have hi8 : x.1.toNat ≤ 255 := by have := x.1.toNat_lt; omega
      obtain ⟨i0, hi0⟩ : ∃ i0, i0 = x.1.toNat := ⟨_, rfl⟩
      obtain ⟨m8, hm8⟩ : ∃ m8, m8 = i0 % 8 := ⟨_, rfl⟩
      rw [← hi0] at hi8 x0 HSTEP
      rw [← hm8] at HSTEP
      have hmd : (i0 : Int) % 8 = (m8 : Int) := by omega
      have hmd2 : (i0 : Int).tmod 8 = (m8 : Int) := by rw [Int.tmod_eq_emod_of_nonneg (by omega)]; exact hmd
      have hm8' : m8 < 8 := by omega
      have wi : IntKind.i64.wrap (i0 : Int) = (i0 : Int) := IntWalk.i64_in _ (by omega)
      obtain ⟨c, hc⟩ : ∃ c, c = x.2 := ⟨_, rfl⟩
      rw [← hc] at x1 HSTEP
      have HKB : Hid (∀ V V', Below V.heap.size V V' → (Hid (Below w.heap.size w V) ∧ V.cell? (a.add (k * 2)) = some (.int .u8 (i0 : Nat)) ∧ V.cell? ⟨(a.add (k * 2)).block, (a.add (k * 2)).off + 1, none⟩ = some (.int .u8 c.toNat)) → (Hid (Below w.heap.size w V') ∧ V'.cell? (a.add (k * 2)) = some (.int .u8 (i0 : Nat)) ∧ V'.cell? ⟨(a.add (k * 2)).block, (a.add (k * 2)).off + 1, none⟩ = some (.int .u8 c.toNat))) := Lib.hid (fun V V' hv h => ⟨Lib.hid (below_then h.1.out hv), (hv.cell (by rw [addr_block]; exact Nat.lt_of_lt_of_le hab h.1.out.size)).trans h.2.1, (hv.cell (by show (a.add (k * 2)).block < _; rw [addr_block]; exact Nat.lt_of_lt_of_le hab h.1.out.size)).trans h.2.2⟩)
      have HKC : Hid (∀ V V', Chg (fun j => j = b) V V' → (Hid (Below w.heap.size w V) ∧ V.cell? (a.add (k * 2)) = some (.int .u8 (i0 : Nat)) ∧ V.cell? ⟨(a.add (k * 2)).block, (a.add (k * 2)).off + 1, none⟩ = some (.int .u8 c.toNat)) → (Hid (Below w.heap.size w V') ∧ V'.cell? (a.add (k * 2)) = some (.int .u8 (i0 : Nat)) ∧ V'.cell? ⟨(a.add (k * 2)).block, (a.add (k * 2)).off + 1, none⟩ = some (.int .u8 c.toNat))) := Lib.hid (fun V V' hv h => by
        have hv' := hv.below (c := w.heap.size) (fun j e => by rw [e]; exact HBLO.out) h.1.out.size
        exact ⟨Lib.hid (h.1.out.trans hv'), (hv'.cell (by rw [addr_block]; exact hab)).trans h.2.1, (hv'.cell (by show (a.add (k * 2)).block < _; rw [addr_block]; exact hab)).trans h.2.2⟩)
      have hS0 : Hid (Below w.heap.size w wr.drew) := Lib.hid (below_drewN HD.out.bel 1)
      clear hx hi0 hm8 hc
      go_wp2_with fail
      go_region_held3 (fun V => Hid (Below w.heap.size w V) ∧ V.cell? (a.add (k * 2)) = some (.int .u8 (i0 : Nat)) ∧ V.cell? ⟨(a.add (k * 2)).block, (a.add (k * 2)).off + 1, none⟩ = some (.int .u8 c.toNat))
        (first | assumption | exact ⟨hS0, x0, x1⟩ | exact HKB.out _ _ (by assumption) (by assumption) | exact HKC.out _ _ (by assumption) (by assumption))
        (first
          | (go_at_call 24; refine (page_law c _).mono ?_; rintro e w3 ⟨rfl, hb3⟩; have HD3 := Lib.hid (HD.out.below HN.out (below_of_drew hb3)))
          | (go_at_call 25; refine (at_write HD3.out HN.out _ 0 _ (by simp [Lit.wf, IntKind.min, IntKind.max, IntKind.signed, IntKind.bits]; omega) (by rw [pg_size]; unfold maxLen; decide) HSTEP.out).mono ?_; rintro e w4 ⟨rfl, ha4, hc4⟩; have HD4 := Lib.hid ha4)
          | fail "no arm")
      all_goals
        go_wp2_with fail
        go_roundw
        case rel => exact ⟨k + 1, by omega, by first | rfl | simp, by rw [HSX.out]; exact HD4⟩
        case measure => simp [intOf]; omega
    · have hkk : k = min n 12 := by omega
      obtain ⟨q, hq⟩ : ∃ q, q = wrs (l.take k) := ⟨_, rfl⟩
      rw [← hq] at HD
      obtain ⟨all, hall⟩ : ∃ all, all = D.all ⟨128, 8, [], q, none, 0⟩ := ⟨_, rfl⟩
      have HALL : Hid (∀ j, D.all ⟨128, 8, [], q, none, j⟩ = all) := Lib.hid (fun j => hall.symm)
      obtain ⟨nl, hnl⟩ : ∃ nl, nl = all.length := ⟨_, rfl⟩
      have HLEN : Hid (∀ j, (D.len ⟨128, 8, [], q, none, j⟩ : Int) = (nl : Int)) := Lib.hid (fun j => by rw [← D.all_length, HALL.out, hnl])
      have HNL := Lib.hid hnl
      have hnl8 : nl ≤ 8 := by
        have h1 := HD.out.has.ok.len
        have h2 := HLEN.out 0
        have h3 : D.room ⟨128, 8, [], q, none, 0⟩ = 8 := rfl
        omega
      have HRU : Hid (∀ j v, v < nl → ∃ t, all[v]? = some t ∧ D.read ⟨128, 8, [], q, none, j⟩ (v : Int) = (⟨128, 8, [], q, none, j + 1⟩, t, 0)) := Lib.hid (fun j v hv => by
        obtain ⟨t, ht⟩ : ∃ t, all[v]? = some t := ⟨_, List.getElem?_eq_getElem (by omega)⟩
        refine ⟨t, ht, ?_⟩
        rw [read_up _ _ ⟨by omega, by rw [HLEN.out]; omega⟩, HALL.out, Int.toNat_natCast]
        unfold DP.page
        rw [List.getD_eq_getElem?_getD, ht]
        rfl)
      have HRD : Hid (∀ j (x : Int), (x < 0 ∨ (nl : Int) ≤ x) → D.read ⟨128, 8, [], q, none, j⟩ x = (⟨128, 8, [], q, none, j + 1⟩, ⟨#[]⟩, 4)) := Lib.hid (fun j x hx => read_dn _ x (by rw [HLEN.out]; omega))
      clear hq hall hnl
      have hcase : (decide ((k : Int) < (n : Int)) = false ∧ decide (k < n) = false) ∨ (decide ((k : Int) < (n : Int)) = true ∧ decide (k < n) = true) ∧ decide ((k : Int) < 12) = false ∧ decide (k < 12) = false := by
        by_cases h : k < n
        · exact .inr ⟨⟨decide_eq_true (by omega), decide_eq_true h⟩, decide_eq_false (by omega), decide_eq_false (by omega)⟩
        · exact .inl ⟨decide_eq_false (by omega), decide_eq_false h⟩
      clear hkk hlt hk
      rcases hcase with ⟨e1, e2⟩ | ⟨⟨e1, e2⟩, e3, e4⟩
      all_goals
        go_wp2_with fail
        refine (at_all HD.out HN.out all (HALL.out 0)).mono ?_
        rintro e w5 ⟨ga, rfl, ho5, ha5, hb5⟩
        rw [← HNL.out] at ho5 ⊢
        have HO5 := Lib.hid ho5
        have HD5 := Lib.hid ha5
        clear ho5 ha5 hb5
        obtain ⟨base, hbase⟩ : ∃ base, base = wr.heap.size := ⟨_, rfl⟩
        rw [← hbase] at HO5
        clear hbase
        go_wp2_with fail
        refine (at_len HD5.out _ (HLEN.out 0)).mono ?_
        rintro e w' ⟨rfl, rfl⟩
        go_wp2_with fail
        refine (at_reads HD5.out 0 rfl).mono ?_
        rintro e w' ⟨rfl, rfl⟩
        go_wp2_with fail
        clear HD1 HD
        go_loopw [10] (fun iv wr => ∃ j : Nat, j ≤ min m 30 ∧ iv = .int .i64 j ∧ Hid (At w.heap.size w wr b ⟨128, 8, [], q, none, j⟩) ∧ Hid (wr.ownsRow base 9 1 (.slice (some ⟨ga, 0, none⟩) nl nl) nl (strCells all))) (fun iv _ => 30 - (intOf iv).toNat)
        case atStart => exact ⟨0, by omega, rfl, HD5, HO5⟩
        case round =>
          obtain ⟨j, hj, rfl, HD, HO⟩ := hrel
          by_cases hjt : j < min m 30
          · obtain ⟨x, hx⟩ : ∃ x, rd[j]? = some x := ⟨_, List.getElem?_eq_getElem (by have := HRM.out; omega)⟩
            obtain ⟨a, rfl, hab, x0, hwf⟩ := (HR.out.below HD.out.bel) j x hx
            have dj1 : decide ((j : Int) < (m : Int)) = true := decide_eq_true (by omega)
            have dj1n : decide (j < m) = true := decide_eq_true (by omega)
            have dj2 : decide ((j : Int) < 30) = true := decide_eq_true (by omega)
            have dj2n : decide (j < 30) = true := decide_eq_true (by omega)
            have hj0 : (0 : Int) ≤ j := by omega
            have hjm : (j : Int) < m := by omega
            have wj : IntKind.i64.wrap ((j : Int) + 1) = ((j + 1 : Nat) : Int) := by rw [IntWalk.i64_in _ (by omega)]; simp
            have HAB := Lib.hid hab
            have HWF := Lib.hid hwf
            have HX0 := Lib.hid x0
            clear hx hab hwf
            by_cases hneg : x < 0
            · have dx : decide (x < 0) = true := decide_eq_true hneg
              go_wp2_with fail
              refine (at_read HD.out HN.out _ 4 ⟨#[]⟩ HWF.out (by show j < 1000000; omega) (HRD.out j x (.inl hneg))).mono ?_
              rintro e w6 ⟨rfl, ha6, hc6⟩
              have HD6 := Lib.hid ha6
              have HO6 := Lib.hid (own_other HD.out.has HO.out (by decide) hc6)
              have x06 := ((hc6.below (fun i e => by rw [e]; exact HBLO.out) HD.out.bel.size).cell (by rw [addr_block]; exact HAB.out)).trans HX0.out
              clear ha6 hc6 x0
              go_wp2_with fail
              refine (at_reads HD6.out _ rfl).mono ?_
              rintro e w' ⟨rfl, rfl⟩
              go_wp2_with fail
              refine (at_len HD6.out _ (HLEN.out _)).mono ?_
              rintro e w' ⟨rfl, rfl⟩
              go_wp2_with fail
              go_roundw
              case rel => exact ⟨j + 1, by omega, by first | rfl | simp, HD6, HO6⟩
              case measure => simp [intOf]; omega
            by_cases hge : (nl : Int) ≤ x
            · have dx : decide (x < 0) = false := decide_eq_false hneg
              have dx2 : decide ((nl : Int) ≤ x) = true := decide_eq_true hge
              go_wp2_with fail
              refine (at_read HD.out HN.out _ 4 ⟨#[]⟩ HWF.out (by show j < 1000000; omega) (HRD.out j x (.inr hge))).mono ?_
              rintro e w6 ⟨rfl, ha6, hc6⟩
              have HD6 := Lib.hid ha6
              have HO6 := Lib.hid (own_other HD.out.has HO.out (by decide) hc6)
              have x06 := ((hc6.below (fun i e => by rw [e]; exact HBLO.out) HD.out.bel.size).cell (by rw [addr_block]; exact HAB.out)).trans HX0.out
              clear ha6 hc6 x0
              go_wp2_with fail
              refine (at_reads HD6.out _ rfl).mono ?_
              rintro e w' ⟨rfl, rfl⟩
              go_wp2_with fail
              refine (at_len HD6.out _ (HLEN.out _)).mono ?_
              rintro e w' ⟨rfl, rfl⟩
              go_wp2_with fail
              go_roundw
              case rel => exact ⟨j + 1, by omega, by first | rfl | simp, HD6, HO6⟩
              case measure => simp [intOf]; omega
            · obtain ⟨v, rfl⟩ := Int.eq_ofNat_of_zero_le (show 0 ≤ x by omega)
              have hv : v < nl := by omega
              obtain ⟨t, ht, hread⟩ := HRU.out j v hv
              have HT := Lib.hid ht
              have dx : decide ((v : Int) < 0) = false := decide_eq_false hneg
              have dx2 : decide ((nl : Int) ≤ (v : Int)) = false := decide_eq_false hge
              have dx2n : decide (nl ≤ v) = false := decide_eq_false (by omega)
              have hv0 : (0 : Int) ≤ v := by omega
              have hvn : (v : Int) < nl := by omega
              clear ht
              go_wp2_with fail
              refine (at_read HD.out HN.out _ 0 t HWF.out (by show j < 1000000; omega) hread).mono ?_
              rintro e w6 ⟨rfl, ha6, hc6⟩
              have HD6 := Lib.hid ha6
              have HO6 := Lib.hid (own_other HD.out.has HO.out (by decide) hc6)
              have x06 := ((hc6.below (fun i e => by rw [e]; exact HBLO.out) HD.out.bel.size).cell (by rw [addr_block]; exact HAB.out)).trans HX0.out
              have xa6 : w6.cell? ⟨ga, v, none⟩ = some (.string t) := (HO6.out.cellAt v (by omega)).trans (by simp [strCells, HT.out])
              clear ha6 hc6 x0 hread
              go_wp2_with fail
              refine (at_reads HD6.out _ rfl).mono ?_
              rintro e w' ⟨rfl, rfl⟩
              go_wp2_with fail
              refine (at_len HD6.out _ (HLEN.out _)).mono ?_
              rintro e w' ⟨rfl, rfl⟩
              go_wp2_with fail
              go_roundw
              case rel => exact ⟨j + 1, by omega, by first | rfl | simp, HD6, HO6⟩
              case measure => simp [intOf]; omega
          · have hjc : (decide ((j : Int) < (m : Int)) = false ∧ decide (j < m) = false) ∨ (decide ((j : Int) < (m : Int)) = true ∧ decide (j < m) = true) ∧ decide ((j : Int) < 30) = false ∧ decide (j < 30) = false := by
              by_cases h : j < m
              · exact .inr ⟨⟨decide_eq_true (by omega), decide_eq_true h⟩, decide_eq_false (by omega), decide_eq_false (by omega)⟩
              · exact .inl ⟨decide_eq_false (by omega), decide_eq_false h⟩
            clear hjt hj
            rcases hjc with ⟨f1, f2⟩ | ⟨⟨f1, f2⟩, f3, f4⟩
            all_goals
              go_wp2_with fail
              refine (at_all HD.out HN.out all (HALL.out _)).mono ?_
              rintro e w7 ⟨g7, rfl, ho7, ha7, hb7⟩
              rw [← HNL.out] at ho7 ⊢
              have HD7 := Lib.hid ha7
              have HL7 := Lib.hid (own_lies ho7)
              have HLA7 := Lib.hid (own_lies (own_below HO.out hb7))
              clear ho7 ha7 hb7
              go_wp2_with fail
              have HWD := Lib.hid (words_any _ _ all all nl nl w7 HL7.out HLA7.out (by have := HNL.out; omega) rfl)
              rw [← HNL.out] at HWD
              refine (HWD.out).mono ?_
              rintro e w8 ⟨rfl, hb8⟩
              have HD8 := Lib.hid (HD7.out.below HN.out hb8)
              clear hb8
              go_wp2_with fail
              refine (HFIX.out _ HD8.out.bel).mono ?_
              rintro e w9 ⟨rfl, hb9⟩
              have HD9 := Lib.hid (HD8.out.below HN.out hb9)
              clear hb9
              go_wp2_with fail
              go_ret
              exact ⟨rfl, HD9.out.bel⟩
end Go.Proofs.YtaeiifmdbdhoeaaDoor
