/-
  The walk of DiskLimit.
-/
import Derived.Test.YtaeiifmdbdhoeaaDoorGLaws
namespace Go.Proofs.YtaeiifmdbdhoeaaDoor
open Go.RowKit
open Go.ChangeShapes
open DP (W D C)
set_option linter.unusedVariables false
set_option linter.unusedSimpArgs false

theorem lim_sync (d : D) (L : Nat) (hl : d.left = some L) (h : L ≠ 0) : d.sync = ({ d with kept := d.all, q := [], left := some (L - 1) }, 0) := by
  rw [sync_ok d (by rw [hl]; exact fun e => h (Option.some.inj e))]
  unfold D.less
  rw [hl]
  rfl
theorem lim_write (d : D) (L m : Nat) (c : UInt8) (hl : d.left = some L) (h : L ≠ 0) (hp : d.p = 128) (hr : d.room = 4) (hm : m < 4) : d.write (m : Int) (pg c) = ({ d with q := d.q ++ [⟨m, pg c⟩], left := some (L - 1) }, 0) := by
  rw [D.write_ok d m (pg c) (by rw [hl]; exact fun e => h (Option.some.inj e)) (by rw [pg_size, hp]) (by omega)]
  unfold D.less
  rw [hl]
  rfl
theorem lim_full (d : D) (L m : Nat) (c : UInt8) (hl : d.left = some L) (h : L ≠ 0) (hp : d.p = 128) (hr : d.room = 4) (hm : ¬ m < 4) : d.write (m : Int) (pg c) = (d, 2) :=
  write_full d m (pg c) (by rw [hl]; exact fun e => h (Option.some.inj e)) (by omega) (by rw [pg_size, hp]) (by omega)

set_option maxHeartbeats 4000000 in
set_option maxRecDepth 100000 in
theorem diskLimit_walk (n0 : Int) (A0 : Option Addr) (l : List (UInt8 × UInt8)) (ca0 : Nat) (w : World) (hz : Sizes w) (hn0 : (Lit.int .u8 n0).wf = true) (hl : LiesR w w.heap.size A0 l) (hlm : l.length ≤ maxLen) :
    Calls Tryd.prog 6 #[.int .u8 n0, .slice A0 l.length ca0] w fun e w' => e = .returned (.bool true) ∧ Below w.heap.size w w' := by
  have hnb := bounds_u8 hn0
  obtain ⟨nn, rfl⟩ := Int.eq_ofNat_of_zero_le (show 0 ≤ n0 by omega)
  obtain ⟨L0, hL0⟩ : ∃ L0, L0 = nn % 12 := ⟨_, rfl⟩
  have hmd : (nn : Int) % 12 = (L0 : Int) := by omega
  have hmd2 : (nn : Int).tmod 12 = (L0 : Int) := by rw [Int.tmod_eq_emod_of_nonneg (by omega)]; exact hmd
  have hL12 : L0 < 12 := by omega
  have wn : IntKind.i64.wrap (nn : Int) = (nn : Int) := IntWalk.i64_in _ (by omega)
  clear hL0 hn0
  have hg0 := hz.lt
  have HZ : Hid (∀ W, Below w.heap.size w W → Sizes W) := Lib.hid (fun W hW => hz.below hg0 hW)
  have HFIX : Hid (∀ W, Below w.heap.size w W → Calls Tryd.prog 13 #[] W fun e w' => e = .returned (.bool true) ∧ Below W.heap.size W w') := Lib.hid (fun W hW => fixed_any W (hz.below hg0 hW) (Nat.lt_of_lt_of_le hg0 hW.size))
  have HN : Hid (w.heap.size ≤ w.heap.size) := Lib.hid (Nat.le_refl _)
  have HB0 : Hid (Below w.heap.size w w) := Lib.hid (Below.refl _ _)
  have HL := Lib.hid hl
  unfold maxLen at hlm
  obtain ⟨n, hn⟩ : ∃ n, n = l.length := ⟨_, rfl⟩
  have HLN := Lib.hid hn
  rw [← hn] at hlm ⊢
  have HSN : Hid (∀ k x, l[k]? = some x → wrs (l.take (k + 1)) = wrs (l.take k) ++ [wr8 x]) := Lib.hid (wrs_snoc l)
  clear hz hl hn hg0
  go_enter Tryd.func6, Tryd.ntmps6
  go_wp2_with fail
  refine (new_at HB0.out HN.out (HZ.out _ HB0.out) 128 4 _ _ rfl rfl rfl (by decide) (by decide)).mono ?_
  rintro e w1 ⟨b, rfl, ha1, _, _⟩
  have HD1 := Lib.hid ha1
  clear ha1
  go_wp2_with fail
  refine (at_limit HD1.out HN.out _ (by simp [Lit.wf, IntKind.min, IntKind.max, IntKind.signed, IntKind.bits]; omega) rfl).mono ?_
  rintro e w2 ⟨rfl, ha2, hc2⟩
  have HD2 : Hid (∃ d, At w.heap.size w w2 b d ∧ d.p = 128 ∧ d.room = 4 ∧ d.left = some L0) := Lib.hid ⟨_, ha2, rfl, rfl, by show some ((L0 : Int).toNat) = some L0; simp⟩
  clear ha2 hc2 HD1
  go_wp2_with fail
  go_loopw [7, 8] (fun lv iv wr => ∃ k L : Nat, k ≤ min n 30 ∧ iv = .int .i64 k ∧ lv = .int .i64 L ∧ L < 12 ∧ Hid (∃ d, At w.heap.size w wr b d ∧ d.p = 128 ∧ d.room = 4 ∧ d.left = some L)) (fun _ iv _ => 30 - (intOf iv).toNat)
  case atStart => exact ⟨0, L0, by omega, rfl, rfl, hL12, HD2⟩
  case round =>
    obtain ⟨k, L, hk, rfl, rfl, hL, HPARTS⟩ := hrel
    obtain ⟨d, hd, hp, hr, hleft⟩ := HPARTS.out
    have HD := Lib.hid hd
    have HP := Lib.hid hp
    have HR := Lib.hid hr
    have HLE := Lib.hid hleft
    have HLOK := Lib.hid hd.has.ok.len
    clear hd hp hr hleft HPARTS hmd hmd2 hL12 wn hnb
    by_cases hlt : k < min n 30
    · obtain ⟨x, hx⟩ : ∃ x, l[k]? = some x := ⟨_, List.getElem?_eq_getElem (by have := HLN.out; omega)⟩
      obtain ⟨a, rfl, hab, x0, x1⟩ := (HL.out.below HD.out.bel) k x hx
      have d1 : decide ((k : Int) < (n : Int)) = true := decide_eq_true (by omega)
      have d1n : decide (k < n) = true := decide_eq_true (by omega)
      have d2 : decide ((k : Int) < 30) = true := decide_eq_true (by omega)
      have d2n : decide (k < 30) = true := decide_eq_true (by omega)
      have hk0 : (0 : Int) ≤ k := by omega
      have hkn : (k : Int) < n := by omega
      have hi6 : x.1.toNat ≤ 255 := by have := x.1.toNat_lt; omega
      obtain ⟨i0, hi0⟩ : ∃ i0, i0 = x.1.toNat := ⟨_, rfl⟩
      obtain ⟨m6, hm6⟩ : ∃ m6, m6 = i0 % 6 := ⟨_, rfl⟩
      rw [← hi0] at hi6 x0
      have hmd : (i0 : Int) % 6 = (m6 : Int) := by omega
      have hmd2 : (i0 : Int).tmod 6 = (m6 : Int) := by rw [Int.tmod_eq_emod_of_nonneg (by omega)]; exact hmd
      have hm6' : m6 < 6 := by omega
      have wi : IntKind.i64.wrap (i0 : Int) = (i0 : Int) := IntWalk.i64_in _ (by omega)
      obtain ⟨c, hc⟩ : ∃ c, c = x.2 := ⟨_, rfl⟩
      rw [← hc] at x1
      obtain ⟨cn, hcn⟩ : ∃ cn, cn = c.toNat := ⟨_, rfl⟩
      rw [← hcn] at x1
      have HCN := Lib.hid hcn
      have HCELL : Hid (∀ V, Below w.heap.size w V → V.cell? (a.add (k * 2)) = some (.int .u8 (i0 : Nat)) ∧ V.cell? ⟨(a.add (k * 2)).block, (a.add (k * 2)).off + 1, none⟩ = some (.int .u8 (cn : Nat))) := Lib.hid (fun V hV => by
        obtain ⟨_, e, hab', y0, y1⟩ := (HL.out.below hV) k x hx
        obtain rfl := Option.some.inj e
        rw [← hi0] at y0
        rw [← hc, ← hcn] at y1
        exact ⟨y0, y1⟩)
      obtain ⟨all, hall⟩ : ∃ all, all = d.all := ⟨_, rfl⟩
      have HALL : Hid (d.all = all) := Lib.hid hall.symm
      obtain ⟨nl, hnl⟩ : ∃ nl, nl = all.length := ⟨_, rfl⟩
      have HNL := Lib.hid hnl
      have hnl4 : nl ≤ 4 := by
        have h1 := HLOK.out
        rw [HR.out, ← D.all_length, ← hall, ← hnl] at h1
        exact h1
      clear hx hi0 hm6 hc hcn hall hnl hab x0 x1
      go_wp2_with fail
      refine (at_all HD.out HN.out all HALL.out).mono ?_
      rintro e w5 ⟨g5, rfl, ho5, ha5, hb5⟩
      rw [← HNL.out] at ho5 ⊢
      have HO5 := Lib.hid ho5
      have HD5 := Lib.hid ha5
      obtain ⟨x0, x1⟩ := HCELL.out w5 HD5.out.bel
      obtain ⟨b5, hb5'⟩ : ∃ b5, b5 = wr.heap.size := ⟨_, rfl⟩
      rw [← hb5'] at HO5
      clear ho5 ha5 hb5 hb5'
      by_cases hcz : cn = 0
      · have hcn0 : (cn : Int) = 0 := by omega
        rw [hcn0] at x1
        by_cases hL0 : L = 0
        · have HL0 : Hid (d.left = some 0) := Lib.hid (by rw [HLE.out, hL0])
          have dL : ((L : Int) == 0) = true := by simp [hL0]
          clear hL0 hcz
          go_wp2_with fail
          refine (at_sync HD5.out HN.out 9 (sync_dead d HL0.out)).mono ?_
          rintro e w6 ⟨rfl, ha6, hc6⟩
          have HD6 := Lib.hid ha6
          have HO6 := Lib.hid (own_other HD5.out.has HO5.out (by decide) hc6)
          obtain ⟨y0, y1⟩ := HCELL.out w6 HD6.out.bel
          rw [hcn0] at y1
          clear ha6 hc6 x0 x1
          go_wp2_with fail
          refine (at_all HD6.out HN.out all HALL.out).mono ?_
          rintro e w7 ⟨g7, rfl, ho7, ha7, hb7⟩
          rw [← HNL.out] at ho7 ⊢
          have HD7 := Lib.hid ha7
          have HL7 := Lib.hid (own_lies ho7)
          have HO7 := Lib.hid (own_below HO6.out hb7)
          clear ho7 ha7 hb7
          go_wp2_with fail
          have HWD := Lib.hid (words_any _ _ all all nl nl w7 HL7.out (own_lies HO7.out) (by have := HNL.out; omega) rfl)
          rw [← HNL.out] at HWD
          refine HWD.out.mono ?_
          rintro e w8 ⟨rfl, hb8⟩
          have HD8 := Lib.hid (HD7.out.below HN.out hb8)
          clear hb8 HWD
          go_wp2_with fail
          go_roundw
          case rel => exact ⟨k + 1, L, by omega, by first | rfl | simp, rfl, hL, Lib.hid ⟨d, HD8.out, HP.out, HR.out, HLE.out⟩⟩
          case measure => simp [intOf]; omega
        · have dL : ((L : Int) == 0) = false := by rw [beq_eq_false_iff_ne]; omega
          have HNZ := Lib.hid hL0
          have wL : IntKind.i64.wrap ((L : Int) - 1) = ((L - 1 : Nat) : Int) := by rw [IntWalk.i64_in _ (by omega)]; omega
          clear hcz
          go_wp2_with fail
          refine (at_sync HD5.out HN.out 0 (lim_sync d L HLE.out HNZ.out)).mono ?_
          rintro e w6 ⟨rfl, ha6, hc6⟩
          have HD6 := Lib.hid ha6
          have HO6 := Lib.hid (own_other HD5.out.has HO5.out (by decide) hc6)
          obtain ⟨y0, y1⟩ := HCELL.out w6 HD6.out.bel
          rw [hcn0] at y1
          clear ha6 hc6 x0 x1
          go_wp2_with fail
          go_roundw
          case rel => exact ⟨k + 1, L - 1, by omega, by first | rfl | simp, rfl, by omega, Lib.hid ⟨_, HD6.out, HP.out, HR.out, rfl⟩⟩
          case measure => simp [intOf]; omega
      · have dC : ((cn : Int) == 0) = false := by rw [beq_eq_false_iff_ne]; omega
        have dC2 : ((cn : Int) != 0) = true := by rw [bne_iff_ne]; omega
        clear hcz
        by_cases hL0 : L = 0
        · have HL0 : Hid (d.left = some 0) := Lib.hid (by rw [HLE.out, hL0])
          have dL : ((L : Int) == 0) = true := by simp [hL0]
          clear hL0
          by_cases hm4 : m6 < 4
          · have dm : decide ((3 : Int) < (m6 : Int)) = false := decide_eq_false (by omega)
            have dmn : decide (3 < m6) = false := decide_eq_false (by omega)
            clear hm4
            go_wp2_with fail
            refine (page_at c (cn : Int) (by rw [HCN.out]) _).mono ?_
            rintro e w5' ⟨rfl, hb5'⟩
            have HD5' := Lib.hid (HD5.out.below HN.out hb5')
            have HO5' := Lib.hid (own_below HO5.out hb5')
            clear hb5'
            go_wp2_with fail
            refine (at_write HD5'.out HN.out _ 9 _ (by simp [Lit.wf, IntKind.min, IntKind.max, IntKind.signed, IntKind.bits]; omega) (by rw [pg_size]; unfold maxLen; decide) (write_left b d _ _ HL0.out)).mono ?_
            rintro e w6 ⟨rfl, ha6, hc6⟩
            have HD6 := Lib.hid ha6
            have HO6 := Lib.hid (own_other HD5'.out.has HO5'.out (by decide) hc6)
            obtain ⟨y0, y1⟩ := HCELL.out w6 HD6.out.bel
            clear ha6 hc6 x0 x1
            go_wp2_with fail
            refine (at_all HD6.out HN.out all HALL.out).mono ?_
            rintro e w7 ⟨g7, rfl, ho7, ha7, hb7⟩
            rw [← HNL.out] at ho7 ⊢
            have HD7 := Lib.hid ha7
            have HL7 := Lib.hid (own_lies ho7)
            have HO7 := Lib.hid (own_below HO6.out hb7)
            clear ho7 ha7 hb7
            go_wp2_with fail
            have HWD := Lib.hid (words_any _ _ all all nl nl w7 HL7.out (own_lies HO7.out) (by have := HNL.out; omega) rfl)
            rw [← HNL.out] at HWD
            refine HWD.out.mono ?_
            rintro e w8 ⟨rfl, hb8⟩
            have HD8 := Lib.hid (HD7.out.below HN.out hb8)
            clear hb8 HWD
            go_wp2_with fail
            go_roundw
            case rel => exact ⟨k + 1, L, by omega, by first | rfl | simp, rfl, hL, Lib.hid ⟨d, HD8.out, HP.out, HR.out, HLE.out⟩⟩
            case measure => simp [intOf]; omega
          · have dm : decide ((3 : Int) < (m6 : Int)) = true := decide_eq_true (by omega)
            have dmn : decide (3 < m6) = true := decide_eq_true (by omega)
            clear hm4
            go_wp2_with fail
            refine (page_at c (cn : Int) (by rw [HCN.out]) _).mono ?_
            rintro e w5' ⟨rfl, hb5'⟩
            have HD5' := Lib.hid (HD5.out.below HN.out hb5')
            have HO5' := Lib.hid (own_below HO5.out hb5')
            clear hb5'
            go_wp2_with fail
            refine (at_write HD5'.out HN.out _ 9 _ (by simp [Lit.wf, IntKind.min, IntKind.max, IntKind.signed, IntKind.bits]; omega) (by rw [pg_size]; unfold maxLen; decide) (write_left b d _ _ HL0.out)).mono ?_
            rintro e w6 ⟨rfl, ha6, hc6⟩
            have HD6 := Lib.hid ha6
            have HO6 := Lib.hid (own_other HD5'.out.has HO5'.out (by decide) hc6)
            obtain ⟨y0, y1⟩ := HCELL.out w6 HD6.out.bel
            clear ha6 hc6 x0 x1
            go_wp2_with fail
            refine (at_all HD6.out HN.out all HALL.out).mono ?_
            rintro e w7 ⟨g7, rfl, ho7, ha7, hb7⟩
            rw [← HNL.out] at ho7 ⊢
            have HD7 := Lib.hid ha7
            have HL7 := Lib.hid (own_lies ho7)
            have HO7 := Lib.hid (own_below HO6.out hb7)
            clear ho7 ha7 hb7
            go_wp2_with fail
            have HWD := Lib.hid (words_any _ _ all all nl nl w7 HL7.out (own_lies HO7.out) (by have := HNL.out; omega) rfl)
            rw [← HNL.out] at HWD
            refine HWD.out.mono ?_
            rintro e w8 ⟨rfl, hb8⟩
            have HD8 := Lib.hid (HD7.out.below HN.out hb8)
            clear hb8 HWD
            go_wp2_with fail
            go_roundw
            case rel => exact ⟨k + 1, L, by omega, by first | rfl | simp, rfl, hL, Lib.hid ⟨d, HD8.out, HP.out, HR.out, HLE.out⟩⟩
            case measure => simp [intOf]; omega
        · have dL : ((L : Int) == 0) = false := by rw [beq_eq_false_iff_ne]; omega
          have HNZ := Lib.hid hL0
          by_cases hm4 : m6 < 4
          · have dm : decide ((3 : Int) < (m6 : Int)) = false := decide_eq_false (by omega)
            have dmn : decide (3 < m6) = false := decide_eq_false (by omega)
            have HM4 := Lib.hid hm4
            have wL : IntKind.i64.wrap ((L : Int) - 1) = ((L - 1 : Nat) : Int) := by rw [IntWalk.i64_in _ (by omega)]; omega
            clear hm4
            go_wp2_with fail
            refine (page_at c (cn : Int) (by rw [HCN.out]) _).mono ?_
            rintro e w5' ⟨rfl, hb5'⟩
            have HD5' := Lib.hid (HD5.out.below HN.out hb5')
            have HO5' := Lib.hid (own_below HO5.out hb5')
            clear hb5'
            go_wp2_with fail
            refine (at_write HD5'.out HN.out _ 0 _ (by simp [Lit.wf, IntKind.min, IntKind.max, IntKind.signed, IntKind.bits]; omega) (by rw [pg_size]; unfold maxLen; decide) (lim_write d L m6 c HLE.out HNZ.out HP.out HR.out HM4.out)).mono ?_
            rintro e w6 ⟨rfl, ha6, hc6⟩
            have HD6 := Lib.hid ha6
            have HO6 := Lib.hid (own_other HD5'.out.has HO5'.out (by decide) hc6)
            obtain ⟨y0, y1⟩ := HCELL.out w6 HD6.out.bel
            clear ha6 hc6 x0 x1
            go_wp2_with fail
            go_roundw
            case rel => exact ⟨k + 1, L - 1, by omega, by first | rfl | simp, rfl, by omega, Lib.hid ⟨_, HD6.out, HP.out, HR.out, rfl⟩⟩
            case measure => simp [intOf]; omega
          · have dm : decide ((3 : Int) < (m6 : Int)) = true := decide_eq_true (by omega)
            have dmn : decide (3 < m6) = true := decide_eq_true (by omega)
            have HM4 := Lib.hid hm4
            clear hm4
            go_wp2_with fail
            refine (page_at c (cn : Int) (by rw [HCN.out]) _).mono ?_
            rintro e w5' ⟨rfl, hb5'⟩
            have HD5' := Lib.hid (HD5.out.below HN.out hb5')
            have HO5' := Lib.hid (own_below HO5.out hb5')
            clear hb5'
            go_wp2_with fail
            refine (at_write HD5'.out HN.out _ 2 _ (by simp [Lit.wf, IntKind.min, IntKind.max, IntKind.signed, IntKind.bits]; omega) (by rw [pg_size]; unfold maxLen; decide) (lim_full d L m6 c HLE.out HNZ.out HP.out HR.out HM4.out)).mono ?_
            rintro e w6 ⟨rfl, ha6, hc6⟩
            have HD6 := Lib.hid ha6
            have HO6 := Lib.hid (own_other HD5'.out.has HO5'.out (by decide) hc6)
            obtain ⟨y0, y1⟩ := HCELL.out w6 HD6.out.bel
            clear ha6 hc6 x0 x1
            go_wp2_with fail
            refine (at_all HD6.out HN.out all HALL.out).mono ?_
            rintro e w7 ⟨g7, rfl, ho7, ha7, hb7⟩
            rw [← HNL.out] at ho7 ⊢
            have HD7 := Lib.hid ha7
            have HL7 := Lib.hid (own_lies ho7)
            have HO7 := Lib.hid (own_below HO6.out hb7)
            clear ho7 ha7 hb7
            go_wp2_with fail
            have HWD := Lib.hid (words_any _ _ all all nl nl w7 HL7.out (own_lies HO7.out) (by have := HNL.out; omega) rfl)
            rw [← HNL.out] at HWD
            refine HWD.out.mono ?_
            rintro e w8 ⟨rfl, hb8⟩
            have HD8 := Lib.hid (HD7.out.below HN.out hb8)
            clear hb8 HWD
            go_wp2_with fail
            go_roundw
            case rel => exact ⟨k + 1, L, by omega, by first | rfl | simp, rfl, hL, Lib.hid ⟨d, HD8.out, HP.out, HR.out, HLE.out⟩⟩
            case measure => simp [intOf]; omega
    · skip
      have hkcase : (decide ((k : Int) < (n : Int)) = false ∧ decide (k < n) = false) ∨ (decide ((k : Int) < (n : Int)) = true ∧ decide (k < n) = true) ∧ decide ((k : Int) < 30) = false ∧ decide (k < 30) = false := by
        by_cases h : k < n
        · exact .inr ⟨⟨decide_eq_true (by omega), decide_eq_true h⟩, decide_eq_false (by omega), decide_eq_false (by omega)⟩
        · exact .inl ⟨decide_eq_false (by omega), decide_eq_false h⟩
      have HPD : Hid (D.sync (d.limit 1) = ({ d with kept := d.all, q := [], left := some 0 }, 0)) := Lib.hid (lim_sync (d.limit 1) 1 rfl (by omega))
      clear hlt hk
      rcases hkcase with ⟨e1, e2⟩ | ⟨⟨e1, e2⟩, e3, e4⟩
      all_goals
        go_wp2_with fail
        refine (at_limit HD.out HN.out _ (by decide) rfl).mono ?_
        rintro e w5 ⟨rfl, ha5, hc5⟩
        have HD5 := Lib.hid ha5
        clear ha5 hc5
        go_wp2_with fail
        refine (at_sync HD5.out HN.out 0 HPD.out).mono ?_
        rintro e w6 ⟨rfl, ha6, hc6⟩
        have HD6 := Lib.hid ha6
        clear ha6 hc6
        go_wp2_with fail
        refine (at_sync HD6.out HN.out 9 (sync_dead _ rfl)).mono ?_
        rintro e w7 ⟨rfl, ha7, hc7⟩
        have HD7 := Lib.hid ha7
        clear ha7 hc7
        go_wp2_with fail
        refine (HFIX.out _ HD7.out.bel).mono ?_
        rintro e w8 ⟨rfl, hb8⟩
        have HD8 := Lib.hid (HD7.out.below HN.out hb8)
        clear hb8
        go_wp2_with fail
        go_ret
        exact ⟨rfl, HD8.out.bel⟩
end Go.Proofs.YtaeiifmdbdhoeaaDoor
