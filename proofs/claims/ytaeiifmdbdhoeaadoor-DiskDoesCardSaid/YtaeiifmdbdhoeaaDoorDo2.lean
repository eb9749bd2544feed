/-
  The walk of the laws' do.
-/
import Derived.Test.YtaeiifmdbdhoeaaDoorDo
namespace Go.Proofs.YtaeiifmdbdhoeaaDoor
open Go.RowKit
open Go.ChangeShapes
open DP (W D C)
set_option linter.unusedVariables false
set_option linter.unusedSimpArgs false

def rep (p : Nat) (x : UInt8) : ByteArray := ⟨(List.replicate p x).toArray⟩
theorem rep_size (p : Nat) (x : UInt8) : (rep p x).size = p := by simp [rep, ByteArray.size]
theorem op_cells {W : World} {g : Nat} {a b c d e : Value} {t : TypeId} (h : W.heap[g]? = some (.cells #[a, b, c, d, e] t (0, 0))) : W.cell? ⟨g, 0, none⟩ = some a ∧ W.cell? ⟨g, 1, none⟩ = some b ∧ W.cell? ⟨g, 2, none⟩ = some c ∧ W.cell? ⟨g, 3, none⟩ = some d ∧ W.cell? ⟨g, 4, none⟩ = some e := by
  refine ⟨?_, ?_, ?_, ?_, ?_⟩ <;> simp [World.cell?, h]

theorem write_few (d : D) (i : Int) (s : ByteArray) : (d.write i s).1.p = d.p ∧ (d.write i s).1.room = d.room ∧ (d.write i s).1.q.length ≤ d.q.length + 1 ∧ (d.write i s).1.reads ≤ d.reads + 1 := by
  unfold D.write
  split
  · exact ⟨rfl, rfl, Nat.le_succ _, Nat.le_succ _⟩
  split
  · exact ⟨rfl, rfl, Nat.le_succ _, Nat.le_succ _⟩
  split
  · exact ⟨rfl, rfl, Nat.le_succ _, Nat.le_succ _⟩
  · exact ⟨rfl, rfl, by simp, Nat.le_succ _⟩
theorem sync_few (d : D) : d.sync.1.p = d.p ∧ d.sync.1.room = d.room ∧ d.sync.1.q.length ≤ d.q.length + 1 ∧ d.sync.1.reads ≤ d.reads + 1 := by
  unfold D.sync
  split
  · exact ⟨rfl, rfl, Nat.le_succ _, Nat.le_succ _⟩
  · exact ⟨rfl, rfl, Nat.zero_le _, Nat.le_succ _⟩
set_option maxHeartbeats 4000000 in
set_option maxRecDepth 100000 in
theorem do_any (w W : World) (b c : Nat) (d : D) (K I : Int) (x : UInt8) (odd : Bool) (A : Option Addr) (cs : List C) (ca : Nat) (h : PD w.heap.size w W b d c d) (hq : d.q.length ≤ 3000) (hr : d.reads ≤ 3000)
    (hK : (Lit.int .i64 K).wf = true) (hI : (Lit.int .i64 I).wf = true) (ha : LiesG w A cs) (hca : cs.length ≤ ca) (hA : A = none → cs = [] ∧ ca = 0) (hl : ca ≤ maxLen) :
    Calls Tryd.prog 14 #[.pointer (some ⟨b, 0, none⟩), .pointer (some ⟨c, 0, none⟩), .agg #[.int .i64 K, .int .i64 I, .int .u8 x.toNat, .bool odd, .slice A cs.length ca]] W fun e w' => e = .returned (.bool true) ∧ ∃ d', PD w.heap.size w w' b d' c d' ∧ d'.p = d.p ∧ d'.room = d.room ∧ d'.q.length ≤ d.q.length + 1 ∧ d'.reads ≤ d.reads + 1 ∧ KeepT W w' := by
  have hn : w.heap.size ≤ w.heap.size := Nat.le_refl _
  have HN := Lib.hid hn
  have HLI := Lib.hid ha
  have hbx := heap_alloc_new W (.cells #[.int .i64 K, .int .i64 I, .int .u8 x.toNat, .bool odd, .slice A cs.length ca] 37)
  have hb0 := below_alloc W (.cells #[.int .i64 K, .int .i64 I, .int .u8 x.toNat, .bool odd, .slice A cs.length ca] 37)
  have HP0 := Lib.hid (h.below hn hb0)
  have HKW0 := Lib.hid (keep_b hb0)
  have HBX := Lib.hid hbx
  have HLV : Hid (∀ V m, Below w.heap.size w V → LiesG V A (cs.take m)) := Lib.hid (fun V m hV i x hx => (ha.below hV) i x (by rw [List.getElem?_take] at hx; split at hx; exact hx; cases hx))
  have hsm := h.at_.has.small
  generalize hw0 : W.alloc (.cells #[.int .i64 K, .int .i64 I, .int .u8 x.toNat, .bool odd, .slice A cs.length ca] 37) = W0 at *
  obtain ⟨g, hg⟩ : ∃ g, W.heap.size = g := ⟨_, rfl⟩
  rw [hg] at HBX hbx
  obtain ⟨x0, x1, x2, x3, x4⟩ := op_cells hbx
  obtain ⟨y0, y2⟩ := HP0.out.cells
  obtain ⟨p, hp⟩ : ∃ p, p = d.p := ⟨_, rfl⟩
  rw [← hp] at y0 hsm
  have hp1 : p ≤ 1024 := hsm.2.1
  have hp0 : 0 < p := hsm.1
  have HPE := Lib.hid hp
  have HSM := Lib.hid hsm
  have hps : (rep p x).size = p := rep_size p x
  have HOP : Hid (∀ V, Below W0.heap.size W0 V → V.cell? ⟨g, 0, none⟩ = some (.int .i64 K) ∧ V.cell? ⟨g, 1, none⟩ = some (.int .i64 I) ∧ V.cell? ⟨g, 2, none⟩ = some (.int .u8 x.toNat) ∧ V.cell? ⟨g, 3, none⟩ = some (.bool odd) ∧ V.cell? ⟨g, 4, none⟩ = some (.slice A cs.length ca)) := Lib.hid (fun V hV => op_cells ((hV.block g (Array.getElem?_eq_some_iff.1 HBX.out).1).trans HBX.out))
  have HREP : Hid (∀ V, Calls Tryd.prog 33 #[.int .u8 x.toNat, .int .i64 p] V fun e w' => e = .returned (.string (rep p x)) ∧ Below V.heap.size V w') := Lib.hid (fun V => refRepeat_any x p V (by omega))
  have HSV : Hid (∀ V, Below W0.heap.size W0 V → (Hid (Below W0.heap.size W0 V) ∧ V.cell? ⟨g, 2, none⟩ = some (.int .u8 x.toNat) ∧ V.cell? ⟨c, 0, none⟩ = some (.int .i64 p))) := Lib.hid (fun V hb => by
    have h1 := (HP0.out.below HN.out hb).cells.1
    rw [← HPE.out] at h1
    exact ⟨Lib.hid hb, (HOP.out V hb).2.2.1, h1⟩)
  have hS0 := HSV.out W0.drew (below_drewN (Below.refl _ W0) 1)
  obtain ⟨m, hm⟩ : ∃ m, m = min cs.length 20 := ⟨_, rfl⟩
  have hmn : min (cs.length : Int) 20 = (m : Int) := by omega
  have hmc : (m : Int) ≤ (ca : Int) := by omega
  have hm0 : (0 : Int) ≤ (m : Int) := by omega
  have HM := Lib.hid hm
  have hml : (cs.take m).length = m := by rw [List.length_take]; omega
  have HML := Lib.hid hml
  have HMX : Hid (m ≤ 5000) := Lib.hid (by omega)
  have HQ : Hid (d.q.length ≤ 3000) := Lib.hid hq
  have HRD : Hid (d.reads ≤ 3000) := Lib.hid hr
  have HI := Lib.hid hI
  have HKT : Hid (∀ V V', KeepT V V' → (Hid (V.heap[g]? = some (.cells #[.int .i64 K, .int .i64 I, .int .u8 x.toNat, .bool odd, .slice A cs.length ca] 37 (0, 0))) ∧ V.cell? ⟨g, 1, none⟩ = some (.int .i64 I)) → (Hid (V'.heap[g]? = some (.cells #[.int .i64 K, .int .i64 I, .int .u8 x.toNat, .bool odd, .slice A cs.length ca] 37 (0, 0))) ∧ V'.cell? ⟨g, 1, none⟩ = some (.int .i64 I))) := Lib.hid (fun V V' hk hh => by
    have h1 := (hk g _ _ _ (by decide) hh.1.out).trans hh.1.out
    exact ⟨Lib.hid h1, (op_cells h1).2.1⟩)
  have HG0 : Hid (∀ V, Below W0.heap.size W0 V → V.heap[g]? = some (.cells #[.int .i64 K, .int .i64 I, .int .u8 x.toNat, .bool odd, .slice A cs.length ca] 37 (0, 0))) := Lib.hid (fun V hV => (hV.block g (Array.getElem?_eq_some_iff.1 HBX.out).1).trans HBX.out)
  clear hbx hb0 h ha hp hsm hm hca hml hq hr hI
  go_enter Tryd.func14, Tryd.ntmps14
  go_wp2_with fail
  go_region_held3 (fun V => Hid (Below W0.heap.size W0 V) ∧ V.cell? ⟨g, 2, none⟩ = some (.int .u8 x.toNat) ∧ V.cell? ⟨c, 0, none⟩ = some (.int .i64 p))
    (first | assumption | exact hS0)
    (first
      | (go_at_call 33; refine (HREP.out _).mono ?_; rintro e V1 ⟨rfl, hb1⟩; have HB1 := Lib.hid (below_of_drew hb1); have hSV1 := HSV.out V1 HB1.out)
      | fail "no arm")
  all_goals
    obtain ⟨z0, z1, z2, z3, z4⟩ := HOP.out V1 HB1.out
    have HP1 := Lib.hid (HP0.out.below HN.out HB1.out)
    have HKV : Hid (KeepT W V1) := Lib.hid (HKW0.out.trans (keep_b HB1.out))
    have HKD : Hid (KeepT W V1.drew) := Lib.hid (HKV.out.trans (keep_b (below_drewN (Below.refl _ V1) 1)))
    clear x0 x1 x2 x3 x4 y0 y2 HSV hS0
    cases odd with
    | false =>
      obtain ⟨st, hst⟩ : ∃ st, st = rep p x := ⟨_, rfl⟩
      have HSZ : Hid (st.size ≤ maxLen) := Lib.hid (by rw [hst]; rw [rep_size]; unfold maxLen; omega)
      obtain ⟨d1, r1, hv⟩ : ∃ d1 r1, d.write I st = (d1, r1) := ⟨_, _, rfl⟩
      have HV := Lib.hid hv
      have HW1 : Hid (d1.p = d.p ∧ d1.room = d.room ∧ d1.q.length ≤ d.q.length + 1 ∧ d1.reads ≤ d.reads + 1) := Lib.hid (by
        have h1 := write_few d I st
        rw [hv] at h1
        exact h1)
      obtain ⟨d2, r2, hv2⟩ : ∃ d2 r2, d.sync = (d2, r2) := ⟨_, _, rfl⟩
      have HV2 := Lib.hid hv2
      have HW2 : Hid (d2.p = d.p ∧ d2.room = d.room ∧ d2.q.length ≤ d.q.length + 1 ∧ d2.reads ≤ d.reads + 1) := Lib.hid (by
        have h1 := sync_few d
        rw [hv2] at h1
        exact h1)
      have HH1 : Hid (V1.heap[g]? = some (.cells #[.int .i64 K, .int .i64 I, .int .u8 x.toNat, .bool false, .slice A cs.length ca] 37 (0, 0))) := Lib.hid (HG0.out V1 HB1.out)
      have HP1d := Lib.hid (HP1.out.below HN.out (below_drewN (Below.refl _ V1) 1))
      clear hv hv2
      go_wp2_with fail
      all_goals (first
        | (-- a sync
           refine (pd_psync HP1.out HN.out r2 HV2.out).mono ?_
           rintro e V2 ⟨rfl, hp2, hk2⟩
           have HP2 := Lib.hid hp2
           have HK2 := Lib.hid (HKV.out.trans hk2)
           clear hp2 hk2
           go_wp2_with fail
           refine (pd_dsync HP2.out HN.out r2 (by have := HQ.out; omega) HV2.out).mono ?_
           rintro e V3 ⟨rfl, hp3, hk3⟩
           have HP3 := Lib.hid hp3
           have HK3 := Lib.hid (HK2.out.trans hk3)
           clear hp3 hk3
           go_wp2_with fail
           go_ret
           exact ⟨rfl, d2, HP3.out, HW2.out.1, HW2.out.2.1, HW2.out.2.2.1, HW2.out.2.2.2, HK3.out⟩)
        | (-- a limit
           refine (pd_plimit HP1.out HN.out _ HI.out).mono ?_
           rintro e V2 ⟨rfl, hp2, hk2⟩
           have HP2 := Lib.hid hp2
           have u1 := (HKT.out _ _ hk2 ⟨HH1, z1⟩).2
           have HK2 := Lib.hid (HKV.out.trans hk2)
           clear hp2 hk2
           go_wp2_with fail
           refine (pd_dlimit HP2.out HN.out _ HI.out).mono ?_
           rintro e V3 ⟨rfl, hp3, hk3⟩
           have HP3 := Lib.hid hp3
           have HK3 := Lib.hid (HK2.out.trans hk3)
           clear hp3 hk3
           go_wp2_with fail
           go_ret
           exact ⟨rfl, d.limit I, HP3.out, rfl, rfl, Nat.le_succ _, Nat.le_succ _, HK3.out⟩)
        | (-- a read
           refine (pd_pread HP1.out HN.out _ HI.out (by have := HRD.out; omega)).mono ?_
           rintro e V2 ⟨rfl, hp2, hk2⟩
           have HP2 := Lib.hid hp2
           have u1 := (HKT.out _ _ hk2 ⟨HH1, z1⟩).2
           obtain ⟨rs, hrs⟩ : ∃ rs, rs = (d.read I).2.1 := ⟨_, rfl⟩
           obtain ⟨re, hre⟩ : ∃ re, re = (d.read I).2.2 := ⟨_, rfl⟩
           have HDR := Lib.hid (pd_dread HP2.out HN.out _ HI.out (by have := HQ.out; omega) (by have := HRD.out; omega))
           rw [← hrs, ← hre] at HDR ⊢
           have HK2 := Lib.hid (HKV.out.trans hk2)
           clear hp2 hk2 hrs hre
           go_wp2_with fail
           refine HDR.out.mono ?_
           rintro e V3 ⟨rfl, hp3, hk3⟩
           have HP3 := Lib.hid hp3
           have HK3 := Lib.hid (HK2.out.trans hk3)
           clear hp3 hk3
           go_wp2_with fail
           go_ret
           exact ⟨rfl, (d.read I).1, HP3.out, rfl, rfl, Nat.le_succ _, Nat.le_refl _, HK3.out⟩)
        | (-- a crash
           have HCR := Lib.hid (pd_pcrash HP1.out HN.out A (cs.take m) ca (HLV.out V1 m HP1.out.bel) (by have := HQ.out; omega) (by rw [HML.out]; have := HMX.out; omega))
           rw [HML.out] at HCR
           refine HCR.out.mono ?_
           rintro e V2 ⟨rfl, hp2, hk2⟩
           have HP2 := Lib.hid hp2
           have HK2 := Lib.hid (HKV.out.trans hk2)
           clear hp2 hk2
           go_wp2_with fail
           have HCH := Lib.hid (choices_any A (cs.take m) ca V2 (HLV.out V2 m HP2.out.bel) (by rw [HML.out]; exact HMX.out))
           rw [HML.out] at HCH
           refine HCH.out.mono ?_
           rintro e V3 ⟨g3, cap3, rfl, ho3, hb3⟩
           have HLC := Lib.hid (liesC_own ho3 HML.out.symm)
           have HG3 : Hid (∀ a, (some (⟨g3, 0, none⟩ : Addr)) = some a → V2.heap.size ≤ a.block ∧ a.block < V3.heap.size) := Lib.hid (fun a e1 => by
             obtain rfl := Option.some.inj e1
             exact ho3.lt g3 rfl)
           have HB3 := Lib.hid hb3
           clear ho3 hb3
           go_wp2_with fail
           have HDC := Lib.hid (pd_dcrash HP2.out HN.out HB3.out (some ⟨g3, 0, none⟩) (cs.take m) cap3 HLC.out HG3.out (by have := HQ.out; omega) (by rw [HML.out]; exact HMX.out))
           rw [HML.out] at HDC
           refine HDC.out.mono ?_
           rintro e V4 ⟨rfl, hp4, hk4⟩
           have HP4 := Lib.hid hp4
           have HK4 := Lib.hid ((HK2.out.trans (keep_b HB3.out)).trans hk4)
           clear hp4 hk4
           go_wp2_with fail
           go_ret
           exact ⟨rfl, d.crash (cs.take m), HP4.out, rfl, rfl, Nat.zero_le _, Nat.le_succ _, HK4.out⟩)
        | (-- a write
           rw [← hst]
           have HST := Lib.hid hst
           clear hst
           go_region_held3 (fun V => Hid (V.heap[g]? = some (.cells #[.int .i64 K, .int .i64 I, .int .u8 x.toNat, .bool false, .slice A cs.length ca] 37 (0, 0))) ∧ V.cell? ⟨g, 1, none⟩ = some (.int .i64 I))
             (first | assumption | exact ⟨HH1, z1⟩ | exact HKT.out _ _ hk3 (by assumption) | exact HKT.out _ _ hk2 (by assumption))
             (first
               | (go_at_call 25; refine (pd_pwrite HP1d.out HN.out _ r1 _ HI.out HSZ.out HV.out).mono ?_; rintro e V2 ⟨rfl, hp2, hk2⟩; have HP2 := Lib.hid hp2; have HK2 := Lib.hid (HKD.out.trans hk2))
               | (go_at_call 34; refine (pd_dwrite HP2.out HN.out _ r1 _ HI.out HSZ.out (by have := HQ.out; omega) HV.out).mono ?_; rintro e V3 ⟨rfl, hp3, hk3⟩; have HP3 := Lib.hid hp3; have HK3 := Lib.hid (HK2.out.trans hk3))
               | fail "no arm")
           all_goals
             go_wp2_with fail
             go_ret
             exact ⟨rfl, d1, HP3.out, HW1.out.1, HW1.out.2.1, HW1.out.2.2.1, HW1.out.2.2.2, HK3.out⟩))
    | true =>
      obtain ⟨st, hst⟩ : ∃ st, st = (rep p x).extract 1 p := ⟨_, rfl⟩
      have HSZ : Hid (st.size ≤ maxLen) := Lib.hid (by rw [hst]; rw [ByteArray.size_extract]; unfold maxLen; omega)
      obtain ⟨d1, r1, hv⟩ : ∃ d1 r1, d.write I st = (d1, r1) := ⟨_, _, rfl⟩
      have HV := Lib.hid hv
      have HW1 : Hid (d1.p = d.p ∧ d1.room = d.room ∧ d1.q.length ≤ d.q.length + 1 ∧ d1.reads ≤ d.reads + 1) := Lib.hid (by
        have h1 := write_few d I st
        rw [hv] at h1
        exact h1)
      obtain ⟨d2, r2, hv2⟩ : ∃ d2 r2, d.sync = (d2, r2) := ⟨_, _, rfl⟩
      have HV2 := Lib.hid hv2
      have HW2 : Hid (d2.p = d.p ∧ d2.room = d.room ∧ d2.q.length ≤ d.q.length + 1 ∧ d2.reads ≤ d.reads + 1) := Lib.hid (by
        have h1 := sync_few d
        rw [hv2] at h1
        exact h1)
      have HH1 : Hid (V1.heap[g]? = some (.cells #[.int .i64 K, .int .i64 I, .int .u8 x.toNat, .bool true, .slice A cs.length ca] 37 (0, 0))) := Lib.hid (HG0.out V1 HB1.out)
      have HP1d := Lib.hid (HP1.out.below HN.out (below_drewN (Below.refl _ V1) 1))
      clear hv hv2
      go_wp2_with fail
      all_goals (first
        | (-- a sync
           refine (pd_psync HP1.out HN.out r2 HV2.out).mono ?_
           rintro e V2 ⟨rfl, hp2, hk2⟩
           have HP2 := Lib.hid hp2
           have HK2 := Lib.hid (HKV.out.trans hk2)
           clear hp2 hk2
           go_wp2_with fail
           refine (pd_dsync HP2.out HN.out r2 (by have := HQ.out; omega) HV2.out).mono ?_
           rintro e V3 ⟨rfl, hp3, hk3⟩
           have HP3 := Lib.hid hp3
           have HK3 := Lib.hid (HK2.out.trans hk3)
           clear hp3 hk3
           go_wp2_with fail
           go_ret
           exact ⟨rfl, d2, HP3.out, HW2.out.1, HW2.out.2.1, HW2.out.2.2.1, HW2.out.2.2.2, HK3.out⟩)
        | (-- a limit
           refine (pd_plimit HP1.out HN.out _ HI.out).mono ?_
           rintro e V2 ⟨rfl, hp2, hk2⟩
           have HP2 := Lib.hid hp2
           have u1 := (HKT.out _ _ hk2 ⟨HH1, z1⟩).2
           have HK2 := Lib.hid (HKV.out.trans hk2)
           clear hp2 hk2
           go_wp2_with fail
           refine (pd_dlimit HP2.out HN.out _ HI.out).mono ?_
           rintro e V3 ⟨rfl, hp3, hk3⟩
           have HP3 := Lib.hid hp3
           have HK3 := Lib.hid (HK2.out.trans hk3)
           clear hp3 hk3
           go_wp2_with fail
           go_ret
           exact ⟨rfl, d.limit I, HP3.out, rfl, rfl, Nat.le_succ _, Nat.le_succ _, HK3.out⟩)
        | (-- a read
           refine (pd_pread HP1.out HN.out _ HI.out (by have := HRD.out; omega)).mono ?_
           rintro e V2 ⟨rfl, hp2, hk2⟩
           have HP2 := Lib.hid hp2
           have u1 := (HKT.out _ _ hk2 ⟨HH1, z1⟩).2
           obtain ⟨rs, hrs⟩ : ∃ rs, rs = (d.read I).2.1 := ⟨_, rfl⟩
           obtain ⟨re, hre⟩ : ∃ re, re = (d.read I).2.2 := ⟨_, rfl⟩
           have HDR := Lib.hid (pd_dread HP2.out HN.out _ HI.out (by have := HQ.out; omega) (by have := HRD.out; omega))
           rw [← hrs, ← hre] at HDR ⊢
           have HK2 := Lib.hid (HKV.out.trans hk2)
           clear hp2 hk2 hrs hre
           go_wp2_with fail
           refine HDR.out.mono ?_
           rintro e V3 ⟨rfl, hp3, hk3⟩
           have HP3 := Lib.hid hp3
           have HK3 := Lib.hid (HK2.out.trans hk3)
           clear hp3 hk3
           go_wp2_with fail
           go_ret
           exact ⟨rfl, (d.read I).1, HP3.out, rfl, rfl, Nat.le_succ _, Nat.le_refl _, HK3.out⟩)
        | (-- a crash
           have HCR := Lib.hid (pd_pcrash HP1.out HN.out A (cs.take m) ca (HLV.out V1 m HP1.out.bel) (by have := HQ.out; omega) (by rw [HML.out]; have := HMX.out; omega))
           rw [HML.out] at HCR
           refine HCR.out.mono ?_
           rintro e V2 ⟨rfl, hp2, hk2⟩
           have HP2 := Lib.hid hp2
           have HK2 := Lib.hid (HKV.out.trans hk2)
           clear hp2 hk2
           go_wp2_with fail
           have HCH := Lib.hid (choices_any A (cs.take m) ca V2 (HLV.out V2 m HP2.out.bel) (by rw [HML.out]; exact HMX.out))
           rw [HML.out] at HCH
           refine HCH.out.mono ?_
           rintro e V3 ⟨g3, cap3, rfl, ho3, hb3⟩
           have HLC := Lib.hid (liesC_own ho3 HML.out.symm)
           have HG3 : Hid (∀ a, (some (⟨g3, 0, none⟩ : Addr)) = some a → V2.heap.size ≤ a.block ∧ a.block < V3.heap.size) := Lib.hid (fun a e1 => by
             obtain rfl := Option.some.inj e1
             exact ho3.lt g3 rfl)
           have HB3 := Lib.hid hb3
           clear ho3 hb3
           go_wp2_with fail
           have HDC := Lib.hid (pd_dcrash HP2.out HN.out HB3.out (some ⟨g3, 0, none⟩) (cs.take m) cap3 HLC.out HG3.out (by have := HQ.out; omega) (by rw [HML.out]; exact HMX.out))
           rw [HML.out] at HDC
           refine HDC.out.mono ?_
           rintro e V4 ⟨rfl, hp4, hk4⟩
           have HP4 := Lib.hid hp4
           have HK4 := Lib.hid ((HK2.out.trans (keep_b HB3.out)).trans hk4)
           clear hp4 hk4
           go_wp2_with fail
           go_ret
           exact ⟨rfl, d.crash (cs.take m), HP4.out, rfl, rfl, Nat.zero_le _, Nat.le_succ _, HK4.out⟩)
        | (-- a write
           rw [← hst]
           have HST := Lib.hid hst
           clear hst
           go_region_held3 (fun V => Hid (V.heap[g]? = some (.cells #[.int .i64 K, .int .i64 I, .int .u8 x.toNat, .bool true, .slice A cs.length ca] 37 (0, 0))) ∧ V.cell? ⟨g, 1, none⟩ = some (.int .i64 I))
             (first | assumption | exact ⟨HH1, z1⟩ | exact HKT.out _ _ hk3 (by assumption) | exact HKT.out _ _ hk2 (by assumption))
             (first
               | (go_at_call 25; refine (pd_pwrite HP1d.out HN.out _ r1 _ HI.out HSZ.out HV.out).mono ?_; rintro e V2 ⟨rfl, hp2, hk2⟩; have HP2 := Lib.hid hp2; have HK2 := Lib.hid (HKD.out.trans hk2))
               | (go_at_call 34; refine (pd_dwrite HP2.out HN.out _ r1 _ HI.out HSZ.out (by have := HQ.out; omega) HV.out).mono ?_; rintro e V3 ⟨rfl, hp3, hk3⟩; have HP3 := Lib.hid hp3; have HK3 := Lib.hid (HK2.out.trans hk3))
               | fail "no arm")
           all_goals
             go_wp2_with fail
             go_ret
             exact ⟨rfl, d1, HP3.out, HW1.out.1, HW1.out.2.1, HW1.out.2.2.1, HW1.out.2.2.2, HK3.out⟩))
end Go.Proofs.YtaeiifmdbdhoeaaDoor
