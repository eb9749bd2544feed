/-
  The walks of the program's Sync, Read and Write.
-/
import Derived.Test.YtaeiifmdbdhoeaaDoorGDisk
namespace Go.Proofs.YtaeiifmdbdhoeaaDoor
open Go.RowKit
open Go.ChangeShapes
open DP (W D)
set_option linter.unusedVariables false
set_option linter.unusedSimpArgs false
variable {Fb : Nat → Prop}

section
variable {w w' : World} {b : Nat} {p room reads n1 n2 lf : Int} {B1 B2 nw : Value} {lim : Bool}
theorem Obd.set1 (h : Obd w b p room reads n1 B1 n2 B2 nw lim lf) (v : Int) : Obd (w.setCell ⟨b, 1, none⟩ (.int .i64 v)) b p room v n1 B1 n2 B2 nw lim lf := by
  unfold Obd; rw [set_map, show w.heap[b]? = _ from h]; rfl
theorem Obd.set8 (h : Obd w b p room reads n1 B1 n2 B2 nw lim lf) (v : Value) : Obd (w.setCell ⟨b, 8, none⟩ v) b p room reads n1 B1 n2 B2 v lim lf := by
  unfold Obd; rw [set_map, show w.heap[b]? = _ from h]; rfl
theorem Obd.set9 (h : Obd w b p room reads n1 B1 n2 B2 nw lim lf) (v : Bool) : Obd (w.setCell ⟨b, 9, none⟩ (.bool v)) b p room reads n1 B1 n2 B2 nw v lf := by
  unfold Obd; rw [set_map, show w.heap[b]? = _ from h]; rfl
theorem Obd.set10 (h : Obd w b p room reads n1 B1 n2 B2 nw lim lf) (v : Int) : Obd (w.setCell ⟨b, 10, none⟩ (.int .i64 v)) b p room reads n1 B1 n2 B2 nw lim v := by
  unfold Obd; rw [set_map, show w.heap[b]? = _ from h]; rfl
theorem Obd.setNow (h : Obd w b p room reads n1 B1 n2 B2 nw lim lf) (n : Int) (B : Value) : Obd (((w.setCell ⟨b, 2, none⟩ (.int .i64 p)).setCell ⟨b, 3, none⟩ (.int .i64 n)).setCell ⟨b, 4, none⟩ B) b p room reads n B n2 B2 nw lim lf := by
  unfold Obd; rw [set_map, set_map, set_map, show w.heap[b]? = _ from h]; rfl
theorem Obd.setSyn (h : Obd w b p room reads n1 B1 n2 B2 nw lim lf) (n : Int) (B : Value) : Obd (((w.setCell ⟨b, 5, none⟩ (.int .i64 p)).setCell ⟨b, 6, none⟩ (.int .i64 n)).setCell ⟨b, 7, none⟩ B) b p room reads n1 B1 n B nw lim lf := by
  unfold Obd; rw [set_map, set_map, set_map, show w.heap[b]? = _ from h]; rfl
end
theorem sync_dead (d : D) (h : d.left = some 0) : d.sync = (d, 9) := by unfold D.sync; rw [if_pos h]
theorem sync_ok (d : D) (h : d.left ≠ some 0) : d.sync = ({ d with kept := d.all, q := [], left := d.less }, 0) := by unfold D.sync; rw [if_neg h]

set_option maxHeartbeats 1000000 in
set_option maxRecDepth 100000 in
theorem sync_any (b : Nat) (d : D) (w : World) (h : HasX Fb w b d) :
    Calls Tryd.prog 26 #[.pointer (some ⟨b, 0, none⟩)] w fun e w' => e = .returned (.int .i64 d.sync.2) ∧ HasX Fb w' b d.sync.1 ∧ Chg (fun j => j = b) w w' := by
  have HS := Lib.hid (stopped_any b d w h)
  have HH := Lib.hid h
  by_cases hl : d.left = some 0
  · rw [sync_dead d hl]
    rw [decide_eq_true hl] at HS
    clear hl h
    go_enter Tryd.func26, Tryd.ntmps26
    go_wp2_with fail
    refine HS.out.mono ?_
    rintro e w1 ⟨rfl, rfl⟩
    go_wp2_with fail
    go_ret
    exact ⟨rfl, HH.out, Chg.refl _ _⟩
  · have HK : Hid (d.sync.1.Ok) := Lib.hid h.ok.sync
    rw [sync_ok d hl] at HK ⊢
    rw [decide_eq_false hl] at HS
    obtain ⟨A1, c1, L1, A2, c2, L2, nw, lim, lf, h1, h2, h3, h4, h5⟩ := h.parts
    have HP := Lib.hid (⟨h2, h.small⟩ : Pgs Fb w d.p A1 c1 L1 d.all ∧ _)
    have H1 := Lib.hid h1
    have HLF := Lib.hid (show LeftIs lim (wrap64 (lf - 1)) d.less by rw [← IntWalk.i64_left]; exact h5.less hl)
    have c2' := h1.at 2 _ rfl
    have c3' := h1.at 3 _ rfl
    have c4' := h1.at 4 _ rfl
    have HSE := Lib.hid (settle_any b d.p d.room d.reads d.all.length d.kept.length lf d.all.length (.slice A1 L1.length c1) (.slice A2 L2.length c2) nw A1 L1.length c1 lim w h1)
    clear hl h h1 h2 h3 h4 h5
    go_enter Tryd.func26, Tryd.ntmps26
    go_wp2_with fail
    refine HS.out.mono ?_
    rintro e w1 ⟨rfl, rfl⟩
    go_wp2_with fail
    refine HSE.out.mono ?_
    rintro e w1 ⟨rfl, ho, hch⟩
    have HO := Lib.hid ho
    have HCH := Lib.hid hch
    have y10 := ho.at 10 _ rfl
    have f10 := ho.free 10
    clear ho hch c2' c3' c4'
    go_wp2_with fail
    go_ret
    have hc := HCH.out.set (b := b) rfl 10 (.int .i64 (wrap64 (lf - 1)))
    refine ⟨rfl, ⟨⟨A1, c1, L1, A1, c1, L1, .pointer none, lim, wrap64 (lf - 1), ?_, HP.out.1.st (H1.out.st hc), HP.out.1.st (H1.out.st hc), rfl, HLF.out⟩, HK.out, HP.out.2⟩, hc⟩
    exact HO.out.set10 _

theorem read_dn (d : D) (i : Int) (h : ¬ (0 ≤ i ∧ i < d.len)) : d.read i = ({ d with reads := d.reads + 1 }, ⟨#[]⟩, 4) := by unfold D.read; rw [if_neg h]
theorem read_up (d : D) (i : Int) (h : 0 ≤ i ∧ i < d.len) : d.read i = ({ d with reads := d.reads + 1 }, DP.page (DP.zero d.p) d.all i.toNat, 0) := by unfold D.read; rw [if_pos h]
set_option maxHeartbeats 1000000 in
set_option maxRecDepth 100000 in
theorem read_any (b : Nat) (d : D) (i : Int) (w : World) (h : HasX Fb w b d) (hi : (Lit.int .i64 i).wf = true) (hr : d.reads < 1000000) :
    Calls Tryd.prog 29 #[.pointer (some ⟨b, 0, none⟩), .int .i64 i] w fun e w' => e = .returned (.tuple #[.string (d.read i).2.1, .int .i64 (d.read i).2.2]) ∧ HasX Fb w' b (d.read i).1 ∧ Chg (fun j => j = b) w w' := by
  obtain ⟨A1, c1, L1, A2, c2, L2, nw, lim, lf, h1, h2, h3, h4, h5⟩ := h.parts
  have hib := bounds_i64 hi
  have y1 := h1.at 1 _ rfl
  have f1 := h1.free 1
  have HC1 := Lib.hid ((Chg.refl (fun j => j = b) w).set (b := b) rfl 1 (.int .i64 ((d.reads : Int) + 1)))
  have HST := Lib.hid (h1.st HC1.out)
  have h1' := h1.set1 ((d.reads : Int) + 1)
  have HG : Hid (HasX Fb (w.setCell ⟨b, 1, none⟩ (.int .i64 ((d.reads : Int) + 1))) b { d with reads := d.reads + 1 }) := Lib.hid ⟨⟨A1, c1, L1, A2, c2, L2, nw, lim, lf, by exact h1', h2.st HST.out, h3.st HST.out, h4.st HST.out, h5⟩, (h.ok.read i), by have := h.small; exact ⟨this.1, this.2.1, this.2.2.1, this.2.2.2.1, by show d.reads + 1 ≤ _; omega⟩⟩
  have HLEN := Lib.hid (len_any b _ _ HG.out)
  have HLL := Lib.hid h.ok.len
  obtain ⟨len, hlen⟩ : ∃ len, len = d.len := ⟨_, rfl⟩
  have HLEN' : Hid (Calls Tryd.prog 15 #[.pointer (some ⟨b, 0, none⟩)] (w.setCell ⟨b, 1, none⟩ (.int .i64 ((d.reads : Int) + 1))) fun e w' => e = .returned (.int .i64 len) ∧ w.setCell ⟨b, 1, none⟩ (.int .i64 ((d.reads : Int) + 1)) = w') := Lib.hid (by rw [hlen]; exact HLEN.out)
  have hsm := h.small
  have hlb : len ≤ 4096 := by have := HLL.out; omega
  clear HLEN
  by_cases hlt : i < 0
  · rw [read_dn d i (by omega)]
    have d1 : decide (i < 0) = true := decide_eq_true hlt
    clear h1 h2 h3 h4 h5 h h1' hlen hlt
    go_enter Tryd.func29, Tryd.ntmps29
    go_wp2_with fail
    go_ret2
    exact ⟨rfl, HG.out, HC1.out⟩
  by_cases hge : (len : Int) ≤ i
  · rw [read_dn d i (by omega)]
    have d1 : decide (i < 0) = false := decide_eq_false hlt
    have d2 : decide ((len : Int) ≤ i) = true := decide_eq_true hge
    clear h1 h2 h3 h4 h5 h h1' hlen hlt hge
    go_enter Tryd.func29, Tryd.ntmps29
    go_wp2_with fail
    refine HLEN'.out.mono ?_
    rintro e w1 ⟨rfl, rfl⟩
    go_wp2_with fail
    go_ret2
    exact ⟨rfl, HG.out, HC1.out⟩
  · obtain ⟨k, rfl⟩ := Int.eq_ofNat_of_zero_le (show 0 ≤ i by omega)
    rw [read_up d k (by omega)]
    have d1 : decide ((k : Int) < 0) = false := decide_eq_false hlt
    have d2 : decide ((len : Int) ≤ (k : Int)) = false := decide_eq_false hge
    have d2n : decide (len ≤ k) = false := by simp; omega
    have HPG := Lib.hid (page_any d.p d.all.length A1 c1 L1 d.all k _ (h2.st HST.out).blocks h2.rep (by omega) hsm.2.1)
    have HSZ : Hid ((DP.page (DP.zero d.p) d.all k).size = d.p) := Lib.hid ((DP.Sized.all h.ok.sized h.ok.whole).page k)
    rw [Int.toNat_natCast]
    obtain ⟨t, ht⟩ : ∃ t, t = DP.page (DP.zero d.p) d.all k := ⟨_, rfl⟩
    rw [← ht] at HPG HSZ ⊢
    have HCL : Hid (∀ W, Calls Tryd.prog 31 #[.string t] W fun e w' => e = .returned (.string t) ∧ Below W.heap.size W w') := Lib.hid (fun W => clone_any t W (by have := HSZ.out; omega))
    have z2 := h1'.at 2 _ rfl
    have z3 := h1'.at 3 _ rfl
    have z4 := h1'.at 4 _ rfl
    clear h1 h2 h3 h4 h5 h h1' hlen hlt hge ht
    go_enter Tryd.func29, Tryd.ntmps29
    go_wp2_with fail
    refine HLEN'.out.mono ?_
    rintro e w1 ⟨rfl, rfl⟩
    go_wp2_with fail
    refine HPG.out.mono ?_
    rintro e w1 ⟨rfl, hb1⟩
    go_wp2_with fail
    refine (HCL.out _).mono ?_
    rintro e w2 ⟨rfl, hb2⟩
    go_wp2_with fail
    go_ret2
    exact ⟨rfl, (HG.out.below hb1).below hb2, (HC1.out.then hb1).then hb2⟩
end Go.Proofs.YtaeiifmdbdhoeaaDoor
