/-
  The document's GetValue. Written by wip/gen_vdocg.py.
  The document's GetKid.
  The walks of leaf.rightNumbers, rightHigh, rise.
  An item's box.
-/
import Derived.Test.YtpehkikdmckldaaGreatDoorJ05
import Derived.Test.YtpehkikdmckldaaGreatDoorJ04
import Derived.Test.YtpehkikdmckldaaGreatDoorJ01
import Derived.BigQuiet
import Derived.IntWalk
import Derived.Deep.QuietTactic
namespace Go.Proofs.YtpehkikdmckldaaGreatDoor.L9
open Go.RowKit
set_option linter.unusedVariables false
set_option linter.unusedSimpArgs false

/-- What GetValue answers. -/
def gotV : Option (List UInt8 × VP.V) → Value
  | none => .tuple #[.string ⟨#[]⟩, vv false ⟨#[]⟩ 0 0, .int .i64 3]
  | some x => .tuple #[.string ⟨x.1.toArray⟩, vv x.2.over ⟨x.2.s.toArray⟩ x.2.len x.2.page, .int .i64 0]
theorem gtext_some {l t : List UInt8} {i k : Nat} (h : VP.gtext l i = some (t, k)) : k ≤ l.length ∧ t.length ≤ l.length := by
  unfold VP.gtext at h
  simp only at h
  split at h
  · rename_i h1
    simp only [Option.some.injEq, Prod.mk.injEq] at h
    obtain ⟨rfl, rfl⟩ := h
    have hsp := WP.get_spec l i
    refine ⟨?_, by simp; omega⟩
    rcases hsp with e | e | ⟨n, to, e, h2, h3, _⟩
    · rw [e] at h1; simp at h1
    · rw [e] at h1; simp at h1
    · rw [e] at h1 ⊢
      simp only at h1 ⊢
      omega
  · simp at h
theorem getV_of {l t : List UInt8} {v : VP.V} (h : VP.parseV l = some (t, v)) : VP.getV l = if VP.OkV t v ∧ VP.cellV t v = l then some (t, v) else none := by unfold VP.getV; rw [h]
theorem getV_of_none {l : List UInt8} (h : VP.parseV l = none) : VP.getV l = none := by unfold VP.getV; rw [h]
theorem listS (l : List UInt8) : ∃ T : ByteArray, l = T.data.toList := ⟨⟨l.toArray⟩, by simp⟩

set_option maxHeartbeats 4000000 in
set_option maxRecDepth 100000 in
theorem rgetv_any (s : ByteArray) (w : World) (hs : s.size ≤ 1000000) :
    Calls Tryz.prog 43 #[.string s] w fun e w' => e = .returned (gotV (VP.getV s.data.toList)) ∧ Below w.heap.size w w' := by
  obtain ⟨R, hR⟩ : ∃ R, gotV (VP.getV s.data.toList) = R := ⟨_, rfl⟩
  rw [hR]
  have HR := Lib.hid hR
  clear hR
  have hts : s.data.toList.length = s.size := by simp
  have HT0 := Lib.hid (rtext_any s 0 (w.alloc (.cells #[.bool false, .string ⟨#[]⟩, .int .i64 0, .int .i64 0] 44)) (by omega) hs)
  have hb0 := below_alloc w (.cells #[.bool false, .string ⟨#[]⟩, .int .i64 0, .int .i64 0] 44)
  have HK0 := Lib.hid (Bx.new 44 false ⟨#[]⟩ 0 0 w)
  cases hg : VP.gtext s.data.toList 0 with
  | none =>
    have hv : VP.getV s.data.toList = none := getV_of_none (by unfold VP.parseV; rw [hg])
    have HE := Lib.hid (show R = .tuple #[.string ⟨#[]⟩, vv false ⟨#[]⟩ 0 0, .int .i64 3] from by rw [← HR.out, hv]; rfl)
    rw [hg] at HT0
    simp only [gotT] at HT0
    clear hv hg hts
    go_enter Tryz.func43, Tryz.ntmps43
    go_wp2_with fail
    refine HT0.out.mono ?_
    rintro e w1 ⟨rfl, hb1⟩
    have K1 := Lib.hid (HK0.out.below hb1)
    have HBW := Lib.hid (hb0.trans' hb1)
    obtain ⟨c0, c1, c2, c3⟩ := K1.out.cells
    obtain ⟨f0, f1, f2, f3⟩ := K1.out.free
    clear HK0 hb0 hb1
    go_wp2_with fail
    obtain ⟨r0, r1, r2, r3⟩ := (set4_box K1.out false ⟨#[]⟩ 0 0).cells
    unfold set4 at r0 r1 r2 r3
    refine bodyPost_ret (v := .tuple #[.string ⟨#[]⟩, vv false ⟨#[]⟩ 0 0, .int .i64 3]) (by simp [results, Tryz.results43, go_sem, r0, r1, r2, r3]) rfl ⟨by rw [HE.out], ?_⟩
    exact set4_below HBW.out (Nat.le_refl _) false ⟨#[]⟩ 0 0
  | some x =>
    obtain ⟨t, i⟩ := x
    obtain ⟨hi, htl⟩ := gtext_some hg
    rw [hts] at hi htl
    obtain ⟨T, rfl⟩ := listS t
    have hTs : T.size ≤ s.size := by simpa using htl
    rw [hg] at HT0
    simp only [gotT] at HT0
    have hTe : (⟨T.data.toList.toArray⟩ : ByteArray) = T := ByteArray.ext (by simp)
    rw [hTe] at HT0
    by_cases hend : i = s.size
    · have hv : VP.getV s.data.toList = none := getV_of_none (by
        unfold VP.parseV
        simp only [hg]
        rw [List.drop_eq_nil_of_le (by omega)])
      have HE := Lib.hid (show R = .tuple #[.string ⟨#[]⟩, vv false ⟨#[]⟩ 0 0, .int .i64 3] from by rw [← HR.out, hv]; rfl)
      have q1 : ((i : Int) == (s.size : Int)) = true := by rw [hend]; exact beq_self_eq_true _
      have d1 : decide ((i : Int) < 0) = false := decide_eq_false (by omega)
      clear hv hg hts hTe hend htl
      go_enter Tryz.func43, Tryz.ntmps43
      go_wp2_with fail
      refine HT0.out.mono ?_
      rintro e w1 ⟨rfl, hb1⟩
      have K1 := Lib.hid (HK0.out.below hb1)
      have HBW := Lib.hid (hb0.trans' hb1)
      obtain ⟨c0, c1, c2, c3⟩ := K1.out.cells
      obtain ⟨f0, f1, f2, f3⟩ := K1.out.free
      clear HK0 hb0 hb1
      go_wp2_with fail
      obtain ⟨r0, r1, r2, r3⟩ := (set4_box K1.out false ⟨#[]⟩ 0 0).cells
      unfold set4 at r0 r1 r2 r3
      refine bodyPost_ret (v := .tuple #[.string ⟨#[]⟩, vv false ⟨#[]⟩ 0 0, .int .i64 3]) (by simp [results, Tryz.results43, go_sem, r0, r1, r2, r3]) rfl ⟨by rw [HE.out], ?_⟩
      exact set4_below HBW.out (Nat.le_refl _) false ⟨#[]⟩ 0 0
    · have hlt0 : i < s.size := by omega
      have hdr := WP.drop_cons s i hlt0
      have q1 : ((i : Int) == (s.size : Int)) = false := beq_eq_false_iff_ne.2 (by omega)
      have d1 : decide ((i : Int) < 0) = false := decide_eq_false (by omega)
      have q4 : IntKind.i64.wrap ((i : Int) + 1) = (i : Int) + 1 := IntWalk.i64_in _ (by omega)
      have q5 : ((i + 1 : Nat) : Int) = (i : Int) + 1 := by omega
      have j1 : (0 : Int) ≤ i := by omega
      have j2 : (i : Int) < s.size := by omega
      by_cases hc1 : s[i] = 1
      · have q6 : (((s[i].toNat : Nat) : Int) == 1) = true := by rw [hc1]; rfl
        have q6' : ((s[i].toNat : Nat) : Int) = 1 := by rw [hc1]; rfl
        have HG := Lib.hid (fun W => rget_any s ((i + 1 : Nat) : Int) W (by omega) (by omega) hs)
        simp only [Int.toNat_natCast] at HG
        obtain ⟨n, to, er, hge⟩ : ∃ n to er, WP.get s.data.toList (i + 1) = (n, to, er) := ⟨_, _, _, rfl⟩
        have hsp := WP.get_spec s.data.toList (i + 1)
        rw [hge] at HG hsp
        simp only at HG
        rw [q5] at HG
        have hto : to ≤ s.size ∧ n ≤ 18446744073709551615 := by
          rcases hsp with e | e | ⟨n', to', e, h2, h3, _, h5⟩
          · simp only [Prod.mk.injEq] at e; omega
          · simp only [Prod.mk.injEq] at e; omega
          · simp only [Prod.mk.injEq] at e; omega
        have hpar : VP.parseV s.data.toList = if er = 0 ∧ to + 4 ≤ s.size ∧ n ≤ 4096 ∧ Lib.leNat ((s.data.toList.drop to).take 4) ≤ 4095 then some (T.data.toList, ⟨true, [], n, Lib.leNat ((s.data.toList.drop to).take 4)⟩) else none := by
          unfold VP.parseV
          simp only [hg, hdr, hc1, hge, if_true, hts]
        have hle4 := WP.leNat_four (s.data.toList.drop to)
        obtain ⟨pg, hpg⟩ : ∃ p, Lib.leNat ((s.data.toList.drop to).take 4) = p := ⟨_, rfl⟩
        by_cases hrd : to + 4 ≤ s.size
        · have HRD := Lib.hid (fun W => rread_any s (to : Int) W (by omega) (by omega) (by unfold maxLen; omega))
          simp only [Int.toNat_natCast] at HRD
          rw [hpg] at HRD hpar hle4
          by_cases hgood : er = 0 ∧ n ≤ 4096 ∧ pg ≤ 4095
          · have hparse : VP.parseV s.data.toList = some (T.data.toList, pv true ⟨#[]⟩ n pg) := by rw [hpar, if_pos ⟨hgood.1, hrd, hgood.2.1, hgood.2.2⟩]
            obtain ⟨rfl, hn4, hp4⟩ := hgood
            have d2 : decide ((4096 : Int) < n) = false := decide_eq_false (by omega)
            have d3 : decide ((4095 : Int) < pg) = false := decide_eq_false (by omega)
            have d2' : decide (4096 < n) = false := decide_eq_false (by omega)
            have d3' : decide (4095 < pg) = false := decide_eq_false (by omega)
            have q7 : IntKind.i64.wrap (n : Int) = n := IntWalk.i64_in _ (by omega)
            have q8 : IntKind.i64.wrap (pg : Int) = pg := IntWalk.i64_in _ (by omega)
            have hS6 : (⟨#[]⟩ : ByteArray).size ≤ 1000000 := by decide
            clear hpar hpg hge hsp hg hts hTe hend htl hdr hle4 hto hrd
            go_enter Tryz.func43, Tryz.ntmps43
            go_wp2_with fail
            refine HT0.out.mono ?_
            rintro e w1 ⟨rfl, hb1⟩
            have KZ := HK0.out.below hb1
            have hbA := below_alloc w1 (.cells #[.bool false, .string ⟨#[]⟩, .int .i64 0, .int .i64 0] 44)
            have KA := Bx.new 44 false ⟨#[]⟩ 0 0 w1
            have KZA := KZ.below hbA
            have hbZ := hb0.trans' (hb1.trans' hbA)
            have hlt : w.heap.size < w1.heap.size := KZ.lt
            obtain ⟨g, hgq⟩ : ∃ g, w1.heap.size = g := ⟨_, rfl⟩
            have KB := Lib.hid KA
            have KZB := Lib.hid KZA
            have HBB := Lib.hid hbZ
            rw [hgq] at KB
            obtain ⟨a0, a1, a2, a3⟩ := KA.cells
            obtain ⟨b0, b1, b2, b3⟩ := KA.free
            have hgw : w.heap.size ≤ g := by omega
            have hgne : w.heap.size ≠ g := by omega
            clear KZ KA KZA hbA hbZ HT0 HK0 hb0 hb1 hlt
            go_wp2_with fail
            refine (HG.out _).mono ?_
            rintro e w3 ⟨rfl, hb3⟩
            have L1 := KB.out.below hb3
            have L0 := KZB.out.below hb3
            have hbL := HBB.out.trans' hb3
            clear a0 a1 a2 a3 b0 b1 b2 b3 hgq KB KZB HBB hb3
            go_wp2_with fail
            refine (HRD.out _).mono ?_
            rintro e w4 ⟨rfl, rfl⟩
            obtain ⟨a0, a1, a2, a3⟩ := L1.cells
            obtain ⟨b0, b1, b2, b3⟩ := L1.free
            have K1 := set4_box L1 true ⟨#[]⟩ n pg
            have K0 : Bx 44 w.heap.size false ⟨#[]⟩ 0 0 (set4 w3 g true ⟨#[]⟩ n pg) := (set4_other hgne true ⟨#[]⟩ n pg).trans L0
            have hbW := set4_below hbL hgw true ⟨#[]⟩ n pg
            obtain ⟨W, hW⟩ : ∃ W, set4 w3 g true ⟨#[]⟩ n pg = W := ⟨_, rfl⟩
            rw [hW] at K1 K0 hbW
            unfold set4 at hW
            clear HG HRD L1 L0 hbL
            have HPV := Lib.hid (rputv_any T true ⟨#[]⟩ n pg W (by omega) hS6)
            obtain ⟨k0, k1, k2, k3⟩ := K1.cells
            by_cases hOk : VP.OkV T.data.toList (pv true ⟨#[]⟩ n pg)
            · have e1 : putVV T (pv true ⟨#[]⟩ n pg) = .tuple #[.string (cellS T (pv true ⟨#[]⟩ n pg)), .int .i64 0] := if_pos hOk
              rw [e1] at HPV
              by_cases hcs : cellS T (pv true ⟨#[]⟩ n pg) = s
              · have hv : VP.getV s.data.toList = some (T.data.toList, pv true ⟨#[]⟩ n pg) := by
                  rw [getV_of hparse, if_pos ⟨hOk, by rw [← hcs]; rfl⟩]
                have HE := Lib.hid (show R = .tuple #[.string T, vv true ⟨#[]⟩ n pg, .int .i64 0] from by rw [← HR.out, hv]; simp [gotV])
                rw [hcs] at HPV
                have q2 : (s.toList == s.toList) = true := beq_self_eq_true _
                have q3 : (s.toList != s.toList) = false := by simp
                clear hv hcs e1 hOk hparse hS6
                go_wp2_with fail
                refine HPV.out.mono ?_
                rintro e w6 ⟨rfl, hb6⟩
                have J1 := Lib.hid (K1.below hb6)
                have J0 := Lib.hid (K0.below hb6)
                have HBW := Lib.hid (hbW.trans' hb6)
                clear K1 K0 hbW hb6 k0 k1 k2 k3 HPV
                obtain ⟨k0, k1, k2, k3⟩ := J1.out.cells
                obtain ⟨c0, c1, c2, c3⟩ := J0.out.cells
                obtain ⟨f0, f1, f2, f3⟩ := J0.out.free
                go_wp2_with fail
                go_region
                all_goals
                  go_wp2_with fail
                  obtain ⟨r0, r1, r2, r3⟩ := (set4_box J0.out true ⟨#[]⟩ n pg).cells
                  unfold set4 at r0 r1 r2 r3
                  refine bodyPost_ret (v := .tuple #[.string T, vv true ⟨#[]⟩ n pg, .int .i64 0]) (by simp [results, Tryz.results43, go_sem, r0, r1, r2, r3]) rfl ⟨by rw [HE.out], ?_⟩
                  first | exact set4_below HBW.out (Nat.le_refl _) true ⟨#[]⟩ n pg | exact (set4_below HBW.out (Nat.le_refl _) true ⟨#[]⟩ n pg).drew
              · have hv : VP.getV s.data.toList = none := by
                  rw [getV_of hparse, if_neg]
                  rintro ⟨_, h⟩
                  exact hcs (ByteArray.ext (Array.toList_inj.1 h))
                have HE := Lib.hid (show R = .tuple #[.string ⟨#[]⟩, vv false ⟨#[]⟩ 0 0, .int .i64 3] from by rw [← HR.out, hv]; rfl)
                obtain ⟨C, hC⟩ : ∃ C, cellS T (pv true ⟨#[]⟩ n pg) = C := ⟨_, rfl⟩
                rw [hC] at HPV hcs
                have q2 : (C.toList == s.toList) = false := by
                  rw [Lib.toList_data, Lib.toList_data]
                  exact beq_eq_false_iff_ne.2 fun e => hcs (ByteArray.ext (Array.toList_inj.1 e))
                have q3 : (C.toList != s.toList) = true := by rw [bne, q2]; rfl
                clear hv hcs e1 hOk hparse hC hS6
                go_wp2_with fail
                refine HPV.out.mono ?_
                rintro e w6 ⟨rfl, hb6⟩
                have J0 := Lib.hid (K0.below hb6)
                have HBW := Lib.hid (hbW.trans' hb6)
                clear K1 K0 hbW hb6 k0 k1 k2 k3 HPV
                obtain ⟨c0, c1, c2, c3⟩ := J0.out.cells
                obtain ⟨f0, f1, f2, f3⟩ := J0.out.free
                go_wp2_with fail
                obtain ⟨r0, r1, r2, r3⟩ := (set4_box J0.out false ⟨#[]⟩ 0 0).cells
                unfold set4 at r0 r1 r2 r3
                refine bodyPost_ret (v := .tuple #[.string ⟨#[]⟩, vv false ⟨#[]⟩ 0 0, .int .i64 3]) (by simp [results, Tryz.results43, go_sem, r0, r1, r2, r3]) rfl ⟨by rw [HE.out], ?_⟩
                exact set4_below HBW.out (Nat.le_refl _) false ⟨#[]⟩ 0 0
            · have e1 : putVV T (pv true ⟨#[]⟩ n pg) = .tuple #[.string ⟨#[]⟩, .int .i64 3] := if_neg hOk
              rw [e1] at HPV
              have hv : VP.getV s.data.toList = none := by
                rw [getV_of hparse, if_neg fun h => hOk h.1]
              have HE := Lib.hid (show R = .tuple #[.string ⟨#[]⟩, vv false ⟨#[]⟩ 0 0, .int .i64 3] from by rw [← HR.out, hv]; rfl)
              clear hv e1 hOk hparse hS6
              go_wp2_with fail
              refine HPV.out.mono ?_
              rintro e w6 ⟨rfl, hb6⟩
              have J0 := Lib.hid (K0.below hb6)
              have HBW := Lib.hid (hbW.trans' hb6)
              clear K1 K0 hbW hb6 k0 k1 k2 k3 HPV
              obtain ⟨c0, c1, c2, c3⟩ := J0.out.cells
              obtain ⟨f0, f1, f2, f3⟩ := J0.out.free
              go_wp2_with fail
              obtain ⟨r0, r1, r2, r3⟩ := (set4_box J0.out false ⟨#[]⟩ 0 0).cells
              unfold set4 at r0 r1 r2 r3
              refine bodyPost_ret (v := .tuple #[.string ⟨#[]⟩, vv false ⟨#[]⟩ 0 0, .int .i64 3]) (by simp [results, Tryz.results43, go_sem, r0, r1, r2, r3]) rfl ⟨by rw [HE.out], ?_⟩
              exact set4_below HBW.out (Nat.le_refl _) false ⟨#[]⟩ 0 0
          · have hv : VP.getV s.data.toList = none := getV_of_none (by rw [hpar, if_neg fun h => hgood ⟨h.1, h.2.2.1, h.2.2.2⟩])
            have HE := Lib.hid (show R = .tuple #[.string ⟨#[]⟩, vv false ⟨#[]⟩ 0 0, .int .i64 3] from by rw [← HR.out, hv]; rfl)
            clear hv hpar hpg hge hsp hg hts hTe hend htl hdr hle4 hto hrd
            rcases (show er ≠ 0 ∨ (er = 0 ∧ 4096 < n) ∨ (er = 0 ∧ n ≤ 4096 ∧ 4095 < pg) by omega) with h | h | h
            · have q7 : ((er : Int) == 0) = false := beq_eq_false_iff_ne.2 (by omega)
              have q8 : ((er : Int) != 0) = true := by rw [bne, q7]; rfl
              clear hgood
              go_enter Tryz.func43, Tryz.ntmps43
              go_wp2_with fail
              refine HT0.out.mono ?_
              rintro e w1 ⟨rfl, hb1⟩
              have KZ := HK0.out.below hb1
              have hbA := below_alloc w1 (.cells #[.bool false, .string ⟨#[]⟩, .int .i64 0, .int .i64 0] 44)
              have KA := Bx.new 44 false ⟨#[]⟩ 0 0 w1
              have KZA := KZ.below hbA
              have hbZ := hb0.trans' (hb1.trans' hbA)
              have hlt : w.heap.size < w1.heap.size := KZ.lt
              obtain ⟨g, hgq⟩ : ∃ g, w1.heap.size = g := ⟨_, rfl⟩
              have KB := Lib.hid KA
              have KZB := Lib.hid KZA
              have HBB := Lib.hid hbZ
              rw [hgq] at KB
              obtain ⟨a0, a1, a2, a3⟩ := KA.cells
              obtain ⟨b0, b1, b2, b3⟩ := KA.free
              have hgw : w.heap.size ≤ g := by omega
              have hgne : w.heap.size ≠ g := by omega
              clear KZ KA KZA hbA hbZ HT0 HK0 hb0 hb1 hlt
              go_wp2_with fail
              refine (HG.out _).mono ?_
              rintro e w3 ⟨rfl, hb3⟩
              have L0 := Lib.hid (KZB.out.below hb3)
              have HBW := Lib.hid (HBB.out.trans' hb3)
              clear a0 a1 a2 a3 b0 b1 b2 b3 hgq KB KZB HBB hb3
              go_wp2_with fail
              refine (HRD.out _).mono ?_
              rintro e w4 ⟨rfl, rfl⟩
              obtain ⟨c0, c1, c2, c3⟩ := L0.out.cells
              obtain ⟨f0, f1, f2, f3⟩ := L0.out.free
              clear HG HRD
              go_wp2_with fail
              obtain ⟨r0, r1, r2, r3⟩ := (set4_box L0.out false ⟨#[]⟩ 0 0).cells
              unfold set4 at r0 r1 r2 r3
              refine bodyPost_ret (v := .tuple #[.string ⟨#[]⟩, vv false ⟨#[]⟩ 0 0, .int .i64 3]) (by simp [results, Tryz.results43, go_sem, r0, r1, r2, r3]) rfl ⟨by rw [HE.out], ?_⟩
              exact set4_below HBW.out (Nat.le_refl _) false ⟨#[]⟩ 0 0
            · obtain ⟨rfl, h2⟩ := h
              have d2 : decide ((4096 : Int) < n) = true := decide_eq_true (by omega)
              have d3 : decide (4096 < n) = true := decide_eq_true h2
              clear hgood
              go_enter Tryz.func43, Tryz.ntmps43
              go_wp2_with fail
              refine HT0.out.mono ?_
              rintro e w1 ⟨rfl, hb1⟩
              have KZ := HK0.out.below hb1
              have hbA := below_alloc w1 (.cells #[.bool false, .string ⟨#[]⟩, .int .i64 0, .int .i64 0] 44)
              have KA := Bx.new 44 false ⟨#[]⟩ 0 0 w1
              have KZA := KZ.below hbA
              have hbZ := hb0.trans' (hb1.trans' hbA)
              have hlt : w.heap.size < w1.heap.size := KZ.lt
              obtain ⟨g, hgq⟩ : ∃ g, w1.heap.size = g := ⟨_, rfl⟩
              have KB := Lib.hid KA
              have KZB := Lib.hid KZA
              have HBB := Lib.hid hbZ
              rw [hgq] at KB
              obtain ⟨a0, a1, a2, a3⟩ := KA.cells
              obtain ⟨b0, b1, b2, b3⟩ := KA.free
              have hgw : w.heap.size ≤ g := by omega
              have hgne : w.heap.size ≠ g := by omega
              clear KZ KA KZA hbA hbZ HT0 HK0 hb0 hb1 hlt
              go_wp2_with fail
              refine (HG.out _).mono ?_
              rintro e w3 ⟨rfl, hb3⟩
              have L0 := Lib.hid (KZB.out.below hb3)
              have HBW := Lib.hid (HBB.out.trans' hb3)
              clear a0 a1 a2 a3 b0 b1 b2 b3 hgq KB KZB HBB hb3
              go_wp2_with fail
              refine (HRD.out _).mono ?_
              rintro e w4 ⟨rfl, rfl⟩
              obtain ⟨c0, c1, c2, c3⟩ := L0.out.cells
              obtain ⟨f0, f1, f2, f3⟩ := L0.out.free
              clear HG HRD
              go_wp2_with fail
              obtain ⟨r0, r1, r2, r3⟩ := (set4_box L0.out false ⟨#[]⟩ 0 0).cells
              unfold set4 at r0 r1 r2 r3
              refine bodyPost_ret (v := .tuple #[.string ⟨#[]⟩, vv false ⟨#[]⟩ 0 0, .int .i64 3]) (by simp [results, Tryz.results43, go_sem, r0, r1, r2, r3]) rfl ⟨by rw [HE.out], ?_⟩
              exact set4_below HBW.out (Nat.le_refl _) false ⟨#[]⟩ 0 0
            · obtain ⟨rfl, h2, h3⟩ := h
              have d2 : decide ((4096 : Int) < n) = false := decide_eq_false (by omega)
              have d3 : decide (4096 < n) = false := decide_eq_false (by omega)
              have d4 : decide ((4095 : Int) < pg) = true := decide_eq_true (by omega)
              have d5 : decide (4095 < pg) = true := decide_eq_true h3
              clear hgood
              go_enter Tryz.func43, Tryz.ntmps43
              go_wp2_with fail
              refine HT0.out.mono ?_
              rintro e w1 ⟨rfl, hb1⟩
              have KZ := HK0.out.below hb1
              have hbA := below_alloc w1 (.cells #[.bool false, .string ⟨#[]⟩, .int .i64 0, .int .i64 0] 44)
              have KA := Bx.new 44 false ⟨#[]⟩ 0 0 w1
              have KZA := KZ.below hbA
              have hbZ := hb0.trans' (hb1.trans' hbA)
              have hlt : w.heap.size < w1.heap.size := KZ.lt
              obtain ⟨g, hgq⟩ : ∃ g, w1.heap.size = g := ⟨_, rfl⟩
              have KB := Lib.hid KA
              have KZB := Lib.hid KZA
              have HBB := Lib.hid hbZ
              rw [hgq] at KB
              obtain ⟨a0, a1, a2, a3⟩ := KA.cells
              obtain ⟨b0, b1, b2, b3⟩ := KA.free
              have hgw : w.heap.size ≤ g := by omega
              have hgne : w.heap.size ≠ g := by omega
              clear KZ KA KZA hbA hbZ HT0 HK0 hb0 hb1 hlt
              go_wp2_with fail
              refine (HG.out _).mono ?_
              rintro e w3 ⟨rfl, hb3⟩
              have L0 := Lib.hid (KZB.out.below hb3)
              have HBW := Lib.hid (HBB.out.trans' hb3)
              clear a0 a1 a2 a3 b0 b1 b2 b3 hgq KB KZB HBB hb3
              go_wp2_with fail
              refine (HRD.out _).mono ?_
              rintro e w4 ⟨rfl, rfl⟩
              obtain ⟨c0, c1, c2, c3⟩ := L0.out.cells
              obtain ⟨f0, f1, f2, f3⟩ := L0.out.free
              clear HG HRD
              go_wp2_with fail
              obtain ⟨r0, r1, r2, r3⟩ := (set4_box L0.out false ⟨#[]⟩ 0 0).cells
              unfold set4 at r0 r1 r2 r3
              refine bodyPost_ret (v := .tuple #[.string ⟨#[]⟩, vv false ⟨#[]⟩ 0 0, .int .i64 3]) (by simp [results, Tryz.results43, go_sem, r0, r1, r2, r3]) rfl ⟨by rw [HE.out], ?_⟩
              exact set4_below HBW.out (Nat.le_refl _) false ⟨#[]⟩ 0 0
        · have HRD := Lib.hid (fun W => rread_short s (to : Int) W (by omega) (by omega) (by omega) hs)
          have hv : VP.getV s.data.toList = none := getV_of_none (by rw [hpar, if_neg fun h => hrd h.2.1])
          have HE := Lib.hid (show R = .tuple #[.string ⟨#[]⟩, vv false ⟨#[]⟩ 0 0, .int .i64 3] from by rw [← HR.out, hv]; rfl)
          clear hv hpar hpg hge hsp hg hts hTe hend htl hdr hle4 hto hrd
          by_cases h : er = 0
          · subst h
            go_enter Tryz.func43, Tryz.ntmps43
            go_wp2_with fail
            refine HT0.out.mono ?_
            rintro e w1 ⟨rfl, hb1⟩
            have KZ := HK0.out.below hb1
            have hbA := below_alloc w1 (.cells #[.bool false, .string ⟨#[]⟩, .int .i64 0, .int .i64 0] 44)
            have KA := Bx.new 44 false ⟨#[]⟩ 0 0 w1
            have KZA := KZ.below hbA
            have hbZ := hb0.trans' (hb1.trans' hbA)
            have hlt : w.heap.size < w1.heap.size := KZ.lt
            obtain ⟨g, hgq⟩ : ∃ g, w1.heap.size = g := ⟨_, rfl⟩
            have KB := Lib.hid KA
            have KZB := Lib.hid KZA
            have HBB := Lib.hid hbZ
            rw [hgq] at KB
            obtain ⟨a0, a1, a2, a3⟩ := KA.cells
            obtain ⟨b0, b1, b2, b3⟩ := KA.free
            have hgw : w.heap.size ≤ g := by omega
            have hgne : w.heap.size ≠ g := by omega
            clear KZ KA KZA hbA hbZ HT0 HK0 hb0 hb1 hlt
            go_wp2_with fail
            refine (HG.out _).mono ?_
            rintro e w3 ⟨rfl, hb3⟩
            have L0 := Lib.hid (KZB.out.below hb3)
            have HBW := Lib.hid (HBB.out.trans' hb3)
            clear a0 a1 a2 a3 b0 b1 b2 b3 hgq KB KZB HBB hb3
            go_wp2_with fail
            refine (HRD.out _).mono ?_
            rintro e w4 ⟨rfl, rfl⟩
            obtain ⟨c0, c1, c2, c3⟩ := L0.out.cells
            obtain ⟨f0, f1, f2, f3⟩ := L0.out.free
            clear HG HRD
            go_wp2_with fail
            obtain ⟨r0, r1, r2, r3⟩ := (set4_box L0.out false ⟨#[]⟩ 0 0).cells
            unfold set4 at r0 r1 r2 r3
            refine bodyPost_ret (v := .tuple #[.string ⟨#[]⟩, vv false ⟨#[]⟩ 0 0, .int .i64 3]) (by simp [results, Tryz.results43, go_sem, r0, r1, r2, r3]) rfl ⟨by rw [HE.out], ?_⟩
            exact set4_below HBW.out (Nat.le_refl _) false ⟨#[]⟩ 0 0
          · have q7 : ((er : Int) == 0) = false := beq_eq_false_iff_ne.2 (by omega)
            have q8 : ((er : Int) != 0) = true := by rw [bne, q7]; rfl
            go_enter Tryz.func43, Tryz.ntmps43
            go_wp2_with fail
            refine HT0.out.mono ?_
            rintro e w1 ⟨rfl, hb1⟩
            have KZ := HK0.out.below hb1
            have hbA := below_alloc w1 (.cells #[.bool false, .string ⟨#[]⟩, .int .i64 0, .int .i64 0] 44)
            have KA := Bx.new 44 false ⟨#[]⟩ 0 0 w1
            have KZA := KZ.below hbA
            have hbZ := hb0.trans' (hb1.trans' hbA)
            have hlt : w.heap.size < w1.heap.size := KZ.lt
            obtain ⟨g, hgq⟩ : ∃ g, w1.heap.size = g := ⟨_, rfl⟩
            have KB := Lib.hid KA
            have KZB := Lib.hid KZA
            have HBB := Lib.hid hbZ
            rw [hgq] at KB
            obtain ⟨a0, a1, a2, a3⟩ := KA.cells
            obtain ⟨b0, b1, b2, b3⟩ := KA.free
            have hgw : w.heap.size ≤ g := by omega
            have hgne : w.heap.size ≠ g := by omega
            clear KZ KA KZA hbA hbZ HT0 HK0 hb0 hb1 hlt
            go_wp2_with fail
            refine (HG.out _).mono ?_
            rintro e w3 ⟨rfl, hb3⟩
            have L0 := Lib.hid (KZB.out.below hb3)
            have HBW := Lib.hid (HBB.out.trans' hb3)
            clear a0 a1 a2 a3 b0 b1 b2 b3 hgq KB KZB HBB hb3
            go_wp2_with fail
            refine (HRD.out _).mono ?_
            rintro e w4 ⟨rfl, rfl⟩
            obtain ⟨c0, c1, c2, c3⟩ := L0.out.cells
            obtain ⟨f0, f1, f2, f3⟩ := L0.out.free
            clear HG HRD
            go_wp2_with fail
            obtain ⟨r0, r1, r2, r3⟩ := (set4_box L0.out false ⟨#[]⟩ 0 0).cells
            unfold set4 at r0 r1 r2 r3
            refine bodyPost_ret (v := .tuple #[.string ⟨#[]⟩, vv false ⟨#[]⟩ 0 0, .int .i64 3]) (by simp [results, Tryz.results43, go_sem, r0, r1, r2, r3]) rfl ⟨by rw [HE.out], ?_⟩
            exact set4_below HBW.out (Nat.le_refl _) false ⟨#[]⟩ 0 0
      · have hne : s[i].toNat ≠ 1 := fun h => hc1 (UInt8.toNat_inj.1 h)
        have q6 : (((s[i].toNat : Nat) : Int) == 1) = false := beq_eq_false_iff_ne.2 (by omega)
        have HT1 := Lib.hid (fun W => rtext_any s (i + 1) W (by omega) hs)
        rw [q5] at HT1
        cases hg1 : VP.gtext s.data.toList (i + 1) with
        | none =>
          have hv : VP.getV s.data.toList = none := getV_of_none (by
            unfold VP.parseV
            simp only [hg, hdr, if_neg hc1, hg1])
          have HE := Lib.hid (show R = .tuple #[.string ⟨#[]⟩, vv false ⟨#[]⟩ 0 0, .int .i64 3] from by rw [← HR.out, hv]; rfl)
          rw [hg1] at HT1
          simp only [gotT] at HT1
          clear hv hg hg1 hts hTe hend htl hdr hne hc1
          go_enter Tryz.func43, Tryz.ntmps43
          go_wp2_with fail
          refine HT0.out.mono ?_
          rintro e w1 ⟨rfl, hb1⟩
          have KZ := HK0.out.below hb1
          have hbA := below_alloc w1 (.cells #[.bool false, .string ⟨#[]⟩, .int .i64 0, .int .i64 0] 44)
          have KA := Bx.new 44 false ⟨#[]⟩ 0 0 w1
          have KZA := KZ.below hbA
          have hbZ := hb0.trans' (hb1.trans' hbA)
          have hlt : w.heap.size < w1.heap.size := KZ.lt
          obtain ⟨g, hgq⟩ : ∃ g, w1.heap.size = g := ⟨_, rfl⟩
          have KB := Lib.hid KA
          have KZB := Lib.hid KZA
          have HBB := Lib.hid hbZ
          rw [hgq] at KB
          obtain ⟨a0, a1, a2, a3⟩ := KA.cells
          obtain ⟨b0, b1, b2, b3⟩ := KA.free
          have hgw : w.heap.size ≤ g := by omega
          have hgne : w.heap.size ≠ g := by omega
          clear KZ KA KZA hbA hbZ HT0 HK0 hb0 hb1 hlt
          go_wp2_with fail
          refine (HT1.out _).mono ?_
          rintro e w3 ⟨rfl, hb3⟩
          have L0 := Lib.hid (KZB.out.below hb3)
          have HBW := Lib.hid (HBB.out.trans' hb3)
          obtain ⟨c0, c1, c2, c3⟩ := L0.out.cells
          obtain ⟨f0, f1, f2, f3⟩ := L0.out.free
          clear a0 a1 a2 a3 b0 b1 b2 b3 hgq KB KZB HBB hb3 HT1
          go_wp2_with fail
          obtain ⟨r0, r1, r2, r3⟩ := (set4_box L0.out false ⟨#[]⟩ 0 0).cells
          unfold set4 at r0 r1 r2 r3
          refine bodyPost_ret (v := .tuple #[.string ⟨#[]⟩, vv false ⟨#[]⟩ 0 0, .int .i64 3]) (by simp [results, Tryz.results43, go_sem, r0, r1, r2, r3]) rfl ⟨by rw [HE.out], ?_⟩
          exact set4_below HBW.out (Nat.le_refl _) false ⟨#[]⟩ 0 0
        | some x =>
          obtain ⟨u, k⟩ := x
          obtain ⟨_, hul⟩ := gtext_some hg1
          obtain ⟨U, rfl⟩ := listS u
          have hparse : VP.parseV s.data.toList = some (T.data.toList, pv false U 0 0) := by
            unfold VP.parseV
            simp only [hg, hdr, if_neg hc1, hg1]
          have hS6 : U.size ≤ 1000000 := by
            rw [hts] at hul
            simp only [Array.length_toList, ByteArray.size_data] at hul
            omega
          have hUe : (⟨U.data.toList.toArray⟩ : ByteArray) = U := ByteArray.ext (by simp)
          rw [hg1] at HT1
          simp only [gotT] at HT1
          rw [hUe] at HT1
          have d2 : decide ((k : Int) < 0) = false := decide_eq_false (by omega)
          clear hg hg1 hts hTe hUe hend htl hul hdr hne hc1
          go_enter Tryz.func43, Tryz.ntmps43
          go_wp2_with fail
          refine HT0.out.mono ?_
          rintro e w1 ⟨rfl, hb1⟩
          have KZ := HK0.out.below hb1
          have hbA := below_alloc w1 (.cells #[.bool false, .string ⟨#[]⟩, .int .i64 0, .int .i64 0] 44)
          have KA := Bx.new 44 false ⟨#[]⟩ 0 0 w1
          have KZA := KZ.below hbA
          have hbZ := hb0.trans' (hb1.trans' hbA)
          have hlt : w.heap.size < w1.heap.size := KZ.lt
          obtain ⟨g, hgq⟩ : ∃ g, w1.heap.size = g := ⟨_, rfl⟩
          have KB := Lib.hid KA
          have KZB := Lib.hid KZA
          have HBB := Lib.hid hbZ
          rw [hgq] at KB
          obtain ⟨a0, a1, a2, a3⟩ := KA.cells
          obtain ⟨b0, b1, b2, b3⟩ := KA.free
          have hgw : w.heap.size ≤ g := by omega
          have hgne : w.heap.size ≠ g := by omega
          clear KZ KA KZA hbA hbZ HT0 HK0 hb0 hb1 hlt
          go_wp2_with fail
          refine (HT1.out _).mono ?_
          rintro e w3 ⟨rfl, hb3⟩
          have L1 := KB.out.below hb3
          have L0 := KZB.out.below hb3
          have hbL := HBB.out.trans' hb3
          clear a0 a1 a2 a3 b0 b1 b2 b3 hgq KB KZB HBB hb3
          obtain ⟨a0, a1, a2, a3⟩ := L1.cells
          obtain ⟨b0, b1, b2, b3⟩ := L1.free
          have K1 := set4_box L1 false U 0 0
          have K0 : Bx 44 w.heap.size false ⟨#[]⟩ 0 0 (set4 w3 g false U 0 0) := (set4_other hgne false U 0 0).trans L0
          have hbW := set4_below hbL hgw false U 0 0
          obtain ⟨W, hW⟩ : ∃ W, set4 w3 g false U 0 0 = W := ⟨_, rfl⟩
          rw [hW] at K1 K0 hbW
          unfold set4 at hW
          clear HT1 L1 L0 hbL
          have HPV := Lib.hid (rputv_any T false U 0 0 W (by omega) hS6)
          obtain ⟨k0, k1, k2, k3⟩ := K1.cells
          by_cases hOk : VP.OkV T.data.toList (pv false U 0 0)
          · have e1 : putVV T (pv false U 0 0) = .tuple #[.string (cellS T (pv false U 0 0)), .int .i64 0] := if_pos hOk
            rw [e1] at HPV
            by_cases hcs : cellS T (pv false U 0 0) = s
            · have hv : VP.getV s.data.toList = some (T.data.toList, pv false U 0 0) := by
                rw [getV_of hparse, if_pos ⟨hOk, by rw [← hcs]; rfl⟩]
              have HE := Lib.hid (show R = .tuple #[.string T, vv false U 0 0, .int .i64 0] from by rw [← HR.out, hv]; simp [gotV])
              rw [hcs] at HPV
              have q2 : (s.toList == s.toList) = true := beq_self_eq_true _
              have q3 : (s.toList != s.toList) = false := by simp
              clear hv hcs e1 hOk hparse hS6
              go_wp2_with fail
              refine HPV.out.mono ?_
              rintro e w6 ⟨rfl, hb6⟩
              have J1 := Lib.hid (K1.below hb6)
              have J0 := Lib.hid (K0.below hb6)
              have HBW := Lib.hid (hbW.trans' hb6)
              clear K1 K0 hbW hb6 k0 k1 k2 k3 HPV
              obtain ⟨k0, k1, k2, k3⟩ := J1.out.cells
              obtain ⟨c0, c1, c2, c3⟩ := J0.out.cells
              obtain ⟨f0, f1, f2, f3⟩ := J0.out.free
              go_wp2_with fail
              go_region
              all_goals
                go_wp2_with fail
                obtain ⟨r0, r1, r2, r3⟩ := (set4_box J0.out false U 0 0).cells
                unfold set4 at r0 r1 r2 r3
                refine bodyPost_ret (v := .tuple #[.string T, vv false U 0 0, .int .i64 0]) (by simp [results, Tryz.results43, go_sem, r0, r1, r2, r3]) rfl ⟨by rw [HE.out], ?_⟩
                first | exact set4_below HBW.out (Nat.le_refl _) false U 0 0 | exact (set4_below HBW.out (Nat.le_refl _) false U 0 0).drew
            · have hv : VP.getV s.data.toList = none := by
                rw [getV_of hparse, if_neg]
                rintro ⟨_, h⟩
                exact hcs (ByteArray.ext (Array.toList_inj.1 h))
              have HE := Lib.hid (show R = .tuple #[.string ⟨#[]⟩, vv false ⟨#[]⟩ 0 0, .int .i64 3] from by rw [← HR.out, hv]; rfl)
              obtain ⟨C, hC⟩ : ∃ C, cellS T (pv false U 0 0) = C := ⟨_, rfl⟩
              rw [hC] at HPV hcs
              have q2 : (C.toList == s.toList) = false := by
                rw [Lib.toList_data, Lib.toList_data]
                exact beq_eq_false_iff_ne.2 fun e => hcs (ByteArray.ext (Array.toList_inj.1 e))
              have q3 : (C.toList != s.toList) = true := by rw [bne, q2]; rfl
              clear hv hcs e1 hOk hparse hC hS6
              go_wp2_with fail
              refine HPV.out.mono ?_
              rintro e w6 ⟨rfl, hb6⟩
              have J0 := Lib.hid (K0.below hb6)
              have HBW := Lib.hid (hbW.trans' hb6)
              clear K1 K0 hbW hb6 k0 k1 k2 k3 HPV
              obtain ⟨c0, c1, c2, c3⟩ := J0.out.cells
              obtain ⟨f0, f1, f2, f3⟩ := J0.out.free
              go_wp2_with fail
              obtain ⟨r0, r1, r2, r3⟩ := (set4_box J0.out false ⟨#[]⟩ 0 0).cells
              unfold set4 at r0 r1 r2 r3
              refine bodyPost_ret (v := .tuple #[.string ⟨#[]⟩, vv false ⟨#[]⟩ 0 0, .int .i64 3]) (by simp [results, Tryz.results43, go_sem, r0, r1, r2, r3]) rfl ⟨by rw [HE.out], ?_⟩
              exact set4_below HBW.out (Nat.le_refl _) false ⟨#[]⟩ 0 0
          · have e1 : putVV T (pv false U 0 0) = .tuple #[.string ⟨#[]⟩, .int .i64 3] := if_neg hOk
            rw [e1] at HPV
            have hv : VP.getV s.data.toList = none := by
              rw [getV_of hparse, if_neg fun h => hOk h.1]
            have HE := Lib.hid (show R = .tuple #[.string ⟨#[]⟩, vv false ⟨#[]⟩ 0 0, .int .i64 3] from by rw [← HR.out, hv]; rfl)
            clear hv e1 hOk hparse hS6
            go_wp2_with fail
            refine HPV.out.mono ?_
            rintro e w6 ⟨rfl, hb6⟩
            have J0 := Lib.hid (K0.below hb6)
            have HBW := Lib.hid (hbW.trans' hb6)
            clear K1 K0 hbW hb6 k0 k1 k2 k3 HPV
            obtain ⟨c0, c1, c2, c3⟩ := J0.out.cells
            obtain ⟨f0, f1, f2, f3⟩ := J0.out.free
            go_wp2_with fail
            obtain ⟨r0, r1, r2, r3⟩ := (set4_box J0.out false ⟨#[]⟩ 0 0).cells
            unfold set4 at r0 r1 r2 r3
            refine bodyPost_ret (v := .tuple #[.string ⟨#[]⟩, vv false ⟨#[]⟩ 0 0, .int .i64 3]) (by simp [results, Tryz.results43, go_sem, r0, r1, r2, r3]) rfl ⟨by rw [HE.out], ?_⟩
            exact set4_below HBW.out (Nat.le_refl _) false ⟨#[]⟩ 0 0
end Go.Proofs.YtpehkikdmckldaaGreatDoor.L9

namespace Go.Proofs.YtpehkikdmckldaaGreatDoor.L9
open Go.RowKit
set_option linter.unusedVariables false
set_option linter.unusedSimpArgs false
end Go.Proofs.YtpehkikdmckldaaGreatDoor.L9

namespace Go.Proofs.YtpehkikdmckldaaGreatDoor
open Go.RowKit NP
set_option linter.unusedVariables false
set_option linter.unusedSimpArgs false

set_option maxHeartbeats 1000000 in
theorem nums_any (F R : Int) (H : ByteArray) (A : Option Addr) (n cap : Nat) (w : World) :
    Calls Tryz.prog 45 #[lv F R H A n cap] w fun e w' => e = .returned (.bool (decide (1 ≤ F ∧ F ≤ 4095 ∧ 0 ≤ R ∧ R ≤ 4095 ∧ R ≠ F))) ∧ Below w.heap.size w w' := by
  rcases (show F < 1 ∨ (1 ≤ F ∧ 4095 < F) ∨ (1 ≤ F ∧ F ≤ 4095 ∧ R < 0) ∨ (1 ≤ F ∧ F ≤ 4095 ∧ 0 ≤ R ∧ 4095 < R) ∨ (1 ≤ F ∧ F ≤ 4095 ∧ 0 ≤ R ∧ R ≤ 4095) by omega) with h | h | h | h | h
  · rw [show decide (1 ≤ F ∧ F ≤ 4095 ∧ 0 ≤ R ∧ R ≤ 4095 ∧ R ≠ F) = false from decide_eq_false (by omega)]
    have d1 : decide (1 ≤ F) = false := decide_eq_false (by omega)
    clear h
    go_enter Tryz.func45, Tryz.ntmps45
    go_wp2_with fail
    go_ret
    exact ⟨rfl, L5.below_alloc _ _⟩
  · rw [show decide (1 ≤ F ∧ F ≤ 4095 ∧ 0 ≤ R ∧ R ≤ 4095 ∧ R ≠ F) = false from decide_eq_false (by omega)]
    have d1 : decide (1 ≤ F) = true := decide_eq_true (by omega)
    have d2 : decide (F ≤ 4095) = false := decide_eq_false (by omega)
    clear h
    go_enter Tryz.func45, Tryz.ntmps45
    go_wp2_with fail
    go_ret
    exact ⟨rfl, L5.below_alloc _ _⟩
  · rw [show decide (1 ≤ F ∧ F ≤ 4095 ∧ 0 ≤ R ∧ R ≤ 4095 ∧ R ≠ F) = false from decide_eq_false (by omega)]
    have d1 : decide (1 ≤ F) = true := decide_eq_true (by omega)
    have d2 : decide (F ≤ 4095) = true := decide_eq_true (by omega)
    have d3 : decide (0 ≤ R) = false := decide_eq_false (by omega)
    clear h
    go_enter Tryz.func45, Tryz.ntmps45
    go_wp2_with fail
    go_ret
    exact ⟨rfl, L5.below_alloc _ _⟩
  · rw [show decide (1 ≤ F ∧ F ≤ 4095 ∧ 0 ≤ R ∧ R ≤ 4095 ∧ R ≠ F) = false from decide_eq_false (by omega)]
    have d1 : decide (1 ≤ F) = true := decide_eq_true (by omega)
    have d2 : decide (F ≤ 4095) = true := decide_eq_true (by omega)
    have d3 : decide (0 ≤ R) = true := decide_eq_true (by omega)
    have d4 : decide (R ≤ 4095) = false := decide_eq_false (by omega)
    clear h
    go_enter Tryz.func45, Tryz.ntmps45
    go_wp2_with fail
    go_ret
    exact ⟨rfl, L5.below_alloc _ _⟩
  · have e : (R != F) = decide (1 ≤ F ∧ F ≤ 4095 ∧ 0 ≤ R ∧ R ≤ 4095 ∧ R ≠ F) := by
      by_cases hq : R = F
      · rw [decide_eq_false (by omega)]; simp [hq]
      · rw [decide_eq_true (by omega)]; simp [hq]
    generalize decide (1 ≤ F ∧ F ≤ 4095 ∧ 0 ≤ R ∧ R ≤ 4095 ∧ R ≠ F) = q at *
    have d1 : decide (1 ≤ F) = true := decide_eq_true (by omega)
    have d2 : decide (F ≤ 4095) = true := decide_eq_true (by omega)
    have d3 : decide (0 ≤ R) = true := decide_eq_true (by omega)
    have d4 : decide (R ≤ 4095) = true := decide_eq_true (by omega)
    clear h
    go_enter Tryz.func45, Tryz.ntmps45
    go_wp2_with fail
    go_ret
    exact ⟨rfl, L5.below_alloc _ _⟩

theorem empty_of (H : ByteArray) : (H.toList == (⟨#[]⟩ : ByteArray).toList) = decide (H.size = 0) := by
  rw [Lib.toList_data ⟨#[]⟩, Lib.toList_data]
  have h : H.data.toList.length = H.size := by simp
  by_cases h0 : H.size = 0
  · rw [decide_eq_true h0, beq_iff_eq]
    exact List.eq_nil_of_length_eq_zero (by omega)
  · rw [decide_eq_false h0, beq_eq_false_iff_ne]
    intro e
    rw [e] at h
    exact h0 (by simpa using h.symm)
theorem empty_of' (H : ByteArray) : (H.toList == []) = decide (H.size = 0) := by
  rw [← empty_of]
  rw [Lib.toList_data ⟨#[]⟩]

set_option maxHeartbeats 2000000 in
set_option maxRecDepth 100000 in
theorem rise_any (A : Option Addr) (l : List It) (ca : Nat) (w : World) (ha : Lies5 w w.heap.size A l) (hl : l.length ≤ 1000000) :
    Calls Tryz.prog 47 #[.slice A l.length ca] w fun e w' => e = .returned (.bool (decide (Rise l))) ∧ Below w.heap.size w w' := by
  have HA := Lib.hid ha
  obtain ⟨r, HR⟩ : ∃ r, Hid (r = decide (Rise l)) := ⟨_, Lib.hid rfl⟩
  rw [← HR.out]
  obtain ⟨n, hn⟩ : ∃ n, n = l.length := ⟨_, rfl⟩
  have HN := Lib.hid hn
  rw [← hn]
  rw [← hn] at hl
  clear ha hn
  go_enter Tryz.func47, Tryz.ntmps47
  go_wp2_with fail
  go_loopw [3] (fun iv wr => ∃ k : Nat, 1 ≤ k ∧ (k ≤ n ∨ k = 1) ∧ iv = .int .i64 k ∧ Hid (Rise (l.take k)) ∧ Below w.heap.size w wr) (fun iv _ => n - (intOf iv).toNat)
  case atStart => exact ⟨1, by omega, by omega, rfl, Lib.hid (rise_one l), Below.refl _ _⟩
  case round =>
    obtain ⟨k, hk1, hk, rfl, HK, hbw⟩ := hrel
    by_cases hlt : k < n
    · obtain ⟨j, rfl⟩ : ∃ j, k = j + 1 := ⟨k - 1, by omega⟩
      obtain ⟨⟨K, O, S, L, P⟩, hc⟩ : ∃ c, l[j]? = some c := ⟨_, List.getElem?_eq_getElem (by have := HN.out; omega)⟩
      obtain ⟨⟨K', O', S', L', P'⟩, hd⟩ : ∃ c, l[j + 1]? = some c := ⟨_, List.getElem?_eq_getElem (by have := HN.out; omega)⟩
      obtain ⟨a, rfl, hab, x0, x1, x2, x3, x4⟩ := (HA.out.below hbw).load hc
      obtain ⟨b, hbe, hbb, y0, y1, y2, y3, y4⟩ := (HA.out.below hbw).load hd
      obtain rfl := Option.some.inj hbe
      clear hbe
      by_cases hq : K.data.toList < K'.data.toList
      · have hz := L5.less_yes hq
        have HX := Lib.hid (rise_next hc hd HK.out hq)
        clear hc hd hq hab hbb
        go_wp2_with fail
        go_quiet (fail)
        go_wp2_with fail
        go_roundw
        case rel => exact ⟨j + 1 + 1, by omega, by omega, by simp, HX, L5.below_drewN hbw _⟩
        case measure => simp [intOf]; omega
      · have hz := L5.less_no hq
        have HX : Hid (r = false) := Lib.hid (by rw [HR.out]; exact decide_eq_false (rise_not hc hd hq))
        clear hc hd hq hab hbb
        go_wp2_with fail
        go_quiet (fail)
        go_wp2_with fail
        go_ret
        exact ⟨by rw [HX.out]; rfl, L5.below_drewN hbw _⟩
    · have HX : Hid (r = true) := Lib.hid (by
        rw [HR.out]
        refine decide_eq_true ?_
        have h := HK.out
        rwa [List.take_of_length_le (by have := HN.out; omega)] at h)
      have hlt' : ¬ (k : Int) < n := by omega
      clear hk
      go_wp2_with fail
      go_ret
      exact ⟨by rw [HX.out]; rfl, hbw⟩

set_option maxHeartbeats 2000000 in
set_option maxRecDepth 100000 in
theorem high_any (F R : Int) (H : ByteArray) (A : Option Addr) (l : List It) (ca p : Nat) (w : World) (ha : Lies5 w w.heap.size A l) (hl : l.length ≤ 1000000) (hp : p ≤ 1000000) (hh : H.size ≤ maxLen) :
    ∃ b : Bool, (b = true ↔ HighL R H l p) ∧ Calls Tryz.prog 46 #[lv F R H A l.length ca, .int .i64 p] w fun e w' => e = .returned (.bool b) ∧ Below w.heap.size w w' := by
  unfold maxLen at hh
  have he := empty_of H
  have he' := empty_of' H
  by_cases h0 : R = 0
  · subst h0
    refine ⟨decide (H.size = 0), ⟨fun h => ⟨fun _ => of_decide_eq_true h, fun h => absurd rfl h⟩, fun h => decide_eq_true (h.1 rfl)⟩, ?_⟩
    generalize decide (H.size = 0) = q at *
    clear ha
    go_enter Tryz.func46, Tryz.ntmps46
    go_wp2_with fail
    go_ret
    exact ⟨rfl, L5.below_alloc _ _⟩
  have hR : (R == 0) = false := beq_eq_false_iff_ne.2 h0
  have hw : IntKind.i64.wrap ((p : Int) / 8) = (p : Int) / 8 := IntWalk.i64_in _ (by omega)
  by_cases h1 : H.size = 0
  · refine ⟨false, ⟨fun h => (by cases h), fun h => absurd h1 (h.2 h0).1⟩, ?_⟩
    rw [decide_eq_true h1] at he he'
    clear ha h1
    go_enter Tryz.func46, Tryz.ntmps46
    go_wp2_with fail
    go_quiet (fail)
    go_wp2_with fail
    go_ret
    exact ⟨rfl, L5.below_drewN (L5.below_alloc _ _) _⟩
  rw [decide_eq_false h1] at he he'
  by_cases h2 : p / 8 < H.size
  · refine ⟨false, ⟨fun h => (by cases h), fun h => by have := (h.2 h0).2.1; omega⟩, ?_⟩
    have d1 : decide (H.size ≤ p / 8) = false := decide_eq_false (by omega)
    have d2 : decide ((H.size : Int) ≤ (p : Int) / 8) = false := decide_eq_false (by omega)
    clear ha
    go_enter Tryz.func46, Tryz.ntmps46
    go_wp2_with fail
    go_quiet (fail)
    go_wp2_with fail
    go_ret
    exact ⟨rfl, L5.below_drewN (L5.below_alloc _ _) _⟩
  have d1 : decide (H.size ≤ p / 8) = true := decide_eq_true (by omega)
  have d2 : decide ((H.size : Int) ≤ (p : Int) / 8) = true := decide_eq_true (by omega)
  by_cases h3 : l.length = 0
  · refine ⟨true, ⟨fun _ => ⟨fun h => absurd h h0, fun _ => ⟨h1, by omega, fun x hx => by rw [List.eq_nil_of_length_eq_zero h3] at hx; simp at hx⟩⟩, fun _ => rfl⟩, ?_⟩
    rw [h3]
    clear ha
    go_enter Tryz.func46, Tryz.ntmps46
    go_wp2_with fail
    go_quiet (fail)
    go_wp2_with fail
    go_ret
    exact ⟨rfl, L5.below_drewN (L5.below_alloc _ _) _⟩
  obtain ⟨j, hj⟩ : ∃ j, l.length = j + 1 := ⟨l.length - 1, by omega⟩
  obtain ⟨⟨K, O, S, L, P⟩, hc⟩ : ∃ c, l[j]? = some c := ⟨_, List.getElem?_eq_getElem (by omega)⟩
  obtain ⟨a, rfl, hab, x0, x1, x2, x3, x4⟩ := ((ha.below (L5.below_alloc w (.cells #[.int .i64 F, .int .i64 R, .string H, .slice A l.length ca] 24))).load hc)
  refine ⟨decide (K.data.toList < H.data.toList), ?_, ?_⟩
  · refine ⟨fun h => ⟨fun h => absurd h h0, fun _ => ⟨h1, by omega, fun x hx => ?_⟩⟩, fun h => decide_eq_true ?_⟩
    · rw [hj, Nat.add_sub_cancel, hc] at hx
      obtain rfl := Option.some.inj hx
      exact of_decide_eq_true h
    · exact (h.2 h0).2.2 _ (by rw [hj, Nat.add_sub_cancel]; exact hc)
  · have hz := L5.less_of K H
    generalize decide (L5.B K < L5.B H) = q at *
    rw [hj]
    rw [hj] at hl x0 x1 x2 x3 x4
    have d3 : decide ((j : Int) < 0) = false := decide_eq_false (by omega)
    clear ha hc hab hj h3
    go_enter Tryz.func46, Tryz.ntmps46
    go_wp2_with fail
    go_quiet (fail)
    go_wp2_with fail
    go_ret
    exact ⟨rfl, L5.below_drewN (L5.below_alloc _ _) _⟩
end Go.Proofs.YtpehkikdmckldaaGreatDoor

namespace Go.Proofs.YtpehkikdmckldaaGreatDoor
open Go.RowKit NP
set_option linter.unusedVariables false

/-- An item. -/
abbrev iv (K : ByteArray) (O : Bool) (S : ByteArray) (L P : Int) : Value := .agg #[.string K, .bool O, .string S, .int .i64 L, .int .i64 P]
/-- Its box. -/
def IBx (t : TypeId) (g : Nat) (K : ByteArray) (O : Bool) (S : ByteArray) (L P : Int) (w : World) : Prop := w.heap[g]? = some (.cells #[.string K, .bool O, .string S, .int .i64 L, .int .i64 P] t (0, 0))
section
variable {t : TypeId} {g : Nat} {K : ByteArray} {O : Bool} {S : ByteArray} {L P : Int} {w w' : World}
theorem IBx.cells (k : IBx t g K O S L P w) : w.cell? ⟨g, 0, none⟩ = some (.string K) ∧ w.cell? ⟨g, 1, none⟩ = some (.bool O) ∧ w.cell? ⟨g, 2, none⟩ = some (.string S) ∧ w.cell? ⟨g, 3, none⟩ = some (.int .i64 L) ∧ w.cell? ⟨g, 4, none⟩ = some (.int .i64 P) := by
  unfold IBx at k
  refine ⟨?_, ?_, ?_, ?_, ?_⟩ <;> simp [World.cell?, k]
theorem IBx.free (k : IBx t g K O S L P w) : w.frozen? ⟨g, 0, none⟩ = false ∧ w.frozen? ⟨g, 1, none⟩ = false ∧ w.frozen? ⟨g, 2, none⟩ = false ∧ w.frozen? ⟨g, 3, none⟩ = false ∧ w.frozen? ⟨g, 4, none⟩ = false := by
  unfold IBx at k
  refine ⟨?_, ?_, ?_, ?_, ?_⟩ <;> simp [World.frozen?, k]
theorem IBx.lt (k : IBx t g K O S L P w) : g < w.heap.size := (Array.getElem?_eq_some_iff.1 k).1
theorem IBx.below (k : IBx t g K O S L P w) (b : Below w.heap.size w w') : IBx t g K O S L P w' := (b.block g k.lt).trans k
theorem IBx.on {c : Nat} (k : IBx t g K O S L P w) (b : Below c w w') (hg : g < c) : IBx t g K O S L P w' := (b.block g hg).trans k
/-- What a region holds of it. -/
def HasI (t : TypeId) (g : Nat) (K : ByteArray) (O : Bool) (S : ByteArray) (L P : Int) (w : World) : Prop := Hid (IBx t g K O S L P w) ∧ w.cell? ⟨g, 0, none⟩ = some (.string K) ∧ w.cell? ⟨g, 1, none⟩ = some (.bool O) ∧ w.cell? ⟨g, 2, none⟩ = some (.string S) ∧ w.cell? ⟨g, 3, none⟩ = some (.int .i64 L) ∧ w.cell? ⟨g, 4, none⟩ = some (.int .i64 P)
theorem hasI (k : IBx t g K O S L P w) : HasI t g K O S L P w := ⟨Lib.hid k, k.cells⟩
theorem HasI.below (k : HasI t g K O S L P w) (b : Below w.heap.size w w') : HasI t g K O S L P w' := hasI (k.1.out.below b)
end
theorem IBx.new (t : TypeId) (K : ByteArray) (O : Bool) (S : ByteArray) (L P : Int) (w : World) : IBx t w.heap.size K O S L P (w.alloc (.cells #[.string K, .bool O, .string S, .int .i64 L, .int .i64 P] t)) := heap_alloc_new _ _
/-- An item is stored into its box. -/
def setI (w : World) (g : Nat) (K : ByteArray) (O : Bool) (S : ByteArray) (L P : Int) : World := ((((w.setCell ⟨g, 0, none⟩ (.string K)).setCell ⟨g, 1, none⟩ (.bool O)).setCell ⟨g, 2, none⟩ (.string S)).setCell ⟨g, 3, none⟩ (.int .i64 L)).setCell ⟨g, 4, none⟩ (.int .i64 P)
theorem setI_box {t : TypeId} {w : World} {g : Nat} {K : ByteArray} {O : Bool} {S : ByteArray} {L P : Int} (k : IBx t g K O S L P w) (K' : ByteArray) (O' : Bool) (S' : ByteArray) (L' P' : Int) : IBx t g K' O' S' L' P' (setI w g K' O' S' L' P') := by
  unfold IBx at *
  unfold setI
  have h0 := heap_setCell_same w g 0 _ _ (.string K') k
  have h1 := heap_setCell_same _ g 1 _ _ (.bool O') h0
  have h2 := heap_setCell_same _ g 2 _ _ (.string S') h1
  have h3 := heap_setCell_same _ g 3 _ _ (.int .i64 L') h2
  have h4 := heap_setCell_same _ g 4 _ _ (.int .i64 P') h3
  exact h4
theorem setI_other {w : World} {g q : Nat} (h : q ≠ g) (K : ByteArray) (O : Bool) (S : ByteArray) (L P : Int) : (setI w g K O S L P).heap[q]? = w.heap[q]? := by
  unfold setI
  have hh : ∀ (W : World) (o : Nat) (v : Value), (W.setCell ⟨g, o, none⟩ v).heap[q]? = W.heap[q]? := fun W o v => Below.heap_setCell W ⟨g, o, none⟩ v q (fun e' => h (by first | exact e' | exact e'.symm))
  rw [hh, hh, hh, hh, hh]
theorem setI_size (w : World) (g : Nat) (K : ByteArray) (O : Bool) (S : ByteArray) (L P : Int) : (setI w g K O S L P).heap.size = w.heap.size := by
  unfold setI
  simp
theorem setI_below {w W : World} {c g : Nat} (h : Below c w W) (hg : c ≤ g) (K : ByteArray) (O : Bool) (S : ByteArray) (L P : Int) : Below c w (setI W g K O S L P) :=
  ((((h.setCell (p := ⟨g, 0, none⟩) hg _).setCell (p := ⟨g, 1, none⟩) hg _).setCell (p := ⟨g, 2, none⟩) hg _).setCell (p := ⟨g, 3, none⟩) hg _).setCell (p := ⟨g, 4, none⟩) hg _
/-- The world in which a leaf has been boxed. -/
abbrev lbox (t : TypeId) (F R : Int) (H : ByteArray) (A : Option Addr) (n cap : Nat) (w : World) : World := w.alloc (.cells #[.int .i64 F, .int .i64 R, .string H, .slice A n cap] t)
theorem lbox_size (t : TypeId) (F R : Int) (H : ByteArray) (A : Option Addr) (n cap : Nat) (w : World) : (lbox t F R H A n cap w).heap.size = w.heap.size + 1 := by simp [lbox]
theorem lbox_below (t : TypeId) (F R : Int) (H : ByteArray) (A : Option Addr) (n cap : Nat) (w : World) : Below w.heap.size w (lbox t F R H A n cap w) := L5.below_alloc _ _
theorem lbox_new (t : TypeId) (F R : Int) (H : ByteArray) (A : Option Addr) (n cap : Nat) (w : World) : LBx t w.heap.size F R H A n cap (lbox t F R H A n cap w) := heap_alloc_new _ _
end Go.Proofs.YtpehkikdmckldaaGreatDoor
