import Derived.Test.YtpeghilfldpgfaaGreatDoorT05
set_option linter.unusedVariables false
set_option linter.unusedSimpArgs false
set_option maxHeartbeats 8000000
set_option maxRecDepth 100000
namespace Go.Proofs.YtpeghilfldpgfaaGreatDoor.L9
open Go.RowKit
def gotV : Option (List UInt8 × VP.V) → Value
 | none => .tuple #[.string ⟨#[]⟩, vv false ⟨#[]⟩ 0 0, .int .i64 3]
 | some x => .tuple #[.string ⟨x.1.toArray⟩, vv x.2.over ⟨x.2.s.toArray⟩ x.2.len x.2.page, .int .i64 0]
theorem gtext_some {l t : List UInt8} {i k : Nat} (h : VP.gtext l i = some (t, k)) : k ≤ l.length ∧ t.length ≤ l.length := by
 unfold VP.gtext at h; simp only at h
 split at h
 ·rename_i h1
  simp only [Option.some.injEq, Prod.mk.injEq] at h; obtain ⟨rfl, rfl⟩ := h; have hsp := WP.get_spec l i; refine ⟨?_, by simp; omega⟩; rcases hsp with e | e | ⟨n, tu, e, h2, h3, _⟩
  ·rw [e] at h1; simp at h1
  ·rw [e] at h1; simp at h1
  ·rw [e] at h1 ⊢
   simp only at h1 ⊢; omega
 ·simp at h
theorem getV_of {l t : List UInt8} {v : VP.V} (h : VP.parseV l = some (t, v)) : VP.getV l = if VP.OkV t v ∧ VP.cellV t v = l then some (t, v) else none := by unfold VP.getV; rw [h]
theorem getV_of_none {l : List UInt8} (h : VP.parseV l = none) : VP.getV l = none := by unfold VP.getV; rw [h]
theorem listS (l : List UInt8) : ∃ T : ByteArray, l = T.data.toList := ⟨⟨l.toArray⟩, by simp⟩
theorem rgetv_any (s : ByteArray) (w : World) (hs : s.size ≤ 1000000) :
  Calls Tryz.prog 78 #[.string s] w fun e w' => e = .returned (gotV (VP.getV s.data.toList)) ∧ Below w.heap.size w w' := by
 obtain ⟨R, hR⟩ : ∃ R, gotV (VP.getV s.data.toList) = R := ⟨_, rfl⟩; rw [hR]; have HR := zj hR; clear hR
 have hts : s.data.toList.length = s.size := by simp
 have HT0 := zj (rtext_any s 0 (w.alloc (.cells #[.bool false, .string ⟨#[]⟩, .int .i64 0, .int .i64 0] 143)) (by omega) hs); have hb0 := below_alloc w (.cells #[.bool false, .string ⟨#[]⟩, .int .i64 0, .int .i64 0] 143); have HK0 := zj (Bx.new 143 false ⟨#[]⟩ 0 0 w)
 cases hg : VP.gtext s.data.toList 0 with
 | none =>
  have hv : VP.getV s.data.toList = none := getV_of_none (by unfold VP.parseV; rw [hg]); have HE := zj (show R = .tuple #[.string ⟨#[]⟩, vv false ⟨#[]⟩ 0 0, .int .i64 3] from by rw [← HR.out, hv]; rfl); rw [hg] at HT0; simp only [gotT] at HT0; clear hv hg hts; go_enter Tryz.func78, Tryz.ntmps78; go_wp2_with fail; refine HT0.out.mono ?_; rintro e w1 ⟨rfl, hb1⟩; have K1 := zj (HK0.out.below hb1); have HBW := zj (hb0.trans' hb1); obtain ⟨c0, c1, c2, c3⟩ := K1.out.cells; obtain ⟨f0, f1, f2, f3⟩ := K1.out.free; clear HK0 hb0 hb1; go_wp2_with fail; obtain ⟨r0, r1, r2, r3⟩ := (set4_box K1.out false ⟨#[]⟩ 0 0).cells; unfold set4 at r0 r1 r2 r3; refine bodyPost_ret (v := .tuple #[.string ⟨#[]⟩, vv false ⟨#[]⟩ 0 0, .int .i64 3]) (by simp [results, Tryz.results78, go_sem, r0, r1, r2, r3]) rfl ⟨by rw [HE.out], ?_⟩; exact set4_below HBW.out (Nat.le_refl _) false ⟨#[]⟩ 0 0
 | some x =>
  obtain ⟨t, i⟩ := x; obtain ⟨hi, htl⟩ := gtext_some hg; rw [hts] at hi htl; obtain ⟨T, rfl⟩ := listS t
  have hTs : T.size ≤ s.size := by simpa using htl
  rw [hg] at HT0; simp only [gotT] at HT0; have hTe : (⟨T.data.toList.toArray⟩ : ByteArray) = T := ByteArray.ext (by simp); rw [hTe] at HT0; by_cases hend : i = s.size
  ·have hv : VP.getV s.data.toList = none := getV_of_none (by
    unfold VP.parseV; simp only [hg]
    rw [List.drop_eq_nil_of_le (by omega)])
   have HE := zj (show R = .tuple #[.string ⟨#[]⟩, vv false ⟨#[]⟩ 0 0, .int .i64 3] from by rw [← HR.out, hv]; rfl)
   have q1 : ((i : Int) == (s.size : Int)) = true := by rw [hend]; exact beq_self_eq_true _
   have d1 : decide ((i : Int) < 0) = false := dF (by omega); clear hv hg hts hTe hend htl; go_enter Tryz.func78, Tryz.ntmps78; go_wp2_with fail; refine HT0.out.mono ?_; rintro e w1 ⟨rfl, hb1⟩; have K1 := zj (HK0.out.below hb1); have HBW := zj (hb0.trans' hb1); obtain ⟨c0, c1, c2, c3⟩ := K1.out.cells; obtain ⟨f0, f1, f2, f3⟩ := K1.out.free; clear HK0 hb0 hb1; go_wp2_with fail; obtain ⟨r0, r1, r2, r3⟩ := (set4_box K1.out false ⟨#[]⟩ 0 0).cells; unfold set4 at r0 r1 r2 r3; refine bodyPost_ret (v := .tuple #[.string ⟨#[]⟩, vv false ⟨#[]⟩ 0 0, .int .i64 3]) (by simp [results, Tryz.results78, go_sem, r0, r1, r2, r3]) rfl ⟨by rw [HE.out], ?_⟩; exact set4_below HBW.out (Nat.le_refl _) false ⟨#[]⟩ 0 0
  ·have hlt0 : i < s.size := by omega
   have hdr := WP.drop_cons s i hlt0; have q1 : ((i : Int) == (s.size : Int)) = false := beq_eq_false_iff_ne.2 (by omega); have d1 : decide ((i : Int) < 0) = false := dF (by omega); have q4 : IntKind.i64.wrap ((i : Int) + 1) = (i : Int) + 1 := IntWalk.i64_in _ (by omega)
   have q5 : ((i + 1 : Nat) : Int) = (i : Int) + 1 := by omega
   have j1 : (0 : Int) ≤ i := by omega
   have j2 : (i : Int) < s.size := by omega
   by_cases hc1 : s[i] = 1
   ·have q6 : (((s[i].toNat : Nat) : Int) == 1) = true := by rw [hc1]; rfl
    have q6' : ((s[i].toNat : Nat) : Int) = 1 := by rw [hc1]; rfl
    have HG := zj (fun W => rget_any s ((i + 1 : Nat) : Int) W (by omega) (by omega) hs); simp only [Int.toNat_natCast] at HG; obtain ⟨n, tu, er, hge⟩ : ∃ n tu er, WP.get s.data.toList (i + 1) = (n, tu, er) := ⟨_, _, _, rfl⟩; have hsp := WP.get_spec s.data.toList (i + 1); rw [hge] at HG hsp; simp only at HG; rw [q5] at HG
    have hto : tu ≤ s.size ∧ n ≤ 18446744073709551615 := by
     rcases hsp with e | e | ⟨n', to', e, h2, h3, _, h5⟩
     ·simp only [Prod.mk.injEq] at e; omega
     ·simp only [Prod.mk.injEq] at e; omega
     ·simp only [Prod.mk.injEq] at e; omega
    have hpar : VP.parseV s.data.toList = if er = 0 ∧ tu + 4 ≤ s.size ∧ n ≤ 4096 ∧ Lib.leNat ((s.data.toList.drop tu).take 4) ≤ 4095 then some (T.data.toList, ⟨true, [], n, Lib.leNat ((s.data.toList.drop tu).take 4)⟩) else none := by
     unfold VP.parseV; simp only [hg, hdr, hc1, hge, if_true, hts]
    have hle4 := WP.leNat_four (s.data.toList.drop tu); obtain ⟨pg, hpg⟩ : ∃ p, Lib.leNat ((s.data.toList.drop tu).take 4) = p := ⟨_, rfl⟩; by_cases hrd : tu + 4 ≤ s.size
    ·have HRD := zj (fun W => rread_any s (tu : Int) W (by omega) (by omega) (by unfold maxLen; omega))
     simp only [Int.toNat_natCast] at HRD; rw [hpg] at HRD hpar hle4; by_cases hgood : er = 0 ∧ n ≤ 4096 ∧ pg ≤ 4095
     ·have hparse : VP.parseV s.data.toList = some (T.data.toList, pv true ⟨#[]⟩ n pg) := by rw [hpar, if_pos ⟨hgood.1, hrd, hgood.2.1, hgood.2.2⟩]
      obtain ⟨rfl, hn4, hp4⟩ := hgood; have d2 : decide ((4096 : Int) < n) = false := dF (by omega); have d3 : decide ((4095 : Int) < pg) = false := dF (by omega); have d2' : decide (4096 < n) = false := dF (by omega); have d3' : decide (4095 < pg) = false := dF (by omega); have q7 : IntKind.i64.wrap (n : Int) = n := IntWalk.i64_in _ (by omega); have q8 : IntKind.i64.wrap (pg : Int) = pg := IntWalk.i64_in _ (by omega)
      have hS6 : (⟨#[]⟩ : ByteArray).size ≤ 1000000 := by decide
      clear hpar hpg hge hsp hg hts hTe hend htl hdr hle4 hto hrd; go_enter Tryz.func78, Tryz.ntmps78; go_wp2_with fail; refine HT0.out.mono ?_; rintro e w1 ⟨rfl, hb1⟩; have KZ := HK0.out.below hb1; have hbA := below_alloc w1 (.cells #[.bool false, .string ⟨#[]⟩, .int .i64 0, .int .i64 0] 143); have KA := Bx.new 143 false ⟨#[]⟩ 0 0 w1; have KZA := KZ.below hbA; have hbZ := hb0.trans' (hb1.trans' hbA); have hlt : w.heap.size < w1.heap.size := KZ.lt; obtain ⟨g, hgq⟩ : ∃ g, w1.heap.size = g := ⟨_, rfl⟩; have KB := zj KA; have KZB := zj KZA; have HBB := zj hbZ; rw [hgq] at KB; obtain ⟨a0, a1, a2, a3⟩ := KA.cells; obtain ⟨b0, b1, b2, b3⟩ := KA.free
      have hgw : w.heap.size ≤ g := by omega
      have hgne : w.heap.size ≠ g := by omega
      clear KZ KA KZA hbA hbZ HT0 HK0 hb0 hb1 hlt; go_wp2_with fail; refine (HG.out _).mono ?_; rintro e w3 ⟨rfl, hb3⟩; have L1 := KB.out.below hb3; have L0 := KZB.out.below hb3; have hbL := HBB.out.trans' hb3; clear a0 a1 a2 a3 b0 b1 b2 b3 hgq KB KZB HBB hb3; go_wp2_with fail; refine (HRD.out _).mono ?_; rintro e w4 ⟨rfl, rfl⟩; obtain ⟨a0, a1, a2, a3⟩ := L1.cells; obtain ⟨b0, b1, b2, b3⟩ := L1.free; have K1 := set4_box L1 true ⟨#[]⟩ n pg; have K0 : Bx 143 w.heap.size false ⟨#[]⟩ 0 0 (set4 w3 g true ⟨#[]⟩ n pg) := (set4_other hgne true ⟨#[]⟩ n pg).trans L0; have hbW := set4_below hbL hgw true ⟨#[]⟩ n pg; obtain ⟨W, hW⟩ : ∃ W, set4 w3 g true ⟨#[]⟩ n pg = W := ⟨_, rfl⟩; rw [hW] at K1 K0 hbW; unfold set4 at hW; clear HG HRD L1 L0 hbL; have HPV := zj (rputv_any T true ⟨#[]⟩ n pg W (by omega) hS6); obtain ⟨k0, k1, k2, k3⟩ := K1.cells; by_cases hOk : VP.OkV T.data.toList (pv true ⟨#[]⟩ n pg)
      ·have e1 : putVV T (pv true ⟨#[]⟩ n pg) = .tuple #[.string (cellS T (pv true ⟨#[]⟩ n pg)), .int .i64 0] := if_pos hOk
       rw [e1] at HPV; by_cases hcs : cellS T (pv true ⟨#[]⟩ n pg) = s
       ·have hv : VP.getV s.data.toList = some (T.data.toList, pv true ⟨#[]⟩ n pg) := by
         rw [getV_of hparse, if_pos ⟨hOk, by rw [← hcs]; rfl⟩]
        have HE := zj (show R = .tuple #[.string T, vv true ⟨#[]⟩ n pg, .int .i64 0] from by rw [← HR.out, hv]; simp [gotV]); rw [hcs] at HPV; have q2 : (s.toList == s.toList) = true := beq_self_eq_true _
        have q3 : (s.toList != s.toList) = false := by simp
        clear hv hcs e1 hOk hparse hS6; go_wp2_with fail; refine HPV.out.mono ?_; rintro e w6 ⟨rfl, hb6⟩; have J1 := zj (K1.below hb6); have J0 := zj (K0.below hb6); have HBW := zj (hbW.trans' hb6); clear K1 K0 hbW hb6 k0 k1 k2 k3 HPV; obtain ⟨k0, k1, k2, k3⟩ := J1.out.cells; obtain ⟨c0, c1, c2, c3⟩ := J0.out.cells; obtain ⟨f0, f1, f2, f3⟩ := J0.out.free; go_wp2_with fail
        go_region
        all_goals
         go_wp2_with fail; obtain ⟨r0, r1, r2, r3⟩ := (set4_box J0.out true ⟨#[]⟩ n pg).cells; unfold set4 at r0 r1 r2 r3; refine bodyPost_ret (v := .tuple #[.string T, vv true ⟨#[]⟩ n pg, .int .i64 0]) (by simp [results, Tryz.results78, go_sem, r0, r1, r2, r3]) rfl ⟨by rw [HE.out], ?_⟩
         first | exact set4_below HBW.out (Nat.le_refl _) true ⟨#[]⟩ n pg | exact (set4_below HBW.out (Nat.le_refl _) true ⟨#[]⟩ n pg).drew
       ·have hv : VP.getV s.data.toList = none := by
         rw [getV_of hparse, if_neg]; rintro ⟨_, h⟩; exact hcs (ByteArray.ext (Array.toList_inj.1 h))
        have HE := zj (show R = .tuple #[.string ⟨#[]⟩, vv false ⟨#[]⟩ 0 0, .int .i64 3] from by rw [← HR.out, hv]; rfl); obtain ⟨C, hC⟩ : ∃ C, cellS T (pv true ⟨#[]⟩ n pg) = C := ⟨_, rfl⟩; rw [hC] at HPV hcs
        have q2 : (C.toList == s.toList) = false := by
         rw [Lib.toList_data, Lib.toList_data]; exact beq_eq_false_iff_ne.2 fun e => hcs (ByteArray.ext (Array.toList_inj.1 e))
        have q3 : (C.toList != s.toList) = true := by rw [bne, q2]; rfl
        clear hv hcs e1 hOk hparse hC hS6; go_wp2_with fail; refine HPV.out.mono ?_; rintro e w6 ⟨rfl, hb6⟩; have J0 := zj (K0.below hb6); have HBW := zj (hbW.trans' hb6); clear K1 K0 hbW hb6 k0 k1 k2 k3 HPV; obtain ⟨c0, c1, c2, c3⟩ := J0.out.cells; obtain ⟨f0, f1, f2, f3⟩ := J0.out.free; go_wp2_with fail; obtain ⟨r0, r1, r2, r3⟩ := (set4_box J0.out false ⟨#[]⟩ 0 0).cells; unfold set4 at r0 r1 r2 r3; refine bodyPost_ret (v := .tuple #[.string ⟨#[]⟩, vv false ⟨#[]⟩ 0 0, .int .i64 3]) (by simp [results, Tryz.results78, go_sem, r0, r1, r2, r3]) rfl ⟨by rw [HE.out], ?_⟩; exact set4_below HBW.out (Nat.le_refl _) false ⟨#[]⟩ 0 0
      ·have e1 : putVV T (pv true ⟨#[]⟩ n pg) = .tuple #[.string ⟨#[]⟩, .int .i64 3] := if_neg hOk
       rw [e1] at HPV
       have hv : VP.getV s.data.toList = none := by
        rw [getV_of hparse, if_neg fun h => hOk h.1]
       have HE := zj (show R = .tuple #[.string ⟨#[]⟩, vv false ⟨#[]⟩ 0 0, .int .i64 3] from by rw [← HR.out, hv]; rfl); clear hv e1 hOk hparse hS6; go_wp2_with fail; refine HPV.out.mono ?_; rintro e w6 ⟨rfl, hb6⟩; have J0 := zj (K0.below hb6); have HBW := zj (hbW.trans' hb6); clear K1 K0 hbW hb6 k0 k1 k2 k3 HPV; obtain ⟨c0, c1, c2, c3⟩ := J0.out.cells; obtain ⟨f0, f1, f2, f3⟩ := J0.out.free; go_wp2_with fail; obtain ⟨r0, r1, r2, r3⟩ := (set4_box J0.out false ⟨#[]⟩ 0 0).cells; unfold set4 at r0 r1 r2 r3; refine bodyPost_ret (v := .tuple #[.string ⟨#[]⟩, vv false ⟨#[]⟩ 0 0, .int .i64 3]) (by simp [results, Tryz.results78, go_sem, r0, r1, r2, r3]) rfl ⟨by rw [HE.out], ?_⟩; exact set4_below HBW.out (Nat.le_refl _) false ⟨#[]⟩ 0 0
     ·have hv : VP.getV s.data.toList = none := getV_of_none (by rw [hpar, if_neg fun h => hgood ⟨h.1, h.2.2.1, h.2.2.2⟩])
      have HE := zj (show R = .tuple #[.string ⟨#[]⟩, vv false ⟨#[]⟩ 0 0, .int .i64 3] from by rw [← HR.out, hv]; rfl); clear hv hpar hpg hge hsp hg hts hTe hend htl hdr hle4 hto hrd; rcases (show er ≠ 0 ∨ (er = 0 ∧ 4096 < n) ∨ (er = 0 ∧ n ≤ 4096 ∧ 4095 < pg) by omega) with h | h | h
      ·have q7 : ((er : Int) == 0) = false := beq_eq_false_iff_ne.2 (by omega)
       have q8 : ((er : Int) != 0) = true := by rw [bne, q7]; rfl
       clear hgood; go_enter Tryz.func78, Tryz.ntmps78; go_wp2_with fail; refine HT0.out.mono ?_; rintro e w1 ⟨rfl, hb1⟩; have KZ := HK0.out.below hb1; have hbA := below_alloc w1 (.cells #[.bool false, .string ⟨#[]⟩, .int .i64 0, .int .i64 0] 143); have KA := Bx.new 143 false ⟨#[]⟩ 0 0 w1; have KZA := KZ.below hbA; have hbZ := hb0.trans' (hb1.trans' hbA); have hlt : w.heap.size < w1.heap.size := KZ.lt; obtain ⟨g, hgq⟩ : ∃ g, w1.heap.size = g := ⟨_, rfl⟩; have KB := zj KA; have KZB := zj KZA; have HBB := zj hbZ; rw [hgq] at KB; obtain ⟨a0, a1, a2, a3⟩ := KA.cells; obtain ⟨b0, b1, b2, b3⟩ := KA.free
       have hgw : w.heap.size ≤ g := by omega
       have hgne : w.heap.size ≠ g := by omega
       clear KZ KA KZA hbA hbZ HT0 HK0 hb0 hb1 hlt; go_wp2_with fail; refine (HG.out _).mono ?_; rintro e w3 ⟨rfl, hb3⟩; have L0 := zj (KZB.out.below hb3); have HBW := zj (HBB.out.trans' hb3); clear a0 a1 a2 a3 b0 b1 b2 b3 hgq KB KZB HBB hb3; go_wp2_with fail; refine (HRD.out _).mono ?_; rintro e w4 ⟨rfl, rfl⟩; obtain ⟨c0, c1, c2, c3⟩ := L0.out.cells; obtain ⟨f0, f1, f2, f3⟩ := L0.out.free; clear HG HRD; go_wp2_with fail; obtain ⟨r0, r1, r2, r3⟩ := (set4_box L0.out false ⟨#[]⟩ 0 0).cells; unfold set4 at r0 r1 r2 r3; refine bodyPost_ret (v := .tuple #[.string ⟨#[]⟩, vv false ⟨#[]⟩ 0 0, .int .i64 3]) (by simp [results, Tryz.results78, go_sem, r0, r1, r2, r3]) rfl ⟨by rw [HE.out], ?_⟩; exact set4_below HBW.out (Nat.le_refl _) false ⟨#[]⟩ 0 0
      ·obtain ⟨rfl, h2⟩ := h
       have d2 : decide ((4096 : Int) < n) = true := dT (by omega); have d3 : decide (4096 < n) = true := dT h2; clear hgood; go_enter Tryz.func78, Tryz.ntmps78; go_wp2_with fail; refine HT0.out.mono ?_; rintro e w1 ⟨rfl, hb1⟩; have KZ := HK0.out.below hb1; have hbA := below_alloc w1 (.cells #[.bool false, .string ⟨#[]⟩, .int .i64 0, .int .i64 0] 143); have KA := Bx.new 143 false ⟨#[]⟩ 0 0 w1; have KZA := KZ.below hbA; have hbZ := hb0.trans' (hb1.trans' hbA); have hlt : w.heap.size < w1.heap.size := KZ.lt; obtain ⟨g, hgq⟩ : ∃ g, w1.heap.size = g := ⟨_, rfl⟩; have KB := zj KA; have KZB := zj KZA; have HBB := zj hbZ; rw [hgq] at KB; obtain ⟨a0, a1, a2, a3⟩ := KA.cells; obtain ⟨b0, b1, b2, b3⟩ := KA.free
       have hgw : w.heap.size ≤ g := by omega
       have hgne : w.heap.size ≠ g := by omega
       clear KZ KA KZA hbA hbZ HT0 HK0 hb0 hb1 hlt; go_wp2_with fail; refine (HG.out _).mono ?_; rintro e w3 ⟨rfl, hb3⟩; have L0 := zj (KZB.out.below hb3); have HBW := zj (HBB.out.trans' hb3); clear a0 a1 a2 a3 b0 b1 b2 b3 hgq KB KZB HBB hb3; go_wp2_with fail; refine (HRD.out _).mono ?_; rintro e w4 ⟨rfl, rfl⟩; obtain ⟨c0, c1, c2, c3⟩ := L0.out.cells; obtain ⟨f0, f1, f2, f3⟩ := L0.out.free; clear HG HRD; go_wp2_with fail; obtain ⟨r0, r1, r2, r3⟩ := (set4_box L0.out false ⟨#[]⟩ 0 0).cells; unfold set4 at r0 r1 r2 r3; refine bodyPost_ret (v := .tuple #[.string ⟨#[]⟩, vv false ⟨#[]⟩ 0 0, .int .i64 3]) (by simp [results, Tryz.results78, go_sem, r0, r1, r2, r3]) rfl ⟨by rw [HE.out], ?_⟩; exact set4_below HBW.out (Nat.le_refl _) false ⟨#[]⟩ 0 0
      ·obtain ⟨rfl, h2, h3⟩ := h
       have d2 : decide ((4096 : Int) < n) = false := dF (by omega); have d3 : decide (4096 < n) = false := dF (by omega); have d4 : decide ((4095 : Int) < pg) = true := dT (by omega); have d5 : decide (4095 < pg) = true := dT h3; clear hgood; go_enter Tryz.func78, Tryz.ntmps78; go_wp2_with fail; refine HT0.out.mono ?_; rintro e w1 ⟨rfl, hb1⟩; have KZ := HK0.out.below hb1; have hbA := below_alloc w1 (.cells #[.bool false, .string ⟨#[]⟩, .int .i64 0, .int .i64 0] 143); have KA := Bx.new 143 false ⟨#[]⟩ 0 0 w1; have KZA := KZ.below hbA; have hbZ := hb0.trans' (hb1.trans' hbA); have hlt : w.heap.size < w1.heap.size := KZ.lt; obtain ⟨g, hgq⟩ : ∃ g, w1.heap.size = g := ⟨_, rfl⟩; have KB := zj KA; have KZB := zj KZA; have HBB := zj hbZ; rw [hgq] at KB; obtain ⟨a0, a1, a2, a3⟩ := KA.cells; obtain ⟨b0, b1, b2, b3⟩ := KA.free
       have hgw : w.heap.size ≤ g := by omega
       have hgne : w.heap.size ≠ g := by omega
       clear KZ KA KZA hbA hbZ HT0 HK0 hb0 hb1 hlt; go_wp2_with fail; refine (HG.out _).mono ?_; rintro e w3 ⟨rfl, hb3⟩; have L0 := zj (KZB.out.below hb3); have HBW := zj (HBB.out.trans' hb3); clear a0 a1 a2 a3 b0 b1 b2 b3 hgq KB KZB HBB hb3; go_wp2_with fail; refine (HRD.out _).mono ?_; rintro e w4 ⟨rfl, rfl⟩; obtain ⟨c0, c1, c2, c3⟩ := L0.out.cells; obtain ⟨f0, f1, f2, f3⟩ := L0.out.free; clear HG HRD; go_wp2_with fail; obtain ⟨r0, r1, r2, r3⟩ := (set4_box L0.out false ⟨#[]⟩ 0 0).cells; unfold set4 at r0 r1 r2 r3; refine bodyPost_ret (v := .tuple #[.string ⟨#[]⟩, vv false ⟨#[]⟩ 0 0, .int .i64 3]) (by simp [results, Tryz.results78, go_sem, r0, r1, r2, r3]) rfl ⟨by rw [HE.out], ?_⟩; exact set4_below HBW.out (Nat.le_refl _) false ⟨#[]⟩ 0 0
    ·have HRD := zj (fun W => rread_short s (tu : Int) W (by omega) (by omega) (by omega) hs)
     have hv : VP.getV s.data.toList = none := getV_of_none (by rw [hpar, if_neg fun h => hrd h.2.1]); have HE := zj (show R = .tuple #[.string ⟨#[]⟩, vv false ⟨#[]⟩ 0 0, .int .i64 3] from by rw [← HR.out, hv]; rfl); clear hv hpar hpg hge hsp hg hts hTe hend htl hdr hle4 hto hrd; by_cases h : er = 0
     ·subst h
      go_enter Tryz.func78, Tryz.ntmps78; go_wp2_with fail; refine HT0.out.mono ?_; rintro e w1 ⟨rfl, hb1⟩; have KZ := HK0.out.below hb1; have hbA := below_alloc w1 (.cells #[.bool false, .string ⟨#[]⟩, .int .i64 0, .int .i64 0] 143); have KA := Bx.new 143 false ⟨#[]⟩ 0 0 w1; have KZA := KZ.below hbA; have hbZ := hb0.trans' (hb1.trans' hbA); have hlt : w.heap.size < w1.heap.size := KZ.lt; obtain ⟨g, hgq⟩ : ∃ g, w1.heap.size = g := ⟨_, rfl⟩; have KB := zj KA; have KZB := zj KZA; have HBB := zj hbZ; rw [hgq] at KB; obtain ⟨a0, a1, a2, a3⟩ := KA.cells; obtain ⟨b0, b1, b2, b3⟩ := KA.free
      have hgw : w.heap.size ≤ g := by omega
      have hgne : w.heap.size ≠ g := by omega
      clear KZ KA KZA hbA hbZ HT0 HK0 hb0 hb1 hlt; go_wp2_with fail; refine (HG.out _).mono ?_; rintro e w3 ⟨rfl, hb3⟩; have L0 := zj (KZB.out.below hb3); have HBW := zj (HBB.out.trans' hb3); clear a0 a1 a2 a3 b0 b1 b2 b3 hgq KB KZB HBB hb3; go_wp2_with fail; refine (HRD.out _).mono ?_; rintro e w4 ⟨rfl, rfl⟩; obtain ⟨c0, c1, c2, c3⟩ := L0.out.cells; obtain ⟨f0, f1, f2, f3⟩ := L0.out.free; clear HG HRD; go_wp2_with fail; obtain ⟨r0, r1, r2, r3⟩ := (set4_box L0.out false ⟨#[]⟩ 0 0).cells; unfold set4 at r0 r1 r2 r3; refine bodyPost_ret (v := .tuple #[.string ⟨#[]⟩, vv false ⟨#[]⟩ 0 0, .int .i64 3]) (by simp [results, Tryz.results78, go_sem, r0, r1, r2, r3]) rfl ⟨by rw [HE.out], ?_⟩; exact set4_below HBW.out (Nat.le_refl _) false ⟨#[]⟩ 0 0
     ·have q7 : ((er : Int) == 0) = false := beq_eq_false_iff_ne.2 (by omega)
      have q8 : ((er : Int) != 0) = true := by rw [bne, q7]; rfl
      go_enter Tryz.func78, Tryz.ntmps78; go_wp2_with fail; refine HT0.out.mono ?_; rintro e w1 ⟨rfl, hb1⟩; have KZ := HK0.out.below hb1; have hbA := below_alloc w1 (.cells #[.bool false, .string ⟨#[]⟩, .int .i64 0, .int .i64 0] 143); have KA := Bx.new 143 false ⟨#[]⟩ 0 0 w1; have KZA := KZ.below hbA; have hbZ := hb0.trans' (hb1.trans' hbA); have hlt : w.heap.size < w1.heap.size := KZ.lt; obtain ⟨g, hgq⟩ : ∃ g, w1.heap.size = g := ⟨_, rfl⟩; have KB := zj KA; have KZB := zj KZA; have HBB := zj hbZ; rw [hgq] at KB; obtain ⟨a0, a1, a2, a3⟩ := KA.cells; obtain ⟨b0, b1, b2, b3⟩ := KA.free
      have hgw : w.heap.size ≤ g := by omega
      have hgne : w.heap.size ≠ g := by omega
      clear KZ KA KZA hbA hbZ HT0 HK0 hb0 hb1 hlt; go_wp2_with fail; refine (HG.out _).mono ?_; rintro e w3 ⟨rfl, hb3⟩; have L0 := zj (KZB.out.below hb3); have HBW := zj (HBB.out.trans' hb3); clear a0 a1 a2 a3 b0 b1 b2 b3 hgq KB KZB HBB hb3; go_wp2_with fail; refine (HRD.out _).mono ?_; rintro e w4 ⟨rfl, rfl⟩; obtain ⟨c0, c1, c2, c3⟩ := L0.out.cells; obtain ⟨f0, f1, f2, f3⟩ := L0.out.free; clear HG HRD; go_wp2_with fail; obtain ⟨r0, r1, r2, r3⟩ := (set4_box L0.out false ⟨#[]⟩ 0 0).cells; unfold set4 at r0 r1 r2 r3; refine bodyPost_ret (v := .tuple #[.string ⟨#[]⟩, vv false ⟨#[]⟩ 0 0, .int .i64 3]) (by simp [results, Tryz.results78, go_sem, r0, r1, r2, r3]) rfl ⟨by rw [HE.out], ?_⟩; exact set4_below HBW.out (Nat.le_refl _) false ⟨#[]⟩ 0 0
   ·have hne : s[i].toNat ≠ 1 := fun h => hc1 (UInt8.toNat_inj.1 h)
    have q6 : (((s[i].toNat : Nat) : Int) == 1) = false := beq_eq_false_iff_ne.2 (by omega); have HT1 := zj (fun W => rtext_any s (i + 1) W (by omega) hs); rw [q5] at HT1
    cases hg1 : VP.gtext s.data.toList (i + 1) with
    | none =>
     have hv : VP.getV s.data.toList = none := getV_of_none (by
      unfold VP.parseV
      simp only [hg, hdr, if_neg hc1, hg1])
     have HE := zj (show R = .tuple #[.string ⟨#[]⟩, vv false ⟨#[]⟩ 0 0, .int .i64 3] from by rw [← HR.out, hv]; rfl); rw [hg1] at HT1; simp only [gotT] at HT1; clear hv hg hg1 hts hTe hend htl hdr hne hc1; go_enter Tryz.func78, Tryz.ntmps78; go_wp2_with fail; refine HT0.out.mono ?_; rintro e w1 ⟨rfl, hb1⟩; have KZ := HK0.out.below hb1; have hbA := below_alloc w1 (.cells #[.bool false, .string ⟨#[]⟩, .int .i64 0, .int .i64 0] 143); have KA := Bx.new 143 false ⟨#[]⟩ 0 0 w1; have KZA := KZ.below hbA; have hbZ := hb0.trans' (hb1.trans' hbA); have hlt : w.heap.size < w1.heap.size := KZ.lt; obtain ⟨g, hgq⟩ : ∃ g, w1.heap.size = g := ⟨_, rfl⟩; have KB := zj KA; have KZB := zj KZA; have HBB := zj hbZ; rw [hgq] at KB; obtain ⟨a0, a1, a2, a3⟩ := KA.cells; obtain ⟨b0, b1, b2, b3⟩ := KA.free
     have hgw : w.heap.size ≤ g := by omega
     have hgne : w.heap.size ≠ g := by omega
     clear KZ KA KZA hbA hbZ HT0 HK0 hb0 hb1 hlt; go_wp2_with fail; refine (HT1.out _).mono ?_; rintro e w3 ⟨rfl, hb3⟩; have L0 := zj (KZB.out.below hb3); have HBW := zj (HBB.out.trans' hb3); obtain ⟨c0, c1, c2, c3⟩ := L0.out.cells; obtain ⟨f0, f1, f2, f3⟩ := L0.out.free; clear a0 a1 a2 a3 b0 b1 b2 b3 hgq KB KZB HBB hb3 HT1; go_wp2_with fail; obtain ⟨r0, r1, r2, r3⟩ := (set4_box L0.out false ⟨#[]⟩ 0 0).cells; unfold set4 at r0 r1 r2 r3; refine bodyPost_ret (v := .tuple #[.string ⟨#[]⟩, vv false ⟨#[]⟩ 0 0, .int .i64 3]) (by simp [results, Tryz.results78, go_sem, r0, r1, r2, r3]) rfl ⟨by rw [HE.out], ?_⟩; exact set4_below HBW.out (Nat.le_refl _) false ⟨#[]⟩ 0 0
    | some x =>
     obtain ⟨u, k⟩ := x; obtain ⟨_, hul⟩ := gtext_some hg1; obtain ⟨U, rfl⟩ := listS u
     have hparse : VP.parseV s.data.toList = some (T.data.toList, pv false U 0 0) := by
      unfold VP.parseV; simp only [hg, hdr, if_neg hc1, hg1]
     have hS6 : U.size ≤ 1000000 := by
      rw [hts] at hul; simp only [Array.length_toList, ByteArray.size_data] at hul; omega
     have hUe : (⟨U.data.toList.toArray⟩ : ByteArray) = U := ByteArray.ext (by simp); rw [hg1] at HT1; simp only [gotT] at HT1; rw [hUe] at HT1; have d2 : decide ((k : Int) < 0) = false := dF (by omega); clear hg hg1 hts hTe hUe hend htl hul hdr hne hc1; go_enter Tryz.func78, Tryz.ntmps78; go_wp2_with fail; refine HT0.out.mono ?_; rintro e w1 ⟨rfl, hb1⟩; have KZ := HK0.out.below hb1; have hbA := below_alloc w1 (.cells #[.bool false, .string ⟨#[]⟩, .int .i64 0, .int .i64 0] 143); have KA := Bx.new 143 false ⟨#[]⟩ 0 0 w1; have KZA := KZ.below hbA; have hbZ := hb0.trans' (hb1.trans' hbA); have hlt : w.heap.size < w1.heap.size := KZ.lt; obtain ⟨g, hgq⟩ : ∃ g, w1.heap.size = g := ⟨_, rfl⟩; have KB := zj KA; have KZB := zj KZA; have HBB := zj hbZ; rw [hgq] at KB; obtain ⟨a0, a1, a2, a3⟩ := KA.cells; obtain ⟨b0, b1, b2, b3⟩ := KA.free
     have hgw : w.heap.size ≤ g := by omega
     have hgne : w.heap.size ≠ g := by omega
     clear KZ KA KZA hbA hbZ HT0 HK0 hb0 hb1 hlt; go_wp2_with fail; refine (HT1.out _).mono ?_; rintro e w3 ⟨rfl, hb3⟩; have L1 := KB.out.below hb3; have L0 := KZB.out.below hb3; have hbL := HBB.out.trans' hb3; clear a0 a1 a2 a3 b0 b1 b2 b3 hgq KB KZB HBB hb3; obtain ⟨a0, a1, a2, a3⟩ := L1.cells; obtain ⟨b0, b1, b2, b3⟩ := L1.free; have K1 := set4_box L1 false U 0 0; have K0 : Bx 143 w.heap.size false ⟨#[]⟩ 0 0 (set4 w3 g false U 0 0) := (set4_other hgne false U 0 0).trans L0; have hbW := set4_below hbL hgw false U 0 0; obtain ⟨W, hW⟩ : ∃ W, set4 w3 g false U 0 0 = W := ⟨_, rfl⟩; rw [hW] at K1 K0 hbW; unfold set4 at hW; clear HT1 L1 L0 hbL; have HPV := zj (rputv_any T false U 0 0 W (by omega) hS6); obtain ⟨k0, k1, k2, k3⟩ := K1.cells; by_cases hOk : VP.OkV T.data.toList (pv false U 0 0)
     ·have e1 : putVV T (pv false U 0 0) = .tuple #[.string (cellS T (pv false U 0 0)), .int .i64 0] := if_pos hOk
      rw [e1] at HPV; by_cases hcs : cellS T (pv false U 0 0) = s
      ·have hv : VP.getV s.data.toList = some (T.data.toList, pv false U 0 0) := by
        rw [getV_of hparse, if_pos ⟨hOk, by rw [← hcs]; rfl⟩]
       have HE := zj (show R = .tuple #[.string T, vv false U 0 0, .int .i64 0] from by rw [← HR.out, hv]; simp [gotV]); rw [hcs] at HPV; have q2 : (s.toList == s.toList) = true := beq_self_eq_true _
       have q3 : (s.toList != s.toList) = false := by simp
       clear hv hcs e1 hOk hparse hS6; go_wp2_with fail; refine HPV.out.mono ?_; rintro e w6 ⟨rfl, hb6⟩; have J1 := zj (K1.below hb6); have J0 := zj (K0.below hb6); have HBW := zj (hbW.trans' hb6); clear K1 K0 hbW hb6 k0 k1 k2 k3 HPV; obtain ⟨k0, k1, k2, k3⟩ := J1.out.cells; obtain ⟨c0, c1, c2, c3⟩ := J0.out.cells; obtain ⟨f0, f1, f2, f3⟩ := J0.out.free; go_wp2_with fail
       go_region
       all_goals
        go_wp2_with fail; obtain ⟨r0, r1, r2, r3⟩ := (set4_box J0.out false U 0 0).cells; unfold set4 at r0 r1 r2 r3; refine bodyPost_ret (v := .tuple #[.string T, vv false U 0 0, .int .i64 0]) (by simp [results, Tryz.results78, go_sem, r0, r1, r2, r3]) rfl ⟨by rw [HE.out], ?_⟩
        first | exact set4_below HBW.out (Nat.le_refl _) false U 0 0 | exact (set4_below HBW.out (Nat.le_refl _) false U 0 0).drew
      ·have hv : VP.getV s.data.toList = none := by
        rw [getV_of hparse, if_neg]; rintro ⟨_, h⟩; exact hcs (ByteArray.ext (Array.toList_inj.1 h))
       have HE := zj (show R = .tuple #[.string ⟨#[]⟩, vv false ⟨#[]⟩ 0 0, .int .i64 3] from by rw [← HR.out, hv]; rfl); obtain ⟨C, hC⟩ : ∃ C, cellS T (pv false U 0 0) = C := ⟨_, rfl⟩; rw [hC] at HPV hcs
       have q2 : (C.toList == s.toList) = false := by
        rw [Lib.toList_data, Lib.toList_data]; exact beq_eq_false_iff_ne.2 fun e => hcs (ByteArray.ext (Array.toList_inj.1 e))
       have q3 : (C.toList != s.toList) = true := by rw [bne, q2]; rfl
       clear hv hcs e1 hOk hparse hC hS6; go_wp2_with fail; refine HPV.out.mono ?_; rintro e w6 ⟨rfl, hb6⟩; have J0 := zj (K0.below hb6); have HBW := zj (hbW.trans' hb6); clear K1 K0 hbW hb6 k0 k1 k2 k3 HPV; obtain ⟨c0, c1, c2, c3⟩ := J0.out.cells; obtain ⟨f0, f1, f2, f3⟩ := J0.out.free; go_wp2_with fail; obtain ⟨r0, r1, r2, r3⟩ := (set4_box J0.out false ⟨#[]⟩ 0 0).cells; unfold set4 at r0 r1 r2 r3; refine bodyPost_ret (v := .tuple #[.string ⟨#[]⟩, vv false ⟨#[]⟩ 0 0, .int .i64 3]) (by simp [results, Tryz.results78, go_sem, r0, r1, r2, r3]) rfl ⟨by rw [HE.out], ?_⟩; exact set4_below HBW.out (Nat.le_refl _) false ⟨#[]⟩ 0 0
     ·have e1 : putVV T (pv false U 0 0) = .tuple #[.string ⟨#[]⟩, .int .i64 3] := if_neg hOk
      rw [e1] at HPV
      have hv : VP.getV s.data.toList = none := by
       rw [getV_of hparse, if_neg fun h => hOk h.1]
      have HE := zj (show R = .tuple #[.string ⟨#[]⟩, vv false ⟨#[]⟩ 0 0, .int .i64 3] from by rw [← HR.out, hv]; rfl); clear hv e1 hOk hparse hS6; go_wp2_with fail; refine HPV.out.mono ?_; rintro e w6 ⟨rfl, hb6⟩; have J0 := zj (K0.below hb6); have HBW := zj (hbW.trans' hb6); clear K1 K0 hbW hb6 k0 k1 k2 k3 HPV; obtain ⟨c0, c1, c2, c3⟩ := J0.out.cells; obtain ⟨f0, f1, f2, f3⟩ := J0.out.free; go_wp2_with fail; obtain ⟨r0, r1, r2, r3⟩ := (set4_box J0.out false ⟨#[]⟩ 0 0).cells; unfold set4 at r0 r1 r2 r3; refine bodyPost_ret (v := .tuple #[.string ⟨#[]⟩, vv false ⟨#[]⟩ 0 0, .int .i64 3]) (by simp [results, Tryz.results78, go_sem, r0, r1, r2, r3]) rfl ⟨by rw [HE.out], ?_⟩; exact set4_below HBW.out (Nat.le_refl _) false ⟨#[]⟩ 0 0
end Go.Proofs.YtpeghilfldpgfaaGreatDoor.L9
