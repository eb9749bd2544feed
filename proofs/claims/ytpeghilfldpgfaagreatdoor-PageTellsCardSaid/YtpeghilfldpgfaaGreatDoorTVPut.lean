import Derived.Test.YtpeghilfldpgfaaGreatDoorQT
import Derived.Test.YtpeghilfldpgfaaGreatDoorT07
set_option linter.unusedVariables false
set_option linter.unusedSimpArgs false
set_option maxHeartbeats 8000000
set_option maxRecDepth 100000
namespace Go.Proofs.YtpeghilfldpgfaaGreatDoor.L9
open Go.RowKit
theorem take_op {P : Program} {ops : Array Oper} {Q : Exit → Act → World → Prop} {md : Region.Mode} {S : World → Prop} {i : Nat} {oi : Oper} {d : Option Tmp} {v : Value} {fuel : Nat} {listed : Array Bool} {a : Act} {w : World} (hi : ops[i]? = some oi) (hd : oi.dst = d)
  (hs : Region.noSelect ops = true) (hf : Region.free md ops listed i = true) (hr : (Region.ready md ops listed).contains i = true)
  (hQ : ∀ c a w, Q (.panic c) (a.put d v) w → Q (.panic c) a w) (hy : YieldsIf P ops S oi v a) (hS : S w)
  (h : wpAnyH P md ops Q S fuel (listed.setIfInBounds i true) (a.put d v) w) : wpAnyH P md ops Q S (fuel + 1) listed a w := by
 subst hd; exact wpAnyH_take hi hs hf hr hQ hy hS h
theorem conv_one {V : World} {g : Nat} (x : UInt8) (h : V.heap[g]? = some (.cells #[.int .u8 x.toNat] 5 (0, 0))) :
  (convert 86 9 (.slice (some ⟨g, 0, none⟩) 1 1)).run Tryz.prog V = .ok (.string ⟨#[x]⟩) V := by
 have h2 := run_convert_bytes_arg (P := Tryz.prog) V 86 5 Tryz.underlying86 Tryz.underlying5 g 0 1 1 [(x.toNat : Int)] rfl (fun i hi => by
  rw [Nat.zero_add, cell_of_row _ _ i _ _ _ h]
  obtain rfl : i = 0 := by first | omega | (simp at hi; omega)
  rfl) 9 Tryz.underlying9
 rw [show strOfNums [(x.toNat : Int)] = ⟨#[x]⟩ by simp [strOfNums]] at h2; exact h2
theorem cellS_text2 (t S : ByteArray) : textS t ++ ⟨#[0]⟩ ++ textS S = cellS t (pv false S 0 0) := by
 apply ByteArray.ext; simp [textS, cellS, VP.cellV, VP.tail, pv]
theorem putv_any (t : ByteArray) (O : Bool) (S : ByteArray) (L P : Int) (w : World) (ht : t.size ≤ 1000000) (hs : S.size ≤ 1000000) :
  Calls Tryz.prog 118 #[.string t, vv O S L P] w fun e w' => e = .returned (putVV t (pv O S L P)) ∧ Below w.heap.size w w' := by
 have hts0 : t.data.toList.length = t.size := by simp
 have hb0 := below_alloc w (.cells #[.bool O, .string S, .int .i64 L, .int .i64 P] 125); have HK0 := zj (Bx.new 125 O S L P w); have HKeep := vbox_keep 125 w.heap.size O S L P; have HSU := zj (fun W => suffix_any t W); have HR := zj (fun W => right_any O S L P W); by_cases h1 : t.size ≤ 128
 ·rw [dT h1] at HSU
  by_cases h2 : VP.Right (pv O S L P)
  ·rw [dT h2] at HR
   have e : putVV t (pv O S L P) = .tuple #[.string (cellS t (pv O S L P)), .int .i64 0] := if_pos ⟨by omega, h2⟩; rw [e]; clear e hts0; have hts := textS_size t ht; have HPT := zj (fun W => textOf_any t W ht)
   cases O with
   | true =>
    obtain ⟨hS, hL1, hL2, hP1, hP2⟩ := (right_over S L P).1 h2; obtain ⟨l, rfl⟩ := Int.eq_ofNat_of_zero_le (show 0 ≤ L by omega); obtain ⟨p, rfl⟩ := Int.eq_ofNat_of_zero_le (show 0 ≤ P by omega); have HPL := zj (fun W => numberOf_any l W (by omega)); have HPF := zj (fun W => four_any (p : Int) W (by omega) (by omega)); have hEs := wput_size l (by omega); have hGs := four_size p; rw [Int.toNat_natCast] at HPF; have HC := cellS_over t S l p; obtain ⟨E, hE⟩ : ∃ E : ByteArray, ⟨(WP.put l).toArray⟩ = E := ⟨_, rfl⟩; obtain ⟨G, hG⟩ : ∃ G : ByteArray, ⟨(Lib.leBytes 4 p).toArray⟩ = G := ⟨_, rfl⟩; rw [hE] at HPL hEs HC; rw [hG] at HPF hGs HC; rw [← HC]; generalize textS t = X at *; have a3 : IntKind.u32.wrap (p : Int) = p := Int.emod_eq_of_lt (by omega) (by show (p : Int) < 4294967296; omega)
    have z1 : (X ++ (⟨#[1]⟩ : ByteArray)).size = X.size + 1 := by rw [ByteArray.size_append]; rfl
    obtain ⟨U, hU⟩ : ∃ U : ByteArray, ⟨#[1]⟩ = U := ⟨_, rfl⟩; have HCV : Hid (∀ (V : World) (g : Nat), V.heap[g]? = some (.cells #[.int .u8 1] 5 (0, 0)) → (convert 86 9 (.slice (some ⟨g, 0, none⟩) 1 1)).run Tryz.prog V = .ok (.string U) V) := zj (fun V g hg => by rw [← hU]; exact conv_one 1 hg); rw [hU] at z1 ⊢
    have u1 : U.size = 1 := by rw [← hU]; rfl
    clear hU; obtain ⟨Y, hY⟩ : ∃ Y, X ++ U = Y := ⟨_, rfl⟩; rw [hY] at z1 ⊢; have z2 : (Y ++ E).size = Y.size + E.size := ByteArray.size_append; obtain ⟨Z, hZ⟩ : ∃ Z, Y ++ E = Z := ⟨_, rfl⟩; rw [hZ] at z2 ⊢
    have b2 : ¬ 9223372036854775807 < X.size + U.size := by omega
    have b3 : ¬ 9223372036854775807 < Y.size + E.size := by omega
    have b4 : ¬ 9223372036854775807 < Z.size + G.size := by omega
    clear hE hG HC hS h2 hEs hGs z1 z2 hts hL1 hL2 hP1 hP2 u1 h1 ht hs; obtain ⟨c0, c1, c2, c3⟩ := HK0.out.cells; go_enter Tryz.func118, Tryz.ntmps118; go_wp2_with fail; refine (HSU.out _).mono ?_; rintro e w1 ⟨rfl, rfl⟩; go_wp2_with fail; refine (HR.out _).mono ?_; rintro e w3 ⟨rfl, hb2⟩; have hS3 := HKeep.out _ _ hb2 ⟨HK0, c0, c1, c2, c3⟩; have HB3 := zj (hb0.trans' hb2); have x0 := hS3.2.1; clear hb2 hb0 c0 c1 c2 c3 HK0; go_wp2_with fail; have hHeld0 : Hid (Bx 125 w.heap.size true S (l : Int) (p : Int) w3.drew) ∧ w3.drew.cell? ⟨w.heap.size, 0, none⟩ = some (.bool true) ∧ w3.drew.cell? ⟨w.heap.size, 1, none⟩ = some (.string S) ∧ w3.drew.cell? ⟨w.heap.size, 2, none⟩ = some (.int .i64 (l : Int)) ∧ w3.drew.cell? ⟨w.heap.size, 3, none⟩ = some (.int .i64 (p : Int)) := HKeep.out w3 w3.drew (Below.refl _ _).drew hS3; have HBz := zj ((Below.refl w3.heap.size w3).drew); clear hS3; refine wp_region_held_drew (S := fun V => Hid (Bx 125 w.heap.size true S (l : Int) (p : Int) V) ∧ V.cell? ⟨w.heap.size, 0, none⟩ = some (.bool true) ∧ V.cell? ⟨w.heap.size, 1, none⟩ = some (.string S) ∧ V.cell? ⟨w.heap.size, 2, none⟩ = some (.int .i64 (l : Int)) ∧ V.cell? ⟨w.heap.size, 3, none⟩ = some (.int .i64 (p : Int))) (by kernel_rfl) hHeld0 (fun hHeld => ?_); clear hHeld0; generalize hD : w3.drew = D at *; clear hD; refine tk 0 (some 16) ?_ rfl rfl ?_ ?_; rotate_left
    ·intro W h; (try dsimp only at h); go_simp; (try with_reducible rfl)
    try simp only [Act.put, jA, jZ, jS]
    refine tk 5 (some 21) ?_ rfl rfl ?_ ?_; rotate_left
    ·intro W h; (try dsimp only at h); go_simp; (try with_reducible rfl)
    try simp only [Act.put, jA, jZ, jS]
    refine tk 6 (some 22) ?_ rfl rfl ?_ ?_; rotate_left
    ·intro W h; (try dsimp only at h); go_simp; (try with_reducible rfl)
    try simp only [Act.put, jA, jZ, jS]
    refine tk 9 (some 25) ?_ rfl rfl ?_ ?_; rotate_left
    ·intro W h; (try dsimp only at h); go_simp; (try with_reducible rfl)
    try simp only [Act.put, jA, jZ, jS]
    refine tk 10 (some 26) ?_ rfl rfl ?_ ?_; rotate_left
    ·intro W h; (try dsimp only at h); go_simp; (try with_reducible rfl)
    try simp only [Act.put, jA, jZ, jS]
    refine tk 11 (some 27) ?_ rfl rfl ?_ ?_; rotate_left
    ·intro W h; (try dsimp only at h); go_simp; (try with_reducible rfl)
    try simp only [Act.put, jA, jZ, jS]
    refine wpAnyH_ready (rs := [1, 2]) (by kernel_rfl) (by simp) (AllReadyH.cons rfl (fun KK hK => ?_) (AllReadyH.cons rfl (fun KK hK => ?_) AllReadyH.nil))
    ·go_simp
     refine (HPT.out _).mono ?_; rintro e Va ⟨rfl, hb⟩; go_wp2_with fail; have hHeld := HKeep.out _ _ hb hHeld; refine hK.out _ _ hHeld (fun _ => ?_); have HBz := zj (HBz.out.trans' hb); clear hb; clear hK; try simp only [Act.put, jA, jZ, jS]
     refine wpAnyH_ready (rs := [2, 7]) (by kernel_rfl) (by simp) (AllReadyH.cons rfl (fun KK hK => ?_) (AllReadyH.cons rfl (fun KK hK => ?_) AllReadyH.nil))
     ·go_simp
      have hHeld := HKeep.out _ _ (below_alloc _ (.cells #[.int .u8 1] 5)) hHeld; refine hK.out _ _ hHeld (fun _ => ?_); have HBz := zj (HBz.out.trans' (below_alloc _ (.cells #[.int .u8 1] 5))); have hblk := zj (heap_alloc_new Va (.cells #[.int .u8 1] 5)); clear hK; try simp only [Act.put, jA, jZ, jS]
      refine wpAnyH_ready (rs := [3, 7]) (by kernel_rfl) (by simp) (AllReadyH.cons rfl (fun KK hK => ?_) (AllReadyH.cons rfl (fun KK hK => ?_) AllReadyH.nil))
      ·have hcv := HCV.out _ _ hblk.out
       go_simp; refine hK.out _ _ hHeld (fun _ => ?_); clear hcv hblk; clear hK; try simp only [Act.put, jA, jZ, jS]
       refine tk 4 (some 20) ?_ rfl rfl ?_ ?_; rotate_left
       ·intro W h; (try dsimp only at h); go_simp; (try with_reducible rfl)
       try simp only [Act.put, jA, jZ, jS]
       refine rd1 7 rfl (fun KK hK => ?_); go_simp; refine (HPL.out _).mono ?_; rintro e Vb ⟨rfl, hb⟩; go_wp2_with fail; have hHeld := HKeep.out _ _ hb hHeld; refine hK.out _ _ hHeld (fun _ => ?_); have HBz := zj (HBz.out.trans' hb); clear hb; clear hK; try simp only [Act.put, jA, jZ, jS]
       refine tk 8 (some 24) ?_ rfl rfl ?_ ?_; rotate_left
       ·intro W h; (try dsimp only at h); go_simp; (try with_reducible rfl)
       try simp only [Act.put, jA, jZ, jS]
       refine rd1 12 rfl (fun KK hK => ?_); go_simp; refine (HPF.out _).mono ?_; rintro e Vc ⟨rfl, hb⟩; go_wp2_with fail; have hHeld := HKeep.out _ _ hb hHeld; refine hK.out _ _ hHeld (fun _ => ?_); have HBz := zj (HBz.out.trans' hb); clear hb; clear hK; try simp only [Act.put, jA, jZ, jS]
       refine tk 13 (some 29) ?_ rfl rfl ?_ ?_; rotate_left
       ·intro W h; (try dsimp only at h); go_simp; (try with_reducible rfl)
       try simp only [Act.put, jA, jZ, jS]
       refine tk 14 (some 4) ?_ rfl rfl ?_ ?_; rotate_left
       ·intro W h; (try dsimp only at h); go_simp; (try with_reducible rfl)
       try simp only [Act.put, jA, jZ, jS]
       refine tk 15 (some 5) ?_ rfl rfl ?_ ?_; rotate_left
       ·intro W h; (try dsimp only at h); go_simp; (try with_reducible rfl)
       try simp only [Act.put, jA, jZ, jS]
       refine wpAnyH_done (by kernel_rfl) ?_ _; go_wp2_with fail
       go_ret2
       exact ⟨rfl, HB3.out.trans' HBz.out⟩
      ·go_simp
       refine (HPL.out _).mono ?_; rintro e Vb ⟨rfl, hb⟩; go_wp2_with fail; have hHeld := HKeep.out _ _ hb hHeld; refine hK.out _ _ hHeld (fun _ => ?_); have HBz := zj (HBz.out.trans' hb); have hblk := zj ((hb.block _ (Array.getElem?_eq_some_iff.1 hblk.out).1).trans hblk.out); clear hb; clear hK; try simp only [Act.put, jA, jZ, jS]
       refine wpAnyH_ready (rs := [3, 12]) (by kernel_rfl) (by simp) (AllReadyH.cons rfl (fun KK hK => ?_) (AllReadyH.cons rfl (fun KK hK => ?_) AllReadyH.nil))
       ·have hcv := HCV.out _ _ hblk.out
        go_simp; refine hK.out _ _ hHeld (fun _ => ?_); clear hcv hblk; clear hK; try simp only [Act.put, jA, jZ, jS]
        refine tk 4 (some 20) ?_ rfl rfl ?_ ?_; rotate_left
        ·intro W h; (try dsimp only at h); go_simp; (try with_reducible rfl)
        try simp only [Act.put, jA, jZ, jS]
        refine tk 8 (some 24) ?_ rfl rfl ?_ ?_; rotate_left
        ·intro W h; (try dsimp only at h); go_simp; (try with_reducible rfl)
        try simp only [Act.put, jA, jZ, jS]
        refine rd1 12 rfl (fun KK hK => ?_); go_simp; refine (HPF.out _).mono ?_; rintro e Vc ⟨rfl, hb⟩; go_wp2_with fail; have hHeld := HKeep.out _ _ hb hHeld; refine hK.out _ _ hHeld (fun _ => ?_); have HBz := zj (HBz.out.trans' hb); clear hb; clear hK; try simp only [Act.put, jA, jZ, jS]
        refine tk 13 (some 29) ?_ rfl rfl ?_ ?_; rotate_left
        ·intro W h; (try dsimp only at h); go_simp; (try with_reducible rfl)
        try simp only [Act.put, jA, jZ, jS]
        refine tk 14 (some 4) ?_ rfl rfl ?_ ?_; rotate_left
        ·intro W h; (try dsimp only at h); go_simp; (try with_reducible rfl)
        try simp only [Act.put, jA, jZ, jS]
        refine tk 15 (some 5) ?_ rfl rfl ?_ ?_; rotate_left
        ·intro W h; (try dsimp only at h); go_simp; (try with_reducible rfl)
        try simp only [Act.put, jA, jZ, jS]
        refine wpAnyH_done (by kernel_rfl) ?_ _; go_wp2_with fail
        go_ret2
        exact ⟨rfl, HB3.out.trans' HBz.out⟩
       ·go_simp
        refine (HPF.out _).mono ?_; rintro e Vc ⟨rfl, hb⟩; go_wp2_with fail; have hHeld := HKeep.out _ _ hb hHeld; refine hK.out _ _ hHeld (fun _ => ?_); have HBz := zj (HBz.out.trans' hb); have hblk := zj ((hb.block _ (Array.getElem?_eq_some_iff.1 hblk.out).1).trans hblk.out); clear hb; clear hK; try simp only [Act.put, jA, jZ, jS]
        refine rd1 3 rfl (fun KK hK => ?_); have hcv := HCV.out _ _ hblk.out; go_simp; refine hK.out _ _ hHeld (fun _ => ?_); clear hcv hblk; clear hK; try simp only [Act.put, jA, jZ, jS]
        refine tk 4 (some 20) ?_ rfl rfl ?_ ?_; rotate_left
        ·intro W h; (try dsimp only at h); go_simp; (try with_reducible rfl)
        try simp only [Act.put, jA, jZ, jS]
        refine tk 8 (some 24) ?_ rfl rfl ?_ ?_; rotate_left
        ·intro W h; (try dsimp only at h); go_simp; (try with_reducible rfl)
        try simp only [Act.put, jA, jZ, jS]
        refine tk 13 (some 29) ?_ rfl rfl ?_ ?_; rotate_left
        ·intro W h; (try dsimp only at h); go_simp; (try with_reducible rfl)
        try simp only [Act.put, jA, jZ, jS]
        refine tk 14 (some 4) ?_ rfl rfl ?_ ?_; rotate_left
        ·intro W h; (try dsimp only at h); go_simp; (try with_reducible rfl)
        try simp only [Act.put, jA, jZ, jS]
        refine tk 15 (some 5) ?_ rfl rfl ?_ ?_; rotate_left
        ·intro W h; (try dsimp only at h); go_simp; (try with_reducible rfl)
        try simp only [Act.put, jA, jZ, jS]
        refine wpAnyH_done (by kernel_rfl) ?_ _; go_wp2_with fail
        go_ret2
        exact ⟨rfl, HB3.out.trans' HBz.out⟩
     ·go_simp
      refine (HPL.out _).mono ?_; rintro e Vb ⟨rfl, hb⟩; go_wp2_with fail; have hHeld := HKeep.out _ _ hb hHeld; refine hK.out _ _ hHeld (fun _ => ?_); have HBz := zj (HBz.out.trans' hb); clear hb; clear hK; try simp only [Act.put, jA, jZ, jS]
      refine wpAnyH_ready (rs := [2, 12]) (by kernel_rfl) (by simp) (AllReadyH.cons rfl (fun KK hK => ?_) (AllReadyH.cons rfl (fun KK hK => ?_) AllReadyH.nil))
      ·go_simp
       have hHeld := HKeep.out _ _ (below_alloc _ (.cells #[.int .u8 1] 5)) hHeld; refine hK.out _ _ hHeld (fun _ => ?_); have HBz := zj (HBz.out.trans' (below_alloc _ (.cells #[.int .u8 1] 5))); have hblk := zj (heap_alloc_new Vb (.cells #[.int .u8 1] 5)); clear hK; try simp only [Act.put, jA, jZ, jS]
       refine wpAnyH_ready (rs := [3, 12]) (by kernel_rfl) (by simp) (AllReadyH.cons rfl (fun KK hK => ?_) (AllReadyH.cons rfl (fun KK hK => ?_) AllReadyH.nil))
       ·have hcv := HCV.out _ _ hblk.out
        go_simp; refine hK.out _ _ hHeld (fun _ => ?_); clear hcv hblk; clear hK; try simp only [Act.put, jA, jZ, jS]
        refine tk 4 (some 20) ?_ rfl rfl ?_ ?_; rotate_left
        ·intro W h; (try dsimp only at h); go_simp; (try with_reducible rfl)
        try simp only [Act.put, jA, jZ, jS]
        refine tk 8 (some 24) ?_ rfl rfl ?_ ?_; rotate_left
        ·intro W h; (try dsimp only at h); go_simp; (try with_reducible rfl)
        try simp only [Act.put, jA, jZ, jS]
        refine rd1 12 rfl (fun KK hK => ?_); go_simp; refine (HPF.out _).mono ?_; rintro e Vc ⟨rfl, hb⟩; go_wp2_with fail; have hHeld := HKeep.out _ _ hb hHeld; refine hK.out _ _ hHeld (fun _ => ?_); have HBz := zj (HBz.out.trans' hb); clear hb; clear hK; try simp only [Act.put, jA, jZ, jS]
        refine tk 13 (some 29) ?_ rfl rfl ?_ ?_; rotate_left
        ·intro W h; (try dsimp only at h); go_simp; (try with_reducible rfl)
        try simp only [Act.put, jA, jZ, jS]
        refine tk 14 (some 4) ?_ rfl rfl ?_ ?_; rotate_left
        ·intro W h; (try dsimp only at h); go_simp; (try with_reducible rfl)
        try simp only [Act.put, jA, jZ, jS]
        refine tk 15 (some 5) ?_ rfl rfl ?_ ?_; rotate_left
        ·intro W h; (try dsimp only at h); go_simp; (try with_reducible rfl)
        try simp only [Act.put, jA, jZ, jS]
        refine wpAnyH_done (by kernel_rfl) ?_ _; go_wp2_with fail
        go_ret2
        exact ⟨rfl, HB3.out.trans' HBz.out⟩
       ·go_simp
        refine (HPF.out _).mono ?_; rintro e Vc ⟨rfl, hb⟩; go_wp2_with fail; have hHeld := HKeep.out _ _ hb hHeld; refine hK.out _ _ hHeld (fun _ => ?_); have HBz := zj (HBz.out.trans' hb); have hblk := zj ((hb.block _ (Array.getElem?_eq_some_iff.1 hblk.out).1).trans hblk.out); clear hb; clear hK; try simp only [Act.put, jA, jZ, jS]
        refine rd1 3 rfl (fun KK hK => ?_); have hcv := HCV.out _ _ hblk.out; go_simp; refine hK.out _ _ hHeld (fun _ => ?_); clear hcv hblk; clear hK; try simp only [Act.put, jA, jZ, jS]
        refine tk 4 (some 20) ?_ rfl rfl ?_ ?_; rotate_left
        ·intro W h; (try dsimp only at h); go_simp; (try with_reducible rfl)
        try simp only [Act.put, jA, jZ, jS]
        refine tk 8 (some 24) ?_ rfl rfl ?_ ?_; rotate_left
        ·intro W h; (try dsimp only at h); go_simp; (try with_reducible rfl)
        try simp only [Act.put, jA, jZ, jS]
        refine tk 13 (some 29) ?_ rfl rfl ?_ ?_; rotate_left
        ·intro W h; (try dsimp only at h); go_simp; (try with_reducible rfl)
        try simp only [Act.put, jA, jZ, jS]
        refine tk 14 (some 4) ?_ rfl rfl ?_ ?_; rotate_left
        ·intro W h; (try dsimp only at h); go_simp; (try with_reducible rfl)
        try simp only [Act.put, jA, jZ, jS]
        refine tk 15 (some 5) ?_ rfl rfl ?_ ?_; rotate_left
        ·intro W h; (try dsimp only at h); go_simp; (try with_reducible rfl)
        try simp only [Act.put, jA, jZ, jS]
        refine wpAnyH_done (by kernel_rfl) ?_ _; go_wp2_with fail
        go_ret2
        exact ⟨rfl, HB3.out.trans' HBz.out⟩
      ·go_simp
       refine (HPF.out _).mono ?_; rintro e Vc ⟨rfl, hb⟩; go_wp2_with fail; have hHeld := HKeep.out _ _ hb hHeld; refine hK.out _ _ hHeld (fun _ => ?_); have HBz := zj (HBz.out.trans' hb); clear hb; clear hK; try simp only [Act.put, jA, jZ, jS]
       refine rd1 2 rfl (fun KK hK => ?_); go_simp; have hHeld := HKeep.out _ _ (below_alloc _ (.cells #[.int .u8 1] 5)) hHeld; refine hK.out _ _ hHeld (fun _ => ?_); have HBz := zj (HBz.out.trans' (below_alloc _ (.cells #[.int .u8 1] 5))); have hblk := zj (heap_alloc_new Vc (.cells #[.int .u8 1] 5)); clear hK; try simp only [Act.put, jA, jZ, jS]
       refine rd1 3 rfl (fun KK hK => ?_); have hcv := HCV.out _ _ hblk.out; go_simp; refine hK.out _ _ hHeld (fun _ => ?_); clear hcv hblk; clear hK; try simp only [Act.put, jA, jZ, jS]
       refine tk 4 (some 20) ?_ rfl rfl ?_ ?_; rotate_left
       ·intro W h; (try dsimp only at h); go_simp; (try with_reducible rfl)
       try simp only [Act.put, jA, jZ, jS]
       refine tk 8 (some 24) ?_ rfl rfl ?_ ?_; rotate_left
       ·intro W h; (try dsimp only at h); go_simp; (try with_reducible rfl)
       try simp only [Act.put, jA, jZ, jS]
       refine tk 13 (some 29) ?_ rfl rfl ?_ ?_; rotate_left
       ·intro W h; (try dsimp only at h); go_simp; (try with_reducible rfl)
       try simp only [Act.put, jA, jZ, jS]
       refine tk 14 (some 4) ?_ rfl rfl ?_ ?_; rotate_left
       ·intro W h; (try dsimp only at h); go_simp; (try with_reducible rfl)
       try simp only [Act.put, jA, jZ, jS]
       refine tk 15 (some 5) ?_ rfl rfl ?_ ?_; rotate_left
       ·intro W h; (try dsimp only at h); go_simp; (try with_reducible rfl)
       try simp only [Act.put, jA, jZ, jS]
       refine wpAnyH_done (by kernel_rfl) ?_ _; go_wp2_with fail
       go_ret2
       exact ⟨rfl, HB3.out.trans' HBz.out⟩
    ·go_simp
     have hHeld := HKeep.out _ _ (below_alloc _ (.cells #[.int .u8 1] 5)) hHeld; refine hK.out _ _ hHeld (fun _ => ?_); have HBz := zj (HBz.out.trans' (below_alloc _ (.cells #[.int .u8 1] 5))); have hblk := zj (heap_alloc_new D (.cells #[.int .u8 1] 5)); clear hK; try simp only [Act.put, jA, jZ, jS]
     refine wpAnyH_ready (rs := [1, 3]) (by kernel_rfl) (by simp) (AllReadyH.cons rfl (fun KK hK => ?_) (AllReadyH.cons rfl (fun KK hK => ?_) AllReadyH.nil))
     ·go_simp
      refine (HPT.out _).mono ?_; rintro e Va ⟨rfl, hb⟩; go_wp2_with fail; have hHeld := HKeep.out _ _ hb hHeld; refine hK.out _ _ hHeld (fun _ => ?_); have HBz := zj (HBz.out.trans' hb); have hblk := zj ((hb.block _ (Array.getElem?_eq_some_iff.1 hblk.out).1).trans hblk.out); clear hb; clear hK; try simp only [Act.put, jA, jZ, jS]
      refine wpAnyH_ready (rs := [3, 7]) (by kernel_rfl) (by simp) (AllReadyH.cons rfl (fun KK hK => ?_) (AllReadyH.cons rfl (fun KK hK => ?_) AllReadyH.nil))
      ·have hcv := HCV.out _ _ hblk.out
       go_simp; refine hK.out _ _ hHeld (fun _ => ?_); clear hcv hblk; clear hK; try simp only [Act.put, jA, jZ, jS]
       refine tk 4 (some 20) ?_ rfl rfl ?_ ?_; rotate_left
       ·intro W h; (try dsimp only at h); go_simp; (try with_reducible rfl)
       try simp only [Act.put, jA, jZ, jS]
       refine rd1 7 rfl (fun KK hK => ?_); go_simp; refine (HPL.out _).mono ?_; rintro e Vb ⟨rfl, hb⟩; go_wp2_with fail; have hHeld := HKeep.out _ _ hb hHeld; refine hK.out _ _ hHeld (fun _ => ?_); have HBz := zj (HBz.out.trans' hb); clear hb; clear hK; try simp only [Act.put, jA, jZ, jS]
       refine tk 8 (some 24) ?_ rfl rfl ?_ ?_; rotate_left
       ·intro W h; (try dsimp only at h); go_simp; (try with_reducible rfl)
       try simp only [Act.put, jA, jZ, jS]
       refine rd1 12 rfl (fun KK hK => ?_); go_simp; refine (HPF.out _).mono ?_; rintro e Vc ⟨rfl, hb⟩; go_wp2_with fail; have hHeld := HKeep.out _ _ hb hHeld; refine hK.out _ _ hHeld (fun _ => ?_); have HBz := zj (HBz.out.trans' hb); clear hb; clear hK; try simp only [Act.put, jA, jZ, jS]
       refine tk 13 (some 29) ?_ rfl rfl ?_ ?_; rotate_left
       ·intro W h; (try dsimp only at h); go_simp; (try with_reducible rfl)
       try simp only [Act.put, jA, jZ, jS]
       refine tk 14 (some 4) ?_ rfl rfl ?_ ?_; rotate_left
       ·intro W h; (try dsimp only at h); go_simp; (try with_reducible rfl)
       try simp only [Act.put, jA, jZ, jS]
       refine tk 15 (some 5) ?_ rfl rfl ?_ ?_; rotate_left
       ·intro W h; (try dsimp only at h); go_simp; (try with_reducible rfl)
       try simp only [Act.put, jA, jZ, jS]
       refine wpAnyH_done (by kernel_rfl) ?_ _; go_wp2_with fail
       go_ret2
       exact ⟨rfl, HB3.out.trans' HBz.out⟩
      ·go_simp
       refine (HPL.out _).mono ?_; rintro e Vb ⟨rfl, hb⟩; go_wp2_with fail; have hHeld := HKeep.out _ _ hb hHeld; refine hK.out _ _ hHeld (fun _ => ?_); have HBz := zj (HBz.out.trans' hb); have hblk := zj ((hb.block _ (Array.getElem?_eq_some_iff.1 hblk.out).1).trans hblk.out); clear hb; clear hK; try simp only [Act.put, jA, jZ, jS]
       refine wpAnyH_ready (rs := [3, 12]) (by kernel_rfl) (by simp) (AllReadyH.cons rfl (fun KK hK => ?_) (AllReadyH.cons rfl (fun KK hK => ?_) AllReadyH.nil))
       ·have hcv := HCV.out _ _ hblk.out
        go_simp; refine hK.out _ _ hHeld (fun _ => ?_); clear hcv hblk; clear hK; try simp only [Act.put, jA, jZ, jS]
        refine tk 4 (some 20) ?_ rfl rfl ?_ ?_; rotate_left
        ·intro W h; (try dsimp only at h); go_simp; (try with_reducible rfl)
        try simp only [Act.put, jA, jZ, jS]
        refine tk 8 (some 24) ?_ rfl rfl ?_ ?_; rotate_left
        ·intro W h; (try dsimp only at h); go_simp; (try with_reducible rfl)
        try simp only [Act.put, jA, jZ, jS]
        refine rd1 12 rfl (fun KK hK => ?_); go_simp; refine (HPF.out _).mono ?_; rintro e Vc ⟨rfl, hb⟩; go_wp2_with fail; have hHeld := HKeep.out _ _ hb hHeld; refine hK.out _ _ hHeld (fun _ => ?_); have HBz := zj (HBz.out.trans' hb); clear hb; clear hK; try simp only [Act.put, jA, jZ, jS]
        refine tk 13 (some 29) ?_ rfl rfl ?_ ?_; rotate_left
        ·intro W h; (try dsimp only at h); go_simp; (try with_reducible rfl)
        try simp only [Act.put, jA, jZ, jS]
        refine tk 14 (some 4) ?_ rfl rfl ?_ ?_; rotate_left
        ·intro W h; (try dsimp only at h); go_simp; (try with_reducible rfl)
        try simp only [Act.put, jA, jZ, jS]
        refine tk 15 (some 5) ?_ rfl rfl ?_ ?_; rotate_left
        ·intro W h; (try dsimp only at h); go_simp; (try with_reducible rfl)
        try simp only [Act.put, jA, jZ, jS]
        refine wpAnyH_done (by kernel_rfl) ?_ _; go_wp2_with fail
        go_ret2
        exact ⟨rfl, HB3.out.trans' HBz.out⟩
       ·go_simp
        refine (HPF.out _).mono ?_; rintro e Vc ⟨rfl, hb⟩; go_wp2_with fail; have hHeld := HKeep.out _ _ hb hHeld; refine hK.out _ _ hHeld (fun _ => ?_); have HBz := zj (HBz.out.trans' hb); have hblk := zj ((hb.block _ (Array.getElem?_eq_some_iff.1 hblk.out).1).trans hblk.out); clear hb; clear hK; try simp only [Act.put, jA, jZ, jS]
        refine rd1 3 rfl (fun KK hK => ?_); have hcv := HCV.out _ _ hblk.out; go_simp; refine hK.out _ _ hHeld (fun _ => ?_); clear hcv hblk; clear hK; try simp only [Act.put, jA, jZ, jS]
        refine tk 4 (some 20) ?_ rfl rfl ?_ ?_; rotate_left
        ·intro W h; (try dsimp only at h); go_simp; (try with_reducible rfl)
        try simp only [Act.put, jA, jZ, jS]
        refine tk 8 (some 24) ?_ rfl rfl ?_ ?_; rotate_left
        ·intro W h; (try dsimp only at h); go_simp; (try with_reducible rfl)
        try simp only [Act.put, jA, jZ, jS]
        refine tk 13 (some 29) ?_ rfl rfl ?_ ?_; rotate_left
        ·intro W h; (try dsimp only at h); go_simp; (try with_reducible rfl)
        try simp only [Act.put, jA, jZ, jS]
        refine tk 14 (some 4) ?_ rfl rfl ?_ ?_; rotate_left
        ·intro W h; (try dsimp only at h); go_simp; (try with_reducible rfl)
        try simp only [Act.put, jA, jZ, jS]
        refine tk 15 (some 5) ?_ rfl rfl ?_ ?_; rotate_left
        ·intro W h; (try dsimp only at h); go_simp; (try with_reducible rfl)
        try simp only [Act.put, jA, jZ, jS]
        refine wpAnyH_done (by kernel_rfl) ?_ _; go_wp2_with fail
        go_ret2
        exact ⟨rfl, HB3.out.trans' HBz.out⟩
     ·have hcv := HCV.out _ _ hblk.out
      go_simp; refine hK.out _ _ hHeld (fun _ => ?_); clear hcv hblk; clear hK; try simp only [Act.put, jA, jZ, jS]
      refine rd1 1 rfl (fun KK hK => ?_); go_simp; refine (HPT.out _).mono ?_; rintro e Va ⟨rfl, hb⟩; go_wp2_with fail; have hHeld := HKeep.out _ _ hb hHeld; refine hK.out _ _ hHeld (fun _ => ?_); have HBz := zj (HBz.out.trans' hb); clear hb; clear hK; try simp only [Act.put, jA, jZ, jS]
      refine tk 4 (some 20) ?_ rfl rfl ?_ ?_; rotate_left
      ·intro W h; (try dsimp only at h); go_simp; (try with_reducible rfl)
      try simp only [Act.put, jA, jZ, jS]
      refine rd1 7 rfl (fun KK hK => ?_); go_simp; refine (HPL.out _).mono ?_; rintro e Vb ⟨rfl, hb⟩; go_wp2_with fail; have hHeld := HKeep.out _ _ hb hHeld; refine hK.out _ _ hHeld (fun _ => ?_); have HBz := zj (HBz.out.trans' hb); clear hb; clear hK; try simp only [Act.put, jA, jZ, jS]
      refine tk 8 (some 24) ?_ rfl rfl ?_ ?_; rotate_left
      ·intro W h; (try dsimp only at h); go_simp; (try with_reducible rfl)
      try simp only [Act.put, jA, jZ, jS]
      refine rd1 12 rfl (fun KK hK => ?_); go_simp; refine (HPF.out _).mono ?_; rintro e Vc ⟨rfl, hb⟩; go_wp2_with fail; have hHeld := HKeep.out _ _ hb hHeld; refine hK.out _ _ hHeld (fun _ => ?_); have HBz := zj (HBz.out.trans' hb); clear hb; clear hK; try simp only [Act.put, jA, jZ, jS]
      refine tk 13 (some 29) ?_ rfl rfl ?_ ?_; rotate_left
      ·intro W h; (try dsimp only at h); go_simp; (try with_reducible rfl)
      try simp only [Act.put, jA, jZ, jS]
      refine tk 14 (some 4) ?_ rfl rfl ?_ ?_; rotate_left
      ·intro W h; (try dsimp only at h); go_simp; (try with_reducible rfl)
      try simp only [Act.put, jA, jZ, jS]
      refine tk 15 (some 5) ?_ rfl rfl ?_ ?_; rotate_left
      ·intro W h; (try dsimp only at h); go_simp; (try with_reducible rfl)
      try simp only [Act.put, jA, jZ, jS]
      refine wpAnyH_done (by kernel_rfl) ?_ _; go_wp2_with fail
      go_ret2
      exact ⟨rfl, HB3.out.trans' HBz.out⟩
   | false =>
    obtain ⟨hS, rfl, rfl⟩ := (right_text S L P).1 h2; have HPL := zj (fun W => textOf_any S W hs); have hEs := textS_size S hs; have HC := cellS_text2 t S; rw [← HC]; generalize textS t = X at *; generalize textS S = E at *
    have z1 : (X ++ (⟨#[0]⟩ : ByteArray)).size = X.size + 1 := by rw [ByteArray.size_append]; rfl
    obtain ⟨U, hU⟩ : ∃ U : ByteArray, ⟨#[0]⟩ = U := ⟨_, rfl⟩; have HCV : Hid (∀ (V : World) (g : Nat), V.heap[g]? = some (.cells #[.int .u8 0] 5 (0, 0)) → (convert 86 9 (.slice (some ⟨g, 0, none⟩) 1 1)).run Tryz.prog V = .ok (.string U) V) := zj (fun V g hg => by rw [← hU]; exact conv_one 0 hg); rw [hU] at z1 ⊢
    have u1 : U.size = 1 := by rw [← hU]; rfl
    clear hU; obtain ⟨Y, hY⟩ : ∃ Y, X ++ U = Y := ⟨_, rfl⟩; rw [hY] at z1 ⊢
    have b2 : ¬ 9223372036854775807 < X.size + U.size := by omega
    have b3 : ¬ 9223372036854775807 < Y.size + E.size := by omega
    clear HC hS h2 hEs z1 hts u1 h1 ht hs; obtain ⟨c0, c1, c2, c3⟩ := HK0.out.cells; go_enter Tryz.func118, Tryz.ntmps118; go_wp2_with fail; refine (HSU.out _).mono ?_; rintro e w1 ⟨rfl, rfl⟩; go_wp2_with fail; refine (HR.out _).mono ?_; rintro e w3 ⟨rfl, hb2⟩; have hS3 := HKeep.out _ _ hb2 ⟨HK0, c0, c1, c2, c3⟩; have HB3 := zj (hb0.trans' hb2); have x0 := hS3.2.1; clear hb2 hb0 c0 c1 c2 c3 HK0; go_wp2_with fail; have hHeld0 : Hid (Bx 125 w.heap.size false S 0 0 w3.drew) ∧ w3.drew.cell? ⟨w.heap.size, 0, none⟩ = some (.bool false) ∧ w3.drew.cell? ⟨w.heap.size, 1, none⟩ = some (.string S) ∧ w3.drew.cell? ⟨w.heap.size, 2, none⟩ = some (.int .i64 0) ∧ w3.drew.cell? ⟨w.heap.size, 3, none⟩ = some (.int .i64 0) := HKeep.out w3 w3.drew (Below.refl _ _).drew hS3; have HBz := zj ((Below.refl w3.heap.size w3).drew); clear hS3; refine wp_region_held_drew (S := fun V => Hid (Bx 125 w.heap.size false S 0 0 V) ∧ V.cell? ⟨w.heap.size, 0, none⟩ = some (.bool false) ∧ V.cell? ⟨w.heap.size, 1, none⟩ = some (.string S) ∧ V.cell? ⟨w.heap.size, 2, none⟩ = some (.int .i64 0) ∧ V.cell? ⟨w.heap.size, 3, none⟩ = some (.int .i64 0)) (by kernel_rfl) hHeld0 (fun hHeld => ?_); clear hHeld0; generalize hD : w3.drew = D at *; clear hD; refine tk 0 (some 30) ?_ rfl rfl ?_ ?_; rotate_left
    ·intro W h; (try dsimp only at h); go_simp; (try with_reducible rfl)
    try simp only [Act.put, jA, jZ, jS]
    refine tk 5 (some 35) ?_ rfl rfl ?_ ?_; rotate_left
    ·intro W h; (try dsimp only at h); go_simp; (try with_reducible rfl)
    try simp only [Act.put, jA, jZ, jS]
    refine tk 6 (some 36) ?_ rfl rfl ?_ ?_; rotate_left
    ·intro W h; (try dsimp only at h); go_simp; (try with_reducible rfl)
    try simp only [Act.put, jA, jZ, jS]
    refine wpAnyH_ready (rs := [1, 2]) (by kernel_rfl) (by simp) (AllReadyH.cons rfl (fun KK hK => ?_) (AllReadyH.cons rfl (fun KK hK => ?_) AllReadyH.nil))
    ·go_simp
     refine (HPT.out _).mono ?_; rintro e Va ⟨rfl, hb⟩; go_wp2_with fail; have hHeld := HKeep.out _ _ hb hHeld; refine hK.out _ _ hHeld (fun _ => ?_); have HBz := zj (HBz.out.trans' hb); clear hb; clear hK; try simp only [Act.put, jA, jZ, jS]
     refine wpAnyH_ready (rs := [2, 7]) (by kernel_rfl) (by simp) (AllReadyH.cons rfl (fun KK hK => ?_) (AllReadyH.cons rfl (fun KK hK => ?_) AllReadyH.nil))
     ·go_simp
      have hHeld := HKeep.out _ _ (below_alloc _ (.cells #[.int .u8 0] 5)) hHeld; refine hK.out _ _ hHeld (fun _ => ?_); have HBz := zj (HBz.out.trans' (below_alloc _ (.cells #[.int .u8 0] 5))); have hblk := zj (heap_alloc_new Va (.cells #[.int .u8 0] 5)); clear hK; try simp only [Act.put, jA, jZ, jS]
      refine wpAnyH_ready (rs := [3, 7]) (by kernel_rfl) (by simp) (AllReadyH.cons rfl (fun KK hK => ?_) (AllReadyH.cons rfl (fun KK hK => ?_) AllReadyH.nil))
      ·have hcv := HCV.out _ _ hblk.out
       go_simp; refine hK.out _ _ hHeld (fun _ => ?_); clear hcv hblk; clear hK; try simp only [Act.put, jA, jZ, jS]
       refine tk 4 (some 34) ?_ rfl rfl ?_ ?_; rotate_left
       ·intro W h; (try dsimp only at h); go_simp; (try with_reducible rfl)
       try simp only [Act.put, jA, jZ, jS]
       refine rd1 7 rfl (fun KK hK => ?_); go_simp; refine (HPL.out _).mono ?_; rintro e Vb ⟨rfl, hb⟩; go_wp2_with fail; have hHeld := HKeep.out _ _ hb hHeld; refine hK.out _ _ hHeld (fun _ => ?_); have HBz := zj (HBz.out.trans' hb); clear hb; clear hK; try simp only [Act.put, jA, jZ, jS]
       refine tk 8 (some 38) ?_ rfl rfl ?_ ?_; rotate_left
       ·intro W h; (try dsimp only at h); go_simp; (try with_reducible rfl)
       try simp only [Act.put, jA, jZ, jS]
       refine tk 9 (some 4) ?_ rfl rfl ?_ ?_; rotate_left
       ·intro W h; (try dsimp only at h); go_simp; (try with_reducible rfl)
       try simp only [Act.put, jA, jZ, jS]
       refine tk 10 (some 5) ?_ rfl rfl ?_ ?_; rotate_left
       ·intro W h; (try dsimp only at h); go_simp; (try with_reducible rfl)
       try simp only [Act.put, jA, jZ, jS]
       refine wpAnyH_done (by kernel_rfl) ?_ _; go_wp2_with fail
       go_ret2
       exact ⟨rfl, HB3.out.trans' HBz.out⟩
      ·go_simp
       refine (HPL.out _).mono ?_; rintro e Vb ⟨rfl, hb⟩; go_wp2_with fail; have hHeld := HKeep.out _ _ hb hHeld; refine hK.out _ _ hHeld (fun _ => ?_); have HBz := zj (HBz.out.trans' hb); have hblk := zj ((hb.block _ (Array.getElem?_eq_some_iff.1 hblk.out).1).trans hblk.out); clear hb; clear hK; try simp only [Act.put, jA, jZ, jS]
       refine rd1 3 rfl (fun KK hK => ?_); have hcv := HCV.out _ _ hblk.out; go_simp; refine hK.out _ _ hHeld (fun _ => ?_); clear hcv hblk; clear hK; try simp only [Act.put, jA, jZ, jS]
       refine tk 4 (some 34) ?_ rfl rfl ?_ ?_; rotate_left
       ·intro W h; (try dsimp only at h); go_simp; (try with_reducible rfl)
       try simp only [Act.put, jA, jZ, jS]
       refine tk 8 (some 38) ?_ rfl rfl ?_ ?_; rotate_left
       ·intro W h; (try dsimp only at h); go_simp; (try with_reducible rfl)
       try simp only [Act.put, jA, jZ, jS]
       refine tk 9 (some 4) ?_ rfl rfl ?_ ?_; rotate_left
       ·intro W h; (try dsimp only at h); go_simp; (try with_reducible rfl)
       try simp only [Act.put, jA, jZ, jS]
       refine tk 10 (some 5) ?_ rfl rfl ?_ ?_; rotate_left
       ·intro W h; (try dsimp only at h); go_simp; (try with_reducible rfl)
       try simp only [Act.put, jA, jZ, jS]
       refine wpAnyH_done (by kernel_rfl) ?_ _; go_wp2_with fail
       go_ret2
       exact ⟨rfl, HB3.out.trans' HBz.out⟩
     ·go_simp
      refine (HPL.out _).mono ?_; rintro e Vb ⟨rfl, hb⟩; go_wp2_with fail; have hHeld := HKeep.out _ _ hb hHeld; refine hK.out _ _ hHeld (fun _ => ?_); have HBz := zj (HBz.out.trans' hb); clear hb; clear hK; try simp only [Act.put, jA, jZ, jS]
      refine rd1 2 rfl (fun KK hK => ?_); go_simp; have hHeld := HKeep.out _ _ (below_alloc _ (.cells #[.int .u8 0] 5)) hHeld; refine hK.out _ _ hHeld (fun _ => ?_); have HBz := zj (HBz.out.trans' (below_alloc _ (.cells #[.int .u8 0] 5))); have hblk := zj (heap_alloc_new Vb (.cells #[.int .u8 0] 5)); clear hK; try simp only [Act.put, jA, jZ, jS]
      refine rd1 3 rfl (fun KK hK => ?_); have hcv := HCV.out _ _ hblk.out; go_simp; refine hK.out _ _ hHeld (fun _ => ?_); clear hcv hblk; clear hK; try simp only [Act.put, jA, jZ, jS]
      refine tk 4 (some 34) ?_ rfl rfl ?_ ?_; rotate_left
      ·intro W h; (try dsimp only at h); go_simp; (try with_reducible rfl)
      try simp only [Act.put, jA, jZ, jS]
      refine tk 8 (some 38) ?_ rfl rfl ?_ ?_; rotate_left
      ·intro W h; (try dsimp only at h); go_simp; (try with_reducible rfl)
      try simp only [Act.put, jA, jZ, jS]
      refine tk 9 (some 4) ?_ rfl rfl ?_ ?_; rotate_left
      ·intro W h; (try dsimp only at h); go_simp; (try with_reducible rfl)
      try simp only [Act.put, jA, jZ, jS]
      refine tk 10 (some 5) ?_ rfl rfl ?_ ?_; rotate_left
      ·intro W h; (try dsimp only at h); go_simp; (try with_reducible rfl)
      try simp only [Act.put, jA, jZ, jS]
      refine wpAnyH_done (by kernel_rfl) ?_ _; go_wp2_with fail
      go_ret2
      exact ⟨rfl, HB3.out.trans' HBz.out⟩
    ·go_simp
     have hHeld := HKeep.out _ _ (below_alloc _ (.cells #[.int .u8 0] 5)) hHeld; refine hK.out _ _ hHeld (fun _ => ?_); have HBz := zj (HBz.out.trans' (below_alloc _ (.cells #[.int .u8 0] 5))); have hblk := zj (heap_alloc_new D (.cells #[.int .u8 0] 5)); clear hK; try simp only [Act.put, jA, jZ, jS]
     refine wpAnyH_ready (rs := [1, 3]) (by kernel_rfl) (by simp) (AllReadyH.cons rfl (fun KK hK => ?_) (AllReadyH.cons rfl (fun KK hK => ?_) AllReadyH.nil))
     ·go_simp
      refine (HPT.out _).mono ?_; rintro e Va ⟨rfl, hb⟩; go_wp2_with fail; have hHeld := HKeep.out _ _ hb hHeld; refine hK.out _ _ hHeld (fun _ => ?_); have HBz := zj (HBz.out.trans' hb); have hblk := zj ((hb.block _ (Array.getElem?_eq_some_iff.1 hblk.out).1).trans hblk.out); clear hb; clear hK; try simp only [Act.put, jA, jZ, jS]
      refine wpAnyH_ready (rs := [3, 7]) (by kernel_rfl) (by simp) (AllReadyH.cons rfl (fun KK hK => ?_) (AllReadyH.cons rfl (fun KK hK => ?_) AllReadyH.nil))
      ·have hcv := HCV.out _ _ hblk.out
       go_simp; refine hK.out _ _ hHeld (fun _ => ?_); clear hcv hblk; clear hK; try simp only [Act.put, jA, jZ, jS]
       refine tk 4 (some 34) ?_ rfl rfl ?_ ?_; rotate_left
       ·intro W h; (try dsimp only at h); go_simp; (try with_reducible rfl)
       try simp only [Act.put, jA, jZ, jS]
       refine rd1 7 rfl (fun KK hK => ?_); go_simp; refine (HPL.out _).mono ?_; rintro e Vb ⟨rfl, hb⟩; go_wp2_with fail; have hHeld := HKeep.out _ _ hb hHeld; refine hK.out _ _ hHeld (fun _ => ?_); have HBz := zj (HBz.out.trans' hb); clear hb; clear hK; try simp only [Act.put, jA, jZ, jS]
       refine tk 8 (some 38) ?_ rfl rfl ?_ ?_; rotate_left
       ·intro W h; (try dsimp only at h); go_simp; (try with_reducible rfl)
       try simp only [Act.put, jA, jZ, jS]
       refine tk 9 (some 4) ?_ rfl rfl ?_ ?_; rotate_left
       ·intro W h; (try dsimp only at h); go_simp; (try with_reducible rfl)
       try simp only [Act.put, jA, jZ, jS]
       refine tk 10 (some 5) ?_ rfl rfl ?_ ?_; rotate_left
       ·intro W h; (try dsimp only at h); go_simp; (try with_reducible rfl)
       try simp only [Act.put, jA, jZ, jS]
       refine wpAnyH_done (by kernel_rfl) ?_ _; go_wp2_with fail
       go_ret2
       exact ⟨rfl, HB3.out.trans' HBz.out⟩
      ·go_simp
       refine (HPL.out _).mono ?_; rintro e Vb ⟨rfl, hb⟩; go_wp2_with fail; have hHeld := HKeep.out _ _ hb hHeld; refine hK.out _ _ hHeld (fun _ => ?_); have HBz := zj (HBz.out.trans' hb); have hblk := zj ((hb.block _ (Array.getElem?_eq_some_iff.1 hblk.out).1).trans hblk.out); clear hb; clear hK; try simp only [Act.put, jA, jZ, jS]
       refine rd1 3 rfl (fun KK hK => ?_); have hcv := HCV.out _ _ hblk.out; go_simp; refine hK.out _ _ hHeld (fun _ => ?_); clear hcv hblk; clear hK; try simp only [Act.put, jA, jZ, jS]
       refine tk 4 (some 34) ?_ rfl rfl ?_ ?_; rotate_left
       ·intro W h; (try dsimp only at h); go_simp; (try with_reducible rfl)
       try simp only [Act.put, jA, jZ, jS]
       refine tk 8 (some 38) ?_ rfl rfl ?_ ?_; rotate_left
       ·intro W h; (try dsimp only at h); go_simp; (try with_reducible rfl)
       try simp only [Act.put, jA, jZ, jS]
       refine tk 9 (some 4) ?_ rfl rfl ?_ ?_; rotate_left
       ·intro W h; (try dsimp only at h); go_simp; (try with_reducible rfl)
       try simp only [Act.put, jA, jZ, jS]
       refine tk 10 (some 5) ?_ rfl rfl ?_ ?_; rotate_left
       ·intro W h; (try dsimp only at h); go_simp; (try with_reducible rfl)
       try simp only [Act.put, jA, jZ, jS]
       refine wpAnyH_done (by kernel_rfl) ?_ _; go_wp2_with fail
       go_ret2
       exact ⟨rfl, HB3.out.trans' HBz.out⟩
     ·have hcv := HCV.out _ _ hblk.out
      go_simp; refine hK.out _ _ hHeld (fun _ => ?_); clear hcv hblk; clear hK; try simp only [Act.put, jA, jZ, jS]
      refine rd1 1 rfl (fun KK hK => ?_); go_simp; refine (HPT.out _).mono ?_; rintro e Va ⟨rfl, hb⟩; go_wp2_with fail; have hHeld := HKeep.out _ _ hb hHeld; refine hK.out _ _ hHeld (fun _ => ?_); have HBz := zj (HBz.out.trans' hb); clear hb; clear hK; try simp only [Act.put, jA, jZ, jS]
      refine tk 4 (some 34) ?_ rfl rfl ?_ ?_; rotate_left
      ·intro W h; (try dsimp only at h); go_simp; (try with_reducible rfl)
      try simp only [Act.put, jA, jZ, jS]
      refine rd1 7 rfl (fun KK hK => ?_); go_simp; refine (HPL.out _).mono ?_; rintro e Vb ⟨rfl, hb⟩; go_wp2_with fail; have hHeld := HKeep.out _ _ hb hHeld; refine hK.out _ _ hHeld (fun _ => ?_); have HBz := zj (HBz.out.trans' hb); clear hb; clear hK; try simp only [Act.put, jA, jZ, jS]
      refine tk 8 (some 38) ?_ rfl rfl ?_ ?_; rotate_left
      ·intro W h; (try dsimp only at h); go_simp; (try with_reducible rfl)
      try simp only [Act.put, jA, jZ, jS]
      refine tk 9 (some 4) ?_ rfl rfl ?_ ?_; rotate_left
      ·intro W h; (try dsimp only at h); go_simp; (try with_reducible rfl)
      try simp only [Act.put, jA, jZ, jS]
      refine tk 10 (some 5) ?_ rfl rfl ?_ ?_; rotate_left
      ·intro W h; (try dsimp only at h); go_simp; (try with_reducible rfl)
      try simp only [Act.put, jA, jZ, jS]
      refine wpAnyH_done (by kernel_rfl) ?_ _; go_wp2_with fail
      go_ret2
      exact ⟨rfl, HB3.out.trans' HBz.out⟩
  ·have e : putVV t (pv O S L P) = .tuple #[.string ⟨#[]⟩, .int .i64 3] := if_neg (fun h => h2 h.2)
   rw [e]; rw [dF h2] at HR; clear e h1 h2 hts0 HKeep; obtain ⟨c0, c1, c2, c3⟩ := HK0.out.cells; go_enter Tryz.func118, Tryz.ntmps118; go_wp2_with fail; refine (HSU.out _).mono ?_; rintro e w1 ⟨rfl, rfl⟩; go_wp2_with fail; refine (HR.out _).mono ?_; rintro e w2 ⟨rfl, hb2⟩; go_wp2_with fail
   go_ret2
   exact ⟨rfl, hb0.trans' hb2⟩
 ·rw [dF h1] at HSU
  have e : putVV t (pv O S L P) = .tuple #[.string ⟨#[]⟩, .int .i64 3] := if_neg (fun h => by have := h.1; omega); rw [e]; clear e h1 hts0 HR HKeep HK0; go_enter Tryz.func118, Tryz.ntmps118; go_wp2_with fail; refine (HSU.out _).mono ?_; rintro e w1 ⟨rfl, rfl⟩; go_wp2_with fail
  go_ret2
  exact ⟨rfl, hb0⟩
end Go.Proofs.YtpeghilfldpgfaaGreatDoor.L9
