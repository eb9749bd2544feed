import Derived.Test.YtpeghilfldpgfaaGreatDoorTVDocG
import Derived.IntWalk
set_option linter.unusedVariables false
set_option linter.unusedSimpArgs false
set_option maxHeartbeats 8000000
set_option maxRecDepth 100000
namespace Go.Proofs.YtpeghilfldpgfaaGreatDoor.L9
open Go.RowKit
def gotK : Option (Nat × List UInt8) → Value
 | none => .tuple #[.int .i64 0, .string ⟨#[]⟩, .int .i64 3]
 | some x => .tuple #[.int .i64 (x.1 : Nat), .string ⟨x.2.toArray⟩, .int .i64 0]
theorem getK_of {l t : List UInt8} {k : Nat} (h : VP.parseK l = some (k, t)) : VP.getK l = if VP.OkK k t ∧ VP.cellK k t = l then some (k, t) else none := by unfold VP.getK; rw [h]
theorem getK_of_none {l : List UInt8} (h : VP.parseK l = none) : VP.getK l = none := by unfold VP.getK; rw [h]
theorem putKV_form (k : Int) (t : ByteArray) : ∃ (P : ByteArray) (e : Int), putKV k t = .tuple #[.string P, .int .i64 e] := by
 unfold putKV
 split
 ·exact ⟨_, _, rfl⟩
 ·exact ⟨_, _, rfl⟩
theorem rgetk_any (s : ByteArray) (w : World) (hs : s.size ≤ 1000000) :
  Calls Tryz.prog 80 #[.string s] w fun e w' => e = .returned (gotK (VP.getK s.data.toList)) ∧ Below w.heap.size w w' := by
 have hts : s.data.toList.length = s.size := by simp
 by_cases h4 : 4 ≤ s.size
 ·have HRD := zj (fun W => rread_any s 0 W (by omega) (by omega) (by unfold maxLen; omega))
  simp only [show (0 : Int).toNat = 0 from rfl, List.drop_zero] at HRD; have hle4 := WP.leNat_four s.data.toList; obtain ⟨pg, hpg⟩ : ∃ p, Lib.leNat (s.data.toList.take 4) = p := ⟨_, rfl⟩; rw [hpg] at HRD hle4; by_cases hp : 4095 < pg
  ·have hv : VP.getK s.data.toList = none := getK_of_none (by unfold VP.parseK; rw [hpg, if_neg fun h => by omega])
   rw [hv]; have d2 : decide ((4095 : Int) < pg) = true := dT (by omega); have d3 : decide (4095 < pg) = true := dT hp; clear hv hpg hts; go_enter Tryz.func80, Tryz.ntmps80; go_wp2_with fail; refine (HRD.out _).mono ?_; rintro e w1 ⟨rfl, rfl⟩; go_wp2_with fail
   go_ret3
   exact ⟨rfl, Below.refl _ _⟩
  have d2 : decide ((4095 : Int) < pg) = false := dF (by omega); have d3 : decide (4095 < pg) = false := dF hp; have q8 : IntKind.i64.wrap (pg : Int) = pg := IntWalk.i64_in _ (by omega); have HT := zj (fun W => rtext_any s 4 W h4 hs)
  cases hg : VP.gtext s.data.toList 4 with
  | none =>
   have hp1 : VP.parseK s.data.toList = none := by
    unfold VP.parseK; rw [hpg, if_pos ⟨by omega, by omega⟩]; simp only [hg]
   rw [hg] at HT; simp only [gotT, show ((4 : Nat) : Int) = 4 from rfl] at HT; rw [getK_of_none hp1]; obtain ⟨P, er, hpk⟩ := putKV_form pg ⟨#[]⟩; have HPK := zj (fun W => rputk_any pg ⟨#[]⟩ W (by decide)); rw [hpk] at HPK; clear hp1 hg hpg hpk hts; go_enter Tryz.func80, Tryz.ntmps80; go_wp2_with fail; refine (HRD.out _).mono ?_; rintro e w1 ⟨rfl, rfl⟩; go_wp2_with fail; refine (HT.out _).mono ?_; rintro e w1 ⟨rfl, hb1⟩; go_wp2_with fail; refine (HPK.out _).mono ?_; rintro e w2 ⟨rfl, hb2⟩; go_wp2_with fail
   go_ret3
   exact ⟨rfl, hb1.trans' hb2⟩
  | some x =>
   obtain ⟨t, i⟩ := x; obtain ⟨hi, htl⟩ := gtext_some hg; rw [hts] at hi htl; obtain ⟨T, rfl⟩ := listS t
   have hTs : T.size ≤ s.size := by simpa using htl
   have hTe : (⟨T.data.toList.toArray⟩ : ByteArray) = T := ByteArray.ext (by simp)
   have hp1 : VP.parseK s.data.toList = some (pg, T.data.toList) := by
    unfold VP.parseK; rw [hpg, if_pos ⟨by omega, by omega⟩]; simp only [hg]
   rw [hg] at HT; simp only [gotT, show ((4 : Nat) : Int) = 4 from rfl] at HT; rw [hTe] at HT; have HPK := zj (fun W => rputk_any pg T W (by omega)); have d4 : decide ((i : Int) < 0) = false := dF (by omega); by_cases hOk : VP.OkK (pg : Int) T.data.toList
   ·have e1 : putKV pg T = .tuple #[.string (kidS pg T), .int .i64 0] := if_pos hOk
    rw [e1] at HPK; by_cases hcs : kidS pg T = s
    ·have hv : VP.getK s.data.toList = some (pg, T.data.toList) := by
      rw [getK_of hp1, if_pos ⟨hOk, by rw [← hcs]; rfl⟩]
     rw [hv]; rw [hcs] at HPK; simp only [gotK]; rw [hTe]; have q2 : (s.toList == s.toList) = true := beq_self_eq_true _
     have q3 : (s.toList != s.toList) = false := by simp
     clear hv hcs e1 hOk hp1 hg hpg hts hTe htl; go_enter Tryz.func80, Tryz.ntmps80; go_wp2_with fail; refine (HRD.out _).mono ?_; rintro e w1 ⟨rfl, rfl⟩; go_wp2_with fail; refine (HT.out _).mono ?_; rintro e w1 ⟨rfl, hb1⟩; go_wp2_with fail; refine (HPK.out _).mono ?_; rintro e w2 ⟨rfl, hb2⟩; go_wp2_with fail
     go_ret3
     exact ⟨rfl, hb1.trans' hb2⟩
    ·have hv : VP.getK s.data.toList = none := by
      rw [getK_of hp1, if_neg]; rintro ⟨_, h⟩; exact hcs (ByteArray.ext (Array.toList_inj.1 h))
     rw [hv]; obtain ⟨C, hC⟩ : ∃ C, kidS pg T = C := ⟨_, rfl⟩; rw [hC] at HPK hcs
     have q2 : (C.toList == s.toList) = false := by
      rw [Lib.toList_data, Lib.toList_data]; exact beq_eq_false_iff_ne.2 fun e => hcs (ByteArray.ext (Array.toList_inj.1 e))
     have q3 : (C.toList != s.toList) = true := by rw [bne, q2]; rfl
     clear hv hcs e1 hOk hp1 hg hpg hts hTe htl hC; go_enter Tryz.func80, Tryz.ntmps80; go_wp2_with fail; refine (HRD.out _).mono ?_; rintro e w1 ⟨rfl, rfl⟩; go_wp2_with fail; refine (HT.out _).mono ?_; rintro e w1 ⟨rfl, hb1⟩; go_wp2_with fail; refine (HPK.out _).mono ?_; rintro e w2 ⟨rfl, hb2⟩; go_wp2_with fail
     go_ret3
     exact ⟨rfl, hb1.trans' hb2⟩
   ·have e1 : putKV pg T = .tuple #[.string ⟨#[]⟩, .int .i64 3] := if_neg hOk
    rw [e1] at HPK
    have hv : VP.getK s.data.toList = none := by
     rw [getK_of hp1, if_neg fun h => hOk h.1]
    rw [hv]; clear hv e1 hOk hp1 hg hpg hts hTe htl; go_enter Tryz.func80, Tryz.ntmps80; go_wp2_with fail; refine (HRD.out _).mono ?_; rintro e w1 ⟨rfl, rfl⟩; go_wp2_with fail; refine (HT.out _).mono ?_; rintro e w1 ⟨rfl, hb1⟩; go_wp2_with fail; refine (HPK.out _).mono ?_; rintro e w2 ⟨rfl, hb2⟩; go_wp2_with fail
    go_ret3
    exact ⟨rfl, hb1.trans' hb2⟩
 ·have hv : VP.getK s.data.toList = none := getK_of_none (by unfold VP.parseK; rw [if_neg fun h => by omega])
  rw [hv]; have HRD := zj (fun W => rread_short s 0 W (by omega) (by omega) (by omega) hs); clear hv hts; go_enter Tryz.func80, Tryz.ntmps80; go_wp2_with fail; refine (HRD.out _).mono ?_; rintro e w1 ⟨rfl, rfl⟩; go_wp2_with fail
  go_ret3
  exact ⟨rfl, Below.refl _ _⟩
end Go.Proofs.YtpeghilfldpgfaaGreatDoor.L9
namespace Go.Proofs.YtpeghilfldpgfaaGreatDoor.L10
open Go.RowKit NP
theorem nums_any (F R : Int) (H : ByteArray) (A : Option Addr) (n cap : Nat) (w : World) :
  Calls Tryz.prog 110 #[lv F R H A n cap] w fun e w' => e = .returned (.bool (decide (1 ≤ F ∧ F ≤ 4095 ∧ 0 ≤ R ∧ R ≤ 4095 ∧ R ≠ F))) ∧ Below w.heap.size w w' := by
 rcases (show F < 1 ∨ (1 ≤ F ∧ 4095 < F) ∨ (1 ≤ F ∧ F ≤ 4095 ∧ R < 0) ∨ (1 ≤ F ∧ F ≤ 4095 ∧ 0 ≤ R ∧ 4095 < R) ∨ (1 ≤ F ∧ F ≤ 4095 ∧ 0 ≤ R ∧ R ≤ 4095) by omega) with h | h | h | h | h
 ·rw [show decide (1 ≤ F ∧ F ≤ 4095 ∧ 0 ≤ R ∧ R ≤ 4095 ∧ R ≠ F) = false from dF (by omega)]
  have d1 : decide (1 ≤ F) = false := dF (by omega); clear h; go_enter Tryz.func110, Tryz.ntmps110; go_wp2_with fail; go_ret; exact ⟨rfl, L5.below_alloc _ _⟩
 ·rw [show decide (1 ≤ F ∧ F ≤ 4095 ∧ 0 ≤ R ∧ R ≤ 4095 ∧ R ≠ F) = false from dF (by omega)]
  have d1 : decide (1 ≤ F) = true := dT (by omega); have d2 : decide (F ≤ 4095) = false := dF (by omega); clear h; go_enter Tryz.func110, Tryz.ntmps110; go_wp2_with fail; go_ret; exact ⟨rfl, L5.below_alloc _ _⟩
 ·rw [show decide (1 ≤ F ∧ F ≤ 4095 ∧ 0 ≤ R ∧ R ≤ 4095 ∧ R ≠ F) = false from dF (by omega)]
  have d1 : decide (1 ≤ F) = true := dT (by omega); have d2 : decide (F ≤ 4095) = true := dT (by omega); have d3 : decide (0 ≤ R) = false := dF (by omega); clear h; go_enter Tryz.func110, Tryz.ntmps110; go_wp2_with fail; go_ret; exact ⟨rfl, L5.below_alloc _ _⟩
 ·rw [show decide (1 ≤ F ∧ F ≤ 4095 ∧ 0 ≤ R ∧ R ≤ 4095 ∧ R ≠ F) = false from dF (by omega)]
  have d1 : decide (1 ≤ F) = true := dT (by omega); have d2 : decide (F ≤ 4095) = true := dT (by omega); have d3 : decide (0 ≤ R) = true := dT (by omega); have d4 : decide (R ≤ 4095) = false := dF (by omega); clear h; go_enter Tryz.func110, Tryz.ntmps110; go_wp2_with fail; go_ret; exact ⟨rfl, L5.below_alloc _ _⟩
 ·have e : (R != F) = decide (1 ≤ F ∧ F ≤ 4095 ∧ 0 ≤ R ∧ R ≤ 4095 ∧ R ≠ F) := by
   by_cases hq : R = F
   ·rw [dF (by omega)]; simp [hq]
   ·rw [dT (by omega)]; simp [hq]
  generalize decide (1 ≤ F ∧ F ≤ 4095 ∧ 0 ≤ R ∧ R ≤ 4095 ∧ R ≠ F) = q at *; have d1 : decide (1 ≤ F) = true := dT (by omega); have d2 : decide (F ≤ 4095) = true := dT (by omega); have d3 : decide (0 ≤ R) = true := dT (by omega); have d4 : decide (R ≤ 4095) = true := dT (by omega); clear h; go_enter Tryz.func110, Tryz.ntmps110; go_wp2_with fail; go_ret; exact ⟨rfl, L5.below_alloc _ _⟩
theorem empty_of (H : ByteArray) : (H.toList == (⟨#[]⟩ : ByteArray).toList) = decide (H.size = 0) := by
 rw [Lib.toList_data ⟨#[]⟩, Lib.toList_data]
 have h : H.data.toList.length = H.size := by simp
 by_cases h0 : H.size = 0
 ·rw [dT h0, beq_iff_eq]
  exact List.eq_nil_of_length_eq_zero (by omega)
 ·rw [dF h0, beq_eq_false_iff_ne]
  intro e; rw [e] at h; exact h0 (by simpa using h.symm)
theorem empty_of' (H : ByteArray) : (H.toList == []) = decide (H.size = 0) := by
 rw [← empty_of]; rw [Lib.toList_data ⟨#[]⟩]
theorem rise_any (A : Option Addr) (l : List It) (ca : Nat) (w : World) (ha : Lies5 w w.heap.size A l) (hl : l.length ≤ 1000000) :
  Calls Tryz.prog 112 #[.slice A l.length ca] w fun e w' => e = .returned (.bool (decide (Rise l))) ∧ Below w.heap.size w w' := by
 have HA := zj ha; obtain ⟨r, HR⟩ : ∃ r, Hid (r = decide (Rise l)) := ⟨_, zj rfl⟩; rw [← HR.out]; obtain ⟨n, hn⟩ : ∃ n, n = l.length := ⟨_, rfl⟩; have HN := zj hn; rw [← hn]; rw [← hn] at hl; clear ha hn; go_enter Tryz.func112, Tryz.ntmps112; go_wp2_with fail
 go_loopw [3] (fun iv wr => ∃ k : Nat, 1 ≤ k ∧ (k ≤ n ∨ k = 1) ∧ iv = .int .i64 k ∧ Hid (Rise (l.take k)) ∧ Below w.heap.size w wr) (fun iv _ => n - (intOf iv).toNat)
 case atStart => exact ⟨1, by omega, by omega, rfl, zj (rise_one l), Below.refl _ _⟩
 case round =>
  obtain ⟨k, hk1, hk, rfl, HK, hbw⟩ := hrel; by_cases hlt : k < n
  ·obtain ⟨j, rfl⟩ : ∃ j, k = j + 1 := ⟨k - 1, by omega⟩
   obtain ⟨⟨K, O, S, L, P⟩, hc⟩ : ∃ c, l[j]? = some c := ⟨_, List.getElem?_eq_getElem (by have := HN.out; omega)⟩; obtain ⟨⟨K', O', S', L', P'⟩, hd⟩ : ∃ c, l[j + 1]? = some c := ⟨_, List.getElem?_eq_getElem (by have := HN.out; omega)⟩; obtain ⟨a, rfl, hab, x0, x1, x2, x3, x4⟩ := (HA.out.below hbw).load hc; obtain ⟨b, hbe, hbb, y0, y1, y2, y3, y4⟩ := (HA.out.below hbw).load hd; obtain rfl := Option.some.inj hbe; clear hbe; by_cases hq : K.data.toList < K'.data.toList
   ·have hz := L5.less_yes hq
    have HX := zj (rise_next hc hd HK.out hq); clear hc hd hq hab hbb; go_wp2_with fail
    go_quiet (fail)
    go_wp2_with fail
    go_roundw
    case rel => exact ⟨j + 1 + 1, by omega, by omega, by simp, HX, L5.below_drewN hbw _⟩
    case measure => simp [intOf]; omega
   ·have hz := L5.less_no hq
    have HX : Hid (r = false) := zj (by rw [HR.out]; exact dF (rise_not hc hd hq)); clear hc hd hq hab hbb; go_wp2_with fail
    go_quiet (fail)
    go_wp2_with fail; go_ret; exact ⟨by rw [HX.out]; rfl, L5.below_drewN hbw _⟩
  ·have HX : Hid (r = true) := zj (by
    rw [HR.out]; refine dT ?_; have h := HK.out
    rwa [List.take_of_length_le (by have := HN.out; omega)] at h)
   have hlt' : ¬ (k : Int) < n := by omega
   clear hk; go_wp2_with fail; go_ret; exact ⟨by rw [HX.out]; rfl, hbw⟩
theorem high_any (F R : Int) (H : ByteArray) (A : Option Addr) (l : List It) (ca p : Nat) (w : World) (ha : Lies5 w w.heap.size A l) (hl : l.length ≤ 1000000) (hp : p ≤ 1000000) (hh : H.size ≤ maxLen) :
  ∃ b : Bool, (b = true ↔ HighL R H l p) ∧ Calls Tryz.prog 111 #[lv F R H A l.length ca, .int .i64 p] w fun e w' => e = .returned (.bool b) ∧ Below w.heap.size w w' := by
 unfold maxLen at hh; have he := empty_of H; have he' := empty_of' H; by_cases h0 : R = 0
 ·subst h0
  refine ⟨decide (H.size = 0), ⟨fun h => ⟨fun _ => of_decide_eq_true h, fun h => absurd rfl h⟩, fun h => dT (h.1 rfl)⟩, ?_⟩; generalize decide (H.size = 0) = q at *; clear ha; go_enter Tryz.func111, Tryz.ntmps111; go_wp2_with fail; go_ret; exact ⟨rfl, L5.below_alloc _ _⟩
 have hR : (R == 0) = false := beq_eq_false_iff_ne.2 h0; have hw : IntKind.i64.wrap ((p : Int) / 8) = (p : Int) / 8 := IntWalk.i64_in _ (by omega); by_cases h1 : H.size = 0
 ·refine ⟨false, ⟨fun h => (by cases h), fun h => absurd h1 (h.2 h0).1⟩, ?_⟩
  rw [dT h1] at he he'; clear ha h1; go_enter Tryz.func111, Tryz.ntmps111; go_wp2_with fail
  go_quiet (fail)
  go_wp2_with fail; go_ret; exact ⟨rfl, L5.below_drewN (L5.below_alloc _ _) _⟩
 rw [dF h1] at he he'; by_cases h2 : p / 8 < H.size
 ·refine ⟨false, ⟨fun h => (by cases h), fun h => by have := (h.2 h0).2.1; omega⟩, ?_⟩
  have d1 : decide (H.size ≤ p / 8) = false := dF (by omega); have d2 : decide ((H.size : Int) ≤ (p : Int) / 8) = false := dF (by omega); clear ha; go_enter Tryz.func111, Tryz.ntmps111; go_wp2_with fail
  go_quiet (fail)
  go_wp2_with fail; go_ret; exact ⟨rfl, L5.below_drewN (L5.below_alloc _ _) _⟩
 have d1 : decide (H.size ≤ p / 8) = true := dT (by omega); have d2 : decide ((H.size : Int) ≤ (p : Int) / 8) = true := dT (by omega); by_cases h3 : l.length = 0
 ·refine ⟨true, ⟨fun _ => ⟨fun h => absurd h h0, fun _ => ⟨h1, by omega, fun x hx => by rw [List.eq_nil_of_length_eq_zero h3] at hx; simp at hx⟩⟩, fun _ => rfl⟩, ?_⟩
  rw [h3]; clear ha; go_enter Tryz.func111, Tryz.ntmps111; go_wp2_with fail
  go_quiet (fail)
  go_wp2_with fail; go_ret; exact ⟨rfl, L5.below_drewN (L5.below_alloc _ _) _⟩
 obtain ⟨j, hj⟩ : ∃ j, l.length = j + 1 := ⟨l.length - 1, by omega⟩; obtain ⟨⟨K, O, S, L, P⟩, hc⟩ : ∃ c, l[j]? = some c := ⟨_, List.getElem?_eq_getElem (by omega)⟩; obtain ⟨a, rfl, hab, x0, x1, x2, x3, x4⟩ := ((ha.below (L5.below_alloc w (.cells #[.int .i64 F, .int .i64 R, .string H, .slice A l.length ca] 26))).load hc); refine ⟨decide (K.data.toList < H.data.toList), ?_, ?_⟩
 ·refine ⟨fun h => ⟨fun h => absurd h h0, fun _ => ⟨h1, by omega, fun x hx => ?_⟩⟩, fun h => dT ?_⟩
  ·rw [hj, Nat.add_sub_cancel, hc] at hx
   obtain rfl := Option.some.inj hx; exact of_decide_eq_true h
  ·exact (h.2 h0).2.2 _ (by rw [hj, Nat.add_sub_cancel]; exact hc)
 ·have hz := L5.less_of K H
  generalize decide (L5.B K < L5.B H) = q at *; rw [hj]; rw [hj] at hl x0 x1 x2 x3 x4; have d3 : decide ((j : Int) < 0) = false := dF (by omega); clear ha hc hab hj h3; go_enter Tryz.func111, Tryz.ntmps111; go_wp2_with fail
  go_quiet (fail)
  go_wp2_with fail; go_ret; exact ⟨rfl, L5.below_drewN (L5.below_alloc _ _) _⟩
end Go.Proofs.YtpeghilfldpgfaaGreatDoor.L10
namespace Go.Proofs.YtpeghilfldpgfaaGreatDoor.L9
open Go.RowKit
theorem below_drewN {c : Nat} {w v : World} (h : Below c w v) (n : Nat) : Below c w (v.drewN n) := ⟨h.os, h.tape, h.output, h.size, h.block⟩
theorem Tryz.infoByte : (Tryz.prog.info? 5).map (fun i => (i.zero, i.size, i.bytes)) = some (some (.int .u8 0), 1, 1) := by kernel_rfl
abbrev B (s : ByteArray) : List UInt8 := s.data.toList
theorem b_size (s : ByteArray) : (B s).length = s.size := by simp [B]
def txt (s : ByteArray) : Array Value := (Lib.byteCells (B s)).toArray
theorem txt_size (s : ByteArray) : (txt s).size = s.size := by simp [txt, Lib.byteCells_length]
theorem litClone_any (s : ByteArray) (w : World) (hs : s.size ≤ 1000000) :
  Calls Tryz.prog 160 #[.string s] w fun e w' => e = .returned (.string s) ∧ Below w.heap.size w w' := by
 by_cases h0 : s.size = 0
 ·obtain rfl : s = ⟨#[]⟩ := ByteArray.ext (Array.eq_empty_of_size_eq_zero h0)
  go_enter Tryz.func160, Tryz.ntmps160
  go_wp2
  go_ret; exact ⟨rfl, Below.refl _ _⟩
 ·obtain ⟨i0, hi, hz0, hz1, hz2⟩ := info_parts Tryz.infoByte
  have hsz : (Tryz.prog.info? 5).map (·.size) = some 1 := by rw [hi]; simp [hz1]
  have hcells : Tryz.prog.cellsOf 5 = 1 := by simp [Program.cellsOf, hi, hz1]
  obtain ⟨Z, hZ⟩ : ∃ Z, Z = madeCells (Value.int .u8 0).cells (((s.size : Nat) : Int).toNat * i0.size) := ⟨_, rfl⟩
  have hZs : Z.size = s.size := by rw [hZ, size_madeCells, hz1]; simp
  -- the bytes are made,
  have mk : ∀ W : World, (Instr.makeSlice 86 (.int .i64 (s.size : Int)) (.int .i64 (s.size : Int))).run Tryz.prog W = .ok (.slice (some ⟨W.heap.size, 0, none⟩) s.size s.size) (W.alloc (.cells Z 5)) := fun W => by
   have h := run_make (P := Tryz.prog) W 86 5 i0 (.int .u8 0) Tryz.underlying86 hi hz0 .i64 .i64 (s.size : Int) (s.size : Int) (by omega) (by omega) (by rw [hz2]; omega) (by omega); rw [← hZ] at h
   simpa using h
  clear hZ
  -- become the text's,
  have heap1 := heap_alloc_new w (.cells Z 5); have cp := Lib.run_copy_row_string (P := Tryz.prog) (w.alloc (.cells Z 5)) 86 9 3 5 w.heap.size 0 s.size s.size s Z 5 Tryz.underlying86 hsz heap1 (Nat.le_refl _) (by omega)
  rw [show (Z.toList.take 0 ++ Lib.byteCells s.data.toList ++ Z.toList.drop (0 + s.size)).toArray = txt s by
   rw [List.take_zero, List.nil_append, List.drop_of_length_le (by simp; omega), List.append_nil]; rfl] at cp
  have heap2 : ((w.alloc (.cells Z 5)).setRow w.heap.size (txt s)).heap[w.heap.size]? = some (.cells (txt s) 5 (0, 0)) := setRow_heap _ _ Z _ 5 (0, 0) heap1; have hb2 : Below w.heap.size w ((w.alloc (.cells Z 5)).setRow w.heap.size (txt s)) := (below_alloc w _).trans ⟨rfl, rfl, rfl, by simp, fun k hk => setRow_other _ _ _ _ (by omega)⟩; have hne : B s ≠ [] := fun e => h0 (by rw [← b_size, e]; rfl); generalize (w.alloc (.cells Z 5)).setRow w.heap.size (txt s) = w2 at *
  -- and are the answer.
  have us := Lib.run_unsafeString_row (P := Tryz.prog) w2 272 3 9 5 Tryz.underlying272 hcells w.heap.size (txt s).size (by unfold World.shape?; rw [heap2]) (B s) hne (by rw [b_size, txt_size]; exact Nat.le_refl _) (by rw [b_size]; omega)
   (fun j x hx => Lib.cells_of_row heap2 (txt s).size j _ (by rw [List.take_of_length_le (by rw [Array.length_toList]; exact Nat.le_refl _)]; simp [txt, Lib.byteCells, hx]))
  rw [b_size] at us; have hfz := Lib.below_freeze hb2 (p := ⟨w.heap.size, 0, none⟩) (Nat.le_refl _) s.size; go_enter Tryz.func160, Tryz.ntmps160
  go_wp2
  go_ret; exact ⟨rfl, hfz⟩
theorem clone_any (s : ByteArray) (w : World) (hs : s.size ≤ 1000000) :
  Calls Tryz.prog 98 #[.string s] w fun e w' => e = .returned (.string s) ∧ Below w.heap.size w w' := by
 go_enter Tryz.func98, Tryz.ntmps98; go_wp2_with fail; refine (litClone_any s _ hs).mono ?_; rintro e w1 ⟨rfl, hb1⟩; go_wp2_with fail; go_ret; exact ⟨rfl, hb1⟩
def FB (t : TypeId) (g : Nat) (s : ByteArray) (i : Nat) (b : Bool) (R : List Value) (w : World) : Prop := w.heap[g]? = some (.cells (.string s :: .int .i64 i :: .bool b :: R).toArray t (0, 0))
section
variable {t : TypeId} {g : Nat} {s : ByteArray} {i : Nat} {b : Bool} {R : List Value} {w w' : World}
theorem FB.cells (k : FB t g s i b R w) : w.cell? ⟨g, 0, none⟩ = some (.string s) ∧ w.cell? ⟨g, 1, none⟩ = some (.int .i64 i) ∧ w.cell? ⟨g, 2, none⟩ = some (.bool b) := by
 unfold FB at k
 refine ⟨?_, ?_, ?_⟩ <;> simp [World.cell?, k]
theorem FB.free (k : FB t g s i b R w) (j : Nat) : w.frozen? ⟨g, j, none⟩ = false := by
 unfold FB at k; simp [World.frozen?, k]
theorem FB.lt (k : FB t g s i b R w) : g < w.heap.size := (Array.getElem?_eq_some_iff.1 k).1
theorem FB.below (k : FB t g s i b R w) (h : Below w.heap.size w w') : FB t g s i b R w' := (h.block g k.lt).trans k
theorem FB.setAt (k : FB t g s i b R w) (j : Nat) : FB t g s j b R (w.setCell ⟨g, 1, none⟩ (.int .i64 j)) := by
 have h := heap_setCell_same w g 1 _ _ (.int .i64 j) k; unfold FB
 simpa using h
theorem FB.setBad (k : FB t g s i b R w) : FB t g s i true R (w.setCell ⟨g, 2, none⟩ (.bool true)) := by
 have h := heap_setCell_same w g 2 _ _ (.bool true) k; unfold FB
 simpa using h
theorem FB.base (k : FB t g s i b R w) (h : Below w.heap.size w w') : Below g w w' := h.mono (Nat.le_of_lt k.lt)
theorem fbKeep (t : TypeId) (g : Nat) (s : ByteArray) (i : Nat) (b : Bool) (R : List Value) : Hid (∀ W W' : World, Below W.heap.size W W' → (Hid (FB t g s i b R W) ∧ W.cell? ⟨g, 0, none⟩ = some (.string s) ∧ W.cell? ⟨g, 1, none⟩ = some (.int .i64 i)) → Hid (FB t g s i b R W') ∧ W'.cell? ⟨g, 0, none⟩ = some (.string s) ∧ W'.cell? ⟨g, 1, none⟩ = some (.int .i64 i)) :=
 zj fun W W' hb h => ⟨zj (h.1.out.below hb), (h.1.out.below hb).cells.1, (h.1.out.below hb).cells.2.1⟩
end
theorem number_any (t : TypeId) (g : Nat) (s : ByteArray) (i : Nat) (b : Bool) (R : List Value) (w : World) (k : Hid (FB t g s i b R w)) (hi : i ≤ s.size) (hs : s.size ≤ 1000000) (n j : Nat) (c : Bool) (hn : VP.numF s.data.toList i b = (n, j, c)) :
  Calls Tryz.prog 195 #[.pointer (some ⟨g, 0, none⟩)] w fun e w' => e = .returned (.int .i64 n) ∧ Hid (FB t g s j c R w') ∧ Below g w w' := by
 have HG := zj (fun W => get_any s (i : Int) W (by omega) (by omega) (by unfold maxLen; omega)); rw [Int.toNat_natCast] at HG; have hsp := WP.get_spec s.data.toList i; have hKeep := fbKeep t g s i b R; obtain ⟨c0, c1, c2⟩ := k.out.cells; have hS0 : Hid (FB t g s i b R w) ∧ w.cell? ⟨g, 0, none⟩ = some (.string s) ∧ w.cell? ⟨g, 1, none⟩ = some (.int .i64 i) := ⟨k, c0, c1⟩; unfold VP.numF at hn; obtain ⟨m, tu, er, hg⟩ := VP.triple (WP.get s.data.toList i); simp only [hg] at HG hsp hn
 have hcase : (((er = 7 ∨ er = 3) ∧ m = 0 ∧ tu = 0) ∧ n = 0 ∧ j = i ∧ c = true) ∨ (er = 0 ∧ 4096 < m ∧ m ≤ 18446744073709551615 ∧ n = 0 ∧ j = i ∧ c = true) ∨ (er = 0 ∧ m ≤ 4096 ∧ n = m ∧ j = tu ∧ c = b) := by
  have hm : m ≤ 18446744073709551615 := by
   rcases hsp with e | e | ⟨_, _, e, _, _, _, h⟩ <;> (simp only [Prod.mk.injEq] at e; omega)
  split at hn
  ·rename_i h
   simp only [Prod.mk.injEq] at hn; exact .inr (.inr ⟨h.1, h.2, hn.1.symm, hn.2.1.symm, hn.2.2.symm⟩)
  ·rename_i h
   simp only [Prod.mk.injEq] at hn; by_cases h0 : er = 0
   ·exact .inr (.inl ⟨h0, Nat.lt_of_not_le fun h1 => h ⟨h0, h1⟩, hm, hn.1.symm, hn.2.1.symm, hn.2.2.symm⟩)
   ·refine .inl ⟨?_, hn.1.symm, hn.2.1.symm, hn.2.2.symm⟩
    rcases hsp with e | e | ⟨_, _, e, _⟩ <;> (simp only [Prod.mk.injEq] at e; omega)
 clear hsp hn hg; go_enter Tryz.func195, Tryz.ntmps195; go_wp2_with fail
 go_region_held3 (fun Z => Hid (FB t g s i b R Z) ∧ Z.cell? ⟨g, 0, none⟩ = some (.string s) ∧ Z.cell? ⟨g, 1, none⟩ = some (.int .i64 i))
  (first | assumption | exact hS0 | exact hKeep.out _ _ (by assumption) (by assumption))
  (first
   | (go_at_call 148; refine (HG.out _).mono ?_; rintro e w1 ⟨rfl, hb1⟩)
   | fail "no arm")
 have hb := below_of_drew hb1; have K1 := zj (k.out.below hb); have HB := zj (k.out.base hb); obtain ⟨d0, d1, d2⟩ := K1.out.cells; have f1 := K1.out.free 1; have f2 := K1.out.free 2; clear hb hb1 hS0 hKeep HG c0 c1 c2 hi hs k; rcases hcase with ⟨⟨rfl | rfl, rfl, rfl⟩, rfl, rfl, rfl⟩ | ⟨rfl, h1, h2, rfl, rfl, rfl⟩ | ⟨rfl, h1, rfl, rfl, rfl⟩
 ·go_wp2_with fail
  go_ret; exact ⟨rfl, zj K1.out.setBad, HB.out.setCell (p := ⟨g, 2, none⟩) (Nat.le_refl _) _⟩
 ·go_wp2_with fail
  go_ret; exact ⟨rfl, zj K1.out.setBad, HB.out.setCell (p := ⟨g, 2, none⟩) (Nat.le_refl _) _⟩
 ·have d3 : decide (((m : Nat) : Int) > 4096) = true := dT (by omega)
  have d4 : decide ((4096 : Int) < (m : Nat)) = true := dT (by omega); clear h1 h2; go_wp2_with fail; go_ret; exact ⟨rfl, zj K1.out.setBad, HB.out.setCell (p := ⟨g, 2, none⟩) (Nat.le_refl _) _⟩
 ·have d4 : decide ((4096 : Int) < (n : Nat)) = false := dF (by omega)
  have q : IntKind.i64.wrap (n : Int) = n := IntWalk.i64_in _ (by omega); clear h1; go_wp2_with fail; go_ret; exact ⟨rfl, zj (K1.out.setAt j), HB.out.setCell (p := ⟨g, 1, none⟩) (Nat.le_refl _) _⟩
theorem four_of (t : TypeId) (g : Nat) (s : ByteArray) (i : Nat) (b : Bool) (R : List Value) (w : World) (k : Hid (FB t g s i b R w)) (hi : i ≤ s.size) (hs : s.size ≤ 1000000) (n j : Nat) (c : Bool) (hn : VP.fourF s.data.toList i b = (n, j, c)) :
  Calls Tryz.prog 196 #[.pointer (some ⟨g, 0, none⟩)] w fun e w' => e = .returned (.int .i64 n) ∧ Hid (FB t g s j c R w') ∧ Below g w w' := by
 have hKeep := fbKeep t g s i b R; obtain ⟨c0, c1, c2⟩ := k.out.cells; have f1 := k.out.free 1; have f2 := k.out.free 2
 have hts : s.data.toList.length = s.size := by simp
 unfold VP.fourF at hn; rw [hts] at hn; have HB := zj (Below.refl g w); by_cases h : i + 4 ≤ s.size
 ·rw [if_pos h] at hn
  have HG := zj (fun W => read_any s (i : Int) W (by omega) (by omega) (by unfold maxLen; omega)); rw [Int.toNat_natCast] at HG; have hle := WP.leNat_four (s.data.toList.drop i); generalize Lib.leNat ((s.data.toList.drop i).take 4) = m at *; simp only [Prod.mk.injEq] at hn; obtain ⟨rfl, hj, rfl⟩ := hn
  have q1 : IntKind.i64.wrap ((i : Int) + 4) = j := by rw [show (i : Int) + 4 = j by omega]; exact IntWalk.i64_in _ (by omega)
  have q2 : IntKind.i64.wrap (m : Int) = m := IntWalk.i64_in _ (by omega); clear h hts hi hs hle hj; go_enter Tryz.func196, Tryz.ntmps196; go_wp2_with fail
  go_quiet ((go_at_call 99; exact quiet_of_eq (HG.out _)))
  go_wp2_with fail; go_ret; exact ⟨rfl, zj (k.out.setAt j), (below_drewN HB.out nq).setCell (p := ⟨g, 1, none⟩) (Nat.le_refl _) _⟩
 ·rw [if_neg h] at hn
  have HG := zj (fun W => read_short s (i : Int) W (by omega) (by omega) (by omega)); simp only [Prod.mk.injEq] at hn; obtain ⟨rfl, rfl, rfl⟩ := hn; clear h hts hi hs; go_enter Tryz.func196, Tryz.ntmps196; go_wp2_with fail
  go_quiet ((go_at_call 99; exact quiet_of_eq (HG.out _)))
  go_wp2_with fail; go_ret; exact ⟨rfl, zj k.out.setBad, (below_drewN HB.out nq).setCell (p := ⟨g, 2, none⟩) (Nat.le_refl _) _⟩
theorem take_any (t : TypeId) (g : Nat) (s : ByteArray) (i : Nat) (b : Bool) (R : List Value) (w : World) (k : Hid (FB t g s i b R w)) (n : Nat) (hi : i ≤ s.size) (hs : s.size ≤ 1000000) (hn4 : n ≤ 4096) (T : List UInt8) (j : Nat) (c : Bool) (hn : VP.takeF s.data.toList i b n = (T, j, c)) :
  Calls Tryz.prog 197 #[.pointer (some ⟨g, 0, none⟩), .int .i64 n] w fun e w' => e = .returned (.string ⟨T.toArray⟩) ∧ Hid (FB t g s j c R w') ∧ Below g w w' := by
 obtain ⟨c0, c1, c2⟩ := k.out.cells; have f1 := k.out.free 1; have f2 := k.out.free 2
 have hts : s.data.toList.length = s.size := by simp
 unfold VP.takeF at hn; rw [hts] at hn; have HB := zj (Below.refl g w); obtain ⟨r, hr⟩ : ∃ r, s.size - i = r := ⟨_, rfl⟩
 have q0 : IntKind.i64.wrap ((s.size : Int) - i) = r := by rw [show (s.size : Int) - i = r by omega]; exact IntWalk.i64_in _ (by omega)
 by_cases h : i + n ≤ s.size
 ·rw [if_pos h] at hn
  simp only [Prod.mk.injEq] at hn; obtain ⟨rfl, hj, rfl⟩ := hn
  have q1 : IntKind.i64.wrap ((i : Int) + n) = j := by rw [show (i : Int) + n = j by omega]; exact IntWalk.i64_in _ (by omega)
  have d1 : decide ((r : Int) < n) = false := dF (by omega); have d2 : decide (r < n) = false := dF (by omega); have he := extract_list s i n; rw [hj] at he; rw [he]
  have j1 : (0 : Int) ≤ i := by omega
  have j2 : (i : Int) ≤ j := by omega
  have j3 : (j : Int) ≤ s.size := by omega
  have j4 : i ≤ j := by omega
  have j5 : j ≤ s.size := by omega
  have HC := zj (fun W => clone_any (s.extract i j) W (by simp; omega)); have hKeep := fbKeep t g s j b R; clear h hts he hj hr hs hn4 hi; go_enter Tryz.func197, Tryz.ntmps197; go_wp2_with fail
  go_quiet (fail)
  go_wp2_with fail; have K1 : Hid (FB t g s j b R ((w.drewN nq).setCell ⟨g, 1, none⟩ (.int .i64 j))) := zj (FB.setAt (w := w.drewN nq) k.out j); have HB1 := zj ((below_drewN HB.out nq).setCell (p := ⟨g, 1, none⟩) (Nat.le_refl _) (.int .i64 j)); generalize (w.drewN nq).setCell ⟨g, 1, none⟩ (.int .i64 j) = w1 at *; obtain ⟨e0, e1, e2⟩ := K1.out.cells; have hS0 : Hid (FB t g s j b R w1) ∧ w1.cell? ⟨g, 0, none⟩ = some (.string s) ∧ w1.cell? ⟨g, 1, none⟩ = some (.int .i64 j) := ⟨K1, e0, e1⟩; clear c0 c1 c2 f1 f2 k HB
  go_region_held3 (fun Z => Hid (FB t g s j b R Z) ∧ Z.cell? ⟨g, 0, none⟩ = some (.string s) ∧ Z.cell? ⟨g, 1, none⟩ = some (.int .i64 j))
   (first | assumption | exact hS0 | exact hKeep.out _ _ (by assumption) (by assumption))
   (first
    | (go_at_call 98; refine (HC.out _).mono ?_; rintro e w2 ⟨rfl, hb2⟩)
    | fail "no arm")
  have hb := below_of_drew hb2; go_wp2_with fail; go_ret; exact ⟨rfl, zj (K1.out.below hb), HB1.out.trans (K1.out.base hb)⟩
 ·rw [if_neg h] at hn
  simp only [Prod.mk.injEq] at hn; obtain ⟨rfl, rfl, rfl⟩ := hn; have d1 : decide ((r : Int) < n) = true := dT (by omega); have d2 : decide (r < n) = true := dT (by omega); clear h hts hr hs hn4 hi; go_enter Tryz.func197, Tryz.ntmps197; go_wp2_with fail
  go_quiet (fail)
  go_wp2_with fail; go_ret; exact ⟨rfl, zj k.out.setBad, (below_drewN HB.out nq).setCell (p := ⟨g, 2, none⟩) (Nat.le_refl _) _⟩
theorem tripleL (x : List UInt8 × Nat × Bool) : ∃ a b c, x = (a, b, c) := ⟨_, _, _, rfl⟩
theorem text_of (t : TypeId) (g : Nat) (s : ByteArray) (i : Nat) (b : Bool) (R : List Value) (w : World) (k : Hid (FB t g s i b R w)) (hi : i ≤ s.size) (hs : s.size ≤ 1000000) (T : List UInt8) (j : Nat) (c : Bool) (hn : VP.textF s.data.toList i b = (T, j, c)) :
  Calls Tryz.prog 193 #[.pointer (some ⟨g, 0, none⟩)] w fun e w' => e = .returned (.string ⟨T.toArray⟩) ∧ Hid (FB t g s j c R w') ∧ Below g w w' := by
 have hts : s.data.toList.length = s.size := by simp
 unfold VP.textF at hn; have hb := VP.num_at (l := s.data.toList) (b := b) (by rw [hts]; exact hi); obtain ⟨n, j1, c1, e1⟩ := VP.triple (VP.numF s.data.toList i b); rw [e1] at hn hb; simp only at hn hb; rw [hts] at hb; have HN := zj (number_any t g s i b R w k hi hs n j1 c1 e1); have HT := zj (fun W (k : Hid (FB t g s j1 c1 R W)) => take_any t g s j1 c1 R W k n hb.1 hs hb.2.1 T j c hn); clear hn hb e1 hts hi hs k; go_enter Tryz.func193, Tryz.ntmps193; go_wp2_with fail; refine HN.out.mono ?_; rintro e w1 ⟨rfl, k1, hb1⟩; go_wp2_with fail; refine (HT.out _ k1).mono ?_; rintro e w2 ⟨rfl, k2, hb2⟩; go_wp2_with fail; go_ret; exact ⟨rfl, k2, hb1.trans hb2⟩
theorem mark_of (t : TypeId) (g : Nat) (s : ByteArray) (i : Nat) (b : Bool) (R : List Value) (w : World) (k : Hid (FB t g s i b R w)) (hi : i ≤ s.size) (hs : s.size ≤ 1000000) (m : UInt8) (j : Nat) (c : Bool) (hn : VP.markF s.data.toList i b = (m, j, c)) :
  Calls Tryz.prog 194 #[.pointer (some ⟨g, 0, none⟩)] w fun e w' => e = .returned (.int .u8 m.toNat) ∧ Hid (FB t g s j c R w') ∧ Below g w w' := by
 unfold VP.markF at hn; obtain ⟨T, j1, c1, e1⟩ := tripleL (VP.takeF s.data.toList i b 1); rw [e1] at hn; simp only [Prod.mk.injEq] at hn; obtain ⟨hm, rfl, rfl⟩ := hn; have HT := zj (take_any t g s i b R w k 1 hi hs (by decide) T j1 c1 e1)
 cases c1 with
 | true =>
  simp only [if_true] at hm; subst hm; clear e1 hi hs k; go_enter Tryz.func194, Tryz.ntmps194; go_wp2_with fail; refine HT.out.mono ?_; rintro e w1 ⟨rfl, k1, hb1⟩; obtain ⟨c0, c1, c2⟩ := k1.out.cells; go_wp2_with fail; go_ret; exact ⟨rfl, k1, hb1⟩
 | false =>
  obtain ⟨_, hl, _⟩ := VP.take_good e1
  match T, hl with
  | [x], _ =>
   simp at hm; subst hm; have hz : (⟨#[x]⟩ : ByteArray).size = 1 := rfl; clear e1 hi hs k; go_enter Tryz.func194, Tryz.ntmps194; go_wp2_with fail; refine HT.out.mono ?_; rintro e w1 ⟨rfl, k1, hb1⟩; obtain ⟨c0, c1, c2⟩ := k1.out.cells; go_wp2_with fail; go_ret; exact ⟨rfl, k1, hb1⟩
theorem whole_any (t : TypeId) (g : Nat) (s : ByteArray) (i : Nat) (b : Bool) (R : List Value) (w : World) (k : Hid (FB t g s i b R w)) (hi : i ≤ s.size) (hs : s.size ≤ 1000000) :
  Calls Tryz.prog 152 #[.pointer (some ⟨g, 0, none⟩)] w fun e w' => e = .returned (.bool (decide ((i, b) = (s.data.toList.length, false)))) ∧ Hid (FB t g s i b R w') ∧ Below g w w' := by
 have hts : s.data.toList.length = s.size := by simp
 obtain ⟨c0, c1, c2⟩ := k.out.cells; have HB := zj (Below.refl g w); rw [hts]; clear hts
 cases b with
 | true =>
  have e : decide ((i, true) = (s.size, false)) = false := dF (by simp); rw [e]; clear e hi hs; go_enter Tryz.func152, Tryz.ntmps152; go_wp2_with fail
  go_quiet (fail)
  go_wp2_with fail; go_ret; exact ⟨rfl, k, below_drewN HB.out nq⟩
 | false =>
  have e : decide ((i, false) = (s.size, false)) = ((i : Int) == s.size) := by
   by_cases h : i = s.size
   ·rw [dT (by rw [h]), h]; simp
   ·rw [dF (by simp [h])]; exact (beq_eq_false_iff_ne.2 (by omega)).symm
  rw [e]; clear e hi hs; go_enter Tryz.func152, Tryz.ntmps152; go_wp2_with fail
  go_quiet (fail)
  go_wp2_with fail; go_ret; exact ⟨rfl, k, below_drewN HB.out nq⟩
section
variable {t : TypeId} {g : Nat} {s : ByteArray} {i : Nat} {b : Bool} {R : List Value} {w w' : World}
theorem FB.cellR (k : FB t g s i b R w) (m : Nat) : w.cell? ⟨g, m + 3, none⟩ = R[m]? := by
 unfold FB at k; simp [World.cell?, k]
theorem FB.setR (k : FB t g s i b R w) (m : Nat) (v : Value) : FB t g s i b (R.set m v) (w.setCell ⟨g, m + 3, none⟩ v) := by
 have h := heap_setCell_same w g (m + 3) _ _ v k; unfold FB
 simpa using h
end
abbrev vr (T : ByteArray) (O : Bool) (S : ByteArray) (L P : Int) : List Value := [.string T, .bool O, .string S, .int .i64 L, .int .i64 P]
theorem FB.cells5 {t : TypeId} {g : Nat} {s : ByteArray} {i : Nat} {b : Bool} {w : World} {T S : ByteArray} {O : Bool} {L P : Int} (k : FB t g s i b (vr T O S L P) w) :
  w.cell? ⟨g, 3, none⟩ = some (.string T) ∧ w.cell? ⟨g, 4, none⟩ = some (.bool O) ∧ w.cell? ⟨g, 5, none⟩ = some (.string S) ∧ w.cell? ⟨g, 6, none⟩ = some (.int .i64 L) ∧ w.cell? ⟨g, 7, none⟩ = some (.int .i64 P) :=
 ⟨k.cellR 0, k.cellR 1, k.cellR 2, k.cellR 3, k.cellR 4⟩
theorem vread_any (t : TypeId) (g : Nat) (s : ByteArray) (w : World) (k : Hid (FB t g s 0 false (vr ⟨#[]⟩ false ⟨#[]⟩ 0 0) w)) (hs : s.size ≤ 1000000) (T : List UInt8) (v : VP.V) (j : Nat) (c : Bool) (hn : VP.readV s.data.toList = ((T, v), j, c)) :
  Calls Tryz.prog 151 #[.pointer (some ⟨g, 0, none⟩)] w fun e w' => e = .returned (.tuple #[]) ∧ Hid (FB t g s j c (vr ⟨T.toArray⟩ v.over ⟨v.s.toArray⟩ v.len v.page) w') ∧ Below g w w' := by
 have hts : s.data.toList.length = s.size := by simp
 unfold VP.readV at hn; have b1 := VP.text_at (l := s.data.toList) (i := 0) (b := false) (Nat.zero_le _); obtain ⟨T1, i1, c1, e1⟩ := tripleL (VP.textF s.data.toList 0 false); simp only [e1] at hn b1; have b2 := VP.mark_at (l := s.data.toList) (i := i1) (b := c1) b1; obtain ⟨m, i2, c2, e2⟩ := VP.triple (VP.markF s.data.toList i1 c1); simp only [e2] at hn b2; have b3 := VP.num_at (l := s.data.toList) (i := i2) (b := c2) b2; obtain ⟨n, i3, c3, e3⟩ := VP.triple (VP.numF s.data.toList i2 c2); simp only [e3] at hn b3; rw [hts] at b1 b2 b3; have HT := zj (text_of t g s 0 false (vr ⟨#[]⟩ false ⟨#[]⟩ 0 0) w k (Nat.zero_le _) hs T1 i1 c1 e1); have HM := zj (fun R W (k : Hid (FB t g s i1 c1 R W)) => mark_of t g s i1 c1 R W k b1 hs m i2 c2 e2); have HN := zj (fun R W (k : Hid (FB t g s i2 c2 R W)) => number_any t g s i2 c2 R W k b2 hs n i3 c3 e3); have bn := b3.2.1; obtain ⟨q, hq⟩ : ∃ q, m.toNat = q := ⟨_, rfl⟩; rw [hq] at HM; by_cases h1 : m = 1
 ·subst h1
  obtain rfl : 1 = q := hq; obtain ⟨p, i4, c4, e4⟩ := VP.triple (VP.fourF s.data.toList i3 c3); simp only [e4, if_true, Prod.mk.injEq] at hn; obtain ⟨⟨rfl, rfl⟩, rfl, rfl⟩ := hn; have HF := zj (fun R W (k : Hid (FB t g s i3 c3 R W)) => four_of t g s i3 c3 R W k b3.1 hs p i4 c4 e4); clear e1 e2 e3 e4 b1 b2 b3 hts k hs; go_enter Tryz.func151, Tryz.ntmps151; go_wp2_with fail; refine HT.out.mono ?_; rintro e w1 ⟨rfl, k1, hb1⟩; have x3 := k1.out.cells5.1; have f3 := k1.out.free 3; have HB1 := zj (hb1.setCell (p := ⟨g, 3, none⟩) (Nat.le_refl _) (.string ⟨T1.toArray⟩)); have K1 : Hid (FB t g s i1 c1 (vr ⟨T1.toArray⟩ false ⟨#[]⟩ 0 0) (w1.setCell ⟨g, 3, none⟩ (.string ⟨T1.toArray⟩))) := zj (k1.out.setR 0 _); clear hb1 k1; go_wp2_with fail; generalize w1.setCell ⟨g, 3, none⟩ (.string ⟨T1.toArray⟩) = v1 at *; refine (HM.out _ _ K1).mono ?_; rintro e w2 ⟨rfl, k2, hb2⟩; have x4 := k2.out.cells5.2.1; have f4 := k2.out.free 4; have HB2 := zj ((HB1.out.trans hb2).setCell (p := ⟨g, 4, none⟩) (Nat.le_refl _) (.bool true)); have K2 : Hid (FB t g s i2 c2 (vr ⟨T1.toArray⟩ true ⟨#[]⟩ 0 0) (w2.setCell ⟨g, 4, none⟩ (.bool true))) := zj (k2.out.setR 1 _); clear hb2 k2 HB1 K1; go_wp2_with fail; generalize w2.setCell ⟨g, 4, none⟩ (.bool true) = v2 at *; refine (HN.out _ _ K2).mono ?_; rintro e w3 ⟨rfl, k3, hb3⟩; have HB3 := zj (HB2.out.trans hb3); have y4 := k3.out.cells5.2.1; clear hb3 HB2 K2; go_wp2_with fail; refine (HF.out _ _ k3).mono ?_; rintro e w4 ⟨rfl, k4, hb4⟩; obtain ⟨_, _, _, x6, x7⟩ := k4.out.cells5; have f6 := k4.out.free 6; have f7 := k4.out.free 7; have HB4 := zj (HB3.out.trans hb4); clear hb4 HB3 k3; go_wp2_with fail; refine bodyPost_ret (results_none rfl _ _ _) rfl ?_; exact ⟨rfl, zj ((k4.out.setR 3 (.int .i64 n)).setR 4 (.int .i64 p)), (HB4.out.setCell (p := ⟨g, 6, none⟩) (Nat.le_refl _) _).setCell (p := ⟨g, 7, none⟩) (Nat.le_refl _) _⟩
 ·have hq1 : q ≠ 1 := fun e => h1 (UInt8.toNat_inj.1 (by rw [hq, e]; rfl))
  have z1 : ((q : Int) == 1) = false := beq_eq_false_iff_ne.2 (by omega); have z1n : (q == 1) = false := beq_eq_false_iff_ne.2 hq1; rw [if_neg h1] at hn; by_cases h0 : m = 0
  ·subst h0
   obtain rfl : 0 = q := hq; obtain ⟨u, i4, c4, e4⟩ := tripleL (VP.takeF s.data.toList i3 c3 n); simp only [e4, if_true, Prod.mk.injEq] at hn; obtain ⟨⟨rfl, rfl⟩, rfl, rfl⟩ := hn; have HF := zj (fun R W (k : Hid (FB t g s i3 c3 R W)) => take_any t g s i3 c3 R W k n b3.1 hs bn u i4 c4 e4); clear e1 e2 e3 e4 b1 b2 b3 hts k hs h1 hq1 z1 z1n bn; go_enter Tryz.func151, Tryz.ntmps151; go_wp2_with fail; refine HT.out.mono ?_; rintro e w1 ⟨rfl, k1, hb1⟩; have x3 := k1.out.cells5.1; have f3 := k1.out.free 3; have HB1 := zj (hb1.setCell (p := ⟨g, 3, none⟩) (Nat.le_refl _) (.string ⟨T1.toArray⟩)); have K1 : Hid (FB t g s i1 c1 (vr ⟨T1.toArray⟩ false ⟨#[]⟩ 0 0) (w1.setCell ⟨g, 3, none⟩ (.string ⟨T1.toArray⟩))) := zj (k1.out.setR 0 _); clear hb1 k1; go_wp2_with fail; generalize w1.setCell ⟨g, 3, none⟩ (.string ⟨T1.toArray⟩) = v1 at *; refine (HM.out _ _ K1).mono ?_; rintro e w2 ⟨rfl, K2, hb2⟩; have HB2 := zj (HB1.out.trans hb2); clear hb2 HB1 K1; go_wp2_with fail; refine (HN.out _ _ K2).mono ?_; rintro e w3 ⟨rfl, k3, hb3⟩; have HB3 := zj (HB2.out.trans hb3); have y4 := k3.out.cells5.2.1; clear hb3 HB2 K2; go_wp2_with fail; refine (HF.out _ _ k3).mono ?_; rintro e w4 ⟨rfl, k4, hb4⟩; obtain ⟨_, _, x5, _, _⟩ := k4.out.cells5; have f5 := k4.out.free 5; have HB4 := zj (HB3.out.trans hb4); clear hb4 HB3 k3; go_wp2_with fail
   go_end0
   exact ⟨rfl, zj (k4.out.setR 2 (.string ⟨u.toArray⟩)), HB4.out.setCell (p := ⟨g, 5, none⟩) (Nat.le_refl _) _⟩
  ·have hq0 : q ≠ 0 := fun e => h0 (UInt8.toNat_inj.1 (by rw [hq, e]; rfl))
   have z0 : ((q : Int) == 0) = false := beq_eq_false_iff_ne.2 (by omega); have z0n : (q == 0) = false := beq_eq_false_iff_ne.2 hq0; rw [if_neg h0] at hn; obtain ⟨u, i4, c4, e4⟩ := tripleL (VP.takeF s.data.toList i2 true 0); simp only [e4, Prod.mk.injEq] at hn; obtain ⟨⟨rfl, rfl⟩, rfl, rfl⟩ := hn; have HF := zj (fun R W (k : Hid (FB t g s i2 true R W)) => take_any t g s i2 true R W k 0 b2 hs (by decide) u i4 c4 e4); clear e1 e2 e3 e4 b1 b2 b3 hts k hs bn hq h1 h0; go_enter Tryz.func151, Tryz.ntmps151; go_wp2_with fail; refine HT.out.mono ?_; rintro e w1 ⟨rfl, k1, hb1⟩; have x3 := k1.out.cells5.1; have f3 := k1.out.free 3; have HB1 := zj (hb1.setCell (p := ⟨g, 3, none⟩) (Nat.le_refl _) (.string ⟨T1.toArray⟩)); have K1 : Hid (FB t g s i1 c1 (vr ⟨T1.toArray⟩ false ⟨#[]⟩ 0 0) (w1.setCell ⟨g, 3, none⟩ (.string ⟨T1.toArray⟩))) := zj (k1.out.setR 0 _); clear hb1 k1; go_wp2_with fail; generalize w1.setCell ⟨g, 3, none⟩ (.string ⟨T1.toArray⟩) = v1 at *; refine (HM.out _ _ K1).mono ?_; rintro e w2 ⟨rfl, K2, hb2⟩; have HB2 := zj (HB1.out.trans hb2); clear hb2 HB1 K1; have K3 := zj K2.out.setBad; have HB3 := zj (HB2.out.setCell (p := ⟨g, 2, none⟩) (Nat.le_refl _) (.bool true)); have y2 := K2.out.cells.2.2; have f2 := K2.out.free 2; have y4 := K2.out.cells5.2.1; go_wp2_with fail; generalize w2.setCell ⟨g, 2, none⟩ (.bool true) = v2 at *; refine (HF.out _ _ K3).mono ?_; rintro e w4 ⟨rfl, k4, hb4⟩; obtain ⟨_, _, x5, _, _⟩ := k4.out.cells5; have f5 := k4.out.free 5; have HB4 := zj (HB3.out.trans hb4); clear hb4 HB3 K3 y2 f2 y4; go_wp2_with fail
   go_end0
   exact ⟨rfl, zj (k4.out.setR 2 (.string ⟨u.toArray⟩)), HB4.out.setCell (p := ⟨g, 5, none⟩) (Nat.le_refl _) _⟩
abbrev kr (K : Int) (T : ByteArray) : List Value := [.int .i64 K, .string T]
theorem FB.cells2 {t : TypeId} {g : Nat} {s : ByteArray} {i : Nat} {b : Bool} {w : World} {T : ByteArray} {K : Int} (k : FB t g s i b (kr K T) w) :
  w.cell? ⟨g, 3, none⟩ = some (.int .i64 K) ∧ w.cell? ⟨g, 4, none⟩ = some (.string T) :=
 ⟨k.cellR 0, k.cellR 1⟩
theorem kread_any (t : TypeId) (g : Nat) (s : ByteArray) (w : World) (k : Hid (FB t g s 0 false (kr 0 ⟨#[]⟩) w)) (hs : s.size ≤ 1000000) (K : Nat) (T : List UInt8) (j : Nat) (c : Bool) (hn : VP.readK s.data.toList = ((K, T), j, c)) :
  Calls Tryz.prog 158 #[.pointer (some ⟨g, 0, none⟩)] w fun e w' => e = .returned (.tuple #[]) ∧ Hid (FB t g s j c (kr K ⟨T.toArray⟩) w') ∧ Below g w w' := by
 have hts : s.data.toList.length = s.size := by simp
 unfold VP.readK at hn; have b1 := VP.four_at (l := s.data.toList) (i := 0) (b := false) (Nat.zero_le _); obtain ⟨n, i1, c1, e1⟩ := VP.triple (VP.fourF s.data.toList 0 false); simp only [e1] at hn b1; obtain ⟨T1, i2, c2, e2⟩ := tripleL (VP.textF s.data.toList i1 c1); simp only [e2, Prod.mk.injEq] at hn; obtain ⟨⟨rfl, rfl⟩, rfl, rfl⟩ := hn; rw [hts] at b1; have HT := zj (four_of t g s 0 false (kr 0 ⟨#[]⟩) w k (Nat.zero_le _) hs n i1 c1 e1); have HM := zj (fun R W (k : Hid (FB t g s i1 c1 R W)) => text_of t g s i1 c1 R W k b1 hs T1 i2 c2 e2); clear e1 e2 b1 hts k hs; go_enter Tryz.func158, Tryz.ntmps158; go_wp2_with fail; refine HT.out.mono ?_; rintro e w1 ⟨rfl, k1, hb1⟩; have x3 := k1.out.cells2.1; have f3 := k1.out.free 3; have HB1 := zj (hb1.setCell (p := ⟨g, 3, none⟩) (Nat.le_refl _) (.int .i64 n)); have K1 : Hid (FB t g s i1 c1 (kr n ⟨#[]⟩) (w1.setCell ⟨g, 3, none⟩ (.int .i64 n))) := zj (k1.out.setR 0 _); clear hb1 k1; go_wp2_with fail; generalize w1.setCell ⟨g, 3, none⟩ (.int .i64 n) = v1 at *; refine (HM.out _ _ K1).mono ?_; rintro e w2 ⟨rfl, k2, hb2⟩; have x4 := k2.out.cells2.2; have f4 := k2.out.free 4; have HB2 := zj ((HB1.out.trans hb2).setCell (p := ⟨g, 4, none⟩) (Nat.le_refl _) (.string ⟨T1.toArray⟩)); clear hb2 HB1 K1; go_wp2_with fail
 go_end0
 exact ⟨rfl, zj (k2.out.setR 1 (.string ⟨T1.toArray⟩)), HB2.out⟩
theorem suffix_any (t : ByteArray) (w : World) :
  Calls Tryz.prog 153 #[.string t] w fun e w' => e = .returned (.bool (decide (t.size ≤ 128))) ∧ w = w' := by
 have e : decide (t.size ≤ 128) = decide ((t.size : Int) ≤ 128) := by
  by_cases h : t.size ≤ 128
  ·rw [dT h, dT (by omega)]
  ·rw [dF h, dF (by omega)]
 rw [e]; clear e; go_enter Tryz.func153, Tryz.ntmps153; go_wp2_with fail; go_ret; exact ⟨rfl, rfl⟩
theorem page_any (k : Int) (w : World) :
  Calls Tryz.prog 159 #[.int .i64 k] w fun e w' => e = .returned (.bool (decide (1 ≤ k ∧ k ≤ 4095))) ∧ w = w' := by
 rcases (show k < 1 ∨ (1 ≤ k ∧ k ≤ 4095) ∨ (1 ≤ k ∧ 4095 < k) by omega) with h | h | h
 ·have e : decide (1 ≤ k ∧ k ≤ 4095) = false := dF (by omega)
  have d1 : decide (1 ≤ k) = false := dF (by omega); rw [e]; go_enter Tryz.func159, Tryz.ntmps159; go_wp2_with fail; go_ret; exact ⟨rfl, rfl⟩
 ·have e : decide (1 ≤ k ∧ k ≤ 4095) = true := dT h
  have d1 : decide (1 ≤ k) = true := dT (by omega); have d2 : decide (k ≤ 4095) = true := dT (by omega); rw [e]; clear h e; go_enter Tryz.func159, Tryz.ntmps159; go_wp2_with fail; go_ret; exact ⟨rfl, rfl⟩
 ·have e : decide (1 ≤ k ∧ k ≤ 4095) = false := dF (by omega)
  have d1 : decide (1 ≤ k) = true := dT (by omega); have d2 : decide (k ≤ 4095) = false := dF (by omega); rw [e]; clear h e; go_enter Tryz.func159, Tryz.ntmps159; go_wp2_with fail; go_ret; exact ⟨rfl, rfl⟩
theorem numberOf_any (n : Nat) (w : World) (h : n ≤ 1000000) :
  Calls Tryz.prog 173 #[.int .i64 n] w fun e w' => e = .returned (.string ⟨(WP.put n).toArray⟩) ∧ Below w.heap.size w w' := by
 have HP := zj (put_any (n : Int) w (by omega) (by omega)); rw [Int.toNat_natCast] at HP; have a1 : IntKind.u64.wrap (n : Int) = n := Int.emod_eq_of_lt (by omega) (by show (n : Int) < 18446744073709551616; omega); clear h; go_enter Tryz.func173, Tryz.ntmps173; go_wp2_with fail; refine HP.out.mono ?_; rintro e w1 ⟨rfl, hb1⟩; go_wp2_with fail; go_ret; exact ⟨rfl, hb1⟩
theorem textOf_any (t : ByteArray) (w : World) (h : t.size ≤ 1000000) :
  Calls Tryz.prog 172 #[.string t] w fun e w' => e = .returned (.string (textS t)) ∧ Below w.heap.size w w' := by
 have HP := zj (numberOf_any t.size w h); have hE := wput_size t.size (by omega); have hC := textS_eq t t.size rfl; obtain ⟨E, hEe⟩ : ∃ E : ByteArray, ⟨(WP.put t.size).toArray⟩ = E := ⟨_, rfl⟩; rw [hEe] at HP hE hC; rw [← hC]
 have b1 : ¬ 9223372036854775807 < E.size + t.size := by omega
 clear h hE hC hEe; go_enter Tryz.func172, Tryz.ntmps172; go_wp2_with fail; refine HP.out.mono ?_; rintro e w1 ⟨rfl, hb1⟩; go_wp2_with fail; go_ret; exact ⟨rfl, hb1⟩
theorem right_any (O : Bool) (S : ByteArray) (L P : Int) (w : World) :
  Calls Tryz.prog 154 #[vv O S L P] w fun e w' => e = .returned (.bool (decide (VP.Right (pv O S L P)))) ∧ Below w.heap.size w w' := by
 have HP := zj (fun W => page_any P W)
 cases O with
 | true =>
  have he := empty_eq S
  have he2 : (S.toList == (⟨#[]⟩ : ByteArray).toList) = decide (S = ⟨#[]⟩) := by rw [Lib.toList_data ⟨#[]⟩]; exact he
  by_cases h0 : S = ⟨#[]⟩
  ·rw [dT h0] at he he2
   rcases (show L < 1 ∨ (1 ≤ L ∧ 4096 < L) ∨ (1 ≤ L ∧ L ≤ 4096) by omega) with h | h | h
   ·have e : decide (VP.Right (pv true S L P)) = false := dF (fun h' => by have := (right_over S L P).1 h'; omega)
    rw [e]; have d1 : decide (1 ≤ L) = false := dF (by omega); clear HP e; go_enter Tryz.func154, Tryz.ntmps154; go_wp2_with fail; go_ret; exact ⟨rfl, below_alloc _ _⟩
   ·have e : decide (VP.Right (pv true S L P)) = false := dF (fun h' => by have := (right_over S L P).1 h'; omega)
    rw [e]; have d1 : decide (1 ≤ L) = true := dT (by omega); have d2 : decide (L ≤ 4096) = false := dF (by omega); clear HP e h; go_enter Tryz.func154, Tryz.ntmps154; go_wp2_with fail; go_ret; exact ⟨rfl, below_alloc _ _⟩
   ·have e : decide (VP.Right (pv true S L P)) = decide (1 ≤ P ∧ P ≤ 4095) := by
     have hr := right_over S L P; by_cases h' : 1 ≤ P ∧ P ≤ 4095
     ·rw [dT h', dT (hr.2 ⟨h0, h.1, h.2, h'.1, h'.2⟩)]
     ·rw [dF h', dF (fun h'' => h' ⟨(hr.1 h'').2.2.2.1, (hr.1 h'').2.2.2.2⟩)]
    rw [e]; generalize decide (1 ≤ P ∧ P ≤ 4095) = q at *; have d1 : decide (1 ≤ L) = true := dT (by omega); have d2 : decide (L ≤ 4096) = true := dT (by omega); clear e h; go_enter Tryz.func154, Tryz.ntmps154; go_wp2_with fail; refine (HP.out _).mono ?_; rintro e w1 ⟨rfl, rfl⟩; go_wp2_with fail; go_ret; exact ⟨rfl, below_alloc _ _⟩
  ·rw [dF h0] at he he2
   have e : decide (VP.Right (pv true S L P)) = false := dF (fun h' => h0 ((right_over S L P).1 h').1); rw [e]; clear HP; go_enter Tryz.func154, Tryz.ntmps154; go_wp2_with fail; go_ret; exact ⟨rfl, below_alloc _ _⟩
 | false =>
  clear HP; rcases (show 256 < S.size ∨ (S.size ≤ 256 ∧ L ≠ 0) ∨ (S.size ≤ 256 ∧ L = 0 ∧ P ≠ 0) ∨ (S.size ≤ 256 ∧ L = 0 ∧ P = 0) by omega) with h | h | h | h
  ·have e : decide (VP.Right (pv false S L P)) = false := dF (fun h' => by have := (right_text S L P).1 h'; omega)
   rw [e]; have d1 : decide ((S.size : Int) ≤ 256) = false := dF (by omega); have d2 : decide (S.size ≤ 256) = false := dF (by omega); go_enter Tryz.func154, Tryz.ntmps154; go_wp2_with fail; go_ret; exact ⟨rfl, below_alloc _ _⟩
  ·have e : decide (VP.Right (pv false S L P)) = false := dF (fun h' => by have := (right_text S L P).1 h'; omega)
   rw [e]; have d1 : decide ((S.size : Int) ≤ 256) = true := dT (by omega); have d2 : decide (S.size ≤ 256) = true := dT (by omega); have d3 : (L == 0) = false := beq_eq_false_iff_ne.2 h.2; go_enter Tryz.func154, Tryz.ntmps154; go_wp2_with fail; go_ret; exact ⟨rfl, below_alloc _ _⟩
  ·have e : decide (VP.Right (pv false S L P)) = false := dF (fun h' => by have := (right_text S L P).1 h'; omega)
   rw [e]; have d1 : decide ((S.size : Int) ≤ 256) = true := dT (by omega); have d2 : decide (S.size ≤ 256) = true := dT (by omega); obtain ⟨h1, rfl, h3⟩ := h; have d3 : (P == 0) = false := beq_eq_false_iff_ne.2 h3; go_enter Tryz.func154, Tryz.ntmps154; go_wp2_with fail; go_ret; exact ⟨rfl, below_alloc _ _⟩
  ·have e : decide (VP.Right (pv false S L P)) = true := dT ((right_text S L P).2 h)
   rw [e]; have d1 : decide ((S.size : Int) ≤ 256) = true := dT (by omega); have d2 : decide (S.size ≤ 256) = true := dT (by omega); obtain ⟨h1, rfl, rfl⟩ := h; go_enter Tryz.func154, Tryz.ntmps154; go_wp2_with fail; go_ret; exact ⟨rfl, below_alloc _ _⟩
theorem kidS_two (k : Nat) (t : ByteArray) : (⟨(Lib.leBytes 4 k).toArray⟩ : ByteArray) ++ textS t = kidS k t := by
 apply ByteArray.ext; simp [kidS, VP.cellK, textS]
theorem putk_any (k : Int) (t : ByteArray) (w : World) (ht : t.size ≤ 1000000) :
  Calls Tryz.prog 126 #[.int .i64 k, .string t] w fun e w' => e = .returned (putKV k t) ∧ Below w.heap.size w w' := by
 have hts : t.data.toList.length = t.size := by simp
 have HP := zj (fun W => page_any k W); have HS := zj (fun W => suffix_any t W); by_cases h1 : 1 ≤ k ∧ k ≤ 4095
 ·rw [dT h1] at HP
  by_cases h2 : t.size ≤ 128
  ·rw [dT h2] at HS
   obtain ⟨k, rfl⟩ := Int.eq_ofNat_of_zero_le (show 0 ≤ k by omega); have e : putKV k t = .tuple #[.string (kidS k t), .int .i64 0] := if_pos ⟨h1.1, h1.2, by omega⟩; rw [e]; have HPF := zj (fun W => four_any (k : Int) W (by omega) (by omega)); have HPT := zj (fun W => textOf_any t W ht); have hts2 := textS_size t ht; have hGs := four_size k; rw [Int.toNat_natCast] at HPF; have HC := kidS_two k t; obtain ⟨G, hG⟩ : ∃ G : ByteArray, ⟨(Lib.leBytes 4 k).toArray⟩ = G := ⟨_, rfl⟩; rw [hG] at HPF hGs HC; rw [← HC]; generalize textS t = X at *; have a3 : IntKind.u32.wrap (k : Int) = k := Int.emod_eq_of_lt (by omega) (by show (k : Int) < 4294967296; omega)
   have b2 : ¬ 9223372036854775807 < G.size + X.size := by omega
   clear hG HC hGs hts e h1 h2 hts2; go_enter Tryz.func126, Tryz.ntmps126; go_wp2_with fail; refine (HP.out _).mono ?_; rintro e w1 ⟨rfl, rfl⟩; go_wp2_with fail; refine (HS.out _).mono ?_; rintro e w1 ⟨rfl, rfl⟩; go_wp2_with fail; refine (HPF.out _).mono ?_; rintro e w1 ⟨rfl, hb1⟩; go_wp2_with fail; refine (HPT.out _).mono ?_; rintro e w2 ⟨rfl, hb2⟩; go_wp2_with fail
   go_ret2
   exact ⟨rfl, hb1.trans' hb2⟩
  ·rw [dF h2] at HS
   have e : putKV k t = .tuple #[.string ⟨#[]⟩, .int .i64 3] := if_neg (fun h => by have := h.2.2; omega); rw [e]; clear e hts h1 h2; go_enter Tryz.func126, Tryz.ntmps126; go_wp2_with fail; refine (HP.out _).mono ?_; rintro e w1 ⟨rfl, rfl⟩; go_wp2_with fail; refine (HS.out _).mono ?_; rintro e w1 ⟨rfl, rfl⟩; go_wp2_with fail
   go_ret2
   exact ⟨rfl, Below.refl _ _⟩
 ·rw [dF h1] at HP
  have e : putKV k t = .tuple #[.string ⟨#[]⟩, .int .i64 3] := if_neg (fun h => h1 ⟨h.1, h.2.1⟩); rw [e]; clear e hts h1; go_enter Tryz.func126, Tryz.ntmps126; go_wp2_with fail; refine (HP.out _).mono ?_; rintro e w1 ⟨rfl, rfl⟩; go_wp2_with fail
  go_ret2
  exact ⟨rfl, Below.refl _ _⟩
theorem Bx.stay {t : TypeId} {g : Nat} {O : Bool} {S : ByteArray} {L P : Int} {w w' : World} (k : Bx t g O S L P w) (b : Below (g + 1) w w') : Bx t g O S L P w' := (b.block g (Nat.lt_succ_self _)).trans k
theorem toS (T : ByteArray) : (⟨T.data.toList.toArray⟩ : ByteArray) = T := ByteArray.ext (by simp)
theorem fb_new (t t0 : TypeId) (s : ByteArray) (R : List Value) (w : World) (o : Array Value) : FB t (w.heap.size + 1) s 0 false R ((w.alloc (.cells o t0)).alloc (.cells (.string s :: .int .i64 0 :: .bool false :: R).toArray t)) := by
 have h := heap_alloc_new (w.alloc (.cells o t0)) (.cells (.string s :: .int .i64 (0 : Nat) :: .bool false :: R).toArray t)
 have h2 : (w.alloc (.cells o t0)).heap.size = w.heap.size + 1 := by simp
 rw [h2] at h; exact h
theorem getv_any (s : ByteArray) (w : World) (hs : s.size ≤ 1000000) :
  Calls Tryz.prog 90 #[.string s] w fun e w' => e = .returned (gotV (VP.getV s.data.toList)) ∧ Below w.heap.size w w' := by
 have hv := VP.getV_read s.data.toList; obtain ⟨T', v, j, c, hr⟩ : ∃ T v j c, VP.readV s.data.toList = ((T, v), j, c) := ⟨_, _, _, _, rfl⟩; obtain ⟨T, rfl⟩ := listS T'; obtain ⟨O, S', L, P⟩ := v; obtain ⟨S, rfl⟩ := listS S'; rw [hr] at hv; simp only at hv; obtain ⟨A, hA⟩ : ∃ A, gotV (VP.getV s.data.toList) = A := ⟨_, rfl⟩; rw [hA]; rw [hv] at hA; obtain ⟨n, hn⟩ : ∃ n, s.data.toList.length = n := ⟨_, rfl⟩
 have hT : T.data.toList.length = T.size := by simp
 have HREAD := zj (fun W k => vread_any 250 (w.heap.size + 1) s W k hs T.data.toList ⟨O, S.data.toList, L, P⟩ j c hr); simp only [toS] at HREAD; have HWH := zj (fun R W k (hj : j ≤ s.size) => whole_any 250 (w.heap.size + 1) s j c R W k hj hs); rw [hn] at HWH hA
 have hj : j ≤ s.size := by
  have h := VP.readV_at s.data.toList; rw [hr] at h
  simpa using h
 have HJ := zj hj; have HK0 := zj (Bx.new 125 false ⟨#[]⟩ 0 0 w); have hb0 := below_alloc w (.cells #[.bool false, .string ⟨#[]⟩, .int .i64 0, .int .i64 0] 125); have hK0 : Bx 125 w.heap.size false ⟨#[]⟩ 0 0 ((w.alloc (.cells #[.bool false, .string ⟨#[]⟩, .int .i64 0, .int .i64 0] 125)).alloc (.cells #[.string s, .int .i64 0, .bool false, .string ⟨#[]⟩, .bool false, .string ⟨#[]⟩, .int .i64 0, .int .i64 0] 250)) := HK0.out.below (below_alloc _ _); have hbw := hb0.trans' (below_alloc (w.alloc (.cells #[.bool false, .string ⟨#[]⟩, .int .i64 0, .int .i64 0] 125)) (.cells #[.string s, .int .i64 0, .bool false, .string ⟨#[]⟩, .bool false, .string ⟨#[]⟩, .int .i64 0, .int .i64 0] 250)); have hf := fb_new 250 125 s (vr ⟨#[]⟩ false ⟨#[]⟩ 0 0) w #[.bool false, .string ⟨#[]⟩, .int .i64 0, .int .i64 0]; have HF := zj hf; have HK := zj hK0; have HBW := zj hbw; clear hv hr hj HK0 hb0 hK0 hbw hf hs; have HSU := zj (fun W => suffix_any T W); have HRI := zj (fun W => right_any O S L P W)
 have hdec : ((j, c) = (n, false) ∧ VP.OkV T.data.toList (pv O S L P) ∧ A = .tuple #[.string T, vv O S L P, .int .i64 0]) ∨ (A = .tuple #[.string ⟨#[]⟩, vv false ⟨#[]⟩ 0 0, .int .i64 3] ∧ ¬ ((j, c) = (n, false) ∧ T.size ≤ 128 ∧ VP.Right (pv O S L P))) := by
  by_cases h : (j, c) = (n, false) ∧ VP.OkV T.data.toList (pv O S L P)
  ·refine .inl ⟨h.1, h.2, ?_⟩
   rw [← hA, if_pos h]; simp only [gotV, toS]
  ·refine .inr ⟨?_, fun h' => h ⟨h'.1, by rw [hT]; exact h'.2.1, h'.2.2⟩⟩
   rw [← hA, if_neg h]; rfl
 clear hA hn
 -- read,
 go_enter Tryz.func90, Tryz.ntmps90; go_wp2_with fail; refine (HREAD.out _ HF).mono ?_; rintro e w1 ⟨rfl, k1, hb1⟩; have HK1 := zj (HK.out.stay hb1); have HB1 := zj (HBW.out.trans (hb1.mono (Nat.le_succ _))); clear HREAD HF HK HBW hb1; go_wp2_with fail; refine (HWH.out _ _ k1 HJ.out).mono ?_; rintro e w2 ⟨rfl, k2, hb2⟩; have HK2 := zj (HK1.out.stay hb2); have HB2 := zj (HB1.out.trans (hb2.mono (Nat.le_succ _))); clear HWH k1 HK1 HB1 hb2; obtain ⟨z3, z4, z5, z6, z7⟩ := k2.out.cells5; rcases hdec with ⟨h1, h2, rfl⟩ | ⟨rfl, h⟩
 ·-- good
  rw [dT (show T.size ≤ 128 by rw [← hT]; exact h2.1)] at HSU; rw [dT h2.2] at HRI; rw [dT h1]; clear h1 h2 hT HJ; go_wp2_with fail; refine (HSU.out _).mono ?_; rintro e w3 ⟨rfl, rfl⟩; go_wp2_with fail; refine (HRI.out _).mono ?_; rintro e w4 ⟨rfl, hb4⟩; obtain ⟨z3, z4, z5, z6, z7⟩ := (k2.out.below hb4).cells5; have HK4 := zj (HK2.out.below hb4); have HB4 := zj (HB2.out.trans' hb4); obtain ⟨x0, x1, x2, x3⟩ := HK4.out.cells; obtain ⟨y0, y1, y2, y3⟩ := HK4.out.free; clear hb4 k2 HK2 HB2; go_wp2_with fail
  go_region
  all_goals
   go_wp2_with fail; obtain ⟨r0, r1, r2, r3⟩ := (set4_box HK4.out O S L P).cells; unfold set4 at r0 r1 r2 r3; refine bodyPost_ret (v := .tuple #[.string T, vv O S L P, .int .i64 0]) (by simp [results, Tryz.results90, go_sem, r0, r1, r2, r3]) rfl ⟨rfl, ?_⟩
   first | exact set4_below HB4.out (Nat.le_refl _) O S L P | exact (set4_below HB4.out (Nat.le_refl _) O S L P).drew
 ·have hcase : (¬ (j, c) = (n, false)) ∨ ((j, c) = (n, false) ∧ ¬ T.size ≤ 128) ∨ ((j, c) = (n, false) ∧ T.size ≤ 128 ∧ ¬ VP.Right (pv O S L P)) := by
   by_cases h1 : (j, c) = (n, false)
   ·by_cases h2 : T.size ≤ 128
    ·exact .inr (.inr ⟨h1, h2, fun h3 => h ⟨h1, h2, h3⟩⟩)
    ·exact .inr (.inl ⟨h1, h2⟩)
   ·exact .inl h1
  clear h; rcases hcase with h1 | ⟨h1, h2⟩ | ⟨h1, h2, h3⟩
  ·rw [dF h1]
   clear h1 HSU HRI hT HJ; obtain ⟨x0, x1, x2, x3⟩ := HK2.out.cells; obtain ⟨y0, y1, y2, y3⟩ := HK2.out.free; go_wp2_with fail; obtain ⟨r0, r1, r2, r3⟩ := (set4_box HK2.out false ⟨#[]⟩ 0 0).cells; unfold set4 at r0 r1 r2 r3; refine bodyPost_ret (v := .tuple #[.string ⟨#[]⟩, vv false ⟨#[]⟩ 0 0, .int .i64 3]) (by simp [results, Tryz.results90, go_sem, r0, r1, r2, r3]) rfl ⟨rfl, ?_⟩; exact set4_below HB2.out (Nat.le_refl _) false ⟨#[]⟩ 0 0
  ·rw [dT h1]
   rw [dF h2] at HSU; clear h1 h2 HRI hT HJ; obtain ⟨x0, x1, x2, x3⟩ := HK2.out.cells; obtain ⟨y0, y1, y2, y3⟩ := HK2.out.free; go_wp2_with fail; refine (HSU.out _).mono ?_; rintro e w3 ⟨rfl, rfl⟩; go_wp2_with fail; obtain ⟨r0, r1, r2, r3⟩ := (set4_box HK2.out false ⟨#[]⟩ 0 0).cells; unfold set4 at r0 r1 r2 r3; refine bodyPost_ret (v := .tuple #[.string ⟨#[]⟩, vv false ⟨#[]⟩ 0 0, .int .i64 3]) (by simp [results, Tryz.results90, go_sem, r0, r1, r2, r3]) rfl ⟨rfl, ?_⟩; exact set4_below HB2.out (Nat.le_refl _) false ⟨#[]⟩ 0 0
  ·rw [dT h1]
   rw [dT h2] at HSU; rw [dF h3] at HRI; clear h1 h2 h3 hT HJ; go_wp2_with fail; refine (HSU.out _).mono ?_; rintro e w3 ⟨rfl, rfl⟩; go_wp2_with fail; refine (HRI.out _).mono ?_; rintro e w4 ⟨rfl, hb4⟩; have HK4 := zj (HK2.out.below hb4); have HB4 := zj (HB2.out.trans' hb4); obtain ⟨x0, x1, x2, x3⟩ := HK4.out.cells; obtain ⟨y0, y1, y2, y3⟩ := HK4.out.free; clear hb4 k2 HK2 HB2; go_wp2_with fail; obtain ⟨r0, r1, r2, r3⟩ := (set4_box HK4.out false ⟨#[]⟩ 0 0).cells; unfold set4 at r0 r1 r2 r3; refine bodyPost_ret (v := .tuple #[.string ⟨#[]⟩, vv false ⟨#[]⟩ 0 0, .int .i64 3]) (by simp [results, Tryz.results90, go_sem, r0, r1, r2, r3]) rfl ⟨rfl, ?_⟩; exact set4_below HB4.out (Nat.le_refl _) false ⟨#[]⟩ 0 0
theorem fb_new1 (t : TypeId) (s : ByteArray) (R : List Value) (w : World) : FB t w.heap.size s 0 false R (w.alloc (.cells (.string s :: .int .i64 0 :: .bool false :: R).toArray t)) := by
 have h := heap_alloc_new w (.cells (.string s :: .int .i64 (0 : Nat) :: .bool false :: R).toArray t); exact h
theorem getk_any (s : ByteArray) (w : World) (hs : s.size ≤ 1000000) :
  Calls Tryz.prog 96 #[.string s] w fun e w' => e = .returned (gotK (VP.getK s.data.toList)) ∧ Below w.heap.size w w' := by
 have hv := VP.getK_read s.data.toList; obtain ⟨k, T', j, c, hr⟩ : ∃ k T j c, VP.readK s.data.toList = ((k, T), j, c) := ⟨_, _, _, _, rfl⟩; obtain ⟨T, rfl⟩ := listS T'; rw [hr] at hv; simp only at hv; obtain ⟨A, hA⟩ : ∃ A, gotK (VP.getK s.data.toList) = A := ⟨_, rfl⟩; rw [hA]; rw [hv] at hA; obtain ⟨n, hn⟩ : ∃ n, s.data.toList.length = n := ⟨_, rfl⟩
 have hT : T.data.toList.length = T.size := by simp
 have HREAD := zj (fun W k' => kread_any 267 w.heap.size s W k' hs k T.data.toList j c hr); simp only [toS] at HREAD; have HWH := zj (fun R W k (hj : j ≤ s.size) => whole_any 267 w.heap.size s j c R W k hj hs); rw [hn] at HWH hA
 have hj : j ≤ s.size := by
  have h := VP.readK_at s.data.toList; rw [hr] at h
  simpa using h
 have HJ := zj hj; have hb0 := below_alloc w (.cells #[.string s, .int .i64 0, .bool false, .int .i64 0, .string ⟨#[]⟩] 267); have hf := fb_new1 267 s (kr 0 ⟨#[]⟩) w; have HF := zj hf; have HBW := zj hb0; clear hv hr hj hb0 hf hs; have HSU := zj (fun W => suffix_any T W); have HRI := zj (fun W => page_any k W)
 have hdec : ((j, c) = (n, false) ∧ VP.OkK k T.data.toList ∧ A = .tuple #[.int .i64 k, .string T, .int .i64 0]) ∨ (A = .tuple #[.int .i64 0, .string ⟨#[]⟩, .int .i64 3] ∧ ¬ ((j, c) = (n, false) ∧ (1 ≤ (k : Int) ∧ (k : Int) ≤ 4095) ∧ T.size ≤ 128)) := by
  by_cases h : (j, c) = (n, false) ∧ VP.OkK k T.data.toList
  ·refine .inl ⟨h.1, h.2, ?_⟩
   rw [← hA, if_pos h]; simp only [gotK, toS]
  ·refine .inr ⟨?_, fun h' => h ⟨h'.1, h'.2.1.1, h'.2.1.2, by rw [hT]; exact h'.2.2⟩⟩
   rw [← hA, if_neg h]; rfl
 clear hA hn; go_enter Tryz.func96, Tryz.ntmps96; go_wp2_with fail; refine (HREAD.out _ HF).mono ?_; rintro e w1 ⟨rfl, k1, hb1⟩; have HB1 := zj (HBW.out.trans hb1); clear HREAD HF HBW hb1; go_wp2_with fail; refine (HWH.out _ _ k1 HJ.out).mono ?_; rintro e w2 ⟨rfl, k2, hb2⟩; have HB2 := zj (HB1.out.trans hb2); clear HWH k1 HB1 hb2; obtain ⟨z3, z4⟩ := k2.out.cells2; rcases hdec with ⟨h1, h2, rfl⟩ | ⟨rfl, h⟩
 ·rw [dT (show T.size ≤ 128 by rw [← hT]; exact h2.2.2)] at HSU
  rw [dT (And.intro h2.1 h2.2.1)] at HRI; rw [dT h1]; clear h1 h2 hT HJ; go_wp2_with fail; refine (HRI.out _).mono ?_; rintro e w3 ⟨rfl, rfl⟩; go_wp2_with fail; refine (HSU.out _).mono ?_; rintro e w4 ⟨rfl, rfl⟩; go_wp2_with fail
  go_quiet (fail)
  go_wp2_with fail; refine bodyPost_ret (v := .tuple #[.int .i64 k, .string T, .int .i64 0]) (by simp [results, Tryz.results96, go_sem]) rfl ⟨rfl, below_drewN HB2.out nq⟩
 ·have hcase : (¬ (j, c) = (n, false)) ∨ ((j, c) = (n, false) ∧ ¬ (1 ≤ (k : Int) ∧ (k : Int) ≤ 4095)) ∨ ((j, c) = (n, false) ∧ (1 ≤ (k : Int) ∧ (k : Int) ≤ 4095) ∧ ¬ T.size ≤ 128) := by
   by_cases h1 : (j, c) = (n, false)
   ·by_cases h2 : 1 ≤ (k : Int) ∧ (k : Int) ≤ 4095
    ·exact .inr (.inr ⟨h1, h2, fun h3 => h ⟨h1, h2, h3⟩⟩)
    ·exact .inr (.inl ⟨h1, h2⟩)
   ·exact .inl h1
  clear h; rcases hcase with h1 | ⟨h1, h2⟩ | ⟨h1, h2, h3⟩
  ·rw [dF h1]
   clear h1 HSU HRI hT HJ; go_wp2_with fail; refine bodyPost_ret (v := .tuple #[.int .i64 0, .string ⟨#[]⟩, .int .i64 3]) (by simp [results, Tryz.results96, go_sem]) rfl ⟨rfl, HB2.out⟩
  ·rw [dT h1]
   rw [dF h2] at HRI; clear h1 h2 HSU hT HJ; go_wp2_with fail; refine (HRI.out _).mono ?_; rintro e w3 ⟨rfl, rfl⟩; go_wp2_with fail; refine bodyPost_ret (v := .tuple #[.int .i64 0, .string ⟨#[]⟩, .int .i64 3]) (by simp [results, Tryz.results96, go_sem]) rfl ⟨rfl, HB2.out⟩
  ·rw [dT h1]
   rw [dT h2] at HRI; rw [dF h3] at HSU; clear h1 h2 h3 hT HJ; go_wp2_with fail; refine (HRI.out _).mono ?_; rintro e w3 ⟨rfl, rfl⟩; go_wp2_with fail; refine (HSU.out _).mono ?_; rintro e w4 ⟨rfl, rfl⟩; go_wp2_with fail; refine bodyPost_ret (v := .tuple #[.int .i64 0, .string ⟨#[]⟩, .int .i64 3]) (by simp [results, Tryz.results96, go_sem]) rfl ⟨rfl, HB2.out⟩
end Go.Proofs.YtpeghilfldpgfaaGreatDoor.L9
