/-
  The walk of the program's From.
-/
import Derived.Test.YtaeiifmdbdhoeaaDoorGNew2
import Derived.Test.YtaeiifmdbdhoeaaDoorGWrite2
namespace Go.Proofs.YtaeiifmdbdhoeaaDoor
open Go.RowKit
open Go.ChangeShapes
open DP (W D)
set_option linter.unusedVariables false
set_option linter.unusedSimpArgs false
variable {Fb : Nat → Prop}

theorem put_cuts (p : Nat) (s : ByteArray) (k : Nat) : DP.put (DP.zero p) (DP.cuts p s k) ⟨k, DP.cut p s k⟩ = DP.cuts p s (k + 1) := by
  rw [DP.cuts_succ, DP.put, DP.fill, DP.cuts_length, show k + 1 - k = 1 by omega, List.set_append_right _ _ (by rw [DP.cuts_length]; exact Nat.le_refl _), DP.cuts_length, Nat.sub_self]
  rfl

set_option maxRecDepth 100000 in
theorem from_bad (p room : Int) (s : ByteArray) (w : World) (h : Sizes w) (hb : newBad p room) :
    Calls Tryd.prog 9 #[.int .i64 p, .int .i64 room, .string s] w fun e w' => e = .returned (.tuple #[.pointer none, .int .i64 4]) ∧ w = w' := by
  have HN := Lib.hid (new_bad p room w h hb)
  clear h hb
  go_enter Tryd.func9, Tryd.ntmps9
  go_wp2_with fail
  refine HN.out.mono ?_
  rintro e w1 ⟨rfl, rfl⟩
  go_wp2_with fail
  go_ret2
  exact ⟨rfl, rfl⟩
set_option maxRecDepth 100000 in
theorem from_full (p room : Nat) (s : ByteArray) (w : World) (h : Sizes w) (hm : mayBe p = true) (hr : 0 < room) (hr2 : room ≤ 4096) (hs : room * p < s.size) (hs2 : s.size ≤ maxLen) :
    Calls Tryd.prog 9 #[.int .i64 p, .int .i64 room, .string s] w fun e w' => e = .returned (.tuple #[.pointer none, .int .i64 2]) ∧ Below w.heap.size w w' := by
  have HN := Lib.hid (new_goodX (Fb := fun _ => False) p room w h hm hr hr2)
  have hp : 0 < p ∧ p ≤ 1024 := by
    unfold mayBe at hm
    have := of_decide_eq_true hm
    omega
  have hrp : (room : Int) * (p : Int) = ((room * p : Nat) : Int) := by simp
  have hrp2 : room * p ≤ 4096 * 1024 := Nat.mul_le_mul hr2 hp.2
  obtain ⟨m, hmm⟩ : ∃ m, m = room * p := ⟨_, rfl⟩
  rw [← hmm] at hrp hs hrp2
  have d1 : decide ((m : Int) < (s.size : Int)) = true := decide_eq_true (by omega)
  have d1n : decide (m < s.size) = true := decide_eq_true hs
  have wm : IntKind.i64.wrap (m : Int) = m := IntWalk.i64_in _ (by omega)
  clear h hm hmm hp hr hr2
  go_enter Tryd.func9, Tryd.ntmps9
  go_wp2_with fail
  refine HN.out.mono ?_
  rintro e w1 ⟨b, rfl, hH, hlo, hbel⟩
  have HBEL := Lib.hid hbel
  clear hH hlo hbel
  go_wp2_with fail
  go_ret2
  exact ⟨rfl, HBEL.out⟩

theorem below_then {w a b : World} (h : Below w.heap.size w a) (k : Below a.heap.size a b) : Below w.heap.size w b := h.trans (k.mono h.size)
theorem set3_below' {c : Nat} {w a : World} (h : Below c w a) (b : Nat) (hb : c ≤ b) (x y z : Value) : Below c w (((a.setCell ⟨b, 2, none⟩ x).setCell ⟨b, 3, none⟩ y).setCell ⟨b, 4, none⟩ z) :=
  ((h.setCell (p := ⟨b, 2, none⟩) hb x).setCell (p := ⟨b, 3, none⟩) hb y).setCell (p := ⟨b, 4, none⟩) hb z
set_option maxHeartbeats 2000000 in
set_option maxRecDepth 100000 in
theorem from_goodX (p room : Nat) (s : ByteArray) (w : World) (hFb : ∀ k, Fb k → k < w.heap.size) (h : Sizes w) (hm : mayBe p = true) (hr : 0 < room) (hr2 : room ≤ 4096) (hs : s.size ≤ room * p) :
    Calls Tryd.prog 9 #[.int .i64 p, .int .i64 room, .string s] w fun e w' => ∃ b, e = .returned (.tuple #[.pointer (some ⟨b, 0, none⟩), .int .i64 0]) ∧ HasX Fb w' b (DP.made p room s) ∧ w.heap.size ≤ b ∧ Below w.heap.size w w' := by
  have HN := Lib.hid (new_goodX (Fb := Fb) p room w h hm hr hr2)
  have HFB := Lib.hid hFb
  have hp : 0 < p ∧ p ≤ 1024 := by
    unfold mayBe at hm
    have := of_decide_eq_true hm
    omega
  have HMADE : Hid ((DP.made p room s).Ok ∧ 0 < p ∧ p ≤ 1024 ∧ 0 < room ∧ room ≤ 4096 ∧ (DP.made p room s).reads ≤ 1000000) := Lib.hid ⟨DP.made_ok p room s hp.1 hs, hp.1, hp.2, hr, hr2, by show 0 ≤ _; omega⟩
  have hrp : (room : Int) * (p : Int) = ((room * p : Nat) : Int) := by simp
  have hrp2 : room * p ≤ 4096 * 1024 := Nat.mul_le_mul hr2 hp.2
  have hrp3 : room * p ≤ 4096 * p := Nat.mul_le_mul_right p hr2
  obtain ⟨m, hmm⟩ : ∃ m, m = room * p := ⟨_, rfl⟩
  rw [← hmm] at hrp hs hrp2 hrp3
  have d1 : decide ((m : Int) < (s.size : Int)) = false := decide_eq_false (by omega)
  have d1n : decide (m < s.size) = false := decide_eq_false (by omega)
  have wm : IntKind.i64.wrap (m : Int) = m := IntWalk.i64_in _ (by omega)
  have HMANY := Lib.hid (fun k => DP.many_lt p s.size k hp.1)
  have HPC := Lib.hid (put_cuts p s)
  have HCUT : Hid (∀ k a, a = k * p → a ≤ s.size → DP.cut p s k = s.extract a (min (a + p) s.size) ++ DP.zero (p - (min (a + p) s.size - a)) ∧ (DP.cut p s k).size = p) := Lib.hid (fun k a e ha => by
    subst e; exact ⟨rfl, DP.cut_size p s k ha⟩)
  obtain ⟨hp0, hp1⟩ := hp
  have hpz : ((p : Int) == 0) = false := beq_eq_false_iff_ne.2 (by omega)
  have hpz2 : ¬ (p : Int) = 0 := by omega
  have hpz3 : ¬ p = 0 := by omega
  have HCL : Hid (∀ W t, t.size ≤ 1000000 → Calls Tryd.prog 31 #[.string t] W fun e w' => e = .returned (.string t) ∧ Below W.heap.size W w') := Lib.hid (fun W t ht => clone_any t W ht)
  have HZ : Hid (∀ W z, z ≤ 1024 → Calls Tryd.prog 32 #[.int .i64 (z : Nat)] W fun e w' => e = .returned (.string (DP.zero z)) ∧ Below W.heap.size W w') := Lib.hid (fun W z hz => zeros_any z W (by omega))
  have HZS : Hid (∀ z, (DP.zero z).size = z) := Lib.hid DP.zero_size
  have HW := Lib.hid (fun (A : Option Addr) c L l i t W (hsz : w.heap.size ≤ W.heap.size) hB hR hi ht hl => with_any (Fb := Fb) p A c L l i t W hB hR hi ht hp0 hl (fun k hk => Nat.lt_of_lt_of_le (HFB.out k hk) hsz))
  clear h hm hmm hr
  go_enter Tryd.func9, Tryd.ntmps9
  go_wp2_with fail
  refine HN.out.mono ?_
  rintro e w1 ⟨b, rfl, hH, hlo, hbel⟩
  have HBEL := Lib.hid hbel
  have HLO := Lib.hid hlo
  have HH := Lib.hid hH
  have HB1 := Lib.hid hH.lt
  clear hH hlo hbel
  go_wp2_with fail
  obtain ⟨A1, c1, L1, A2, c2, L2, nw, lim, lf, o1, o2, o3, o4, o5⟩ := HH.out.parts
  have HSTART : Hid (∃ A c L n2 B2 nw lim lf, Obd w1 b p room 0 (DP.cuts p s 0).length (.slice A L.length c) n2 B2 nw lim lf ∧ Pgs Fb w1 p A c L (DP.cuts p s 0) ∧ nw = .pointer none ∧ LeftIs lim lf none) := Lib.hid ⟨A1, c1, L1, _, _, nw, lim, lf, o1, o2, o4, o5⟩
  clear o1 o2 o3 o4 o5 HN
  go_loopw [10] (fun iv wr => ∃ k a : Nat, iv = .int .i64 a ∧ a ≤ s.size + p ∧ Hid (a = k * p) ∧ Hid (k ≤ DP.many p s.size) ∧ Hid (∃ A c L n2 B2 nw lim lf, Obd wr b p room 0 (DP.cuts p s k).length (.slice A L.length c) n2 B2 nw lim lf ∧ Pgs Fb wr p A c L (DP.cuts p s k) ∧ nw = .pointer none ∧ LeftIs lim lf none) ∧ Hid (Below w.heap.size w wr)) (fun iv _ => s.size + p - (intOf iv).toNat)
  case atStart => exact ⟨0, 0, rfl, by omega, Lib.hid (by simp), Lib.hid (Nat.zero_le _), HSTART, HBEL⟩
  case round =>
    obtain ⟨k, a, rfl, hap, HA, HK, HPARTS, HBr⟩ := hrel
    obtain ⟨A, c, L, n2, B2, nw, lim, lf, o1, o2, o4, o5⟩ := HPARTS.out
    have HO1 := Lib.hid o1
    have HP1 := Lib.hid o2
    have HNW := Lib.hid o4
    have HLF := Lib.hid o5
    have y2 := o1.at 2 _ rfl
    have y3 := o1.at 3 _ rfl
    have y4 := o1.at 4 _ rfl
    clear o1 o2 o4 o5 HPARTS
    by_cases hlt : a < s.size
    · have d2 : decide ((a : Int) < (s.size : Int)) = true := decide_eq_true (by omega)
      have d2n : decide (a < s.size) = true := decide_eq_true hlt
      obtain ⟨en, hen⟩ : ∃ en, en = min (a + p) s.size := ⟨_, rfl⟩
      have hmn : min ((a : Int) + (p : Int)) (s.size : Int) = (en : Int) := by omega
      have hen1 : a ≤ en := by omega
      have hen2 : en ≤ s.size := by omega
      obtain ⟨t, ht⟩ : ∃ t, t = s.extract a en := ⟨_, rfl⟩
      have HTS : Hid (t.size = en - a) := Lib.hid (by rw [ht, ByteArray.size_extract]; omega)
      have hC := HCUT.out k a HA.out (by omega)
      obtain ⟨z, hz⟩ : ∃ z, z = p - (en - a) := ⟨_, rfl⟩
      rw [← hen, ← hz] at hC
      have HC1 : Hid (DP.cut p s k = t ++ DP.zero z) := Lib.hid (by rw [hC.1, ht])
      have HC2 := Lib.hid hC.2
      have hzz : IntKind.i64.wrap ((p : Int) - ((en - a : Nat) : Int)) = (z : Int) := by
        rw [show (p : Int) - ((en - a : Nat) : Int) = (z : Int) by omega]
        exact IntWalk.i64_in _ (by omega)
      have hz1 : z ≤ 1024 := by omega
      have HZ1 := Lib.hid hz1
      have hk4 : k < 4096 := by
        have h1 : k * p < 4096 * p := by have := HA.out; omega
        exact Nat.lt_of_mul_lt_mul_right h1
      have hq1 : (a : Int) / (p : Int) = (k : Int) := by
        rw [show (a : Int) = (k : Int) * (p : Int) by rw [HA.out]; simp]
        exact Int.mul_ediv_cancel _ (by omega)
      have HW' : Hid (∀ W, w.heap.size ≤ W.heap.size → Blocks Fb W A c L → Calls Tryd.prog 30 #[.agg #[.int .i64 p, .int .i64 (DP.cuts p s k).length, .slice A L.length c], .int .i64 k, .string (t ++ DP.zero z)] W fun e w' => ∃ A' c' L', e = .returned (.agg #[.int .i64 p, .int .i64 (DP.cuts p s (k + 1)).length, .slice A' L'.length c']) ∧ Blocks Fb w' A' c' L' ∧ Rep p L' (DP.cuts p s (k + 1)) ∧ Below W.heap.size W w') := Lib.hid (fun W hsz hW => by
        have := HW.out A c L (DP.cuts p s k) k (DP.cut p s k) W hsz hW HP1.out.rep hk4 HC2.out (by rw [DP.cuts_length]; omega)
        rw [HPC.out, HC1.out] at this
        exact this)
      have HCLt : Hid (∀ W, Calls Tryd.prog 31 #[.string (s.extract a en)] W fun e w' => e = .returned (.string t) ∧ Below W.heap.size W w') := Lib.hid (fun W => by rw [← ht]; exact HCL.out W t (by have := HTS.out; omega))
      have HZz : Hid (∀ W, Calls Tryd.prog 32 #[.int .i64 (z : Nat)] W fun e w' => e = .returned (.string (DP.zero z)) ∧ Below W.heap.size W w') := Lib.hid (fun W => HZ.out W z HZ1.out)
      have hsum : ¬ (9223372036854775807 : Int) < (t.size : Int) + ((DP.zero z).size : Int) := by rw [HTS.out, HZS.out]; omega
      have hsumN : ¬ 9223372036854775807 < t.size + (DP.zero z).size := by rw [HTS.out, HZS.out]; omega
      clear hC hz ht hen hz1
      have HBK1 := Lib.hid HP1.out.blocks
      have wk : IntKind.i64.wrap (k : Int) = (k : Int) := IntWalk.i64_in _ (by omega)
      go_wp2_with fail
      go_region_law (first
        | (go_simp; go_at_call 31; refine (HCLt.out _).mono ?_; rintro e w2 ⟨rfl, hb2⟩;
           have HB2 := Lib.hid (below_of_drew hb2);
           have HO2 := Lib.hid (HO1.out.below (below_of_drew hb2));
           have HBK2 := Lib.hid (HBK1.out.on (below_of_drew hb2));
           have u2 := HO2.out.at 2 _ rfl; have u3 := HO2.out.at 3 _ rfl; have u4 := HO2.out.at 4 _ rfl; clear hb2)
        | (go_simp; go_at_call 32; refine (HZz.out _).mono ?_; rintro e w3 ⟨rfl, hb3⟩;
           have HB3 := Lib.hid hb3;
           have HO3 := Lib.hid (HO2.out.below hb3);
           have HBK3 := Lib.hid (HBK2.out.on hb3);
           have v2 := HO3.out.at 2 _ rfl; have v3 := HO3.out.at 3 _ rfl; have v4 := HO3.out.at 4 _ rfl; clear hb3)
        | (go_simp; go_at_call 30; refine (HW'.out _ (below_then (below_then HBr.out HB2.out) HB3.out).size HBK3.out).mono ?_; rintro e w4 ⟨A4, c4, L4, rfl, hB4, hR4, hb4⟩;
           have HB4 := Lib.hid hb4; have HBK4 := Lib.hid hB4; have HR4 := Lib.hid hR4;
           have HO4 := Lib.hid (HO3.out.below hb4);
           have x2 := HO4.out.at 2 _ rfl; have x3 := HO4.out.at 3 _ rfl; have x4 := HO4.out.at 4 _ rfl;
           have f2 := HO4.out.free 2; have f3 := HO4.out.free 3; have f4 := HO4.out.free 4; clear hB4 hR4 hb4))
      all_goals
        have HO5 := Lib.hid (HO4.out.setNow ((DP.cuts p s (k + 1)).length : Nat) (.slice A4 L4.length c4))
        have HC5 : Hid (Chg (fun j => j = b) w4 (((w4.setCell ⟨b, 2, none⟩ (.int .i64 (p : Int))).setCell ⟨b, 3, none⟩ (.int .i64 ((DP.cuts p s (k + 1)).length : Nat))).setCell ⟨b, 4, none⟩ (.slice A4 L4.length c4))) := Lib.hid ((((Chg.refl (fun j => j = b) w4).set (b := b) rfl 2 _).set (b := b) rfl 3 _).set (b := b) rfl 4 _)
        have HBEL5 : Hid (Below w.heap.size w (((w4.setCell ⟨b, 2, none⟩ (.int .i64 (p : Int))).setCell ⟨b, 3, none⟩ (.int .i64 ((DP.cuts p s (k + 1)).length : Nat))).setCell ⟨b, 4, none⟩ (.slice A4 L4.length c4))) := Lib.hid (set3_below' (below_then (below_then (below_then HBr.out HB2.out) HB3.out) HB4.out) b HLO.out _ _ _)
        have HST5 := Lib.hid (HO4.out.st HC5.out)
        generalize hw5 : ((w4.setCell ⟨b, 2, none⟩ (.int .i64 (p : Int))).setCell ⟨b, 3, none⟩ (.int .i64 ((DP.cuts p s (k + 1)).length : Nat))).setCell ⟨b, 4, none⟩ (.slice A4 L4.length c4) = w5 at *
        have hAP : IntKind.i64.wrap ((a : Int) + (p : Int)) = ((a + p : Nat) : Int) := by
          rw [IntWalk.i64_in _ (by omega)]
          simp
        clear u2 u3 u4 v2 v3 v4 x2 x3 x4 f2 f3 f4 hw5 y2 y3 y4
        go_wp2_with fail
        go_roundw
        case rel => exact ⟨k + 1, a + p, by first | rfl | simp, by omega, Lib.hid (by rw [HA.out]; exact (Nat.succ_mul k p).symm), Lib.hid ((HMANY.out k).2 (by rw [← HA.out]; exact hlt)), Lib.hid ⟨A4, c4, L4, n2, B2, nw, lim, lf, HO5.out, ⟨HBK4.out.st HST5.out, HR4.out⟩, HNW.out, HLF.out⟩, HBEL5⟩
        case measure => simp [intOf]; omega
    · have d2 : decide ((a : Int) < (s.size : Int)) = false := decide_eq_false (by omega)
      have d2n : decide (a < s.size) = false := decide_eq_false hlt
      have HM : Hid (k = DP.many p s.size) := Lib.hid (by
        have h1 := HK.out
        have h2 := HMANY.out k
        have h3 := HA.out
        rcases Nat.lt_or_ge k (DP.many p s.size) with h4 | h4
        · have := h2.1 h4; omega
        · omega)
      have y5 := HO1.out.at 5 _ rfl
      have y6 := HO1.out.at 6 _ rfl
      have y7 := HO1.out.at 7 _ rfl
      have f5 := HO1.out.free 5
      have f6 := HO1.out.free 6
      have f7 := HO1.out.free 7
      have HO5 := Lib.hid (HO1.out.setSyn ((DP.cuts p s k).length : Nat) (.slice A L.length c))
      have HC5 : Hid (Chg (fun j => j = b) wr (((wr.setCell ⟨b, 5, none⟩ (.int .i64 (p : Int))).setCell ⟨b, 6, none⟩ (.int .i64 ((DP.cuts p s k).length : Nat))).setCell ⟨b, 7, none⟩ (.slice A L.length c))) := Lib.hid ((((Chg.refl (fun j => j = b) wr).set (b := b) rfl 5 _).set (b := b) rfl 6 _).set (b := b) rfl 7 _)
      have HP5 := Lib.hid (HP1.out.st (HO1.out.st HC5.out))
      have HBEL5 : Hid (Below w.heap.size w (((wr.setCell ⟨b, 5, none⟩ (.int .i64 (p : Int))).setCell ⟨b, 6, none⟩ (.int .i64 ((DP.cuts p s k).length : Nat))).setCell ⟨b, 7, none⟩ (.slice A L.length c))) := Lib.hid (((HBr.out.setCell (p := ⟨b, 5, none⟩) HLO.out _).setCell (p := ⟨b, 6, none⟩) HLO.out _).setCell (p := ⟨b, 7, none⟩) HLO.out _)
      go_wp2_with fail
      go_ret2
      have hcuts : (DP.made p room s).all = DP.cuts p s k := by rw [HM.out]; rfl
      have hkept : (DP.made p room s).kept = DP.cuts p s k := by rw [HM.out]; rfl
      refine ⟨b, rfl, ⟨⟨A, c, L, A, c, L, nw, lim, lf, ?_, ?_, ?_, ?_, HLF.out⟩, HMADE.out.1, HMADE.out.2⟩, HLO.out, HBEL5.out⟩
      · rw [hcuts, hkept]
        exact HO5.out
      · rw [hcuts]; exact HP5.out
      · rw [hkept]; exact HP5.out
      · exact HNW.out
end Go.Proofs.YtaeiifmdbdhoeaaDoor
