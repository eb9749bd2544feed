/-
  The walks of slices.Equal at numbers and at texts, inner.Same, the document's Ints, Words, Same. Written by wip/gen_isame.py.
-/
import Derived.Test.YtembccehokodeaaGreatDoorJ03
namespace Go.Proofs.YtembccehokodeaaGreatDoor
open Go.RowKit IP
set_option linter.unusedVariables false
set_option linter.unusedSimpArgs false

theorem take_same {α : Type} {l m : List α} {k : Nat} {s t : α} (hs : l[k]? = some s) (ht : m[k]? = some t) (h : l.take k = m.take k) (e : s = t) : l.take (k + 1) = m.take (k + 1) := by
  subst e
  rw [List.take_add_one, List.take_add_one, hs, ht, h]
theorem toList_inj {a b : ByteArray} : (a.toList == b.toList) = true ↔ a = b := by
  rw [Lib.toList_data, Lib.toList_data, beq_iff_eq]
  exact ⟨fun h => ByteArray.ext (Array.toList_inj.1 h), fun h => by rw [h]⟩
theorem text_yes {a b : ByteArray} (h : a = b) : (a.toList == b.toList) = true := toList_inj.2 h
theorem text_no {a b : ByteArray} (h : a ≠ b) : (a.toList == b.toList) = false := by
  cases e : (a.toList == b.toList) with
  | false => rfl
  | true => exact absurd (toList_inj.1 e) h

instance : DecidableEq Inn := fun a b => decidable_of_iff (a.self = b.self ∧ a.level = b.level ∧ a.right = b.right ∧ a.high = b.high ∧ a.kids = b.kids ∧ a.seps = b.seps) (by
  cases a; cases b; simp)

set_option maxHeartbeats 2000000 in
set_option maxRecDepth 100000 in
theorem eqN_any (A C : Option Addr) (l m : List Int) (ca cb : Nat) (w : World) (ha : LiesN w w.heap.size A l) (hb : LiesN w w.heap.size C m) (hl : l.length ≤ 1000000) (hm : m.length ≤ 1000000) :
    Calls Tryz.prog 46 #[.slice A l.length ca, .slice C m.length cb] w fun e w' => e = .returned (.bool (decide (l = m))) ∧ Below w.heap.size w w' := by
  by_cases hlen : l.length = m.length
  · have HA := Lib.hid ha
    have HB := Lib.hid hb
    obtain ⟨n, hn⟩ : ∃ n, n = l.length := ⟨_, rfl⟩
    have HN := Lib.hid hn
    have HM : Hid (n = m.length) := Lib.hid (by omega)
    obtain ⟨r, hr⟩ : ∃ r, decide (l = m) = r := ⟨_, rfl⟩
    have HR := Lib.hid hr
    rw [hr, ← hlen, ← hn]
    rw [← hn] at hl
    clear ha hb hn hlen hm hr
    have dn : ((n : Int) != (n : Int)) = false := by simp
    go_enter Tryz.func46, Tryz.ntmps46
    go_wp2_with fail
    go_loopw [13] (fun iv wr => ∃ k : Nat, k ≤ n ∧ iv = .int .i64 k ∧ Hid (l.take k = m.take k) ∧ Below w.heap.size w wr) (fun iv _ => n - (intOf iv).toNat)
    case atStart => exact ⟨0, by omega, rfl, Lib.hid (by simp), Below.refl _ _⟩
    case round =>
      obtain ⟨k, hk, rfl, HT, hbw⟩ := hrel
      by_cases hlt : k < n
      · obtain ⟨s, hc⟩ : ∃ c, l[k]? = some c := ⟨_, List.getElem?_eq_getElem (by have := HN.out; omega)⟩
        obtain ⟨t, hd⟩ : ∃ c, m[k]? = some c := ⟨_, List.getElem?_eq_getElem (by have := HM.out; omega)⟩
        obtain ⟨a, rfl, hab, x0⟩ := (HA.out.below hbw) k s hc
        obtain ⟨b, rfl, hbb, y0⟩ := (HB.out.below hbw) k t hd
        have h0 : (0 : Int) ≤ k := by omega
        have hkn : (k : Int) < n := by omega
        by_cases hst : s = t
        · have HST := Lib.hid (take_same hc hd HT.out hst)
          have hz : (s != t) = false := by simp [hst]
          clear hc hd hab hbb hst
          go_wp2_with fail
          go_quiet (fail)
          go_wp2_with fail
          go_roundw
          case rel => exact ⟨k + 1, by omega, by simp, HST, L5.below_drewN hbw _⟩
          case measure => simp [intOf]; omega
        · have HX : Hid (r = false) := Lib.hid (by
            rw [← HR.out]
            refine decide_eq_false fun h => hst ?_
            subst h
            rw [hc] at hd
            exact Option.some.inj hd)
          have hz : (s != t) = true := by simp [hst]
          clear hc hd hab hbb hst
          go_wp2_with fail
          go_quiet (fail)
          go_wp2_with fail
          go_ret
          exact ⟨by rw [HX.out]; rfl, L5.below_drewN hbw _⟩
      · have HX : Hid (r = true) := Lib.hid (by
          rw [← HR.out]
          refine decide_eq_true ?_
          have h := HT.out
          rwa [List.take_of_length_le (by have := HN.out; omega), List.take_of_length_le (by have := HM.out; omega)] at h)
        have hlt' : ¬ (k : Int) < n := by omega
        have hlt2 : decide ((k : Int) < (n : Int)) = false := decide_eq_false hlt'
        clear hk
        go_wp2_with fail
        go_ret
        exact ⟨by rw [HX.out]; rfl, hbw⟩
  · rw [decide_eq_false (fun h => hlen (by rw [h]))]
    have dn : ((l.length : Int) != (m.length : Int)) = true := by simp; omega
    generalize l.length = n1 at *
    generalize m.length = n2 at *
    clear ha hb hlen
    go_enter Tryz.func46, Tryz.ntmps46
    go_wp2_with fail
    go_ret
    exact ⟨rfl, Below.refl _ _⟩

set_option maxHeartbeats 2000000 in
set_option maxRecDepth 100000 in
theorem eqS_any (A C : Option Addr) (l m : List ByteArray) (ca cb : Nat) (w : World) (ha : L5.Lies w w.heap.size A l) (hb : L5.Lies w w.heap.size C m) (hl : l.length ≤ 1000000) (hm : m.length ≤ 1000000) :
    Calls Tryz.prog 47 #[.slice A l.length ca, .slice C m.length cb] w fun e w' => e = .returned (.bool (decide (l = m))) ∧ Below w.heap.size w w' := by
  by_cases hlen : l.length = m.length
  · have HA := Lib.hid ha
    have HB := Lib.hid hb
    obtain ⟨n, hn⟩ : ∃ n, n = l.length := ⟨_, rfl⟩
    have HN := Lib.hid hn
    have HM : Hid (n = m.length) := Lib.hid (by omega)
    obtain ⟨r, hr⟩ : ∃ r, decide (l = m) = r := ⟨_, rfl⟩
    have HR := Lib.hid hr
    rw [hr, ← hlen, ← hn]
    rw [← hn] at hl
    clear ha hb hn hlen hm hr
    have dn : ((n : Int) != (n : Int)) = false := by simp
    go_enter Tryz.func47, Tryz.ntmps47
    go_wp2_with fail
    go_loopw [13] (fun iv wr => ∃ k : Nat, k ≤ n ∧ iv = .int .i64 k ∧ Hid (l.take k = m.take k) ∧ Below w.heap.size w wr) (fun iv _ => n - (intOf iv).toNat)
    case atStart => exact ⟨0, by omega, rfl, Lib.hid (by simp), Below.refl _ _⟩
    case round =>
      obtain ⟨k, hk, rfl, HT, hbw⟩ := hrel
      by_cases hlt : k < n
      · obtain ⟨s, hc⟩ : ∃ c, l[k]? = some c := ⟨_, List.getElem?_eq_getElem (by have := HN.out; omega)⟩
        obtain ⟨t, hd⟩ : ∃ c, m[k]? = some c := ⟨_, List.getElem?_eq_getElem (by have := HM.out; omega)⟩
        obtain ⟨a, rfl, hab, x0⟩ := (HA.out.below hbw) k s hc
        obtain ⟨b, rfl, hbb, y0⟩ := (HB.out.below hbw) k t hd
        have h0 : (0 : Int) ≤ k := by omega
        have hkn : (k : Int) < n := by omega
        by_cases hst : s = t
        · have HST := Lib.hid (take_same hc hd HT.out hst)
          have hz := text_yes hst
          have hz2 : (s.toList != t.toList) = false := by simp only [bne, hz]; rfl
          clear hc hd hab hbb hst
          go_wp2_with fail
          go_quiet (fail)
          go_wp2_with fail
          go_roundw
          case rel => exact ⟨k + 1, by omega, by simp, HST, L5.below_drewN hbw _⟩
          case measure => simp [intOf]; omega
        · have HX : Hid (r = false) := Lib.hid (by
            rw [← HR.out]
            refine decide_eq_false fun h => hst ?_
            subst h
            rw [hc] at hd
            exact Option.some.inj hd)
          have hz := text_no hst
          have hz2 : (s.toList != t.toList) = true := by simp only [bne, hz]; rfl
          clear hc hd hab hbb hst
          go_wp2_with fail
          go_quiet (fail)
          go_wp2_with fail
          go_ret
          exact ⟨by rw [HX.out]; rfl, L5.below_drewN hbw _⟩
      · have HX : Hid (r = true) := Lib.hid (by
          rw [← HR.out]
          refine decide_eq_true ?_
          have h := HT.out
          rwa [List.take_of_length_le (by have := HN.out; omega), List.take_of_length_le (by have := HM.out; omega)] at h)
        have hlt' : ¬ (k : Int) < n := by omega
        have hlt2 : decide ((k : Int) < (n : Int)) = false := decide_eq_false hlt'
        clear hk
        go_wp2_with fail
        go_ret
        exact ⟨by rw [HX.out]; rfl, hbw⟩
  · rw [decide_eq_false (fun h => hlen (by rw [h]))]
    have dn : ((l.length : Int) != (m.length : Int)) = true := by simp; omega
    generalize l.length = n1 at *
    generalize m.length = n2 at *
    clear ha hb hlen
    go_enter Tryz.func47, Tryz.ntmps47
    go_wp2_with fail
    go_ret
    exact ⟨rfl, Below.refl _ _⟩

set_option maxHeartbeats 2000000 in
set_option maxRecDepth 100000 in
theorem ints_any (A C : Option Addr) (l m : List Int) (ca cb : Nat) (w : World) (ha : LiesN w w.heap.size A l) (hb : LiesN w w.heap.size C m) (hl : l.length ≤ 1000000) (hm : m.length ≤ 1000000) :
    Calls Tryz.prog 48 #[.slice A l.length ca, .slice C m.length cb] w fun e w' => e = .returned (.bool (decide (l = m))) ∧ Below w.heap.size w w' := by
  by_cases hlen : l.length = m.length
  · have HA := Lib.hid ha
    have HB := Lib.hid hb
    obtain ⟨n, hn⟩ : ∃ n, n = l.length := ⟨_, rfl⟩
    have HN := Lib.hid hn
    have HM : Hid (n = m.length) := Lib.hid (by omega)
    obtain ⟨r, hr⟩ : ∃ r, decide (l = m) = r := ⟨_, rfl⟩
    have HR := Lib.hid hr
    rw [hr, ← hlen, ← hn]
    rw [← hn] at hl
    clear ha hb hn hlen hm hr
    have dn : ((n : Int) != (n : Int)) = false := by simp
    go_enter Tryz.func48, Tryz.ntmps48
    go_wp2_with fail
    go_loopw [5] (fun iv wr => ∃ k : Nat, k ≤ n ∧ iv = .int .i64 k ∧ Hid (l.take k = m.take k) ∧ Below w.heap.size w wr) (fun iv _ => n - (intOf iv).toNat)
    case atStart => exact ⟨0, by omega, rfl, Lib.hid (by simp), Below.refl _ _⟩
    case round =>
      obtain ⟨k, hk, rfl, HT, hbw⟩ := hrel
      by_cases hlt : k < n
      · obtain ⟨s, hc⟩ : ∃ c, l[k]? = some c := ⟨_, List.getElem?_eq_getElem (by have := HN.out; omega)⟩
        obtain ⟨t, hd⟩ : ∃ c, m[k]? = some c := ⟨_, List.getElem?_eq_getElem (by have := HM.out; omega)⟩
        obtain ⟨a, rfl, hab, x0⟩ := (HA.out.below hbw) k s hc
        obtain ⟨b, rfl, hbb, y0⟩ := (HB.out.below hbw) k t hd
        have h0 : (0 : Int) ≤ k := by omega
        have hkn : (k : Int) < n := by omega
        by_cases hst : s = t
        · have HST := Lib.hid (take_same hc hd HT.out hst)
          have hz : (s != t) = false := by simp [hst]
          clear hc hd hab hbb hst
          go_wp2_with fail
          go_quiet (fail)
          go_wp2_with fail
          go_roundw
          case rel => exact ⟨k + 1, by omega, by simp, HST, L5.below_drewN hbw _⟩
          case measure => simp [intOf]; omega
        · have HX : Hid (r = false) := Lib.hid (by
            rw [← HR.out]
            refine decide_eq_false fun h => hst ?_
            subst h
            rw [hc] at hd
            exact Option.some.inj hd)
          have hz : (s != t) = true := by simp [hst]
          clear hc hd hab hbb hst
          go_wp2_with fail
          go_quiet (fail)
          go_wp2_with fail
          go_ret
          exact ⟨by rw [HX.out]; rfl, L5.below_drewN hbw _⟩
      · have HX : Hid (r = true) := Lib.hid (by
          rw [← HR.out]
          refine decide_eq_true ?_
          have h := HT.out
          rwa [List.take_of_length_le (by have := HN.out; omega), List.take_of_length_le (by have := HM.out; omega)] at h)
        have hlt' : ¬ (k : Int) < n := by omega
        have hlt2 : decide ((k : Int) < (n : Int)) = false := decide_eq_false hlt'
        clear hk
        go_wp2_with fail
        go_ret
        exact ⟨by rw [HX.out]; rfl, hbw⟩
  · rw [decide_eq_false (fun h => hlen (by rw [h]))]
    have dn : ((l.length : Int) != (m.length : Int)) = true := by simp; omega
    generalize l.length = n1 at *
    generalize m.length = n2 at *
    clear ha hb hlen
    go_enter Tryz.func48, Tryz.ntmps48
    go_wp2_with fail
    go_ret
    exact ⟨rfl, Below.refl _ _⟩

set_option maxHeartbeats 2000000 in
set_option maxRecDepth 100000 in
theorem words_any (A C : Option Addr) (l m : List ByteArray) (ca cb : Nat) (w : World) (ha : L5.Lies w w.heap.size A l) (hb : L5.Lies w w.heap.size C m) (hl : l.length ≤ 1000000) (hm : m.length ≤ 1000000) :
    Calls Tryz.prog 49 #[.slice A l.length ca, .slice C m.length cb] w fun e w' => e = .returned (.bool (decide (l = m))) ∧ Below w.heap.size w w' := by
  by_cases hlen : l.length = m.length
  · have HA := Lib.hid ha
    have HB := Lib.hid hb
    obtain ⟨n, hn⟩ : ∃ n, n = l.length := ⟨_, rfl⟩
    have HN := Lib.hid hn
    have HM : Hid (n = m.length) := Lib.hid (by omega)
    obtain ⟨r, hr⟩ : ∃ r, decide (l = m) = r := ⟨_, rfl⟩
    have HR := Lib.hid hr
    rw [hr, ← hlen, ← hn]
    rw [← hn] at hl
    clear ha hb hn hlen hm hr
    have dn : ((n : Int) != (n : Int)) = false := by simp
    go_enter Tryz.func49, Tryz.ntmps49
    go_wp2_with fail
    go_loopw [5] (fun iv wr => ∃ k : Nat, k ≤ n ∧ iv = .int .i64 k ∧ Hid (l.take k = m.take k) ∧ Below w.heap.size w wr) (fun iv _ => n - (intOf iv).toNat)
    case atStart => exact ⟨0, by omega, rfl, Lib.hid (by simp), Below.refl _ _⟩
    case round =>
      obtain ⟨k, hk, rfl, HT, hbw⟩ := hrel
      by_cases hlt : k < n
      · obtain ⟨s, hc⟩ : ∃ c, l[k]? = some c := ⟨_, List.getElem?_eq_getElem (by have := HN.out; omega)⟩
        obtain ⟨t, hd⟩ : ∃ c, m[k]? = some c := ⟨_, List.getElem?_eq_getElem (by have := HM.out; omega)⟩
        obtain ⟨a, rfl, hab, x0⟩ := (HA.out.below hbw) k s hc
        obtain ⟨b, rfl, hbb, y0⟩ := (HB.out.below hbw) k t hd
        have h0 : (0 : Int) ≤ k := by omega
        have hkn : (k : Int) < n := by omega
        by_cases hst : s = t
        · have HST := Lib.hid (take_same hc hd HT.out hst)
          have hz := text_yes hst
          have hz2 : (s.toList != t.toList) = false := by simp only [bne, hz]; rfl
          clear hc hd hab hbb hst
          go_wp2_with fail
          go_quiet (fail)
          go_wp2_with fail
          go_roundw
          case rel => exact ⟨k + 1, by omega, by simp, HST, L5.below_drewN hbw _⟩
          case measure => simp [intOf]; omega
        · have HX : Hid (r = false) := Lib.hid (by
            rw [← HR.out]
            refine decide_eq_false fun h => hst ?_
            subst h
            rw [hc] at hd
            exact Option.some.inj hd)
          have hz := text_no hst
          have hz2 : (s.toList != t.toList) = true := by simp only [bne, hz]; rfl
          clear hc hd hab hbb hst
          go_wp2_with fail
          go_quiet (fail)
          go_wp2_with fail
          go_ret
          exact ⟨by rw [HX.out]; rfl, L5.below_drewN hbw _⟩
      · have HX : Hid (r = true) := Lib.hid (by
          rw [← HR.out]
          refine decide_eq_true ?_
          have h := HT.out
          rwa [List.take_of_length_le (by have := HN.out; omega), List.take_of_length_le (by have := HM.out; omega)] at h)
        have hlt' : ¬ (k : Int) < n := by omega
        have hlt2 : decide ((k : Int) < (n : Int)) = false := decide_eq_false hlt'
        clear hk
        go_wp2_with fail
        go_ret
        exact ⟨by rw [HX.out]; rfl, hbw⟩
  · rw [decide_eq_false (fun h => hlen (by rw [h]))]
    have dn : ((l.length : Int) != (m.length : Int)) = true := by simp; omega
    generalize l.length = n1 at *
    generalize m.length = n2 at *
    clear ha hb hlen
    go_enter Tryz.func49, Tryz.ntmps49
    go_wp2_with fail
    go_ret
    exact ⟨rfl, Below.refl _ _⟩

theorem same_any_boxes (F L R : Int) (H : ByteArray) (A : Option Addr) (n ca : Nat) (C : Option Addr) (m cb : Nat) (F' L' R' : Int) (H' : ByteArray) (A' : Option Addr) (n' ca' : Nat) (C' : Option Addr) (m' cb' : Nat) (w : World) :
    NBx 25 w.heap.size F L R H A n ca C m cb (nbox 25 F' L' R' H' A' n' ca' C' m' cb' (nbox 25 F L R H A n ca C m cb w)) ∧ NBx 25 (w.heap.size + 1) F' L' R' H' A' n' ca' C' m' cb' (nbox 25 F' L' R' H' A' n' ca' C' m' cb' (nbox 25 F L R H A n ca C m cb w)) ∧ Below w.heap.size w (nbox 25 F' L' R' H' A' n' ca' C' m' cb' (nbox 25 F L R H A n ca C m cb w)) := by
  have h2 := nbox_new 25 F' L' R' H' A' n' ca' C' m' cb' (nbox 25 F L R H A n ca C m cb w)
  rw [nbox_size] at h2
  exact ⟨(nbox_new 25 F L R H A n ca C m cb w).below (nbox_below _ _ _ _ _ _ _ _ _ _ _ _), h2, (nbox_below _ _ _ _ _ _ _ _ _ _ _ _).trans' (nbox_below _ _ _ _ _ _ _ _ _ _ _ _)⟩
set_option maxHeartbeats 2000000 in
set_option maxRecDepth 100000 in
theorem same_any (F L R : Int) (H : ByteArray) (A : Option Addr) (n ca : Nat) (C : Option Addr) (m cb : Nat) (ks : List Int) (ss : List ByteArray) (F' L' R' : Int) (H' : ByteArray) (A' : Option Addr) (n' ca' : Nat) (C' : Option Addr) (m' cb' : Nat) (ks' : List Int) (ss' : List ByteArray) (w : World) (h1 : Rows2 w A n ca C m cb ks ss) (h2 : Rows2 w A' n' ca' C' m' cb' ks' ss') (hn : n ≤ 1000000) (hm : m ≤ 1000000) (hn' : n' ≤ 1000000) (hm' : m' ≤ 1000000) :
    Calls Tryz.prog 17 #[nv F L R H A n ca C m cb, nv F' L' R' H' A' n' ca' C' m' cb'] w fun e w' => e = .returned (.bool (decide ((⟨F, L, R, H, ks, ss⟩ : Inn) = ⟨F', L', R', H', ks', ss'⟩))) ∧ Below w.heap.size w w' := by
  obtain ⟨B1, B2, hb2⟩ := same_any_boxes F L R H A n ca C m cb F' L' R' H' A' n' ca' C' m' cb' w
  have HE := Lib.hid (fun W (g1 : Rows2 W A n ca C m cb ks ss) (g2 : Rows2 W A' n' ca' C' m' cb' ks' ss') => eqN_any A A' ks ks' ca ca' W g1.kids g2.kids (by rw [g1.nk]; omega) (by rw [g2.nk]; omega))
  have HF := Lib.hid (fun W (g1 : Rows2 W A n ca C m cb ks ss) (g2 : Rows2 W A' n' ca' C' m' cb' ks' ss') => eqS_any C C' ss ss' cb cb' W g1.seps g2.seps (by rw [g1.nm]; omega) (by rw [g2.nm]; omega))
  rw [h1.nk, h2.nk] at HE
  rw [h1.nm, h2.nm] at HF
  have H1 := Lib.hid (h1.on hb2)
  have H2 := Lib.hid (h2.on hb2)
  have HB := Lib.hid hb2
  have HX1 := Lib.hid B1
  have HX2 := Lib.hid B2
  clear h1 h2 hb2 B1 B2 hn hm hn' hm'
  obtain ⟨x0, x1, x2, x3, x4, x5⟩ := HX1.out.cells
  obtain ⟨y0, y1, y2, y3, y4, y5⟩ := HX2.out.cells
  by_cases c0 : F = F'
  rotate_left
  · rw [decide_eq_false (fun h => c0 (congrArg Inn.self h))]
    have z0 : (F == F') = false := beq_eq_false_iff_ne.2 c0
    clear c0 HE HF H1 H2
    go_enter Tryz.func17, Tryz.ntmps17
    go_wp2_with fail
    go_ret
    exact ⟨rfl, HB.out⟩
  subst c0
  by_cases c1 : L = L'
  rotate_left
  · rw [decide_eq_false (fun h => c1 (congrArg Inn.level h))]
    have z1 : (L == L') = false := beq_eq_false_iff_ne.2 c1
    clear c1 HE HF H1 H2
    go_enter Tryz.func17, Tryz.ntmps17
    go_wp2_with fail
    go_ret
    exact ⟨rfl, HB.out⟩
  subst c1
  by_cases c2 : R = R'
  rotate_left
  · rw [decide_eq_false (fun h => c2 (congrArg Inn.right h))]
    have z2 : (R == R') = false := beq_eq_false_iff_ne.2 c2
    clear c2 HE HF H1 H2
    go_enter Tryz.func17, Tryz.ntmps17
    go_wp2_with fail
    go_ret
    exact ⟨rfl, HB.out⟩
  subst c2
  by_cases c3 : H = H'
  rotate_left
  · rw [decide_eq_false (fun h => c3 (congrArg Inn.high h))]
    have z3 := text_no c3
    clear c3 HE HF H1 H2
    go_enter Tryz.func17, Tryz.ntmps17
    go_wp2_with fail
    go_ret
    exact ⟨rfl, HB.out⟩
  subst c3
  have zh := text_yes (rfl : H = H)
  by_cases c4 : ks = ks'
  rotate_left
  · rw [decide_eq_false (fun h => c4 (congrArg Inn.kids h))]
    rw [decide_eq_false c4] at HE
    clear c4 HF
    go_enter Tryz.func17, Tryz.ntmps17
    go_wp2_with fail
    refine (HE.out _ H1.out H2.out).mono ?_
    rintro e w3 ⟨rfl, hb3⟩
    go_wp2_with fail
    go_ret
    exact ⟨rfl, HB.out.trans' hb3⟩
  rw [decide_eq_true c4] at HE
  have e : decide (ss = ss') = decide ((⟨F, L, R, H, ks, ss⟩ : Inn) = ⟨F, L, R, H, ks', ss'⟩) := by
    by_cases hq : ss = ss'
    · rw [decide_eq_true hq, decide_eq_true (by rw [c4, hq])]
    · rw [decide_eq_false hq, decide_eq_false (fun h => hq (congrArg Inn.seps h))]
  rw [e] at HF
  generalize decide ((⟨F, L, R, H, ks, ss⟩ : Inn) = ⟨F, L, R, H, ks', ss'⟩) = q at *
  clear e c4
  go_enter Tryz.func17, Tryz.ntmps17
  go_wp2_with fail
  refine (HE.out _ H1.out H2.out).mono ?_
  rintro e w3 ⟨rfl, hb3⟩
  clear x0 x1 x2 x3 x4 x5 y0 y1 y2 y3 y4 y5
  obtain ⟨x0, x1, x2, x3, x4, x5⟩ := (HX1.out.below hb3).cells
  obtain ⟨y0, y1, y2, y3, y4, y5⟩ := (HX2.out.below hb3).cells
  go_wp2_with fail
  refine (HF.out _ (H1.out.on hb3) (H2.out.on hb3)).mono ?_
  rintro e w4 ⟨rfl, hb4⟩
  go_wp2_with fail
  go_ret
  exact ⟨rfl, (HB.out.trans' hb3).trans' hb4⟩

theorem rsame_any_boxes (F L R : Int) (H : ByteArray) (A : Option Addr) (n ca : Nat) (C : Option Addr) (m cb : Nat) (F' L' R' : Int) (H' : ByteArray) (A' : Option Addr) (n' ca' : Nat) (C' : Option Addr) (m' cb' : Nat) (w : World) :
    NBx 33 w.heap.size F L R H A n ca C m cb (nbox 33 F' L' R' H' A' n' ca' C' m' cb' (nbox 33 F L R H A n ca C m cb w)) ∧ NBx 33 (w.heap.size + 1) F' L' R' H' A' n' ca' C' m' cb' (nbox 33 F' L' R' H' A' n' ca' C' m' cb' (nbox 33 F L R H A n ca C m cb w)) ∧ Below w.heap.size w (nbox 33 F' L' R' H' A' n' ca' C' m' cb' (nbox 33 F L R H A n ca C m cb w)) := by
  have h2 := nbox_new 33 F' L' R' H' A' n' ca' C' m' cb' (nbox 33 F L R H A n ca C m cb w)
  rw [nbox_size] at h2
  exact ⟨(nbox_new 33 F L R H A n ca C m cb w).below (nbox_below _ _ _ _ _ _ _ _ _ _ _ _), h2, (nbox_below _ _ _ _ _ _ _ _ _ _ _ _).trans' (nbox_below _ _ _ _ _ _ _ _ _ _ _ _)⟩
set_option maxHeartbeats 2000000 in
set_option maxRecDepth 100000 in
theorem rsame_any (F L R : Int) (H : ByteArray) (A : Option Addr) (n ca : Nat) (C : Option Addr) (m cb : Nat) (ks : List Int) (ss : List ByteArray) (F' L' R' : Int) (H' : ByteArray) (A' : Option Addr) (n' ca' : Nat) (C' : Option Addr) (m' cb' : Nat) (ks' : List Int) (ss' : List ByteArray) (w : World) (h1 : Rows2 w A n ca C m cb ks ss) (h2 : Rows2 w A' n' ca' C' m' cb' ks' ss') (hn : n ≤ 1000000) (hm : m ≤ 1000000) (hn' : n' ≤ 1000000) (hm' : m' ≤ 1000000) :
    Calls Tryz.prog 18 #[nv F L R H A n ca C m cb, nv F' L' R' H' A' n' ca' C' m' cb'] w fun e w' => e = .returned (.bool (decide ((⟨F, L, R, H, ks, ss⟩ : Inn) = ⟨F', L', R', H', ks', ss'⟩))) ∧ Below w.heap.size w w' := by
  obtain ⟨B1, B2, hb2⟩ := rsame_any_boxes F L R H A n ca C m cb F' L' R' H' A' n' ca' C' m' cb' w
  have HE := Lib.hid (fun W (g1 : Rows2 W A n ca C m cb ks ss) (g2 : Rows2 W A' n' ca' C' m' cb' ks' ss') => ints_any A A' ks ks' ca ca' W g1.kids g2.kids (by rw [g1.nk]; omega) (by rw [g2.nk]; omega))
  have HF := Lib.hid (fun W (g1 : Rows2 W A n ca C m cb ks ss) (g2 : Rows2 W A' n' ca' C' m' cb' ks' ss') => words_any C C' ss ss' cb cb' W g1.seps g2.seps (by rw [g1.nm]; omega) (by rw [g2.nm]; omega))
  rw [h1.nk, h2.nk] at HE
  rw [h1.nm, h2.nm] at HF
  have H1 := Lib.hid (h1.on hb2)
  have H2 := Lib.hid (h2.on hb2)
  have HB := Lib.hid hb2
  have HX1 := Lib.hid B1
  have HX2 := Lib.hid B2
  clear h1 h2 hb2 B1 B2 hn hm hn' hm'
  obtain ⟨x0, x1, x2, x3, x4, x5⟩ := HX1.out.cells
  obtain ⟨y0, y1, y2, y3, y4, y5⟩ := HX2.out.cells
  by_cases c0 : F = F'
  rotate_left
  · rw [decide_eq_false (fun h => c0 (congrArg Inn.self h))]
    have z0 : (F == F') = false := beq_eq_false_iff_ne.2 c0
    clear c0 HE HF H1 H2
    go_enter Tryz.func18, Tryz.ntmps18
    go_wp2_with fail
    go_ret
    exact ⟨rfl, HB.out⟩
  subst c0
  by_cases c1 : L = L'
  rotate_left
  · rw [decide_eq_false (fun h => c1 (congrArg Inn.level h))]
    have z1 : (L == L') = false := beq_eq_false_iff_ne.2 c1
    clear c1 HE HF H1 H2
    go_enter Tryz.func18, Tryz.ntmps18
    go_wp2_with fail
    go_ret
    exact ⟨rfl, HB.out⟩
  subst c1
  by_cases c2 : R = R'
  rotate_left
  · rw [decide_eq_false (fun h => c2 (congrArg Inn.right h))]
    have z2 : (R == R') = false := beq_eq_false_iff_ne.2 c2
    clear c2 HE HF H1 H2
    go_enter Tryz.func18, Tryz.ntmps18
    go_wp2_with fail
    go_ret
    exact ⟨rfl, HB.out⟩
  subst c2
  by_cases c3 : H = H'
  rotate_left
  · rw [decide_eq_false (fun h => c3 (congrArg Inn.high h))]
    have z3 := text_no c3
    clear c3 HE HF H1 H2
    go_enter Tryz.func18, Tryz.ntmps18
    go_wp2_with fail
    go_ret
    exact ⟨rfl, HB.out⟩
  subst c3
  have zh := text_yes (rfl : H = H)
  by_cases c4 : ks = ks'
  rotate_left
  · rw [decide_eq_false (fun h => c4 (congrArg Inn.kids h))]
    rw [decide_eq_false c4] at HE
    clear c4 HF
    go_enter Tryz.func18, Tryz.ntmps18
    go_wp2_with fail
    refine (HE.out _ H1.out H2.out).mono ?_
    rintro e w3 ⟨rfl, hb3⟩
    go_wp2_with fail
    go_ret
    exact ⟨rfl, HB.out.trans' hb3⟩
  rw [decide_eq_true c4] at HE
  have e : decide (ss = ss') = decide ((⟨F, L, R, H, ks, ss⟩ : Inn) = ⟨F, L, R, H, ks', ss'⟩) := by
    by_cases hq : ss = ss'
    · rw [decide_eq_true hq, decide_eq_true (by rw [c4, hq])]
    · rw [decide_eq_false hq, decide_eq_false (fun h => hq (congrArg Inn.seps h))]
  rw [e] at HF
  generalize decide ((⟨F, L, R, H, ks, ss⟩ : Inn) = ⟨F, L, R, H, ks', ss'⟩) = q at *
  clear e c4
  go_enter Tryz.func18, Tryz.ntmps18
  go_wp2_with fail
  refine (HE.out _ H1.out H2.out).mono ?_
  rintro e w3 ⟨rfl, hb3⟩
  clear x0 x1 x2 x3 x4 x5 y0 y1 y2 y3 y4 y5
  obtain ⟨x0, x1, x2, x3, x4, x5⟩ := (HX1.out.below hb3).cells
  obtain ⟨y0, y1, y2, y3, y4, y5⟩ := (HX2.out.below hb3).cells
  go_wp2_with fail
  refine (HF.out _ (H1.out.on hb3) (H2.out.on hb3)).mono ?_
  rintro e w4 ⟨rfl, hb4⟩
  go_wp2_with fail
  go_ret
  exact ⟨rfl, (HB.out.trans' hb3).trans' hb4⟩
end Go.Proofs.YtembccehokodeaaGreatDoor
