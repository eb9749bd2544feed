/-
  The walk of the document's Words, of any two lists.
-/
import Derived.Test.YtbkjmcnichpmjaaECut
import Derived.BigQuiet
namespace Go.Proofs.Ytbkjmcnichpmjaa
open Go.RowKit
set_option linter.unusedVariables false
set_option linter.unusedSimpArgs false

theorem take_next {l m : List ByteArray} {k : Nat} {s t : ByteArray} (hs : l[k]? = some s) (ht : m[k]? = some t) (h : l.take k = m.take k) (e : s = t) : l.take (k + 1) = m.take (k + 1) := by
  subst e
  rw [List.take_add_one, List.take_add_one, hs, ht, h]
set_option maxHeartbeats 1000000 in
set_option maxRecDepth 100000 in
theorem words_dec (A C : Option Addr) (l m : List ByteArray) (ca cb : Nat) (w : World) (ha : Lies w w.heap.size A l) (hb : Lies w w.heap.size C m) (hl : l.length ≤ 1000000) (hm : m.length ≤ 1000000) :
    Calls Try.prog 15 #[.slice A l.length ca, .slice C m.length cb] w fun e w' => e = .returned (.bool (decide (l = m))) ∧ Below w.heap.size w w' := by
  by_cases hlen : l.length = m.length
  · have HA := Lib.hid ha
    have HB := Lib.hid hb
    obtain ⟨n, hn⟩ : ∃ n, n = l.length := ⟨_, rfl⟩
    have HN := Lib.hid hn
    have HM : Hid (n = m.length) := Lib.hid (by omega)
    obtain ⟨r, hr⟩ : ∃ r, decide (l = m) = r := ⟨_, rfl⟩
    have HR := Lib.hid hr
    rw [hr, ← hlen, ← hn]
    rw [← hn] at hl
    clear ha hb hn hlen hm hr
    have dn : ((n : Int) != (n : Int)) = false := by simp
    go_enter Try.func15, Try.ntmps15
    go_wp2_with fail
    go_loopw [5] (fun iv wr => ∃ k : Nat, k ≤ n ∧ iv = .int .i64 k ∧ Hid (l.take k = m.take k) ∧ Below w.heap.size w wr) (fun iv _ => n - (intOf iv).toNat)
    case atStart => exact ⟨0, by omega, rfl, Lib.hid (by simp), Below.refl _ _⟩
    case round =>
      obtain ⟨k, hk, rfl, HT, hbw⟩ := hrel
      by_cases hlt : k < n
      · obtain ⟨s, hc⟩ : ∃ c, l[k]? = some c := ⟨_, List.getElem?_eq_getElem (by have := HN.out; omega)⟩
        obtain ⟨t, hd⟩ : ∃ c, m[k]? = some c := ⟨_, List.getElem?_eq_getElem (by have := HM.out; omega)⟩
        obtain ⟨a, rfl, hab, x0⟩ := (HA.out.below hbw) k s hc
        obtain ⟨b, rfl, hbb, y0⟩ := (HB.out.below hbw) k t hd
        have HNX := Lib.hid (fun e => take_next hc hd HT.out e)
        have HNE : Hid (s ≠ t → r = false) := Lib.hid (fun e => by
          rw [← HR.out]
          refine decide_eq_false fun h => e ?_
          subst h
          rw [hc] at hd
          exact Option.some.inj hd)
        clear hc hd hab hbb
        have h0 : (0 : Int) ≤ k := by omega
        have hkn : (k : Int) < n := by omega
        by_cases hst : s = t
        · have HST := Lib.hid (HNX.out hst)
          have hq : (s.toList == t.toList) = true := by rw [hst]; exact beq_self_eq_true _
          clear hst
          go_wp2_with fail
          go_quiet (fail)
          go_wp2_with fail
          go_roundw
          case rel => exact ⟨k + 1, by omega, by simp, HST, below_drewN hbw _⟩
          case measure => simp [intOf]; omega
        · have HRF := Lib.hid (HNE.out hst)
          have hq : (s.toList == t.toList) = false := by
            rw [Lib.toList_data, Lib.toList_data]
            exact beq_eq_false_iff_ne.2 fun e => hst (ByteArray.ext (Array.toList_inj.1 e))
          clear hst
          go_wp2_with fail
          go_quiet (fail)
          go_wp2_with fail
          go_ret
          exact ⟨by rw [HRF.out]; rfl, below_drewN hbw _⟩
      · obtain rfl : k = n := by omega
        have HRT : Hid (r = true) := Lib.hid (by
          rw [← HR.out]
          refine decide_eq_true ?_
          have h1 := HT.out
          rw [HN.out, List.take_length, ← HN.out, HM.out, List.take_length] at h1
          exact h1)
        go_wp2_with fail
        go_ret
        exact ⟨by rw [HRT.out]; rfl, hbw⟩
  · have hr : decide (l = m) = false := decide_eq_false fun e => hlen (by rw [e])
    rw [hr]
    have dn : ((l.length : Int) == (m.length : Int)) = false := by rw [beq_eq_false_iff_ne]; omega
    have dn2 : ((l.length : Int) != (m.length : Int)) = true := by rw [bne, dn]; rfl
    generalize l.length = p at *
    generalize m.length = q at *
    clear hr ha hb
    go_enter Try.func15, Try.ntmps15
    go_wp2_with fail
    go_ret
    exact ⟨rfl, Below.refl _ _⟩
end Go.Proofs.Ytbkjmcnichpmjaa
