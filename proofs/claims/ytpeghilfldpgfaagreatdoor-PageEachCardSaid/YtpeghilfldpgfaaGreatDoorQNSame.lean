import Derived.Test.YtpeghilfldpgfaaGreatDoorQ07
namespace Go.Proofs.YtpeghilfldpgfaaGreatDoor.L10
open Go.RowKit NP
set_option linter.unusedVariables false
set_option linter.unusedSimpArgs false
def sameI (a b : It) : Bool := (a.k.toList == b.k.toList) && ((a.o == b.o) && ((a.s.toList == b.s.toList) && ((a.l == b.l) && (a.p == b.p))))
theorem toList_inj {a b : ByteArray} : (a.toList == b.toList) = true ↔ a = b := by
  rw [Lib.toList_data, Lib.toList_data, beq_iff_eq]
  exact ⟨fun h => ByteArray.ext (Array.toList_inj.1 h), fun h => by rw [h]⟩
theorem sameI_iff {a b : It} : sameI a b = true ↔ a = b := by
  obtain ⟨k, o, s, l, p⟩ := a
  obtain ⟨k', o', s', l', p'⟩ := b
  unfold sameI
  rw [Bool.and_eq_true, Bool.and_eq_true, Bool.and_eq_true, Bool.and_eq_true, toList_inj, toList_inj]
  simp
instance : DecidableEq It := fun a b => decidable_of_iff (sameI a b = true) sameI_iff
theorem sameI_yes {a b : It} (h : a = b) : sameI a b = true := sameI_iff.2 h
theorem sameI_no {a b : It} (h : a ≠ b) : sameI a b = false := by
  cases e : sameI a b with
  | false => rfl
  | true => exact absurd (sameI_iff.1 e) h
theorem neq_item (K : ByteArray) (O : Bool) (S : ByteArray) (L P : Int) (K' : ByteArray) (O' : Bool) (S' : ByteArray) (L' P' : Int) (w : World) :
    (binOp .neq 127 (.agg #[.string K, .bool O, .string S, .int .i64 L, .int .i64 P]) (.agg #[.string K', .bool O', .string S', .int .i64 L', .int .i64 P'])).run Tryz.prog w = .ok (.bool (!sameI ⟨K, O, S, L, P⟩ ⟨K', O', S', L', P'⟩)) w := by
  unfold sameI
  cases h1 : (K.toList == K'.toList) <;> cases h2 : (O == O') <;> cases h3 : (S.toList == S'.toList) <;> cases h4 : (L == L') <;> cases h5 : (P == P') <;> simp [go_sem, h1, h2, h3, h4, h5]
attribute [local go_sem high] neq_item
theorem take_same {l m : List It} {k : Nat} {s t : It} (hs : l[k]? = some s) (ht : m[k]? = some t) (h : l.take k = m.take k) (e : s = t) : l.take (k + 1) = m.take (k + 1) := by
  subst e
  rw [List.take_add_one, List.take_add_one, hs, ht, h]
set_option maxHeartbeats 2000000 in
set_option maxRecDepth 100000 in
theorem equal_any (A C : Option Addr) (l m : List It) (ca cb : Nat) (w : World) (ha : Lies5 w w.heap.size A l) (hb : Lies5 w w.heap.size C m) (hl : l.length ≤ 1000000) (hm : m.length ≤ 1000000) :
    Calls Tryz.prog 57 #[.slice A l.length ca, .slice C m.length cb] w fun e w' => e = .returned (.bool (decide (l = m))) ∧ Below w.heap.size w w' := by
  by_cases hlen : l.length = m.length
  · have HA := Lib.hid ha
    have HB := Lib.hid hb
    obtain ⟨n, hn⟩ : ∃ n, n = l.length := ⟨_, rfl⟩
    have HN := Lib.hid hn
    have HM : Hid (n = m.length) := Lib.hid (by omega)
    obtain ⟨r, hr⟩ : ∃ r, decide (l = m) = r := ⟨_, rfl⟩
    have HR := Lib.hid hr
    rw [hr, ← hlen, ← hn]
    rw [← hn] at hl
    clear ha hb hn hlen hm hr
    have dn : ((n : Int) != (n : Int)) = false := by simp
    go_enter Tryz.func57, Tryz.ntmps57
    go_wp2_with fail
    go_loopw [13] (fun iv wr => ∃ k : Nat, k ≤ n ∧ iv = .int .i64 k ∧ Hid (l.take k = m.take k) ∧ Below w.heap.size w wr) (fun iv _ => n - (intOf iv).toNat)
    case atStart => exact ⟨0, by omega, rfl, Lib.hid (by simp), Below.refl _ _⟩
    case round =>
      obtain ⟨k, hk, rfl, HT, hbw⟩ := hrel
      by_cases hlt : k < n
      · obtain ⟨⟨K, O, S, L, P⟩, hc⟩ : ∃ c, l[k]? = some c := ⟨_, List.getElem?_eq_getElem (by have := HN.out; omega)⟩
        obtain ⟨⟨K', O', S', L', P'⟩, hd⟩ : ∃ c, m[k]? = some c := ⟨_, List.getElem?_eq_getElem (by have := HM.out; omega)⟩
        obtain ⟨a, rfl, hab, x0, x1, x2, x3, x4⟩ := (HA.out.below hbw).load hc
        obtain ⟨b, rfl, hbb, y0, y1, y2, y3, y4⟩ := (HB.out.below hbw).load hd
        have h0 : (0 : Int) ≤ k := by omega
        have hkn : (k : Int) < n := by omega
        by_cases hst : (⟨K, O, S, L, P⟩ : It) = ⟨K', O', S', L', P'⟩
        · have HST := Lib.hid (take_same hc hd HT.out hst)
          have hz := sameI_yes hst
          clear hc hd hab hbb hst
          go_wp2_with fail
          go_quiet (fail)
          go_wp2_with fail
          go_roundw
          case rel => exact ⟨k + 1, by omega, by simp, HST, L5.below_drewN hbw _⟩
          case measure => simp [intOf]; omega
        · have HX : Hid (r = false) := Lib.hid (by
            rw [← HR.out]
            refine decide_eq_false fun h => hst ?_
            subst h
            rw [hc] at hd
            exact Option.some.inj hd)
          have hz := sameI_no hst
          clear hc hd hab hbb hst
          go_wp2_with fail
          go_quiet (fail)
          go_wp2_with fail
          go_ret
          exact ⟨by rw [HX.out]; rfl, L5.below_drewN hbw _⟩
      · have HX : Hid (r = true) := Lib.hid (by
          rw [← HR.out]
          refine decide_eq_true ?_
          have h := HT.out
          rwa [List.take_of_length_le (by have := HN.out; omega), List.take_of_length_le (by have := HM.out; omega)] at h)
        have hlt' : ¬ (k : Int) < n := by omega
        clear hk
        go_wp2_with fail
        go_ret
        exact ⟨by rw [HX.out]; rfl, hbw⟩
  · rw [decide_eq_false (fun h => hlen (by rw [h]))]
    have dn : ((l.length : Int) != (m.length : Int)) = true := by simp; omega
    generalize l.length = n1 at *
    generalize m.length = n2 at *
    clear ha hb hlen
    go_enter Tryz.func57, Tryz.ntmps57
    go_wp2_with fail
    go_ret
    exact ⟨rfl, Below.refl _ _⟩
theorem text_yes {a b : ByteArray} (h : a = b) : (a.toList == b.toList) = true := toList_inj.2 h
theorem text_no {a b : ByteArray} (h : a ≠ b) : (a.toList == b.toList) = false := by
  cases e : (a.toList == b.toList) with
  | false => rfl
  | true => exact absurd (toList_inj.1 e) h
set_option maxHeartbeats 2000000 in
set_option maxRecDepth 100000 in
theorem same_any (F R F' R' : Int) (H H' : ByteArray) (A C : Option Addr) (l m : List It) (ca cb : Nat) (w : World) (ha : Lies5 w w.heap.size A l) (hb : Lies5 w w.heap.size C m) (hl : l.length ≤ 1000000) (hm : m.length ≤ 1000000) :
    Calls Tryz.prog 29 #[lv F R H A l.length ca, lv F' R' H' C m.length cb] w fun e w' => e = .returned (.bool (decide ((F = F' ∧ R = R' ∧ H = H') ∧ l = m))) ∧ Below w.heap.size w w' := by
  have hb1 := lbox_below 26 F R H A l.length ca w
  have hb2 := hb1.trans' (lbox_below 26 F' R' H' C m.length cb _)
  have HE := Lib.hid (fun W (h1 : Lies5 W W.heap.size A l) (h2 : Lies5 W W.heap.size C m) => equal_any A C l m ca cb W h1 h2 hl hm)
  have HA := Lib.hid (ha.on hb2)
  have HC := Lib.hid (hb.on hb2)
  by_cases c1 : F = F'
  · by_cases c2 : R = R'
    · by_cases c3 : H = H'
      · subst c1
        subst c2
        subst c3
        have e : decide ((F = F ∧ R = R ∧ H = H) ∧ l = m) = decide (l = m) := by simp
        rw [e]
        generalize decide (l = m) = q at *
        generalize l.length = n1 at *
        generalize m.length = n2 at *
        have hz := text_yes (rfl : H = H)
        clear ha hb hl hm e
        go_enter Tryz.func29, Tryz.ntmps29
        go_wp2_with fail
        refine (HE.out _ HA.out HC.out).mono ?_
        rintro e w3 ⟨rfl, hb3⟩
        go_wp2_with fail
        go_ret
        exact ⟨rfl, hb2.trans' hb3⟩
      · rw [decide_eq_false (fun h => c3 h.1.2.2)]
        subst c1
        subst c2
        have hz := text_no c3
        generalize l.length = n1 at *
        generalize m.length = n2 at *
        clear ha hb hl hm c3 HE HA HC
        go_enter Tryz.func29, Tryz.ntmps29
        go_wp2_with fail
        go_ret
        exact ⟨rfl, hb2⟩
    · rw [decide_eq_false (fun h => c2 h.1.2.1)]
      subst c1
      have hz : (R == R') = false := beq_eq_false_iff_ne.2 c2
      generalize l.length = n1 at *
      generalize m.length = n2 at *
      clear ha hb hl hm c2 HE HA HC
      go_enter Tryz.func29, Tryz.ntmps29
      go_wp2_with fail
      go_ret
      exact ⟨rfl, hb2⟩
  · rw [decide_eq_false (fun h => c1 h.1.1)]
    have hz : (F == F') = false := beq_eq_false_iff_ne.2 c1
    generalize l.length = n1 at *
    generalize m.length = n2 at *
    clear ha hb hl hm c1 HE HA HC
    go_enter Tryz.func29, Tryz.ntmps29
    go_wp2_with fail
    go_ret
    exact ⟨rfl, hb2⟩
end Go.Proofs.YtpeghilfldpgfaaGreatDoor.L10
