/-
  The walks of the laws SepLeast, SepBetween.
-/
import Derived.Test.YtkeobalbfngniaaEFixed
namespace Go.Proofs.Ytkeobalbfngniaa
open Go.RowKit
set_option linter.unusedVariables false
set_option linter.unusedSimpArgs false

theorem least_same {x y : ByteArray} (h : B x < B y) : ∃ n : Nat, EP.com (B x) (B y) = n ∧ n < y.size ∧ B x < B (y.extract 0 (n + 1)) ∧ (B (y.extract 0 (n + 1)) < B y ∨ y.extract 0 (n + 1) = y) ∧
    (B ((y.extract 0 (n + 1)).extract 0 n) < B x ∨ (y.extract 0 (n + 1)).extract 0 n = x) ∧ EP.com (B (y.extract 0 (n + 1))) (B y) = n + 1 ∧ (y.extract 0 (n + 1)).size = n + 1 := by
  have hl := EP.lt_com h
  have hl' := hl
  rw [b_size] at hl'
  have hsz : (y.extract 0 (EP.com (B x) (B y) + 1)).size = EP.com (B x) (B y) + 1 := by simp; omega
  refine ⟨_, rfl, hl', by rw [b_head]; exact EP.lt_least h, ?_, ?_, ?_, hsz⟩
  · rw [b_head]
    rcases EP.tri ((B y).take (EP.com (B x) (B y) + 1)) (B y) with a | a | a
    · exact .inl a
    · exact .inr (b_inj (by rw [b_head]; exact a))
    · exact absurd a (EP.not_lt_take _ _)
  · rw [b_head, b_head, List.take_take, show min (EP.com (B x) (B y)) (EP.com (B x) (B y) + 1) = EP.com (B x) (B y) by omega]
    rcases EP.take_le _ _ h _ (Nat.le_refl _) with a | a
    · exact .inl a
    · exact .inr (b_inj (by rw [b_head, b_head, List.take_take, show min (EP.com (B x) (B y)) (EP.com (B x) (B y) + 1) = EP.com (B x) (B y) by omega]; exact a))
  · rw [b_head, EP.com_comm, EP.com_of_take _ _ _ (by omega), EP.com_self]
    omega

set_option maxHeartbeats 1000000 in
set_option maxRecDepth 100000 in
theorem sepLeast_walk (a b : ByteArray) (w : World) (wa : a.size ≤ maxLen) (wb : b.size ≤ maxLen) :
    Calls Try.prog 4 #[.string a, .string b] w fun e w' => e = .returned (.bool true) ∧ Below w.heap.size w w' := by
  unfold maxLen at wa wb
  obtain ⟨m, hm, hm4, hms, hm2, hts⟩ := cut_min a 60 (by omega)
  obtain ⟨m', hm', hm4', hms', hm2', hts'⟩ := cut_min b 60 (by omega)
  have HTS := Lib.hid hts
  have HTS' := Lib.hid hts'
  clear hts hts'
  go_enter Try.func4, Try.ntmps4
  go_wp2_with fail
  clear hm hm2 hm' hm2'
  generalize a.extract 0 m = x at *
  generalize b.extract 0 m' = y at *
  obtain rfl := HTS.out
  obtain rfl := HTS'.out
  clear HTS HTS'
  have hx : x.size ≤ 1000 := by omega
  have hy : y.size ≤ 1000 := by omega
  by_cases h : B x < B y
  · obtain ⟨n, hn, hny, h1, h2, h3, h4, h5⟩ := least_same h
    have HL := Lib.hid (tLeast x y _ hx hy (leastV_yes h))
    have HC := Lib.hid (tCommon x y n hx hy hn)
    rw [hn] at HL
    have HC2 := Lib.hid (tCommon (y.extract 0 (n + 1)) y (n + 1) (by omega) hy h4)
    have d1 := less_yes h
    have q1 := less_no (EP.lt_asymm h1)
    have q2 := same_no (fun e => EP.lt_irrefl (B x) (by rw [e] at h1; exact h1)) (a := y.extract 0 (n + 1)) (b := x)
    have q0 : ((y.extract 0 (n + 1)).toList == (y.extract 0 (n + 1)).toList) = true := same_yes rfl
    have H2 := Lib.hid h2
    have H3 := Lib.hid h3
    clear h h1 h2 h3 h4 hn
    refine (HL.out _).mono ?_
    rintro e w1 ⟨rfl, hb1⟩
    generalize hS : y.extract 0 (n + 1) = S at *
    rcases H2.out with h2 | h2
    · have q3 := less_yes h2
      have H30 := H3
      rcases H3.out with h3 | h3
      · have q4 := less_yes h3
        clear h2 h3 H2 H3 H30
        go_wp2_with fail
        refine (HC.out _).mono ?_
        rintro e w2 ⟨rfl, hb2⟩
        go_wp2_with fail
        refine (HC2.out _).mono ?_
        rintro e w3 ⟨rfl, hb3⟩
        go_wp2_with fail
        refine (fixed_any _).mono ?_
        rintro e w4 ⟨rfl, hb4⟩
        go_wp2_with fail
        go_ret
        exact ⟨rfl, ((hb1.trans' hb2).trans' hb3).trans' hb4⟩
      · have q4 := less_no (a := S.extract 0 n) (b := x) (by rw [h3]; exact EP.lt_irrefl _)
        have q5 := same_yes (a := S.extract 0 n) (b := x) (by rw [h3])
        clear h2 h3 H2 H3 H30
        go_wp2_with fail
        refine (HC.out _).mono ?_
        rintro e w2 ⟨rfl, hb2⟩
        go_wp2_with fail
        refine (HC2.out _).mono ?_
        rintro e w3 ⟨rfl, hb3⟩
        go_wp2_with fail
        refine (fixed_any _).mono ?_
        rintro e w4 ⟨rfl, hb4⟩
        go_wp2_with fail
        go_ret
        exact ⟨rfl, ((hb1.trans' hb2).trans' hb3).trans' hb4⟩
    · have q3 := less_no (a := S) (b := y) (by rw [h2]; exact EP.lt_irrefl _)
      have q6 := same_yes (a := S) (b := y) (by rw [h2])
      have H30 := H3
      rcases H3.out with h3 | h3
      · have q4 := less_yes h3
        clear h2 h3 H2 H3 H30
        go_wp2_with fail
        refine (HC.out _).mono ?_
        rintro e w2 ⟨rfl, hb2⟩
        go_wp2_with fail
        refine (HC2.out _).mono ?_
        rintro e w3 ⟨rfl, hb3⟩
        go_wp2_with fail
        refine (fixed_any _).mono ?_
        rintro e w4 ⟨rfl, hb4⟩
        go_wp2_with fail
        go_ret
        exact ⟨rfl, ((hb1.trans' hb2).trans' hb3).trans' hb4⟩
      · have q4 := less_no (a := S.extract 0 n) (b := x) (by rw [h3]; exact EP.lt_irrefl _)
        have q5 := same_yes (a := S.extract 0 n) (b := x) (by rw [h3])
        clear h2 h3 H2 H3 H30
        go_wp2_with fail
        refine (HC.out _).mono ?_
        rintro e w2 ⟨rfl, hb2⟩
        go_wp2_with fail
        refine (HC2.out _).mono ?_
        rintro e w3 ⟨rfl, hb3⟩
        go_wp2_with fail
        refine (fixed_any _).mono ?_
        rintro e w4 ⟨rfl, hb4⟩
        go_wp2_with fail
        go_ret
        exact ⟨rfl, ((hb1.trans' hb2).trans' hb3).trans' hb4⟩
  · have HL := Lib.hid (tLeast x y _ hx hy (leastV_no h))
    have d1 := less_no h
    clear h
    refine (HL.out _).mono ?_
    rintro e w1 ⟨rfl, hb1⟩
    go_wp2_with fail
    refine (fixed_any _).mono ?_
    rintro e w2 ⟨rfl, hb2⟩
    go_wp2_with fail
    go_ret
    exact ⟨rfl, hb1.trans' hb2⟩

theorem tSpan_new (l : List ByteArray) (n : Nat) (hl : l.length ≤ 1000) (hs : ∀ s ∈ l, s.size ≤ 1000) (hv : sp l = n) (w : World) :
    Calls Try.prog 16 #[.slice (some ⟨w.heap.size, 0, none⟩) l.length l.length] (w.alloc (.cells (strCells l).toArray 9)) fun e w' => e = .returned (.int .i64 n) ∧ Below w.heap.size w w' := span_new l n w hl hs hv

set_option maxHeartbeats 1000000 in
set_option maxRecDepth 100000 in
theorem sepBetween_walk (a b s : ByteArray) (w : World) (wa : a.size ≤ maxLen) (wb : b.size ≤ maxLen) (ws : s.size ≤ maxLen) :
    Calls Try.prog 5 #[.string a, .string b, .string s] w fun e w' => e = .returned (.bool true) ∧ Below w.heap.size w w' := by
  unfold maxLen at wa wb ws
  obtain ⟨m, hm, hm4, hms, hm2, hts⟩ := cut_min a 60 (by omega)
  obtain ⟨m', hm', hm4', hms', hm2', hts'⟩ := cut_min b 60 (by omega)
  obtain ⟨m'', hm'', hm4'', hms'', hm2'', hts''⟩ := cut_min s 60 (by omega)
  have HTS := Lib.hid hts
  have HTS' := Lib.hid hts'
  have HTS'' := Lib.hid hts''
  clear hts hts' hts''
  go_enter Try.func5, Try.ntmps5
  go_wp2_with fail
  clear hm hm2 hm' hm2' hm'' hm2''
  generalize a.extract 0 m = x at *
  generalize b.extract 0 m' = y at *
  generalize s.extract 0 m'' = z at *
  obtain rfl := HTS.out
  obtain rfl := HTS'.out
  obtain rfl := HTS''.out
  clear HTS HTS' HTS''
  have hx : x.size ≤ 1000 := by omega
  have hy : y.size ≤ 1000 := by omega
  have hz : z.size ≤ 1000 := by omega
  by_cases h1 : B z < B x
  · have d1 := less_yes h1
    have HT := Lib.hid (tBetween z x y true false (by unfold betw; rw [decide_eq_true h1]; rfl))
    clear h1
    refine (HT.out _).mono ?_
    rintro e w1 ⟨rfl, hb1⟩
    go_wp2_with fail
    refine (fixed_any _).mono ?_
    rintro e w2 ⟨rfl, hb2⟩
    go_wp2_with fail
    go_ret
    exact ⟨rfl, hb1.trans' hb2⟩
  · have d1 := less_no h1
    by_cases h2 : B z < B y
    · have d2 := less_yes h2
      have HT := Lib.hid (tBetween z x y true true (by unfold betw; rw [decide_eq_false h1, decide_eq_true h2]; rfl))
      have hc := EP.between_com h1 h2
      have hsp : sp [x, z, y] = EP.com (B x) (B y) := by
        refine EP.span_rise (B x) (B y) [B z, B y] (fun t ht => ?_) (by simp)
        rcases List.mem_cons.1 ht with e | e
        · subst e; exact ⟨h1, EP.lt_asymm h2⟩
        · have e' : t = B y := by simpa using e
          subst e'
          refine ⟨fun h3 => ?_, EP.lt_irrefl _⟩
          exact h1 (EP.lt_trans h2 h3)
      obtain ⟨n, hn⟩ : ∃ n, EP.com (B x) (B y) = n := ⟨_, rfl⟩
      obtain ⟨p, hp⟩ : ∃ p, EP.com (B z) (B x) = p := ⟨_, rfl⟩
      obtain ⟨q, hq⟩ : ∃ q, EP.com (B z) (B y) = q := ⟨_, rfl⟩
      rw [hn, EP.com_comm (B x) (B z), hp, hq] at hc
      rw [hn] at hsp
      have HC1 := Lib.hid (tCommon x y n hx hy hn)
      have HC2 := Lib.hid (tCommon z x p hz hx hp)
      have HC3 := Lib.hid (tCommon z y q hz hy hq)
      have HS := Lib.hid (tSpan_new [x, z, y] n (by simp) (by simp [hx, hy, hz]) hsp)
      have c1 : decide ((n : Int) ≤ p) = true := by simp; omega
      have c2 : decide ((n : Int) ≤ q) = true := by simp; omega
      clear hn hp hq hsp h1 h2
      refine (HT.out _).mono ?_
      rintro e w1 ⟨rfl, hb1⟩
      go_wp2_with fail
      refine (HC1.out _).mono ?_
      rintro e w2 ⟨rfl, hb2⟩
      go_wp2_with fail
      refine (HC2.out _).mono ?_
      rintro e w3 ⟨rfl, hb3⟩
      go_wp2_with fail
      refine (HC3.out _).mono ?_
      rintro e w4 ⟨rfl, hb4⟩
      go_wp2_with fail
      refine (HS.out w4).mono ?_
      rintro e w5 ⟨rfl, hb5⟩
      go_wp2_with fail
      refine (fixed_any _).mono ?_
      rintro e w6 ⟨rfl, hb6⟩
      go_wp2_with fail
      go_ret
      exact ⟨rfl, ((((hb1.trans' hb2).trans' hb3).trans' hb4).trans' hb5).trans' hb6⟩
    · have d2 := less_no h2
      have HT := Lib.hid (tBetween z x y true false (by unfold betw; rw [decide_eq_false h1, decide_eq_false h2]; rfl))
      clear h1 h2
      refine (HT.out _).mono ?_
      rintro e w1 ⟨rfl, hb1⟩
      go_wp2_with fail
      refine (fixed_any _).mono ?_
      rintro e w2 ⟨rfl, hb2⟩
      go_wp2_with fail
      go_ret
      exact ⟨rfl, hb1.trans' hb2⟩
end Go.Proofs.Ytkeobalbfngniaa
