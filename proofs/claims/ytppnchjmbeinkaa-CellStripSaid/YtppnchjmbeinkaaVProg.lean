/-
  Package cell: what may be; numbers and texts; PutKid, GetValue, GetKid.
-/
import Derived.Test.YtppnchjmbeinkaaVCell
namespace Go.Proofs.Ytppnchjmbeinkaa
open Go.RowKit
set_option linter.unusedVariables false
set_option linter.unusedSimpArgs false

theorem suffix_any (t : ByteArray) (w : World) :
    Calls Try.prog 23 #[.string t] w fun e w' => e = .returned (.bool (decide (t.size ≤ 128))) ∧ w = w' := by
  have e : decide (t.size ≤ 128) = decide ((t.size : Int) ≤ 128) := by
    by_cases h : t.size ≤ 128
    · rw [decide_eq_true h, decide_eq_true (by omega)]
    · rw [decide_eq_false h, decide_eq_false (by omega)]
  rw [e]
  clear e
  go_enter Try.func23, Try.ntmps23
  go_wp2_with fail
  go_ret
  exact ⟨rfl, rfl⟩
theorem page_any (k : Int) (w : World) :
    Calls Try.prog 28 #[.int .i64 k] w fun e w' => e = .returned (.bool (decide (1 ≤ k ∧ k ≤ 4095))) ∧ w = w' := by
  rcases (show k < 1 ∨ (1 ≤ k ∧ k ≤ 4095) ∨ (1 ≤ k ∧ 4095 < k) by omega) with h | h | h
  · have e : decide (1 ≤ k ∧ k ≤ 4095) = false := decide_eq_false (by omega)
    have d1 : decide (1 ≤ k) = false := decide_eq_false (by omega)
    rw [e]
    go_enter Try.func28, Try.ntmps28
    go_wp2_with fail
    go_ret
    exact ⟨rfl, rfl⟩
  · have e : decide (1 ≤ k ∧ k ≤ 4095) = true := decide_eq_true h
    have d1 : decide (1 ≤ k) = true := decide_eq_true (by omega)
    have d2 : decide (k ≤ 4095) = true := decide_eq_true (by omega)
    rw [e]
    clear h e
    go_enter Try.func28, Try.ntmps28
    go_wp2_with fail
    go_ret
    exact ⟨rfl, rfl⟩
  · have e : decide (1 ≤ k ∧ k ≤ 4095) = false := decide_eq_false (by omega)
    have d1 : decide (1 ≤ k) = true := decide_eq_true (by omega)
    have d2 : decide (k ≤ 4095) = false := decide_eq_false (by omega)
    rw [e]
    clear h e
    go_enter Try.func28, Try.ntmps28
    go_wp2_with fail
    go_ret
    exact ⟨rfl, rfl⟩
theorem numberOf_any (n : Nat) (w : World) (h : n ≤ 1000000) :
    Calls Try.prog 25 #[.int .i64 n] w fun e w' => e = .returned (.string ⟨(WP.put n).toArray⟩) ∧ Below w.heap.size w w' := by
  have HP := Lib.hid (put_any (n : Int) w (by omega) (by omega))
  rw [Int.toNat_natCast] at HP
  have a1 : IntKind.u64.wrap (n : Int) = n := Int.emod_eq_of_lt (by omega) (by show (n : Int) < 18446744073709551616; omega)
  clear h
  go_enter Try.func25, Try.ntmps25
  go_wp2_with fail
  refine HP.out.mono ?_
  rintro e w1 ⟨rfl, hb1⟩
  go_wp2_with fail
  go_ret
  exact ⟨rfl, hb1⟩
theorem textOf_any (t : ByteArray) (w : World) (h : t.size ≤ 1000000) :
    Calls Try.prog 24 #[.string t] w fun e w' => e = .returned (.string (textS t)) ∧ Below w.heap.size w w' := by
  have HP := Lib.hid (numberOf_any t.size w h)
  have hE := wput_size t.size (by omega)
  have hC := textS_eq t t.size rfl
  obtain ⟨E, hEe⟩ : ∃ E : ByteArray, ⟨(WP.put t.size).toArray⟩ = E := ⟨_, rfl⟩
  rw [hEe] at HP hE hC
  rw [← hC]
  have b1 : ¬ 9223372036854775807 < E.size + t.size := by omega
  clear h hE hC hEe
  go_enter Try.func24, Try.ntmps24
  go_wp2_with fail
  refine HP.out.mono ?_
  rintro e w1 ⟨rfl, hb1⟩
  go_wp2_with fail
  go_ret
  exact ⟨rfl, hb1⟩

set_option maxHeartbeats 1000000 in
theorem right_any (O : Bool) (S : ByteArray) (L P : Int) (w : World) :
    Calls Try.prog 19 #[vv O S L P] w fun e w' => e = .returned (.bool (decide (VP.Right (pv O S L P)))) ∧ Below w.heap.size w w' := by
  have HP := Lib.hid (fun W => page_any P W)
  cases O with
  | true =>
    have he := empty_eq S
    have he2 : (S.toList == (⟨#[]⟩ : ByteArray).toList) = decide (S = ⟨#[]⟩) := by rw [Lib.toList_data ⟨#[]⟩]; exact he
    by_cases h0 : S = ⟨#[]⟩
    · rw [decide_eq_true h0] at he he2
      rcases (show L < 1 ∨ (1 ≤ L ∧ 4096 < L) ∨ (1 ≤ L ∧ L ≤ 4096) by omega) with h | h | h
      · have e : decide (VP.Right (pv true S L P)) = false := decide_eq_false (fun h' => by have := (right_over S L P).1 h'; omega)
        rw [e]
        have d1 : decide (1 ≤ L) = false := decide_eq_false (by omega)
        clear HP e
        go_enter Try.func19, Try.ntmps19
        go_wp2_with fail
        go_ret
        exact ⟨rfl, below_alloc _ _⟩
      · have e : decide (VP.Right (pv true S L P)) = false := decide_eq_false (fun h' => by have := (right_over S L P).1 h'; omega)
        rw [e]
        have d1 : decide (1 ≤ L) = true := decide_eq_true (by omega)
        have d2 : decide (L ≤ 4096) = false := decide_eq_false (by omega)
        clear HP e h
        go_enter Try.func19, Try.ntmps19
        go_wp2_with fail
        go_ret
        exact ⟨rfl, below_alloc _ _⟩
      · have e : decide (VP.Right (pv true S L P)) = decide (1 ≤ P ∧ P ≤ 4095) := by
          have hr := right_over S L P
          by_cases h' : 1 ≤ P ∧ P ≤ 4095
          · rw [decide_eq_true h', decide_eq_true (hr.2 ⟨h0, h.1, h.2, h'.1, h'.2⟩)]
          · rw [decide_eq_false h', decide_eq_false (fun h'' => h' ⟨(hr.1 h'').2.2.2.1, (hr.1 h'').2.2.2.2⟩)]
        rw [e]
        generalize decide (1 ≤ P ∧ P ≤ 4095) = q at *
        have d1 : decide (1 ≤ L) = true := decide_eq_true (by omega)
        have d2 : decide (L ≤ 4096) = true := decide_eq_true (by omega)
        clear e h
        go_enter Try.func19, Try.ntmps19
        go_wp2_with fail
        refine (HP.out _).mono ?_
        rintro e w1 ⟨rfl, rfl⟩
        go_wp2_with fail
        go_ret
        exact ⟨rfl, below_alloc _ _⟩
    · rw [decide_eq_false h0] at he he2
      have e : decide (VP.Right (pv true S L P)) = false := decide_eq_false (fun h' => h0 ((right_over S L P).1 h').1)
      rw [e]
      clear HP
      go_enter Try.func19, Try.ntmps19
      go_wp2_with fail
      go_ret
      exact ⟨rfl, below_alloc _ _⟩
  | false =>
    clear HP
    rcases (show 256 < S.size ∨ (S.size ≤ 256 ∧ L ≠ 0) ∨ (S.size ≤ 256 ∧ L = 0 ∧ P ≠ 0) ∨ (S.size ≤ 256 ∧ L = 0 ∧ P = 0) by omega) with h | h | h | h
    · have e : decide (VP.Right (pv false S L P)) = false := decide_eq_false (fun h' => by have := (right_text S L P).1 h'; omega)
      rw [e]
      have d1 : decide ((S.size : Int) ≤ 256) = false := decide_eq_false (by omega)
      have d2 : decide (S.size ≤ 256) = false := decide_eq_false (by omega)
      go_enter Try.func19, Try.ntmps19
      go_wp2_with fail
      go_ret
      exact ⟨rfl, below_alloc _ _⟩
    · have e : decide (VP.Right (pv false S L P)) = false := decide_eq_false (fun h' => by have := (right_text S L P).1 h'; omega)
      rw [e]
      have d1 : decide ((S.size : Int) ≤ 256) = true := decide_eq_true (by omega)
      have d2 : decide (S.size ≤ 256) = true := decide_eq_true (by omega)
      have d3 : (L == 0) = false := beq_eq_false_iff_ne.2 h.2
      go_enter Try.func19, Try.ntmps19
      go_wp2_with fail
      go_ret
      exact ⟨rfl, below_alloc _ _⟩
    · have e : decide (VP.Right (pv false S L P)) = false := decide_eq_false (fun h' => by have := (right_text S L P).1 h'; omega)
      rw [e]
      have d1 : decide ((S.size : Int) ≤ 256) = true := decide_eq_true (by omega)
      have d2 : decide (S.size ≤ 256) = true := decide_eq_true (by omega)
      obtain ⟨h1, rfl, h3⟩ := h
      have d3 : (P == 0) = false := beq_eq_false_iff_ne.2 h3
      go_enter Try.func19, Try.ntmps19
      go_wp2_with fail
      go_ret
      exact ⟨rfl, below_alloc _ _⟩
    · have e : decide (VP.Right (pv false S L P)) = true := decide_eq_true ((right_text S L P).2 h)
      rw [e]
      have d1 : decide ((S.size : Int) ≤ 256) = true := decide_eq_true (by omega)
      have d2 : decide (S.size ≤ 256) = true := decide_eq_true (by omega)
      obtain ⟨h1, rfl, rfl⟩ := h
      go_enter Try.func19, Try.ntmps19
      go_wp2_with fail
      go_ret
      exact ⟨rfl, below_alloc _ _⟩

theorem kidS_two (k : Nat) (t : ByteArray) : (⟨(Lib.leBytes 4 k).toArray⟩ : ByteArray) ++ textS t = kidS k t := by
  apply ByteArray.ext
  simp [kidS, VP.cellK, textS]
set_option maxHeartbeats 1000000 in
set_option maxRecDepth 100000 in
theorem putk_any (k : Int) (t : ByteArray) (w : World) (ht : t.size ≤ 1000000) :
    Calls Try.prog 13 #[.int .i64 k, .string t] w fun e w' => e = .returned (putKV k t) ∧ Below w.heap.size w w' := by
  have hts : t.data.toList.length = t.size := by simp
  have HP := Lib.hid (fun W => page_any k W)
  have HS := Lib.hid (fun W => suffix_any t W)
  by_cases h1 : 1 ≤ k ∧ k ≤ 4095
  · rw [decide_eq_true h1] at HP
    by_cases h2 : t.size ≤ 128
    · rw [decide_eq_true h2] at HS
      obtain ⟨k, rfl⟩ := Int.eq_ofNat_of_zero_le (show 0 ≤ k by omega)
      have e : putKV k t = .tuple #[.string (kidS k t), .int .i64 0] := if_pos ⟨h1.1, h1.2, by omega⟩
      rw [e]
      have HPF := Lib.hid (fun W => four_any (k : Int) W (by omega) (by omega))
      have HPT := Lib.hid (fun W => textOf_any t W ht)
      have hts2 := textS_size t ht
      have hGs := four_size k
      rw [Int.toNat_natCast] at HPF
      have HC := kidS_two k t
      obtain ⟨G, hG⟩ : ∃ G : ByteArray, ⟨(Lib.leBytes 4 k).toArray⟩ = G := ⟨_, rfl⟩
      rw [hG] at HPF hGs HC
      rw [← HC]
      generalize textS t = X at *
      have a3 : IntKind.u32.wrap (k : Int) = k := Int.emod_eq_of_lt (by omega) (by show (k : Int) < 4294967296; omega)
      have b2 : ¬ 9223372036854775807 < G.size + X.size := by omega
      clear hG HC hGs hts e h1 h2 hts2
      go_enter Try.func13, Try.ntmps13
      go_wp2_with fail
      refine (HP.out _).mono ?_
      rintro e w1 ⟨rfl, rfl⟩
      go_wp2_with fail
      refine (HS.out _).mono ?_
      rintro e w1 ⟨rfl, rfl⟩
      go_wp2_with fail
      refine (HPF.out _).mono ?_
      rintro e w1 ⟨rfl, hb1⟩
      go_wp2_with fail
      refine (HPT.out _).mono ?_
      rintro e w2 ⟨rfl, hb2⟩
      go_wp2_with fail
      go_ret2
      exact ⟨rfl, hb1.trans' hb2⟩
    · rw [decide_eq_false h2] at HS
      have e : putKV k t = .tuple #[.string ⟨#[]⟩, .int .i64 3] := if_neg (fun h => by have := h.2.2; omega)
      rw [e]
      clear e hts h1 h2
      go_enter Try.func13, Try.ntmps13
      go_wp2_with fail
      refine (HP.out _).mono ?_
      rintro e w1 ⟨rfl, rfl⟩
      go_wp2_with fail
      refine (HS.out _).mono ?_
      rintro e w1 ⟨rfl, rfl⟩
      go_wp2_with fail
      go_ret2
      exact ⟨rfl, Below.refl _ _⟩
  · rw [decide_eq_false h1] at HP
    have e : putKV k t = .tuple #[.string ⟨#[]⟩, .int .i64 3] := if_neg (fun h => h1 ⟨h.1, h.2.1⟩)
    rw [e]
    clear e hts h1
    go_enter Try.func13, Try.ntmps13
    go_wp2_with fail
    refine (HP.out _).mono ?_
    rintro e w1 ⟨rfl, rfl⟩
    go_wp2_with fail
    go_ret2
    exact ⟨rfl, Below.refl _ _⟩
end Go.Proofs.Ytppnchjmbeinkaa
