/-
  The walk of the law SepTells.
-/
import Derived.Test.YtkeobalbfngniaaELists
import Derived.Test.YtkeobalbfngniaaERef
namespace Go.Proofs.Ytkeobalbfngniaa
open Go.RowKit
set_option linter.unusedVariables false
set_option linter.unusedSimpArgs false

theorem leastV_form (x y : ByteArray) : ∃ (S : ByteArray) (E : Int), leastV x y = .tuple #[.string S, .int .i64 E] := by
  by_cases h : B x < B y
  · exact ⟨_, _, leastV_yes h⟩
  · exact ⟨_, _, leastV_no h⟩

set_option maxHeartbeats 2000000 in
set_option maxRecDepth 100000 in
theorem sepTells_walk (a b : ByteArray) (A : Option Addr) (l0 : List ByteArray) (ca : Nat) (w : World) (wa : a.size ≤ maxLen) (wb : b.size ≤ maxLen) (ha : Lies w w.heap.size A l0) (hs0 : ∀ s ∈ l0, s.size ≤ maxLen) (hl0 : l0.length ≤ maxLen) :
    Calls Try.prog 3 #[.string a, .string b, .slice A l0.length ca] w fun e w' => e = .returned (.bool true) ∧ Below w.heap.size w w' := by
  have HCUT := Lib.hid (cut_any A l0 ca w ha hl0 hs0)
  have HLEN := Lib.hid (cutL_length l0)
  have HSZ := Lib.hid (cutL_size l0)
  generalize cutL l0 = l at *
  clear ha hs0 hl0
  unfold maxLen at wa wb
  obtain ⟨m, hm, hm4, hms, hm2, hts⟩ := cut_min a 60 (by omega)
  obtain ⟨m', hm', hm4', hms', hm2', hts'⟩ := cut_min b 60 (by omega)
  have HTS := Lib.hid hts
  have HTS' := Lib.hid hts'
  clear hts hts'
  go_enter Try.func3, Try.ntmps3
  go_wp2_with fail
  clear hm hm2 hm' hm2'
  generalize a.extract 0 m = x at *
  generalize b.extract 0 m' = y at *
  obtain rfl := HTS.out
  obtain rfl := HTS'.out
  clear HTS HTS'
  have hx : x.size ≤ 1000 := by omega
  have hy : y.size ≤ 1000 := by omega
  refine HCUT.out.mono ?_
  rintro e w1 ⟨g, cap, rfl, hcap, hL, hb1⟩
  have hl : l.length ≤ 1000 := by have := HLEN.out; omega
  have hs : ∀ s ∈ l, s.size ≤ 1000 := fun s h => by have := HSZ.out s h; omega
  obtain ⟨S, E, hSE⟩ := leastV_form x y
  have HA1 := Lib.hid (tLeast x y _ hx hy hSE)
  have HA2 : Hid (Tells 11 #[.string x, .string y] (.tuple #[.string S, .int .i64 E])) := Lib.hid (fun W => by rw [← hSE]; exact rleast_any x y W hx hy)
  have hq1 : (S.toList == S.toList) = true := same_yes rfl
  have hq2 : (E == E) = true := by simp
  obtain ⟨c, hc⟩ : ∃ c, EP.com (B x) (B y) = c := ⟨_, rfl⟩
  have HC1 := Lib.hid (tCommon x y c hx hy hc)
  have HC2 : Hid (Tells 15 #[.string x, .string y] (.int .i64 c)) := Lib.hid (fun W => by rw [← hc]; exact rcommon_any x y W (by omega) (by omega))
  have hq3 : ((c : Int) == c) = true := by simp
  have HS1 := Lib.hid (fun W (h : Lies W W.heap.size (some ⟨g, 0, none⟩) l) => span_any (some ⟨g, 0, none⟩) l cap W h hl hs hcap)
  have HS2 := Lib.hid (fun W (h : Lies W W.heap.size (some ⟨g, 0, none⟩) l) => rspan_any (some ⟨g, 0, none⟩) l cap W h hl hs)
  have HP1 := Lib.hid (fun W (h : Lies W W.heap.size (some ⟨g, 0, none⟩) l) => strip_any (some ⟨g, 0, none⟩) l cap W h hl hs hcap)
  have HP2 := Lib.hid (fun W (h : Lies W W.heap.size (some ⟨g, 0, none⟩) l) => rstrip_any (some ⟨g, 0, none⟩) l cap W h hl hs)
  have HWW := Lib.hid (fun G G' c c' W (h : Lies W W.heap.size G (bares l)) (h' : Lies W W.heap.size G' (bares l)) => words_any G G' (bares l) (bares l) c c' W h h' (by rw [bares_length]; exact hl) rfl)
  rw [bares_length] at HWW
  have hq4 : ((headS l).toList == (headS l).toList) = true := same_yes rfl
  have hq5 : ((sp l : Int) == sp l) = true := by simp
  generalize headS l = hd at *
  generalize sp l = p at *
  generalize bares l = bl at *
  have HL0 := Lib.hid hL
  clear hcap hL hs hSE hc hl
  go_wp2_with fail
  refine (HA1.out _).mono ?_
  rintro e w2 ⟨rfl, hb2⟩
  go_wp2_with fail
  refine (HA2.out _).mono ?_
  rintro e w3 ⟨rfl, hb3⟩
  have HL3 := Lib.hid ((HL0.out.on hb2).on hb3)
  have b3 := (hb1.trans' hb2).trans' hb3
  clear hb1 hb2 hb3 HL0 HA1 HA2
  go_wp2_with fail
  refine (HP1.out _ HL3.out).mono ?_
  rintro e w4 ⟨G, cap4, rfl, hcap4, hM, hb4⟩
  have HL4 := Lib.hid (HL3.out.on hb4)
  have HM0 := Lib.hid hM
  have b4 := b3.trans' hb4
  clear hM hb4 HL3 b3 hcap4
  go_wp2_with fail
  refine (HP2.out _ HL4.out).mono ?_
  rintro e w5 ⟨G', cap5, rfl, hM', hb5⟩
  have HL := Lib.hid (HL4.out.on hb5)
  have HM := Lib.hid (HM0.out.on hb5)
  have HM2 := Lib.hid hM'
  have b6 := b4.trans' hb5
  have R6 := Lib.hid (Below.refl w5.heap.size w5)
  have HWD := Lib.hid (HWW.out G G' cap4 cap5)
  clear hM' hb5 HL4 HM0 b4 HP1 HP2 HWW
  rcases Nat.eq_zero_or_pos l.length with hz | hz
  · rw [hz] at HS1 HS2 HWD
    simp only [hz]
    clear hz
    go_wp2_with fail
    generalize (⟨#[]⟩ : ByteArray) = s0
    by_cases h1 : B s0 < B x
    · have d1 := less_yes h1
      have HT1 := Lib.hid (tBetween s0 x y true false (by unfold betw; rw [decide_eq_true h1]; rfl))
      have HT2 := Lib.hid (tBetween s0 x y false false (by unfold betw; rw [decide_eq_true h1]; rfl))
      clear h1
      refine (HC1.out _).mono ?_
      rintro e w7 ⟨rfl, hb7⟩
      go_wp2_with fail
      refine (HC2.out _).mono ?_
      rintro e w8 ⟨rfl, hb8⟩
      have b8 := (b6.trans' hb7).trans' hb8
      have r8 := Lib.hid ((R6.out.trans' hb7).trans' hb8)
      clear b6 hb7 hb8
      go_wp2_with fail
      refine (HS1.out _ (HL.out.on r8.out)).mono ?_
      rintro e w9 ⟨rfl, hb9⟩
      have b9 := b8.trans' hb9
      have r9 := Lib.hid (r8.out.trans' hb9)
      clear b8 hb9
      go_wp2_with fail
      refine (HS2.out _ (HL.out.on r9.out)).mono ?_
      rintro e w10 ⟨rfl, hb10⟩
      have b10 := b9.trans' hb10
      have r10 := Lib.hid (r9.out.trans' hb10)
      clear b9 hb10
      go_wp2_with fail
      refine (HWD.out _ (HM.out.on r10.out) (HM2.out.on r10.out)).mono ?_
      rintro e w11 ⟨rfl, hb11⟩
      have b11 := b10.trans' hb11
      clear b10 hb11
      go_wp2_with fail
      refine (HT1.out _).mono ?_
      rintro e w12 ⟨rfl, hb12⟩
      have b12 := b11.trans' hb12
      clear b11 hb12
      go_wp2_with fail
      refine (HT2.out _).mono ?_
      rintro e w13 ⟨rfl, hb13⟩
      have b13 := b12.trans' hb13
      clear b12 hb13
      go_wp2_with fail
      refine (fixed_any _).mono ?_
      rintro e w14 ⟨rfl, hb14⟩
      go_wp2_with fail
      go_ret
      exact ⟨rfl, b13.trans' hb14⟩
    · have d1 := less_no h1
      have HT2 := Lib.hid (tBetween s0 x y false true (by unfold betw; rw [decide_eq_false h1]; rfl))
      by_cases h2 : B s0 < B y
      · have d2 := less_yes h2
        have HT1 := Lib.hid (tBetween s0 x y true true (by unfold betw; rw [decide_eq_false h1, decide_eq_true h2]; rfl))
        clear h1 h2
        refine (HC1.out _).mono ?_
        rintro e w7 ⟨rfl, hb7⟩
        go_wp2_with fail
        refine (HC2.out _).mono ?_
        rintro e w8 ⟨rfl, hb8⟩
        have b8 := (b6.trans' hb7).trans' hb8
        have r8 := Lib.hid ((R6.out.trans' hb7).trans' hb8)
        clear b6 hb7 hb8
        go_wp2_with fail
        refine (HS1.out _ (HL.out.on r8.out)).mono ?_
        rintro e w9 ⟨rfl, hb9⟩
        have b9 := b8.trans' hb9
        have r9 := Lib.hid (r8.out.trans' hb9)
        clear b8 hb9
        go_wp2_with fail
        refine (HS2.out _ (HL.out.on r9.out)).mono ?_
        rintro e w10 ⟨rfl, hb10⟩
        have b10 := b9.trans' hb10
        have r10 := Lib.hid (r9.out.trans' hb10)
        clear b9 hb10
        go_wp2_with fail
        refine (HWD.out _ (HM.out.on r10.out) (HM2.out.on r10.out)).mono ?_
        rintro e w11 ⟨rfl, hb11⟩
        have b11 := b10.trans' hb11
        clear b10 hb11
        go_wp2_with fail
        refine (HT1.out _).mono ?_
        rintro e w12 ⟨rfl, hb12⟩
        have b12 := b11.trans' hb12
        clear b11 hb12
        go_wp2_with fail
        refine (HT2.out _).mono ?_
        rintro e w13 ⟨rfl, hb13⟩
        have b13 := b12.trans' hb13
        clear b12 hb13
        go_wp2_with fail
        refine (fixed_any _).mono ?_
        rintro e w14 ⟨rfl, hb14⟩
        go_wp2_with fail
        go_ret
        exact ⟨rfl, b13.trans' hb14⟩
      · have d2 := less_no h2
        have HT1 := Lib.hid (tBetween s0 x y true false (by unfold betw; rw [decide_eq_false h1, decide_eq_false h2]; rfl))
        clear h1 h2
        refine (HC1.out _).mono ?_
        rintro e w7 ⟨rfl, hb7⟩
        go_wp2_with fail
        refine (HC2.out _).mono ?_
        rintro e w8 ⟨rfl, hb8⟩
        have b8 := (b6.trans' hb7).trans' hb8
        have r8 := Lib.hid ((R6.out.trans' hb7).trans' hb8)
        clear b6 hb7 hb8
        go_wp2_with fail
        refine (HS1.out _ (HL.out.on r8.out)).mono ?_
        rintro e w9 ⟨rfl, hb9⟩
        have b9 := b8.trans' hb9
        have r9 := Lib.hid (r8.out.trans' hb9)
        clear b8 hb9
        go_wp2_with fail
        refine (HS2.out _ (HL.out.on r9.out)).mono ?_
        rintro e w10 ⟨rfl, hb10⟩
        have b10 := b9.trans' hb10
        have r10 := Lib.hid (r9.out.trans' hb10)
        clear b9 hb10
        go_wp2_with fail
        refine (HWD.out _ (HM.out.on r10.out) (HM2.out.on r10.out)).mono ?_
        rintro e w11 ⟨rfl, hb11⟩
        have b11 := b10.trans' hb11
        clear b10 hb11
        go_wp2_with fail
        refine (HT1.out _).mono ?_
        rintro e w12 ⟨rfl, hb12⟩
        have b12 := b11.trans' hb12
        clear b11 hb12
        go_wp2_with fail
        refine (HT2.out _).mono ?_
        rintro e w13 ⟨rfl, hb13⟩
        have b13 := b12.trans' hb13
        clear b12 hb13
        go_wp2_with fail
        refine (fixed_any _).mono ?_
        rintro e w14 ⟨rfl, hb14⟩
        go_wp2_with fail
        go_ret
        exact ⟨rfl, b13.trans' hb14⟩
  · obtain ⟨s0, h0⟩ : ∃ c, l[0]? = some c := ⟨_, List.getElem?_eq_getElem hz⟩
    obtain ⟨_, e, _, x0⟩ := HL.out 0 s0 h0
    obtain rfl := Option.some.inj e
    rw [addr_zero] at x0
    obtain ⟨n, hn⟩ : ∃ n, n = l.length := ⟨_, rfl⟩
    rw [← hn] at HS1 HS2 HWD hz
    simp only [← hn]
    have hz' : (0 : Int) < n := by omega
    clear h0 hn
    go_wp2_with fail
    by_cases h1 : B s0 < B x
    · have d1 := less_yes h1
      have HT1 := Lib.hid (tBetween s0 x y true false (by unfold betw; rw [decide_eq_true h1]; rfl))
      have HT2 := Lib.hid (tBetween s0 x y false false (by unfold betw; rw [decide_eq_true h1]; rfl))
      clear h1
      refine (HC1.out _).mono ?_
      rintro e w7 ⟨rfl, hb7⟩
      go_wp2_with fail
      refine (HC2.out _).mono ?_
      rintro e w8 ⟨rfl, hb8⟩
      have b8 := (b6.trans' hb7).trans' hb8
      have r8 := Lib.hid ((R6.out.trans' hb7).trans' hb8)
      clear b6 hb7 hb8
      go_wp2_with fail
      refine (HS1.out _ (HL.out.on r8.out)).mono ?_
      rintro e w9 ⟨rfl, hb9⟩
      have b9 := b8.trans' hb9
      have r9 := Lib.hid (r8.out.trans' hb9)
      clear b8 hb9
      go_wp2_with fail
      refine (HS2.out _ (HL.out.on r9.out)).mono ?_
      rintro e w10 ⟨rfl, hb10⟩
      have b10 := b9.trans' hb10
      have r10 := Lib.hid (r9.out.trans' hb10)
      clear b9 hb10
      go_wp2_with fail
      refine (HWD.out _ (HM.out.on r10.out) (HM2.out.on r10.out)).mono ?_
      rintro e w11 ⟨rfl, hb11⟩
      have b11 := b10.trans' hb11
      clear b10 hb11
      go_wp2_with fail
      refine (HT1.out _).mono ?_
      rintro e w12 ⟨rfl, hb12⟩
      have b12 := b11.trans' hb12
      clear b11 hb12
      go_wp2_with fail
      refine (HT2.out _).mono ?_
      rintro e w13 ⟨rfl, hb13⟩
      have b13 := b12.trans' hb13
      clear b12 hb13
      go_wp2_with fail
      refine (fixed_any _).mono ?_
      rintro e w14 ⟨rfl, hb14⟩
      go_wp2_with fail
      go_ret
      exact ⟨rfl, b13.trans' hb14⟩
    · have d1 := less_no h1
      have HT2 := Lib.hid (tBetween s0 x y false true (by unfold betw; rw [decide_eq_false h1]; rfl))
      by_cases h2 : B s0 < B y
      · have d2 := less_yes h2
        have HT1 := Lib.hid (tBetween s0 x y true true (by unfold betw; rw [decide_eq_false h1, decide_eq_true h2]; rfl))
        clear h1 h2
        refine (HC1.out _).mono ?_
        rintro e w7 ⟨rfl, hb7⟩
        go_wp2_with fail
        refine (HC2.out _).mono ?_
        rintro e w8 ⟨rfl, hb8⟩
        have b8 := (b6.trans' hb7).trans' hb8
        have r8 := Lib.hid ((R6.out.trans' hb7).trans' hb8)
        clear b6 hb7 hb8
        go_wp2_with fail
        refine (HS1.out _ (HL.out.on r8.out)).mono ?_
        rintro e w9 ⟨rfl, hb9⟩
        have b9 := b8.trans' hb9
        have r9 := Lib.hid (r8.out.trans' hb9)
        clear b8 hb9
        go_wp2_with fail
        refine (HS2.out _ (HL.out.on r9.out)).mono ?_
        rintro e w10 ⟨rfl, hb10⟩
        have b10 := b9.trans' hb10
        have r10 := Lib.hid (r9.out.trans' hb10)
        clear b9 hb10
        go_wp2_with fail
        refine (HWD.out _ (HM.out.on r10.out) (HM2.out.on r10.out)).mono ?_
        rintro e w11 ⟨rfl, hb11⟩
        have b11 := b10.trans' hb11
        clear b10 hb11
        go_wp2_with fail
        refine (HT1.out _).mono ?_
        rintro e w12 ⟨rfl, hb12⟩
        have b12 := b11.trans' hb12
        clear b11 hb12
        go_wp2_with fail
        refine (HT2.out _).mono ?_
        rintro e w13 ⟨rfl, hb13⟩
        have b13 := b12.trans' hb13
        clear b12 hb13
        go_wp2_with fail
        refine (fixed_any _).mono ?_
        rintro e w14 ⟨rfl, hb14⟩
        go_wp2_with fail
        go_ret
        exact ⟨rfl, b13.trans' hb14⟩
      · have d2 := less_no h2
        have HT1 := Lib.hid (tBetween s0 x y true false (by unfold betw; rw [decide_eq_false h1, decide_eq_false h2]; rfl))
        clear h1 h2
        refine (HC1.out _).mono ?_
        rintro e w7 ⟨rfl, hb7⟩
        go_wp2_with fail
        refine (HC2.out _).mono ?_
        rintro e w8 ⟨rfl, hb8⟩
        have b8 := (b6.trans' hb7).trans' hb8
        have r8 := Lib.hid ((R6.out.trans' hb7).trans' hb8)
        clear b6 hb7 hb8
        go_wp2_with fail
        refine (HS1.out _ (HL.out.on r8.out)).mono ?_
        rintro e w9 ⟨rfl, hb9⟩
        have b9 := b8.trans' hb9
        have r9 := Lib.hid (r8.out.trans' hb9)
        clear b8 hb9
        go_wp2_with fail
        refine (HS2.out _ (HL.out.on r9.out)).mono ?_
        rintro e w10 ⟨rfl, hb10⟩
        have b10 := b9.trans' hb10
        have r10 := Lib.hid (r9.out.trans' hb10)
        clear b9 hb10
        go_wp2_with fail
        refine (HWD.out _ (HM.out.on r10.out) (HM2.out.on r10.out)).mono ?_
        rintro e w11 ⟨rfl, hb11⟩
        have b11 := b10.trans' hb11
        clear b10 hb11
        go_wp2_with fail
        refine (HT1.out _).mono ?_
        rintro e w12 ⟨rfl, hb12⟩
        have b12 := b11.trans' hb12
        clear b11 hb12
        go_wp2_with fail
        refine (HT2.out _).mono ?_
        rintro e w13 ⟨rfl, hb13⟩
        have b13 := b12.trans' hb13
        clear b12 hb13
        go_wp2_with fail
        refine (fixed_any _).mono ?_
        rintro e w14 ⟨rfl, hb14⟩
        go_wp2_with fail
        go_ret
        exact ⟨rfl, b13.trans' hb14⟩
end Go.Proofs.Ytkeobalbfngniaa
