/-
  The walk of the law SepThree.
-/
import Derived.Test.YtkeobalbfngniaaELaws
import Derived.Lib.MinMaxS
import Derived.BigRegion
namespace Go.Proofs.Ytkeobalbfngniaa
open Go.RowKit
set_option linter.unusedVariables false
set_option linter.unusedSimpArgs false
attribute [local go_sem high] Lib.run_max_strs Lib.run_min_strs

theorem max_min (x y : ByteArray) : ¬ B (Lib.maxS x y) < B (Lib.minS x y) := by
  unfold Lib.maxS Lib.minS
  by_cases h : B x < B y
  · rw [if_pos h, if_pos (.inl h)]; exact EP.lt_asymm h
  · rw [if_neg h]
    by_cases e : B x = B y
    · rw [if_pos (.inr e)]; exact EP.lt_irrefl _
    · rw [if_neg (fun g => g.elim h e)]; exact h
theorem max_size (x y : ByteArray) (n : Nat) (hx : x.size ≤ n) (hy : y.size ≤ n) : (Lib.maxS x y).size ≤ n := by unfold Lib.maxS; split <;> assumption
theorem min_size (x y : ByteArray) (n : Nat) (hx : x.size ≤ n) (hy : y.size ≤ n) : (Lib.minS x y).size ≤ n := by unfold Lib.minS; split <;> assumption

theorem lies_two (w : World) (t : TypeId) (s : ByteArray) : Lies ((w.alloc (.cells #[.string s] t)).alloc (.cells #[.string s] t)) ((w.alloc (.cells #[.string s] t)).alloc (.cells #[.string s] t)).heap.size (some ⟨w.heap.size, 0, none⟩) [s] :=
  Lies.on (w := w.alloc (.cells #[.string s] t)) (lies_new w t [s]) (below_alloc _ _)
theorem lies_two' (w : World) (t : TypeId) (s : ByteArray) : Lies ((w.alloc (.cells #[.string s] t)).alloc (.cells #[.string s] t)) ((w.alloc (.cells #[.string s] t)).alloc (.cells #[.string s] t)).heap.size (some ⟨w.heap.size + 1, 0, none⟩) [s] := by
  have h := lies_new (w.alloc (.cells #[.string s] t)) t [s]
  rw [show (w.alloc (.cells #[.string s] t)).heap.size = w.heap.size + 1 by simp] at h
  exact h

set_option maxHeartbeats 1000000 in
set_option maxRecDepth 100000 in
theorem sepThree_walk (a b c : ByteArray) (w : World) (wa : a.size ≤ maxLen) (wb : b.size ≤ maxLen) (wc : c.size ≤ maxLen) :
    Calls Try.prog 8 #[.agg #[.string a, .string b, .string c]] w fun e w' => e = .returned (.bool true) ∧ Below w.heap.size w w' := by
  unfold maxLen at wa wb wc
  obtain ⟨m, hm, hm4, hms, hm2, hts⟩ := cut_min a 60 (by omega)
  obtain ⟨m', hm', hm4', hms', hm2', hts'⟩ := cut_min b 60 (by omega)
  obtain ⟨m'', hm'', hm4'', hms'', hm2'', hts''⟩ := cut_min c 60 (by omega)
  have HTS := Lib.hid hts
  have HTS' := Lib.hid hts'
  have HTS'' := Lib.hid hts''
  clear hts hts' hts''
  have c0 : (w.alloc (.cells #[.string a, .string b, .string c] 39)).cell? ⟨w.heap.size, 0, none⟩ = some (.string a) := World.news_of_block (heap_alloc_new w _) 0 _ rfl
  have c1 : (w.alloc (.cells #[.string a, .string b, .string c] 39)).cell? ⟨w.heap.size, 1, none⟩ = some (.string b) := World.news_of_block (heap_alloc_new w _) 1 _ rfl
  have c2 : (w.alloc (.cells #[.string a, .string b, .string c] 39)).cell? ⟨w.heap.size, 2, none⟩ = some (.string c) := World.news_of_block (heap_alloc_new w _) 2 _ rfl
  have hb0 := below_alloc w (.cells #[.string a, .string b, .string c] 39)
  go_enter Try.func8, Try.ntmps8
  go_wp2_with fail
  generalize w.alloc (.cells #[.string a, .string b, .string c] 39) = w0 at *
  go_quiet (fail)
  clear hm hm2 hm' hm2' hm'' hm2'' c0 c1 c2
  have HB0 : Hid (Below w.heap.size w (w0.drewN nq)) := Lib.hid (below_drewN hb0 nq)
  clear hb0
  generalize w0.drewN nq = v0 at *
  generalize a.extract 0 m = x at *
  generalize b.extract 0 m' = y at *
  generalize c.extract 0 m'' = z at *
  obtain rfl := HTS.out
  obtain rfl := HTS'.out
  obtain rfl := HTS''.out
  clear HTS HTS' HTS''
  have hx : x.size ≤ 1000 := by omega
  have hy : y.size ≤ 1000 := by omega
  have hz : z.size ≤ 1000 := by omega
  by_cases h1 : B x < B y
  · have d1 := less_yes h1
    by_cases h2 : B y < B z
    · have d2 := less_yes h2
      have h3 := EP.lt_trans h1 h2
      obtain ⟨p, hp, hpy, _, _, _, _, hp5⟩ := least_same h1
      obtain ⟨q, hq, hqz, _, _, _, _, hq5⟩ := least_same h2
      obtain ⟨n, hn, hnz, _, _, _, _, hn5⟩ := least_same h3
      have hmin : min (p : Int) q = n := by
        have := EP.com_three h1 h2
        omega
      have HL1 := Lib.hid (tLeast x y _ hx hy (leastV_yes h1))
      have HL2 := Lib.hid (tLeast y z _ hy hz (leastV_yes h2))
      have HL3 := Lib.hid (tLeast x z _ hx hz (leastV_yes h3))
      rw [hp] at HL1
      rw [hq] at HL2
      rw [hn] at HL3
      have HC1 := Lib.hid (tCommon x y p hx hy hp)
      have HC2 := Lib.hid (tCommon y z q hy hz hq)
      have HC3 := Lib.hid (tCommon x z n hx hz hn)
      have c9 : decide ((n : Int) + 1 ≤ min ((p : Int) + 1) ((q : Int) + 1)) = true := by simp only [decide_eq_true_eq]; omega
      clear h1 h2 h3 hp hq hn
      generalize hS1 : y.extract 0 (p + 1) = S1 at *
      generalize hS2 : z.extract 0 (q + 1) = S2 at *
      generalize hS3 : z.extract 0 (n + 1) = S3 at *
      clear hS1 hS2
      go_wp2_with fail
      refine (HL1.out _).mono ?_
      rintro e w1 ⟨rfl, hb1⟩
      go_wp2_with fail
      refine (HL2.out _).mono ?_
      rintro e w2 ⟨rfl, hb2⟩
      have b2 := (HB0.out.trans' hb1).trans' hb2
      clear hb1 hb2
      go_wp2_with fail
      refine (HL3.out _).mono ?_
      rintro e w3 ⟨rfl, hb3⟩
      go_wp2_with fail
      refine (HC1.out _).mono ?_
      rintro e w4 ⟨rfl, hb4⟩
      go_wp2_with fail
      refine (HC2.out _).mono ?_
      rintro e w5 ⟨rfl, hb5⟩
      have b5 := ((b2.trans' hb3).trans' hb4).trans' hb5
      clear b2 hb3 hb4 hb5
      go_wp2_with fail
      refine (HC3.out _).mono ?_
      rintro e w6 ⟨rfl, hb6⟩
      go_wp2_with fail
      refine (words_any (some ⟨w6.heap.size, 0, none⟩) (some ⟨w6.heap.size + 1, 0, none⟩) [S3] [S3] 1 1 _ (lies_two w6 9 S3) (lies_two' w6 9 S3) (by simp) rfl).mono ?_
      rintro e w7 ⟨rfl, hb7⟩
      have b7 := ((b5.trans' hb6).trans' ((below_alloc w6 (.cells #[.string S3] 9)).trans' (below_alloc _ (.cells #[.string S3] 9)))).trans' hb7
      clear b5 hb6 hb7
      go_wp2_with fail
      refine (fixed_any _).mono ?_
      rintro e w8 ⟨rfl, hb8⟩
      go_wp2_with fail
      go_ret
      exact ⟨rfl, b7.trans' hb8⟩
    · have d2 := less_no h2
      clear h1 h2
      go_wp2_with fail
      have hM := max_size x y 60 (by omega) (by omega)
      have hN := min_size x y 60 (by omega) (by omega)
      have HL := Lib.hid (tLeast (Lib.maxS x y) (Lib.minS x y) _ (by omega) (by omega) (leastV_no (max_min x y)))
      clear hM hN
      generalize Lib.maxS x y = M at *
      generalize Lib.minS x y = N at *
      refine (HL.out _).mono ?_
      rintro e w1 ⟨rfl, hb1⟩
      go_wp2_with fail
      refine (fixed_any _).mono ?_
      rintro e w2 ⟨rfl, hb2⟩
      go_wp2_with fail
      go_ret
      exact ⟨rfl, (HB0.out.trans' hb1).trans' hb2⟩
  · have d1 := less_no h1
    clear h1
    go_wp2_with fail
    have hM := max_size x y 60 (by omega) (by omega)
    have hN := min_size x y 60 (by omega) (by omega)
    have HL := Lib.hid (tLeast (Lib.maxS x y) (Lib.minS x y) _ (by omega) (by omega) (leastV_no (max_min x y)))
    clear hM hN
    generalize Lib.maxS x y = M at *
    generalize Lib.minS x y = N at *
    refine (HL.out _).mono ?_
    rintro e w1 ⟨rfl, hb1⟩
    go_wp2_with fail
    refine (fixed_any _).mono ?_
    rintro e w2 ⟨rfl, hb2⟩
    go_wp2_with fail
    go_ret
    exact ⟨rfl, (HB0.out.trans' hb1).trans' hb2⟩
end Go.Proofs.Ytkeobalbfngniaa
