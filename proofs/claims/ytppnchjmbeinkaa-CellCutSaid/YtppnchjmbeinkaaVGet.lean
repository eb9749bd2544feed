/-
  Package cell: GetValue, GetKid. Written by wip/gen_vget.py.
-/
import Derived.Test.YtppnchjmbeinkaaVProg
namespace Go.Proofs.Ytppnchjmbeinkaa
open Go.RowKit
set_option linter.unusedVariables false
set_option linter.unusedSimpArgs false

theorem Bx.stay {t : TypeId} {g : Nat} {O : Bool} {S : ByteArray} {L P : Int} {w w' : World} (k : Bx t g O S L P w) (b : Below (g + 1) w w') : Bx t g O S L P w' := (b.block g (Nat.lt_succ_self _)).trans k
theorem toS (T : ByteArray) : (⟨T.data.toList.toArray⟩ : ByteArray) = T := ByteArray.ext (by simp)
theorem fb_new (t t0 : TypeId) (s : ByteArray) (R : List Value) (w : World) (o : Array Value) : FB t (w.heap.size + 1) s 0 false R ((w.alloc (.cells o t0)).alloc (.cells (.string s :: .int .i64 0 :: .bool false :: R).toArray t)) := by
  have h := heap_alloc_new (w.alloc (.cells o t0)) (.cells (.string s :: .int .i64 (0 : Nat) :: .bool false :: R).toArray t)
  have h2 : (w.alloc (.cells o t0)).heap.size = w.heap.size + 1 := by simp
  rw [h2] at h
  exact h
set_option maxHeartbeats 2000000 in
set_option maxRecDepth 100000 in
theorem getv_any (s : ByteArray) (w : World) (hs : s.size ≤ 1000000) :
    Calls Try.prog 15 #[.string s] w fun e w' => e = .returned (gotV (VP.getV s.data.toList)) ∧ Below w.heap.size w w' := by
  have hv := VP.getV_read s.data.toList
  obtain ⟨T', v, j, c, hr⟩ : ∃ T v j c, VP.readV s.data.toList = ((T, v), j, c) := ⟨_, _, _, _, rfl⟩
  obtain ⟨T, rfl⟩ := listS T'
  obtain ⟨O, S', L, P⟩ := v
  obtain ⟨S, rfl⟩ := listS S'
  rw [hr] at hv
  simp only at hv
  obtain ⟨A, hA⟩ : ∃ A, gotV (VP.getV s.data.toList) = A := ⟨_, rfl⟩
  rw [hA]
  rw [hv] at hA
  obtain ⟨n, hn⟩ : ∃ n, s.data.toList.length = n := ⟨_, rfl⟩
  have hT : T.data.toList.length = T.size := by simp
  have HREAD := Lib.hid (fun W k => vread_any 66 (w.heap.size + 1) s W k hs T.data.toList ⟨O, S.data.toList, L, P⟩ j c hr)
  simp only [toS] at HREAD
  have HWH := Lib.hid (fun R W k (hj : j ≤ s.size) => whole_any 66 (w.heap.size + 1) s j c R W k hj hs)
  rw [hn] at HWH hA
  have hj : j ≤ s.size := by
    have h := VP.readV_at s.data.toList
    rw [hr] at h
    simpa using h
  have HJ := Lib.hid hj
  have HK0 := Lib.hid (Bx.new 23 false ⟨#[]⟩ 0 0 w)
  have hb0 := below_alloc w (.cells #[.bool false, .string ⟨#[]⟩, .int .i64 0, .int .i64 0] 23)
  have hK0 : Bx 23 w.heap.size false ⟨#[]⟩ 0 0 ((w.alloc (.cells #[.bool false, .string ⟨#[]⟩, .int .i64 0, .int .i64 0] 23)).alloc (.cells #[.string s, .int .i64 0, .bool false, .string ⟨#[]⟩, .bool false, .string ⟨#[]⟩, .int .i64 0, .int .i64 0] 66)) := HK0.out.below (below_alloc _ _)
  have hbw := hb0.trans' (below_alloc (w.alloc (.cells #[.bool false, .string ⟨#[]⟩, .int .i64 0, .int .i64 0] 23)) (.cells #[.string s, .int .i64 0, .bool false, .string ⟨#[]⟩, .bool false, .string ⟨#[]⟩, .int .i64 0, .int .i64 0] 66))
  have hf := fb_new 66 23 s (vr ⟨#[]⟩ false ⟨#[]⟩ 0 0) w #[.bool false, .string ⟨#[]⟩, .int .i64 0, .int .i64 0]
  have HF := Lib.hid hf
  have HK := Lib.hid hK0
  have HBW := Lib.hid hbw
  clear hv hr hj HK0 hb0 hK0 hbw hf hs
  have HSU := Lib.hid (fun W => suffix_any T W)
  have HRI := Lib.hid (fun W => right_any O S L P W)
  have hdec : ((j, c) = (n, false) ∧ VP.OkV T.data.toList (pv O S L P) ∧ A = .tuple #[.string T, vv O S L P, .int .i64 0]) ∨ (A = .tuple #[.string ⟨#[]⟩, vv false ⟨#[]⟩ 0 0, .int .i64 3] ∧ ¬ ((j, c) = (n, false) ∧ T.size ≤ 128 ∧ VP.Right (pv O S L P))) := by
    by_cases h : (j, c) = (n, false) ∧ VP.OkV T.data.toList (pv O S L P)
    · refine .inl ⟨h.1, h.2, ?_⟩
      rw [← hA, if_pos h]
      simp only [gotV, toS]
    · refine .inr ⟨?_, fun h' => h ⟨h'.1, by rw [hT]; exact h'.2.1, h'.2.2⟩⟩
      rw [← hA, if_neg h]
      rfl
  clear hA hn
  -- read,
  go_enter Try.func15, Try.ntmps15
  go_wp2_with fail
  refine (HREAD.out _ HF).mono ?_
  rintro e w1 ⟨rfl, k1, hb1⟩
  have HK1 := Lib.hid (HK.out.stay hb1)
  have HB1 := Lib.hid (HBW.out.trans (hb1.mono (Nat.le_succ _)))
  clear HREAD HF HK HBW hb1
  go_wp2_with fail
  refine (HWH.out _ _ k1 HJ.out).mono ?_
  rintro e w2 ⟨rfl, k2, hb2⟩
  have HK2 := Lib.hid (HK1.out.stay hb2)
  have HB2 := Lib.hid (HB1.out.trans (hb2.mono (Nat.le_succ _)))
  clear HWH k1 HK1 HB1 hb2
  obtain ⟨z3, z4, z5, z6, z7⟩ := k2.out.cells5
  rcases hdec with ⟨h1, h2, rfl⟩ | ⟨rfl, h⟩
  · -- good
    rw [decide_eq_true (show T.size ≤ 128 by rw [← hT]; exact h2.1)] at HSU
    rw [decide_eq_true h2.2] at HRI
    rw [decide_eq_true h1]
    clear h1 h2 hT HJ
    go_wp2_with fail
    refine (HSU.out _).mono ?_
    rintro e w3 ⟨rfl, rfl⟩
    go_wp2_with fail
    refine (HRI.out _).mono ?_
    rintro e w4 ⟨rfl, hb4⟩
    obtain ⟨z3, z4, z5, z6, z7⟩ := (k2.out.below hb4).cells5
    have HK4 := Lib.hid (HK2.out.below hb4)
    have HB4 := Lib.hid (HB2.out.trans' hb4)
    obtain ⟨x0, x1, x2, x3⟩ := HK4.out.cells
    obtain ⟨y0, y1, y2, y3⟩ := HK4.out.free
    clear hb4 k2 HK2 HB2
    go_wp2_with fail
    go_region
    all_goals
      go_wp2_with fail
      obtain ⟨r0, r1, r2, r3⟩ := (set4_box HK4.out O S L P).cells
      unfold set4 at r0 r1 r2 r3
      refine bodyPost_ret (v := .tuple #[.string T, vv O S L P, .int .i64 0]) (by simp [results, Try.results15, go_sem, r0, r1, r2, r3]) rfl ⟨rfl, ?_⟩
      first | exact set4_below HB4.out (Nat.le_refl _) O S L P | exact (set4_below HB4.out (Nat.le_refl _) O S L P).drew
  · have hcase : (¬ (j, c) = (n, false)) ∨ ((j, c) = (n, false) ∧ ¬ T.size ≤ 128) ∨ ((j, c) = (n, false) ∧ T.size ≤ 128 ∧ ¬ VP.Right (pv O S L P)) := by
      by_cases h1 : (j, c) = (n, false)
      · by_cases h2 : T.size ≤ 128
        · exact .inr (.inr ⟨h1, h2, fun h3 => h ⟨h1, h2, h3⟩⟩)
        · exact .inr (.inl ⟨h1, h2⟩)
      · exact .inl h1
    clear h
    rcases hcase with h1 | ⟨h1, h2⟩ | ⟨h1, h2, h3⟩
    · rw [decide_eq_false h1]
      clear h1 HSU HRI hT HJ
      obtain ⟨x0, x1, x2, x3⟩ := HK2.out.cells
      obtain ⟨y0, y1, y2, y3⟩ := HK2.out.free
      go_wp2_with fail
      obtain ⟨r0, r1, r2, r3⟩ := (set4_box HK2.out false ⟨#[]⟩ 0 0).cells
      unfold set4 at r0 r1 r2 r3
      refine bodyPost_ret (v := .tuple #[.string ⟨#[]⟩, vv false ⟨#[]⟩ 0 0, .int .i64 3]) (by simp [results, Try.results15, go_sem, r0, r1, r2, r3]) rfl ⟨rfl, ?_⟩
      exact set4_below HB2.out (Nat.le_refl _) false ⟨#[]⟩ 0 0
    · rw [decide_eq_true h1]
      rw [decide_eq_false h2] at HSU
      clear h1 h2 HRI hT HJ
      obtain ⟨x0, x1, x2, x3⟩ := HK2.out.cells
      obtain ⟨y0, y1, y2, y3⟩ := HK2.out.free
      go_wp2_with fail
      refine (HSU.out _).mono ?_
      rintro e w3 ⟨rfl, rfl⟩
      go_wp2_with fail
      obtain ⟨r0, r1, r2, r3⟩ := (set4_box HK2.out false ⟨#[]⟩ 0 0).cells
      unfold set4 at r0 r1 r2 r3
      refine bodyPost_ret (v := .tuple #[.string ⟨#[]⟩, vv false ⟨#[]⟩ 0 0, .int .i64 3]) (by simp [results, Try.results15, go_sem, r0, r1, r2, r3]) rfl ⟨rfl, ?_⟩
      exact set4_below HB2.out (Nat.le_refl _) false ⟨#[]⟩ 0 0
    · rw [decide_eq_true h1]
      rw [decide_eq_true h2] at HSU
      rw [decide_eq_false h3] at HRI
      clear h1 h2 h3 hT HJ
      go_wp2_with fail
      refine (HSU.out _).mono ?_
      rintro e w3 ⟨rfl, rfl⟩
      go_wp2_with fail
      refine (HRI.out _).mono ?_
      rintro e w4 ⟨rfl, hb4⟩
      have HK4 := Lib.hid (HK2.out.below hb4)
      have HB4 := Lib.hid (HB2.out.trans' hb4)
      obtain ⟨x0, x1, x2, x3⟩ := HK4.out.cells
      obtain ⟨y0, y1, y2, y3⟩ := HK4.out.free
      clear hb4 k2 HK2 HB2
      go_wp2_with fail
      obtain ⟨r0, r1, r2, r3⟩ := (set4_box HK4.out false ⟨#[]⟩ 0 0).cells
      unfold set4 at r0 r1 r2 r3
      refine bodyPost_ret (v := .tuple #[.string ⟨#[]⟩, vv false ⟨#[]⟩ 0 0, .int .i64 3]) (by simp [results, Try.results15, go_sem, r0, r1, r2, r3]) rfl ⟨rfl, ?_⟩
      exact set4_below HB4.out (Nat.le_refl _) false ⟨#[]⟩ 0 0

theorem fb_new1 (t : TypeId) (s : ByteArray) (R : List Value) (w : World) : FB t w.heap.size s 0 false R (w.alloc (.cells (.string s :: .int .i64 0 :: .bool false :: R).toArray t)) := by
  have h := heap_alloc_new w (.cells (.string s :: .int .i64 (0 : Nat) :: .bool false :: R).toArray t)
  exact h
set_option maxHeartbeats 2000000 in
set_option maxRecDepth 100000 in
theorem getk_any (s : ByteArray) (w : World) (hs : s.size ≤ 1000000) :
    Calls Try.prog 17 #[.string s] w fun e w' => e = .returned (gotK (VP.getK s.data.toList)) ∧ Below w.heap.size w w' := by
  have hv := VP.getK_read s.data.toList
  obtain ⟨k, T', j, c, hr⟩ : ∃ k T j c, VP.readK s.data.toList = ((k, T), j, c) := ⟨_, _, _, _, rfl⟩
  obtain ⟨T, rfl⟩ := listS T'
  rw [hr] at hv
  simp only at hv
  obtain ⟨A, hA⟩ : ∃ A, gotK (VP.getK s.data.toList) = A := ⟨_, rfl⟩
  rw [hA]
  rw [hv] at hA
  obtain ⟨n, hn⟩ : ∃ n, s.data.toList.length = n := ⟨_, rfl⟩
  have hT : T.data.toList.length = T.size := by simp
  have HREAD := Lib.hid (fun W k' => kread_any 74 w.heap.size s W k' hs k T.data.toList j c hr)
  simp only [toS] at HREAD
  have HWH := Lib.hid (fun R W k (hj : j ≤ s.size) => whole_any 74 w.heap.size s j c R W k hj hs)
  rw [hn] at HWH hA
  have hj : j ≤ s.size := by
    have h := VP.readK_at s.data.toList
    rw [hr] at h
    simpa using h
  have HJ := Lib.hid hj
  have hb0 := below_alloc w (.cells #[.string s, .int .i64 0, .bool false, .int .i64 0, .string ⟨#[]⟩] 74)
  have hf := fb_new1 74 s (kr 0 ⟨#[]⟩) w
  have HF := Lib.hid hf
  have HBW := Lib.hid hb0
  clear hv hr hj hb0 hf hs
  have HSU := Lib.hid (fun W => suffix_any T W)
  have HRI := Lib.hid (fun W => page_any k W)
  have hdec : ((j, c) = (n, false) ∧ VP.OkK k T.data.toList ∧ A = .tuple #[.int .i64 k, .string T, .int .i64 0]) ∨ (A = .tuple #[.int .i64 0, .string ⟨#[]⟩, .int .i64 3] ∧ ¬ ((j, c) = (n, false) ∧ (1 ≤ (k : Int) ∧ (k : Int) ≤ 4095) ∧ T.size ≤ 128)) := by
    by_cases h : (j, c) = (n, false) ∧ VP.OkK k T.data.toList
    · refine .inl ⟨h.1, h.2, ?_⟩
      rw [← hA, if_pos h]
      simp only [gotK, toS]
    · refine .inr ⟨?_, fun h' => h ⟨h'.1, h'.2.1.1, h'.2.1.2, by rw [hT]; exact h'.2.2⟩⟩
      rw [← hA, if_neg h]
      rfl
  clear hA hn
  go_enter Try.func17, Try.ntmps17
  go_wp2_with fail
  refine (HREAD.out _ HF).mono ?_
  rintro e w1 ⟨rfl, k1, hb1⟩
  have HB1 := Lib.hid (HBW.out.trans hb1)
  clear HREAD HF HBW hb1
  go_wp2_with fail
  refine (HWH.out _ _ k1 HJ.out).mono ?_
  rintro e w2 ⟨rfl, k2, hb2⟩
  have HB2 := Lib.hid (HB1.out.trans hb2)
  clear HWH k1 HB1 hb2
  obtain ⟨z3, z4⟩ := k2.out.cells2
  rcases hdec with ⟨h1, h2, rfl⟩ | ⟨rfl, h⟩
  · rw [decide_eq_true (show T.size ≤ 128 by rw [← hT]; exact h2.2.2)] at HSU
    rw [decide_eq_true (And.intro h2.1 h2.2.1)] at HRI
    rw [decide_eq_true h1]
    clear h1 h2 hT HJ
    go_wp2_with fail
    refine (HRI.out _).mono ?_
    rintro e w3 ⟨rfl, rfl⟩
    go_wp2_with fail
    refine (HSU.out _).mono ?_
    rintro e w4 ⟨rfl, rfl⟩
    go_wp2_with fail
    go_quiet (fail)
    go_wp2_with fail
    refine bodyPost_ret (v := .tuple #[.int .i64 k, .string T, .int .i64 0]) (by simp [results, Try.results17, go_sem]) rfl ⟨rfl, below_drewN HB2.out nq⟩
  · have hcase : (¬ (j, c) = (n, false)) ∨ ((j, c) = (n, false) ∧ ¬ (1 ≤ (k : Int) ∧ (k : Int) ≤ 4095)) ∨ ((j, c) = (n, false) ∧ (1 ≤ (k : Int) ∧ (k : Int) ≤ 4095) ∧ ¬ T.size ≤ 128) := by
      by_cases h1 : (j, c) = (n, false)
      · by_cases h2 : 1 ≤ (k : Int) ∧ (k : Int) ≤ 4095
        · exact .inr (.inr ⟨h1, h2, fun h3 => h ⟨h1, h2, h3⟩⟩)
        · exact .inr (.inl ⟨h1, h2⟩)
      · exact .inl h1
    clear h
    rcases hcase with h1 | ⟨h1, h2⟩ | ⟨h1, h2, h3⟩
    · rw [decide_eq_false h1]
      clear h1 HSU HRI hT HJ
      go_wp2_with fail
      refine bodyPost_ret (v := .tuple #[.int .i64 0, .string ⟨#[]⟩, .int .i64 3]) (by simp [results, Try.results17, go_sem]) rfl ⟨rfl, HB2.out⟩
    · rw [decide_eq_true h1]
      rw [decide_eq_false h2] at HRI
      clear h1 h2 HSU hT HJ
      go_wp2_with fail
      refine (HRI.out _).mono ?_
      rintro e w3 ⟨rfl, rfl⟩
      go_wp2_with fail
      refine bodyPost_ret (v := .tuple #[.int .i64 0, .string ⟨#[]⟩, .int .i64 3]) (by simp [results, Try.results17, go_sem]) rfl ⟨rfl, HB2.out⟩
    · rw [decide_eq_true h1]
      rw [decide_eq_true h2] at HRI
      rw [decide_eq_false h3] at HSU
      clear h1 h2 h3 hT HJ
      go_wp2_with fail
      refine (HRI.out _).mono ?_
      rintro e w3 ⟨rfl, rfl⟩
      go_wp2_with fail
      refine (HSU.out _).mono ?_
      rintro e w4 ⟨rfl, rfl⟩
      go_wp2_with fail
      refine bodyPost_ret (v := .tuple #[.int .i64 0, .string ⟨#[]⟩, .int .i64 3]) (by simp [results, Try.results17, go_sem]) rfl ⟨rfl, HB2.out⟩
end Go.Proofs.Ytppnchjmbeinkaa
