/-
  Walk of col.Get.
-/
import Derived.Test.YtdcijbclafpkmaaDoorCGetT
namespace Go.Proofs.YtdcijbclafpkmaaDoor
open Go.RowKit
set_option linter.unusedVariables false
set_option linter.unusedSimpArgs false

/-- What col.gets answers. -/
def getsV : Array Value := #[.func (.func 68) #[] #[], .func (.func 69) #[] #[], .func (.func 70) #[] #[], .func (.func 71) #[] #[], .func (.func 72) #[] #[]]
theorem gets_any (w : World) : Calls Tryd.prog 51 #[] w fun e w' => e = .returned (.agg getsV) ∧ Below w.heap.size w w' := by
  go_enter Tryd.func51, Tryd.ntmps51
  go_wp2
  refine bodyPost_ret (v := .agg getsV) (by simp [results, Tryd.results51, go_sem, getsV]) rfl ⟨rfl, below_alloc _ _⟩
theorem ixGets0 (W : World) : (Instr.index 106 (.agg getsV) (.int .i64 0)).run Tryd.prog W = .ok (.func (.func 68) #[] #[]) W := by kernel_rfl
theorem ixGets1 (W : World) : (Instr.index 106 (.agg getsV) (.int .i64 1)).run Tryd.prog W = .ok (.func (.func 69) #[] #[]) W := by kernel_rfl
theorem ixGets2 (W : World) : (Instr.index 106 (.agg getsV) (.int .i64 2)).run Tryd.prog W = .ok (.func (.func 70) #[] #[]) W := by kernel_rfl
theorem ixGets3 (W : World) : (Instr.index 106 (.agg getsV) (.int .i64 3)).run Tryd.prog W = .ok (.func (.func 71) #[] #[]) W := by kernel_rfl
theorem ixGets4 (W : World) : (Instr.index 106 (.agg getsV) (.int .i64 4)).run Tryd.prog W = .ok (.func (.func 72) #[] #[]) W := by kernel_rfl

theorem colGet_arg (s : ByteArray) (i : Int) (w : World) (h : i < 0 ∨ (s.size : Int) < i) : Calls Tryd.prog 37 #[.string s, .int .i64 i] w fun e w' => e = .returned (gotV (CP.none_ 4)) ∧ Below w.heap.size w w' := by
  rcases h with h | h
  all_goals
    go_enter Tryd.func37, Tryd.ntmps37
    go_wp2_with fail
    refine bodyPost_ret (v := gotV (CP.none_ 4)) (by simp [results, Tryd.results37, go_sem, gotV, CP.none_]) rfl ⟨rfl, below_alloc _ _⟩

/-- How far col.Get comes: the box of its answer, and the reader's two. -/
theorem box_start {w w2 : World} {s : ByteArray} {p : Nat} (hw : Wrote (w.heap.size + 2) (((w.alloc (.cells #[.int .i64 0, .int .i64 0, .int .u64 0, .string ⟨#[]⟩] 51)).alloc (.cells #[.string s] 9)).alloc (.cells #[.int .i64 p] 3)) w2) : Box w.heap.size 0 0 0 ⟨#[]⟩ w2 ∧ Below w.heap.size w w2 := by
  obtain ⟨a1, a2, a3, a4⟩ := reader_start w s p
  exact ⟨a3.wrote hw (by omega), a4.trans (hw.below (by omega) a4.size)⟩

set_option maxHeartbeats 1000000 in
theorem colGet_end (s : ByteArray) (p : Nat) (w : World) (h : ¬ p < s.size) (h2 : p ≤ s.size) (hs : s.size ≤ 1000000) : Calls Tryd.prog 37 #[.string s, .int .i64 p] w fun e w' => e = .returned (gotV (CP.none_ 7)) ∧ Below w.heap.size w w' := by
  obtain ⟨a1, a2, a3, a4⟩ := reader_start w s p
  have A1 := Lib.hid a1
  have A2 := Lib.hid a2
  have A3 := Lib.hid a3
  have A4 := Lib.hid a4
  clear a1 a2 a3 a4
  have h' : ¬ (s.size : Int) < p := by omega
  go_enter Tryd.func37, Tryd.ntmps37
  go_wp2_with fail
  refine (reader_any s p _).mono ?_
  rintro e w1 ⟨rfl, rfl⟩
  go_wp2_with fail
  refine (next_end (w.heap.size + 2) (w.heap.size + 1) s _ _ A1 A2 (by omega)).mono ?_
  rintro e w2 ⟨rfl, rfl⟩
  obtain ⟨c0, c1, c2, c3⟩ := A3.out.cells
  obtain ⟨f0, f1, f2, f3⟩ := A3.out.free
  have A4' := Lib.hid (below4 (a := .int .i64 0) (b := .int .i64 0) (c := .int .u64 0) (d := .string ⟨#[]⟩) A4.out)
  generalize ((w.alloc (.cells #[.int .i64 0, .int .i64 0, .int .u64 0, .string ⟨#[]⟩] 51)).alloc (.cells #[.string s] 9)).alloc (.cells #[.int .i64 p] 3) = w2 at *
  go_wp2_with fail
  refine bodyPost_ret (v := gotV (CP.none_ 7)) (by simp [results, Tryd.results37, go_sem, gotV, CP.none_, c0, c1, c2, c3]) rfl ⟨rfl, A4'.out⟩

set_option maxHeartbeats 1000000 in
theorem colGet_form (s : ByteArray) (p : Nat) (w : World) (h : p < s.size) (hs : s.size ≤ 1000000) (hk : ∀ W, Calls Tryd.prog 50 #[.int .u8 s[p].toNat] W fun e w' => e = .returned (.tuple #[.int .i64 0, .bool false]) ∧ W = w') : Calls Tryd.prog 37 #[.string s, .int .i64 p] w fun e w' => e = .returned (gotV (CP.none_ 3)) ∧ Below w.heap.size w w' := by
  obtain ⟨a1, a2, a3, a4⟩ := reader_start w s p
  have A1 := Lib.hid a1
  have A2 := Lib.hid a2
  have HK := Lib.hid hk
  clear a1 a2 a3 a4 hk
  have h' : ¬ (s.size : Int) < p := by omega
  go_enter Tryd.func37, Tryd.ntmps37
  go_wp2_with fail
  refine (reader_any s p _).mono ?_
  rintro e w1 ⟨rfl, rfl⟩
  go_wp2_with fail
  refine (next_go (w.heap.size + 2) (w.heap.size + 1) s p _ A1 A2 (by omega) h (by unfold maxLen; omega)).mono ?_
  rintro e w2 ⟨rfl, _, _, hw2⟩
  obtain ⟨B3, B4⟩ := box_start hw2
  have HB3 := Lib.hid B3
  clear A1 A2 hw2 B3
  go_wp2_with fail
  refine (HK.out _).mono ?_
  rintro e w3 ⟨rfl, rfl⟩
  obtain ⟨c0, c1, c2, c3⟩ := HB3.out.cells
  obtain ⟨f0, f1, f2, f3⟩ := HB3.out.free
  go_wp2_with fail
  refine bodyPost_ret (v := gotV (CP.none_ 3)) (by simp [results, Tryd.results37, go_sem, gotV, CP.none_, c0, c1, c2, c3]) rfl ⟨rfl, below4 B4⟩

set_option maxHeartbeats 1000000 in
theorem colGet_0 (s : ByteArray) (p : Nat) (w : World) (h : p < s.size) (hs : s.size ≤ 1000000) (g : CP.Col × Nat × Nat) (hk : ∀ W, Calls Tryd.prog 50 #[.int .u8 s[p].toNat] W fun e w' => e = .returned (.tuple #[.int .i64 0, .bool true]) ∧ W = w')
    (hg : ∀ W, Calls Tryd.prog 68 #[.int .u8 s[p].toNat, .string s, .int .i64 (p + 1 : Nat)] W fun e w' => e = .returned (gotV g) ∧ Below W.heap.size W w') : Calls Tryd.prog 37 #[.string s, .int .i64 p] w fun e w' => e = .returned (gotV g) ∧ Below w.heap.size w w' := by
  obtain ⟨a1, a2, a3, a4⟩ := reader_start w s p
  have A1 := Lib.hid a1
  have A2 := Lib.hid a2
  have HK := Lib.hid hk
  have hix := ixGets0
  obtain ⟨⟨K, I, U, S⟩, to, er⟩ := g
  have HG : Hid (∀ W, Calls Tryd.prog 68 #[.int .u8 s[p].toNat, .string s, .int .i64 (p + 1 : Nat)] W fun e w' => e = .returned (.tuple #[.agg #[.int .i64 K, .int .i64 I, .int .u64 U, .string ⟨S.toArray⟩], .int .i64 to, .int .i64 er]) ∧ Below W.heap.size W w') := Lib.hid hg
  show Calls Tryd.prog 37 #[.string s, .int .i64 p] w fun e w' => e = .returned (.tuple #[.agg #[.int .i64 K, .int .i64 I, .int .u64 U, .string ⟨S.toArray⟩], .int .i64 to, .int .i64 er]) ∧ Below w.heap.size w w'
  generalize (⟨S.toArray⟩ : ByteArray) = S at *
  clear a1 a2 a3 a4 hk hg
  have h' : ¬ (s.size : Int) < p := by omega
  go_enter Tryd.func37, Tryd.ntmps37
  go_wp2_with fail
  refine (reader_any s p _).mono ?_
  rintro e w1 ⟨rfl, rfl⟩
  go_wp2_with fail
  refine (next_go (w.heap.size + 2) (w.heap.size + 1) s p _ A1 A2 (by omega) h (by unfold maxLen; omega)).mono ?_
  rintro e w2 ⟨rfl, _, _, hw2⟩
  obtain ⟨B3, B4⟩ := box_start hw2
  have HB3 := Lib.hid B3
  clear A1 A2 hw2 B3
  go_wp2_with fail
  refine (HK.out _).mono ?_
  rintro e w3 ⟨rfl, rfl⟩
  go_wp2_with fail
  refine (gets_any _).mono ?_
  rintro e w4 ⟨rfl, hb4⟩
  go_wp2_with fail
  refine (HG.out _).mono ?_
  rintro e w5 ⟨rfl, hb5⟩
  obtain ⟨c0, c1, c2, c3⟩ := ((HB3.out.below hb4).below hb5).cells
  obtain ⟨f0, f1, f2, f3⟩ := ((HB3.out.below hb4).below hb5).free
  go_wp2_with fail
  refine bodyPost_ret (v := .tuple #[.agg #[.int .i64 K, .int .i64 I, .int .u64 U, .string S], .int .i64 to, .int .i64 er]) (by simp [results, Tryd.results37, go_sem, c0, c1, c2, c3]) rfl ⟨rfl, below4 ((B4.trans' hb4).trans' hb5)⟩

set_option maxHeartbeats 1000000 in
theorem colGet_1 (s : ByteArray) (p : Nat) (w : World) (h : p < s.size) (hs : s.size ≤ 1000000) (g : CP.Col × Nat × Nat) (hk : ∀ W, Calls Tryd.prog 50 #[.int .u8 s[p].toNat] W fun e w' => e = .returned (.tuple #[.int .i64 1, .bool true]) ∧ W = w')
    (hg : ∀ W, Calls Tryd.prog 69 #[.int .u8 s[p].toNat, .string s, .int .i64 (p + 1 : Nat)] W fun e w' => e = .returned (gotV g) ∧ Below W.heap.size W w') : Calls Tryd.prog 37 #[.string s, .int .i64 p] w fun e w' => e = .returned (gotV g) ∧ Below w.heap.size w w' := by
  obtain ⟨a1, a2, a3, a4⟩ := reader_start w s p
  have A1 := Lib.hid a1
  have A2 := Lib.hid a2
  have HK := Lib.hid hk
  have hix := ixGets1
  obtain ⟨⟨K, I, U, S⟩, to, er⟩ := g
  have HG : Hid (∀ W, Calls Tryd.prog 69 #[.int .u8 s[p].toNat, .string s, .int .i64 (p + 1 : Nat)] W fun e w' => e = .returned (.tuple #[.agg #[.int .i64 K, .int .i64 I, .int .u64 U, .string ⟨S.toArray⟩], .int .i64 to, .int .i64 er]) ∧ Below W.heap.size W w') := Lib.hid hg
  show Calls Tryd.prog 37 #[.string s, .int .i64 p] w fun e w' => e = .returned (.tuple #[.agg #[.int .i64 K, .int .i64 I, .int .u64 U, .string ⟨S.toArray⟩], .int .i64 to, .int .i64 er]) ∧ Below w.heap.size w w'
  generalize (⟨S.toArray⟩ : ByteArray) = S at *
  clear a1 a2 a3 a4 hk hg
  have h' : ¬ (s.size : Int) < p := by omega
  go_enter Tryd.func37, Tryd.ntmps37
  go_wp2_with fail
  refine (reader_any s p _).mono ?_
  rintro e w1 ⟨rfl, rfl⟩
  go_wp2_with fail
  refine (next_go (w.heap.size + 2) (w.heap.size + 1) s p _ A1 A2 (by omega) h (by unfold maxLen; omega)).mono ?_
  rintro e w2 ⟨rfl, _, _, hw2⟩
  obtain ⟨B3, B4⟩ := box_start hw2
  have HB3 := Lib.hid B3
  clear A1 A2 hw2 B3
  go_wp2_with fail
  refine (HK.out _).mono ?_
  rintro e w3 ⟨rfl, rfl⟩
  go_wp2_with fail
  refine (gets_any _).mono ?_
  rintro e w4 ⟨rfl, hb4⟩
  go_wp2_with fail
  refine (HG.out _).mono ?_
  rintro e w5 ⟨rfl, hb5⟩
  obtain ⟨c0, c1, c2, c3⟩ := ((HB3.out.below hb4).below hb5).cells
  obtain ⟨f0, f1, f2, f3⟩ := ((HB3.out.below hb4).below hb5).free
  go_wp2_with fail
  refine bodyPost_ret (v := .tuple #[.agg #[.int .i64 K, .int .i64 I, .int .u64 U, .string S], .int .i64 to, .int .i64 er]) (by simp [results, Tryd.results37, go_sem, c0, c1, c2, c3]) rfl ⟨rfl, below4 ((B4.trans' hb4).trans' hb5)⟩

set_option maxHeartbeats 1000000 in
theorem colGet_2 (s : ByteArray) (p : Nat) (w : World) (h : p < s.size) (hs : s.size ≤ 1000000) (g : CP.Col × Nat × Nat) (hk : ∀ W, Calls Tryd.prog 50 #[.int .u8 s[p].toNat] W fun e w' => e = .returned (.tuple #[.int .i64 2, .bool true]) ∧ W = w')
    (hg : ∀ W, Calls Tryd.prog 70 #[.int .u8 s[p].toNat, .string s, .int .i64 (p + 1 : Nat)] W fun e w' => e = .returned (gotV g) ∧ Below W.heap.size W w') : Calls Tryd.prog 37 #[.string s, .int .i64 p] w fun e w' => e = .returned (gotV g) ∧ Below w.heap.size w w' := by
  obtain ⟨a1, a2, a3, a4⟩ := reader_start w s p
  have A1 := Lib.hid a1
  have A2 := Lib.hid a2
  have HK := Lib.hid hk
  have hix := ixGets2
  obtain ⟨⟨K, I, U, S⟩, to, er⟩ := g
  have HG : Hid (∀ W, Calls Tryd.prog 70 #[.int .u8 s[p].toNat, .string s, .int .i64 (p + 1 : Nat)] W fun e w' => e = .returned (.tuple #[.agg #[.int .i64 K, .int .i64 I, .int .u64 U, .string ⟨S.toArray⟩], .int .i64 to, .int .i64 er]) ∧ Below W.heap.size W w') := Lib.hid hg
  show Calls Tryd.prog 37 #[.string s, .int .i64 p] w fun e w' => e = .returned (.tuple #[.agg #[.int .i64 K, .int .i64 I, .int .u64 U, .string ⟨S.toArray⟩], .int .i64 to, .int .i64 er]) ∧ Below w.heap.size w w'
  generalize (⟨S.toArray⟩ : ByteArray) = S at *
  clear a1 a2 a3 a4 hk hg
  have h' : ¬ (s.size : Int) < p := by omega
  go_enter Tryd.func37, Tryd.ntmps37
  go_wp2_with fail
  refine (reader_any s p _).mono ?_
  rintro e w1 ⟨rfl, rfl⟩
  go_wp2_with fail
  refine (next_go (w.heap.size + 2) (w.heap.size + 1) s p _ A1 A2 (by omega) h (by unfold maxLen; omega)).mono ?_
  rintro e w2 ⟨rfl, _, _, hw2⟩
  obtain ⟨B3, B4⟩ := box_start hw2
  have HB3 := Lib.hid B3
  clear A1 A2 hw2 B3
  go_wp2_with fail
  refine (HK.out _).mono ?_
  rintro e w3 ⟨rfl, rfl⟩
  go_wp2_with fail
  refine (gets_any _).mono ?_
  rintro e w4 ⟨rfl, hb4⟩
  go_wp2_with fail
  refine (HG.out _).mono ?_
  rintro e w5 ⟨rfl, hb5⟩
  obtain ⟨c0, c1, c2, c3⟩ := ((HB3.out.below hb4).below hb5).cells
  obtain ⟨f0, f1, f2, f3⟩ := ((HB3.out.below hb4).below hb5).free
  go_wp2_with fail
  refine bodyPost_ret (v := .tuple #[.agg #[.int .i64 K, .int .i64 I, .int .u64 U, .string S], .int .i64 to, .int .i64 er]) (by simp [results, Tryd.results37, go_sem, c0, c1, c2, c3]) rfl ⟨rfl, below4 ((B4.trans' hb4).trans' hb5)⟩

set_option maxHeartbeats 1000000 in
theorem colGet_3 (s : ByteArray) (p : Nat) (w : World) (h : p < s.size) (hs : s.size ≤ 1000000) (g : CP.Col × Nat × Nat) (hk : ∀ W, Calls Tryd.prog 50 #[.int .u8 s[p].toNat] W fun e w' => e = .returned (.tuple #[.int .i64 3, .bool true]) ∧ W = w')
    (hg : ∀ W, Calls Tryd.prog 71 #[.int .u8 s[p].toNat, .string s, .int .i64 (p + 1 : Nat)] W fun e w' => e = .returned (gotV g) ∧ Below W.heap.size W w') : Calls Tryd.prog 37 #[.string s, .int .i64 p] w fun e w' => e = .returned (gotV g) ∧ Below w.heap.size w w' := by
  obtain ⟨a1, a2, a3, a4⟩ := reader_start w s p
  have A1 := Lib.hid a1
  have A2 := Lib.hid a2
  have HK := Lib.hid hk
  have hix := ixGets3
  obtain ⟨⟨K, I, U, S⟩, to, er⟩ := g
  have HG : Hid (∀ W, Calls Tryd.prog 71 #[.int .u8 s[p].toNat, .string s, .int .i64 (p + 1 : Nat)] W fun e w' => e = .returned (.tuple #[.agg #[.int .i64 K, .int .i64 I, .int .u64 U, .string ⟨S.toArray⟩], .int .i64 to, .int .i64 er]) ∧ Below W.heap.size W w') := Lib.hid hg
  show Calls Tryd.prog 37 #[.string s, .int .i64 p] w fun e w' => e = .returned (.tuple #[.agg #[.int .i64 K, .int .i64 I, .int .u64 U, .string ⟨S.toArray⟩], .int .i64 to, .int .i64 er]) ∧ Below w.heap.size w w'
  generalize (⟨S.toArray⟩ : ByteArray) = S at *
  clear a1 a2 a3 a4 hk hg
  have h' : ¬ (s.size : Int) < p := by omega
  go_enter Tryd.func37, Tryd.ntmps37
  go_wp2_with fail
  refine (reader_any s p _).mono ?_
  rintro e w1 ⟨rfl, rfl⟩
  go_wp2_with fail
  refine (next_go (w.heap.size + 2) (w.heap.size + 1) s p _ A1 A2 (by omega) h (by unfold maxLen; omega)).mono ?_
  rintro e w2 ⟨rfl, _, _, hw2⟩
  obtain ⟨B3, B4⟩ := box_start hw2
  have HB3 := Lib.hid B3
  clear A1 A2 hw2 B3
  go_wp2_with fail
  refine (HK.out _).mono ?_
  rintro e w3 ⟨rfl, rfl⟩
  go_wp2_with fail
  refine (gets_any _).mono ?_
  rintro e w4 ⟨rfl, hb4⟩
  go_wp2_with fail
  refine (HG.out _).mono ?_
  rintro e w5 ⟨rfl, hb5⟩
  obtain ⟨c0, c1, c2, c3⟩ := ((HB3.out.below hb4).below hb5).cells
  obtain ⟨f0, f1, f2, f3⟩ := ((HB3.out.below hb4).below hb5).free
  go_wp2_with fail
  refine bodyPost_ret (v := .tuple #[.agg #[.int .i64 K, .int .i64 I, .int .u64 U, .string S], .int .i64 to, .int .i64 er]) (by simp [results, Tryd.results37, go_sem, c0, c1, c2, c3]) rfl ⟨rfl, below4 ((B4.trans' hb4).trans' hb5)⟩

set_option maxHeartbeats 1000000 in
theorem colGet_4 (s : ByteArray) (p : Nat) (w : World) (h : p < s.size) (hs : s.size ≤ 1000000) (g : CP.Col × Nat × Nat) (hk : ∀ W, Calls Tryd.prog 50 #[.int .u8 s[p].toNat] W fun e w' => e = .returned (.tuple #[.int .i64 4, .bool true]) ∧ W = w')
    (hg : ∀ W, Calls Tryd.prog 72 #[.int .u8 s[p].toNat, .string s, .int .i64 (p + 1 : Nat)] W fun e w' => e = .returned (gotV g) ∧ Below W.heap.size W w') : Calls Tryd.prog 37 #[.string s, .int .i64 p] w fun e w' => e = .returned (gotV g) ∧ Below w.heap.size w w' := by
  obtain ⟨a1, a2, a3, a4⟩ := reader_start w s p
  have A1 := Lib.hid a1
  have A2 := Lib.hid a2
  have HK := Lib.hid hk
  have hix := ixGets4
  obtain ⟨⟨K, I, U, S⟩, to, er⟩ := g
  have HG : Hid (∀ W, Calls Tryd.prog 72 #[.int .u8 s[p].toNat, .string s, .int .i64 (p + 1 : Nat)] W fun e w' => e = .returned (.tuple #[.agg #[.int .i64 K, .int .i64 I, .int .u64 U, .string ⟨S.toArray⟩], .int .i64 to, .int .i64 er]) ∧ Below W.heap.size W w') := Lib.hid hg
  show Calls Tryd.prog 37 #[.string s, .int .i64 p] w fun e w' => e = .returned (.tuple #[.agg #[.int .i64 K, .int .i64 I, .int .u64 U, .string ⟨S.toArray⟩], .int .i64 to, .int .i64 er]) ∧ Below w.heap.size w w'
  generalize (⟨S.toArray⟩ : ByteArray) = S at *
  clear a1 a2 a3 a4 hk hg
  have h' : ¬ (s.size : Int) < p := by omega
  go_enter Tryd.func37, Tryd.ntmps37
  go_wp2_with fail
  refine (reader_any s p _).mono ?_
  rintro e w1 ⟨rfl, rfl⟩
  go_wp2_with fail
  refine (next_go (w.heap.size + 2) (w.heap.size + 1) s p _ A1 A2 (by omega) h (by unfold maxLen; omega)).mono ?_
  rintro e w2 ⟨rfl, _, _, hw2⟩
  obtain ⟨B3, B4⟩ := box_start hw2
  have HB3 := Lib.hid B3
  clear A1 A2 hw2 B3
  go_wp2_with fail
  refine (HK.out _).mono ?_
  rintro e w3 ⟨rfl, rfl⟩
  go_wp2_with fail
  refine (gets_any _).mono ?_
  rintro e w4 ⟨rfl, hb4⟩
  go_wp2_with fail
  refine (HG.out _).mono ?_
  rintro e w5 ⟨rfl, hb5⟩
  obtain ⟨c0, c1, c2, c3⟩ := ((HB3.out.below hb4).below hb5).cells
  obtain ⟨f0, f1, f2, f3⟩ := ((HB3.out.below hb4).below hb5).free
  go_wp2_with fail
  refine bodyPost_ret (v := .tuple #[.agg #[.int .i64 K, .int .i64 I, .int .u64 U, .string S], .int .i64 to, .int .i64 er]) (by simp [results, Tryd.results37, go_sem, c0, c1, c2, c3]) rfl ⟨rfl, below4 ((B4.trans' hb4).trans' hb5)⟩

theorem colGet_any (s : ByteArray) (p : Nat) (w : World) (h : p ≤ s.size) (hs : s.size ≤ 1000000) : Calls Tryd.prog 37 #[.string s, .int .i64 p] w fun e w' => e = .returned (gotV (CP.get s.data.toList p)) ∧ Below w.heap.size w w' := by
  by_cases hl : p < s.size
  · have hd := WP.drop_cons s p hl
    have hkk := fun W => kindOf_any s[p] W
    rw [CP.get_at hd]
    by_cases h16 : s[p] = 16
    · rw [if_pos h16] at hkk ⊢
      exact colGet_0 s p w hl hs _ hkk (fun W => getNull_any _ s (p + 1) W)
    rw [if_neg h16]
    simp only [if_neg h16] at hkk
    by_cases h32 : s[p] = 32 ∨ s[p] = 33
    · rw [if_pos h32]
      simp only [if_pos h32] at hkk
      exact colGet_1 s p w hl hs _ hkk (fun W => getBool_any _ s (p + 1) W h32)
    rw [if_neg h32]
    simp only [if_neg h32] at hkk
    by_cases h48 : s[p] = 48
    · rw [if_pos h48]
      simp only [if_pos h48] at hkk
      exact colGet_2 s p w hl hs _ hkk (fun W => getInt_any _ s (p + 1) W (by omega) (by unfold maxLen; omega))
    rw [if_neg h48]
    simp only [if_neg h48] at hkk
    by_cases h64 : s[p] = 64
    · rw [if_pos h64]
      simp only [if_pos h64] at hkk
      exact colGet_3 s p w hl hs _ hkk (fun W => getUint_any _ s (p + 1) W (by omega) (by unfold maxLen; omega))
    rw [if_neg h64]
    simp only [if_neg h64] at hkk
    by_cases h80 : s[p] = 80
    · rw [if_pos h80]
      simp only [if_pos h80] at hkk
      exact colGet_4 s p w hl hs _ hkk (fun W => getText_any _ s (p + 1) W (by omega) hs)
    rw [if_neg h80]
    simp only [if_neg h80] at hkk
    exact colGet_form s p w hl hs hkk
  · rw [CP.get_end (List.drop_eq_nil_of_le (by simp; omega))]
    exact colGet_end s p w hl h hs
end Go.Proofs.YtdcijbclafpkmaaDoor
