/-
  Walks of col.getNull, col.getBool, col.getInt, col.getUint.
-/
import Derived.Test.YtdcijbclafpkmaaDoorCNext
import Derived.Test.YtdcijbclafpkmaaDoorCText
namespace Go.Proofs.YtdcijbclafpkmaaDoor
open Go.RowKit
set_option linter.unusedVariables false
set_option linter.unusedSimpArgs false

/-- What Get answers. -/
def gotV (g : CP.Col × Nat × Nat) : Value := .tuple #[.agg #[.int .i64 g.1.k, .int .i64 g.1.i, .int .u64 g.1.u, .string ⟨g.1.s.toArray⟩], .int .i64 g.2.1, .int .i64 g.2.2]

theorem below4 {w W : World} {a b c d : Value} (h : Below w.heap.size w W) : Below w.heap.size w ((((W.setCell ⟨w.heap.size, 0, none⟩ a).setCell ⟨w.heap.size, 1, none⟩ b).setCell ⟨w.heap.size, 2, none⟩ c).setCell ⟨w.heap.size, 3, none⟩ d) :=
  (((h.setCell (Nat.le_refl _) a).setCell (Nat.le_refl _) b).setCell (Nat.le_refl _) c).setCell (Nat.le_refl _) d

theorem reader_start (w : World) (s : ByteArray) (p : Nat) :
    OneAt (w.heap.size + 2) (.int .i64 p) 3 (((w.alloc (.cells #[.int .i64 0, .int .i64 0, .int .u64 0, .string ⟨#[]⟩] 51)).alloc (.cells #[.string s] 9)).alloc (.cells #[.int .i64 p] 3)) ∧
    OneAt (w.heap.size + 1) (.string s) 9 (((w.alloc (.cells #[.int .i64 0, .int .i64 0, .int .u64 0, .string ⟨#[]⟩] 51)).alloc (.cells #[.string s] 9)).alloc (.cells #[.int .i64 p] 3)) ∧
    Box w.heap.size 0 0 0 ⟨#[]⟩ (((w.alloc (.cells #[.int .i64 0, .int .i64 0, .int .u64 0, .string ⟨#[]⟩] 51)).alloc (.cells #[.string s] 9)).alloc (.cells #[.int .i64 p] 3)) ∧
    Below w.heap.size w (((w.alloc (.cells #[.int .i64 0, .int .i64 0, .int .u64 0, .string ⟨#[]⟩] 51)).alloc (.cells #[.string s] 9)).alloc (.cells #[.int .i64 p] 3)) := by
  refine ⟨?_, ?_, ?_, ?_⟩
  · have h := heap_alloc_new ((w.alloc (.cells #[.int .i64 0, .int .i64 0, .int .u64 0, .string ⟨#[]⟩] 51)).alloc (.cells #[.string s] 9)) (.cells #[.int .i64 p] 3)
    have e : ((w.alloc (.cells #[.int .i64 0, .int .i64 0, .int .u64 0, .string ⟨#[]⟩] 51)).alloc (.cells #[.string s] 9)).heap.size = w.heap.size + 2 := by simp
    rw [e] at h
    exact h
  · unfold OneAt
    rw [heap_alloc_old _ _ (by simp)]
    have h := heap_alloc_new (w.alloc (.cells #[.int .i64 0, .int .i64 0, .int .u64 0, .string ⟨#[]⟩] 51)) (.cells #[.string s] 9)
    have e : (w.alloc (.cells #[.int .i64 0, .int .i64 0, .int .u64 0, .string ⟨#[]⟩] 51)).heap.size = w.heap.size + 1 := by simp
    rw [e] at h
    exact h
  · exact ((Box.new 0 0 0 ⟨#[]⟩ w).below (below_alloc _ _)).below (below_alloc _ _)
  · exact ((below_alloc _ _).trans' (below_alloc _ _)).trans' (below_alloc _ _)

theorem getNull_any (b : Int) (s : ByteArray) (p : Nat) (w : World) : Calls Tryd.prog 68 #[.int .u8 b, .string s, .int .i64 p] w fun e w' => e = .returned (gotV (⟨0, 0, 0, []⟩, p, 0)) ∧ Below w.heap.size w w' := by
  go_enter Tryd.func68, Tryd.ntmps68
  go_wp2
  refine bodyPost_ret (v := gotV (⟨0, 0, 0, []⟩, p, 0)) (by simp [results, Tryd.results68, go_sem, gotV]) rfl ⟨rfl, below_alloc _ _⟩

theorem getBool_any (b : UInt8) (s : ByteArray) (p : Nat) (w : World) (hb : b = 32 ∨ b = 33) : Calls Tryd.prog 69 #[.int .u8 b.toNat, .string s, .int .i64 p] w fun e w' => e = .returned (gotV (⟨1, 0, (b.toNat : Int) - 32, []⟩, p, 0)) ∧ Below w.heap.size w w' := by
  rcases hb with rfl | rfl
  all_goals
    go_enter Tryd.func69, Tryd.ntmps69
    go_wp2
    refine bodyPost_ret (v := gotV (_, p, 0)) (by simp [results, Tryd.results69, go_sem, gotV]) rfl ⟨rfl, below_alloc _ _⟩

theorem getUint_any (b : Int) (s : ByteArray) (p : Nat) (w : World) (hp : p ≤ s.size) (hs : s.size ≤ maxLen) : Calls Tryd.prog 71 #[.int .u8 b, .string s, .int .i64 p] w fun e w' => e = .returned (gotV (CP.getU s.data.toList p)) ∧ Below w.heap.size w w' := by
  have HG : Hid (∀ W, Calls Tryd.prog 81 #[.string s, .int .i64 p] W fun e w' => e = .returned (.tuple #[.int .u64 (WP.get s.data.toList p).1, .int .i64 (WP.get s.data.toList p).2.1, .int .i64 (WP.get s.data.toList p).2.2]) ∧ Below W.heap.size W w') := Lib.hid (fun W => by
    have h := get_any s p W (by omega) (by omega) hs
    rwa [Int.toNat_natCast] at h)
  have HB0 := Lib.hid (Box.new 0 0 0 ⟨#[]⟩ w)
  have HW := Lib.hid (below_alloc w (.cells #[.int .i64 0, .int .i64 0, .int .u64 0, .string ⟨#[]⟩] 51))
  unfold CP.getU
  rcases WP.get_spec s.data.toList p with h | h | ⟨n, to, h, _⟩
  · rw [h] at HG ⊢
    clear h
    go_enter Tryd.func71, Tryd.ntmps71
    go_wp2_with fail
    refine (HG.out _).mono ?_
    rintro e w1 ⟨rfl, hb1⟩
    obtain ⟨c0, c1, c2, c3⟩ := (HB0.out.below hb1).cells
    obtain ⟨f0, f1, f2, f3⟩ := (HB0.out.below hb1).free
    go_wp2_with fail
    refine bodyPost_ret (v := gotV (CP.none_ 7)) (by simp [results, Tryd.results71, go_sem, gotV, CP.none_, c0, c1, c2, c3]) rfl ⟨rfl, ?_⟩
    exact below4 (HW.out.trans' hb1)
  · rw [h] at HG ⊢
    clear h
    go_enter Tryd.func71, Tryd.ntmps71
    go_wp2_with fail
    refine (HG.out _).mono ?_
    rintro e w1 ⟨rfl, hb1⟩
    obtain ⟨c0, c1, c2, c3⟩ := (HB0.out.below hb1).cells
    obtain ⟨f0, f1, f2, f3⟩ := (HB0.out.below hb1).free
    go_wp2_with fail
    refine bodyPost_ret (v := gotV (CP.none_ 3)) (by simp [results, Tryd.results71, go_sem, gotV, CP.none_, c0, c1, c2, c3]) rfl ⟨rfl, ?_⟩
    exact below4 (HW.out.trans' hb1)
  · rw [h] at HG ⊢
    clear h
    go_enter Tryd.func71, Tryd.ntmps71
    go_wp2_with fail
    refine (HG.out _).mono ?_
    rintro e w1 ⟨rfl, hb1⟩
    obtain ⟨c0, c1, c2, c3⟩ := (HB0.out.below hb1).cells
    obtain ⟨f0, f1, f2, f3⟩ := (HB0.out.below hb1).free
    go_wp2_with fail
    refine bodyPost_ret (v := gotV (⟨3, 0, (n : Int), []⟩, to, 0)) (by simp [results, Tryd.results71, go_sem, gotV, CP.none_, c0, c1, c2, c3]) rfl ⟨rfl, ?_⟩
    exact below4 (HW.out.trans' hb1)

theorem Box.wrote {g p : Nat} {K I U : Int} {S : ByteArray} {w w' : World} (h : Box g K I U S w) (hw : Wrote p w w') (hne : g ≠ p) : Box g K I U S w' := by
  unfold Box at *
  rw [hw.block g (by rcases Nat.lt_or_ge g w.heap.size with e | e; exact e; rw [Array.getElem?_eq_none e] at h; cases h) (fun e => hne (by cases e; rfl))]
  exact h

set_option maxHeartbeats 1000000 in
theorem getInt_any (b : Int) (s : ByteArray) (p : Nat) (w : World) (hp : p ≤ s.size) (hs : s.size ≤ maxLen) : Calls Tryd.prog 70 #[.int .u8 b, .string s, .int .i64 p] w fun e w' => e = .returned (gotV (CP.getI (s.data.toList.drop p) p)) ∧ Below w.heap.size w w' := by
  have hs2 : s.size ≤ 9223372036854775807 := by unfold maxLen at hs; omega
  obtain ⟨r, HR⟩ : ∃ r, Hid (r = gotV (CP.getI (s.data.toList.drop p) p)) := ⟨_, Lib.hid rfl⟩
  rw [← HR.out]
  go_enter Tryd.func70, Tryd.ntmps70
  go_wp2_with fail
  refine (reader_any s p _).mono ?_
  rintro e w1 ⟨rfl, rfl⟩
  go_wp2_with fail
  go_loopw [10, 11, 19] (fun n x i wr => ∃ k : Nat, k ≤ 8 ∧ p + k ≤ s.size ∧ i = .int .i64 k ∧ n = .int .u64 (Lib.beNat ((s.data.toList.drop p).take k) : Nat) ∧ x = .int .i64 (p + k : Nat) ∧ Hid (OneAt (w.heap.size + 2) (.int .i64 (p + k : Nat)) 3 wr) ∧ Hid (OneAt (w.heap.size + 1) (.string s) 9 wr) ∧ Hid (Box w.heap.size 0 0 0 ⟨#[]⟩ wr) ∧ Below w.heap.size w wr) (fun _ _ i _ => 8 - (intOf i).toNat)
  case atStart =>
    obtain ⟨a1, a2, a3, a4⟩ := reader_start w s p
    exact ⟨0, by omega, by omega, rfl, rfl, rfl, Lib.hid a1, Lib.hid a2, Lib.hid a3, a4⟩
  case round =>
    obtain ⟨k, hk, hpk, rfl, rfl, rfl, h1, h2, h3, hb⟩ := hrel
    have hbs := hb.size
    by_cases hlt : k < 8
    · by_cases he : p + k < s.size
      · have hlt0 := WP.beNat_lt ((s.data.toList.drop p).take k)
        have hl : ((s.data.toList.drop p).take k).length = k := by simp; omega
        rw [hl] at hlt0
        have hpw := WP.pow256 k (by omega)
        have HB := Lib.hid (WP.beNat_snoc ((s.data.toList.drop p).take k) s[p + k])
        rw [← WP.drop_take_snoc s p k he] at HB
        have hby := s[p + k].toNat_lt
        have HO := Lib.hid (WP.or_hi (Lib.beNat ((s.data.toList.drop p).take k) : Nat) s[p + k].toNat (by omega) (by omega) (by omega) (by omega))
        clear hl
        generalize Lib.beNat ((s.data.toList.drop p).take k) = v at *
        go_wp2_with fail
        refine (next_go (w.heap.size + 2) (w.heap.size + 1) s (p + k) wr h1 h2 (by omega) he hs).mono ?_
        rintro e w2 ⟨rfl, g1, g2, hw2⟩
        have g3 := Lib.hid (h3.out.wrote hw2 (by omega))
        have hb2 : Below w.heap.size w w2 := hb.trans (hw2.below (by omega) hbs)
        clear h1 h2 h3 hb hw2
        go_wp2_with fail
        go_roundw
        case rel =>
          refine ⟨k + 1, by omega, by omega, by go_num, ?_, by go_num, g1, g2, g3, hb2⟩
          rw [HB.out, HO.out]
          go_num
        case measure => simp [intOf]; omega
      · have HV : Hid (r = gotV (CP.none_ 7)) := Lib.hid (by rw [HR.out]; unfold CP.getI; rw [if_pos (by simp; omega)])
        go_wp2_with fail
        refine (next_end (w.heap.size + 2) (w.heap.size + 1) s _ wr h1 h2 (by omega)).mono ?_
        rintro e w2 ⟨rfl, rfl⟩
        obtain ⟨c0, c1, c2, c3⟩ := h3.out.cells
        obtain ⟨f0, f1, f2, f3⟩ := h3.out.free
        go_wp2_with fail
        refine bodyPost_ret (v := gotV (CP.none_ 7)) (by simp [results, Tryd.results70, go_sem, gotV, CP.none_, c0, c1, c2, c3]) rfl ⟨by rw [HV.out], below4 hb⟩
    · obtain rfl : k = 8 := by omega
      obtain ⟨hn8, _⟩ := CP.beNat8 (s.data.toList.drop p) (by simp; omega)
      have HV : Hid (r = gotV (⟨2, (Lib.beNat ((s.data.toList.drop p).take 8) : Int) - 9223372036854775808, 0, []⟩, p + 8, 0)) := Lib.hid (by rw [HR.out]; unfold CP.getI; rw [if_neg (by simp; omega)])
      obtain ⟨c0, c1, c2, c3⟩ := h3.out.cells
      obtain ⟨f0, f1, f2, f3⟩ := h3.out.free
      generalize Lib.beNat ((s.data.toList.drop p).take 8) = v at *
      have hw : IntKind.i64.wrap (IntKind.u64.wrap ((v : Int) - 9223372036854775808)) = (v : Int) - 9223372036854775808 := by
        unfold IntKind.wrap
        simp [IntKind.bits, IntKind.signed]
        omega
      go_wp2_with fail
      refine bodyPost_ret (v := gotV (⟨2, (v : Int) - 9223372036854775808, 0, []⟩, p + 8, 0)) (by simp [results, Tryd.results70, go_sem, gotV, c0, c1, c2, c3]) rfl ⟨by rw [HV.out], below4 hb⟩
end Go.Proofs.YtdcijbclafpkmaaDoor
