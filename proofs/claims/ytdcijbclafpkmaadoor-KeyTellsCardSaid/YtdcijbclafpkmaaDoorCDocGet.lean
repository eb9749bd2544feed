/-
  Walk of the document's own Get of layer 3.
-/
import Derived.Test.YtdcijbclafpkmaaDoorCDoc
import Derived.Test.YtdcijbclafpkmaaDoorWRef3
namespace Go.Proofs.YtdcijbclafpkmaaDoor
open Go.RowKit
set_option linter.unusedVariables false
set_option linter.unusedSimpArgs false

theorem dget_arg (s : ByteArray) (i : Int) (w : World) (h : i < 0 ∨ (s.size : Int) < i) : Calls Tryd.prog 27 #[.string s, .int .i64 i] w fun e w' => e = .returned (gotV (CP.none_ 4)) ∧ Below w.heap.size w w' := by
  rcases h with h | h
  all_goals
    go_enter Tryd.func27, Tryd.ntmps27
    go_wp2_with fail
    refine bodyPost_ret (v := gotV (CP.none_ 4)) (by simp [results, Tryd.results27, go_sem, gotV, CP.none_]) rfl ⟨rfl, below_alloc _ _⟩

theorem dget_end (s : ByteArray) (p : Nat) (w : World) (h : p = s.size) : Calls Tryd.prog 27 #[.string s, .int .i64 p] w fun e w' => e = .returned (gotV (CP.none_ 7)) ∧ Below w.heap.size w w' := by
  subst h
  go_enter Tryd.func27, Tryd.ntmps27
  go_wp2_with fail
  refine bodyPost_ret (v := gotV (CP.none_ 7)) (by simp [results, Tryd.results27, go_sem, gotV, CP.none_]) rfl ⟨rfl, below_alloc _ _⟩

theorem dget_0 (s : ByteArray) (p : Nat) (w : World) (h : p < s.size) (hs : s.size ≤ 1000000) (hb : s[p] = 16) : Calls Tryd.prog 27 #[.string s, .int .i64 p] w fun e w' => e = .returned (gotV (⟨0, 0, 0, []⟩, p + 1, 0)) ∧ Below w.heap.size w w' := by
  have hne : ((p : Int) == s.size) = false := beq_eq_false_iff_ne.2 (by omega)
  have h' : ¬ (s.size : Int) < p := by omega
  have q1 : ((s[p].toNat : Int) == 16) = true := by rw [hb]; rfl
  clear hb
  go_enter Tryd.func27, Tryd.ntmps27
  go_wp2_with fail
  refine bodyPost_ret (v := gotV (⟨0, 0, 0, []⟩, p + 1, 0)) (by simp [results, Tryd.results27, go_sem, gotV]) rfl ⟨rfl, below_alloc _ _⟩

theorem dget_1 (s : ByteArray) (p : Nat) (w : World) (h : p < s.size) (hs : s.size ≤ 1000000) (hb : s[p] = 32 ∨ s[p] = 33) : Calls Tryd.prog 27 #[.string s, .int .i64 p] w fun e w' => e = .returned (gotV (⟨1, 0, (s[p].toNat : Int) - 32, []⟩, p + 1, 0)) ∧ Below w.heap.size w w' := by
  have hne : ((p : Int) == s.size) = false := beq_eq_false_iff_ne.2 (by omega)
  have h' : ¬ (s.size : Int) < p := by omega
  have q0 : ((s[p].toNat : Int) == 16) = false := by rcases hb with h | h <;> rw [h] <;> rfl
  have hw : IntKind.u64.wrap ((s[p].toNat : Int) - 32) = (s[p].toNat : Int) - 32 := by rcases hb with h | h <;> rw [h] <;> rfl
  rcases hb with hb | hb
  · have q1 : ((s[p].toNat : Int) == 32) = true := by rw [hb]; rfl
    have hz : (32 : Int) ≤ s[p].toNat ∧ (s[p].toNat : Int) ≤ 33 := by rw [hb]; decide
    clear hb
    go_enter Tryd.func27, Tryd.ntmps27
    go_wp2_with fail
    refine bodyPost_ret (v := gotV (⟨1, 0, (s[p].toNat : Int) - 32, []⟩, p + 1, 0)) (by simp [results, Tryd.results27, go_sem, gotV]) rfl ⟨rfl, below_alloc _ _⟩
  · have q1 : ((s[p].toNat : Int) == 32) = false := by rw [hb]; rfl
    have q2 : ((s[p].toNat : Int) == 33) = true := by rw [hb]; rfl
    have hz : (32 : Int) ≤ s[p].toNat ∧ (s[p].toNat : Int) ≤ 33 := by rw [hb]; decide
    clear hb
    go_enter Tryd.func27, Tryd.ntmps27
    go_wp2_with fail
    refine bodyPost_ret (v := gotV (⟨1, 0, (s[p].toNat : Int) - 32, []⟩, p + 1, 0)) (by simp [results, Tryd.results27, go_sem, gotV]) rfl ⟨rfl, below_alloc _ _⟩

set_option maxHeartbeats 1000000 in
theorem dget_2 (s : ByteArray) (p : Nat) (w : World) (h : p < s.size) (hs : s.size ≤ 1000000) (hb : s[p] = 48) : Calls Tryd.prog 27 #[.string s, .int .i64 p] w fun e w' => e = .returned (gotV (CP.getI (s.data.toList.drop (p + 1)) (p + 1))) ∧ Below w.heap.size w w' := by
  have hne : ((p : Int) == s.size) = false := beq_eq_false_iff_ne.2 (by omega)
  have h' : ¬ (s.size : Int) < p := by omega
  have q0 : ((s[p].toNat : Int) == 16) = false := by rw [hb]; rfl
  have q1 : ((s[p].toNat : Int) == 32) = false := by rw [hb]; rfl
  have q2 : ((s[p].toNat : Int) == 33) = false := by rw [hb]; rfl
  have q3 : ((s[p].toNat : Int) == 48) = true := by rw [hb]; rfl
  clear hb
  by_cases h9 : s.size < p + 9
  · rw [show CP.getI (s.data.toList.drop (p + 1)) (p + 1) = CP.none_ 7 by unfold CP.getI; rw [if_pos (by simp; omega)]]
    go_enter Tryd.func27, Tryd.ntmps27
    go_wp2_with fail
    refine bodyPost_ret (v := gotV (CP.none_ 7)) (by simp [results, Tryd.results27, go_sem, gotV, CP.none_]) rfl ⟨rfl, below_alloc _ _⟩
  · obtain ⟨r, HR⟩ : ∃ r, Hid (r = gotV (CP.getI (s.data.toList.drop (p + 1)) (p + 1))) := ⟨_, Lib.hid rfl⟩
    rw [← HR.out]
    go_enter Tryd.func27, Tryd.ntmps27
    go_wp2_with fail
    go_loop [7, 8] (fun nv iv => ∃ k : Nat, k ≤ 8 ∧ iv = .int .i64 (k + 1 : Nat) ∧ nv = .int .u64 (Lib.beNat ((s.data.toList.drop (p + 1)).take k) : Nat)) (fun _ iv => 9 - (intOf iv).toNat)
    case atStart => exact ⟨0, by omega, rfl, rfl⟩
    case round =>
      obtain ⟨k, hk, rfl, rfl⟩ := hrel
      by_cases hlt : k < 8
      · have hlt0 := WP.beNat_lt ((s.data.toList.drop (p + 1)).take k)
        have hl : ((s.data.toList.drop (p + 1)).take k).length = k := by simp; omega
        rw [hl] at hlt0
        have hpw := WP.pow256 k (by omega)
        have hix : p + (k + 1) < s.size := by omega
        have HB : Hid (Lib.beNat ((s.data.toList.drop (p + 1)).take (k + 1)) = Lib.beNat ((s.data.toList.drop (p + 1)).take k) * 256 + (s[p + (k + 1)]'hix).toNat) := Lib.hid (by
          have h1 := WP.drop_take_snoc s (p + 1) k (by omega)
          simp only [show p + 1 + k = p + (k + 1) by omega] at h1
          rw [h1, WP.beNat_snoc])
        have hby := (s[p + (k + 1)]'hix).toNat_lt
        clear hl
        generalize Lib.beNat ((s.data.toList.drop (p + 1)).take k) = v at *
        go_wp2_with fail
        go_round
        case rel =>
          refine ⟨k + 1, by omega, by go_num, ?_⟩
          rw [HB.out]
          go_num
        case measure => simp [intOf]; omega
      · obtain rfl : k = 8 := by omega
        obtain ⟨hn8, _⟩ := CP.beNat8 (s.data.toList.drop (p + 1)) (by simp; omega)
        have HV : Hid (r = gotV (⟨2, (Lib.beNat ((s.data.toList.drop (p + 1)).take 8) : Int) - 9223372036854775808, 0, []⟩, p + 1 + 8, 0)) := Lib.hid (by rw [HR.out]; unfold CP.getI; rw [if_neg (by simp; omega)])
        generalize Lib.beNat ((s.data.toList.drop (p + 1)).take 8) = v at *
        have hw : IntKind.i64.wrap (IntKind.u64.wrap ((v : Int) - 9223372036854775808)) = (v : Int) - 9223372036854775808 := by
          unfold IntKind.wrap
          simp [IntKind.bits, IntKind.signed]
          omega
        go_wp2_with fail
        refine bodyPost_ret (v := gotV (⟨2, (v : Int) - 9223372036854775808, 0, []⟩, p + 1 + 8, 0)) (by simp [results, Tryd.results27, go_sem, gotV]; try omega) rfl ⟨by rw [HV.out], below_alloc _ _⟩

set_option maxHeartbeats 1000000 in
theorem dget_3 (s : ByteArray) (p : Nat) (w : World) (h : p < s.size) (hs : s.size ≤ 1000000) (hb : s[p] = 64) : Calls Tryd.prog 27 #[.string s, .int .i64 p] w fun e w' => e = .returned (gotV (CP.getU s.data.toList (p + 1))) ∧ Below w.heap.size w w' := by
  have hne : ((p : Int) == s.size) = false := beq_eq_false_iff_ne.2 (by omega)
  have h' : ¬ (s.size : Int) < p := by omega
  have q0 : ((s[p].toNat : Int) == 16) = false := by rw [hb]; rfl
  have q1 : ((s[p].toNat : Int) == 32) = false := by rw [hb]; rfl
  have q2 : ((s[p].toNat : Int) == 33) = false := by rw [hb]; rfl
  have q3 : ((s[p].toNat : Int) == 48) = false := by rw [hb]; rfl
  have q4 : ((s[p].toNat : Int) == 64) = true := by rw [hb]; rfl
  clear hb
  have HG : Hid (∀ W, Calls Tryd.prog 38 #[.string s, .int .i64 ((p : Int) + 1)] W fun e w' => e = .returned (.tuple #[.int .u64 (WP.get s.data.toList (p + 1)).1, .int .i64 (WP.get s.data.toList (p + 1)).2.1, .int .i64 (WP.get s.data.toList (p + 1)).2.2]) ∧ Below W.heap.size W w') := Lib.hid (fun W => by
    have h := rget_any s ((p : Int) + 1) W (by omega) (by omega) hs
    rwa [show ((p : Int) + 1).toNat = p + 1 by omega] at h)
  have HB0 := Lib.hid (RBox.new 0 0 0 ⟨#[]⟩ w)
  have HW := Lib.hid (below_alloc w (.cells #[.int .i64 0, .int .i64 0, .int .u64 0, .string ⟨#[]⟩] 55))
  unfold CP.getU
  rcases WP.get_spec s.data.toList (p + 1) with h | h | ⟨n, to, h, _⟩
  · rw [h] at HG ⊢
    clear h
    go_enter Tryd.func27, Tryd.ntmps27
    go_wp2_with fail
    refine (HG.out _).mono ?_
    rintro e w1 ⟨rfl, hb1⟩
    obtain ⟨c0, c1, c2, c3⟩ := (HB0.out.below hb1).cells
    obtain ⟨f0, f1, f2, f3⟩ := (HB0.out.below hb1).free
    go_wp2_with fail
    refine bodyPost_ret (v := gotV (CP.none_ 7)) (by simp [results, Tryd.results27, go_sem, gotV, CP.none_, c0, c1, c2, c3]) rfl ⟨rfl, below4 (HW.out.trans' hb1)⟩
  · rw [h] at HG ⊢
    clear h
    go_enter Tryd.func27, Tryd.ntmps27
    go_wp2_with fail
    refine (HG.out _).mono ?_
    rintro e w1 ⟨rfl, hb1⟩
    obtain ⟨c0, c1, c2, c3⟩ := (HB0.out.below hb1).cells
    obtain ⟨f0, f1, f2, f3⟩ := (HB0.out.below hb1).free
    go_wp2_with fail
    refine bodyPost_ret (v := gotV (CP.none_ 3)) (by simp [results, Tryd.results27, go_sem, gotV, CP.none_, c0, c1, c2, c3]) rfl ⟨rfl, below4 (HW.out.trans' hb1)⟩
  · rw [h] at HG ⊢
    clear h
    go_enter Tryd.func27, Tryd.ntmps27
    go_wp2_with fail
    refine (HG.out _).mono ?_
    rintro e w1 ⟨rfl, hb1⟩
    obtain ⟨c0, c1, c2, c3⟩ := (HB0.out.below hb1).cells
    obtain ⟨f0, f1, f2, f3⟩ := (HB0.out.below hb1).free
    go_wp2_with fail
    refine bodyPost_ret (v := gotV (⟨3, 0, (n : Int), []⟩, to, 0)) (by simp [results, Tryd.results27, go_sem, gotV, CP.none_, c0, c1, c2, c3]) rfl ⟨rfl, below4 (HW.out.trans' hb1)⟩

set_option maxHeartbeats 1000000 in
theorem dget_4 (s : ByteArray) (p : Nat) (w : World) (h : p < s.size) (hs : s.size ≤ 1000000) (hb : s[p] = 80) : Calls Tryd.prog 27 #[.string s, .int .i64 p] w fun e w' => e = .returned (gotV (CP.getT (s.data.toList.drop (p + 1)) (p + 1))) ∧ Below w.heap.size w w' := by
  have hne : ((p : Int) == s.size) = false := beq_eq_false_iff_ne.2 (by omega)
  have h' : ¬ (s.size : Int) < p := by omega
  have q0 : ((s[p].toNat : Int) == 16) = false := by rw [hb]; rfl
  have q1 : ((s[p].toNat : Int) == 32) = false := by rw [hb]; rfl
  have q2 : ((s[p].toNat : Int) == 33) = false := by rw [hb]; rfl
  have q3 : ((s[p].toNat : Int) == 48) = false := by rw [hb]; rfl
  have q4 : ((s[p].toNat : Int) == 64) = false := by rw [hb]; rfl
  have q5 : ((s[p].toNat : Int) == 80) = true := by rw [hb]; rfl
  clear hb
  have HG : Hid (∀ W, Calls Tryd.prog 39 #[.string s, .int .i64 ((p : Int) + 1)] W fun e w' => e = .returned (txtV (CP.text (s.data.toList.drop (p + 1))) (p + 1)) ∧ Below W.heap.size W w') := Lib.hid (fun W => rtext_any s (p + 1) W (by omega) hs)
  have HB0 := Lib.hid (RBox.new 0 0 0 ⟨#[]⟩ w)
  have HW := Lib.hid (below_alloc w (.cells #[.int .i64 0, .int .i64 0, .int .u64 0, .string ⟨#[]⟩] 55))
  rcases CP.text_spec (s.data.toList.drop (p + 1)) with h | h | ⟨t, n, h, _⟩
  · rw [getT_err _ _ _ h (by omega)]
    rw [h, txtV_err _ _ (by omega)] at HG
    clear h
    go_enter Tryd.func27, Tryd.ntmps27
    go_wp2_with fail
    refine (HG.out _).mono ?_
    rintro e w1 ⟨rfl, hb1⟩
    obtain ⟨c0, c1, c2, c3⟩ := (HB0.out.below hb1).cells
    obtain ⟨f0, f1, f2, f3⟩ := (HB0.out.below hb1).free
    go_wp2_with fail
    refine bodyPost_ret (v := gotV (CP.none_ 7)) (by simp [results, Tryd.results27, go_sem, gotV, CP.none_, c0, c1, c2, c3]) rfl ⟨rfl, below4 (HW.out.trans' hb1)⟩
  · rw [getT_err _ _ _ h (by omega)]
    rw [h, txtV_err _ _ (by omega)] at HG
    clear h
    go_enter Tryd.func27, Tryd.ntmps27
    go_wp2_with fail
    refine (HG.out _).mono ?_
    rintro e w1 ⟨rfl, hb1⟩
    obtain ⟨c0, c1, c2, c3⟩ := (HB0.out.below hb1).cells
    obtain ⟨f0, f1, f2, f3⟩ := (HB0.out.below hb1).free
    go_wp2_with fail
    refine bodyPost_ret (v := gotV (CP.none_ 3)) (by simp [results, Tryd.results27, go_sem, gotV, CP.none_, c0, c1, c2, c3]) rfl ⟨rfl, below4 (HW.out.trans' hb1)⟩
  · rw [getT_ok _ _ _ _ h]
    rw [h, txtV_ok] at HG
    clear h
    generalize hto : p + 1 + n = to at *
    go_enter Tryd.func27, Tryd.ntmps27
    go_wp2_with fail
    refine (HG.out _).mono ?_
    rintro e w1 ⟨rfl, hb1⟩
    obtain ⟨c0, c1, c2, c3⟩ := (HB0.out.below hb1).cells
    obtain ⟨f0, f1, f2, f3⟩ := (HB0.out.below hb1).free
    clear hto
    go_wp2_with fail
    refine bodyPost_ret (v := gotV (⟨4, 0, 0, t⟩, to, 0)) (by simp [results, Tryd.results27, go_sem, gotV, CP.none_, c0, c1, c2, c3]) rfl ⟨rfl, below4 (HW.out.trans' hb1)⟩

theorem dget_form (s : ByteArray) (p : Nat) (w : World) (h : p < s.size) (hs : s.size ≤ 1000000) (h16 : s[p] ≠ 16) (h32 : ¬ (s[p] = 32 ∨ s[p] = 33)) (h48 : s[p] ≠ 48) (h64 : s[p] ≠ 64) (h80 : s[p] ≠ 80) : Calls Tryd.prog 27 #[.string s, .int .i64 p] w fun e w' => e = .returned (gotV (CP.none_ 3)) ∧ Below w.heap.size w w' := by
  have hne : ((p : Int) == s.size) = false := beq_eq_false_iff_ne.2 (by omega)
  have h' : ¬ (s.size : Int) < p := by omega
  have hq : ∀ (n : Nat) (c : UInt8), c.toNat = n → s[p] ≠ c → ((s[p].toNat : Int) == n) = false := fun n c hc hn => beq_eq_false_iff_ne.2 (fun e => hn (UInt8.toNat_inj.1 (by omega)))
  have q0 : ((s[p].toNat : Int) == 16) = false := hq 16 16 rfl h16
  have q1 : ((s[p].toNat : Int) == 32) = false := hq 32 32 rfl (fun e => h32 (.inl e))
  have q2 : ((s[p].toNat : Int) == 33) = false := hq 33 33 rfl (fun e => h32 (.inr e))
  have q3 : ((s[p].toNat : Int) == 48) = false := hq 48 48 rfl h48
  have q4 : ((s[p].toNat : Int) == 64) = false := hq 64 64 rfl h64
  have q5 : ((s[p].toNat : Int) == 80) = false := hq 80 80 rfl h80
  clear hq h16 h32 h48 h64 h80
  go_enter Tryd.func27, Tryd.ntmps27
  go_wp2_with fail
  refine bodyPost_ret (v := gotV (CP.none_ 3)) (by simp [results, Tryd.results27, go_sem, gotV, CP.none_]) rfl ⟨rfl, below_alloc _ _⟩

theorem dget_any (s : ByteArray) (p : Nat) (w : World) (h : p ≤ s.size) (hs : s.size ≤ 1000000) : Calls Tryd.prog 27 #[.string s, .int .i64 p] w fun e w' => e = .returned (gotV (CP.get s.data.toList p)) ∧ Below w.heap.size w w' := by
  by_cases hl : p < s.size
  · have hd := WP.drop_cons s p hl
    rw [CP.get_at hd]
    by_cases h16 : s[p] = 16
    · rw [if_pos h16]; exact dget_0 s p w hl hs h16
    rw [if_neg h16]
    by_cases h32 : s[p] = 32 ∨ s[p] = 33
    · rw [if_pos h32]; exact dget_1 s p w hl hs h32
    rw [if_neg h32]
    by_cases h48 : s[p] = 48
    · rw [if_pos h48]; exact dget_2 s p w hl hs h48
    rw [if_neg h48]
    by_cases h64 : s[p] = 64
    · rw [if_pos h64]; exact dget_3 s p w hl hs h64
    rw [if_neg h64]
    by_cases h80 : s[p] = 80
    · rw [if_pos h80]; exact dget_4 s p w hl hs h80
    rw [if_neg h80]
    exact dget_form s p w hl hs h16 h32 h48 h64 h80
  · rw [CP.get_end (List.drop_eq_nil_of_le (by simp; omega))]
    exact dget_end s p w (by omega)
end Go.Proofs.YtdcijbclafpkmaaDoor
