/-
  The walk of the law SlotOnce.
-/
import Derived.Test.YtbkjmcnichpmjaaLLaws
namespace Go.Proofs.Ytbkjmcnichpmjaa
open Go.RowKit
set_option linter.unusedVariables false
set_option linter.unusedSimpArgs false

set_option maxHeartbeats 1000000 in
set_option maxRecDepth 100000 in
theorem slotOnce_walk (S : ByteArray) (kf n : Int) (w : World) (ws : S.size ≤ maxLen) (wk : (Lit.int .i64 kf).wf = true) (wn : (Lit.int .i64 n).wf = true) :
    Calls Try.prog 5 #[.agg #[.string S, .int .i64 kf, .int .i64 n]] w fun e w' => e = .returned (.bool true) ∧ Below w.heap.size w w' := by
  unfold maxLen at ws
  obtain ⟨m, hm, hm6, hms, hmm, hfs⟩ := cut_min S 300 (by omega)
  obtain ⟨b, hF⟩ : ∃ F, S.extract 0 m = F := ⟨_, rfl⟩
  rw [hF] at hfs
  have hbs : b.size ≤ 300 := by omega
  have hb0 := below_alloc w (.cells #[.string S, .int .i64 kf, .int .i64 n] 26)
  have HUN := Lib.hid (unpack_any b kf n (w.alloc (.cells #[.string S, .int .i64 kf, .int .i64 n] 26)) wk wn (by unfold maxLen; omega))
  have HB1 : Hid (∀ V, Below (w.alloc (.cells #[.string S, .int .i64 kf, .int .i64 n] 26)).heap.size (w.alloc (.cells #[.string S, .int .i64 kf, .int .i64 n] 26)) V → V.cell? ⟨w.heap.size, 1, none⟩ = some (.int .i64 kf) ∧ V.cell? ⟨w.heap.size, 2, none⟩ = some (.int .i64 n)) := Lib.hid (fun V hb => by
    have h := (hb.block w.heap.size (by simp)).trans (heap_alloc_new w _)
    exact ⟨by rw [cell_of_row _ _ 1 _ _ _ h]; rfl, by rw [cell_of_row _ _ 2 _ _ _ h]; rfl⟩)
  clear hfs wk wn
  go_enter Try.func5, Try.ntmps5
  go_wp2_with fail
  refine HUN.out.mono ?_
  rintro e w1 ⟨hu, hb1⟩
  obtain ⟨x1, x2⟩ := HB1.out w1 hb1
  have hbw1 := hb0.trans' hb1
  rcases hu with ⟨hc, rfl⟩ | ⟨hc, hg, rfl⟩ | ⟨hc, hg, g, cap, rfl, hgs, hcap, hL⟩
  · have hc2 : kf < 0 ∨ n < 0 := by omega
    clear hc hb0 hb1 HUN HB1
    by_cases h1 : kf < 0
    · have d1 : decide (kf < 0) = true := decide_eq_true h1
      clear hc2
      go_wp2_with fail
      refine (fixed_any w1).mono ?_
      rintro e w6 ⟨rfl, hb6⟩
      go_wp2_with fail
      go_ret
      exact ⟨rfl, hbw1.trans' hb6⟩
    · have d1 : decide (kf < 0) = false := decide_eq_false h1
      have d2 : decide (n < 0) = true := decide_eq_true (by omega)
      clear hc2
      go_wp2_with fail
      refine (fixed_any w1).mono ?_
      rintro e w6 ⟨rfl, hb6⟩
      go_wp2_with fail
      go_ret
      exact ⟨rfl, hbw1.trans' hb6⟩
  · have d1 : decide (kf < 0) = false := decide_eq_false (by omega)
    have d2 : decide (n < 0) = false := decide_eq_false (by omega)
    clear hc hg hb0 hb1 HUN HB1
    go_wp2_with fail
    refine (fixed_any w1).mono ?_
    rintro e w6 ⟨rfl, hb6⟩
    go_wp2_with fail
    go_ret
    exact ⟨rfl, hbw1.trans' hb6⟩
  · obtain ⟨k, rfl⟩ := Int.eq_ofNat_of_zero_le (show 0 ≤ kf by omega)
    obtain ⟨n, rfl⟩ := Int.eq_ofNat_of_zero_le (show 0 ≤ n by omega)
    rw [Int.toNat_natCast, Int.toNat_natCast] at hg
    rw [Int.toNat_natCast] at hcap hL ⊢
    have hbl : (B b).length = b.size := b_size b
    have hk := hg.1
    have hfew := good_few hg
    rw [hbl] at hk hfew
    obtain ⟨F, hF2⟩ : ∃ F, b.extract 0 k = F := ⟨_, rfl⟩
    have hFs : F.size ≤ 300 := by rw [← hF2]; simp; omega
    have hlen := cellsB_length b n
    have HPK : Hid (Calls Try.prog 9 #[.int .i64 (b.size : Nat), .string F, .slice (some ⟨g, 0, none⟩) n cap] w1 fun e w' => e = .returned (.tuple #[.string b, .int .i64 0]) ∧ Below w1.heap.size w1 w') := Lib.hid (by
      have h := pack_any (b.size : Int) F (some ⟨g, 0, none⟩) (cellsB b n) cap w1 hL (by rw [hlen]; omega) (by omega) (fun s hs => Nat.le_trans (cellsB_size b n s hs) (by omega))
      rw [hlen] at h
      rcases unpack_end b k n (by omega) hk with ⟨_, hv⟩ | ⟨h2, _⟩ | ⟨h2, _⟩
      · rwa [← hF2, hv, hF2] at h
      · exact absurd hg h2
      · exact absurd hg h2)
    have HB1' := Lib.hid (fun V (hb : Below w1.heap.size w1 V) => HB1.out V (hb1.trans (hb.mono hb1.size)))
    have q1 : min (k : Int) (b.size : Int) = k := by omega
    have j1 : (0 : Int) ≤ (k : Int) := by omega
    have j2 : (k : Int) ≤ (b.size : Int) := by omega
    have j3 : k ≤ b.size := hk
    have q2 : (b.toList == b.toList) = true := beq_self_eq_true _
    clear hc hg hb0 hb1 HUN HB1 hL hgs hcap hlen hbl hfew hFs
    go_wp2_with fail
    refine HPK.out.mono ?_
    rintro e w2 ⟨rfl, hb2⟩
    obtain ⟨y1, y2⟩ := HB1'.out w2 hb2
    go_wp2_with fail
    refine (fixed_any w2).mono ?_
    rintro e w6 ⟨rfl, hb6⟩
    go_wp2_with fail
    go_ret
    exact ⟨rfl, (hbw1.trans' hb2).trans' hb6⟩
end Go.Proofs.Ytbkjmcnichpmjaa
