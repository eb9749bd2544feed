/-
  The fixed calls of the statements of layer 8.
-/
import Derived.Test.YtbkjmcnichpmjaaPUnpack
import Derived.Test.YtbkjmcnichpmjaaLWords
namespace Go.Proofs.Ytbkjmcnichpmjaa
open Go.RowKit
set_option linter.unusedVariables false
set_option linter.unusedSimpArgs false

theorem wf64 (n : Nat) (h : n ≤ 1000000) : (Lit.int .i64 (n : Int)).wf = true := by
  simp [Lit.wf, IntKind.min, IntKind.max, IntKind.signed, IntKind.bits]
  omega
theorem unp_ok (b : ByteArray) (k n : Nat) (w : World) (hb : b.size ≤ 65535) (hk : k ≤ 1000000) (hn : n ≤ 1000000) (hg : LP.good (B b) k n) :
    Calls Try.prog 11 #[.string b, .int .i64 k, .int .i64 n] w fun e w' => ∃ g cap, e = .returned (.tuple #[.slice (some ⟨g, 0, none⟩) n cap, .int .i64 0]) ∧ w.heap.size ≤ g ∧ n ≤ cap ∧ Lies w' w'.heap.size (some ⟨g, 0, none⟩) (cellsB b n) ∧ Below w.heap.size w w' := by
  refine (unpack_any b k n w (wf64 k hk) (wf64 n hn) (by unfold maxLen; omega)).mono ?_
  rintro e w' ⟨h, hbl⟩
  rcases h with ⟨h1, _⟩ | ⟨_, h2, _⟩ | ⟨_, _, g, cap, rfl, h3, h4, h5⟩
  · omega
  · exact absurd hg (by simpa using h2)
  · simp only [Int.toNat_natCast] at h4 h5 ⊢
    exact ⟨g, cap, rfl, h3, h4, h5, hbl⟩
theorem unp_bad (b : ByteArray) (k n : Nat) (w : World) (hb : b.size ≤ 65535) (hk : k ≤ 1000000) (hn : n ≤ 1000000) (hg : ¬ LP.good (B b) k n) :
    Calls Try.prog 11 #[.string b, .int .i64 k, .int .i64 n] w fun e w' => e = .returned (.tuple #[.slice none 0 0, .int .i64 3]) ∧ Below w.heap.size w w' := by
  refine (unpack_any b k n w (wf64 k hk) (wf64 n hn) (by unfold maxLen; omega)).mono ?_
  rintro e w' ⟨h, hbl⟩
  rcases h with ⟨h1, _⟩ | ⟨_, _, rfl⟩ | ⟨_, h2, _⟩
  · omega
  · exact ⟨rfl, hbl⟩
  · exact absurd (by simpa using h2) hg
theorem unp_arg (b : ByteArray) (k n : Int) (w : World) (hb : b.size ≤ 65535) (hk : (Lit.int .i64 k).wf = true) (hn : (Lit.int .i64 n).wf = true) (hg : k < 0 ∨ n < 0) :
    Calls Try.prog 11 #[.string b, .int .i64 k, .int .i64 n] w fun e w' => e = .returned (.tuple #[.slice none 0 0, .int .i64 4]) ∧ Below w.heap.size w w' := by
  refine (unpack_any b k n w hk hn (by unfold maxLen; omega)).mono ?_
  rintro e w' ⟨h, hbl⟩
  rcases h with ⟨_, rfl⟩ | ⟨h1, _⟩ | ⟨h1, _⟩
  · exact ⟨rfl, hbl⟩
  · exact absurd (by omega) h1
  · exact absurd (by omega) h1

theorem fk1 : packV 12 ⟨#[97]⟩ [⟨#[98, 99]⟩, ⟨#[100]⟩] = .tuple #[.string ⟨#[97, 98, 99, 100, 0, 0, 4, 0, 3, 0, 1, 0]⟩, .int .i64 0] := by kernel_rfl
theorem fk2 : packV 9 ⟨#[97]⟩ [⟨#[98, 99]⟩, ⟨#[100]⟩] = .tuple #[.string ⟨#[]⟩, .int .i64 8] := by kernel_rfl
theorem fk3 : packV (-1) ⟨#[]⟩ [] = .tuple #[.string ⟨#[]⟩, .int .i64 4] := by kernel_rfl
theorem fk4 : packV 65536 ⟨#[]⟩ [] = .tuple #[.string ⟨#[]⟩, .int .i64 4] := by kernel_rfl
theorem fk5 : LP.good (B ⟨#[97, 98, 99, 100, 0, 0, 4, 0, 3, 0, 1, 0]⟩) 1 2 := of_decide_eq_true (by kernel_rfl)
theorem fk5c : cellsB ⟨#[97, 98, 99, 100, 0, 0, 4, 0, 3, 0, 1, 0]⟩ 2 = [⟨#[98, 99]⟩, ⟨#[100]⟩] := by kernel_rfl
theorem fk6 : ¬ LP.good (B ⟨#[97, 98, 99, 100, 0, 0, 4, 0, 3, 0, 1, 0]⟩) 0 2 := of_decide_eq_false (by kernel_rfl)
theorem fk7 : ¬ LP.good (B ⟨#[97, 98, 99, 100, 0, 0, 4, 0, 3, 0, 1, 0]⟩) 1 1 := of_decide_eq_false (by kernel_rfl)
theorem fk9 : ¬ LP.good (B ⟨#[]⟩) 0 0 := of_decide_eq_false (by kernel_rfl)
theorem fk10 : packV 2 ⟨#[]⟩ [] = .tuple #[.string ⟨#[0, 0]⟩, .int .i64 0] := by kernel_rfl
theorem fk11 : LP.need (⟨#[97]⟩ : ByteArray).size (Bs [⟨#[98, 99]⟩, ⟨#[100]⟩]) = 10 := by kernel_rfl
theorem fk12 : LP.need (⟨#[]⟩ : ByteArray).size (Bs []) = 2 := by kernel_rfl

set_option maxHeartbeats 1000000 in
set_option maxRecDepth 100000 in
theorem fixed_any (w : World) : Calls Try.prog 16 #[] w fun e w' => e = .returned (.bool true) ∧ Below w.heap.size w w' := by
  go_enter Try.func16, Try.ntmps16
  go_wp2_with fail
  refine (pack_any 12 ⟨#[97]⟩ _ [⟨#[98, 99]⟩, ⟨#[100]⟩] 2 _ (lies_new w 9 [⟨#[98, 99]⟩, ⟨#[100]⟩]) (by decide) (by decide) (by decide)).mono ?_
  rw [fk1]
  rintro e w1 ⟨rfl, hb1⟩
  have b1 := (below_alloc _ _).trans' hb1
  clear hb1
  go_wp2_with fail
  refine (pack_any 9 ⟨#[97]⟩ _ [⟨#[98, 99]⟩, ⟨#[100]⟩] 2 _ (lies_new w1 9 [⟨#[98, 99]⟩, ⟨#[100]⟩]) (by decide) (by decide) (by decide)).mono ?_
  rw [fk2]
  rintro e w2 ⟨rfl, hb2⟩
  have b2 := (b1.trans' (below_alloc _ _)).trans' hb2
  clear b1 hb2
  go_wp2_with fail
  refine (pack_any (-1) ⟨#[]⟩ none [] 0 w2 (Lies.nil _ _ _) (by decide) (by decide) (by decide)).mono ?_
  rw [fk3]
  rintro e w3 ⟨rfl, hb3⟩
  have b3 := b2.trans' hb3
  clear b2 hb3
  go_wp2_with fail
  refine (pack_any 65536 ⟨#[]⟩ none [] 0 w3 (Lies.nil _ _ _) (by decide) (by decide) (by decide)).mono ?_
  rw [fk4]
  rintro e w4 ⟨rfl, hb4⟩
  have b4 := b3.trans' hb4
  clear b3 hb4
  go_wp2_with fail
  refine (unp_ok ⟨#[97, 98, 99, 100, 0, 0, 4, 0, 3, 0, 1, 0]⟩ 1 2 w4 (by decide) (by decide) (by decide) fk5).mono ?_
  rw [fk5c]
  rintro e w5 ⟨g, cap, rfl, _, hcap, hL, hb5⟩
  have HL := Lib.hid hL
  have b5 := b4.trans' hb5
  have r5 := Below.refl w5.heap.size w5
  clear b4 hb5 hL
  go_wp2_with fail
  refine (unp_bad ⟨#[97, 98, 99, 100, 0, 0, 4, 0, 3, 0, 1, 0]⟩ 0 2 w5 (by decide) (by decide) (by decide) fk6).mono ?_
  rintro e w6 ⟨rfl, hb6⟩
  have b6 := b5.trans' hb6
  have r6 := r5.trans' hb6
  clear b5 r5 hb6
  go_wp2_with fail
  refine (unp_bad ⟨#[97, 98, 99, 100, 0, 0, 4, 0, 3, 0, 1, 0]⟩ 1 1 w6 (by decide) (by decide) (by decide) fk7).mono ?_
  rintro e w7 ⟨rfl, hb7⟩
  have b7 := b6.trans' hb7
  have r7 := r6.trans' hb7
  clear b6 r6 hb7
  go_wp2_with fail
  refine (unp_arg ⟨#[97, 98, 99, 100, 0, 0, 4, 0, 3, 0, 1, 0]⟩ (-1) 2 w7 (by decide) (by decide) (by decide) (by decide)).mono ?_
  rintro e w8 ⟨rfl, hb8⟩
  have b8 := b7.trans' hb8
  have r8 := r7.trans' hb8
  clear b7 r7 hb8
  go_wp2_with fail
  refine (unp_bad ⟨#[]⟩ 0 0 w8 (by decide) (by decide) (by decide) fk9).mono ?_
  rintro e w9 ⟨rfl, hb9⟩
  have b9 := b8.trans' hb9
  have r9 := r8.trans' hb9
  clear b8 r8 hb9
  go_wp2_with fail
  refine (pack_any 2 ⟨#[]⟩ none [] 0 w9 (Lies.nil _ _ _) (by decide) (by decide) (by decide)).mono ?_
  rw [fk10]
  rintro e w10 ⟨rfl, hb10⟩
  have b10 := b9.trans' hb10
  have r10 := r9.trans' hb10
  clear b9 r9 hb10
  go_wp2_with fail
  refine (words_any (some ⟨g, 0, none⟩) (some ⟨w10.heap.size, 0, none⟩) [⟨#[98, 99]⟩, ⟨#[100]⟩] [⟨#[98, 99]⟩, ⟨#[100]⟩] cap 2 _ ((HL.out.on r10).on (below_alloc _ _)) (lies_new w10 9 [⟨#[98, 99]⟩, ⟨#[100]⟩]) (by decide) rfl).mono ?_
  rintro e w11 ⟨rfl, hb11⟩
  have b11 := (b10.trans' (below_alloc _ _)).trans' hb11
  clear b10 r10 hb11
  go_wp2_with fail
  refine (size_any ⟨#[97]⟩ _ [⟨#[98, 99]⟩, ⟨#[100]⟩] 2 _ (lies_new w11 9 [⟨#[98, 99]⟩, ⟨#[100]⟩]) (by decide) (by decide) (by decide)).mono ?_
  rw [fk11]
  rintro e w12 ⟨rfl, rfl⟩
  have b12 := b11.trans' (below_alloc w11 (.cells (strCells [⟨#[98, 99]⟩, ⟨#[100]⟩]).toArray 9))
  clear b11
  go_wp2_with fail
  refine (size_any ⟨#[]⟩ none [] 0 _ (Lies.nil _ _ _) (by decide) (by decide) (by decide)).mono ?_
  rw [fk12]
  rintro e w13 ⟨rfl, rfl⟩
  go_wp2_with fail
  go_ret
  exact ⟨rfl, b12⟩
end Go.Proofs.Ytbkjmcnichpmjaa
