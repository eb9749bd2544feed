/-
  The fixed calls of the statements of layer 5: each answers as the document fixes it, so the conjunction is true.
-/
import Derived.Test.YtkeobalbfngniaaEStrip
namespace Go.Proofs.Ytkeobalbfngniaa
open Go.RowKit
set_option linter.unusedVariables false
set_option linter.unusedSimpArgs false

/-- What a law's calls answer: calls of one function at given arguments, with one answer, in any world. -/
def Tells (f : Nat) (args : Array Value) (v : Value) : Prop := ∀ W, Calls Try.prog f args W fun e w' => e = .returned v ∧ Below W.heap.size W w'

theorem tLeast (a b : ByteArray) (v : Value) (ha : a.size ≤ 1000) (hb : b.size ≤ 1000) (hv : leastV a b = v) : Tells 10 #[.string a, .string b] v := fun W => by
  rw [← hv]; exact least_any a b W ha hb
theorem tCommon (a b : ByteArray) (n : Nat) (ha : a.size ≤ 1000) (hb : b.size ≤ 1000) (hv : EP.com (B a) (B b) = n) : Tells 14 #[.string a, .string b] (.int .i64 n) := fun W => by
  rw [← hv]; exact common_any a b W (by omega) (by omega)
theorem tBetween (s low high : ByteArray) (ends r : Bool) (hv : betw s low high ends = r) : Tells 19 #[.string s, .string low, .string high, .bool ends] (.bool r) := fun W => by
  rw [← hv]; exact between_any s low high ends W
theorem span_new (l : List ByteArray) (n : Nat) (w : World) (hl : l.length ≤ 1000) (hs : ∀ s ∈ l, s.size ≤ 1000) (hv : sp l = n) :
    Calls Try.prog 16 #[.slice (some ⟨w.heap.size, 0, none⟩) l.length l.length] (w.alloc (.cells (strCells l).toArray 9)) fun e w' => e = .returned (.int .i64 n) ∧ Below w.heap.size w w' := by
  rw [← hv]
  refine (span_any _ l l.length _ (lies_new w 9 l) hl hs (Nat.le_refl _)).mono ?_
  rintro e w' ⟨he, hb⟩
  exact ⟨he, (below_alloc _ _).trans' hb⟩

def cABC : ByteArray := ⟨#[97, 98, 99]⟩
theorem fl1 : leastV ⟨#[97, 98, 99]⟩ ⟨#[97, 98, 100, 101]⟩ = .tuple #[.string ⟨#[97, 98, 100]⟩, .int .i64 0] := by kernel_rfl
theorem fl2 : leastV ⟨#[97, 98]⟩ ⟨#[97, 98, 99]⟩ = .tuple #[.string ⟨#[97, 98, 99]⟩, .int .i64 0] := by kernel_rfl
theorem fl3 : leastV ⟨#[98]⟩ ⟨#[98]⟩ = .tuple #[.string ⟨#[]⟩, .int .i64 1] := by kernel_rfl
theorem fl4 : leastV ⟨#[]⟩ ⟨#[120]⟩ = .tuple #[.string ⟨#[120]⟩, .int .i64 0] := by kernel_rfl
theorem fs5 : headS [⟨#[97, 98, 99]⟩, ⟨#[97, 98, 100]⟩] = ⟨#[97, 98]⟩ := by kernel_rfl
theorem fs6 : bares [⟨#[97, 98, 99]⟩, ⟨#[97, 98, 100]⟩] = [⟨#[99]⟩, ⟨#[100]⟩] := by kernel_rfl
theorem fc7 : EP.com (B ⟨#[97, 98, 99]⟩) (B ⟨#[97, 98, 100]⟩) = 2 := by kernel_rfl
theorem fp8 : sp [⟨#[97, 98, 99]⟩, ⟨#[97, 98]⟩, ⟨#[97, 98, 99, 100]⟩] = 2 := by kernel_rfl
theorem fp9 : sp [] = 0 := by kernel_rfl
theorem fp10 : sp [⟨#[97, 98, 99]⟩] = 3 := by kernel_rfl
theorem fb11 : betw ⟨#[98]⟩ ⟨#[97]⟩ ⟨#[99]⟩ true = true := by kernel_rfl
theorem fb12 : betw ⟨#[99]⟩ ⟨#[97]⟩ ⟨#[99]⟩ true = false := by kernel_rfl
theorem fb13 : betw ⟨#[99]⟩ ⟨#[97]⟩ ⟨#[99]⟩ false = true := by kernel_rfl
theorem fb14 : betw ⟨#[97]⟩ ⟨#[98]⟩ ⟨#[99]⟩ false = false := by kernel_rfl

set_option maxHeartbeats 1000000 in
set_option maxRecDepth 100000 in
theorem fixed_any (w : World) : Calls Try.prog 20 #[] w fun e w' => e = .returned (.bool true) ∧ Below w.heap.size w w' := by
  go_enter Try.func20, Try.ntmps20
  go_wp2_with fail
  refine (tLeast _ _ _ (by decide) (by decide) fl1 _).mono ?_
  rintro e w1 ⟨rfl, hb1⟩
  go_wp2_with fail
  refine (tLeast _ _ _ (by decide) (by decide) fl2 _).mono ?_
  rintro e w2 ⟨rfl, hb2⟩
  have b2 := hb1.trans' hb2
  clear hb1 hb2
  go_wp2_with fail
  refine (tLeast _ _ _ (by decide) (by decide) fl3 _).mono ?_
  rintro e w3 ⟨rfl, hb3⟩
  have b3 := b2.trans' hb3
  clear b2 hb3
  go_wp2_with fail
  refine (tLeast _ _ _ (by decide) (by decide) fl4 _).mono ?_
  rintro e w4 ⟨rfl, hb4⟩
  have b4 := b3.trans' hb4
  clear b3 hb4
  go_wp2_with fail
  refine (strip_any _ [⟨#[97, 98, 99]⟩, ⟨#[97, 98, 100]⟩] 2 _ (lies_new w4 9 [⟨#[97, 98, 99]⟩, ⟨#[97, 98, 100]⟩]) (by decide) (by decide) (by decide)).mono ?_
  rw [fs5, fs6]
  rintro e w5 ⟨G, cap, rfl, hcap, hL, hb5⟩
  have HL := Lib.hid hL
  have b5 := (b4.trans' (below_alloc _ _)).trans' hb5
  have r5 := Below.refl w5.heap.size w5
  clear b4 hb5 hL
  go_wp2_with fail
  refine (tCommon _ _ 2 (by decide) (by decide) fc7 _).mono ?_
  rintro e w6 ⟨rfl, hb6⟩
  have b6 := b5.trans' hb6
  have r6 := r5.trans' hb6
  clear b5 r5 hb6
  go_wp2_with fail
  refine (span_new [⟨#[97, 98, 99]⟩, ⟨#[97, 98]⟩, ⟨#[97, 98, 99, 100]⟩] 2 w6 (by decide) (by decide) fp8).mono ?_
  rintro e w7 ⟨rfl, hb7⟩
  have b7 := b6.trans' hb7
  have r7 := r6.trans' hb7
  clear b6 r6 hb7
  go_wp2_with fail
  refine (span_any none [] 0 w7 (Lies.nil _ _ _) (by decide) (by decide) (by decide)).mono ?_
  rw [fp9]
  rintro e w8 ⟨rfl, hb8⟩
  have b8 := b7.trans' hb8
  have r8 := r7.trans' hb8
  clear b7 r7 hb8
  go_wp2_with fail
  refine (span_new [⟨#[97, 98, 99]⟩] 3 w8 (by decide) (by decide) fp10).mono ?_
  rintro e w9 ⟨rfl, hb9⟩
  have b9 := b8.trans' hb9
  have r9 := r8.trans' hb9
  clear b8 r8 hb9
  go_wp2_with fail
  refine (words_any G (some ⟨w9.heap.size, 0, none⟩) [⟨#[99]⟩, ⟨#[100]⟩] [⟨#[99]⟩, ⟨#[100]⟩] cap 2 _ ((HL.out.on r9).on (below_alloc _ _)) (lies_new w9 9 [⟨#[99]⟩, ⟨#[100]⟩]) (by decide) rfl).mono ?_
  rintro e w10 ⟨rfl, hb10⟩
  have b10 := (b9.trans' (below_alloc _ _)).trans' hb10
  clear b9 r9 hb10
  go_wp2_with fail
  refine (tBetween _ _ _ _ _ fb11 _).mono ?_
  rintro e w11 ⟨rfl, hb11⟩
  have b11 := b10.trans' hb11
  clear b10 hb11
  go_wp2_with fail
  refine (tBetween _ _ _ _ _ fb12 _).mono ?_
  rintro e w12 ⟨rfl, hb12⟩
  have b12 := b11.trans' hb12
  clear b11 hb12
  go_wp2_with fail
  refine (tBetween _ _ _ _ _ fb13 _).mono ?_
  rintro e w13 ⟨rfl, hb13⟩
  have b13 := b12.trans' hb13
  clear b12 hb13
  go_wp2_with fail
  refine (tBetween _ _ _ _ _ fb14 _).mono ?_
  rintro e w14 ⟨rfl, hb14⟩
  have b14 := b13.trans' hb14
  go_wp2_with fail
  go_ret
  exact ⟨rfl, b14⟩
end Go.Proofs.Ytkeobalbfngniaa
