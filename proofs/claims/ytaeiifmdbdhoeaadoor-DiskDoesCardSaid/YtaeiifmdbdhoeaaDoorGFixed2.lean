/-
  The fixed calls of the statements of layer 6: each answers as the document fixes it, so the conjunction is true.
-/
import Derived.Test.YtaeiifmdbdhoeaaDoorGFixed
namespace Go.Proofs.YtaeiifmdbdhoeaaDoor
open Go.RowKit
open Go.ChangeShapes
open DP (W D C)
set_option linter.unusedVariables false
set_option linter.unusedSimpArgs false

section
variable {n : Nat} {w W W' : World} {b c : Nat} {d e : D}
theorem At.other (h : At n w W c e) (k : At n w W b d) (hn : n ≤ w.heap.size) (hk : Chg (fun j => j = b) W W') (hne : c ≠ b) : At n w W' c e :=
  ⟨k.has.other h.has hk hne, h.low, h.bel.trans (hk.below (fun j e => by rw [e]; exact k.low) (Nat.le_trans hn h.bel.size))⟩
theorem page_at (c : UInt8) (v : Int) (hv : (c.toNat : Int) = v) (W : World) : Calls Tryd.prog 24 #[.int .u8 v] W fun e w' => e = .returned (.string (pg c)) ∧ Below W.heap.size W w' := by
  rw [← hv]; exact page_law c W
theorem new_at (hb : Below n w W) (hn : n ≤ w.heap.size) (hz : Sizes W) (p room : Nat) (P R : Int) (hP : (p : Int) = P) (hR : (room : Int) = R) (hm : mayBe p = true) (h0 : 0 < room) (h1 : room ≤ 4096) :
    Calls Tryd.prog 23 #[.int .i64 P, .int .i64 R] W fun e w' => ∃ b, e = .returned (.tuple #[.pointer (some ⟨b, 0, none⟩), .int .i64 0]) ∧ At n w w' b (fresh p room) ∧ Below W.heap.size W w' ∧ W.heap.size ≤ b := by
  rw [← hP, ← hR]
  refine (new_good p room W hz hm h0 h1).mono ?_
  rintro e w' ⟨b, rfl, hg, hl, hb'⟩
  exact ⟨b, rfl, ⟨hg, by have := hb.size; omega, hb.trans (hb'.mono (Nat.le_trans hn hb.size))⟩, hb', hl⟩
theorem from_at (hb : Below n w W) (hn : n ≤ w.heap.size) (hz : Sizes W) (p room : Nat) (P R : Int) (hP : (p : Int) = P) (hR : (room : Int) = R) (hm : mayBe p = true) (h0 : 0 < room) (h1 : room ≤ 4096) (s : ByteArray) (hs : s.size ≤ room * p) (d : D) (hd : DP.made p room s = d) :
    Calls Tryd.prog 9 #[.int .i64 P, .int .i64 R, .string s] W fun e w' => ∃ b, e = .returned (.tuple #[.pointer (some ⟨b, 0, none⟩), .int .i64 0]) ∧ At n w w' b d ∧ Below W.heap.size W w' ∧ W.heap.size ≤ b := by
  rw [← hP, ← hR]
  refine (from_good p room s W hz hm h0 h1 hs).mono ?_
  rintro e w' ⟨b, rfl, hg, hl, hb'⟩
  rw [hd] at hg
  exact ⟨b, rfl, ⟨hg, by have := hb.size; omega, hb.trans (hb'.mono (Nat.le_trans hn hb.size))⟩, hb', hl⟩
theorem full_at (hz : Sizes W) (p room : Nat) (P R : Int) (hP : (p : Int) = P) (hR : (room : Int) = R) (hm : mayBe p = true) (h0 : 0 < room) (h1 : room ≤ 4096) (s : ByteArray) (hs : room * p < s.size) (hs2 : s.size ≤ maxLen) :
    Calls Tryd.prog 9 #[.int .i64 P, .int .i64 R, .string s] W fun e w' => e = .returned (.tuple #[.pointer none, .int .i64 2]) ∧ Below W.heap.size W w' := by
  rw [← hP, ← hR]
  exact from_full p room s W hz hm h0 h1 hs hs2
end
theorem liesG_one (w : World) (K at_ : Int) (hat : -9223372036854775808 ≤ at_ ∧ at_ ≤ 9223372036854775807) : LiesG (w.alloc (.cells #[.int .i64 K, .int .i64 at_] 54)) (some ⟨w.heap.size, 0, none⟩) [⟨K, at_⟩] := fun i x hx => by
  obtain ⟨h0, h1⟩ := pair_cells (heap_alloc_new w (.cells #[.int .i64 K, .int .i64 at_] 54))
  cases i with
  | zero =>
    simp at hx
    subst hx
    exact ⟨_, rfl, by simp, by rw [Nat.zero_mul, addr_zero]; exact h0, by rw [Nat.zero_mul, addr_zero]; exact h1, hat⟩
  | succ i => simp at hx
def fxs : ByteArray := pg 1 ++ ⟨#[120]⟩
def fxt : ByteArray := ⟨#[98, 98, 98]⟩ ++ (pg 97).extract 3 128
def fxu : ByteArray := ⟨#[120]⟩ ++ (pg 0).extract 1 128
def q0 : D := fresh 128 3
def q1 : D := ⟨128, 3, [], [⟨0, pg 97⟩], none, 0⟩
def q2 : D := ⟨128, 3, [pg 97], [], none, 0⟩
def q3 : D := ⟨128, 3, [pg 97], [⟨0, pg 98⟩], none, 0⟩
def q4 : D := ⟨128, 3, [pg 97], [⟨0, pg 98⟩, ⟨2, pg 99⟩], none, 0⟩
def q5 : D := ⟨128, 3, [pg 97], [⟨0, pg 98⟩, ⟨2, pg 99⟩], none, 1⟩
def q6 : D := ⟨128, 3, [fxt], [], none, 1⟩
def q7 : D := ⟨128, 3, [fxt], [], none, 2⟩
def q8 : D := ⟨128, 3, [fxt], [], none, 3⟩
def q9 : D := ⟨128, 3, [fxt], [], some 1, 3⟩
def q10 : D := ⟨128, 3, [fxt], [], some 0, 3⟩
def m0 : D := ⟨128, 2, [pg 1, fxu], [], none, 0⟩
theorem fx1 : q0.write 0 (pg 97) = (q1, 0) := by kernel_rfl
theorem fx2 : q1.sync = (q2, 0) := by kernel_rfl
theorem fx3 : q2.write 0 (pg 98) = (q3, 0) := by kernel_rfl
theorem fx4 : q3.write 2 (pg 99) = (q4, 0) := by kernel_rfl
theorem fx5 : q4.write 3 (pg 99) = (q4, 2) := by kernel_rfl
theorem fx6 : q4.write 0 ⟨#[120]⟩ = (q4, 4) := by kernel_rfl
theorem fx7 : q4.read 1 = (q5, pg 0, 0) := by kernel_rfl
theorem fx8 : q5.crash [⟨2, 3⟩] = q6 := by kernel_rfl
theorem fx9 : q6.read 0 = (q7, fxt, 0) := by kernel_rfl
theorem fx10 : q7.read 2 = (q8, ⟨#[]⟩, 4) := by kernel_rfl
theorem fx11 : q8.limit 1 = q9 := by kernel_rfl
theorem fx12 : q9.sync = (q10, 0) := by kernel_rfl
theorem fx13 : q10.write 0 (pg 122) = (q10, 9) := by kernel_rfl
theorem fx14 : DP.made 128 2 fxs = m0 := by kernel_rfl
theorem fxs_size : fxs.size = 129 := by kernel_rfl

set_option maxHeartbeats 4000000 in
set_option maxRecDepth 100000 in
theorem fixed_any (w : World) (hz : Sizes w) (hg0 : 0 < w.heap.size) : Calls Tryd.prog 13 #[] w fun e w' => e = .returned (.bool true) ∧ Below w.heap.size w w' := by
  have HZ : Hid (∀ W, Below w.heap.size w W → Sizes W) := Lib.hid (fun W hW => hz.below hg0 hW)
  have hps : ∀ c, (pg c).size = 128 := pg_size
  have HN : Hid (w.heap.size ≤ w.heap.size) := Lib.hid (Nat.le_refl _)
  have HB0 : Hid (Below w.heap.size w w) := Lib.hid (Below.refl _ _)
  have HFX : Hid (pg 1 ++ ⟨#[120]⟩ = fxs) := Lib.hid rfl
  have HFT : Hid (⟨#[98, 98, 98]⟩ ++ (pg 97).extract 3 128 = fxt) := Lib.hid rfl
  have HFU : Hid (⟨#[120]⟩ ++ (pg 0).extract 1 128 = fxu) := Lib.hid rfl
  clear hz
  go_enter Tryd.func13, Tryd.ntmps13
  go_wp2_with fail
  refine (new_at HB0.out HN.out (HZ.out _ HB0.out) 128 3 _ _ rfl rfl rfl (by decide) (by decide)).mono ?_
  rintro e w1 ⟨b, rfl, ha1, _, _⟩
  have HD1 := Lib.hid ha1
  clear ha1
  go_wp2_with fail
  refine (new_bad _ _ _ (HZ.out _ HD1.out.bel) (by unfold newBad mayBe; decide)).mono ?_
  rintro e w2 ⟨rfl, rfl⟩
  go_wp2_with fail
  refine (new_bad _ _ _ (HZ.out _ HD1.out.bel) (by unfold newBad mayBe; decide)).mono ?_
  rintro e w3 ⟨rfl, rfl⟩
  go_wp2_with fail
  refine (page_at 1 _ rfl _).mono ?_
  rintro e w4 ⟨rfl, hb4⟩
  have HD4 := Lib.hid (HD1.out.below HN.out hb4)
  clear hb4
  go_wp2_with fail
  refine (full_at (HZ.out _ HD4.out.bel) 128 1 _ _ rfl rfl rfl (by decide) (by decide) _ (by rw [HFX.out, fxs_size]; decide) (by rw [HFX.out, fxs_size]; unfold maxLen; decide)).mono ?_
  rintro e w5 ⟨rfl, hb5⟩
  have HD5 := Lib.hid (HD4.out.below HN.out hb5)
  clear hb5
  go_wp2_with fail
  refine (page_at 1 _ rfl _).mono ?_
  rintro e w6 ⟨rfl, hb6⟩
  have HD6 := Lib.hid (HD5.out.below HN.out hb6)
  clear hb6
  go_wp2_with fail
  refine (from_at HD6.out.bel HN.out (HZ.out _ HD6.out.bel) 128 2 _ _ rfl rfl rfl (by decide) (by decide) _ (by rw [fxs_size]; decide) m0 fx14).mono ?_
  rintro e w7 ⟨c, rfl, ha7, hb7, hc7⟩
  have HI7 := Lib.hid ha7
  have HNE : Hid (c ≠ b) := Lib.hid (by have := HD6.out.has.lt; omega)
  have HD7 := Lib.hid (HD6.out.below HN.out hb7)
  clear ha7 hb7 hc7
  go_wp2_with fail
  refine (page_at 97 _ rfl _).mono ?_
  rintro e w8 ⟨rfl, hb8⟩
  have HD8 := Lib.hid (HD7.out.below HN.out hb8)
  have HI8 := Lib.hid (HI7.out.below HN.out hb8)
  clear hb8
  go_wp2_with fail
  refine (at_write HD8.out HN.out _ _ _ (by decide) (by rw [pg_size]; unfold maxLen; decide) fx1).mono ?_
  rintro e w9 ⟨rfl, ha9, hc9⟩
  have HD9 := Lib.hid ha9
  have HI9 := Lib.hid (HI8.out.other HD8.out HN.out hc9 HNE.out)
  clear ha9 hc9
  go_wp2_with fail
  refine (at_sync HD9.out HN.out _ fx2).mono ?_
  rintro e w10 ⟨rfl, ha10, hc10⟩
  have HD10 := Lib.hid ha10
  have HI10 := Lib.hid (HI9.out.other HD9.out HN.out hc10 HNE.out)
  clear ha10 hc10
  go_wp2_with fail
  refine (page_at 98 _ rfl _).mono ?_
  rintro e w11 ⟨rfl, hb11⟩
  have HD11 := Lib.hid (HD10.out.below HN.out hb11)
  have HI11 := Lib.hid (HI10.out.below HN.out hb11)
  clear hb11
  go_wp2_with fail
  refine (at_write HD11.out HN.out _ _ _ (by decide) (by rw [pg_size]; unfold maxLen; decide) fx3).mono ?_
  rintro e w12 ⟨rfl, ha12, hc12⟩
  have HD12 := Lib.hid ha12
  have HI12 := Lib.hid (HI11.out.other HD11.out HN.out hc12 HNE.out)
  clear ha12 hc12
  go_wp2_with fail
  refine (page_at 99 _ rfl _).mono ?_
  rintro e w13 ⟨rfl, hb13⟩
  have HD13 := Lib.hid (HD12.out.below HN.out hb13)
  have HI13 := Lib.hid (HI12.out.below HN.out hb13)
  clear hb13
  go_wp2_with fail
  refine (at_write HD13.out HN.out _ _ _ (by decide) (by rw [pg_size]; unfold maxLen; decide) fx4).mono ?_
  rintro e w14 ⟨rfl, ha14, hc14⟩
  have HD14 := Lib.hid ha14
  have HI14 := Lib.hid (HI13.out.other HD13.out HN.out hc14 HNE.out)
  clear ha14 hc14
  go_wp2_with fail
  refine (page_at 99 _ rfl _).mono ?_
  rintro e w15 ⟨rfl, hb15⟩
  have HD15 := Lib.hid (HD14.out.below HN.out hb15)
  have HI15 := Lib.hid (HI14.out.below HN.out hb15)
  clear hb15
  go_wp2_with fail
  refine (at_write HD15.out HN.out _ _ _ (by decide) (by rw [pg_size]; unfold maxLen; decide) fx5).mono ?_
  rintro e w16 ⟨rfl, ha16, hc16⟩
  have HD16 := Lib.hid ha16
  have HI16 := Lib.hid (HI15.out.other HD15.out HN.out hc16 HNE.out)
  clear ha16 hc16
  go_wp2_with fail
  refine (at_write HD16.out HN.out _ _ _ (by decide) (by unfold maxLen; decide) fx6).mono ?_
  rintro e w17 ⟨rfl, ha17, hc17⟩
  have HD17 := Lib.hid ha17
  have HI17 := Lib.hid (HI16.out.other HD16.out HN.out hc17 HNE.out)
  clear ha17 hc17
  go_wp2_with fail
  refine (at_read HD17.out HN.out _ _ _ (by decide) (by decide) fx7).mono ?_
  rintro e w18 ⟨rfl, ha18, hc18⟩
  have HD18 := Lib.hid ha18
  have HI18 := Lib.hid (HI17.out.other HD17.out HN.out hc18 HNE.out)
  clear ha18 hc18
  go_wp2_with fail
  refine (at_len HD18.out 3 rfl).mono ?_
  rintro e w' ⟨rfl, rfl⟩
  go_wp2_with fail
  have hal := below_alloc w18 (.cells #[.int .i64 2, .int .i64 3] 54)
  have HDa := Lib.hid (HD18.out.below HN.out hal)
  have HIa := Lib.hid (HI18.out.below HN.out hal)
  have HLC : Hid (LiesG (w18.alloc (.cells #[.int .i64 2, .int .i64 3] 54)) (some ⟨w18.heap.size, 0, none⟩) [⟨2, 3⟩]) := Lib.hid (liesG_one w18 2 3 (by decide))
  clear hal
  refine (at_crash HDa.out HN.out (some ⟨w18.heap.size, 0, none⟩) [⟨2, 3⟩] 1 HLC.out (by decide) (by decide) fx8).mono ?_
  rintro e w19 ⟨rfl, ha19, hc19⟩
  have HD19 := Lib.hid ha19
  have HI19 := Lib.hid (HIa.out.other HDa.out HN.out hc19 HNE.out)
  clear ha19 hc19
  go_wp2_with fail
  refine (at_read HD19.out HN.out _ _ _ (by decide) (by decide) fx9).mono ?_
  rintro e w20 ⟨rfl, ha20, hc20⟩
  have HD20 := Lib.hid ha20
  have HI20 := Lib.hid (HI19.out.other HD19.out HN.out hc20 HNE.out)
  clear ha20 hc20
  go_wp2_with fail
  refine (at_read HD20.out HN.out _ _ _ (by decide) (by decide) fx10).mono ?_
  rintro e w21 ⟨rfl, ha21, hc21⟩
  have HD21 := Lib.hid ha21
  have HI21 := Lib.hid (HI20.out.other HD20.out HN.out hc21 HNE.out)
  clear ha21 hc21
  go_wp2_with fail
  refine (at_limit HD21.out HN.out _ (by decide) fx11).mono ?_
  rintro e w22 ⟨rfl, ha22, hc22⟩
  have HD22 := Lib.hid ha22
  have HI22 := Lib.hid (HI21.out.other HD21.out HN.out hc22 HNE.out)
  clear ha22 hc22
  go_wp2_with fail
  refine (at_sync HD22.out HN.out _ fx12).mono ?_
  rintro e w23 ⟨rfl, ha23, hc23⟩
  have HD23 := Lib.hid ha23
  have HI23 := Lib.hid (HI22.out.other HD22.out HN.out hc23 HNE.out)
  clear ha23 hc23
  go_wp2_with fail
  refine (page_at 122 _ rfl _).mono ?_
  rintro e w24 ⟨rfl, hb24⟩
  have HD24 := Lib.hid (HD23.out.below HN.out hb24)
  have HI24 := Lib.hid (HI23.out.below HN.out hb24)
  clear hb24
  go_wp2_with fail
  refine (at_write HD24.out HN.out _ _ _ (by decide) (by rw [pg_size]; unfold maxLen; decide) fx13).mono ?_
  rintro e w25 ⟨rfl, ha25, hc25⟩
  have HD25 := Lib.hid ha25
  have HI25 := Lib.hid (HI24.out.other HD24.out HN.out hc25 HNE.out)
  clear ha25 hc25
  go_wp2_with fail
  refine (at_len HI25.out 2 rfl).mono ?_
  rintro e w' ⟨rfl, rfl⟩
  go_wp2_with fail
  refine (at_all HI25.out HN.out [pg 1, fxu] rfl).mono ?_
  rintro e w26 ⟨ga, rfl, ho26, ha26, hb26⟩
  have HD26 := Lib.hid (HD25.out.below HN.out hb26)
  have HI26 := Lib.hid ha26
  have HLA26 : Hid (Lies w26 w26.heap.size (some ⟨ga, 0, none⟩) [pg 1, fxu]) := Lib.hid (lies_own ho26 rfl)
  clear ho26 ha26 hb26
  go_wp2_with fail
  refine (page_at 1 _ rfl _).mono ?_
  rintro e w27 ⟨rfl, hb27⟩
  have HD27 := Lib.hid (HD26.out.below HN.out hb27)
  have HI27 := Lib.hid (HI26.out.below HN.out hb27)
  have HLA27 := Lib.hid (HLA26.out.on hb27)
  clear hb27
  go_wp2_with fail
  refine (page_at 0 _ rfl _).mono ?_
  rintro e w28 ⟨rfl, hb28⟩
  have HD28 := Lib.hid (HD27.out.below HN.out hb28)
  have HI28 := Lib.hid (HI27.out.below HN.out hb28)
  have HLA28 := Lib.hid (HLA27.out.on hb28)
  clear hb28
  go_wp2_with fail
  have hal := below_alloc w28 (.cells (strCells [pg 1, fxu]).toArray 9)
  have HLB : Hid (Lies (w28.alloc (.cells (strCells [pg 1, fxu]).toArray 9)) (w28.alloc (.cells (strCells [pg 1, fxu]).toArray 9)).heap.size (some ⟨w28.heap.size, 0, none⟩) [pg 1, fxu]) := Lib.hid (lies_new w28 _ _)
  have HDb := Lib.hid (HD28.out.below HN.out hal)
  have HIb := Lib.hid (HI28.out.below HN.out hal)
  have HLAb := Lib.hid (HLA28.out.on hal)
  clear hal
  refine (words_any (some ⟨ga, 0, none⟩) (some ⟨w28.heap.size, 0, none⟩) [pg 1, fxu] [pg 1, fxu] 2 2 _ HLAb.out HLB.out (by decide) rfl).mono ?_
  rintro e w29 ⟨rfl, hb29⟩
  have HD29 := Lib.hid (HDb.out.below HN.out hb29)
  have HI29 := Lib.hid (HIb.out.below HN.out hb29)
  clear hb29
  go_wp2_with fail
  refine (page_at 0 _ rfl _).mono ?_
  rintro e w30 ⟨rfl, hb30⟩
  have HD30 := Lib.hid (HD29.out.below HN.out hb30)
  have HI30 := Lib.hid (HI29.out.below HN.out hb30)
  clear hb30
  go_wp2_with fail
  refine (page_at 97 _ rfl _).mono ?_
  rintro e w31 ⟨rfl, hb31⟩
  have HD31 := Lib.hid (HD30.out.below HN.out hb31)
  have HI31 := Lib.hid (HI30.out.below HN.out hb31)
  clear hb31
  go_wp2_with fail
  refine (at_len HD31.out 1 rfl).mono ?_
  rintro e w' ⟨rfl, rfl⟩
  go_wp2_with fail
  refine (at_reads HD31.out 3 rfl).mono ?_
  rintro e w' ⟨rfl, rfl⟩
  go_wp2_with fail
  refine (at_page HD31.out 128 rfl).mono ?_
  rintro e w' ⟨rfl, rfl⟩
  go_wp2_with fail
  refine (at_room HD31.out 3 rfl).mono ?_
  rintro e w' ⟨rfl, rfl⟩
  go_wp2_with fail
  refine (size_any 512 _ (HZ.out _ HD31.out.bel)).mono ?_
  rintro e w' ⟨rfl, rfl⟩
  go_wp2_with fail
  refine (size_any 2048 _ (HZ.out _ HD31.out.bel)).mono ?_
  rintro e w' ⟨rfl, rfl⟩
  go_wp2_with fail
  go_ret
  exact ⟨rfl, HD31.out.bel⟩
end Go.Proofs.YtaeiifmdbdhoeaaDoor
