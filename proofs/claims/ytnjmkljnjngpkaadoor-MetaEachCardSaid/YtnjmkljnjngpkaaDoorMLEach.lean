/-
  The walk of MetaEach. Written by wip/gen_mlaws.py.
-/
import Derived.Test.YtnjmkljnjngpkaaDoorMFixed
import Derived.Deep.RegionHeld3
namespace Go.Proofs.YtnjmkljnjngpkaaDoor
open Go.RowKit MP
set_option linter.unusedVariables false
set_option linter.unusedSimpArgs false

/-- One thing of each may not be. -/
theorem each_not {P G R L C : Int} {k : Nat} (hm : May ⟨P, G, R, L, C⟩) (hk : k ≤ 8) : ¬ May ⟨P + 1 + k, G, R, L, C⟩ ∧ ¬ May ⟨P, 1 - k, R, L, C⟩ ∧ ¬ May ⟨P, 4097 + k, R, L, C⟩ ∧ ¬ May ⟨P, G, -k, L, C⟩ ∧ ¬ May ⟨P, G, G + k, L, C⟩ ∧ ¬ May ⟨P, G, R, 256 + k, C⟩ ∧ ¬ May ⟨P, G, R, -1 - k, C⟩ ∧ ¬ May ⟨P, G, R, L, -1 - k⟩ := by
  obtain ⟨h1, h2, h3, h4, h5, h6, h7, h8, h9⟩ := hm
  simp only at h1 h2 h3 h4 h5 h6 h7 h8 h9
  refine ⟨fun h => ?_, fun h => ?_, fun h => ?_, fun h => ?_, fun h => ?_, fun h => ?_, fun h => ?_, fun h => ?_⟩
  · have a := of_decide_eq_true (show decide (P = 128 ∨ P = 256 ∨ P = 512 ∨ P = 1024) = true from h1)
    have b := of_decide_eq_true (show decide (P + 1 + k = 128 ∨ P + 1 + k = 256 ∨ P + 1 + k = 512 ∨ P + 1 + k = 1024) = true from h.1)
    omega
  all_goals (unfold May at h; simp only at h; omega)
theorem add_row (g n : Nat) : (⟨g, 0, none⟩ : Addr).add n = ⟨g, n, none⟩ := by
  unfold Addr.add
  split
  · simp_all
  · simp
theorem cell_of_row5 {w : World} {g : Nat} {cs : Array Value} {t : TypeId} {k j : Nat} {v : Value} (h : w.heap[g]? = some (.cells cs t (0, 0))) (hv : cs[k * 5 + j]? = some v) : w.cell? ⟨((⟨g, 0, none⟩ : Addr).add (k * 5)).block, ((⟨g, 0, none⟩ : Addr).add (k * 5)).off + j, none⟩ = some v := by
  have e : (⟨((⟨g, 0, none⟩ : Addr).add (k * 5)).block, ((⟨g, 0, none⟩ : Addr).add (k * 5)).off + j, none⟩ : Addr) = ⟨g, k * 5 + j, none⟩ := by rw [add_row]
  rw [e]
  rw [cell_of_row _ _ (k * 5 + j) _ _ _ h]
  exact hv
theorem cell_of_row50 {w : World} {g : Nat} {cs : Array Value} {t : TypeId} {k : Nat} {v : Value} (h : w.heap[g]? = some (.cells cs t (0, 0))) (hv : cs[k * 5]? = some v) : w.cell? ((⟨g, 0, none⟩ : Addr).add (k * 5)) = some v := by
  rw [add_row, cell_of_row _ _ (k * 5) _ _ _ h]
  exact hv
set_option maxHeartbeats 4000000 in
set_option maxRecDepth 100000 in
theorem metaEach_any (hfx : Fixes) (P G R L C n : Int) (w : World) (hg : L7.Sizes w) (hn : 0 ≤ n ∧ n ≤ 255) :
    Calls Tryd.prog 8 #[mv P G R L C, .int .u8 n] w fun e w' => e = .returned (.bool true) ∧ Below w.heap.size w w' := by
  have hb0 := mbox_below 23 P G R L C w
  have HB := Lib.hid hb0
  have HC := Lib.hid (mbox_new 23 P G R L C w)
  have HG0 := Lib.hid hg
  have HG := Lib.hid (hg.below hg.lt hb0)
  have HFX : Hid (L7.Tells 18 #[] (.bool true)) := Lib.hid hfx
  simp only [mbox] at HB HC HG
  clear hb0 hfx hg
  obtain ⟨c0, c1, c2, c3, c4⟩ := HC.out.cells
  obtain ⟨n, rfl⟩ := Int.eq_ofNat_of_zero_le hn.1
  by_cases hm : May ⟨P, G, R, L, C⟩
  · have HM := tMay P G R L C (decide_eq_true hm)
    have hp := mayBe_le hm.1
    have hmb : L7.mayBe P = true := hm.1
    have hG : 2 ≤ G ∧ G ≤ 4096 := ⟨hm.2.1, hm.2.2.1⟩
    simp only at hp
    have HSR : Hid (∀ W, Calls Tryd.prog 22 #[.int .i64 P] W fun e w' => e = .returned (.bool true) ∧ W = w') := Lib.hid (fun W => by have h := L7.sizeRef_any P W; rw [show decide (P = 128 ∨ P = 256 ∨ P = 512 ∨ P = 1024) = true from hmb] at h; exact h)
    obtain ⟨k, hk⟩ : ∃ k, n % 9 = k := ⟨_, rfl⟩
    have hk8 : k ≤ 8 := by rw [← hk]; exact Nat.le_of_lt_succ (Nat.mod_lt _ (by decide))
    obtain ⟨n0, n1, n2, n3, n4, n5, n6, n7⟩ := each_not hm hk8
    have EA : ∀ (P' G' R' L' C' : Int), ¬ May ⟨P', G', R', L', C'⟩ → Hid (L7.Tells 9 #[mv P' G' R' L' C'] (.tuple #[.string ⟨#[]⟩, .int .i64 3])) ∧ Hid (L7.Tells 14 #[mv P' G' R' L' C'] (.bool false)) := fun P' G' R' L' C' h => ⟨tEnc P' G' R' L' C' (enc_form h), tMay P' G' R' L' C' (decide_eq_false h)⟩
    obtain ⟨A0, a0⟩ : ∃ z : Int, P + 1 + k = z := ⟨_, rfl⟩
    obtain ⟨A1, a1⟩ : ∃ z : Int, 1 - (k : Int) = z := ⟨_, rfl⟩
    obtain ⟨A2, a2⟩ : ∃ z : Int, 4097 + (k : Int) = z := ⟨_, rfl⟩
    obtain ⟨A3, a3⟩ : ∃ z : Int, -(k : Int) = z := ⟨_, rfl⟩
    obtain ⟨A4, a4⟩ : ∃ z : Int, G + (k : Int) = z := ⟨_, rfl⟩
    obtain ⟨A5, a5⟩ : ∃ z : Int, 256 + (k : Int) = z := ⟨_, rfl⟩
    obtain ⟨A6, a6⟩ : ∃ z : Int, -1 - (k : Int) = z := ⟨_, rfl⟩
    rw [a0] at n0
    rw [a1] at n1
    rw [a2] at n2
    rw [a3] at n3
    rw [a4] at n4
    rw [a5] at n5
    rw [a6] at n6 n7
    have E0 := Lib.hid (EA A0 G R L C n0)
    have E1 := Lib.hid (EA P A1 R L C n1)
    have E2 := Lib.hid (EA P A2 R L C n2)
    have E3 := Lib.hid (EA P G A3 L C n3)
    have E4 := Lib.hid (EA P G A4 L C n4)
    have E5 := Lib.hid (EA P G R A5 C n5)
    have E6 := Lib.hid (EA P G R A6 C n6)
    have E7 := Lib.hid (EA P G R L A6 n7)
    have wn : Hid (IntKind.i64.wrap (n : Int) = (n : Int)) := Lib.hid (IntWalk.i64_in _ (by omega))
    have wt : Hid ((n : Int).tmod 9 = (k : Int)) := Lib.hid (by rw [← hk]; exact (Int.ofNat_tmod n 9).symm)
    have wt2 : Hid ((n : Int) % 9 = (k : Int)) := Lib.hid (by rw [← hk]; exact (Int.natCast_emod n 9).symm)
    obtain ⟨P1, p1⟩ : ∃ z : Int, P + 1 = z := ⟨_, rfl⟩
    have wp : Hid (IntKind.i64.wrap (P + 1) = P1) := Lib.hid (by rw [IntWalk.i64_in _ (by omega)]; omega)
    have w0 : Hid (IntKind.i64.wrap (P1 + (k : Int)) = A0) := Lib.hid (by rw [IntWalk.i64_in _ (by omega)]; omega)
    have w1 : Hid (IntKind.i64.wrap (1 - (k : Int)) = A1) := Lib.hid (by rw [IntWalk.i64_in _ (by omega)]; omega)
    have w2 : Hid (IntKind.i64.wrap (4097 + (k : Int)) = A2) := Lib.hid (by rw [IntWalk.i64_in _ (by omega)]; omega)
    have w3 : Hid (IntKind.i64.wrap (-(k : Int)) = A3) := Lib.hid (by rw [IntWalk.i64_in _ (by omega)]; omega)
    have w4 : Hid (IntKind.i64.wrap (G + (k : Int)) = A4) := Lib.hid (by rw [IntWalk.i64_in _ (by omega)]; omega)
    have w5 : Hid (IntKind.i64.wrap (256 + (k : Int)) = A5) := Lib.hid (by rw [IntWalk.i64_in _ (by omega)]; omega)
    have w6 : Hid (IntKind.i64.wrap (-1 - (k : Int)) = A6) := Lib.hid (by rw [IntWalk.i64_in _ (by omega)]; omega)
    clear a0 a1 a2 a3 a4 a5 a6 p1 hk hk8 n0 n1 n2 n3 n4 n5 n6 n7 EA hm hp hmb hG hn
    go_enter Tryd.func8, Tryd.ntmps8
    go_wp2_with fail
    refine (HM.out _ HG.out).mono ?_
    rintro e V ⟨rfl, hb⟩
    replace HB := Lib.hid (HB.out.trans' hb)
    replace HG := Lib.hid (HG0.out.below HG0.out.lt HB.out)
    replace HC := Lib.hid (HC.out.below hb)
    clear hb
    clear c0 c1 c2 c3 c4
    have HBA := Lib.hid (HB.out.trans' (L5.below_alloc V (.cells #[.int .i64 A0, .int .i64 G, .int .i64 R, .int .i64 L, .int .i64 C, .int .i64 P, .int .i64 A1, .int .i64 R, .int .i64 L, .int .i64 C, .int .i64 P, .int .i64 A2, .int .i64 R, .int .i64 L, .int .i64 C, .int .i64 P, .int .i64 G, .int .i64 A3, .int .i64 L, .int .i64 C, .int .i64 P, .int .i64 G, .int .i64 A4, .int .i64 L, .int .i64 C, .int .i64 P, .int .i64 G, .int .i64 R, .int .i64 A5, .int .i64 C, .int .i64 P, .int .i64 G, .int .i64 R, .int .i64 A6, .int .i64 C, .int .i64 P, .int .i64 G, .int .i64 R, .int .i64 L, .int .i64 A6] 23)))
    have HXA := Lib.hid (HC.out.below (L5.below_alloc V (.cells #[.int .i64 A0, .int .i64 G, .int .i64 R, .int .i64 L, .int .i64 C, .int .i64 P, .int .i64 A1, .int .i64 R, .int .i64 L, .int .i64 C, .int .i64 P, .int .i64 A2, .int .i64 R, .int .i64 L, .int .i64 C, .int .i64 P, .int .i64 G, .int .i64 A3, .int .i64 L, .int .i64 C, .int .i64 P, .int .i64 G, .int .i64 A4, .int .i64 L, .int .i64 C, .int .i64 P, .int .i64 G, .int .i64 R, .int .i64 A5, .int .i64 C, .int .i64 P, .int .i64 G, .int .i64 R, .int .i64 A6, .int .i64 C, .int .i64 P, .int .i64 G, .int .i64 R, .int .i64 L, .int .i64 A6] 23)))
    have BL : Hid ((V.alloc (.cells #[.int .i64 A0, .int .i64 G, .int .i64 R, .int .i64 L, .int .i64 C, .int .i64 P, .int .i64 A1, .int .i64 R, .int .i64 L, .int .i64 C, .int .i64 P, .int .i64 A2, .int .i64 R, .int .i64 L, .int .i64 C, .int .i64 P, .int .i64 G, .int .i64 A3, .int .i64 L, .int .i64 C, .int .i64 P, .int .i64 G, .int .i64 A4, .int .i64 L, .int .i64 C, .int .i64 P, .int .i64 G, .int .i64 R, .int .i64 A5, .int .i64 C, .int .i64 P, .int .i64 G, .int .i64 R, .int .i64 A6, .int .i64 C, .int .i64 P, .int .i64 G, .int .i64 R, .int .i64 L, .int .i64 A6] 23)).heap[V.heap.size]? = some (.cells #[.int .i64 A0, .int .i64 G, .int .i64 R, .int .i64 L, .int .i64 C, .int .i64 P, .int .i64 A1, .int .i64 R, .int .i64 L, .int .i64 C, .int .i64 P, .int .i64 A2, .int .i64 R, .int .i64 L, .int .i64 C, .int .i64 P, .int .i64 G, .int .i64 A3, .int .i64 L, .int .i64 C, .int .i64 P, .int .i64 G, .int .i64 A4, .int .i64 L, .int .i64 C, .int .i64 P, .int .i64 G, .int .i64 R, .int .i64 A5, .int .i64 C, .int .i64 P, .int .i64 G, .int .i64 R, .int .i64 A6, .int .i64 C, .int .i64 P, .int .i64 G, .int .i64 R, .int .i64 L, .int .i64 A6] 23 (0, 0))) := Lib.hid (heap_alloc_new _ _)
    obtain ⟨c0, c1, c2, c3, c4⟩ := HC.out.cells
    obtain ⟨d0, d1, d2, d3, d4⟩ := (HC.out.below (L5.below_alloc V (.cells #[.int .i64 P, .int .i64 G, .int .i64 R, .int .i64 L, .int .i64 C, .int .i64 P, .int .i64 G, .int .i64 R, .int .i64 L, .int .i64 C, .int .i64 P, .int .i64 G, .int .i64 R, .int .i64 L, .int .i64 C, .int .i64 P, .int .i64 G, .int .i64 R, .int .i64 L, .int .i64 C, .int .i64 P, .int .i64 G, .int .i64 R, .int .i64 L, .int .i64 C, .int .i64 P, .int .i64 G, .int .i64 R, .int .i64 L, .int .i64 C, .int .i64 P, .int .i64 G, .int .i64 R, .int .i64 L, .int .i64 C, .int .i64 P, .int .i64 G, .int .i64 R, .int .i64 L, .int .i64 C] 23))).cells
    obtain ⟨e0, e1, e2, e3, e4⟩ := (HC.out.below (L5.below_alloc V (.cells #[.int .i64 A0, .int .i64 G, .int .i64 R, .int .i64 L, .int .i64 C, .int .i64 P, .int .i64 A1, .int .i64 R, .int .i64 L, .int .i64 C, .int .i64 P, .int .i64 A2, .int .i64 R, .int .i64 L, .int .i64 C, .int .i64 P, .int .i64 G, .int .i64 A3, .int .i64 L, .int .i64 C, .int .i64 P, .int .i64 G, .int .i64 R, .int .i64 L, .int .i64 C, .int .i64 P, .int .i64 G, .int .i64 R, .int .i64 L, .int .i64 C, .int .i64 P, .int .i64 G, .int .i64 R, .int .i64 L, .int .i64 C, .int .i64 P, .int .i64 G, .int .i64 R, .int .i64 L, .int .i64 C] 23))).cells
    have wn := wn.out
    have wt := wt.out
    have wt2 := wt2.out
    have wp := wp.out
    have w0 := w0.out
    have w1 := w1.out
    have w2 := w2.out
    have w3 := w3.out
    have w4 := w4.out
    have w5 := w5.out
    have w6 := w6.out
    go_wp2_with fail
    generalize V.alloc (.cells #[.int .i64 A0, .int .i64 G, .int .i64 R, .int .i64 L, .int .i64 C, .int .i64 P, .int .i64 A1, .int .i64 R, .int .i64 L, .int .i64 C, .int .i64 P, .int .i64 A2, .int .i64 R, .int .i64 L, .int .i64 C, .int .i64 P, .int .i64 G, .int .i64 A3, .int .i64 L, .int .i64 C, .int .i64 P, .int .i64 G, .int .i64 A4, .int .i64 L, .int .i64 C, .int .i64 P, .int .i64 G, .int .i64 R, .int .i64 A5, .int .i64 C, .int .i64 P, .int .i64 G, .int .i64 R, .int .i64 A6, .int .i64 C, .int .i64 P, .int .i64 G, .int .i64 R, .int .i64 L, .int .i64 A6] 23) = W6 at *
    generalize V.heap.size = g at *
    clear c0 c1 c2 c3 c4 d0 d1 d2 d3 d4 e0 e1 e2 e3 e4 wn wt wt2 wp w0 w1 w2 w3 w4 w5 w6 HB HC HG
    have HG6 := Lib.hid (HG0.out.below HG0.out.lt HBA.out)
    have HALL : Hid (∀ k, k < 8 → ∃ (Pk Gk Rk Lk Ck : Int), (∀ W, Below W6.heap.size W6 W → W.cell? ((⟨g, 0, none⟩ : Addr).add (k * 5)) = some (.int .i64 Pk) ∧ W.cell? ⟨((⟨g, 0, none⟩ : Addr).add (k * 5)).block, ((⟨g, 0, none⟩ : Addr).add (k * 5)).off + 1, none⟩ = some (.int .i64 Gk) ∧ W.cell? ⟨((⟨g, 0, none⟩ : Addr).add (k * 5)).block, ((⟨g, 0, none⟩ : Addr).add (k * 5)).off + 2, none⟩ = some (.int .i64 Rk) ∧ W.cell? ⟨((⟨g, 0, none⟩ : Addr).add (k * 5)).block, ((⟨g, 0, none⟩ : Addr).add (k * 5)).off + 3, none⟩ = some (.int .i64 Lk) ∧ W.cell? ⟨((⟨g, 0, none⟩ : Addr).add (k * 5)).block, ((⟨g, 0, none⟩ : Addr).add (k * 5)).off + 4, none⟩ = some (.int .i64 Ck)) ∧ Hid (L7.Tells 9 #[mv Pk Gk Rk Lk Ck] (.tuple #[.string ⟨#[]⟩, .int .i64 3])) ∧ Hid (L7.Tells 14 #[mv Pk Gk Rk Lk Ck] (.bool false))) := Lib.hid (fun k hk => by
      have hl := (Array.getElem?_eq_some_iff.1 BL.out).1
      have hw := fun W (h : Below W6.heap.size W6 W) => (h.block g hl).trans BL.out
      rcases (show k = 0 ∨ k = 1 ∨ k = 2 ∨ k = 3 ∨ k = 4 ∨ k = 5 ∨ k = 6 ∨ k = 7 by omega) with rfl | rfl | rfl | rfl | rfl | rfl | rfl | rfl
      · exact ⟨_, _, _, _, _, fun W h => ⟨cell_of_row50 (k := 0) (hw W h) rfl, cell_of_row5 (k := 0) (j := 1) (hw W h) rfl, cell_of_row5 (k := 0) (j := 2) (hw W h) rfl, cell_of_row5 (k := 0) (j := 3) (hw W h) rfl, cell_of_row5 (k := 0) (j := 4) (hw W h) rfl⟩, E0.out.1, E0.out.2⟩
      · exact ⟨_, _, _, _, _, fun W h => ⟨cell_of_row50 (k := 1) (hw W h) rfl, cell_of_row5 (k := 1) (j := 1) (hw W h) rfl, cell_of_row5 (k := 1) (j := 2) (hw W h) rfl, cell_of_row5 (k := 1) (j := 3) (hw W h) rfl, cell_of_row5 (k := 1) (j := 4) (hw W h) rfl⟩, E1.out.1, E1.out.2⟩
      · exact ⟨_, _, _, _, _, fun W h => ⟨cell_of_row50 (k := 2) (hw W h) rfl, cell_of_row5 (k := 2) (j := 1) (hw W h) rfl, cell_of_row5 (k := 2) (j := 2) (hw W h) rfl, cell_of_row5 (k := 2) (j := 3) (hw W h) rfl, cell_of_row5 (k := 2) (j := 4) (hw W h) rfl⟩, E2.out.1, E2.out.2⟩
      · exact ⟨_, _, _, _, _, fun W h => ⟨cell_of_row50 (k := 3) (hw W h) rfl, cell_of_row5 (k := 3) (j := 1) (hw W h) rfl, cell_of_row5 (k := 3) (j := 2) (hw W h) rfl, cell_of_row5 (k := 3) (j := 3) (hw W h) rfl, cell_of_row5 (k := 3) (j := 4) (hw W h) rfl⟩, E3.out.1, E3.out.2⟩
      · exact ⟨_, _, _, _, _, fun W h => ⟨cell_of_row50 (k := 4) (hw W h) rfl, cell_of_row5 (k := 4) (j := 1) (hw W h) rfl, cell_of_row5 (k := 4) (j := 2) (hw W h) rfl, cell_of_row5 (k := 4) (j := 3) (hw W h) rfl, cell_of_row5 (k := 4) (j := 4) (hw W h) rfl⟩, E4.out.1, E4.out.2⟩
      · exact ⟨_, _, _, _, _, fun W h => ⟨cell_of_row50 (k := 5) (hw W h) rfl, cell_of_row5 (k := 5) (j := 1) (hw W h) rfl, cell_of_row5 (k := 5) (j := 2) (hw W h) rfl, cell_of_row5 (k := 5) (j := 3) (hw W h) rfl, cell_of_row5 (k := 5) (j := 4) (hw W h) rfl⟩, E5.out.1, E5.out.2⟩
      · exact ⟨_, _, _, _, _, fun W h => ⟨cell_of_row50 (k := 6) (hw W h) rfl, cell_of_row5 (k := 6) (j := 1) (hw W h) rfl, cell_of_row5 (k := 6) (j := 2) (hw W h) rfl, cell_of_row5 (k := 6) (j := 3) (hw W h) rfl, cell_of_row5 (k := 6) (j := 4) (hw W h) rfl⟩, E6.out.1, E6.out.2⟩
      · exact ⟨_, _, _, _, _, fun W h => ⟨cell_of_row50 (k := 7) (hw W h) rfl, cell_of_row5 (k := 7) (j := 1) (hw W h) rfl, cell_of_row5 (k := 7) (j := 2) (hw W h) rfl, cell_of_row5 (k := 7) (j := 3) (hw W h) rfl, cell_of_row5 (k := 7) (j := 4) (hw W h) rfl⟩, E7.out.1, E7.out.2⟩)
    obtain ⟨a, ha⟩ : ∃ a : Addr, (⟨g, 0, none⟩ : Addr) = a := ⟨_, rfl⟩
    rw [ha] at HALL ⊢
    obtain ⟨c0, c1, c2, c3, c4⟩ := HXA.out.cells
    clear ha E0 E1 E2 E3 E4 E5 E6 E7 HM BL
    go_wp2_with fail
    clear c0 c1 c2 c3 c4
    go_loopw [9] (fun iv wr => ∃ k : Nat, k ≤ 8 ∧ iv = .int .i64 k ∧ Hid (Below W6.heap.size W6 wr)) (fun iv _ => 8 - (intOf iv).toNat)
    case atStart => exact ⟨0, by omega, rfl, Lib.hid (Below.refl _ _)⟩
    case round =>
      obtain ⟨k, hk, rfl, HBk⟩ := hrel
      by_cases hlt : k < 8
      · obtain ⟨Pk, Gk, Rk, Lk, Ck, hcl, hE, hM⟩ := HALL.out k hlt
        obtain ⟨y0, y1, y2, y3, y4⟩ := hcl wr HBk.out
        have HCL := Lib.hid hcl
        have d1 : decide ((k : Int) < 8) = true := decide_eq_true (by omega)
        have d2 : decide (k < 8) = true := decide_eq_true hlt
        have d3 : (0 : Int) ≤ k := by omega
        have d4 : (k : Int) < 8 := by omega
        clear hcl
        go_wp2_with fail
        refine (L7.Tells.at hE HG6 HBk.out).mono ?_
        rintro e Va ⟨rfl, hb⟩
        have HBa := Lib.hid hb
        clear hb y0 y1 y2 y3 y4
        obtain ⟨y0, y1, y2, y3, y4⟩ := HCL.out Va HBa.out
        go_wp2_with fail
        refine (L7.Tells.at hM HG6 HBa.out).mono ?_
        rintro e Vb ⟨rfl, hb⟩
        have HBb := Lib.hid hb
        clear hb y0 y1 y2 y3 y4
        go_wp2_with fail
        go_roundw
        case rel => exact ⟨k + 1, by omega, by go_num, HBb⟩
        case measure => simp [intOf]; omega
      · obtain rfl : k = 8 := by omega
        obtain ⟨c0, c1, c2, c3, c4⟩ := (HXA.out.below HBk.out).cells
        go_wp2_with fail
        clear c0 c1 c2 c3 c4
        refine (HSR.out _).mono ?_
        rintro e Va ⟨rfl, rfl⟩
        go_wp2_with fail
        refine (L7.Tells.at HFX HG6 HBk.out).mono ?_
        rintro e Vb ⟨rfl, hb⟩
        have HBb := Lib.hid hb
        clear hb
        go_wp2_with fail
        go_ret
        exact ⟨rfl, HBA.out.trans' HBb.out⟩
  · have HE := tEnc P G R L C (enc_form hm)
    have HM := tMay P G R L C (decide_eq_false hm)
    clear hm hn
    go_enter Tryd.func8, Tryd.ntmps8
    go_wp2_with fail
    refine (HM.out _ HG.out).mono ?_
    rintro e V ⟨rfl, hb⟩
    replace HB := Lib.hid (HB.out.trans' hb)
    replace HG := Lib.hid (HG0.out.below HG0.out.lt HB.out)
    replace HC := Lib.hid (HC.out.below hb)
    clear hb
    clear c0 c1 c2 c3 c4
    obtain ⟨c0, c1, c2, c3, c4⟩ := HC.out.cells
    go_wp2_with fail
    refine (HE.out _ HG.out).mono ?_
    rintro e V ⟨rfl, hb⟩
    replace HB := Lib.hid (HB.out.trans' hb)
    replace HG := Lib.hid (HG0.out.below HG0.out.lt HB.out)
    clear hb
    clear c0 c1 c2 c3 c4
    go_wp2_with fail
    refine (HFX.out _ HG.out).mono ?_
    rintro e V ⟨rfl, hb⟩
    replace HB := Lib.hid (HB.out.trans' hb)
    replace HG := Lib.hid (HG0.out.below HG0.out.lt HB.out)
    clear hb
    go_wp2_with fail
    go_ret
    exact ⟨rfl, HB.out⟩
theorem metaEach_walk (P G R L C n : Int) (w : World) (hg : L7.Sizes w) (h0 : (Lit.int .i64 P).wf = true) (h1 : (Lit.int .i64 G).wf = true) (h2 : (Lit.int .i64 R).wf = true) (h3 : (Lit.int .i64 L).wf = true) (h4 : (Lit.int .i64 C).wf = true) (hn : (Lit.int .u8 n).wf = true) :
    Calls Tryd.prog 8 #[mv P G R L C, .int .u8 n] w fun e w' => e = .returned (.bool true) ∧ Below w.heap.size w w' := by
  have hn2 : 0 ≤ n ∧ n ≤ 255 := by simp [Lit.wf, IntKind.min, IntKind.max, IntKind.signed, IntKind.bits] at hn; omega
  exact metaEach_any fixed_any P G R L C n w hg hn2
end Go.Proofs.YtnjmkljnjngpkaaDoor
