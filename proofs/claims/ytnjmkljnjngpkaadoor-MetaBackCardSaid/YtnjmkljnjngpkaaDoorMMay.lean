/-
  The walks of meta.bounded and meta.May.
-/
import Derived.Test.YtnjmkljnjngpkaaDoorMEq
import Derived.Test.YtnjmkljnjngpkaaDoorHSize
import Derived.BigQuiet
import Derived.IntWalk
import Derived.Lib.MinMaxS
import Derived.Deep.QuietTactic
import Derived.Deep.RegionHeld3
namespace Go.Proofs.YtnjmkljnjngpkaaDoor
open Go.RowKit MP
set_option linter.unusedVariables false
set_option linter.unusedSimpArgs false

def bG (G : Int) : Int := min (max G 2) 4096
def bR (G R : Int) : Int := min (max R 1) (bG G - 1)
def bL (L : Int) : Int := min (max L 0) 255
def bC (C : Int) : Int := min (max C 0) 2147483647
theorem may_iff (P G R L C : Int) : May ⟨P, G, R, L, C⟩ ↔ L7.mayBe P = true ∧ G = bG G ∧ R = bR G R ∧ L = bL L ∧ C = bC C := by
  unfold May bR bG bL bC
  simp only
  constructor
  · rintro ⟨h1, h2, h3, h4, h5, h6, h7, h8, h9⟩
    refine ⟨h1, ?_, ?_, ?_, ?_⟩ <;> omega
  · rintro ⟨h1, h2, h3, h4, h5⟩
    refine ⟨h1, ?_, ?_, ?_, ?_, ?_, ?_, ?_, ?_⟩ <;> omega

set_option maxHeartbeats 1000000 in
theorem bounded_any (P G R L C : Int) (w : World) : Calls Tryd.prog 30 #[mv P G R L C] w fun e w' => e = .returned (mv P (bG G) (bR G R) (bL L) (bC C)) ∧ Below w.heap.size w w' := by
  obtain ⟨G', hG⟩ : ∃ G', min (max G 2) 4096 = G' := ⟨_, rfl⟩
  obtain ⟨R', hR⟩ : ∃ R', min (max R 1) (G' - 1) = R' := ⟨_, rfl⟩
  obtain ⟨L', hL⟩ : ∃ L', min (max L 0) 255 = L' := ⟨_, rfl⟩
  obtain ⟨C', hC⟩ : ∃ C', min (max C 0) 2147483647 = C' := ⟨_, rfl⟩
  have hw : IntKind.i64.wrap (G' - 1) = G' - 1 := IntWalk.i64_in _ (by omega)
  rw [show bC C = C' from hC, show bL L = L' from hL, show bR G R = R' by unfold bR bG; rw [hG, hR], show bG G = G' from hG]
  have hb1 := mbox_below 23 P G R L C w
  have hs1 := mbox_size 23 P G R L C w
  have hb2 := mbox_below 23 0 0 0 0 0 (mbox 23 P G R L C w)
  have HX := Lib.hid ((mbox_new 23 P G R L C w).below hb2)
  have HY := Lib.hid (mbox_new 23 0 0 0 0 0 (mbox 23 P G R L C w))
  have HB := Lib.hid (hb1.trans' hb2)
  clear hb1 hb2 hs1
  obtain ⟨x0, x1, x2, x3, x4⟩ := HX.out.cells
  obtain ⟨y0, y1, y2, y3, y4⟩ := HY.out.cells
  obtain ⟨f0, f1, f2, f3, f4⟩ := HX.out.free
  obtain ⟨g0, g1, g2, g3, g4⟩ := HY.out.free
  simp only [mbox] at x0 x1 x2 x3 x4 y0 y1 y2 y3 y4 f0 f1 f2 f3 f4 g0 g1 g2 g3 g4
  go_enter Tryd.func30, Tryd.ntmps30
  go_wp2_with fail
  have hr := mbox_new 23 P G' R' L' C' (mbox 23 P G' R' L' C' w)
  rw [mbox_size] at hr
  obtain ⟨r0, r1, r2, r3, r4⟩ := hr.cells
  refine bodyPost_ret (v := mv P G' R' L' C') (by simp [results, Tryd.results30, go_sem, r0, r1, r2, r3, r4]) rfl ⟨rfl, ?_⟩
  exact (mbox_below _ _ _ _ _ _ w).trans' (mbox_below _ _ _ _ _ _ _)

theorem tSize (p : Int) {b : Bool} (h : L7.mayBe p = b) : Hid (L7.Tells 29 #[.int .i64 p] (.bool b)) := Lib.hid fun W hW => (L7.size_any p W hW).mono fun e w' ⟨h1, h2⟩ => ⟨by rw [h1, h], by subst h2; exact Below.refl _ _⟩
theorem tBounded (P G R L C : Int) : Hid (L7.Tells 30 #[mv P G R L C] (mv P (bG G) (bR G R) (bL L) (bC C))) := Lib.hid fun W _ => bounded_any P G R L C W

set_option maxHeartbeats 1000000 in
set_option maxRecDepth 100000 in
theorem may_any (P G R L C : Int) (w : World) (hs : L7.Sizes w) :
    Calls Tryd.prog 14 #[mv P G R L C] w fun e w' => e = .returned (.bool (decide (May ⟨P, G, R, L, C⟩))) ∧ Below w.heap.size w w' := by
  have hb := mbox_below 23 P G R L C w
  have HB := Lib.hid hb
  have HK := Lib.hid (mbox_new 23 P G R L C w)
  have HS := Lib.hid (hs.below hs.lt hb)
  have HBD := tBounded P G R L C
  have hiff := may_iff P G R L C
  obtain ⟨r, HRS⟩ : ∃ r, Hid (r = decide (May ⟨P, G, R, L, C⟩)) := ⟨_, Lib.hid rfl⟩
  rw [← HRS.out]
  clear hb hs
  generalize hw0 : mbox 23 P G R L C w = W0 at *
  have hw1 : w.alloc (.cells #[.int .i64 P, .int .i64 G, .int .i64 R, .int .i64 L, .int .i64 C] 23) = W0 := hw0
  clear hw0
  have HSA : Hid (∀ V, Below W0.heap.size W0 V → (fun V => Hid (Below W0.heap.size W0 V) ∧ V.cell? ⟨w.heap.size, 0, none⟩ = some (.int .i64 P) ∧ V.cell? ⟨w.heap.size, 1, none⟩ = some (.int .i64 G) ∧ V.cell? ⟨w.heap.size, 2, none⟩ = some (.int .i64 R) ∧ V.cell? ⟨w.heap.size, 3, none⟩ = some (.int .i64 L) ∧ V.cell? ⟨w.heap.size, 4, none⟩ = some (.int .i64 C)) V) := Lib.hid (fun V hb => ⟨Lib.hid hb, (HK.out.below hb).cells⟩)
  have hSA := HSA.out _ (Below.refl _ _)
  have hSd := HSA.out _ (L5.below_drewN (Below.refl _ W0) 1)
  cases hm : L7.mayBe P with
  | false =>
    have HX : Hid (r = false) := Lib.hid (by rw [HRS.out]; exact decide_eq_false (fun h => by have := (hiff.1 h).1; rw [hm] at this; cases this))
    have HSZ := tSize P hm
    clear hm hiff
    go_enter Tryd.func14, Tryd.ntmps14
    go_wp2_with fail
    go_region_with (first
      | (go_at_call 29; refine (L7.Tells.at HSZ HS hSd.1.out).mono ?_; rintro e V5 ⟨rfl, hb⟩)
      | fail "no arm")
    all_goals (go_wp2_with fail)
    all_goals (go_ret; exact ⟨by rw [HX.out] <;> rfl, HB.out.trans' hb⟩)
  | true =>
    have HSZ := tSize P hm
    obtain ⟨G', hG⟩ : ∃ G', bG G = G' := ⟨_, rfl⟩
    obtain ⟨R', hR⟩ : ∃ R', bR G R = R' := ⟨_, rfl⟩
    obtain ⟨L', hL⟩ : ∃ L', bL L = L' := ⟨_, rfl⟩
    obtain ⟨C', hC⟩ : ∃ C', bC C = C' := ⟨_, rfl⟩
    rw [hG, hR, hL, hC] at hiff HBD
    have hX : r = (P == P && G == G' && R == R' && L == L' && C == C') := by
      rw [HRS.out]
      by_cases h : May ⟨P, G, R, L, C⟩
      · rw [decide_eq_true h]
        obtain ⟨_, h1, h2, h3, h4⟩ := hiff.1 h
        rw [← h1, ← h2, ← h3, ← h4]
        simp
      · rw [decide_eq_false h]
        symm
        rw [Bool.eq_false_iff]
        intro hh
        simp at hh
        exact h (hiff.2 ⟨hm, hh.1.1.1, hh.1.1.2, hh.1.2, hh.2⟩)
    have HX := Lib.hid hX
    have heq := fun W => eqM P G R L C P G' R' L' C' W
    obtain ⟨q, hq⟩ : ∃ q, (P == P && G == G' && R == R' && L == L' && C == C') = q := ⟨_, rfl⟩
    rw [hq] at HX
    simp only [hq] at heq
    clear hm hiff hG hR hL hC hX HRS hq
    go_enter Tryd.func14, Tryd.ntmps14
    go_wp2_with fail
    go_region_held3 (fun V => Hid (Below W0.heap.size W0 V) ∧ V.cell? ⟨w.heap.size, 0, none⟩ = some (.int .i64 P) ∧ V.cell? ⟨w.heap.size, 1, none⟩ = some (.int .i64 G) ∧ V.cell? ⟨w.heap.size, 2, none⟩ = some (.int .i64 R) ∧ V.cell? ⟨w.heap.size, 3, none⟩ = some (.int .i64 L) ∧ V.cell? ⟨w.heap.size, 4, none⟩ = some (.int .i64 C)) (first | assumption | exact hSd)
      (first
        | (go_at_call 29; refine (L7.Tells.held HSZ HS (by assumption)).mono ?_; rintro e V5 ⟨rfl, hb⟩; have hSn := HSA.out _ hb)
        | (go_at_call 30; refine (L7.Tells.held HBD HS (by assumption)).mono ?_; rintro e V5 ⟨rfl, hb⟩; have hSn := HSA.out _ hb)
        | fail "no arm")
    go_wp2_with fail
    go_ret
    exact ⟨by rw [HX.out] <;> rfl, HB.out.trans' hb⟩
end Go.Proofs.YtnjmkljnjngpkaaDoor
