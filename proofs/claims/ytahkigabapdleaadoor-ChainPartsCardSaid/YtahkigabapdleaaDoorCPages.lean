/-
  The walks of chain.Pages, and of the document's; of the laws' Ref and Cut.
-/
import Derived.Test.YtahkigabapdleaaDoorCMay
import Derived.Test.YtahkigabapdleaaDoorHRef
import Derived.Test.YtahkigabapdleaaDoorECut
namespace Go.Proofs.YtahkigabapdleaaDoor
open Go.RowKit CP
set_option linter.unusedVariables false
set_option linter.unusedSimpArgs false

theorem pagesI_succ (m r : Nat) : pagesI ((m : Int) + 1) r = (m : Int) / (r : Int) + 1 := by
  unfold pagesI
  rw [if_neg (by omega)]
  congr 2
  omega
set_option maxHeartbeats 1000000 in
theorem pages_any (n : Int) (p r : Nat) (w : World) (hp : L7.mayBe p = true) (hr : p = r + 16) (hn : (Lit.int .i64 n).wf = true) (hs : L7.Sizes w) :
    Calls Tryd.prog 22 #[.int .i64 n, .int .i64 p] w fun e w' => e = .returned (.int .i64 (pagesI n r)) ∧ w = w' := by
  have HSZ := Lib.hid (L7.size_any p w hs)
  rw [hp] at HSZ
  have hp2 := mayBe_le hp
  have HRM := Lib.hid (fun W => room_any p W hp2)
  rw [show (p : Int) - 16 = (r : Int) by omega] at HRM
  have hb := bounds_i64 hn
  by_cases h1 : n < 1
  · have d1 : decide (n < 1) = true := decide_eq_true h1
    have HX : Hid (pagesI n r = 0) := Lib.hid (by unfold pagesI; rw [if_pos h1])
    clear hp hr hp2 hn hs h1 hb
    go_enter Tryd.func22, Tryd.ntmps22
    go_wp2_with fail
    go_ret
    exact ⟨by rw [HX.out] <;> rfl, rfl⟩
  · have d1 : decide (n < 1) = false := decide_eq_false h1
    obtain ⟨m, rfl⟩ : ∃ m : Nat, n = (m : Int) + 1 := ⟨(n - 1).toNat, by omega⟩
    have hw : wrap64 (m : Int) = m := IntWalk.wrap64_in _ (by omega)
    obtain ⟨q, hq⟩ : ∃ q : Nat, m / r = q := ⟨_, rfl⟩
    have hqm : q ≤ m := by rw [← hq]; exact Nat.div_le_self _ _
    have ht : (m : Int).tdiv (r : Int) = (q : Int) := by rw [← hq]; exact (Int.ofNat_tdiv m r).symm
    have hw2 : wrap64 (q : Int) = q := IntWalk.wrap64_in _ (by omega)
    have hw3 : wrap64 ((q : Int) + 1) = (q : Int) + 1 := IntWalk.wrap64_in _ (by omega)
    have hr0 : ((r : Int) == 0) = false := by simp; omega
    have HX : Hid (pagesI ((m : Int) + 1) r = (q : Int) + 1) := Lib.hid (by rw [pagesI_succ, ← hq]; push_cast; rfl)
    rw [HX.out]
    have hr1 : ¬ r = 0 := by omega
    clear HX hq hp hr hp2 hn hs h1 hb hqm
    go_enter Tryd.func22, Tryd.ntmps22
    go_wp2_with fail
    refine HSZ.out.mono ?_
    rintro e w2 ⟨rfl, rfl⟩
    go_wp2_with fail
    refine (HRM.out _).mono ?_
    rintro e w2 ⟨rfl, rfl⟩
    go_wp2_with fail
    go_ret
    exact ⟨by show Ending.returned (.int .i64 (wrap64 ((q : Int) + 1))) = _; rw [hw3], rfl⟩
set_option maxHeartbeats 1000000 in
theorem rpages_any (n : Int) (p r : Nat) (w : World) (hp : L7.mayBe p = true) (hr : p = r + 16) (hn : (Lit.int .i64 n).wf = true) :
    Calls Tryd.prog 23 #[.int .i64 n, .int .i64 p] w fun e w' => e = .returned (.int .i64 (pagesI n r)) ∧ w = w' := by
  have hp2 := mayBe_le hp
  have hb := bounds_i64 hn
  by_cases h1 : n < 1
  · have d1 : decide (n < 1) = true := decide_eq_true h1
    have HX : Hid (pagesI n r = 0) := Lib.hid (by unfold pagesI; rw [if_pos h1])
    clear hp hr hp2 hn h1 hb
    go_enter Tryd.func23, Tryd.ntmps23
    go_wp2_with fail
    go_ret
    exact ⟨by rw [HX.out] <;> rfl, rfl⟩
  · have d1 : decide (n < 1) = false := decide_eq_false h1
    obtain ⟨m, rfl⟩ : ∃ m : Nat, n = (m : Int) + 1 := ⟨(n - 1).toNat, by omega⟩
    have hwp : wrap64 ((p : Int) - 16) = (r : Int) := (IntWalk.wrap64_in _ (by omega)).trans (by omega)
    have hw : wrap64 (m : Int) = m := IntWalk.wrap64_in _ (by omega)
    obtain ⟨q, hq⟩ : ∃ q : Nat, m / r = q := ⟨_, rfl⟩
    have hqm : q ≤ m := by rw [← hq]; exact Nat.div_le_self _ _
    have ht : (m : Int).tdiv (r : Int) = (q : Int) := by rw [← hq]; exact (Int.ofNat_tdiv m r).symm
    have hw2 : wrap64 (q : Int) = q := IntWalk.wrap64_in _ (by omega)
    have hw3 : wrap64 ((q : Int) + 1) = (q : Int) + 1 := IntWalk.wrap64_in _ (by omega)
    have hr0 : ((r : Int) == 0) = false := by simp; omega
    have HX : Hid (pagesI ((m : Int) + 1) r = (q : Int) + 1) := Lib.hid (by rw [pagesI_succ, ← hq]; push_cast; rfl)
    rw [HX.out]
    have hr1 : ¬ r = 0 := by omega
    clear HX hq hp hr hp2 hn h1 hb hqm
    go_enter Tryd.func23, Tryd.ntmps23
    go_wp2_with fail
    go_ret
    exact ⟨by show Ending.returned (.int .i64 (wrap64 ((q : Int) + 1))) = _; rw [hw3], rfl⟩

/-- The laws' Cut: of data of at most 1100 bytes. -/
def cutD (D : ByteArray) : ByteArray := D.extract 0 (min D.size 1100)
theorem cutD_size (D : ByteArray) : (cutD D).size ≤ 1100 := by unfold cutD; rw [ByteArray.size_extract]; omega
theorem cut_1100 (s : ByteArray) : ∃ m : Nat, min (s.size : Int) 1100 = m ∧ m = min s.size 1100 ∧ m ≤ s.size := ⟨min s.size 1100, by omega, rfl, by omega⟩
set_option maxHeartbeats 1000000 in
theorem cut_any (F N : Int) (D : ByteArray) (w : World) :
    Calls Tryd.prog 9 #[cv F N D] w fun e w' => e = .returned (cv F N (cutD D)) ∧ Below w.heap.size w w' := by
  obtain ⟨m, hm1, hm2, hm3⟩ := cut_1100 D
  have HX : Hid (D.extract 0 m = cutD D) := Lib.hid (by unfold cutD; rw [hm2])
  have q1 : (0 : Int) ≤ m := by omega
  have q2 : (m : Int) ≤ D.size := by omega
  have hbl : Below w.heap.size w ((cbox 23 F N D w).alloc (.cells #[.int .i64 0, .int .i64 0, .string ⟨#[]⟩] 23)) := (cbox_below 23 F N D w).trans' (L5.below_alloc _ _)
  clear hm2 hm3
  go_enter Tryd.func9, Tryd.ntmps9
  go_wp2_with fail
  refine bodyPost_ret (v := cv F N (D.extract 0 m)) (by simp [results, Tryd.results9, go_sem]) rfl ⟨by rw [HX.out], ?_⟩
  exact (cbox_below 23 F N (D.extract 0 m) w).trans' (L5.below_alloc _ _)
set_option maxHeartbeats 1000000 in
theorem ref_any (F N : Int) (D : ByteArray) (w : World) :
    Calls Tryd.prog 12 #[cv F N D] w fun e w' => e = .returned (cv F N D) ∧ Below w.heap.size w w' := by
  go_enter Tryd.func12, Tryd.ntmps12
  go_wp2_with fail
  refine bodyPost_ret (v := cv F N D) (by simp [results, Tryd.results12, go_sem]) rfl ⟨rfl, ?_⟩
  exact (cbox_below 23 F N D w).trans' (L5.below_alloc _ _)
end Go.Proofs.YtahkigabapdleaaDoor
