/-
  The walk of the program's Open.
-/
import Derived.Test.YtnjmkljnjngpkaaDoorHRead
import Derived.Test.YtnjmkljnjngpkaaDoorHClone
import Derived.Deep.RegionWith
namespace Go.Proofs.YtnjmkljnjngpkaaDoor.L7
open Go.RowKit
set_option linter.unusedVariables false
set_option linter.unusedSimpArgs false

/-- A box of zeros. -/
def Zx (t : TypeId) (g : Nat) (w : World) : Prop := w.heap[g]? = some (.cells #[.int .i64 0, .int .i64 0, .int .i64 0, .int .i64 0, .int .i64 0] t (0, 0))
theorem Zx.bx {t : TypeId} {g : Nat} {w : World} (k : Zx t g w) : Bx t g HP.H0 w := k
theorem Zx.lt {t : TypeId} {g : Nat} {w : World} (k : Zx t g w) : g < w.heap.size := (Array.getElem?_eq_some_iff.1 k).1
theorem Zx.below {t : TypeId} {g : Nat} {w w' : World} (k : Zx t g w) (b : Below w.heap.size w w') : Zx t g w' := (b.block g k.lt).trans k
theorem zx_after {V V' : World} {t : TypeId} (k : Below (V.alloc (.cells #[.int .i64 0, .int .i64 0, .int .i64 0, .int .i64 0, .int .i64 0] t)).heap.size (V.alloc (.cells #[.int .i64 0, .int .i64 0, .int .i64 0, .int .i64 0, .int .i64 0] t)) V') : Zx t V.heap.size V' := (k.block _ (by simp)).trans (heap_alloc_new V _)
theorem Zx.cells {t : TypeId} {g : Nat} {w : World} (k : Zx t g w) : w.cell? ⟨g, 0, none⟩ = some (.int .i64 0) ∧ w.cell? ⟨g, 1, none⟩ = some (.int .i64 0) ∧ w.cell? ⟨g, 2, none⟩ = some (.int .i64 0) ∧ w.cell? ⟨g, 3, none⟩ = some (.int .i64 0) ∧ w.cell? ⟨g, 4, none⟩ = some (.int .i64 0) := k.bx.cells
theorem Zx.frozen {t : TypeId} {g : Nat} {w : World} (k : Zx t g w) : w.frozen? ⟨g, 0, none⟩ = false ∧ w.frozen? ⟨g, 1, none⟩ = false ∧ w.frozen? ⟨g, 2, none⟩ = false ∧ w.frozen? ⟨g, 3, none⟩ = false ∧ w.frozen? ⟨g, 4, none⟩ = false := k.bx.frozen
/-- What is sealed of a page's head and body: the page, or not. -/
theorem sea_open (s : ByteArray) (hm : mayBe s.size = true) :
    (HP.sea (HP.headOf s.data.toList) (s.extract 16 s.size) s.size = (s, 0) ∧ HP.opn s = (HP.headOf s.data.toList, s.extract 16 s.size, 0)) ∨
    (HP.sea (HP.headOf s.data.toList) (s.extract 16 s.size) s.size = (⟨#[]⟩, 3) ∧ HP.opn s = (HP.H0, ⟨#[]⟩, 3)) ∨
    (∃ U : ByteArray, U ≠ s ∧ HP.sea (HP.headOf s.data.toList) (s.extract 16 s.size) s.size = (U, 0) ∧ HP.opn s = (HP.H0, ⟨#[]⟩, 3)) := by
  have hpb := HP.mayBe_bd hm
  have hl : 16 ≤ s.data.toList.length := by simp; omega
  have hT : (s.extract 16 s.size).data.toList = s.data.toList.drop 16 := by
    rw [Lib.extract_data]
    exact List.take_of_length_le (by simp)
  have hTs : (s.extract 16 s.size).size = s.size - 16 := by simp
  have hrest : HP.rest (s.data.toList.drop 16) s.size = s.data.toList.drop 16 := by
    unfold HP.rest
    rw [List.length_drop, show s.size - 16 - (s.data.toList.length - 16) = 0 by simp]
    simp
  cases hr : HP.right (HP.headOf s.data.toList) with
  | false =>
    refine .inr (.inl ⟨HP.seal_form _ hm hr, HP.opn_bad fun h => ?_⟩)
    have := HP.right_iff.2 h.2.1
    rw [hr] at this
    cases this
  | true =>
    have hsea := HP.seal_good (h := HP.headOf s.data.toList) (b := s.extract 16 s.size) hm hr (by rw [hTs]; omega)
    rw [hT, Int.toNat_natCast, hrest] at hsea
    by_cases hg : HP.good s.data.toList
    · refine .inl ⟨?_, HP.opn_good hm hg⟩
      rw [hsea, HP.page_of_good _ hl hg]
    · refine .inr (.inr ⟨_, fun e => hg ?_, hsea, HP.opn_bad fun h => hg h.2⟩)
      refine (HP.good_iff _ hl).2 ⟨HP.right_iff.1 hr, ?_⟩
      have := congrArg (fun x : ByteArray => x.data.toList) e
      simpa using this
/-- What Open answers. -/
def opnV (s : ByteArray) : Value := .tuple #[hv (HP.opn s).1, .string (HP.opn s).2.1, .int .i64 (HP.opn s).2.2]

set_option maxHeartbeats 4000000 in
set_option maxRecDepth 100000 in
theorem open_any (s : ByteArray) (w : World) (hs : Sizes w) (hln : s.size ≤ maxLen) :
    Calls Tryd.prog 44 #[.string s] w fun e w' => e = .returned (opnV s) ∧ Below w.heap.size w w' := by
  unfold maxLen at hln
  have HZ := fun W (hW : Sizes W) => size_any (s.size : Int) W hW
  obtain ⟨ro, hro⟩ : ∃ ro : Obj, ro = .cells #[.int .i64 0, .int .i64 0, .int .i64 0, .int .i64 0, .int .i64 0] 59 := ⟨_, rfl⟩
  have hs1 : Sizes (w.alloc (.cells #[.int .i64 0, .int .i64 0, .int .i64 0, .int .i64 0, .int .i64 0] 59)) := hs.alloc _
  have HB0 := Lib.hid (below_alloc w (.cells #[.int .i64 0, .int .i64 0, .int .i64 0, .int .i64 0, .int .i64 0] 59))
  clear hro
  have HZ2 := Lib.hid (HZ _ hs1)
  clear HZ
  cases hm : mayBe s.size with
  | false =>
    have hv0 : opnV s = .tuple #[.agg #[.int .i64 0, .int .i64 0, .int .i64 0, .int .i64 0, .int .i64 0], .string ⟨#[]⟩, .int .i64 3] := by
      unfold opnV
      rw [HP.opn_bad (s := s) (by rw [hm]; simp)]
      rfl
    rw [hv0]
    rw [hm] at HZ2
    clear hm hs hs1 hv0
    go_enter Tryd.func44, Tryd.ntmps44
    go_wp2_with fail
    refine HZ2.out.mono ?_
    rintro e w1 ⟨rfl, rfl⟩
    go_wp2_with fail
    refine bodyPost_ret (v := .tuple #[.agg #[.int .i64 0, .int .i64 0, .int .i64 0, .int .i64 0, .int .i64 0], .string ⟨#[]⟩, .int .i64 3]) (by simp [results, Tryd.results44, go_sem]) rfl ⟨rfl, HB0.out⟩
  | true =>
    have hpb := HP.mayBe_bd hm
    have HR := Lib.hid (fun W => headRead_any s W (by omega) (by omega))
    have hsl : (0 : Int) ≤ 16 ∧ (16 : Int) ≤ s.size := by omega
    obtain ⟨T, hT⟩ : ∃ T, s.extract 16 s.size = T := ⟨_, rfl⟩
    have sT : T.size = s.size - 16 := by rw [← hT]; simp
    have HC := Lib.hid (fun W => clone_any T W (by omega))
    obtain ⟨hd, hhd⟩ : ∃ hd, HP.headOf s.data.toList = hd := ⟨_, rfl⟩
    rw [hhd] at HR
    obtain ⟨hk, hl, hc, hr, hs5⟩ := hd
    unfold hv at HR
    rw [hm] at HZ2
    have HS1 := Lib.hid hs1
    have HM := Lib.hid hm
    have HT := Lib.hid hT
    have HHD := Lib.hid hhd
    have HRX := Lib.hid (show Zx 59 w.heap.size (w.alloc (.cells #[.int .i64 0, .int .i64 0, .int .i64 0, .int .i64 0, .int .i64 0] 59)) from heap_alloc_new _ _)
    have HLT := Lib.hid (show w.heap.size < (w.alloc (.cells #[.int .i64 0, .int .i64 0, .int .i64 0, .int .i64 0, .int .i64 0] 59)).heap.size by simp)
    have HSE := Lib.hid (fun W (hW : Sizes W) => seal_any ⟨hk, hl, hc, hr, hs5⟩ T s.size W hW (by simp [Lit.wf, IntKind.min, IntKind.max, IntKind.signed, IntKind.bits]; omega) (by unfold maxLen; omega))
    have HCASE := Lib.hid (sea_open s hm)
    rw [hhd, hT] at HCASE
    clear hm hs hs1 hhd
    unfold hv at HSE
    generalize hw0 : w.alloc (.cells #[.int .i64 0, .int .i64 0, .int .i64 0, .int .i64 0, .int .i64 0] 59) = W0 at *
    have HW0 := Lib.hid hw0
    go_enter Tryd.func44, Tryd.ntmps44
    go_wp2_with fail
    clear hw0
    refine HZ2.out.mono ?_
    rintro e w1 ⟨rfl, rfl⟩
    go_wp2_with fail
    go_region_with (first
      | (go_at_call 59; refine (HR.out _).mono ?_; rintro e V2 ⟨rfl, hb2⟩; (try have k2 := Lib.hid (show Zx 59 W0.heap.size V2 from zx_after (below_of_drew hb2))); have HB2 := Lib.hid (below_of_drew hb2); clear hb2)
      | (go_at_call 31; refine (HC.out _).mono ?_; rintro e V3 ⟨rfl, hb3⟩; (try have k3 := Lib.hid (show Zx 59 V2.heap.size V3 from zx_after hb3)); (try have k3 := Lib.hid (k2.out.below hb3)); have HB3 := Lib.hid hb3; clear hb3; (try obtain ⟨y0, y1, y2, y3, y4⟩ := k3.out.cells); (try obtain ⟨z0, z1, z2, z3, z4⟩ := k3.out.frozen)))
    -- each order
    · have hA : Bx 59 (V3.heap.size) ⟨hk, hl, hc, hr, hs5⟩ (V3.alloc (.cells #[.int .i64 hk, .int .i64 hl, .int .i64 hc, .int .i64 hr, .int .i64 hs5] 59)) ∧ Below W0.heap.size W0 (V3.alloc (.cells #[.int .i64 hk, .int .i64 hl, .int .i64 hc, .int .i64 hr, .int .i64 hs5] 59)) ∧ W0.heap.size ≤ V3.heap.size := ⟨heap_alloc_new _ _, (HB2.out.trans' HB3.out).trans' (below_alloc _ _), Nat.le_trans HB2.out.size HB3.out.size⟩
      generalize V3.alloc (.cells #[.int .i64 hk, .int .i64 hl, .int .i64 hc, .int .i64 hr, .int .i64 hs5] 59) = W4 at *
      generalize V3.heap.size = g at *
      obtain ⟨hbx, hb4, hg4⟩ := hA
      have HB4 := Lib.hid (HB0.out.trans' hb4)
      have HZX := Lib.hid (HRX.out.below hb4)
      have HS4 := Lib.hid (HS1.out.kept hb4)
      clear HB0 HRX HS1 hg4
      obtain ⟨x0, x1, x2, x3, x4⟩ := hbx.cells
      have HBX := Lib.hid hbx
      simp only at x0 x1 x2 x3 x4
      clear hbx hb4
      go_wp2_with fail
      refine (HSE.out _ HS4.out).mono ?_
      rintro e W5 ⟨rfl, hb5⟩
      have HB5 := Lib.hid (HB4.out.trans' hb5)
      have HZ5 := Lib.hid (HZX.out.below hb5)
      obtain ⟨v0, v1, v2, v3, v4⟩ := HZ5.out.cells
      obtain ⟨f0, f1, f2, f3, f4⟩ := HZ5.out.frozen
      obtain ⟨c0, c1, c2, c3, c4⟩ := (HBX.out.below hb5).cells
      simp only at c0 c1 c2 c3 c4
      clear hb5 x0 x1 x2 x3 x4
      rcases HCASE.out with ⟨hse, hop⟩ | ⟨hse, hop⟩ | ⟨U, hU, hse, hop⟩
      · rw [hse]
        have HO := Lib.hid hop
        clear hse hop
        simp only
        go_wp2_with fail
        obtain ⟨r0, r1, r2, r3, r4⟩ := (set5_box HZ5.out.bx ⟨hk, hl, hc, hr, hs5⟩).cells
        unfold set5 at r0 r1 r2 r3 r4
        simp only [HP.H0] at r0 r1 r2 r3 r4
        refine bodyPost_ret (v := .tuple #[.agg #[.int .i64 hk, .int .i64 hl, .int .i64 hc, .int .i64 hr, .int .i64 hs5], .string T, .int .i64 0]) (by simp [results, Tryd.results44, go_sem, r0, r1, r2, r3, r4]) rfl ⟨?_, ?_⟩
        · unfold opnV
          rw [HO.out]
          rfl
        · exact set5_below HB5.out (Nat.le_refl _) ⟨hk, hl, hc, hr, hs5⟩
      · rw [hse]
        have HO := Lib.hid hop
        clear hse hop
        simp only
        go_wp2_with fail
        obtain ⟨r0, r1, r2, r3, r4⟩ := (set5_box HZ5.out.bx HP.H0).cells
        unfold set5 at r0 r1 r2 r3 r4
        simp only [HP.H0] at r0 r1 r2 r3 r4
        refine bodyPost_ret (v := .tuple #[.agg #[.int .i64 0, .int .i64 0, .int .i64 0, .int .i64 0, .int .i64 0], .string ⟨#[]⟩, .int .i64 3]) (by simp [results, Tryd.results44, go_sem, r0, r1, r2, r3, r4]) rfl ⟨?_, ?_⟩
        · unfold opnV
          rw [HO.out]
          rfl
        · exact set5_below HB5.out (Nat.le_refl _) HP.H0
      · rw [hse]
        have HO := Lib.hid hop
        have hne : (U.toList == s.toList) = false := by
          rw [Lib.toList_data, Lib.toList_data]
          exact beq_eq_false_iff_ne.2 fun e => hU (ByteArray.ext (Array.toList_inj.1 e))
        clear hse hop
        simp only
        go_wp2_with fail
        obtain ⟨r0, r1, r2, r3, r4⟩ := (set5_box HZ5.out.bx HP.H0).cells
        unfold set5 at r0 r1 r2 r3 r4
        simp only [HP.H0] at r0 r1 r2 r3 r4
        refine bodyPost_ret (v := .tuple #[.agg #[.int .i64 0, .int .i64 0, .int .i64 0, .int .i64 0, .int .i64 0], .string ⟨#[]⟩, .int .i64 3]) (by simp [results, Tryd.results44, go_sem, r0, r1, r2, r3, r4]) rfl ⟨?_, ?_⟩
        · unfold opnV
          rw [HO.out]
          rfl
        · exact set5_below HB5.out (Nat.le_refl _) HP.H0
    · have hA : Bx 59 (V2.heap.size) ⟨hk, hl, hc, hr, hs5⟩ (((((V3.setCell ⟨V2.heap.size, 0, none⟩ (.int .i64 hk)).setCell ⟨V2.heap.size, 1, none⟩ (.int .i64 hl)).setCell ⟨V2.heap.size, 2, none⟩ (.int .i64 hc)).setCell ⟨V2.heap.size, 3, none⟩ (.int .i64 hr)).setCell ⟨V2.heap.size, 4, none⟩ (.int .i64 hs5)) ∧ Below W0.heap.size W0 (((((V3.setCell ⟨V2.heap.size, 0, none⟩ (.int .i64 hk)).setCell ⟨V2.heap.size, 1, none⟩ (.int .i64 hl)).setCell ⟨V2.heap.size, 2, none⟩ (.int .i64 hc)).setCell ⟨V2.heap.size, 3, none⟩ (.int .i64 hr)).setCell ⟨V2.heap.size, 4, none⟩ (.int .i64 hs5)) ∧ W0.heap.size ≤ V2.heap.size := ⟨set5_box k3.out.bx ⟨hk, hl, hc, hr, hs5⟩, set5_below ((HB2.out.trans' (below_alloc _ _)).trans' HB3.out) HB2.out.size ⟨hk, hl, hc, hr, hs5⟩, HB2.out.size⟩
      generalize ((((V3.setCell ⟨V2.heap.size, 0, none⟩ (.int .i64 hk)).setCell ⟨V2.heap.size, 1, none⟩ (.int .i64 hl)).setCell ⟨V2.heap.size, 2, none⟩ (.int .i64 hc)).setCell ⟨V2.heap.size, 3, none⟩ (.int .i64 hr)).setCell ⟨V2.heap.size, 4, none⟩ (.int .i64 hs5) = W4 at *
      generalize V2.heap.size = g at *
      obtain ⟨hbx, hb4, hg4⟩ := hA
      have HB4 := Lib.hid (HB0.out.trans' hb4)
      have HZX := Lib.hid (HRX.out.below hb4)
      have HS4 := Lib.hid (HS1.out.kept hb4)
      clear HB0 HRX HS1 hg4
      obtain ⟨x0, x1, x2, x3, x4⟩ := hbx.cells
      have HBX := Lib.hid hbx
      simp only at x0 x1 x2 x3 x4
      clear hbx hb4
      go_wp2_with fail
      refine (HSE.out _ HS4.out).mono ?_
      rintro e W5 ⟨rfl, hb5⟩
      have HB5 := Lib.hid (HB4.out.trans' hb5)
      have HZ5 := Lib.hid (HZX.out.below hb5)
      obtain ⟨v0, v1, v2, v3, v4⟩ := HZ5.out.cells
      obtain ⟨f0, f1, f2, f3, f4⟩ := HZ5.out.frozen
      obtain ⟨c0, c1, c2, c3, c4⟩ := (HBX.out.below hb5).cells
      simp only at c0 c1 c2 c3 c4
      clear hb5 x0 x1 x2 x3 x4
      rcases HCASE.out with ⟨hse, hop⟩ | ⟨hse, hop⟩ | ⟨U, hU, hse, hop⟩
      · rw [hse]
        have HO := Lib.hid hop
        clear hse hop
        simp only
        go_wp2_with fail
        obtain ⟨r0, r1, r2, r3, r4⟩ := (set5_box HZ5.out.bx ⟨hk, hl, hc, hr, hs5⟩).cells
        unfold set5 at r0 r1 r2 r3 r4
        simp only [HP.H0] at r0 r1 r2 r3 r4
        refine bodyPost_ret (v := .tuple #[.agg #[.int .i64 hk, .int .i64 hl, .int .i64 hc, .int .i64 hr, .int .i64 hs5], .string T, .int .i64 0]) (by simp [results, Tryd.results44, go_sem, r0, r1, r2, r3, r4]) rfl ⟨?_, ?_⟩
        · unfold opnV
          rw [HO.out]
          rfl
        · exact set5_below HB5.out (Nat.le_refl _) ⟨hk, hl, hc, hr, hs5⟩
      · rw [hse]
        have HO := Lib.hid hop
        clear hse hop
        simp only
        go_wp2_with fail
        obtain ⟨r0, r1, r2, r3, r4⟩ := (set5_box HZ5.out.bx HP.H0).cells
        unfold set5 at r0 r1 r2 r3 r4
        simp only [HP.H0] at r0 r1 r2 r3 r4
        refine bodyPost_ret (v := .tuple #[.agg #[.int .i64 0, .int .i64 0, .int .i64 0, .int .i64 0, .int .i64 0], .string ⟨#[]⟩, .int .i64 3]) (by simp [results, Tryd.results44, go_sem, r0, r1, r2, r3, r4]) rfl ⟨?_, ?_⟩
        · unfold opnV
          rw [HO.out]
          rfl
        · exact set5_below HB5.out (Nat.le_refl _) HP.H0
      · rw [hse]
        have HO := Lib.hid hop
        have hne : (U.toList == s.toList) = false := by
          rw [Lib.toList_data, Lib.toList_data]
          exact beq_eq_false_iff_ne.2 fun e => hU (ByteArray.ext (Array.toList_inj.1 e))
        clear hse hop
        simp only
        go_wp2_with fail
        obtain ⟨r0, r1, r2, r3, r4⟩ := (set5_box HZ5.out.bx HP.H0).cells
        unfold set5 at r0 r1 r2 r3 r4
        simp only [HP.H0] at r0 r1 r2 r3 r4
        refine bodyPost_ret (v := .tuple #[.agg #[.int .i64 0, .int .i64 0, .int .i64 0, .int .i64 0, .int .i64 0], .string ⟨#[]⟩, .int .i64 3]) (by simp [results, Tryd.results44, go_sem, r0, r1, r2, r3, r4]) rfl ⟨?_, ?_⟩
        · unfold opnV
          rw [HO.out]
          rfl
        · exact set5_below HB5.out (Nat.le_refl _) HP.H0
    · have hA : Bx 59 (W0.heap.size) ⟨hk, hl, hc, hr, hs5⟩ (((((V3.setCell ⟨W0.heap.size, 0, none⟩ (.int .i64 hk)).setCell ⟨W0.heap.size, 1, none⟩ (.int .i64 hl)).setCell ⟨W0.heap.size, 2, none⟩ (.int .i64 hc)).setCell ⟨W0.heap.size, 3, none⟩ (.int .i64 hr)).setCell ⟨W0.heap.size, 4, none⟩ (.int .i64 hs5)) ∧ Below W0.heap.size W0 (((((V3.setCell ⟨W0.heap.size, 0, none⟩ (.int .i64 hk)).setCell ⟨W0.heap.size, 1, none⟩ (.int .i64 hl)).setCell ⟨W0.heap.size, 2, none⟩ (.int .i64 hc)).setCell ⟨W0.heap.size, 3, none⟩ (.int .i64 hr)).setCell ⟨W0.heap.size, 4, none⟩ (.int .i64 hs5)) ∧ W0.heap.size ≤ W0.heap.size := ⟨set5_box k3.out.bx ⟨hk, hl, hc, hr, hs5⟩, set5_below (((below_alloc _ _).trans' HB2.out).trans' HB3.out) (Nat.le_refl _) ⟨hk, hl, hc, hr, hs5⟩, Nat.le_refl _⟩
      generalize ((((V3.setCell ⟨W0.heap.size, 0, none⟩ (.int .i64 hk)).setCell ⟨W0.heap.size, 1, none⟩ (.int .i64 hl)).setCell ⟨W0.heap.size, 2, none⟩ (.int .i64 hc)).setCell ⟨W0.heap.size, 3, none⟩ (.int .i64 hr)).setCell ⟨W0.heap.size, 4, none⟩ (.int .i64 hs5) = W4 at *
      obtain ⟨hbx, hb4, hg4⟩ := hA
      have HB4 := Lib.hid (HB0.out.trans' hb4)
      have HZX := Lib.hid (HRX.out.below hb4)
      have HS4 := Lib.hid (HS1.out.kept hb4)
      clear HB0 HRX HS1 hg4
      obtain ⟨x0, x1, x2, x3, x4⟩ := hbx.cells
      have HBX := Lib.hid hbx
      simp only at x0 x1 x2 x3 x4
      clear hbx hb4
      go_wp2_with fail
      refine (HSE.out _ HS4.out).mono ?_
      rintro e W5 ⟨rfl, hb5⟩
      have HB5 := Lib.hid (HB4.out.trans' hb5)
      have HZ5 := Lib.hid (HZX.out.below hb5)
      obtain ⟨v0, v1, v2, v3, v4⟩ := HZ5.out.cells
      obtain ⟨f0, f1, f2, f3, f4⟩ := HZ5.out.frozen
      obtain ⟨c0, c1, c2, c3, c4⟩ := (HBX.out.below hb5).cells
      simp only at c0 c1 c2 c3 c4
      clear hb5 x0 x1 x2 x3 x4
      rcases HCASE.out with ⟨hse, hop⟩ | ⟨hse, hop⟩ | ⟨U, hU, hse, hop⟩
      · rw [hse]
        have HO := Lib.hid hop
        clear hse hop
        simp only
        go_wp2_with fail
        obtain ⟨r0, r1, r2, r3, r4⟩ := (set5_box HZ5.out.bx ⟨hk, hl, hc, hr, hs5⟩).cells
        unfold set5 at r0 r1 r2 r3 r4
        simp only [HP.H0] at r0 r1 r2 r3 r4
        refine bodyPost_ret (v := .tuple #[.agg #[.int .i64 hk, .int .i64 hl, .int .i64 hc, .int .i64 hr, .int .i64 hs5], .string T, .int .i64 0]) (by simp [results, Tryd.results44, go_sem, r0, r1, r2, r3, r4]) rfl ⟨?_, ?_⟩
        · unfold opnV
          rw [HO.out]
          rfl
        · exact set5_below HB5.out (Nat.le_refl _) ⟨hk, hl, hc, hr, hs5⟩
      · rw [hse]
        have HO := Lib.hid hop
        clear hse hop
        simp only
        go_wp2_with fail
        obtain ⟨r0, r1, r2, r3, r4⟩ := (set5_box HZ5.out.bx HP.H0).cells
        unfold set5 at r0 r1 r2 r3 r4
        simp only [HP.H0] at r0 r1 r2 r3 r4
        refine bodyPost_ret (v := .tuple #[.agg #[.int .i64 0, .int .i64 0, .int .i64 0, .int .i64 0, .int .i64 0], .string ⟨#[]⟩, .int .i64 3]) (by simp [results, Tryd.results44, go_sem, r0, r1, r2, r3, r4]) rfl ⟨?_, ?_⟩
        · unfold opnV
          rw [HO.out]
          rfl
        · exact set5_below HB5.out (Nat.le_refl _) HP.H0
      · rw [hse]
        have HO := Lib.hid hop
        have hne : (U.toList == s.toList) = false := by
          rw [Lib.toList_data, Lib.toList_data]
          exact beq_eq_false_iff_ne.2 fun e => hU (ByteArray.ext (Array.toList_inj.1 e))
        clear hse hop
        simp only
        go_wp2_with fail
        obtain ⟨r0, r1, r2, r3, r4⟩ := (set5_box HZ5.out.bx HP.H0).cells
        unfold set5 at r0 r1 r2 r3 r4
        simp only [HP.H0] at r0 r1 r2 r3 r4
        refine bodyPost_ret (v := .tuple #[.agg #[.int .i64 0, .int .i64 0, .int .i64 0, .int .i64 0, .int .i64 0], .string ⟨#[]⟩, .int .i64 3]) (by simp [results, Tryd.results44, go_sem, r0, r1, r2, r3, r4]) rfl ⟨?_, ?_⟩
        · unfold opnV
          rw [HO.out]
          rfl
        · exact set5_below HB5.out (Nat.le_refl _) HP.H0
end Go.Proofs.YtnjmkljnjngpkaaDoor.L7
