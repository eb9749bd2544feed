/-
  Walks of the program's sealable, sealed, Seal.
-/
import Derived.Test.YtnjmkljnjngpkaaDoorHLaid
import Derived.Test.YtnjmkljnjngpkaaDoorHSize
import Derived.Test.YtnjmkljnjngpkaaDoorShelf
import Derived.Test.YtnjmkljnjngpkaaDoorFrame
import Derived.Test.YtnjmkljnjngpkaaDoorHBox
import Derived.Lib.Repeat
namespace Go.Proofs.YtnjmkljnjngpkaaDoor.L7
open Go.RowKit
set_option linter.unusedVariables false
set_option linter.unusedSimpArgs false

theorem Sizes.kept {w w' : World} (h : Sizes w) (k : Below w.heap.size w w') : Sizes w' := h.below h.lt k
theorem Sizes.alloc {w : World} (h : Sizes w) (o : Obj) : Sizes (w.alloc o) := h.kept (below_alloc w o)

/-- What sealable answers. -/
def Why (h : HP.H) (b : ByteArray) (p : Int) (v : Value) : Prop :=
  (mayBe p = false ∧ ∃ a, v = fa a (er 4)) ∨ (mayBe p = true ∧ HP.right h = false ∧ ∃ a c, v = fa a (fa c (er 3))) ∨ (mayBe p = true ∧ HP.right h = true ∧ p - 16 < (b.size : Int) ∧ ∃ a, v = fa a (er 8)) ∨ (mayBe p = true ∧ HP.right h = true ∧ ¬ p - 16 < (b.size : Int) ∧ v = .nilIface)

set_option maxHeartbeats 2000000 in
set_option maxRecDepth 100000 in
theorem sealable_any (h : HP.H) (b : ByteArray) (p : Int) (w : World) (hs : Sizes w) (hp : (Lit.int .i64 p).wf = true) (hb : b.size ≤ maxLen) :
    Calls Tryd.prog 39 #[hv h, .string b, .int .i64 p] w fun e w' => ∃ v, e = .returned v ∧ Below w.heap.size w w' ∧ Why h b p v := by
  have hpb := bounds_i64 hp
  unfold maxLen at hb
  have HZ : ∀ W, Sizes W → Calls Tryd.prog 29 #[.int .i64 p] W fun e w' => e = .returned (.bool (mayBe p)) ∧ W = w' := fun W hW => size_any p W hW
  have HF := Lib.hid (fields_any h)
  have HW := Lib.hid (within_any h)
  obtain ⟨bo, hbo⟩ : ∃ bo : Obj, bo = .cells #[.int .i64 h.k, .int .i64 h.l, .int .i64 h.c, .int .i64 h.r, .int .i64 h.s] 59 := ⟨_, rfl⟩
  have hs1 : Sizes (w.alloc (.cells #[.int .i64 h.k, .int .i64 h.l, .int .i64 h.c, .int .i64 h.r, .int .i64 h.s] 59)) := hs.alloc _
  have HB0 := Lib.hid (below_alloc w (.cells #[.int .i64 h.k, .int .i64 h.l, .int .i64 h.c, .int .i64 h.r, .int .i64 h.s] 59))
  clear hbo
  cases hm : mayBe p with
  | false =>
    have HZ2 := Lib.hid (HZ _ hs1)
    rw [hm] at HZ2
    have HM := Lib.hid hm
    clear HZ hm hs hs1 hp
    unfold hv
    go_enter Tryd.func39, Tryd.ntmps39
    go_wp2_with fail
    refine HZ2.out.mono ?_
    rintro e w1 ⟨rfl, rfl⟩
    go_wp2_with fail
    go_ret
    exact ⟨_, rfl, HB0.out, .inl ⟨HM.out, _, rfl⟩⟩
  | true =>
    have hpb2 := HP.mayBe_bd hm
    have HZ2 := Lib.hid (HZ _ hs1)
    rw [hm] at HZ2
    have HM := Lib.hid hm
    clear HZ hm hs hs1 hp
    obtain ⟨q, hq⟩ : ∃ q, HP.right h = q := ⟨_, rfl⟩
    rw [hq] at HW
    have HQ := Lib.hid hq
    clear hq
    unfold hv at *
    go_enter Tryd.func39, Tryd.ntmps39
    go_wp2_with fail
    refine HZ2.out.mono ?_
    rintro e w1 ⟨rfl, rfl⟩
    go_wp2_with fail
    refine (HF.out _).mono ?_
    rintro e w1 ⟨a, rfl, hL, hb1⟩
    have HB1 := Lib.hid (HB0.out.trans' hb1)
    clear hb1
    go_wp2_with fail
    refine (HW.out a _ hL).mono ?_
    rintro e w2 ⟨v, rfl, hb2, hv2⟩
    have HB2 := Lib.hid (HB1.out.trans' hb2)
    clear hb2 hL
    rcases hv2 with ⟨rfl, rfl⟩ | ⟨rfl, nm, rfl⟩
    · by_cases hbig : p - 16 < (b.size : Int)
      · have HG := Lib.hid hbig
        go_wp2_with fail
        go_ret
        exact ⟨_, rfl, HB2.out, .inr (.inr (.inl ⟨HM.out, HQ.out, HG.out, _, rfl⟩))⟩
      · have HG := Lib.hid hbig
        go_wp2_with fail
        go_ret
        exact ⟨_, rfl, HB2.out, .inr (.inr (.inr ⟨HM.out, HQ.out, Int.not_lt.2 HG.out, rfl⟩))⟩
    · unfold fa
      go_wp2_with fail
      go_ret
      exact ⟨_, rfl, HB2.out, .inr (.inl ⟨HM.out, HQ.out, _, nm, rfl⟩)⟩

theorem zeros_repeat (m : Nat) : Lib.repeatL [0] m = List.replicate m 0 := by
  have h := Lib.repeatL_replicate 0 1 m
  rw [Nat.mul_one] at h
  exact h
theorem repeat_zeros (n : Nat) (w : World) (hn : n ≤ 100000) :
    Calls Tryd.prog 24 #[.string ⟨#[0]⟩, .int .i64 n] w fun e w' => e = .returned (.string ⟨(List.replicate n (0 : UInt8)).toArray⟩) ∧ Below w.heap.size w w' := by
  refine (Tryd.strings_Repeat ⟨#[0]⟩ n w (by omega) (by show 1 * n ≤ _; omega)).mono fun e w' ⟨he, hw⟩ => ⟨?_, hw⟩
  rw [he, show (⟨#[0]⟩ : ByteArray).data.toList = [0] from rfl, zeros_repeat]

set_option maxHeartbeats 2000000 in
set_option maxRecDepth 100000 in
theorem sealed_any (h : HP.H) (b : ByteArray) (p : Nat) (w : World) (hr : HP.Ok h) (hb : b.size + 16 ≤ p) (hp : p ≤ 1024) :
    Calls Tryd.prog 41 #[hv h, .string b, .int .i64 p] w fun e w' => e = .returned (.string ⟨(HP.page (HP.front h) (HP.rest b.data.toList p)).toArray⟩) ∧ Below w.heap.size w w' := by
  have HFi := Lib.hid (fields_any h)
  have HLa := Lib.hid (laid_any h hr)
  obtain ⟨F, hF⟩ : ∃ F : ByteArray, ⟨(HP.front h).toArray⟩ = F := ⟨_, rfl⟩
  rw [hF] at HLa
  have sF : F.size = 12 := by rw [← hF]; simp [ByteArray.size, HP.front_length]
  obtain ⟨n, hn⟩ : ∃ n : Nat, n = p - 16 - b.size := ⟨_, rfl⟩
  have hn2 : (p : Int) - 16 - b.size = n := by omega
  obtain ⟨Z, hZ⟩ : ∃ Z : ByteArray, Z = ⟨(List.replicate n (0 : UInt8)).toArray⟩ := ⟨_, rfl⟩
  have HZ : Hid (∀ W, Calls Tryd.prog 24 #[.string ⟨#[0]⟩, .int .i64 n] W fun e w' => e = .returned (.string Z) ∧ Below W.heap.size W w') := Lib.hid (fun W => by have h := repeat_zeros n W (by omega); rw [hZ]; exact h)
  obtain ⟨R, hR⟩ : ∃ R, b ++ Z = R := ⟨_, rfl⟩
  have hRd : R = ⟨(HP.rest b.data.toList p).toArray⟩ := by
    rw [← hR, hZ]
    apply ByteArray.ext
    simp [HP.rest, hn]
  have sZ : Z.size = n := by rw [hZ]; simp [ByteArray.size]
  have sR : R.size = p - 16 := by rw [← hR, ByteArray.size_append]; omega
  obtain ⟨O, hO⟩ : ∃ O : ByteArray, O = ⟨(Lib.leBytes 4 0).toArray⟩ := ⟨_, rfl⟩
  have HO : Hid (∀ W, Calls Tryd.prog 23 #[.int .u32 0] W fun e w' => e = .returned (.string O) ∧ Below W.heap.size W w') := Lib.hid (fun W => by have h := four_any 0 W (by omega) (by omega); rw [hO]; exact h)
  have sO : O.size = 4 := by rw [hO, le4_size]
  obtain ⟨X, hX⟩ : ∃ X, F ++ O = X := ⟨_, rfl⟩
  have sX : X.size = 16 := by rw [← hX, ByteArray.size_append]; omega
  obtain ⟨Y, hY⟩ : ∃ Y, X ++ R = Y := ⟨_, rfl⟩
  have sY : Y.size = p := by rw [← hY, ByteArray.size_append]; omega
  obtain ⟨v, hv_⟩ : ∃ v : Nat, v = HP.crc (HP.front h) (HP.rest b.data.toList p) := ⟨_, rfl⟩
  have hvl : v < 4294967296 := by rw [hv_]; exact HP.crc_lt _ _
  have HSum : Hid (∀ W, Calls Tryd.prog 57 #[.string Y] W fun e w' => e = .returned (.int .u32 v) ∧ Below W.heap.size W w') := Lib.hid (fun W => by
    have h := table_any Y W (by unfold maxLen; omega)
    have e : SP.sum Y.data.toList = v := by
      rw [hv_, ← hY, ← hX, hRd, ← hF, hO]
      simp [HP.crc, Lib.leBytes]
    rwa [e] at h)
  obtain ⟨C, hC⟩ : ∃ C : ByteArray, C = ⟨(Lib.leBytes 4 v).toArray⟩ := ⟨_, rfl⟩
  have sC : C.size = 4 := by rw [hC, le4_size]
  have HC : Hid (∀ W, Calls Tryd.prog 23 #[.int .u32 (v : Int)] W fun e w' => e = .returned (.string C) ∧ Below W.heap.size W w') := Lib.hid (fun W => by have h := four_any (v : Int) W (by omega) (by omega); rw [hC]; exact h)
  obtain ⟨G, hG⟩ : ∃ G, F ++ C = G := ⟨_, rfl⟩
  have sG : G.size = 16 := by rw [← hG, ByteArray.size_append]; omega
  obtain ⟨E, hE⟩ : ∃ E, G ++ R = E := ⟨_, rfl⟩
  have hEd : E = ⟨(HP.page (HP.front h) (HP.rest b.data.toList p)).toArray⟩ := by
    rw [← hE, ← hG, hRd, hC, ← hF, hv_]
    apply ByteArray.ext
    simp [HP.page]
  rw [← hEd]
  have a3 : ¬ 9223372036854775807 < b.size + Z.size := by omega
  have a4 : ¬ 9223372036854775807 < F.size + O.size := by omega
  have a5 : ¬ 9223372036854775807 < X.size + R.size := by omega
  have a6 : ¬ 9223372036854775807 < F.size + C.size := by omega
  have a7 : ¬ 9223372036854775807 < G.size + R.size := by omega
  have hw1 : IntKind.i64.wrap ((p : Int) - 16) = (p : Int) - 16 := IntWalk.i64_in _ (by omega)
  have hw2 : IntKind.i64.wrap ((p : Int) - 16 - b.size) = n := by rw [hn2]; exact IntWalk.i64_in _ (by omega)
  have HB0 := Lib.hid (below_alloc w (.cells #[.int .i64 h.k, .int .i64 h.l, .int .i64 h.c, .int .i64 h.r, .int .i64 h.s] 59))
  clear hF hn hZ hRd sZ sR hO sO sX sY hv_ hvl hC sC sG hEd
  unfold hv at *
  go_enter Tryd.func41, Tryd.ntmps41
  go_wp2_with fail
  refine (HFi.out _).mono ?_
  rintro e w1 ⟨a, rfl, hL, hb1⟩
  have HB1 := Lib.hid (HB0.out.trans' hb1)
  clear hb1
  go_wp2_with fail
  refine (HLa.out a _ hL).mono ?_
  rintro e w2 ⟨rfl, hb2⟩
  have HB2 := Lib.hid (HB1.out.trans' hb2)
  clear hb2 hL
  go_wp2_with fail
  refine (HZ.out _).mono ?_
  rintro e w3 ⟨rfl, hb3⟩
  have HB3 := Lib.hid (HB2.out.trans' hb3)
  clear hb3
  go_wp2_with fail
  refine (HO.out _).mono ?_
  rintro e w4 ⟨rfl, hb4⟩
  have HB4 := Lib.hid (HB3.out.trans' hb4)
  clear hb4
  go_wp2_with fail
  refine (HSum.out _).mono ?_
  rintro e w5 ⟨rfl, hb5⟩
  have HB5 := Lib.hid (HB4.out.trans' hb5)
  clear hb5
  go_wp2_with fail
  refine (HC.out _).mono ?_
  rintro e w6 ⟨rfl, hb6⟩
  have HB6 := Lib.hid (HB5.out.trans' hb6)
  clear hb6
  go_wp2_with fail
  go_ret
  exact ⟨rfl, HB6.out⟩

theorem jx0 : ∀ W : World, (Instr.index 81 (.agg #[.int .i64 4, .int .i64 3, .int .i64 8]) (.int .i64 0)).run Tryd.prog W = .ok (.int .i64 4) W := fun W => by kernel_rfl
theorem jx1 : ∀ W : World, (Instr.index 81 (.agg #[.int .i64 4, .int .i64 3, .int .i64 8]) (.int .i64 1)).run Tryd.prog W = .ok (.int .i64 3) W := fun W => by kernel_rfl
theorem jx2 : ∀ W : World, (Instr.index 81 (.agg #[.int .i64 4, .int .i64 3, .int .i64 8]) (.int .i64 2)).run Tryd.prog W = .ok (.int .i64 8) W := fun W => by kernel_rfl

set_option maxHeartbeats 4000000 in
set_option maxRecDepth 100000 in
theorem seal_any (h : HP.H) (b : ByteArray) (p : Int) (w : World) (hs : Sizes w) (hp : (Lit.int .i64 p).wf = true) (hb : b.size ≤ maxLen) :
    Calls Tryd.prog 25 #[hv h, .string b, .int .i64 p] w fun e w' => e = .returned (.tuple #[.string (HP.sea h b p).1, .int .i64 (HP.sea h b p).2]) ∧ Below w.heap.size w w' := by
  have HB0 := Lib.hid (below_alloc w (.cells #[.int .i64 h.k, .int .i64 h.l, .int .i64 h.c, .int .i64 h.r, .int .i64 h.s] 59))
  have HSE := Lib.hid (sealable_any h b p _ (hs.alloc (.cells #[.int .i64 h.k, .int .i64 h.l, .int .i64 h.c, .int .i64 h.r, .int .i64 h.s] 59)) hp hb)
  have hbx := heap_alloc_new w (.cells #[.int .i64 h.k, .int .i64 h.l, .int .i64 h.c, .int .i64 h.r, .int .i64 h.s] 59)
  obtain ⟨x0, x1, x2, x3, x4⟩ := Bx.cells (h := h) (t := 59) hbx
  have HBX : Hid (Bx 59 w.heap.size h (w.alloc (.cells #[.int .i64 h.k, .int .i64 h.l, .int .i64 h.c, .int .i64 h.r, .int .i64 h.s] 59))) := Lib.hid hbx
  obtain ⟨S1, hS1⟩ : ∃ x, (HP.sea h b p).1 = x := ⟨_, rfl⟩
  obtain ⟨e1, he1⟩ : ∃ x, (HP.sea h b p).2 = x := ⟨_, rfl⟩
  have HSe : Hid (HP.sea h b p = (S1, e1)) := Lib.hid (by rw [← hS1, ← he1])
  rw [hS1, he1]
  clear hS1 he1
  have jx0 := jx0
  have jx1 := jx1
  have jx2 := jx2
  clear hs hp hbx
  unfold hv at *
  generalize hw0 : w.alloc (.cells #[.int .i64 h.k, .int .i64 h.l, .int .i64 h.c, .int .i64 h.r, .int .i64 h.s] 59) = W0 at *
  go_enter Tryd.func25, Tryd.ntmps25
  go_wp2_with fail
  refine HSE.out.mono ?_
  rintro e w1 ⟨v, rfl, hb1, hwhy⟩
  have hbx1 := HBX.out.below hb1
  have HB1 := Lib.hid (HB0.out.trans' hb1)
  clear hb1 x0 x1 x2 x3 x4 HSE
  rcases hwhy with ⟨hm, a, rfl⟩ | ⟨hm, hr, a, c, rfl⟩ | ⟨hm, hr, hg, a, rfl⟩ | ⟨hm, hr, hg, rfl⟩
  · obtain ⟨rfl, rfl⟩ := Prod.mk.inj (HSe.out.symm.trans (HP.seal_arg h b hm))
    have HI := Lib.hid (Is_fa1 a 4)
    clear hm hbx1
    unfold er at *
    go_wp2_with fail
    refine wp_loop_rounds 4 ?_
    rw [rounds_succ]
    go_wp2_with fail
    refine (HI.out _ _).mono ?_
    rintro e w2 ⟨rfl, hb2⟩
    have HB2 := Lib.hid (HB1.out.trans' hb2)
    clear hb2
    go_wp2_with fail
    go_ret2
    exact ⟨rfl, HB2.out⟩
  · obtain ⟨rfl, rfl⟩ := Prod.mk.inj (HSe.out.symm.trans (HP.seal_form b hm hr))
    have HI := Lib.hid (Is_fa2 a c 3)
    clear hm hr hbx1
    unfold er at *
    go_wp2_with fail
    refine wp_loop_rounds 4 ?_
    rw [rounds_succ]
    go_wp2_with fail
    refine (HI.out _ _).mono ?_
    rintro e w2 ⟨rfl, hb2⟩
    have HB2 := Lib.hid (HB1.out.trans' hb2)
    clear hb2
    go_wp2_with fail
    rw [rounds_succ]
    go_wp2_with fail
    refine (HI.out _ _).mono ?_
    rintro e w3 ⟨rfl, hb3⟩
    have HB3 := Lib.hid (HB2.out.trans' hb3)
    clear hb3
    go_wp2_with fail
    go_ret2
    exact ⟨rfl, HB3.out⟩
  · obtain ⟨rfl, rfl⟩ := Prod.mk.inj (HSe.out.symm.trans (HP.seal_big hm hr hg))
    have HI := Lib.hid (Is_fa1 a 8)
    clear hm hr hg hbx1
    unfold er at *
    go_wp2_with fail
    refine wp_loop_rounds 4 ?_
    rw [rounds_succ]
    go_wp2_with fail
    refine (HI.out _ _).mono ?_
    rintro e w2 ⟨rfl, hb2⟩
    have HB2 := Lib.hid (HB1.out.trans' hb2)
    clear hb2
    go_wp2_with fail
    rw [rounds_succ]
    go_wp2_with fail
    refine (HI.out _ _).mono ?_
    rintro e w3 ⟨rfl, hb3⟩
    have HB3 := Lib.hid (HB2.out.trans' hb3)
    clear hb3
    go_wp2_with fail
    rw [rounds_succ]
    go_wp2_with fail
    refine (HI.out _ _).mono ?_
    rintro e w4 ⟨rfl, hb4⟩
    have HB4 := Lib.hid (HB3.out.trans' hb4)
    clear hb4
    go_wp2_with fail
    go_ret2
    exact ⟨rfl, HB4.out⟩
  · obtain ⟨hS, rfl⟩ := Prod.mk.inj (HSe.out.symm.trans (HP.seal_good hm hr hg))
    have hpb := HP.mayBe_bd hm
    obtain ⟨q, rfl⟩ := Int.eq_ofNat_of_zero_le (show 0 ≤ p by omega)
    have HSD := Lib.hid (fun W => sealed_any h b q W (HP.right_iff.1 hr) (by omega) (by omega))
    unfold hv at HSD
    rw [Int.toNat_natCast] at hS
    rw [← hS] at HSD
    clear hS
    have HI := Lib.hid Is_nil
    obtain ⟨x0, x1, x2, x3, x4⟩ := hbx1.cells
    clear hm hr hg hbx1 hpb
    unfold er at *
    go_wp2_with fail
    refine wp_loop_rounds 4 ?_
    rw [rounds_succ]
    go_wp2_with fail
    refine (HI.out _ _).mono ?_
    rintro e w2 ⟨rfl, rfl⟩
    go_wp2_with fail
    rw [rounds_succ]
    go_wp2_with fail
    refine (HI.out _ _).mono ?_
    rintro e w3 ⟨rfl, rfl⟩
    go_wp2_with fail
    rw [rounds_succ]
    go_wp2_with fail
    refine (HI.out _ _).mono ?_
    rintro e w4 ⟨rfl, rfl⟩
    go_wp2_with fail
    rw [rounds_succ]
    go_wp2_with fail
    refine (HSD.out _).mono ?_
    rintro e w5 ⟨rfl, hb5⟩
    have HB5 := Lib.hid (HB1.out.trans' hb5)
    clear hb5
    go_wp2_with fail
    go_ret2
    exact ⟨rfl, HB5.out⟩
end Go.Proofs.YtnjmkljnjngpkaaDoor.L7
