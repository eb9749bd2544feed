import Derived.Test.YtpeghilfldpgfaaGreatDoorT02
import Derived.Test.YtpeghilfldpgfaaGreatDoorShelf
import Derived.OpenShut
import Derived.ShutString
import Derived.ChangeOld
import Derived.Lib.Repeat
import Derived.Deep.RegionWith
set_option linter.unusedVariables false
set_option linter.unusedSimpArgs false
set_option maxHeartbeats 8000000
set_option maxRecDepth 100000
namespace Go.Proofs.YtpeghilfldpgfaaGreatDoor.L7
open Go.RowKit
theorem Sizes.kept {w w' : World} (h : Sizes w) (k : Below w.heap.size w w') : Sizes w' := h.below h.lt k
theorem Sizes.alloc {w : World} (h : Sizes w) (o : Obj) : Sizes (w.alloc o) := h.kept (below_alloc w o)
def Why (h : HP.H) (b : ByteArray) (p : Int) (v : Value) : Prop :=
 (mayBe p = false ∧ ∃ a, v = fa a (er 4)) ∨ (mayBe p = true ∧ HP.right h = false ∧ ∃ a c, v = fa a (fa c (er 3))) ∨ (mayBe p = true ∧ HP.right h = true ∧ p - 16 < (b.size : Int) ∧ ∃ a, v = fa a (er 8)) ∨ (mayBe p = true ∧ HP.right h = true ∧ ¬ p - 16 < (b.size : Int) ∧ v = .nilIface)
theorem sealable_any (h : HP.H) (b : ByteArray) (p : Int) (w : World) (hs : Sizes w) (hp : (Lit.int .i64 p).wf = true) (hb : b.size ≤ maxLen) :
  Calls Tryz.prog 107 #[hv h, .string b, .int .i64 p] w fun e w' => ∃ v, e = .returned v ∧ Below w.heap.size w w' ∧ Why h b p v := by
 have hpb := bounds_i64 hp; unfold maxLen at hb; have HZ : ∀ W, Sizes W → Calls Tryz.prog 64 #[.int .i64 p] W fun e w' => e = .returned (.bool (mayBe p)) ∧ W = w' := fun W hW => size_any p W hW; have HF := zj (fields_any h); have HW := zj (within_any h); obtain ⟨bo, hbo⟩ : ∃ bo : Obj, bo = .cells #[.int .i64 h.k, .int .i64 h.l, .int .i64 h.c, .int .i64 h.r, .int .i64 h.s] 120 := ⟨_, rfl⟩; have hs1 : Sizes (w.alloc (.cells #[.int .i64 h.k, .int .i64 h.l, .int .i64 h.c, .int .i64 h.r, .int .i64 h.s] 120)) := hs.alloc _; have HB0 := zj (below_alloc w (.cells #[.int .i64 h.k, .int .i64 h.l, .int .i64 h.c, .int .i64 h.r, .int .i64 h.s] 120)); clear hbo
 cases hm : mayBe p with
 | false =>
  have HZ2 := zj (HZ _ hs1); rw [hm] at HZ2; have HM := zj hm; clear HZ hm hs hs1 hp; unfold hv; go_enter Tryz.func107, Tryz.ntmps107; go_wp2_with fail; refine HZ2.out.mono ?_; rintro e w1 ⟨rfl, rfl⟩; go_wp2_with fail; go_ret; exact ⟨_, rfl, HB0.out, .inl ⟨HM.out, _, rfl⟩⟩
 | true =>
  have hpb2 := HP.mayBe_bd hm; have HZ2 := zj (HZ _ hs1); rw [hm] at HZ2; have HM := zj hm; clear HZ hm hs hs1 hp; obtain ⟨q, hq⟩ : ∃ q, HP.right h = q := ⟨_, rfl⟩; rw [hq] at HW; have HQ := zj hq; clear hq; unfold hv at *; go_enter Tryz.func107, Tryz.ntmps107; go_wp2_with fail; refine HZ2.out.mono ?_; rintro e w1 ⟨rfl, rfl⟩; go_wp2_with fail; refine (HF.out _).mono ?_; rintro e w1 ⟨a, rfl, hL, hb1⟩; have HB1 := zj (HB0.out.trans' hb1); clear hb1; go_wp2_with fail; refine (HW.out a _ hL).mono ?_; rintro e w2 ⟨v, rfl, hb2, hv2⟩; have HB2 := zj (HB1.out.trans' hb2); clear hb2 hL; rcases hv2 with ⟨rfl, rfl⟩ | ⟨rfl, nm, rfl⟩
  ·by_cases hbig : p - 16 < (b.size : Int)
   ·have HG := zj hbig
    go_wp2_with fail; go_ret; exact ⟨_, rfl, HB2.out, .inr (.inr (.inl ⟨HM.out, HQ.out, HG.out, _, rfl⟩))⟩
   ·have HG := zj hbig
    go_wp2_with fail; go_ret; exact ⟨_, rfl, HB2.out, .inr (.inr (.inr ⟨HM.out, HQ.out, Int.not_lt.2 HG.out, rfl⟩))⟩
  ·unfold fa
   go_wp2_with fail; go_ret; exact ⟨_, rfl, HB2.out, .inr (.inl ⟨HM.out, HQ.out, _, nm, rfl⟩)⟩
theorem zeros_repeat (m : Nat) : Lib.repeatL [0] m = List.replicate m 0 := by
 have h := Lib.repeatL_replicate 0 1 m; rw [Nat.mul_one] at h; exact h
theorem repeat_zeros (n : Nat) (w : World) (hn : n ≤ 100000) :
  Calls Tryz.prog 62 #[.string ⟨#[0]⟩, .int .i64 n] w fun e w' => e = .returned (.string ⟨(List.replicate n (0 : UInt8)).toArray⟩) ∧ Below w.heap.size w w' := by
 refine (Tryz.strings_Repeat ⟨#[0]⟩ n w (by omega) (by show 1 * n ≤ _; omega)).mono fun e w' ⟨he, hw⟩ => ⟨?_, hw⟩; rw [he, show (⟨#[0]⟩ : ByteArray).data.toList = [0] from rfl, zeros_repeat]
theorem sealed_any (h : HP.H) (b : ByteArray) (p : Nat) (w : World) (hr : HP.Ok h) (hb : b.size + 16 ≤ p) (hp : p ≤ 1024) :
  Calls Tryz.prog 109 #[hv h, .string b, .int .i64 p] w fun e w' => e = .returned (.string ⟨(HP.page (HP.front h) (HP.rest b.data.toList p)).toArray⟩) ∧ Below w.heap.size w w' := by
 have HFi := zj (fields_any h); have HLa := zj (laid_any h hr); obtain ⟨F, hF⟩ : ∃ F : ByteArray, ⟨(HP.front h).toArray⟩ = F := ⟨_, rfl⟩; rw [hF] at HLa
 have sF : F.size = 12 := by rw [← hF]; simp [ByteArray.size, HP.front_length]
 obtain ⟨n, hn⟩ : ∃ n : Nat, n = p - 16 - b.size := ⟨_, rfl⟩
 have hn2 : (p : Int) - 16 - b.size = n := by omega
 obtain ⟨Z, hZ⟩ : ∃ Z : ByteArray, Z = ⟨(List.replicate n (0 : UInt8)).toArray⟩ := ⟨_, rfl⟩; have HZ : Hid (∀ W, Calls Tryz.prog 62 #[.string ⟨#[0]⟩, .int .i64 n] W fun e w' => e = .returned (.string Z) ∧ Below W.heap.size W w') := zj (fun W => by have h := repeat_zeros n W (by omega); rw [hZ]; exact h); obtain ⟨R, hR⟩ : ∃ R, b ++ Z = R := ⟨_, rfl⟩
 have hRd : R = ⟨(HP.rest b.data.toList p).toArray⟩ := by
  rw [← hR, hZ]; apply ByteArray.ext; simp [HP.rest, hn]
 have sZ : Z.size = n := by rw [hZ]; simp [ByteArray.size]
 have sR : R.size = p - 16 := by rw [← hR, ByteArray.size_append]; omega
 obtain ⟨O, hO⟩ : ∃ O : ByteArray, O = ⟨(Lib.leBytes 4 0).toArray⟩ := ⟨_, rfl⟩; have HO : Hid (∀ W, Calls Tryz.prog 61 #[.int .u32 0] W fun e w' => e = .returned (.string O) ∧ Below W.heap.size W w') := zj (fun W => by have h := four_any 0 W (by omega) (by omega); rw [hO]; exact h)
 have sO : O.size = 4 := by rw [hO, le4_size]
 obtain ⟨X, hX⟩ : ∃ X, F ++ O = X := ⟨_, rfl⟩
 have sX : X.size = 16 := by rw [← hX, ByteArray.size_append]; omega
 obtain ⟨Y, hY⟩ : ∃ Y, X ++ R = Y := ⟨_, rfl⟩
 have sY : Y.size = p := by rw [← hY, ByteArray.size_append]; omega
 obtain ⟨v, hv_⟩ : ∃ v : Nat, v = HP.crc (HP.front h) (HP.rest b.data.toList p) := ⟨_, rfl⟩
 have hvl : v < 4294967296 := by rw [hv_]; exact HP.crc_lt _ _
 have HSum : Hid (∀ W, Calls Tryz.prog 170 #[.string Y] W fun e w' => e = .returned (.int .u32 v) ∧ Below W.heap.size W w') := zj (fun W => by
  have h := table_any Y W (by unfold maxLen; omega)
  have e : SP.sum Y.data.toList = v := by
   rw [hv_, ← hY, ← hX, hRd, ← hF, hO]; simp [HP.crc, Lib.leBytes]
  rwa [e] at h)
 obtain ⟨C, hC⟩ : ∃ C : ByteArray, C = ⟨(Lib.leBytes 4 v).toArray⟩ := ⟨_, rfl⟩
 have sC : C.size = 4 := by rw [hC, le4_size]
 have HC : Hid (∀ W, Calls Tryz.prog 61 #[.int .u32 (v : Int)] W fun e w' => e = .returned (.string C) ∧ Below W.heap.size W w') := zj (fun W => by have h := four_any (v : Int) W (by omega) (by omega); rw [hC]; exact h); obtain ⟨G, hG⟩ : ∃ G, F ++ C = G := ⟨_, rfl⟩
 have sG : G.size = 16 := by rw [← hG, ByteArray.size_append]; omega
 obtain ⟨E, hE⟩ : ∃ E, G ++ R = E := ⟨_, rfl⟩
 have hEd : E = ⟨(HP.page (HP.front h) (HP.rest b.data.toList p)).toArray⟩ := by
  rw [← hE, ← hG, hRd, hC, ← hF, hv_]; apply ByteArray.ext; simp [HP.page]
 rw [← hEd]
 have a3 : ¬ 9223372036854775807 < b.size + Z.size := by omega
 have a4 : ¬ 9223372036854775807 < F.size + O.size := by omega
 have a5 : ¬ 9223372036854775807 < X.size + R.size := by omega
 have a6 : ¬ 9223372036854775807 < F.size + C.size := by omega
 have a7 : ¬ 9223372036854775807 < G.size + R.size := by omega
 have hw1 : IntKind.i64.wrap ((p : Int) - 16) = (p : Int) - 16 := IntWalk.i64_in _ (by omega)
 have hw2 : IntKind.i64.wrap ((p : Int) - 16 - b.size) = n := by rw [hn2]; exact IntWalk.i64_in _ (by omega)
 have HB0 := zj (below_alloc w (.cells #[.int .i64 h.k, .int .i64 h.l, .int .i64 h.c, .int .i64 h.r, .int .i64 h.s] 120)); clear hF hn hZ hRd sZ sR hO sO sX sY hv_ hvl hC sC sG hEd; unfold hv at *; go_enter Tryz.func109, Tryz.ntmps109; go_wp2_with fail; refine (HFi.out _).mono ?_; rintro e w1 ⟨a, rfl, hL, hb1⟩; have HB1 := zj (HB0.out.trans' hb1); clear hb1; go_wp2_with fail; refine (HLa.out a _ hL).mono ?_; rintro e w2 ⟨rfl, hb2⟩; have HB2 := zj (HB1.out.trans' hb2); clear hb2 hL; go_wp2_with fail; refine (HZ.out _).mono ?_; rintro e w3 ⟨rfl, hb3⟩; have HB3 := zj (HB2.out.trans' hb3); clear hb3; go_wp2_with fail; refine (HO.out _).mono ?_; rintro e w4 ⟨rfl, hb4⟩; have HB4 := zj (HB3.out.trans' hb4); clear hb4; go_wp2_with fail; refine (HSum.out _).mono ?_; rintro e w5 ⟨rfl, hb5⟩; have HB5 := zj (HB4.out.trans' hb5); clear hb5; go_wp2_with fail; refine (HC.out _).mono ?_; rintro e w6 ⟨rfl, hb6⟩; have HB6 := zj (HB5.out.trans' hb6); clear hb6; go_wp2_with fail; go_ret; exact ⟨rfl, HB6.out⟩
theorem jx0 : ∀ W : World, (Instr.index 206 (.agg #[.int .i64 4, .int .i64 3, .int .i64 8]) (.int .i64 0)).run Tryz.prog W = .ok (.int .i64 4) W := fun W => by kernel_rfl
theorem jx1 : ∀ W : World, (Instr.index 206 (.agg #[.int .i64 4, .int .i64 3, .int .i64 8]) (.int .i64 1)).run Tryz.prog W = .ok (.int .i64 3) W := fun W => by kernel_rfl
theorem jx2 : ∀ W : World, (Instr.index 206 (.agg #[.int .i64 4, .int .i64 3, .int .i64 8]) (.int .i64 2)).run Tryz.prog W = .ok (.int .i64 8) W := fun W => by kernel_rfl
theorem seal_any (h : HP.H) (b : ByteArray) (p : Int) (w : World) (hs : Sizes w) (hp : (Lit.int .i64 p).wf = true) (hb : b.size ≤ maxLen) :
  Calls Tryz.prog 63 #[hv h, .string b, .int .i64 p] w fun e w' => e = .returned (.tuple #[.string (HP.sea h b p).1, .int .i64 (HP.sea h b p).2]) ∧ Below w.heap.size w w' := by
 have HB0 := zj (below_alloc w (.cells #[.int .i64 h.k, .int .i64 h.l, .int .i64 h.c, .int .i64 h.r, .int .i64 h.s] 120)); have HSE := zj (sealable_any h b p _ (hs.alloc (.cells #[.int .i64 h.k, .int .i64 h.l, .int .i64 h.c, .int .i64 h.r, .int .i64 h.s] 120)) hp hb); have hbx := heap_alloc_new w (.cells #[.int .i64 h.k, .int .i64 h.l, .int .i64 h.c, .int .i64 h.r, .int .i64 h.s] 120); obtain ⟨x0, x1, x2, x3, x4⟩ := Bx.cells (h := h) (t := 120) hbx; have HBX : Hid (Bx 120 w.heap.size h (w.alloc (.cells #[.int .i64 h.k, .int .i64 h.l, .int .i64 h.c, .int .i64 h.r, .int .i64 h.s] 120))) := zj hbx; obtain ⟨S1, hS1⟩ : ∃ x, (HP.sea h b p).1 = x := ⟨_, rfl⟩; obtain ⟨e1, he1⟩ : ∃ x, (HP.sea h b p).2 = x := ⟨_, rfl⟩; have HSe : Hid (HP.sea h b p = (S1, e1)) := zj (by rw [← hS1, ← he1]); rw [hS1, he1]; clear hS1 he1; have jx0 := jx0; have jx1 := jx1; have jx2 := jx2; clear hs hp hbx; unfold hv at *; generalize hw0 : w.alloc (.cells #[.int .i64 h.k, .int .i64 h.l, .int .i64 h.c, .int .i64 h.r, .int .i64 h.s] 120) = W0 at *; go_enter Tryz.func63, Tryz.ntmps63; go_wp2_with fail; refine HSE.out.mono ?_; rintro e w1 ⟨v, rfl, hb1, hwhy⟩; have hbx1 := HBX.out.below hb1; have HB1 := zj (HB0.out.trans' hb1); clear hb1 x0 x1 x2 x3 x4 HSE; rcases hwhy with ⟨hm, a, rfl⟩ | ⟨hm, hr, a, c, rfl⟩ | ⟨hm, hr, hg, a, rfl⟩ | ⟨hm, hr, hg, rfl⟩
 ·obtain ⟨rfl, rfl⟩ := Prod.mk.inj (HSe.out.symm.trans (HP.seal_arg h b hm))
  have HI := zj (Is_fa1 a 4); clear hm hbx1; unfold er at *; go_wp2_with fail; refine wp_loop_rounds 4 ?_; rw [rounds_succ]; go_wp2_with fail; refine (HI.out _ _).mono ?_; rintro e w2 ⟨rfl, hb2⟩; have HB2 := zj (HB1.out.trans' hb2); clear hb2; go_wp2_with fail
  go_ret2
  exact ⟨rfl, HB2.out⟩
 ·obtain ⟨rfl, rfl⟩ := Prod.mk.inj (HSe.out.symm.trans (HP.seal_form b hm hr))
  have HI := zj (Is_fa2 a c 3); clear hm hr hbx1; unfold er at *; go_wp2_with fail; refine wp_loop_rounds 4 ?_; rw [rounds_succ]; go_wp2_with fail; refine (HI.out _ _).mono ?_; rintro e w2 ⟨rfl, hb2⟩; have HB2 := zj (HB1.out.trans' hb2); clear hb2; go_wp2_with fail; rw [rounds_succ]; go_wp2_with fail; refine (HI.out _ _).mono ?_; rintro e w3 ⟨rfl, hb3⟩; have HB3 := zj (HB2.out.trans' hb3); clear hb3; go_wp2_with fail
  go_ret2
  exact ⟨rfl, HB3.out⟩
 ·obtain ⟨rfl, rfl⟩ := Prod.mk.inj (HSe.out.symm.trans (HP.seal_big hm hr hg))
  have HI := zj (Is_fa1 a 8); clear hm hr hg hbx1; unfold er at *; go_wp2_with fail; refine wp_loop_rounds 4 ?_; rw [rounds_succ]; go_wp2_with fail; refine (HI.out _ _).mono ?_; rintro e w2 ⟨rfl, hb2⟩; have HB2 := zj (HB1.out.trans' hb2); clear hb2; go_wp2_with fail; rw [rounds_succ]; go_wp2_with fail; refine (HI.out _ _).mono ?_; rintro e w3 ⟨rfl, hb3⟩; have HB3 := zj (HB2.out.trans' hb3); clear hb3; go_wp2_with fail; rw [rounds_succ]; go_wp2_with fail; refine (HI.out _ _).mono ?_; rintro e w4 ⟨rfl, hb4⟩; have HB4 := zj (HB3.out.trans' hb4); clear hb4; go_wp2_with fail
  go_ret2
  exact ⟨rfl, HB4.out⟩
 ·obtain ⟨hS, rfl⟩ := Prod.mk.inj (HSe.out.symm.trans (HP.seal_good hm hr hg))
  have hpb := HP.mayBe_bd hm; obtain ⟨q, rfl⟩ := Int.eq_ofNat_of_zero_le (show 0 ≤ p by omega); have HSD := zj (fun W => sealed_any h b q W (HP.right_iff.1 hr) (by omega) (by omega)); unfold hv at HSD; rw [Int.toNat_natCast] at hS; rw [← hS] at HSD; clear hS; have HI := zj Is_nil; obtain ⟨x0, x1, x2, x3, x4⟩ := hbx1.cells; clear hm hr hg hbx1 hpb; unfold er at *; go_wp2_with fail; refine wp_loop_rounds 4 ?_; rw [rounds_succ]; go_wp2_with fail; refine (HI.out _ _).mono ?_; rintro e w2 ⟨rfl, rfl⟩; go_wp2_with fail; rw [rounds_succ]; go_wp2_with fail; refine (HI.out _ _).mono ?_; rintro e w3 ⟨rfl, rfl⟩; go_wp2_with fail; rw [rounds_succ]; go_wp2_with fail; refine (HI.out _ _).mono ?_; rintro e w4 ⟨rfl, rfl⟩; go_wp2_with fail; rw [rounds_succ]; go_wp2_with fail; refine (HSD.out _).mono ?_; rintro e w5 ⟨rfl, hb5⟩; have HB5 := zj (HB1.out.trans' hb5); clear hb5; go_wp2_with fail
  go_ret2
  exact ⟨rfl, HB5.out⟩
theorem mask32 (v : Nat) (h : v < 4294967296) : bits .and .u32 (v : Int) 255 = ((v % 256 : Nat) : Int) := by
 have e := u32_and_nat v 255 h (by omega); rw [show (255 : Int) = ((255 : Nat) : Int) from rfl, e, show (255 : Nat) = 2 ^ 8 - 1 from rfl, Nat.and_two_pow_sub_one_eq_mod]
theorem headOf_num (s : List UInt8) (hs : 12 ≤ s.length) : HP.headOf s = ⟨((Lib.leNat (s.take 4) % 256 : Nat) : Int), ((Lib.leNat (s.take 4) / 256 % 256 : Nat) : Int), ((Lib.leNat (s.take 4) / 65536 : Nat) : Int), ((Lib.leNat ((s.drop 4).take 4) : Nat) : Int), ((Lib.leNat ((s.drop 8).take 4) : Nat) : Int)⟩ := by
 obtain ⟨a, b, c, d, t, rfl⟩ : ∃ a b c d t, s = a :: b :: c :: d :: t := by
  match s, hs with
  | a :: b :: c :: d :: t, _ => exact ⟨a, b, c, d, t, rfl⟩
 have e0 : Lib.leNat ((a :: b :: c :: d :: t).take 4) = a.toNat + 256 * (b.toNat + 256 * (c.toNat + 256 * d.toNat)) := by
  simp [Lib.leNat]
 have ha := a.toNat_lt; have hb := b.toNat_lt; have hc := c.toNat_lt; have hd := d.toNat_lt; unfold HP.headOf; rw [e0]; simp only [List.getD_cons_zero, List.getD_cons_succ]
 congr 1 <;> omega
theorem headRead_any (s : ByteArray) (w : World) (h1 : 128 ≤ s.size) (h2 : s.size ≤ 1024) :
  Calls Tryz.prog 97 #[.string s] w fun e w' => e = .returned (hv (HP.headOf s.data.toList)) ∧ Below w.heap.size w w' := by
 rw [headOf_num s.data.toList (by simp; omega)]; have HR0 := zj (fun W => read_any s 0 W (by omega) (by omega) (by unfold maxLen; omega)); have HR4 := zj (fun W => read_any s 4 W (by omega) (by omega) (by unfold maxLen; omega)); have HR8 := zj (fun W => read_any s 8 W (by omega) (by omega) (by unfold maxLen; omega)); rw [show ((0 : Int)).toNat = 0 from rfl, List.drop_zero] at HR0; rw [show ((4 : Int)).toNat = 4 from rfl] at HR4; rw [show ((8 : Int)).toNat = 8 from rfl] at HR8; have b0 : Lib.leNat (s.data.toList.take 4) < 4294967296 := Nat.lt_of_lt_of_le (WP.leNat_lt _) (by rw [show (4294967296 : Nat) = 256 ^ 4 from rfl]; exact Nat.pow_le_pow_right (by omega) (by simp; omega)); have b4 : Lib.leNat ((s.data.toList.drop 4).take 4) < 4294967296 := Nat.lt_of_lt_of_le (WP.leNat_lt _) (by rw [show (4294967296 : Nat) = 256 ^ 4 from rfl]; exact Nat.pow_le_pow_right (by omega) (by simp; omega)); have b8 : Lib.leNat ((s.data.toList.drop 8).take 4) < 4294967296 := Nat.lt_of_lt_of_le (WP.leNat_lt _) (by rw [show (4294967296 : Nat) = 256 ^ 4 from rfl]; exact Nat.pow_le_pow_right (by omega) (by simp; omega)); generalize Lib.leNat (s.data.toList.take 4) = n at *; generalize Lib.leNat ((s.data.toList.drop 4).take 4) = r at *; generalize Lib.leNat ((s.data.toList.drop 8).take 4) = f at *
 have m0 : bits .and .u32 (n : Int) 255 = (n : Int) % 256 := by rw [mask32 n b0]; omega
 have m1 : bits .and .u32 ((n : Int) / 256) 255 = (n : Int) / 256 % 256 := by
  have e := mask32 (n / 256) (by omega); rw [show ((n / 256 : Nat) : Int) = (n : Int) / 256 by omega] at e; rw [e]; omega
 have m2 : bits .and .u32 ((n : Int) / 256 % 4294967296) 255 = (n : Int) / 256 % 256 := by
  rw [Int.emod_eq_of_lt (by omega) (by omega)]; exact m1
 unfold hv; go_enter Tryz.func97, Tryz.ntmps97; go_wp2_with fail; refine (HR0.out _).mono ?_; rintro e w1 ⟨rfl, rfl⟩; go_wp2_with fail; refine (HR4.out _).mono ?_; rintro e w1 ⟨rfl, rfl⟩; go_wp2_with fail; refine (HR8.out _).mono ?_; rintro e w1 ⟨rfl, rfl⟩; go_wp2_with fail; refine bodyPost_ret (v := .agg #[.int .i64 ((n : Int) % 256), .int .i64 ((n : Int) / 256 % 256), .int .i64 ((n : Int) / 65536), .int .i64 r, .int .i64 f]) (by simp [results, Tryz.results97, go_sem]) rfl ⟨?_, ?_⟩
 ·rw [show ((n % 256 : Nat) : Int) = (n : Int) % 256 by omega, show ((n / 256 % 256 : Nat) : Int) = (n : Int) / 256 % 256 by omega, show ((n / 65536 : Nat) : Int) = (n : Int) / 65536 by omega]
 ·exact below_alloc _ _
def Zx (t : TypeId) (g : Nat) (w : World) : Prop := w.heap[g]? = some (.cells #[.int .i64 0, .int .i64 0, .int .i64 0, .int .i64 0, .int .i64 0] t (0, 0))
theorem Zx.bx {t : TypeId} {g : Nat} {w : World} (k : Zx t g w) : Bx t g HP.H0 w := k
theorem Zx.lt {t : TypeId} {g : Nat} {w : World} (k : Zx t g w) : g < w.heap.size := (Array.getElem?_eq_some_iff.1 k).1
theorem Zx.below {t : TypeId} {g : Nat} {w w' : World} (k : Zx t g w) (b : Below w.heap.size w w') : Zx t g w' := (b.block g k.lt).trans k
theorem zx_after {V V' : World} {t : TypeId} (k : Below (V.alloc (.cells #[.int .i64 0, .int .i64 0, .int .i64 0, .int .i64 0, .int .i64 0] t)).heap.size (V.alloc (.cells #[.int .i64 0, .int .i64 0, .int .i64 0, .int .i64 0, .int .i64 0] t)) V') : Zx t V.heap.size V' := (k.block _ (by simp)).trans (heap_alloc_new V _)
theorem Zx.cells {t : TypeId} {g : Nat} {w : World} (k : Zx t g w) : w.cell? ⟨g, 0, none⟩ = some (.int .i64 0) ∧ w.cell? ⟨g, 1, none⟩ = some (.int .i64 0) ∧ w.cell? ⟨g, 2, none⟩ = some (.int .i64 0) ∧ w.cell? ⟨g, 3, none⟩ = some (.int .i64 0) ∧ w.cell? ⟨g, 4, none⟩ = some (.int .i64 0) := k.bx.cells
theorem Zx.frozen {t : TypeId} {g : Nat} {w : World} (k : Zx t g w) : w.frozen? ⟨g, 0, none⟩ = false ∧ w.frozen? ⟨g, 1, none⟩ = false ∧ w.frozen? ⟨g, 2, none⟩ = false ∧ w.frozen? ⟨g, 3, none⟩ = false ∧ w.frozen? ⟨g, 4, none⟩ = false := k.bx.frozen
theorem sea_open (s : ByteArray) (hm : mayBe s.size = true) :
  (HP.sea (HP.headOf s.data.toList) (s.extract 16 s.size) s.size = (s, 0) ∧ HP.opn s = (HP.headOf s.data.toList, s.extract 16 s.size, 0)) ∨
  (HP.sea (HP.headOf s.data.toList) (s.extract 16 s.size) s.size = (⟨#[]⟩, 3) ∧ HP.opn s = (HP.H0, ⟨#[]⟩, 3)) ∨
  (∃ U : ByteArray, U ≠ s ∧ HP.sea (HP.headOf s.data.toList) (s.extract 16 s.size) s.size = (U, 0) ∧ HP.opn s = (HP.H0, ⟨#[]⟩, 3)) := by
 have hpb := HP.mayBe_bd hm
 have hl : 16 ≤ s.data.toList.length := by simp; omega
 have hT : (s.extract 16 s.size).data.toList = s.data.toList.drop 16 := by
  rw [Lib.extract_data]; exact List.take_of_length_le (by simp)
 have hTs : (s.extract 16 s.size).size = s.size - 16 := by simp
 have hrest : HP.rest (s.data.toList.drop 16) s.size = s.data.toList.drop 16 := by
  unfold HP.rest; rw [List.length_drop, show s.size - 16 - (s.data.toList.length - 16) = 0 by simp]; simp
 cases hr : HP.right (HP.headOf s.data.toList) with
 | false =>
  refine .inr (.inl ⟨HP.seal_form _ hm hr, HP.opn_bad fun h => ?_⟩); have := HP.right_iff.2 h.2.1; rw [hr] at this; cases this
 | true =>
  have hsea := HP.seal_good (h := HP.headOf s.data.toList) (b := s.extract 16 s.size) hm hr (by rw [hTs]; omega); rw [hT, Int.toNat_natCast, hrest] at hsea; by_cases hg : HP.good s.data.toList
  ·refine .inl ⟨?_, HP.opn_good hm hg⟩
   rw [hsea, HP.page_of_good _ hl hg]
  ·refine .inr (.inr ⟨_, fun e => hg ?_, hsea, HP.opn_bad fun h => hg h.2⟩)
   refine (HP.good_iff _ hl).2 ⟨HP.right_iff.1 hr, ?_⟩; have := congrArg (fun x : ByteArray => x.data.toList) e
   simpa using this
def opnV (s : ByteArray) : Value := .tuple #[hv (HP.opn s).1, .string (HP.opn s).2.1, .int .i64 (HP.opn s).2.2]
theorem open_any (s : ByteArray) (w : World) (hs : Sizes w) (hln : s.size ≤ maxLen) :
  Calls Tryz.prog 55 #[.string s] w fun e w' => e = .returned (opnV s) ∧ Below w.heap.size w w' := by
 unfold maxLen at hln; have HZ := fun W (hW : Sizes W) => size_any (s.size : Int) W hW; obtain ⟨ro, hro⟩ : ∃ ro : Obj, ro = .cells #[.int .i64 0, .int .i64 0, .int .i64 0, .int .i64 0, .int .i64 0] 120 := ⟨_, rfl⟩; have hs1 : Sizes (w.alloc (.cells #[.int .i64 0, .int .i64 0, .int .i64 0, .int .i64 0, .int .i64 0] 120)) := hs.alloc _; have HB0 := zj (below_alloc w (.cells #[.int .i64 0, .int .i64 0, .int .i64 0, .int .i64 0, .int .i64 0] 120)); clear hro; have HZ2 := zj (HZ _ hs1); clear HZ
 cases hm : mayBe s.size with
 | false =>
  have hv0 : opnV s = .tuple #[.agg #[.int .i64 0, .int .i64 0, .int .i64 0, .int .i64 0, .int .i64 0], .string ⟨#[]⟩, .int .i64 3] := by
   unfold opnV; rw [HP.opn_bad (s := s) (by rw [hm]; simp)]; rfl
  rw [hv0]; rw [hm] at HZ2; clear hm hs hs1 hv0; go_enter Tryz.func55, Tryz.ntmps55; go_wp2_with fail; refine HZ2.out.mono ?_; rintro e w1 ⟨rfl, rfl⟩; go_wp2_with fail; refine bodyPost_ret (v := .tuple #[.agg #[.int .i64 0, .int .i64 0, .int .i64 0, .int .i64 0, .int .i64 0], .string ⟨#[]⟩, .int .i64 3]) (by simp [results, Tryz.results55, go_sem]) rfl ⟨rfl, HB0.out⟩
 | true =>
  have hpb := HP.mayBe_bd hm; have HR := zj (fun W => headRead_any s W (by omega) (by omega))
  have hsl : (0 : Int) ≤ 16 ∧ (16 : Int) ≤ s.size := by omega
  obtain ⟨T, hT⟩ : ∃ T, s.extract 16 s.size = T := ⟨_, rfl⟩
  have sT : T.size = s.size - 16 := by rw [← hT]; simp
  have HC := zj (fun W => clone_any T W (by omega)); obtain ⟨hd, hhd⟩ : ∃ hd, HP.headOf s.data.toList = hd := ⟨_, rfl⟩; rw [hhd] at HR; obtain ⟨hk, hl, hc, hr, hs5⟩ := hd; unfold hv at HR; rw [hm] at HZ2; have HS1 := zj hs1; have HM := zj hm; have HT := zj hT; have HHD := zj hhd; have HRX := zj (show Zx 120 w.heap.size (w.alloc (.cells #[.int .i64 0, .int .i64 0, .int .i64 0, .int .i64 0, .int .i64 0] 120)) from heap_alloc_new _ _); have HLT := zj (show w.heap.size < (w.alloc (.cells #[.int .i64 0, .int .i64 0, .int .i64 0, .int .i64 0, .int .i64 0] 120)).heap.size by simp); have HSE := zj (fun W (hW : Sizes W) => seal_any ⟨hk, hl, hc, hr, hs5⟩ T s.size W hW (by simp [Lit.wf, IntKind.min, IntKind.max, IntKind.signed, IntKind.bits]; omega) (by unfold maxLen; omega)); have HCASE := zj (sea_open s hm); rw [hhd, hT] at HCASE; clear hm hs hs1 hhd; unfold hv at HSE; generalize hw0 : w.alloc (.cells #[.int .i64 0, .int .i64 0, .int .i64 0, .int .i64 0, .int .i64 0] 120) = W0 at *; have HW0 := zj hw0; go_enter Tryz.func55, Tryz.ntmps55; go_wp2_with fail; clear hw0; refine HZ2.out.mono ?_; rintro e w1 ⟨rfl, rfl⟩; go_wp2_with fail
  go_region_with (first
   | (go_at_call 97; refine (HR.out _).mono ?_; rintro e V2 ⟨rfl, hb2⟩; (try have k2 := zj (show Zx 120 W0.heap.size V2 from zx_after (below_of_drew hb2))); have HB2 := zj (below_of_drew hb2); clear hb2)
   | (go_at_call 98; refine (HC.out _).mono ?_; rintro e V3 ⟨rfl, hb3⟩; (try have k3 := zj (show Zx 120 V2.heap.size V3 from zx_after hb3)); (try have k3 := zj (k2.out.below hb3)); have HB3 := zj hb3; clear hb3; (try obtain ⟨y0, y1, y2, y3, y4⟩ := k3.out.cells); (try obtain ⟨z0, z1, z2, z3, z4⟩ := k3.out.frozen)))
  -- each order
  ·have hA : Bx 120 (V3.heap.size) ⟨hk, hl, hc, hr, hs5⟩ (V3.alloc (.cells #[.int .i64 hk, .int .i64 hl, .int .i64 hc, .int .i64 hr, .int .i64 hs5] 120)) ∧ Below W0.heap.size W0 (V3.alloc (.cells #[.int .i64 hk, .int .i64 hl, .int .i64 hc, .int .i64 hr, .int .i64 hs5] 120)) ∧ W0.heap.size ≤ V3.heap.size := ⟨heap_alloc_new _ _, (HB2.out.trans' HB3.out).trans' (below_alloc _ _), Nat.le_trans HB2.out.size HB3.out.size⟩
   generalize V3.alloc (.cells #[.int .i64 hk, .int .i64 hl, .int .i64 hc, .int .i64 hr, .int .i64 hs5] 120) = W4 at *; generalize V3.heap.size = g at *; obtain ⟨hbx, hb4, hg4⟩ := hA; have HB4 := zj (HB0.out.trans' hb4); have HZX := zj (HRX.out.below hb4); have HS4 := zj (HS1.out.kept hb4); clear HB0 HRX HS1 hg4; obtain ⟨x0, x1, x2, x3, x4⟩ := hbx.cells; have HBX := zj hbx; simp only at x0 x1 x2 x3 x4; clear hbx hb4; go_wp2_with fail; refine (HSE.out _ HS4.out).mono ?_; rintro e W5 ⟨rfl, hb5⟩; have HB5 := zj (HB4.out.trans' hb5); have HZ5 := zj (HZX.out.below hb5); obtain ⟨v0, v1, v2, v3, v4⟩ := HZ5.out.cells; obtain ⟨f0, f1, f2, f3, f4⟩ := HZ5.out.frozen; obtain ⟨c0, c1, c2, c3, c4⟩ := (HBX.out.below hb5).cells; simp only at c0 c1 c2 c3 c4; clear hb5 x0 x1 x2 x3 x4; rcases HCASE.out with ⟨hse, hop⟩ | ⟨hse, hop⟩ | ⟨U, hU, hse, hop⟩
   ·rw [hse]
    have HO := zj hop; clear hse hop; simp only; go_wp2_with fail; obtain ⟨r0, r1, r2, r3, r4⟩ := (set5_box HZ5.out.bx ⟨hk, hl, hc, hr, hs5⟩).cells; unfold set5 at r0 r1 r2 r3 r4; simp only [HP.H0] at r0 r1 r2 r3 r4; refine bodyPost_ret (v := .tuple #[.agg #[.int .i64 hk, .int .i64 hl, .int .i64 hc, .int .i64 hr, .int .i64 hs5], .string T, .int .i64 0]) (by simp [results, Tryz.results55, go_sem, r0, r1, r2, r3, r4]) rfl ⟨?_, ?_⟩
    ·unfold opnV
     rw [HO.out]; rfl
    ·exact set5_below HB5.out (Nat.le_refl _) ⟨hk, hl, hc, hr, hs5⟩
   ·rw [hse]
    have HO := zj hop; clear hse hop; simp only; go_wp2_with fail; obtain ⟨r0, r1, r2, r3, r4⟩ := (set5_box HZ5.out.bx HP.H0).cells; unfold set5 at r0 r1 r2 r3 r4; simp only [HP.H0] at r0 r1 r2 r3 r4; refine bodyPost_ret (v := .tuple #[.agg #[.int .i64 0, .int .i64 0, .int .i64 0, .int .i64 0, .int .i64 0], .string ⟨#[]⟩, .int .i64 3]) (by simp [results, Tryz.results55, go_sem, r0, r1, r2, r3, r4]) rfl ⟨?_, ?_⟩
    ·unfold opnV
     rw [HO.out]; rfl
    ·exact set5_below HB5.out (Nat.le_refl _) HP.H0
   ·rw [hse]
    have HO := zj hop
    have hne : (U.toList == s.toList) = false := by
     rw [Lib.toList_data, Lib.toList_data]; exact beq_eq_false_iff_ne.2 fun e => hU (ByteArray.ext (Array.toList_inj.1 e))
    clear hse hop; simp only; go_wp2_with fail; obtain ⟨r0, r1, r2, r3, r4⟩ := (set5_box HZ5.out.bx HP.H0).cells; unfold set5 at r0 r1 r2 r3 r4; simp only [HP.H0] at r0 r1 r2 r3 r4; refine bodyPost_ret (v := .tuple #[.agg #[.int .i64 0, .int .i64 0, .int .i64 0, .int .i64 0, .int .i64 0], .string ⟨#[]⟩, .int .i64 3]) (by simp [results, Tryz.results55, go_sem, r0, r1, r2, r3, r4]) rfl ⟨?_, ?_⟩
    ·unfold opnV
     rw [HO.out]; rfl
    ·exact set5_below HB5.out (Nat.le_refl _) HP.H0
  ·have hA : Bx 120 (V2.heap.size) ⟨hk, hl, hc, hr, hs5⟩ (((((V3.setCell ⟨V2.heap.size, 0, none⟩ (.int .i64 hk)).setCell ⟨V2.heap.size, 1, none⟩ (.int .i64 hl)).setCell ⟨V2.heap.size, 2, none⟩ (.int .i64 hc)).setCell ⟨V2.heap.size, 3, none⟩ (.int .i64 hr)).setCell ⟨V2.heap.size, 4, none⟩ (.int .i64 hs5)) ∧ Below W0.heap.size W0 (((((V3.setCell ⟨V2.heap.size, 0, none⟩ (.int .i64 hk)).setCell ⟨V2.heap.size, 1, none⟩ (.int .i64 hl)).setCell ⟨V2.heap.size, 2, none⟩ (.int .i64 hc)).setCell ⟨V2.heap.size, 3, none⟩ (.int .i64 hr)).setCell ⟨V2.heap.size, 4, none⟩ (.int .i64 hs5)) ∧ W0.heap.size ≤ V2.heap.size := ⟨set5_box k3.out.bx ⟨hk, hl, hc, hr, hs5⟩, set5_below ((HB2.out.trans' (below_alloc _ _)).trans' HB3.out) HB2.out.size ⟨hk, hl, hc, hr, hs5⟩, HB2.out.size⟩
   generalize ((((V3.setCell ⟨V2.heap.size, 0, none⟩ (.int .i64 hk)).setCell ⟨V2.heap.size, 1, none⟩ (.int .i64 hl)).setCell ⟨V2.heap.size, 2, none⟩ (.int .i64 hc)).setCell ⟨V2.heap.size, 3, none⟩ (.int .i64 hr)).setCell ⟨V2.heap.size, 4, none⟩ (.int .i64 hs5) = W4 at *; generalize V2.heap.size = g at *; obtain ⟨hbx, hb4, hg4⟩ := hA; have HB4 := zj (HB0.out.trans' hb4); have HZX := zj (HRX.out.below hb4); have HS4 := zj (HS1.out.kept hb4); clear HB0 HRX HS1 hg4; obtain ⟨x0, x1, x2, x3, x4⟩ := hbx.cells; have HBX := zj hbx; simp only at x0 x1 x2 x3 x4; clear hbx hb4; go_wp2_with fail; refine (HSE.out _ HS4.out).mono ?_; rintro e W5 ⟨rfl, hb5⟩; have HB5 := zj (HB4.out.trans' hb5); have HZ5 := zj (HZX.out.below hb5); obtain ⟨v0, v1, v2, v3, v4⟩ := HZ5.out.cells; obtain ⟨f0, f1, f2, f3, f4⟩ := HZ5.out.frozen; obtain ⟨c0, c1, c2, c3, c4⟩ := (HBX.out.below hb5).cells; simp only at c0 c1 c2 c3 c4; clear hb5 x0 x1 x2 x3 x4; rcases HCASE.out with ⟨hse, hop⟩ | ⟨hse, hop⟩ | ⟨U, hU, hse, hop⟩
   ·rw [hse]
    have HO := zj hop; clear hse hop; simp only; go_wp2_with fail; obtain ⟨r0, r1, r2, r3, r4⟩ := (set5_box HZ5.out.bx ⟨hk, hl, hc, hr, hs5⟩).cells; unfold set5 at r0 r1 r2 r3 r4; simp only [HP.H0] at r0 r1 r2 r3 r4; refine bodyPost_ret (v := .tuple #[.agg #[.int .i64 hk, .int .i64 hl, .int .i64 hc, .int .i64 hr, .int .i64 hs5], .string T, .int .i64 0]) (by simp [results, Tryz.results55, go_sem, r0, r1, r2, r3, r4]) rfl ⟨?_, ?_⟩
    ·unfold opnV
     rw [HO.out]; rfl
    ·exact set5_below HB5.out (Nat.le_refl _) ⟨hk, hl, hc, hr, hs5⟩
   ·rw [hse]
    have HO := zj hop; clear hse hop; simp only; go_wp2_with fail; obtain ⟨r0, r1, r2, r3, r4⟩ := (set5_box HZ5.out.bx HP.H0).cells; unfold set5 at r0 r1 r2 r3 r4; simp only [HP.H0] at r0 r1 r2 r3 r4; refine bodyPost_ret (v := .tuple #[.agg #[.int .i64 0, .int .i64 0, .int .i64 0, .int .i64 0, .int .i64 0], .string ⟨#[]⟩, .int .i64 3]) (by simp [results, Tryz.results55, go_sem, r0, r1, r2, r3, r4]) rfl ⟨?_, ?_⟩
    ·unfold opnV
     rw [HO.out]; rfl
    ·exact set5_below HB5.out (Nat.le_refl _) HP.H0
   ·rw [hse]
    have HO := zj hop
    have hne : (U.toList == s.toList) = false := by
     rw [Lib.toList_data, Lib.toList_data]; exact beq_eq_false_iff_ne.2 fun e => hU (ByteArray.ext (Array.toList_inj.1 e))
    clear hse hop; simp only; go_wp2_with fail; obtain ⟨r0, r1, r2, r3, r4⟩ := (set5_box HZ5.out.bx HP.H0).cells; unfold set5 at r0 r1 r2 r3 r4; simp only [HP.H0] at r0 r1 r2 r3 r4; refine bodyPost_ret (v := .tuple #[.agg #[.int .i64 0, .int .i64 0, .int .i64 0, .int .i64 0, .int .i64 0], .string ⟨#[]⟩, .int .i64 3]) (by simp [results, Tryz.results55, go_sem, r0, r1, r2, r3, r4]) rfl ⟨?_, ?_⟩
    ·unfold opnV
     rw [HO.out]; rfl
    ·exact set5_below HB5.out (Nat.le_refl _) HP.H0
  ·have hA : Bx 120 (W0.heap.size) ⟨hk, hl, hc, hr, hs5⟩ (((((V3.setCell ⟨W0.heap.size, 0, none⟩ (.int .i64 hk)).setCell ⟨W0.heap.size, 1, none⟩ (.int .i64 hl)).setCell ⟨W0.heap.size, 2, none⟩ (.int .i64 hc)).setCell ⟨W0.heap.size, 3, none⟩ (.int .i64 hr)).setCell ⟨W0.heap.size, 4, none⟩ (.int .i64 hs5)) ∧ Below W0.heap.size W0 (((((V3.setCell ⟨W0.heap.size, 0, none⟩ (.int .i64 hk)).setCell ⟨W0.heap.size, 1, none⟩ (.int .i64 hl)).setCell ⟨W0.heap.size, 2, none⟩ (.int .i64 hc)).setCell ⟨W0.heap.size, 3, none⟩ (.int .i64 hr)).setCell ⟨W0.heap.size, 4, none⟩ (.int .i64 hs5)) ∧ W0.heap.size ≤ W0.heap.size := ⟨set5_box k3.out.bx ⟨hk, hl, hc, hr, hs5⟩, set5_below (((below_alloc _ _).trans' HB2.out).trans' HB3.out) (Nat.le_refl _) ⟨hk, hl, hc, hr, hs5⟩, Nat.le_refl _⟩
   generalize ((((V3.setCell ⟨W0.heap.size, 0, none⟩ (.int .i64 hk)).setCell ⟨W0.heap.size, 1, none⟩ (.int .i64 hl)).setCell ⟨W0.heap.size, 2, none⟩ (.int .i64 hc)).setCell ⟨W0.heap.size, 3, none⟩ (.int .i64 hr)).setCell ⟨W0.heap.size, 4, none⟩ (.int .i64 hs5) = W4 at *; obtain ⟨hbx, hb4, hg4⟩ := hA; have HB4 := zj (HB0.out.trans' hb4); have HZX := zj (HRX.out.below hb4); have HS4 := zj (HS1.out.kept hb4); clear HB0 HRX HS1 hg4; obtain ⟨x0, x1, x2, x3, x4⟩ := hbx.cells; have HBX := zj hbx; simp only at x0 x1 x2 x3 x4; clear hbx hb4; go_wp2_with fail; refine (HSE.out _ HS4.out).mono ?_; rintro e W5 ⟨rfl, hb5⟩; have HB5 := zj (HB4.out.trans' hb5); have HZ5 := zj (HZX.out.below hb5); obtain ⟨v0, v1, v2, v3, v4⟩ := HZ5.out.cells; obtain ⟨f0, f1, f2, f3, f4⟩ := HZ5.out.frozen; obtain ⟨c0, c1, c2, c3, c4⟩ := (HBX.out.below hb5).cells; simp only at c0 c1 c2 c3 c4; clear hb5 x0 x1 x2 x3 x4; rcases HCASE.out with ⟨hse, hop⟩ | ⟨hse, hop⟩ | ⟨U, hU, hse, hop⟩
   ·rw [hse]
    have HO := zj hop; clear hse hop; simp only; go_wp2_with fail; obtain ⟨r0, r1, r2, r3, r4⟩ := (set5_box HZ5.out.bx ⟨hk, hl, hc, hr, hs5⟩).cells; unfold set5 at r0 r1 r2 r3 r4; simp only [HP.H0] at r0 r1 r2 r3 r4; refine bodyPost_ret (v := .tuple #[.agg #[.int .i64 hk, .int .i64 hl, .int .i64 hc, .int .i64 hr, .int .i64 hs5], .string T, .int .i64 0]) (by simp [results, Tryz.results55, go_sem, r0, r1, r2, r3, r4]) rfl ⟨?_, ?_⟩
    ·unfold opnV
     rw [HO.out]; rfl
    ·exact set5_below HB5.out (Nat.le_refl _) ⟨hk, hl, hc, hr, hs5⟩
   ·rw [hse]
    have HO := zj hop; clear hse hop; simp only; go_wp2_with fail; obtain ⟨r0, r1, r2, r3, r4⟩ := (set5_box HZ5.out.bx HP.H0).cells; unfold set5 at r0 r1 r2 r3 r4; simp only [HP.H0] at r0 r1 r2 r3 r4; refine bodyPost_ret (v := .tuple #[.agg #[.int .i64 0, .int .i64 0, .int .i64 0, .int .i64 0, .int .i64 0], .string ⟨#[]⟩, .int .i64 3]) (by simp [results, Tryz.results55, go_sem, r0, r1, r2, r3, r4]) rfl ⟨?_, ?_⟩
    ·unfold opnV
     rw [HO.out]; rfl
    ·exact set5_below HB5.out (Nat.le_refl _) HP.H0
   ·rw [hse]
    have HO := zj hop
    have hne : (U.toList == s.toList) = false := by
     rw [Lib.toList_data, Lib.toList_data]; exact beq_eq_false_iff_ne.2 fun e => hU (ByteArray.ext (Array.toList_inj.1 e))
    clear hse hop; simp only; go_wp2_with fail; obtain ⟨r0, r1, r2, r3, r4⟩ := (set5_box HZ5.out.bx HP.H0).cells; unfold set5 at r0 r1 r2 r3 r4; simp only [HP.H0] at r0 r1 r2 r3 r4; refine bodyPost_ret (v := .tuple #[.agg #[.int .i64 0, .int .i64 0, .int .i64 0, .int .i64 0, .int .i64 0], .string ⟨#[]⟩, .int .i64 3]) (by simp [results, Tryz.results55, go_sem, r0, r1, r2, r3, r4]) rfl ⟨?_, ?_⟩
    ·unfold opnV
     rw [HO.out]; rfl
    ·exact set5_below HB5.out (Nat.le_refl _) HP.H0
def Tells (f : FuncId) (args : Array Value) (v : Value) : Prop := ∀ W, Sizes W → Calls Tryz.prog f args W fun e w' => e = .returned v ∧ Below W.heap.size W w'
theorem Tells.at {f : FuncId} {args : Array Value} {v : Value} {W0 W : World} (t : Hid (Tells f args v)) (s : Hid (Sizes W0)) (b : Below W0.heap.size W0 W) : Calls Tryz.prog f args W fun e w' => e = .returned v ∧ Below W0.heap.size W0 w' :=
 (t.out W (s.out.kept b)).mono fun e w' ⟨h1, h2⟩ => ⟨h1, b.trans' h2⟩
theorem Tells.held {c : Prop} {f : FuncId} {args : Array Value} {v : Value} {W0 W : World} (t : Hid (Tells f args v)) (s : Hid (Sizes W0)) (b : Hid (Below W0.heap.size W0 W) ∧ c) : Calls Tryz.prog f args W fun e w' => e = .returned v ∧ Below W0.heap.size W0 w' := Tells.at t s b.1.out
def seaV (h : HP.H) (b : ByteArray) (p : Int) : Value := .tuple #[.string (HP.sea h b p).1, .int .i64 (HP.sea h b p).2]
theorem toBytes (l : List UInt8) : (⟨l.toArray⟩ : ByteArray).data.toList = l := rfl
theorem sizeOf (l : List UInt8) : (⟨l.toArray⟩ : ByteArray).size = l.length := by simp [ByteArray.size]
theorem opened {L R : List UInt8} {h : HP.H} (hm : mayBe L.length = true) (hg : HP.good L) (hh : HP.headOf L = h) (hd : L.drop 16 = R) : HP.opn ⟨L.toArray⟩ = (h, ⟨R.toArray⟩, 0) := by
 have hs := sizeOf L
 have e : (⟨L.toArray⟩ : ByteArray).extract 16 L.length = ⟨R.toArray⟩ := by
  apply ByteArray.ext; apply Array.toList_inj.1; rw [Lib.extract_data, toBytes, hd, List.take_of_length_le (by rw [← hd, List.length_drop]; exact Nat.le_refl _)]
 have hx := HP.opn_good (s := ⟨L.toArray⟩) (by rw [hs]; exact hm) hg; rw [hx, hs, e, toBytes, hh]
theorem page_size (h : HP.H) (b : ByteArray) (p : Nat) (hb : b.size + 16 ≤ p) : (HP.page (HP.front h) (HP.rest b.data.toList p)).length = p := by
 have hbl : b.data.toList.length = b.size := by simp
 rw [HP.page_length, HP.front_length, HP.rest_length _ _ (by omega)]; omega
theorem page_opened {h : HP.H} {b : ByteArray} {p : Nat} (hm : mayBe p = true) (hr : HP.Ok h) (hb : b.size + 16 ≤ p) :
  HP.opn ⟨(HP.page (HP.front h) (HP.rest b.data.toList p)).toArray⟩ = (h, ⟨(HP.rest b.data.toList p).toArray⟩, 0) :=
 opened (by rw [page_size h b p hb]; exact hm) (HP.good_page h _ hr) (HP.headOf_page h _ hr) (HP.page_drop _ _ (HP.front_length h))
end Go.Proofs.YtpeghilfldpgfaaGreatDoor.L7
namespace Go.Proofs.YtpeghilfldpgfaaGreatDoor.L12.CP
open Go.Proofs.YtpeghilfldpgfaaGreatDoor.L7
def NumOk (F N : Int) : Prop := 1 ≤ F ∧ F ≤ 4095 ∧ 0 ≤ N ∧ N ≤ 4095 ∧ N ≠ F
instance (F N : Int) : Decidable (NumOk F N) := by unfold NumOk; infer_instance
def DataOk (N : Int) (z : Nat) (p : Int) : Prop := 1 ≤ z ∧ (z : Int) ≤ p - 16 ∧ (N = 0 ∨ (z : Int) = p - 16)
instance (N : Int) (z : Nat) (p : Int) : Decidable (DataOk N z p) := by unfold DataOk; infer_instance
def May (F N : Int) (z : Nat) (p : Int) : Prop := mayBe p = true ∧ NumOk F N ∧ DataOk N z p
instance (F N : Int) (z : Nat) (p : Int) : Decidable (May F N z p) := by unfold May; infer_instance
theorem mayBe_le {p : Int} (h : mayBe p = true) : 128 ≤ p ∧ p ≤ 1024 := HP.mayBe_bd h
def hd (F N : Int) (D : ByteArray) : HP.H := ⟨4, 0, D.size, N, F⟩
def page (F N : Int) (D : ByteArray) (p : Nat) : List UInt8 := HP.page (HP.front (hd F N D)) (HP.rest D.data.toList p)
def enc (F N : Int) (D : ByteArray) (p : Int) : ByteArray × Int :=
 if mayBe p = false then (⟨#[]⟩, 4) else if ¬ May F N D.size p then (⟨#[]⟩, 3) else (⟨(page F N D p.toNat).toArray⟩, 0)
theorem enc_arg {F N : Int} {D : ByteArray} {p : Int} (h : mayBe p = false) : enc F N D p = (⟨#[]⟩, 4) := by unfold enc; rw [if_pos h]
theorem enc_form {F N : Int} {D : ByteArray} {p : Int} (h : mayBe p = true) (hm : ¬ May F N D.size p) : enc F N D p = (⟨#[]⟩, 3) := by unfold enc; rw [if_neg (by simp [h]), if_pos hm]
theorem enc_good {F N : Int} {D : ByteArray} {p : Int} (hm : May F N D.size p) : enc F N D p = (⟨(page F N D p.toNat).toArray⟩, 0) := by unfold enc; rw [if_neg (by simp [hm.1]), if_neg (by simpa using hm)]
theorem enc_cases (F N : Int) (D : ByteArray) (p : Int) : (mayBe p = false ∧ ¬ May F N D.size p ∧ enc F N D p = (⟨#[]⟩, 4)) ∨ (mayBe p = true ∧ ¬ May F N D.size p ∧ enc F N D p = (⟨#[]⟩, 3)) ∨ (mayBe p = true ∧ May F N D.size p ∧ enc F N D p = (⟨(page F N D p.toNat).toArray⟩, 0)) := by
 cases hp : mayBe p with
 | false => exact .inl ⟨rfl, fun h => by have := h.1; rw [hp] at this; exact absurd this (by simp), enc_arg hp⟩
 | true =>
  by_cases hm : May F N D.size p
  ·exact .inr (.inr ⟨rfl, hm, enc_good hm⟩)
  ·exact .inr (.inl ⟨rfl, hm, enc_form hp hm⟩)
theorem enc_ok {F N : Int} {D : ByteArray} {p : Int} {s : ByteArray} (h : enc F N D p = (s, 0)) : May F N D.size p ∧ s = ⟨(page F N D p.toNat).toArray⟩ := by
 rcases enc_cases F N D p with ⟨_, _, e⟩ | ⟨_, _, e⟩ | ⟨_, h1, e⟩
 ·rw [e] at h; simp at h
 ·rw [e] at h; simp at h
 ·rw [e] at h
  exact ⟨h1, (congrArg Prod.fst h).symm⟩
theorem hd_ok {F N : Int} {D : ByteArray} {p : Int} (hm : May F N D.size p) : HP.Ok (hd F N D) := by
 obtain ⟨h1, ⟨h2, h3, h4, h5, h6⟩, h7, h8, h9⟩ := hm; have := mayBe_le h1; unfold HP.Ok hd; simp only; omega
theorem seal_ok {F N : Int} {D : ByteArray} {p : Int} (hm : May F N D.size p) : HP.sea (hd F N D) D p = (⟨(page F N D p.toNat).toArray⟩, 0) :=
 HP.seal_good hm.1 (HP.right_iff.2 (hd_ok hm)) (by have := hm.2.2.2.1; omega)
theorem page_open {F N : Int} {D : ByteArray} {p : Int} (hm : May F N D.size p) : HP.opn ⟨(page F N D p.toNat).toArray⟩ = (hd F N D, ⟨(HP.rest D.data.toList p.toNat).toArray⟩, 0) := by
 have hp := mayBe_le hm.1; obtain ⟨q, rfl⟩ : ∃ q : Nat, p = q := Int.eq_ofNat_of_zero_le (by omega); exact page_opened hm.1 (hd_ok hm) (by have := hm.2.2.2.1; omega)
def dec (s : ByteArray) : Option (Int × Int × ByteArray) :=
 if (HP.opn s).2.2 = 0 ∧ (HP.opn s).1.c ≤ ((HP.opn s).2.1.size : Int) then
  if enc (HP.opn s).1.s (HP.opn s).1.r ((HP.opn s).2.1.extract 0 (HP.opn s).1.c.toNat) s.size = (s, 0) then some ((HP.opn s).1.s, (HP.opn s).1.r, (HP.opn s).2.1.extract 0 (HP.opn s).1.c.toNat) else none
 else none
theorem rest_extract (D : ByteArray) (p : Nat) (h : D.size + 16 ≤ p) : (⟨(HP.rest D.data.toList p).toArray⟩ : ByteArray).extract 0 D.size = D := by
 apply ByteArray.ext; apply Array.toList_inj.1; rw [Lib.extract_data, toBytes]; unfold HP.rest; rw [List.drop_zero, Nat.sub_zero]
 have : D.data.toList.length = D.size := by simp
 rw [← this, List.take_left]
theorem dec_iff (s : ByteArray) (F N : Int) (D : ByteArray) : dec s = some (F, N, D) ↔ enc F N D s.size = (s, 0) := by
 constructor
 ·intro h
  unfold dec at h
  split at h
  ·split at h
   ·rename_i h2
    simp only [Option.some.injEq, Prod.mk.injEq] at h; obtain ⟨e1, e2, e3⟩ := h; rw [e1, e2, e3] at h2; exact h2
   ·exact nomatch h
  ·exact nomatch h
 ·intro h
  obtain ⟨hm, hs⟩ := enc_ok h; have ho := page_open hm; rw [← hs] at ho; have hp := mayBe_le hm.1; have hd3 : DataOk N D.size s.size := hm.2.2
  have hx : (⟨(HP.rest D.data.toList (s.size : Int).toNat).toArray⟩ : ByteArray).extract 0 (hd F N D).c.toNat = D := by
   show (⟨(HP.rest D.data.toList (s.size : Int).toNat).toArray⟩ : ByteArray).extract 0 D.size = D; exact rest_extract D _ (by have := hd3.2.1; omega)
  have hz : (⟨(HP.rest D.data.toList (s.size : Int).toNat).toArray⟩ : ByteArray).size = s.size - 16 := by
   rw [L7.sizeOf, HP.rest_length _ _ (by have := hd3.2.1; simp; omega)]; omega
  unfold dec; rw [ho]; simp only [hx, hz]; have hc : (hd F N D).c = (D.size : Int) := rfl; rw [if_pos ⟨trivial, by rw [hc]; have := hd3.2.1; omega⟩]; show (if enc F N D s.size = (s, 0) then some (F, N, D) else none) = _; rw [if_pos h]
theorem dec_kind {s : ByteArray} (h : (HP.opn s).1.k ≠ 4) : dec s = none := by
 cases hx : dec s with
 | none => rfl
 | some x =>
  obtain ⟨F, N, D⟩ := x; obtain ⟨hm, hs⟩ := enc_ok ((dec_iff s F N D).1 hx); have ho := page_open hm; rw [← hs] at ho; rw [ho] at h; exact absurd rfl h
theorem dec_bad {s : ByteArray} (h : ¬ ((HP.opn s).2.2 = 0 ∧ (HP.opn s).1.c ≤ ((HP.opn s).2.1.size : Int))) : dec s = none := by unfold dec; rw [if_neg h]
theorem dec_yes {s : ByteArray} (h : (HP.opn s).2.2 = 0 ∧ (HP.opn s).1.c ≤ ((HP.opn s).2.1.size : Int)) (he : enc (HP.opn s).1.s (HP.opn s).1.r ((HP.opn s).2.1.extract 0 (HP.opn s).1.c.toNat) s.size = (s, 0)) : dec s = some ((HP.opn s).1.s, (HP.opn s).1.r, (HP.opn s).2.1.extract 0 (HP.opn s).1.c.toNat) := by unfold dec; rw [if_pos h, if_pos he]
theorem dec_no {s : ByteArray} (h : (HP.opn s).2.2 = 0 ∧ (HP.opn s).1.c ≤ ((HP.opn s).2.1.size : Int)) (he : ¬ enc (HP.opn s).1.s (HP.opn s).1.r ((HP.opn s).2.1.extract 0 (HP.opn s).1.c.toNat) s.size = (s, 0)) : dec s = none := by unfold dec; rw [if_pos h, if_neg he]
end Go.Proofs.YtpeghilfldpgfaaGreatDoor.L12.CP
namespace Go.Proofs.YtpeghilfldpgfaaGreatDoor.L7
open Go.RowKit
theorem rest_full (A : ByteArray) (p : Nat) (h : A.size + 16 = p) : HP.rest A.data.toList p = A.data.toList := by
 unfold HP.rest; rw [show p - 16 - A.data.toList.length = 0 by simp; omega]; simp
end Go.Proofs.YtpeghilfldpgfaaGreatDoor.L7
namespace Go.Proofs.YtpeghilfldpgfaaGreatDoor.L13.MP
open Go.Proofs.YtpeghilfldpgfaaGreatDoor.L7
structure Mt where
 p : Int
 pg : Int
 r : Int
 l : Int
 n : Int
def Mt0 : Mt := ⟨0, 0, 0, 0, 0⟩
def May (m : Mt) : Prop := mayBe m.p = true ∧ 2 ≤ m.pg ∧ m.pg ≤ 4096 ∧ 1 ≤ m.r ∧ m.r < m.pg ∧ 0 ≤ m.l ∧ m.l ≤ 255 ∧ 0 ≤ m.n ∧ m.n ≤ 2147483647
instance (m : Mt) : Decidable (May m) := by unfold May; infer_instance
theorem mayBe_le {p : Int} (h : mayBe p = true) : 128 ≤ p ∧ p ≤ 1024 := HP.mayBe_bd h
def hd (m : Mt) : HP.H := ⟨1, m.l, 0, m.r, 0⟩
def front (m : Mt) : List UInt8 := [119, 105, 116, 104, 121] ++ Lib.leBytes 4 m.p.toNat ++ Lib.leBytes 4 m.pg.toNat ++ Lib.leBytes 4 m.n.toNat
def body (m : Mt) : List UInt8 := front m ++ List.replicate (m.p.toNat - 34) 0 ++ [87]
def page (m : Mt) : List UInt8 := HP.page (HP.front (hd m)) (body m)
theorem front_length (m : Mt) : (front m).length = 17 := by simp [front, Lib.leBytes_length]
theorem body_length (m : Mt) (h : 34 ≤ m.p) : (body m).length = m.p.toNat - 16 := by
 unfold body; rw [List.length_append, List.length_append, front_length, List.length_replicate, List.length_singleton]; omega
theorem hd_ok {m : Mt} (h : May m) : HP.Ok (hd m) := by
 obtain ⟨h1, h2, h3, h4, h5, h6, h7, h8, h9⟩ := h; unfold HP.Ok hd; simp only; omega
theorem page_length {m : Mt} (h : May m) : (page m).length = m.p.toNat := by
 have := mayBe_le h.1; unfold page; rw [HP.page_length, HP.front_length, body_length m (by omega)]; omega
def enc (m : Mt) : ByteArray × Int := if May m then (⟨(page m).toArray⟩, 0) else (⟨#[]⟩, 3)
theorem enc_good {m : Mt} (h : May m) : enc m = (⟨(page m).toArray⟩, 0) := by unfold enc; rw [if_pos h]
theorem enc_form {m : Mt} (h : ¬ May m) : enc m = (⟨#[]⟩, 3) := by unfold enc; rw [if_neg h]
theorem enc_ok {m : Mt} {s : ByteArray} (h : enc m = (s, 0)) : May m ∧ s = ⟨(page m).toArray⟩ := by
 by_cases hm : May m
 ·rw [enc_good hm] at h
  exact ⟨hm, (congrArg Prod.fst h).symm⟩
 ·rw [enc_form hm] at h
  simp at h
theorem enc_size {m : Mt} {s : ByteArray} (h : enc m = (s, 0)) : (s.size : Int) = m.p := by
 obtain ⟨hm, rfl⟩ := enc_ok h; have := mayBe_le hm.1; rw [L7.sizeOf, page_length hm]; omega
theorem body_size {m : Mt} (h : May m) : (⟨(body m).toArray⟩ : ByteArray).size + 16 = m.p.toNat := by
 have := mayBe_le h.1; rw [L7.sizeOf, body_length m (by omega)]; omega
theorem seal_ok {m : Mt} (h : May m) : HP.sea (hd m) ⟨(body m).toArray⟩ m.p = (⟨(page m).toArray⟩, 0) := by
 have hp := mayBe_le h.1; have hb := body_size h; rw [HP.seal_good h.1 (HP.right_iff.2 (hd_ok h)) (by omega), rest_full _ _ hb]; rfl
theorem page_open {m : Mt} (h : May m) : HP.opn ⟨(page m).toArray⟩ = (hd m, ⟨(body m).toArray⟩, 0) := by
 have hp := mayBe_le h.1; have hb := body_size h; have e := page_opened (h := hd m) (b := ⟨(body m).toArray⟩) (p := m.p.toNat) (by rw [Int.toNat_of_nonneg (by omega)]; exact h.1) (hd_ok h) (by omega); rw [rest_full _ _ hb] at e; exact e
def num (b : ByteArray) (i : Nat) : Int := (Lib.leNat ((b.data.toList.drop i).take 4) : Nat)
def told (h : HP.H) (b : ByteArray) : Mt := ⟨num b 5, num b 9, h.r, h.l, num b 13⟩
theorem drop_app {x y : List UInt8} {i : Nat} (h : x.length = i) : (x ++ y).drop i = y := by rw [← h, List.drop_left]
theorem take_app {x y : List UInt8} {i : Nat} (h : x.length = i) : (x ++ y).take i = x := by rw [← h, List.take_left]
theorem told_body {m : Mt} (h : May m) : told (hd m) ⟨(body m).toArray⟩ = m := by
 obtain ⟨p, pg, r, l, n⟩ := m; obtain ⟨h1, h2, h3, h4, h5, h6, h7, h8, h9⟩ := h; have hp := mayBe_le h1; simp only at h1 h2 h3 h4 h5 h6 h7 h8 h9 hp
 have b5 : (body ⟨p, pg, r, l, n⟩).drop 5 = Lib.leBytes 4 p.toNat ++ (Lib.leBytes 4 pg.toNat ++ (Lib.leBytes 4 n.toNat ++ (List.replicate (p.toNat - 34) 0 ++ [87]))) := by
  simp [body, front]
 have b9 : (body ⟨p, pg, r, l, n⟩).drop 9 = Lib.leBytes 4 pg.toNat ++ (Lib.leBytes 4 n.toNat ++ (List.replicate (p.toNat - 34) 0 ++ [87])) := by
  rw [show (9 : Nat) = 5 + 4 from rfl, ← List.drop_drop, b5, drop_app (Lib.leBytes_length 4 _)]
 have b13 : (body ⟨p, pg, r, l, n⟩).drop 13 = Lib.leBytes 4 n.toNat ++ (List.replicate (p.toNat - 34) 0 ++ [87]) := by
  rw [show (13 : Nat) = 9 + 4 from rfl, ← List.drop_drop, b9, drop_app (Lib.leBytes_length 4 _)]
 unfold told num; rw [L7.toBytes, b5, b9, b13, take_app (Lib.leBytes_length 4 _), take_app (Lib.leBytes_length 4 _), take_app (Lib.leBytes_length 4 _), HP.le4_back _ (by omega), HP.le4_back _ (by omega), HP.le4_back _ (by omega)]; simp only [hd, Mt.mk.injEq]; exact ⟨by omega, by omega, trivial, trivial, by omega⟩
def dec (s : ByteArray) : Option Mt :=
 if (HP.opn s).2.2 = 0 then
  if enc (told (HP.opn s).1 (HP.opn s).2.1) = (s, 0) then some (told (HP.opn s).1 (HP.opn s).2.1) else none
 else none
theorem dec_iff (s : ByteArray) (m : Mt) : dec s = some m ↔ enc m = (s, 0) := by
 constructor
 ·intro h
  unfold dec at h
  split at h
  ·split at h
   ·rename_i h2
    rw [Option.some.injEq] at h; rw [h] at h2; exact h2
   ·exact nomatch h
  ·exact nomatch h
 ·intro h
  obtain ⟨hm, hs⟩ := enc_ok h; have ho := page_open hm; rw [← hs] at ho; unfold dec; rw [ho]; simp only [told_body hm]; rw [if_pos trivial, if_pos h]
theorem dec_bad {s : ByteArray} (h : (HP.opn s).2.2 ≠ 0) : dec s = none := by unfold dec; rw [if_neg h]
theorem dec_yes {s : ByteArray} (h : (HP.opn s).2.2 = 0) (he : enc (told (HP.opn s).1 (HP.opn s).2.1) = (s, 0)) : dec s = some (told (HP.opn s).1 (HP.opn s).2.1) := by unfold dec; rw [if_pos h, if_pos he]
theorem dec_no {s : ByteArray} (h : (HP.opn s).2.2 = 0) (he : enc (told (HP.opn s).1 (HP.opn s).2.1) ≠ (s, 0)) : dec s = none := by unfold dec; rw [if_pos h, if_neg he]
def rep (c : UInt8) (n : Nat) : ByteArray := ⟨(List.replicate n c).toArray⟩
theorem rep_size (c : UInt8) (n : Nat) : (rep c n).size = n := by
 show (List.replicate n c).toArray.size = n; rw [List.size_toArray, List.length_replicate]
end Go.Proofs.YtpeghilfldpgfaaGreatDoor.L13.MP
namespace Go.Proofs.YtpeghilfldpgfaaGreatDoor.GP
open Go.Proofs.YtpeghilfldpgfaaGreatDoor.L7
abbrev Ch := Int × Int × ByteArray
structure Pg where
 k : Int
 l : L10.NP.Lf
 n : L11.IP.Inn
 c : Ch
 m : L13.MP.Mt
def c0 : Ch := (0, 0, ⟨#[]⟩)
def Pg0 : Pg := ⟨0, L10.NP.Lf0, L11.IP.In0, c0, L13.MP.Mt0⟩
def ofL (l : L10.NP.Lf) : Pg := ⟨2, l, L11.IP.In0, c0, L13.MP.Mt0⟩
def ofN (n : L11.IP.Inn) : Pg := ⟨3, L10.NP.Lf0, n, c0, L13.MP.Mt0⟩
def ofC (c : Ch) : Pg := ⟨4, L10.NP.Lf0, L11.IP.In0, c, L13.MP.Mt0⟩
def ofM (m : L13.MP.Mt) : Pg := ⟨1, L10.NP.Lf0, L11.IP.In0, c0, m⟩
def kd (s : ByteArray) : Int := (HP.opn s).1.k
theorem kd_l {s : ByteArray} {l : L10.NP.Lf} (h : L10.NP.dec s = some l) : kd s = 2 := by
 obtain ⟨h1, h2, h3, _⟩ := L10.NP.enc_head ((L10.NP.dec_iff s l).1 h); unfold kd; rw [HP.opn_good h1 h2, h3]; rfl
theorem kd_n {s : ByteArray} {n : L11.IP.Inn} (h : L11.IP.dec s = some n) : kd s = 3 := by
 obtain ⟨h1, h2, h3, _⟩ := L11.IP.enc_head ((L11.IP.dec_iff s n).1 h); unfold kd; rw [HP.opn_good h1 h2, h3]; rfl
theorem kd_c {s : ByteArray} {c : Ch} (h : L12.CP.dec s = some c) : kd s = 4 := by
 by_cases e : kd s = 4
 ·exact e
 ·rw [L12.CP.dec_kind e] at h
  cases h
theorem kd_m {s : ByteArray} {m : L13.MP.Mt} (h : L13.MP.dec s = some m) : kd s = 1 := by
 obtain ⟨h1, h2⟩ := L13.MP.enc_ok ((L13.MP.dec_iff s m).1 h); unfold kd; rw [h2, L13.MP.page_open h1]; rfl
theorem no_l {s : ByteArray} (h : kd s ≠ 2) : L10.NP.dec s = none := by
 cases e : L10.NP.dec s with
 | none => rfl
 | some x => exact absurd (kd_l e) h
theorem no_n {s : ByteArray} (h : kd s ≠ 3) : L11.IP.dec s = none := by
 cases e : L11.IP.dec s with
 | none => rfl
 | some x => exact absurd (kd_n e) h
theorem no_c {s : ByteArray} (h : kd s ≠ 4) : L12.CP.dec s = none := by
 cases e : L12.CP.dec s with
 | none => rfl
 | some x => exact absurd (kd_c e) h
theorem no_m {s : ByteArray} (h : kd s ≠ 1) : L13.MP.dec s = none := by
 cases e : L13.MP.dec s with
 | none => rfl
 | some x => exact absurd (kd_m e) h
def dec (s : ByteArray) : Option Pg := match L10.NP.dec s with
 | some l => some (ofL l)
 | none => match L11.IP.dec s with
  | some n => some (ofN n)
  | none => match L12.CP.dec s with
   | some c => some (ofC c)
   | none => match L13.MP.dec s with
    | some m => some (ofM m)
    | none => none
theorem dec_l {s : ByteArray} {l : L10.NP.Lf} (h : L10.NP.dec s = some l) : dec s = some (ofL l) := by unfold dec; rw [h]
theorem dec_n {s : ByteArray} {n : L11.IP.Inn} (h : L11.IP.dec s = some n) : dec s = some (ofN n) := by
 unfold dec; rw [no_l (by rw [kd_n h]; decide), h]
theorem dec_c {s : ByteArray} {c : Ch} (h : L12.CP.dec s = some c) : dec s = some (ofC c) := by
 unfold dec; rw [no_l (by rw [kd_c h]; decide), no_n (by rw [kd_c h]; decide), h]
theorem dec_m {s : ByteArray} {m : L13.MP.Mt} (h : L13.MP.dec s = some m) : dec s = some (ofM m) := by
 unfold dec; rw [no_l (by rw [kd_m h]; decide), no_n (by rw [kd_m h]; decide), no_c (by rw [kd_m h]; decide), h]
theorem dec_0 {s : ByteArray} (hl : L10.NP.dec s = none) (hn : L11.IP.dec s = none) (hc : L12.CP.dec s = none) (hm : L13.MP.dec s = none) : dec s = none := by
 unfold dec; rw [hl, hn, hc, hm]
theorem dec_cases (s : ByteArray) :
  (∃ l, L10.NP.dec s = some l ∧ L11.IP.dec s = none ∧ L12.CP.dec s = none ∧ L13.MP.dec s = none ∧ dec s = some (ofL l)) ∨
  (∃ n, L10.NP.dec s = none ∧ L11.IP.dec s = some n ∧ L12.CP.dec s = none ∧ L13.MP.dec s = none ∧ dec s = some (ofN n)) ∨
  (∃ c, L10.NP.dec s = none ∧ L11.IP.dec s = none ∧ L12.CP.dec s = some c ∧ L13.MP.dec s = none ∧ dec s = some (ofC c)) ∨
  (∃ m, L10.NP.dec s = none ∧ L11.IP.dec s = none ∧ L12.CP.dec s = none ∧ L13.MP.dec s = some m ∧ dec s = some (ofM m)) ∨
  (L10.NP.dec s = none ∧ L11.IP.dec s = none ∧ L12.CP.dec s = none ∧ L13.MP.dec s = none ∧ dec s = none) := by
 cases hl : L10.NP.dec s with
 | some l => exact .inl ⟨l, rfl, no_n (by rw [kd_l hl]; decide), no_c (by rw [kd_l hl]; decide), no_m (by rw [kd_l hl]; decide), dec_l hl⟩
 | none =>
  cases hn : L11.IP.dec s with
  | some n => exact .inr (.inl ⟨n, rfl, rfl, no_c (by rw [kd_n hn]; decide), no_m (by rw [kd_n hn]; decide), dec_n hn⟩)
  | none =>
   cases hc : L12.CP.dec s with
   | some c => exact .inr (.inr (.inl ⟨c, rfl, rfl, rfl, no_m (by rw [kd_c hc]; decide), dec_c hc⟩))
   | none =>
    cases hm : L13.MP.dec s with
    | some m => exact .inr (.inr (.inr (.inl ⟨m, rfl, rfl, rfl, rfl, dec_m hm⟩)))
    | none => exact .inr (.inr (.inr (.inr ⟨rfl, rfl, rfl, rfl, dec_0 hl hn hc hm⟩)))
def self (x : Pg) : Int := if x.k = 2 then x.l.self else if x.k = 3 then x.n.self else if x.k = 4 then x.c.1 else 0
def right (x : Pg) : Int := if x.k = 1 then x.m.r else if x.k = 2 then x.l.right else if x.k = 3 then x.n.right else if x.k = 4 then x.c.2.1 else 0
def at_ (l : List ByteArray) (i : Int) : Except Int Pg :=
 if h : 0 ≤ i ∧ i < l.length then
  match dec (l[i.toNat]'(by omega)) with
  | some x => if self x = i then .ok x else .error 3
  | none => .error 3
 else .error 4
def kindAt (l : List ByteArray) (i : Nat) : Int := match at_ l i with
 | .ok x => x.k
 | .error _ => 0
def survey (l : List ByteArray) : List Int := (List.range l.length).map (kindAt l)
theorem at_arg {l : List ByteArray} {i : Int} (h : ¬ (0 ≤ i ∧ i < l.length)) : at_ l i = .error 4 := by unfold at_; rw [dif_neg h]
theorem at_in {l : List ByteArray} {i : Nat} {s : ByteArray} (h : l[i]? = some s) : at_ l i = match dec s with
  | some x => if self x = i then .ok x else .error 3
  | none => .error 3 := by
 obtain ⟨h1, h2⟩ := List.getElem?_eq_some_iff.1 h; subst h2; unfold at_; rw [dif_pos ⟨by omega, by omega⟩]; rfl
theorem at_none {l : List ByteArray} {i : Nat} {s : ByteArray} (h : l[i]? = some s) (hd : dec s = none) : at_ l i = .error 3 := by rw [at_in h, hd]
theorem at_moved {l : List ByteArray} {i : Nat} {s : ByteArray} {x : Pg} (h : l[i]? = some s) (hd : dec s = some x) (hs : self x ≠ i) : at_ l i = .error 3 := by rw [at_in h, hd]; simp only; rw [if_neg hs]
theorem at_ok {l : List ByteArray} {i : Nat} {s : ByteArray} {x : Pg} (h : l[i]? = some s) (hd : dec s = some x) (hs : self x = i) : at_ l i = .ok x := by rw [at_in h, hd]; simp only; rw [if_pos hs]
theorem survey_length (l : List ByteArray) : (survey l).length = l.length := by simp [survey]
theorem dec_open {s : ByteArray} {x : Pg} (h : dec s = some x) : mayBe s.size = true ∧ HP.good s.data.toList := by
 by_cases e : mayBe s.size = true ∧ HP.good s.data.toList
 ·exact e
 ·have hk : kd s = 0 := by unfold kd; rw [HP.opn_bad e]; rfl
  rw [dec_0 (no_l (by rw [hk]; decide)) (no_n (by rw [hk]; decide)) (no_c (by rw [hk]; decide)) (no_m (by rw [hk]; decide))] at h; cases h
theorem dec_size {s : ByteArray} {x : Pg} (h : dec s = some x) : s.size = 128 ∨ s.size = 256 ∨ s.size = 512 ∨ s.size = 1024 := by
 have := of_decide_eq_true (show decide ((s.size : Int) = 128 ∨ (s.size : Int) = 256 ∨ (s.size : Int) = 512 ∨ (s.size : Int) = 1024) = true from (dec_open h).1); omega
end Go.Proofs.YtpeghilfldpgfaaGreatDoor.GP
namespace Go.Proofs.YtpeghilfldpgfaaGreatDoor.L9
open Go.RowKit
theorem Tryz.infoU8 : (Tryz.prog.info? 5).map (fun i => (i.zero, i.size, i.bytes)) = some (some (.int .u8 0), 1, 1) := by kernel_rfl
theorem addr_at (b j : Nat) : (⟨b, 0, none⟩ : Addr).add j = ⟨b, j, none⟩ := by
 unfold Addr.add
 split <;> simp_all
theorem made_zeros (m : Nat) : (madeCells (Value.int .u8 0).cells (m * 1)).toList = List.replicate m (.int .u8 0) := by
 apply List.ext_getElem
 ·simp [madeCells]
 ·intro i h1 h2
  simp [madeCells, Value.cells, Nat.mod_one]
theorem highFirst_any (n c : Int) (w : World) (h0 : 0 ≤ n) (h1 : n ≤ 18446744073709551615) (hc0 : 1 ≤ c) (hc1 : c ≤ 8) :
  Calls Tryz.prog 203 #[.int .u64 n, .int .i64 c] w fun e w' => e = .returned (.string ⟨(Lib.beBytes c.toNat n.toNat).toArray⟩) ∧ Below w.heap.size w w' := by
 obtain ⟨m, rfl⟩ := Int.eq_ofNat_of_zero_le (show 0 ≤ c by omega); obtain ⟨i0, hi, hz0, hz1, hz2⟩ := info_parts Tryz.infoU8; go_enter Tryz.func203, Tryz.ntmps203; go_wp2_with (at_make; refine wpList_make_full _ rfl _ _ 86 rfl w.heap.size 5 i0 (.int .u8 0) 1 Tryz.underlying86 hi hz0 hz1 _ _ _ _ m rfl rfl rfl rfl (by rw [hz2]; omega) (by unfold maxLen; omega) (Nat.le_refl _) ?_; intro w1 hown1 hg1)
 go_loopw [10] (fun i wr => ∃ k : Nat, k ≤ m ∧ i = .int .i64 k ∧ wr.ownsRow w.heap.size 5 1 (.slice (some ⟨w.heap.size, 0, none⟩) m m) m (WP.cellsAt n m k) ∧ Below w.heap.size w wr) (fun i _ => m - (intOf i).toNat)
 case atStart =>
  refine ⟨0, Nat.zero_le _, rfl, ?_, (Below.refl _ w).grown hg1 (Nat.le_refl _) (by simp)⟩; rw [WP.cellsAt_zero]; rwa [made_zeros] at hown1
 case round =>
  obtain ⟨k, hk, rfl, hown, hb⟩ := hrel; by_cases hlt : k < m
  ·have hcell : wr.cell? ⟨w.heap.size, k, none⟩ = some (.int .u8 0) := by
    rw [hown.cellAt k (by omega)]; simp [WP.cellsAt, hlt]
   have hfr := hown.frozenAt k
   go_wp2
   go_roundw
   case rel =>
    refine ⟨k + 1, by omega, by go_num, ?_, ?_⟩
    ·have h := (hown.stored k (.int .u8 (n / 2 ^ (8 * (m - 1 - k)) % 256))).1
     rwa [WP.cellsAt_succ] at h
    ·exact hb.setCell (Nat.le_refl _) _
   case measure => simp [intOf]; omega
  ·obtain rfl : k = m := by omega
   obtain ⟨v, rfl⟩ := Int.eq_ofNat_of_zero_le h0
   have hcv : (convert 86 9 (.slice (some ⟨w.heap.size, 0, none⟩) k k)).run Tryz.prog wr = .ok (.string ⟨(Lib.beBytes k v).toArray⟩) wr := by
    have h := run_convert_bytes_back (P := Tryz.prog) wr 86 9 5 ⟨w.heap.size, 0, none⟩ k (Lib.beBytes k v) Tryz.underlying86 Tryz.underlying5 Tryz.underlying9 (fun j hj => by
     have hj' : j < k := by simpa [Lib.beBytes_length] using hj
     have e := hown.cellAt j (by omega); rw [WP.cellsAt_full v k j hj] at e
     rwa [addr_at])
    rwa [Lib.beBytes_length] at h
   go_wp2
   go_ret; exact ⟨by simp, hb⟩
theorem four_any (n : Int) (w : World) (h0 : 0 ≤ n) (h1 : n ≤ 4294967295) :
  Calls Tryz.prog 61 #[.int .u32 n] w fun e w' => e = .returned (.string ⟨(Lib.leBytes 4 n.toNat).toArray⟩) ∧ Below w.heap.size w w' := by
 go_enter Tryz.func61, Tryz.ntmps61
 go_wp2
 go_loopw [5] (fun i wr => ∃ k : Nat, k ≤ 4 ∧ i = .int .i64 k ∧ Hid (wr.heap[w.heap.size]? = some (.cells (WP.fourAt n k) 85 (0, 0))) ∧ Below w.heap.size w wr) (fun i _ => 4 - (intOf i).toNat)
 case atStart =>
  exact ⟨0, Nat.zero_le _, rfl, zj (heap_alloc_new _ _), (Below.refl _ w).alloc (Nat.le_refl _) _⟩
 case round =>
  obtain ⟨k, hk, rfl, hh, hb⟩ := hrel; by_cases hlt : k < 4
  ·have hcell : wr.cell? ⟨w.heap.size, k, none⟩ = some (.int .u8 0) := by
    rw [cell_of_row _ _ k _ _ _ hh.out]; exact WP.fourAt_get n k k (Nat.le_refl _) hlt
   have hfr := frozen_of_row _ _ k _ _ hh.out
   go_wp2
   go_roundw
   case rel =>
    refine ⟨k + 1, by omega, by go_num, ?_, ?_⟩
    ·have h := heap_setCell_same wr _ k _ _ (.int .u8 (n / 2 ^ (8 * k) % 256)) hh.out
     rw [WP.fourAt_succ] at h; exact zj h
    ·exact hb.setCell (Nat.le_refl _) _
   case measure => simp [intOf]; omega
  ·obtain rfl : k = 4 := by omega
   obtain ⟨v, rfl⟩ := Int.eq_ofNat_of_zero_le h0
   have hcv : ∀ c, (convert 86 9 (.slice (some ⟨w.heap.size, 0, none⟩) 4 c)).run Tryz.prog wr = .ok (.string ⟨(Lib.leBytes 4 v).toArray⟩) wr := fun c =>
    run_convert_bytes_back (P := Tryz.prog) wr 86 9 5 ⟨w.heap.size, 0, none⟩ c (Lib.leBytes 4 v) Tryz.underlying86 Tryz.underlying5 Tryz.underlying9 (fun j hj => by
     have e := cell_of_row _ _ j _ _ _ hh.out; rw [WP.fourAt_full v j hj] at e
     rwa [addr_at])
   go_wp2
   go_ret; exact ⟨by simp, hb⟩
theorem read_any (s : ByteArray) (i : Int) (w : World) (h0 : 0 ≤ i) (h1 : i + 4 ≤ s.size) (h2 : s.size ≤ maxLen) :
  Calls Tryz.prog 99 #[.string s, .int .i64 i] w fun e w' => e = .returned (.tuple #[.int .u32 (Lib.leNat ((s.data.toList.drop i.toNat).take 4)), .int .i64 0]) ∧ w = w' := by
 obtain ⟨a, rfl⟩ := Int.eq_ofNat_of_zero_le h0; unfold maxLen at h2; have d1 : decide ((a : Int) < 0) = false := dF (by omega); have d2 : decide (s.size < a) = false := dF (by omega); have d3 : decide ((s.size : Int) - a < 4) = false := dF (by omega); go_enter Tryz.func99, Tryz.ntmps99
 go_wp2
 go_loop [6, 21] (fun n i => ∃ k : Nat, k ≤ 4 ∧ i = .int .i64 k ∧ n = .int .u32 (Lib.leNat ((s.data.toList.drop a).take k) : Nat)) (fun _ i => 4 - (intOf i).toNat)
 case atStart => exact ⟨0, Nat.zero_le _, rfl, rfl⟩
 case round =>
  obtain ⟨k, hk, rfl, rfl⟩ := hrel; by_cases hlt : k < 4
  ·have HO := zj (WP.rd_step s a k (by omega) hlt)
   go_wp2
   go_round
   case rel =>
    refine ⟨k + 1, by omega, by go_num, ?_⟩; rw [← HO.out]
   case measure => simp [intOf]; omega
  ·obtain rfl : k = 4 := by omega
   go_wp2
   go_ret2
   exact ⟨rfl, rfl⟩
theorem read_short (s : ByteArray) (i : Int) (w : World) (h0 : 0 ≤ i) (h1 : i ≤ s.size) (h3 : (s.size : Int) < i + 4) :
  Calls Tryz.prog 99 #[.string s, .int .i64 i] w fun e w' => e = .returned (.tuple #[.int .u32 0, .int .i64 7]) ∧ w = w' := by
 go_enter Tryz.func99, Tryz.ntmps99
 go_wp2
 go_ret2
 exact ⟨rfl, rfl⟩
end Go.Proofs.YtpeghilfldpgfaaGreatDoor.L9
namespace Go.Proofs.YtpeghilfldpgfaaGreatDoor.L11
open Go.RowKit IP
def numCells (l : List Int) : List Value := l.map fun k => .int .i64 k
theorem numCells_length (l : List Int) : (numCells l).length = l.length := by simp [numCells]
theorem numCells_snoc (l : List Int) (k : Int) : numCells (l ++ [k]) = numCells l ++ [.int .i64 k] := by simp [numCells]
theorem numCells_get (l : List Int) (i : Nat) (k : Int) (h : l[i]? = some k) : (numCells l)[i]? = some (.int .i64 k) := by simp [numCells, h]
theorem num_one (k : Int) : ∀ u ∈ [Value.int .i64 k], u.oneCell' = true := by simp [Value.oneCell']
def LiesN (w : World) (b : Nat) (A : Option Addr) (l : List Int) : Prop :=
 ∀ i k, l[i]? = some k → ∃ a, A = some a ∧ a.block < b ∧ w.cell? (a.add i) = some (.int .i64 k)
section
variable {w w' : World} {b b' : Nat} {A : Option Addr} {l : List Int}
theorem LiesN.keep (h : LiesN w b A l) (hk : ∀ p : Addr, p.block < b → w'.cell? p = w.cell? p) : LiesN w' b A l := fun i c hc => by
 obtain ⟨a, e, hb, hx⟩ := h i c hc; exact ⟨a, e, hb, (hk _ (by rw [L5.addr_block]; exact hb)).trans hx⟩
theorem LiesN.more (h : LiesN w b A l) (hB : b ≤ b') : LiesN w b' A l := fun i c hc => by
 obtain ⟨a, e, hb, hx⟩ := h i c hc; exact ⟨a, e, by omega, hx⟩
theorem LiesN.below (h : LiesN w b A l) (k : Below b w w') : LiesN w' b A l := h.keep fun _ hp => k.cell hp
theorem LiesN.below' {c : Nat} (h : LiesN w b A l) (k : Below c w w') (hc : b ≤ c) : LiesN w' b A l := h.keep fun _ hp => k.cell (by omega)
theorem LiesN.on (h : LiesN w w.heap.size A l) (k : Below w.heap.size w w') : LiesN w' w'.heap.size A l := (h.below k).more k.size
theorem LiesN.take (h : LiesN w b A l) (k : Nat) : LiesN w b A (l.take k) := fun i c hc => by
 refine h i c ?_; rw [List.getElem?_take] at hc
 split at hc
 ·exact hc
 ·simp at hc
end
theorem liesN_own {w : World} {base e : Nat} {A : Option Addr} {n cap : Nat} {l : List Int} (h : w.ownsRow base e 1 (.slice A n cap) n (numCells l)) (hn : n = l.length) : LiesN w w.heap.size A l := fun i c hc => by
 have hi : i < l.length := (List.getElem?_eq_some_iff.1 hc).1; obtain ⟨g, cap', hv, _, hlt⟩ := h.form (by omega)
 have hA : A = some ⟨g, 0, none⟩ := by injection hv
 subst hA; exact ⟨_, rfl, hlt, h.cells (g := g) rfl _ _ (numCells_get l i c hc)⟩
theorem lies_below' {w w' : World} {b c : Nat} {A : Option Addr} {l : List ByteArray} (h : L5.Lies w b A l) (k : Below c w w') (hc : b ≤ c) : L5.Lies w' b A l := h.keep fun _ hp => k.cell (by omega)
abbrev nv (F L R : Int) (H : ByteArray) (A : Option Addr) (n ca : Nat) (C : Option Addr) (m cb : Nat) : Value := .agg #[.int .i64 F, .int .i64 L, .int .i64 R, .string H, .slice A n ca, .slice C m cb]
structure Rows2 (w : World) (A : Option Addr) (n ca : Nat) (C : Option Addr) (m cb : Nat) (ks : List Int) (ss : List ByteArray) : Prop where
 kids : LiesN w w.heap.size A ks
 seps : L5.Lies w w.heap.size C ss
 nk : ks.length = n
 nm : ss.length = m
 ck : n ≤ ca
 cm : m ≤ cb
theorem Rows2.on {w w' : World} {A : Option Addr} {n ca : Nat} {C : Option Addr} {m cb : Nat} {ks : List Int} {ss : List ByteArray} (h : Rows2 w A n ca C m cb ks ss) (k : Below w.heap.size w w') : Rows2 w' A n ca C m cb ks ss := ⟨h.kids.on k, h.seps.on k, h.nk, h.nm, h.ck, h.cm⟩
def NBx (t : TypeId) (g : Nat) (F L R : Int) (H : ByteArray) (A : Option Addr) (n ca : Nat) (C : Option Addr) (m cb : Nat) (w : World) : Prop := w.heap[g]? = some (.cells #[.int .i64 F, .int .i64 L, .int .i64 R, .string H, .slice A n ca, .slice C m cb] t (0, 0))
section
variable {t : TypeId} {g : Nat} {F L R : Int} {H : ByteArray} {A : Option Addr} {n ca : Nat} {C : Option Addr} {m cb : Nat} {w w' : World}
theorem NBx.cells (k : NBx t g F L R H A n ca C m cb w) : w.cell? ⟨g, 0, none⟩ = some (.int .i64 F) ∧ w.cell? ⟨g, 1, none⟩ = some (.int .i64 L) ∧ w.cell? ⟨g, 2, none⟩ = some (.int .i64 R) ∧ w.cell? ⟨g, 3, none⟩ = some (.string H) ∧ w.cell? ⟨g, 4, none⟩ = some (.slice A n ca) ∧ w.cell? ⟨g, 5, none⟩ = some (.slice C m cb) := by
 unfold NBx at k
 refine ⟨?_, ?_, ?_, ?_, ?_, ?_⟩ <;> simp [World.cell?, k]
theorem NBx.free (k : NBx t g F L R H A n ca C m cb w) : w.frozen? ⟨g, 0, none⟩ = false ∧ w.frozen? ⟨g, 1, none⟩ = false ∧ w.frozen? ⟨g, 2, none⟩ = false ∧ w.frozen? ⟨g, 3, none⟩ = false ∧ w.frozen? ⟨g, 4, none⟩ = false ∧ w.frozen? ⟨g, 5, none⟩ = false := by
 unfold NBx at k
 refine ⟨?_, ?_, ?_, ?_, ?_, ?_⟩ <;> simp [World.frozen?, k]
theorem NBx.lt (k : NBx t g F L R H A n ca C m cb w) : g < w.heap.size := (Array.getElem?_eq_some_iff.1 k).1
theorem NBx.below (k : NBx t g F L R H A n ca C m cb w) (b : Below w.heap.size w w') : NBx t g F L R H A n ca C m cb w' := (b.block g k.lt).trans k
theorem NBx.on {c : Nat} (k : NBx t g F L R H A n ca C m cb w) (b : Below c w w') (hg : g < c) : NBx t g F L R H A n ca C m cb w' := (b.block g hg).trans k
theorem NBx.set0 (k : NBx t g F L R H A n ca C m cb w) (F' : Int) : NBx t g F' L R H A n ca C m cb (w.setCell ⟨g, 0, none⟩ (.int .i64 F')) := by
 unfold NBx at *; exact heap_setCell_same w g 0 _ _ (.int .i64 F') k
theorem NBx.set1 (k : NBx t g F L R H A n ca C m cb w) (L' : Int) : NBx t g F L' R H A n ca C m cb (w.setCell ⟨g, 1, none⟩ (.int .i64 L')) := by
 unfold NBx at *; exact heap_setCell_same w g 1 _ _ (.int .i64 L') k
theorem NBx.set2 (k : NBx t g F L R H A n ca C m cb w) (R' : Int) : NBx t g F L R' H A n ca C m cb (w.setCell ⟨g, 2, none⟩ (.int .i64 R')) := by
 unfold NBx at *; exact heap_setCell_same w g 2 _ _ (.int .i64 R') k
theorem NBx.set3 (k : NBx t g F L R H A n ca C m cb w) (H' : ByteArray) : NBx t g F L R H' A n ca C m cb (w.setCell ⟨g, 3, none⟩ (.string H')) := by
 unfold NBx at *; exact heap_setCell_same w g 3 _ _ (.string H') k
theorem NBx.set4 (k : NBx t g F L R H A n ca C m cb w) (A' : Option Addr) (n' ca' : Nat) : NBx t g F L R H A' n' ca' C m cb (w.setCell ⟨g, 4, none⟩ (.slice A' n' ca')) := by
 unfold NBx at *; exact heap_setCell_same w g 4 _ _ (.slice A' n' ca') k
theorem NBx.set5 (k : NBx t g F L R H A n ca C m cb w) (C' : Option Addr) (m' cb' : Nat) : NBx t g F L R H A n ca C' m' cb' (w.setCell ⟨g, 5, none⟩ (.slice C' m' cb')) := by
 unfold NBx at *; exact heap_setCell_same w g 5 _ _ (.slice C' m' cb') k
end
abbrev nbox (t : TypeId) (F L R : Int) (H : ByteArray) (A : Option Addr) (n ca : Nat) (C : Option Addr) (m cb : Nat) (w : World) : World := w.alloc (.cells #[.int .i64 F, .int .i64 L, .int .i64 R, .string H, .slice A n ca, .slice C m cb] t)
theorem nbox_size (t : TypeId) (F L R : Int) (H : ByteArray) (A : Option Addr) (n ca : Nat) (C : Option Addr) (m cb : Nat) (w : World) : (nbox t F L R H A n ca C m cb w).heap.size = w.heap.size + 1 := by simp [nbox]
theorem nbox_below (t : TypeId) (F L R : Int) (H : ByteArray) (A : Option Addr) (n ca : Nat) (C : Option Addr) (m cb : Nat) (w : World) : Below w.heap.size w (nbox t F L R H A n ca C m cb w) := L5.below_alloc _ _
theorem nbox_new (t : TypeId) (F L R : Int) (H : ByteArray) (A : Option Addr) (n ca : Nat) (C : Option Addr) (m cb : Nat) (w : World) : NBx t w.heap.size F L R H A n ca C m cb (nbox t F L R H A n ca C m cb w) := heap_alloc_new _ _
def setN (w : World) (g : Nat) (F L R : Int) (H : ByteArray) (A : Option Addr) (n ca : Nat) (C : Option Addr) (m cb : Nat) : World := (((((w.setCell ⟨g, 0, none⟩ (.int .i64 F)).setCell ⟨g, 1, none⟩ (.int .i64 L)).setCell ⟨g, 2, none⟩ (.int .i64 R)).setCell ⟨g, 3, none⟩ (.string H)).setCell ⟨g, 4, none⟩ (.slice A n ca)).setCell ⟨g, 5, none⟩ (.slice C m cb)
theorem setN_box {t : TypeId} {w : World} {g : Nat} {F L R : Int} {H : ByteArray} {A : Option Addr} {n ca : Nat} {C : Option Addr} {m cb : Nat} (k : NBx t g F L R H A n ca C m cb w) (F' L' R' : Int) (H' : ByteArray) (A' : Option Addr) (n' ca' : Nat) (C' : Option Addr) (m' cb' : Nat) : NBx t g F' L' R' H' A' n' ca' C' m' cb' (setN w g F' L' R' H' A' n' ca' C' m' cb') :=
 (((((k.set0 F').set1 L').set2 R').set3 H').set4 A' n' ca').set5 C' m' cb'
theorem setN_size (w : World) (g : Nat) (F L R : Int) (H : ByteArray) (A : Option Addr) (n ca : Nat) (C : Option Addr) (m cb : Nat) : (setN w g F L R H A n ca C m cb).heap.size = w.heap.size := by
 unfold setN; simp
theorem setN_other {w : World} {g q : Nat} (h : q ≠ g) (F L R : Int) (H : ByteArray) (A : Option Addr) (n ca : Nat) (C : Option Addr) (m cb : Nat) : (setN w g F L R H A n ca C m cb).heap[q]? = w.heap[q]? := by
 unfold setN; have hh : ∀ (W : World) (o : Nat) (v : Value), (W.setCell ⟨g, o, none⟩ v).heap[q]? = W.heap[q]? := fun W o v => Below.heap_setCell W ⟨g, o, none⟩ v q (fun e' => h (by first | exact e' | exact e'.symm)); rw [hh, hh, hh, hh, hh, hh]
theorem setN_below {w W : World} {c g : Nat} (h : Below c w W) (hg : c ≤ g) (F L R : Int) (H : ByteArray) (A : Option Addr) (n ca : Nat) (C : Option Addr) (m cb : Nat) : Below c w (setN W g F L R H A n ca C m cb) :=
 (((((h.setCell (p := ⟨g, 0, none⟩) hg _).setCell (p := ⟨g, 1, none⟩) hg _).setCell (p := ⟨g, 2, none⟩) hg _).setCell (p := ⟨g, 3, none⟩) hg _).setCell (p := ⟨g, 4, none⟩) hg _).setCell (p := ⟨g, 5, none⟩) hg _
theorem cell_otherblock {w w' : World} {p : Addr} (h : w'.heap[p.block]? = w.heap[p.block]?) : w'.cell? p = w.cell? p := by
 unfold World.cell?; rw [h]
theorem LiesN.apart {w w' : World} {b : Nat} {A : Option Addr} {l : List Int} {g : Nat} (h : LiesN w b A l) (hg : ∀ a, A = some a → a.block ≠ g) (hk : ∀ q, q ≠ g → w'.heap[q]? = w.heap[q]?) : LiesN w' b A l := fun i c hc => by
 obtain ⟨a, e, hb, hx⟩ := h i c hc; exact ⟨a, e, hb, (cell_otherblock (hk _ (by rw [L5.addr_block]; exact hg a e))).trans hx⟩
theorem lies_apart {w w' : World} {b : Nat} {A : Option Addr} {l : List ByteArray} {g : Nat} (h : L5.Lies w b A l) (hg : ∀ a, A = some a → a.block ≠ g) (hk : ∀ q, q ≠ g → w'.heap[q]? = w.heap[q]?) : L5.Lies w' b A l := fun i c hc => by
 obtain ⟨a, e, hb, hx⟩ := h i c hc; exact ⟨a, e, hb, (cell_otherblock (hk _ (by rw [L5.addr_block]; exact hg a e))).trans hx⟩
end Go.Proofs.YtpeghilfldpgfaaGreatDoor.L11
namespace Go.Proofs.YtpeghilfldpgfaaGreatDoor.L10.NP
open Go.Proofs.YtpeghilfldpgfaaGreatDoor.L5 Go.Proofs.YtpeghilfldpgfaaGreatDoor.L7 Go.Proofs.YtpeghilfldpgfaaGreatDoor.L8 Go.Proofs.YtpeghilfldpgfaaGreatDoor.L9
theorem rise_one (l : List It) : Rise (l.take 1) := by
 cases l with
 | nil => exact List.Pairwise.nil
 | cons x l => exact List.pairwise_singleton _ _
theorem take_snoc {l : List It} {k : Nat} {x : It} (h : l[k]? = some x) : l.take (k + 1) = l.take k ++ [x] := by rw [List.take_add_one, h]; rfl
theorem rise_next {l : List It} {j : Nat} {x y : It} (hx : l[j]? = some x) (hy : l[j + 1]? = some y) (h : Rise (l.take (j + 1))) (hlt : x.key < y.key) : Rise (l.take (j + 1 + 1)) := by
 rw [take_snoc hy]; refine List.pairwise_append.2 ⟨h, List.pairwise_singleton _ _, fun a ha b hb => ?_⟩; obtain rfl := List.mem_singleton.1 hb; rw [take_snoc hx] at h ha; rcases List.mem_append.1 ha with ha | ha
 ·exact EP.lt_trans ((List.pairwise_append.1 h).2.2 a ha x (List.mem_singleton.2 rfl)) hlt
 ·obtain rfl := List.mem_singleton.1 ha
  exact hlt
theorem rise_get {l : List It} (h : Rise l) {i j : Nat} {x y : It} (hx : l[i]? = some x) (hy : l[j]? = some y) (hij : i < j) : x.key < y.key := by
 obtain ⟨h1, rfl⟩ := List.getElem?_eq_some_iff.1 hx; obtain ⟨h2, rfl⟩ := List.getElem?_eq_some_iff.1 hy; exact List.pairwise_iff_getElem.1 h i j h1 h2 hij
theorem rise_not {l : List It} {j : Nat} {x y : It} (hx : l[j]? = some x) (hy : l[j + 1]? = some y) (hlt : ¬ x.key < y.key) : ¬ Rise l := fun h => hlt (rise_get h hx hy (by omega))
def HighL (R : Int) (H : ByteArray) (l : List It) (p : Int) : Prop := (R = 0 → H.size = 0) ∧ (R ≠ 0 → H.size ≠ 0 ∧ (H.size : Int) ≤ p / 8 ∧ ∀ x, l[l.length - 1]? = some x → x.key < H.data.toList)
theorem high_last {F R : Int} {H : ByteArray} {l : List It} {p : Int} (hr : Rise l) : HighL R H l p ↔ HighOk ⟨F, R, H, l⟩ p := by
 constructor
 ·intro ⟨h1, h2⟩
  refine ⟨h1, fun h0 => ?_⟩; obtain ⟨h3, h4, h5⟩ := h2 h0; refine ⟨h3, h4, fun x hx => ?_⟩; obtain ⟨i, hi, rfl⟩ := List.getElem_of_mem (show x ∈ l from hx); have hx' : l[i]? = some l[i] := List.getElem?_eq_getElem hi; have hl : l[l.length - 1]? = some l[l.length - 1] := List.getElem?_eq_getElem (by omega); by_cases e : i = l.length - 1
  ·exact h5 _ (by rw [← e]; exact hx')
  ·exact EP.lt_trans (rise_get hr hx' hl (by omega)) (h5 _ hl)
 ·intro ⟨h1, h2⟩
  refine ⟨h1, fun h0 => ?_⟩; obtain ⟨h3, h4, h5⟩ := h2 h0; exact ⟨h3, h4, fun x hx => h5 x (List.mem_of_getElem? hx)⟩
end Go.Proofs.YtpeghilfldpgfaaGreatDoor.L10.NP
