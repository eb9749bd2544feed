import Derived.Test.YtpeghilfldpgfaaGreatDoorQT
import Derived.Test.YtpeghilfldpgfaaGreatDoorT05
set_option linter.unusedVariables false
set_option linter.unusedSimpArgs false
set_option maxHeartbeats 8000000
set_option maxRecDepth 100000
namespace Go.Proofs.YtpeghilfldpgfaaGreatDoor.L7
open Go.RowKit
theorem take_op {P : Program} {ops : Array Oper} {Q : Exit → Act → World → Prop} {md : Region.Mode} {S : World → Prop} {i : Nat} {oi : Oper} {d : Option Tmp} {v : Value} {fuel : Nat} {listed : Array Bool} {a : Act} {w : World} (hi : ops[i]? = some oi) (hd : oi.dst = d)
  (hs : Region.noSelect ops = true) (hf : Region.free md ops listed i = true) (hr : (Region.ready md ops listed).contains i = true)
  (hQ : ∀ c a w, Q (.panic c) (a.put d v) w → Q (.panic c) a w) (hy : YieldsIf P ops S oi v a) (hS : S w)
  (h : wpAnyH P md ops Q S fuel (listed.setIfInBounds i true) (a.put d v) w) : wpAnyH P md ops Q S (fuel + 1) listed a w := by
 subst hd; exact wpAnyH_take hi hs hf hr hQ hy hS h
theorem conv_blk {V V' : World} {g : Nat} {a b c d : Int} (h : V'.heap[g]? = some (.cells #[.int .u8 a, .int .u8 b, .int .u8 c, .int .u8 d] 5 (0, 0))) :
  (convert 86 9 (.slice (some ⟨g, 0, none⟩) 4 4)).run Tryz.prog V' = .ok (.string (strOfNums [a, b, c, d])) V' := by
 refine run_convert_bytes_arg _ 86 5 Tryz.underlying86 Tryz.underlying5 _ 0 _ _ [a, b, c, d] rfl (fun i hi => ?_) 9 Tryz.underlying9; rw [Nat.zero_add, cell_of_row _ _ i _ _ _ h]; simp only [List.length_cons, List.length_nil] at hi
 rcases (show i = 0 ∨ i = 1 ∨ i = 2 ∨ i = 3 by omega) with rfl | rfl | rfl | rfl <;> rfl
theorem seal_text (k l c r s : Nat) (hk : k < 256) (hl : l < 256) (hc : c < 65536) :
  strOfNums [(k : Int), (l : Int), ((c % 256 : Nat) : Int), ((c / 256 : Nat) : Int)] ++ ⟨(Lib.leBytes 4 r).toArray⟩ ++ ⟨(Lib.leBytes 4 s).toArray⟩ = (⟨(HP.front ⟨k, l, c, r, s⟩).toArray⟩ : ByteArray) := by
 apply ByteArray.ext; simp [strOfNums, HP.front, HP.u8]; exact ⟨congrArg _ (by omega), congrArg _ (by omega)⟩
theorem repeat0_any (n : Nat) (w : World) (hn : n ≤ 100000) :
  Calls Tryz.prog 38 #[.int .u8 0, .int .i64 n] w fun e w' => e = .returned (.string ⟨(List.replicate n (0 : UInt8)).toArray⟩) ∧ Below w.heap.size w w' := refRepeat_any 0 n w hn
theorem strOf_size (xs : List Int) : (strOfNums xs).size = xs.length := by simp [strOfNums, ByteArray.size]
theorem refSeal_bad (h : HP.H) (b : ByteArray) (p : Int) (w : World) (hp : (Lit.int .i64 p).wf = true) (hb : b.size ≤ maxLen) (hx : mayBe p = false ∨ HP.right h = false ∨ p - 16 < (b.size : Int)) :
  Calls Tryz.prog 132 #[hv h, .string b, .int .i64 p] w fun e w' => e = .returned (.tuple #[.string (HP.sea h b p).1, .int .i64 (HP.sea h b p).2]) ∧ Below w.heap.size w w' := by
 have hpb := bounds_i64 hp; unfold maxLen at hb; have HS := zj (sizeRef_any p); rw [show decide (p = 128 ∨ p = 256 ∨ p = 512 ∨ p = 1024) = mayBe p from rfl] at HS; have HR := zj (refRight_any h); have hbx := heap_alloc_new w (.cells #[.int .i64 h.k, .int .i64 h.l, .int .i64 h.c, .int .i64 h.r, .int .i64 h.s] 153); obtain ⟨x0, x1, x2, x3, x4⟩ := Bx.cells (h := h) (t := 153) hbx; have hb0 := below_alloc w (.cells #[.int .i64 h.k, .int .i64 h.l, .int .i64 h.c, .int .i64 h.r, .int .i64 h.s] 153)
 cases hm : mayBe p with
 | false =>
  rw [HP.seal_arg h b hm]; rw [hm] at HS; clear hx hm hp; unfold hv; generalize hw0 : w.alloc (.cells #[.int .i64 h.k, .int .i64 h.l, .int .i64 h.c, .int .i64 h.r, .int .i64 h.s] 153) = W0 at *; go_enter Tryz.func132, Tryz.ntmps132; go_wp2_with fail; refine (HS.out _).mono ?_; rintro e w' ⟨rfl, rfl⟩; go_wp2_with fail
  go_ret2
  exact ⟨rfl, hb0⟩
 | true =>
  rw [hm] at HS; have hpb2 := HP.mayBe_bd hm
  cases hr : HP.right h with
  | false =>
   rw [HP.seal_form b hm hr]; rw [hr] at HR; clear hx hm hp hr; unfold hv at *; generalize hw0 : w.alloc (.cells #[.int .i64 h.k, .int .i64 h.l, .int .i64 h.c, .int .i64 h.r, .int .i64 h.s] 153) = W0 at *; go_enter Tryz.func132, Tryz.ntmps132; go_wp2_with fail; refine (HS.out _).mono ?_; rintro e w' ⟨rfl, rfl⟩; go_wp2_with fail; refine (HR.out _).mono ?_; rintro e w1 ⟨rfl, hb1⟩; have HB1 := zj (hb0.trans' hb1); clear hb1; go_wp2_with fail
   go_ret2
   exact ⟨rfl, HB1.out⟩
  | true =>
   have hbig : p - 16 < (b.size : Int) := by
    rcases hx with hx | hx | hx
    ·rw [hm] at hx; cases hx
    ·rw [hr] at hx; cases hx
    ·exact hx
   rw [HP.seal_big hm hr hbig]; rw [hr] at HR; clear hx hm hp hr; unfold hv at *; generalize hw0 : w.alloc (.cells #[.int .i64 h.k, .int .i64 h.l, .int .i64 h.c, .int .i64 h.r, .int .i64 h.s] 153) = W0 at *; go_enter Tryz.func132, Tryz.ntmps132; go_wp2_with fail; refine (HS.out _).mono ?_; rintro e w' ⟨rfl, rfl⟩; go_wp2_with fail; refine (HR.out _).mono ?_; rintro e w1 ⟨rfl, hb1⟩; have HB1 := zj (hb0.trans' hb1); clear hb1; go_wp2_with fail
   go_ret2
   exact ⟨rfl, HB1.out⟩
theorem refSeal_good (h : HP.H) (b : ByteArray) (p : Nat) (w : World) (hm : mayBe p = true) (hr : HP.Ok h) (hb : b.size + 16 ≤ p) :
  Calls Tryz.prog 132 #[hv h, .string b, .int .i64 p] w fun e w' => e = .returned (.tuple #[.string ⟨(HP.page (HP.front h) (HP.rest b.data.toList p)).toArray⟩, .int .i64 0]) ∧ Below w.heap.size w w' := by
 have hpb := HP.mayBe_bd hm; have HS := zj (sizeRef_any (p : Int)); rw [show decide ((p : Int) = 128 ∨ (p : Int) = 256 ∨ (p : Int) = 512 ∨ (p : Int) = 1024) = true from hm] at HS; have HR := zj (refRight_any h); rw [HP.right_iff.2 hr] at HR; obtain ⟨k, l, c, r, s⟩ := h; obtain ⟨h1, h2, h3, h4, h5, h6, h7, h8, h9, h10⟩ := hr; simp only at h1 h2 h3 h4 h5 h6 h7 h8 h9 h10; obtain ⟨k, rfl⟩ := Int.eq_ofNat_of_zero_le (show 0 ≤ k by omega); obtain ⟨l, rfl⟩ := Int.eq_ofNat_of_zero_le h3; obtain ⟨c, rfl⟩ := Int.eq_ofNat_of_zero_le h5; obtain ⟨r, rfl⟩ := Int.eq_ofNat_of_zero_le h7; obtain ⟨s, rfl⟩ := Int.eq_ofNat_of_zero_le h9; have hbx : Bx 153 w.heap.size ⟨k, l, c, r, s⟩ (w.alloc (.cells #[.int .i64 k, .int .i64 l, .int .i64 c, .int .i64 r, .int .i64 s] 153)) := heap_alloc_new w _; have hb0 := below_alloc w (.cells #[.int .i64 k, .int .i64 l, .int .i64 c, .int .i64 r, .int .i64 s] 153)
 -- texts
 obtain ⟨cm, hcm⟩ : ∃ cm : Nat, cm = c % 256 := ⟨_, rfl⟩; obtain ⟨cq, hcq⟩ : ∃ cq : Nat, cq = c / 256 := ⟨_, rfl⟩; obtain ⟨T1, hT1⟩ : ∃ T1, T1 = strOfNums [(k : Int), (l : Int), (cm : Int), (cq : Int)] := ⟨_, rfl⟩; obtain ⟨T2, hT2⟩ : ∃ T2 : ByteArray, T2 = ⟨(Lib.leBytes 4 r).toArray⟩ := ⟨_, rfl⟩; obtain ⟨T3, hT3⟩ : ∃ T3 : ByteArray, T3 = ⟨(Lib.leBytes 4 s).toArray⟩ := ⟨_, rfl⟩; have HF2 : Hid (∀ W, Calls Tryz.prog 147 #[.int .u32 (r : Int)] W fun e w' => e = .returned (.string T2) ∧ Below W.heap.size W w') := zj (fun W => by have h := rfour_any (r : Int) W (by omega) (by omega); rw [hT2]; exact h); have HF3 : Hid (∀ W, Calls Tryz.prog 147 #[.int .u32 (s : Int)] W fun e w' => e = .returned (.string T3) ∧ Below W.heap.size W w') := zj (fun W => by have h := rfour_any (s : Int) W (by omega) (by omega); rw [hT3]; exact h); obtain ⟨TA, hTA⟩ : ∃ TA, T1 ++ T2 = TA := ⟨_, rfl⟩; obtain ⟨F, hF⟩ : ∃ F, TA ++ T3 = F := ⟨_, rfl⟩
 have hFd : F = ⟨(HP.front ⟨k, l, c, r, s⟩).toArray⟩ := by
  rw [← hF, ← hTA, hT1, hT2, hT3, hcm, hcq]; exact seal_text k l c r s (by omega) (by omega) (by omega)
 have s1 : T1.size = 4 := by rw [hT1, strOf_size]; rfl
 have s2 : T2.size = 4 := by rw [hT2, le4_size]
 have s3 : T3.size = 4 := by rw [hT3, le4_size]
 have sA : TA.size = 8 := by rw [← hTA, ByteArray.size_append]; omega
 have sF : F.size = 12 := by rw [← hF, ByteArray.size_append]; omega
 obtain ⟨n, hn⟩ : ∃ n : Nat, n = p - 16 - b.size := ⟨_, rfl⟩
 have hn2 : (p : Int) - 16 - b.size = n := by omega
 obtain ⟨Z, hZ⟩ : ∃ Z : ByteArray, Z = ⟨(List.replicate n (0 : UInt8)).toArray⟩ := ⟨_, rfl⟩; have HZ : Hid (∀ W, Calls Tryz.prog 38 #[.int .u8 0, .int .i64 n] W fun e w' => e = .returned (.string Z) ∧ Below W.heap.size W w') := zj (fun W => by have h := repeat0_any n W (by omega); rw [hZ]; exact h); obtain ⟨R, hR⟩ : ∃ R, b ++ Z = R := ⟨_, rfl⟩
 have hRd : R = ⟨(HP.rest b.data.toList p).toArray⟩ := by
  rw [← hR, hZ]; apply ByteArray.ext; simp [HP.rest, hn]
 have sZ : Z.size = n := by rw [hZ]; simp [ByteArray.size]
 have sR : R.size = p - 16 := by rw [← hR, ByteArray.size_append]; omega
 obtain ⟨X, hX⟩ : ∃ X, F ++ ⟨#[0, 0, 0, 0]⟩ = X := ⟨_, rfl⟩
 have sX : X.size = 16 := by rw [← hX, ByteArray.size_append, sF]; rfl
 obtain ⟨Y, hY⟩ : ∃ Y, X ++ R = Y := ⟨_, rfl⟩
 have sY : Y.size = p := by rw [← hY, ByteArray.size_append]; omega
 obtain ⟨v, hv_⟩ : ∃ v : Nat, v = HP.crc (HP.front ⟨k, l, c, r, s⟩) (HP.rest b.data.toList p) := ⟨_, rfl⟩
 have hvl : v < 4294967296 := by rw [hv_]; exact HP.crc_lt _ _
 have HSum : Hid (∀ W, Calls Tryz.prog 181 #[.string Y] W fun e w' => e = .returned (.int .u32 v) ∧ W = w') := zj (fun W => by
  have h := refSum_any Y W (by unfold maxLen; omega)
  have e : SP.sum Y.data.toList = v := by
   rw [hv_, ← hY, ← hX, hFd, hRd]; simp [HP.crc]
  rwa [e] at h)
 obtain ⟨C, hC⟩ : ∃ C : ByteArray, C = ⟨(Lib.leBytes 4 v).toArray⟩ := ⟨_, rfl⟩
 have sC : C.size = 4 := by rw [hC, le4_size]
 have HC : Hid (∀ W, Calls Tryz.prog 147 #[.int .u32 (v : Int)] W fun e w' => e = .returned (.string C) ∧ Below W.heap.size W w') := zj (fun W => by have h := rfour_any (v : Int) W (by omega) (by omega); rw [hC]; exact h); obtain ⟨G, hG⟩ : ∃ G, F ++ C = G := ⟨_, rfl⟩
 have sG : G.size = 16 := by rw [← hG, ByteArray.size_append]; omega
 obtain ⟨E, hE⟩ : ∃ E, G ++ R = E := ⟨_, rfl⟩
 have hEd : E = ⟨(HP.page (HP.front ⟨k, l, c, r, s⟩) (HP.rest b.data.toList p)).toArray⟩ := by
  rw [← hE, ← hG, hFd, hRd, hC, hv_]; apply ByteArray.ext; simp [HP.page]
 rw [← hEd]; have HCV : Hid (∀ (V : World) (g : Nat), V.heap[g]? = some (.cells #[.int .u8 k, .int .u8 l, .int .u8 cm, .int .u8 cq] 5 (0, 0)) → (convert 86 9 (.slice (some ⟨g, 0, none⟩) 4 4)).run Tryz.prog V = .ok (.string T1) V) := zj (fun V g hg => by rw [hT1]; exact conv_blk (V := V) hg); have q1 : IntKind.u8.wrap (k : Int) = k := IntWalk.u8_in _ (by omega); have q2 : IntKind.u8.wrap (l : Int) = l := IntWalk.u8_in _ (by omega)
 have q3 : (c : Int) % 256 = cm := by omega
 have q4 : (c : Int).tmod 256 = cm := by rw [Int.tmod_eq_emod_of_nonneg (by omega)]; exact q3
 have q5 : (c : Int) / 256 = cq := by omega
 have q6 : (c : Int).tdiv 256 = cq := by rw [Int.tdiv_eq_ediv_of_nonneg (by omega)]; exact q5
 have q7 : IntKind.u8.wrap (cm : Int) = cm := IntWalk.u8_in _ (by omega); have q8 : IntKind.u8.wrap (cq : Int) = cq := IntWalk.u8_in _ (by omega); have HCQ : Hid (IntKind.i64.wrap (cq : Int) = cq) := zj (IntWalk.i64_in _ (by omega)); have q9 : IntKind.u32.wrap (r : Int) = r := IntWalk.u32_in _ (by omega); have q10 : IntKind.u32.wrap (s : Int) = s := IntWalk.u32_in _ (by omega)
 have a1 : ¬ 9223372036854775807 < T1.size + T2.size := by omega
 have a2 : ¬ 9223372036854775807 < TA.size + T3.size := by omega
 have a3 : ¬ 9223372036854775807 < b.size + Z.size := by omega
 have a4 : ¬ 9223372036854775807 < F.size + (ByteArray.mk #[0, 0, 0, 0]).size := by rw [sF]; decide
 have a5 : ¬ 9223372036854775807 < X.size + R.size := by omega
 have a6 : ¬ 9223372036854775807 < F.size + C.size := by omega
 have a7 : ¬ 9223372036854775807 < G.size + R.size := by omega
 have HRET : Hid (T1 ++ T2 = TA) := zj hTA; obtain ⟨g, hg⟩ : ∃ g, w.heap.size = g := ⟨_, rfl⟩; rw [hg] at hbx; generalize hw0 : w.alloc (.cells #[.int .i64 k, .int .i64 l, .int .i64 c, .int .i64 r, .int .i64 s] 153) = W0 at *; obtain ⟨x0, x1, x2, x3, x4⟩ := hbx.cells; simp only at x0 x1 x2 x3 x4; have HBX := zj hbx; have HB0 := zj hb0; have HSB : Hid (∀ V V' : World, Below V.heap.size V V' → (Hid (Bx 153 g ⟨k, l, c, r, s⟩ V) ∧ V.cell? ⟨g, 0, none⟩ = some (.int .i64 k) ∧ V.cell? ⟨g, 1, none⟩ = some (.int .i64 l) ∧ V.cell? ⟨g, 2, none⟩ = some (.int .i64 c) ∧ V.cell? ⟨g, 3, none⟩ = some (.int .i64 r) ∧ V.cell? ⟨g, 4, none⟩ = some (.int .i64 s)) → (Hid (Bx 153 g ⟨k, l, c, r, s⟩ V') ∧ V'.cell? ⟨g, 0, none⟩ = some (.int .i64 k) ∧ V'.cell? ⟨g, 1, none⟩ = some (.int .i64 l) ∧ V'.cell? ⟨g, 2, none⟩ = some (.int .i64 c) ∧ V'.cell? ⟨g, 3, none⟩ = some (.int .i64 r) ∧ V'.cell? ⟨g, 4, none⟩ = some (.int .i64 s))) := zj (fun V V' hb hh => hasBx (hh.1.out.below hb)); have hc : ∀ V : World, (convert 86 9 (.slice (some ⟨V.heap.size, 0, none⟩) 4 4)).run Tryz.prog (V.alloc (.cells #[.int .u8 k, .int .u8 l, .int .u8 cm, .int .u8 cq] 5)) = .ok (.string T1) (V.alloc (.cells #[.int .u8 k, .int .u8 l, .int .u8 cm, .int .u8 cq] 5)) := fun V => HCV.out _ _ (heap_alloc_new V _); have HNB : Hid (¬ ((p : Int) - 16 < (b.size : Int))) := zj (by omega); have hnb := HNB.out; have hwp : IntKind.i64.wrap ((p : Int) - 16) = (p : Int) - 16 := IntWalk.i64_in _ (by omega); clear hcm hcq hT1 hT2 hT3 hFd hRd hEd hC hv_ hvl hZ hbx hb0 hn s1 s2 s3 sA sF sZ sR sX sY sC sG h1 h2 h3 h4 h5 h6 h7 h8 h9 h10 hm; unfold hv; go_enter Tryz.func132, Tryz.ntmps132; go_wp2_with fail; refine (HS.out _).mono ?_; rintro e w' ⟨rfl, rfl⟩; go_wp2_with fail; refine (HR.out _).mono ?_; rintro e W1 ⟨rfl, hb1⟩; have hSV1 := HSB.out _ _ hb1 ⟨HBX, x0, x1, x2, x3, x4⟩; have HB1 := zj (HB0.out.trans' hb1); have hS1d := HSB.out _ _ (below_drewN (Below.refl W1.heap.size W1) 1) hSV1; clear hb1 x0 x1 x2 x3 x4; go_wp2_with fail
 -- by hand
 have hHeld0 : Hid (Bx 153 g ⟨k, l, c, r, s⟩ W1.drew) ∧ W1.drew.cell? ⟨g, 0, none⟩ = some (.int .i64 k) ∧ W1.drew.cell? ⟨g, 1, none⟩ = some (.int .i64 l) ∧ W1.drew.cell? ⟨g, 2, none⟩ = some (.int .i64 c) ∧ W1.drew.cell? ⟨g, 3, none⟩ = some (.int .i64 r) ∧ W1.drew.cell? ⟨g, 4, none⟩ = some (.int .i64 s) := HSB.out W1 W1.drew (Below.refl _ _).drew hSV1; have HBz := zj ((Below.refl W1.heap.size W1).drew); clear hSV1 hS1d; refine wp_region_held_drew (S := fun V => Hid (Bx 153 g ⟨k, l, c, r, s⟩ V) ∧ V.cell? ⟨g, 0, none⟩ = some (.int .i64 k) ∧ V.cell? ⟨g, 1, none⟩ = some (.int .i64 l) ∧ V.cell? ⟨g, 2, none⟩ = some (.int .i64 c) ∧ V.cell? ⟨g, 3, none⟩ = some (.int .i64 r) ∧ V.cell? ⟨g, 4, none⟩ = some (.int .i64 s)) (by kernel_rfl) hHeld0 (fun hHeld => ?_); clear hHeld0; generalize hD : W1.drew = D at *; clear hD; have q11 := HCQ.out; refine tk 0 (some 21) ?_ rfl rfl ?_ ?_; rotate_left
 ·intro W h; (try dsimp only at h); go_simp; (try with_reducible rfl)
 try simp only [Act.put, jA, jZ, jS]
 refine tk 1 (some 22) ?_ rfl rfl ?_ ?_; rotate_left
 ·intro W h; (try dsimp only at h); go_simp; (try with_reducible rfl)
 try simp only [Act.put, jA, jZ, jS]
 refine tk 2 (some 23) ?_ rfl rfl ?_ ?_; rotate_left
 ·intro W h; (try dsimp only at h); go_simp; (try with_reducible rfl)
 try simp only [Act.put, jA, jZ, jS]
 refine tk 3 (some 24) ?_ rfl rfl ?_ ?_; rotate_left
 ·intro W h; (try dsimp only at h); go_simp; (try with_reducible rfl)
 try simp only [Act.put, jA, jZ, jS]
 refine tk 4 (some 25) ?_ rfl rfl ?_ ?_; rotate_left
 ·intro W h; (try dsimp only at h); go_simp; (try with_reducible rfl)
 try simp only [Act.put, jA, jZ, jS]
 refine tk 5 (some 26) ?_ rfl rfl ?_ ?_; rotate_left
 ·intro W h; (try dsimp only at h); go_simp; (try with_reducible rfl)
 try simp only [Act.put, jA, jZ, jS]
 refine tk 6 (some 27) ?_ rfl rfl ?_ ?_; rotate_left
 ·intro W h; (try dsimp only at h); go_simp; (try with_reducible rfl)
 try simp only [Act.put, jA, jZ, jS]
 refine tk 7 (some 28) ?_ rfl rfl ?_ ?_; rotate_left
 ·intro W h; (try dsimp only at h); go_simp; (try with_reducible rfl)
 try simp only [Act.put, jA, jZ, jS]
 refine tk 8 (some 29) ?_ rfl rfl ?_ ?_; rotate_left
 ·intro W h; (try dsimp only at h); go_simp; (try with_reducible rfl)
 try simp only [Act.put, jA, jZ, jS]
 refine tk 9 (some 30) ?_ rfl rfl ?_ ?_; rotate_left
 ·intro W h; (try dsimp only at h); go_simp; (try with_reducible rfl)
 try simp only [Act.put, jA, jZ, jS]
 refine tk 10 (some 31) ?_ rfl rfl ?_ ?_; rotate_left
 ·intro W h; (try dsimp only at h); go_simp; (try with_reducible rfl)
 try simp only [Act.put, jA, jZ, jS]
 refine tk 11 (some 32) ?_ rfl rfl ?_ ?_; rotate_left
 ·intro W h; (try dsimp only at h); go_simp; (try with_reducible rfl)
 try simp only [Act.put, jA, jZ, jS]
 refine tk 12 (some 33) ?_ rfl rfl ?_ ?_; rotate_left
 ·intro W h; (try dsimp only at h); go_simp; (try with_reducible rfl)
 try simp only [Act.put, jA, jZ, jS]
 refine tk 13 (some 34) ?_ rfl rfl ?_ ?_; rotate_left
 ·intro W h; (try dsimp only at h); go_simp; (try with_reducible rfl)
 try simp only [Act.put, jA, jZ, jS]
 refine tk 16 (some 37) ?_ rfl rfl ?_ ?_; rotate_left
 ·intro W h; (try dsimp only at h); go_simp; (try with_reducible rfl)
 try simp only [Act.put, jA, jZ, jS]
 refine tk 17 (some 38) ?_ rfl rfl ?_ ?_; rotate_left
 ·intro W h; (try dsimp only at h); go_simp; (try with_reducible rfl)
 try simp only [Act.put, jA, jZ, jS]
 refine tk 18 (some 39) ?_ rfl rfl ?_ ?_; rotate_left
 ·intro W h; (try dsimp only at h); go_simp; (try with_reducible rfl)
 try simp only [Act.put, jA, jZ, jS]
 refine tk 21 (some 42) ?_ rfl rfl ?_ ?_; rotate_left
 ·intro W h; (try dsimp only at h); go_simp; (try with_reducible rfl)
 try simp only [Act.put, jA, jZ, jS]
 refine tk 22 (some 43) ?_ rfl rfl ?_ ?_; rotate_left
 ·intro W h; (try dsimp only at h); go_simp; (try with_reducible rfl)
 try simp only [Act.put, jA, jZ, jS]
 refine tk 23 (some 44) ?_ rfl rfl ?_ ?_; rotate_left
 ·intro W h; (try dsimp only at h); go_simp; (try with_reducible rfl)
 try simp only [Act.put, jA, jZ, jS]
 refine wpAnyH_ready (rs := [14, 19]) (by kernel_rfl) (by simp) (AllReadyH.cons rfl (fun KK hK => ?_) (AllReadyH.cons rfl (fun KK hK => ?_) AllReadyH.nil))
 ·go_simp
  have hHeld := HSB.out _ _ (below_alloc _ (.cells #[.int .u8 k, .int .u8 l, .int .u8 cm, .int .u8 cq] 5)) hHeld; refine hK.out _ _ hHeld (fun _ => ?_); have HBz := zj (HBz.out.trans' (below_alloc _ (.cells #[.int .u8 k, .int .u8 l, .int .u8 cm, .int .u8 cq] 5))); have hblk := zj (heap_alloc_new D (.cells #[.int .u8 k, .int .u8 l, .int .u8 cm, .int .u8 cq] 5)); clear hK; try simp only [Act.put, jA, jZ, jS]
  refine wpAnyH_ready (rs := [15, 19]) (by kernel_rfl) (by simp) (AllReadyH.cons rfl (fun KK hK => ?_) (AllReadyH.cons rfl (fun KK hK => ?_) AllReadyH.nil))
  ·have hcv := HCV.out _ _ hblk.out
   go_simp; refine hK.out _ _ hHeld (fun _ => ?_); clear hcv hblk; clear hK; try simp only [Act.put, jA, jZ, jS]
   refine rd1 19 rfl (fun KK hK => ?_); go_simp; refine (HF2.out _).mono ?_; rintro e Va ⟨rfl, hb⟩; go_wp2_with fail; have hHeld := HSB.out _ _ hb hHeld; refine hK.out _ _ hHeld (fun _ => ?_); have HBz := zj (HBz.out.trans' hb); clear hb; clear hK; try simp only [Act.put, jA, jZ, jS]
   refine tk 20 (some 41) ?_ rfl rfl ?_ ?_; rotate_left
   ·intro W h; (try dsimp only at h); go_simp; (try with_reducible rfl)
   try simp only [Act.put, jA, jZ, jS]
   refine rd1 24 rfl (fun KK hK => ?_); go_simp; refine (HF3.out _).mono ?_; rintro e Vb ⟨rfl, hb⟩; go_wp2_with fail; have hHeld := HSB.out _ _ hb hHeld; refine hK.out _ _ hHeld (fun _ => ?_); have HBz := zj (HBz.out.trans' hb); clear hb; clear hK; try simp only [Act.put, jA, jZ, jS]
   refine tk 25 (some 46) ?_ rfl rfl ?_ ?_; rotate_left
   ·intro W h; (try dsimp only at h); go_simp; (try with_reducible rfl)
   try simp only [Act.put, jA, jZ, jS]
   refine tk 26 (some 8) ?_ rfl rfl ?_ ?_; rotate_left
   ·intro W h; (try dsimp only at h); go_simp; (try with_reducible rfl)
   try simp only [Act.put, jA, jZ, jS]
   refine wpAnyH_done (by kernel_rfl) ?_ _; go_wp2_with fail; refine (HZ.out _).mono ?_; rintro e V8 ⟨rfl, hb8⟩; have HB8 := zj (HBz.out.trans' hb8); clear hb8; go_wp2_with fail; refine (HSum.out _).mono ?_; rintro e V9 ⟨rfl, rfl⟩; go_wp2_with fail; refine (HC.out _).mono ?_; rintro e V10 ⟨rfl, hb10⟩; have HB10 := zj (HB8.out.trans' hb10); clear hb10; go_wp2_with fail
   go_ret2
   exact ⟨rfl, HB1.out.trans' HB10.out⟩
  ·go_simp
   refine (HF2.out _).mono ?_; rintro e Va ⟨rfl, hb⟩; go_wp2_with fail; have hHeld := HSB.out _ _ hb hHeld; refine hK.out _ _ hHeld (fun _ => ?_); have HBz := zj (HBz.out.trans' hb); have hblk := zj ((hb.block _ (Array.getElem?_eq_some_iff.1 hblk.out).1).trans hblk.out); clear hb; clear hK; try simp only [Act.put, jA, jZ, jS]
   refine wpAnyH_ready (rs := [15, 24]) (by kernel_rfl) (by simp) (AllReadyH.cons rfl (fun KK hK => ?_) (AllReadyH.cons rfl (fun KK hK => ?_) AllReadyH.nil))
   ·have hcv := HCV.out _ _ hblk.out
    go_simp; refine hK.out _ _ hHeld (fun _ => ?_); clear hcv hblk; clear hK; try simp only [Act.put, jA, jZ, jS]
    refine tk 20 (some 41) ?_ rfl rfl ?_ ?_; rotate_left
    ·intro W h; (try dsimp only at h); go_simp; (try with_reducible rfl)
    try simp only [Act.put, jA, jZ, jS]
    refine rd1 24 rfl (fun KK hK => ?_); go_simp; refine (HF3.out _).mono ?_; rintro e Vb ⟨rfl, hb⟩; go_wp2_with fail; have hHeld := HSB.out _ _ hb hHeld; refine hK.out _ _ hHeld (fun _ => ?_); have HBz := zj (HBz.out.trans' hb); clear hb; clear hK; try simp only [Act.put, jA, jZ, jS]
    refine tk 25 (some 46) ?_ rfl rfl ?_ ?_; rotate_left
    ·intro W h; (try dsimp only at h); go_simp; (try with_reducible rfl)
    try simp only [Act.put, jA, jZ, jS]
    refine tk 26 (some 8) ?_ rfl rfl ?_ ?_; rotate_left
    ·intro W h; (try dsimp only at h); go_simp; (try with_reducible rfl)
    try simp only [Act.put, jA, jZ, jS]
    refine wpAnyH_done (by kernel_rfl) ?_ _; go_wp2_with fail; refine (HZ.out _).mono ?_; rintro e V8 ⟨rfl, hb8⟩; have HB8 := zj (HBz.out.trans' hb8); clear hb8; go_wp2_with fail; refine (HSum.out _).mono ?_; rintro e V9 ⟨rfl, rfl⟩; go_wp2_with fail; refine (HC.out _).mono ?_; rintro e V10 ⟨rfl, hb10⟩; have HB10 := zj (HB8.out.trans' hb10); clear hb10; go_wp2_with fail
    go_ret2
    exact ⟨rfl, HB1.out.trans' HB10.out⟩
   ·go_simp
    refine (HF3.out _).mono ?_; rintro e Vb ⟨rfl, hb⟩; go_wp2_with fail; have hHeld := HSB.out _ _ hb hHeld; refine hK.out _ _ hHeld (fun _ => ?_); have HBz := zj (HBz.out.trans' hb); have hblk := zj ((hb.block _ (Array.getElem?_eq_some_iff.1 hblk.out).1).trans hblk.out); clear hb; clear hK; try simp only [Act.put, jA, jZ, jS]
    refine rd1 15 rfl (fun KK hK => ?_); have hcv := HCV.out _ _ hblk.out; go_simp; refine hK.out _ _ hHeld (fun _ => ?_); clear hcv hblk; clear hK; try simp only [Act.put, jA, jZ, jS]
    refine tk 20 (some 41) ?_ rfl rfl ?_ ?_; rotate_left
    ·intro W h; (try dsimp only at h); go_simp; (try with_reducible rfl)
    try simp only [Act.put, jA, jZ, jS]
    refine tk 25 (some 46) ?_ rfl rfl ?_ ?_; rotate_left
    ·intro W h; (try dsimp only at h); go_simp; (try with_reducible rfl)
    try simp only [Act.put, jA, jZ, jS]
    refine tk 26 (some 8) ?_ rfl rfl ?_ ?_; rotate_left
    ·intro W h; (try dsimp only at h); go_simp; (try with_reducible rfl)
    try simp only [Act.put, jA, jZ, jS]
    refine wpAnyH_done (by kernel_rfl) ?_ _; go_wp2_with fail; refine (HZ.out _).mono ?_; rintro e V8 ⟨rfl, hb8⟩; have HB8 := zj (HBz.out.trans' hb8); clear hb8; go_wp2_with fail; refine (HSum.out _).mono ?_; rintro e V9 ⟨rfl, rfl⟩; go_wp2_with fail; refine (HC.out _).mono ?_; rintro e V10 ⟨rfl, hb10⟩; have HB10 := zj (HB8.out.trans' hb10); clear hb10; go_wp2_with fail
    go_ret2
    exact ⟨rfl, HB1.out.trans' HB10.out⟩
 ·go_simp
  refine (HF2.out _).mono ?_; rintro e Va ⟨rfl, hb⟩; go_wp2_with fail; have hHeld := HSB.out _ _ hb hHeld; refine hK.out _ _ hHeld (fun _ => ?_); have HBz := zj (HBz.out.trans' hb); clear hb; clear hK; try simp only [Act.put, jA, jZ, jS]
  refine wpAnyH_ready (rs := [14, 24]) (by kernel_rfl) (by simp) (AllReadyH.cons rfl (fun KK hK => ?_) (AllReadyH.cons rfl (fun KK hK => ?_) AllReadyH.nil))
  ·go_simp
   have hHeld := HSB.out _ _ (below_alloc _ (.cells #[.int .u8 k, .int .u8 l, .int .u8 cm, .int .u8 cq] 5)) hHeld; refine hK.out _ _ hHeld (fun _ => ?_); have HBz := zj (HBz.out.trans' (below_alloc _ (.cells #[.int .u8 k, .int .u8 l, .int .u8 cm, .int .u8 cq] 5))); have hblk := zj (heap_alloc_new Va (.cells #[.int .u8 k, .int .u8 l, .int .u8 cm, .int .u8 cq] 5)); clear hK; try simp only [Act.put, jA, jZ, jS]
   refine wpAnyH_ready (rs := [15, 24]) (by kernel_rfl) (by simp) (AllReadyH.cons rfl (fun KK hK => ?_) (AllReadyH.cons rfl (fun KK hK => ?_) AllReadyH.nil))
   ·have hcv := HCV.out _ _ hblk.out
    go_simp; refine hK.out _ _ hHeld (fun _ => ?_); clear hcv hblk; clear hK; try simp only [Act.put, jA, jZ, jS]
    refine tk 20 (some 41) ?_ rfl rfl ?_ ?_; rotate_left
    ·intro W h; (try dsimp only at h); go_simp; (try with_reducible rfl)
    try simp only [Act.put, jA, jZ, jS]
    refine rd1 24 rfl (fun KK hK => ?_); go_simp; refine (HF3.out _).mono ?_; rintro e Vb ⟨rfl, hb⟩; go_wp2_with fail; have hHeld := HSB.out _ _ hb hHeld; refine hK.out _ _ hHeld (fun _ => ?_); have HBz := zj (HBz.out.trans' hb); clear hb; clear hK; try simp only [Act.put, jA, jZ, jS]
    refine tk 25 (some 46) ?_ rfl rfl ?_ ?_; rotate_left
    ·intro W h; (try dsimp only at h); go_simp; (try with_reducible rfl)
    try simp only [Act.put, jA, jZ, jS]
    refine tk 26 (some 8) ?_ rfl rfl ?_ ?_; rotate_left
    ·intro W h; (try dsimp only at h); go_simp; (try with_reducible rfl)
    try simp only [Act.put, jA, jZ, jS]
    refine wpAnyH_done (by kernel_rfl) ?_ _; go_wp2_with fail; refine (HZ.out _).mono ?_; rintro e V8 ⟨rfl, hb8⟩; have HB8 := zj (HBz.out.trans' hb8); clear hb8; go_wp2_with fail; refine (HSum.out _).mono ?_; rintro e V9 ⟨rfl, rfl⟩; go_wp2_with fail; refine (HC.out _).mono ?_; rintro e V10 ⟨rfl, hb10⟩; have HB10 := zj (HB8.out.trans' hb10); clear hb10; go_wp2_with fail
    go_ret2
    exact ⟨rfl, HB1.out.trans' HB10.out⟩
   ·go_simp
    refine (HF3.out _).mono ?_; rintro e Vb ⟨rfl, hb⟩; go_wp2_with fail; have hHeld := HSB.out _ _ hb hHeld; refine hK.out _ _ hHeld (fun _ => ?_); have HBz := zj (HBz.out.trans' hb); have hblk := zj ((hb.block _ (Array.getElem?_eq_some_iff.1 hblk.out).1).trans hblk.out); clear hb; clear hK; try simp only [Act.put, jA, jZ, jS]
    refine rd1 15 rfl (fun KK hK => ?_); have hcv := HCV.out _ _ hblk.out; go_simp; refine hK.out _ _ hHeld (fun _ => ?_); clear hcv hblk; clear hK; try simp only [Act.put, jA, jZ, jS]
    refine tk 20 (some 41) ?_ rfl rfl ?_ ?_; rotate_left
    ·intro W h; (try dsimp only at h); go_simp; (try with_reducible rfl)
    try simp only [Act.put, jA, jZ, jS]
    refine tk 25 (some 46) ?_ rfl rfl ?_ ?_; rotate_left
    ·intro W h; (try dsimp only at h); go_simp; (try with_reducible rfl)
    try simp only [Act.put, jA, jZ, jS]
    refine tk 26 (some 8) ?_ rfl rfl ?_ ?_; rotate_left
    ·intro W h; (try dsimp only at h); go_simp; (try with_reducible rfl)
    try simp only [Act.put, jA, jZ, jS]
    refine wpAnyH_done (by kernel_rfl) ?_ _; go_wp2_with fail; refine (HZ.out _).mono ?_; rintro e V8 ⟨rfl, hb8⟩; have HB8 := zj (HBz.out.trans' hb8); clear hb8; go_wp2_with fail; refine (HSum.out _).mono ?_; rintro e V9 ⟨rfl, rfl⟩; go_wp2_with fail; refine (HC.out _).mono ?_; rintro e V10 ⟨rfl, hb10⟩; have HB10 := zj (HB8.out.trans' hb10); clear hb10; go_wp2_with fail
    go_ret2
    exact ⟨rfl, HB1.out.trans' HB10.out⟩
  ·go_simp
   refine (HF3.out _).mono ?_; rintro e Vb ⟨rfl, hb⟩; go_wp2_with fail; have hHeld := HSB.out _ _ hb hHeld; refine hK.out _ _ hHeld (fun _ => ?_); have HBz := zj (HBz.out.trans' hb); clear hb; clear hK; try simp only [Act.put, jA, jZ, jS]
   refine rd1 14 rfl (fun KK hK => ?_); go_simp; have hHeld := HSB.out _ _ (below_alloc _ (.cells #[.int .u8 k, .int .u8 l, .int .u8 cm, .int .u8 cq] 5)) hHeld; refine hK.out _ _ hHeld (fun _ => ?_); have HBz := zj (HBz.out.trans' (below_alloc _ (.cells #[.int .u8 k, .int .u8 l, .int .u8 cm, .int .u8 cq] 5))); have hblk := zj (heap_alloc_new Vb (.cells #[.int .u8 k, .int .u8 l, .int .u8 cm, .int .u8 cq] 5)); clear hK; try simp only [Act.put, jA, jZ, jS]
   refine rd1 15 rfl (fun KK hK => ?_); have hcv := HCV.out _ _ hblk.out; go_simp; refine hK.out _ _ hHeld (fun _ => ?_); clear hcv hblk; clear hK; try simp only [Act.put, jA, jZ, jS]
   refine tk 20 (some 41) ?_ rfl rfl ?_ ?_; rotate_left
   ·intro W h; (try dsimp only at h); go_simp; (try with_reducible rfl)
   try simp only [Act.put, jA, jZ, jS]
   refine tk 25 (some 46) ?_ rfl rfl ?_ ?_; rotate_left
   ·intro W h; (try dsimp only at h); go_simp; (try with_reducible rfl)
   try simp only [Act.put, jA, jZ, jS]
   refine tk 26 (some 8) ?_ rfl rfl ?_ ?_; rotate_left
   ·intro W h; (try dsimp only at h); go_simp; (try with_reducible rfl)
   try simp only [Act.put, jA, jZ, jS]
   refine wpAnyH_done (by kernel_rfl) ?_ _; go_wp2_with fail; refine (HZ.out _).mono ?_; rintro e V8 ⟨rfl, hb8⟩; have HB8 := zj (HBz.out.trans' hb8); clear hb8; go_wp2_with fail; refine (HSum.out _).mono ?_; rintro e V9 ⟨rfl, rfl⟩; go_wp2_with fail; refine (HC.out _).mono ?_; rintro e V10 ⟨rfl, hb10⟩; have HB10 := zj (HB8.out.trans' hb10); clear hb10; go_wp2_with fail
   go_ret2
   exact ⟨rfl, HB1.out.trans' HB10.out⟩
end Go.Proofs.YtpeghilfldpgfaaGreatDoor.L7
