/-
  The last statement of the laws' own fixed: all that was answered, held together. Written by wip/gen_ifixs.py.
-/
import Derived.Test.YtembccehokodeaaGreatDoorJ08
import Derived.Test.YtembccehokodeaaGreatDoorJ09
import Derived.Test.YtembccehokodeaaGreatDoorJ10
import Derived.Test.YtembccehokodeaaGreatDoorJ11
import Derived.Test.YtembccehokodeaaGreatDoorJ12
namespace Go.Proofs.YtembccehokodeaaGreatDoor
open Go.RowKit IP
set_option linter.unusedVariables false
set_option linter.unusedSimpArgs false

set_option maxHeartbeats 8000000 in
set_option maxRecDepth 100000 in
theorem fixed_fin (w D : World) (S : ByteArray) (b1 b2 b3 b4 q1 d1 q2 d2 : Nat) (AH3 : Option Addr) (caH3 : Nat) (CH3 : Option Addr) (cbH3 : Nat) (AH4 : Option Addr) (caH4 : Nat) (CH4 : Option Addr) (cbH4 : Nat) (hS2 : S.size = 128) (hS3 : S.extract 16 30 = ⟨#[1, 109, 0, 4, 0, 0, 0, 0, 5, 0, 0, 0, 0, 0]⟩) (hS5 : S.data[0]? = some 3) (hS6 : S.data[1]? = some 1) (HG : Hid (L7.Sizes D)) (H1 : Hid (NR 25 b1 9 1 0 ⟨#[]⟩ (some ⟨q1, 0, none⟩) 2 2 (some ⟨d1, 0, none⟩) 1 1 [4, 5] ms D)) (H2 : Hid (NR 25 b2 9 1 2 ⟨#[110]⟩ (some ⟨q2, 0, none⟩) 2 2 (some ⟨d2, 0, none⟩) 1 1 [4, 5] ms D)) (H3 : Hid (NR 25 b3 9 1 0 ⟨#[]⟩ AH3 2 caH3 CH3 1 cbH3 [4, 5] ms D)) (H4 : Hid (NR 25 b4 9 1 2 ⟨#[110]⟩ AH4 2 caH4 CH4 1 cbH4 [4, 5] ms D)) (HB : Hid (Below w.heap.size w D))
    (u3 u4 u7 u9 u15 u26 u27 u29 u30 u31 u32 u33 u34 u35 u36 u37 u38 u39 u40 u41 u42 u43 u44 u45 u46 u47 u48 u49 u50 u51 u52 u53 u54 u55 u56 u57 u58 u59 u60 u61 u62 u63 u64 u65 u66 u67 u68 u69 u70 u71 u72 u73 u74 u75 u76 u77 u78 u79 u80 u81 u82 u83 u84 u85 u86 u87 u88 u89 u90 u91 u92 u93 u94 u95 u96 u97 u98 : Value) (K : Act → World → Prop) (c : Code) (hc : secondLast Tryz.f19 = some c)
    (hK : ∀ (a : Act) (V : World), Code.wp Tryz.prog Code.ret (bodyPost Tryz.prog Tryz.f19 fun e w' => e = .returned (.bool true) ∧ Below w.heap.size w w') a V → K a V) :
    Code.wp Tryz.prog c (Exit.then K (bodyPost Tryz.prog Tryz.f19 fun e w' => e = .returned (.bool true) ∧ Below w.heap.size w w')) { tmps := #[.bool false, .pointer (some ⟨b1, 0, none⟩), .string S, u3, u4, .int .i64 4, .pointer (some ⟨b2, 0, none⟩), u7, .int .i64 3, u9, .int .i64 0, .pointer (some ⟨b3, 0, none⟩), .int .i64 0, .pointer (some ⟨b4, 0, none⟩), .int .i64 0, u15, .int .i64 3, .string ⟨#[99]⟩, .string ⟨#[109]⟩, .bool true, .string ⟨#[109]⟩, .string ⟨#[]⟩, .bool false, .string ⟨#[109]⟩, .string ⟨#[110]⟩, .bool true, u26, u27, .bool false, u29, u30, u31, u32, u33, u34, u35, u36, u37, u38, u39, u40, u41, u42, u43, u44, u45, u46, u47, u48, u49, u50, u51, u52, u53, u54, u55, u56, u57, u58, u59, u60, u61, u62, u63, u64, u65, u66, u67, u68, u69, u70, u71, u72, u73, u74, u75, u76, u77, u78, u79, u80, u81, u82, u83, u84, u85, u86, u87, u88, u89, u90, u91, u92, u93, u94, u95, u96, u97, u98, undef, undef, undef, undef, undef, undef, undef, undef, undef, undef, undef, undef, undef, undef, undef, undef, undef, undef, undef, undef, undef, undef, undef, undef, undef, undef, undef, undef, undef, undef, undef, undef, undef, undef, undef, undef, undef, undef, undef, undef, undef, undef, undef, undef, undef, undef, undef, undef, undef, undef, undef, undef, undef, undef, undef, undef, undef, undef, undef, undef, undef, undef, undef, undef, undef, undef, undef, undef, undef, undef, undef, undef, undef, undef, undef, undef, undef, undef, undef, undef, undef, undef, undef, undef, undef, undef, undef, undef, undef, undef, undef, undef, undef, undef, undef, undef, undef, undef, undef, undef, undef, undef, undef, undef, undef, undef, undef, undef, undef, undef, undef, undef, undef, undef, undef, undef, undef, undef, undef, undef, undef, undef, undef, undef, undef, undef, undef, undef, undef], defers := [] } D := by
  simp only [secondLast, Tryz.f19, Option.bind_some, lastTwo, Option.getD_some, Option.getD_none, Option.some.injEq] at hc
  subst hc
  obtain ⟨Z, E⟩ : ∃ Z, Hid (FixE D Z b1 b2 b3 b4 q1 d1 q2 d2 AH3 caH3 CH3 cbH3 AH4 caH4 CH4 cbH4) := ⟨fun W => W.cell? ⟨b1, 0, none⟩ = some (.int .i64 9) ∧ W.cell? ⟨b1, 1, none⟩ = some (.int .i64 1) ∧ W.cell? ⟨b1, 2, none⟩ = some (.int .i64 0) ∧ W.cell? ⟨b1, 3, none⟩ = some (.string ⟨#[]⟩) ∧ W.cell? ⟨b1, 4, none⟩ = some (.slice (some ⟨q1, 0, none⟩) 2 2) ∧ W.cell? ⟨b1, 5, none⟩ = some (.slice (some ⟨d1, 0, none⟩) 1 1) ∧ W.cell? ⟨b2, 0, none⟩ = some (.int .i64 9) ∧ W.cell? ⟨b2, 1, none⟩ = some (.int .i64 1) ∧ W.cell? ⟨b2, 2, none⟩ = some (.int .i64 2) ∧ W.cell? ⟨b2, 3, none⟩ = some (.string ⟨#[110]⟩) ∧ W.cell? ⟨b2, 4, none⟩ = some (.slice (some ⟨q2, 0, none⟩) 2 2) ∧ W.cell? ⟨b2, 5, none⟩ = some (.slice (some ⟨d2, 0, none⟩) 1 1) ∧ W.cell? ⟨b3, 0, none⟩ = some (.int .i64 9) ∧ W.cell? ⟨b3, 1, none⟩ = some (.int .i64 1) ∧ W.cell? ⟨b3, 2, none⟩ = some (.int .i64 0) ∧ W.cell? ⟨b3, 3, none⟩ = some (.string ⟨#[]⟩) ∧ W.cell? ⟨b3, 4, none⟩ = some (.slice AH3 2 caH3) ∧ W.cell? ⟨b3, 5, none⟩ = some (.slice CH3 1 cbH3) ∧ W.cell? ⟨b4, 0, none⟩ = some (.int .i64 9) ∧ W.cell? ⟨b4, 1, none⟩ = some (.int .i64 1) ∧ W.cell? ⟨b4, 2, none⟩ = some (.int .i64 2) ∧ W.cell? ⟨b4, 3, none⟩ = some (.string ⟨#[110]⟩) ∧ W.cell? ⟨b4, 4, none⟩ = some (.slice AH4 2 caH4) ∧ W.cell? ⟨b4, 5, none⟩ = some (.slice CH4 1 cbH4), Lib.hid ⟨fun W hb => by
      obtain ⟨a0, a1, a2, a3, a4, a5⟩ := (H1.out.box.below hb).cells
      obtain ⟨e0, e1, e2, e3, e4, e5⟩ := (H2.out.box.below hb).cells
      obtain ⟨g0, g1, g2, g3, g4, g5⟩ := (H3.out.box.below hb).cells
      obtain ⟨k0, k1, k2, k3, k4, k5⟩ := (H4.out.box.below hb).cells
      exact ⟨a0, a1, a2, a3, a4, a5, e0, e1, e2, e3, e4, e5, g0, g1, g2, g3, g4, g5, k0, k1, k2, k3, k4, k5⟩,
    fun W h => ⟨h.1, h.2.1, h.2.2.1, h.2.2.2.1, h.2.2.2.2.1, h.2.2.2.2.2.1⟩,
    fun W h => ⟨h.2.2.2.2.2.2.1, h.2.2.2.2.2.2.2.1, h.2.2.2.2.2.2.2.2.1, h.2.2.2.2.2.2.2.2.2.1, h.2.2.2.2.2.2.2.2.2.2.1, h.2.2.2.2.2.2.2.2.2.2.2.1⟩,
    fun W h => ⟨h.2.2.2.2.2.2.2.2.2.2.2.2.1, h.2.2.2.2.2.2.2.2.2.2.2.2.2.1, h.2.2.2.2.2.2.2.2.2.2.2.2.2.2.1, h.2.2.2.2.2.2.2.2.2.2.2.2.2.2.2.1, h.2.2.2.2.2.2.2.2.2.2.2.2.2.2.2.2.1, h.2.2.2.2.2.2.2.2.2.2.2.2.2.2.2.2.2.1⟩,
    fun W h => h.2.2.2.2.2.2.2.2.2.2.2.2.2.2.2.2.2.2,
    fun W hb => H1.out.rows.on hb, fun W hb => H2.out.rows.on hb, fun W hb => H3.out.rows.on hb, fun W hb => H4.out.rows.on hb,
    fun W hb => HG.out.below HG.out.lt hb⟩⟩
  have HD : Hid (Below D.heap.size D D.drew) := Lib.hid (L5.below_drewN (Below.refl _ D) 1)
  refine wp_region_held_drew (S := Z) (by kernel_rfl) (E.out.below _ HD.out) (fun hHeld => ?_)
  clear hHeld
  refine fix_start _ (by kernel_rfl) ?_
  refine fix_pieceA (T := S) E (fun c d a v V h => by cases d <;> exact h) hS2 hS3 hS5 hS6 _ (by kernel_rfl) HD ?_
  intros
  rename_i HV
  refine fix_pieceB (T := S) E (fun c d a v V h => by cases d <;> exact h) _ (by kernel_rfl) HV ?_
  intros
  rename_i HV
  refine fix_pieceC (T := S) E (fun c d a v V h => by cases d <;> exact h) _ (by kernel_rfl) HV ?_
  intros
  rename_i HV
  refine fix_pieceD (T := S) E (fun c d a v V h => by cases d <;> exact h) _ (by kernel_rfl) HV ?_
  intros
  rename_i HV
  refine fix_pieceE (T := S) E (fun c d a v V h => by cases d <;> exact h) _ (by kernel_rfl) HV ?_
  intros
  rename_i HV
  refine fix_pieceG (T := S) E (fun c d a v V h => by cases d <;> exact h) _ (by kernel_rfl) HV ?_
  intros
  rename_i HV
  refine fix_pieceH (T := S) E (fun c d a v V h => by cases d <;> exact h) _ (by kernel_rfl) HV ?_
  intros
  rename_i HV
  refine fix_pieceI (T := S) E (fun c d a v V h => by cases d <;> exact h) _ (by kernel_rfl) HV ?_
  intros
  rename_i HV
  refine fix_pieceJ (T := S) E (fun c d a v V h => by cases d <;> exact h) _ (by kernel_rfl) HV ?_
  intros
  rename_i HV
  refine fix_pieceK (T := S) E (fun c d a v V h => by cases d <;> exact h) _ (by kernel_rfl) HV ?_
  intros
  rename_i HV
  refine fix_pieceL (T := S) E (fun c d a v V h => by cases d <;> exact h) _ (by kernel_rfl) HV ?_
  intros
  rename_i HV
  refine fix_pieceM (T := S) E (fun c d a v V h => by cases d <;> exact h) _ (by kernel_rfl) HV ?_
  intros
  rename_i HV
  refine fix_pieceN (T := S) E (fun c d a v V h => by cases d <;> exact h) _ (by kernel_rfl) HV ?_
  intros
  rename_i HV
  refine fix_pieceO (T := S) E (fun c d a v V h => by cases d <;> exact h) _ (by kernel_rfl) HV ?_
  intros
  rename_i HV
  refine hK _ _ ?_
  go_wp2_with fail
  go_ret
  exact ⟨rfl, HB.out.trans' HV.out⟩
end Go.Proofs.YtembccehokodeaaGreatDoor
