/-
  The last statement of the laws' own fixed: all that was answered, held together.
-/
import Derived.Test.YtpehkikdmckldaaGreatDoorJ15
import Derived.Test.YtpehkikdmckldaaGreatDoorJ18
import Derived.Test.YtpehkikdmckldaaGreatDoorJ08
import Derived.Deep.RegionHeld3
namespace Go.Proofs.YtpehkikdmckldaaGreatDoor
open Go.RowKit NP
set_option linter.unusedVariables false
set_option linter.unusedSimpArgs false

/-- What stands ahead of the last return. -/
def lastTwo : Code → Option Code
  | .seq a b => some ((lastTwo b).getD a)
  | _ => none
def secondLast (fn : Func) : Option Code := fn.body.bind lastTwo
set_option maxHeartbeats 8000000 in
set_option maxRecDepth 100000 in
theorem fixed_fin (w D : World) (S T : ByteArray) (q1 q6 b1 b6 b15 b17 b21 : Nat) (G15 G17 : Option Addr) (hS2 : S.size = 128) (hS3 : S.extract 16 29 = ⟨#[1, 97, 0, 1, 98, 0, 1, 120, 1, 99, 0, 1, 121]⟩) (HG : Hid (Glo D)) (H1 : Hid (LR 24 b1 1 0 ⟨#[]⟩ (some ⟨q1, 0, none⟩) 2 2 tw D)) (H6 : Hid (LR 24 b6 1 2 ⟨#[97, 100]⟩ (some ⟨q6, 0, none⟩) 2 2 tw D)) (H15 : Hid (LR 24 b15 1 0 ⟨#[]⟩ G15 2 2 tw D)) (H17 : Hid (LR 24 b17 1 2 ⟨#[97, 100]⟩ G17 2 2 tw D)) (HX : Hid (L9.Bx 41 b21 false ⟨#[121]⟩ 0 0 D)) (HB : Hid (Below w.heap.size w D))
    (u3 u4 u7 u9 u11 u12 u13 u19 u23 u25 u26 u27 u28 u29 u30 u31 u32 u33 u34 u35 u36 u37 u38 u39 u40 u41 u42 u43 u44 u45 u46 u47 u48 u49 u50 u51 u52 u53 u54 u55 u56 u57 u58 u59 u60 u61 u62 u63 u64 u65 u66 u67 u68 u69 u70 u71 u72 u73 u74 u75 u76 u77 u78 u79 u80 u81 u82 u83 u84 u85 u86 u87 u88 u89 u90 u91 u92 u93 u94 u95 u96 u97 u98 u99 u100 u101 u102 : Value) (K : Act → World → Prop) (c : Code) (hc : secondLast Tryz.f24 = some c)
    (hK : ∀ (a : Act) (V : World), Code.wp Tryz.prog Code.ret (bodyPost Tryz.prog Tryz.f24 fun e w' => e = .returned (.bool true) ∧ Below w.heap.size w w') a V → K a V) :
    Code.wp Tryz.prog c (Exit.then K (bodyPost Tryz.prog Tryz.f24 fun e w' => e = .returned (.bool true) ∧ Below w.heap.size w w')) { tmps := #[.bool false, .pointer (some ⟨b1, 0, none⟩), .string S, u3, u4, .int .i64 4, .pointer (some ⟨b6, 0, none⟩), u7, .int .i64 3, u9, .int .i64 0, u11, u12, u13, .int .i64 8, .pointer (some ⟨b15, 0, none⟩), .int .i64 0, .pointer (some ⟨b17, 0, none⟩), .int .i64 0, u19, .int .i64 3, .pointer (some ⟨b21, 0, none⟩), .bool true, u23, .bool false, u25, u26, u27, u28, u29, u30, u31, u32, u33, u34, u35, u36, u37, u38, u39, u40, u41, u42, u43, u44, u45, u46, u47, u48, u49, u50, u51, u52, u53, u54, u55, u56, u57, u58, u59, u60, u61, u62, u63, u64, u65, u66, u67, u68, u69, u70, u71, u72, u73, u74, u75, u76, u77, u78, u79, u80, u81, u82, u83, u84, u85, u86, u87, u88, u89, u90, u91, u92, u93, u94, u95, u96, u97, u98, u99, u100, u101, u102, undef, undef, undef, undef, undef, undef, undef, undef, undef, undef, undef, undef, undef, undef, undef, undef, undef, undef, undef, undef, undef, undef, undef, undef, undef, undef, undef, undef, undef, undef, undef, undef, undef, undef, undef, undef, undef, undef, undef, undef, undef, undef, undef, undef, undef, undef, undef, undef, undef, undef, undef, undef, undef, undef, undef, undef, undef, undef, undef, undef, undef, undef, undef, undef, undef, undef, undef, undef, undef, undef, undef, undef, undef, undef, undef, undef, undef, undef, undef, undef, undef, undef, undef, undef, undef, undef, undef], defers := [] } D := by
  simp only [secondLast, Tryz.f24, Option.bind_some, lastTwo, Option.getD_some, Option.getD_none, Option.some.injEq] at hc
  subst hc
  have hd2 : tw.length = 2 := rfl
  have HS2 := Lib.hid HG.out.sizes
  have HSZ : Hid (∀ V (X : Prop), (Hid (Below D.heap.size D V) ∧ X) → L7.Sizes V) := Lib.hid (fun V X h => HS2.out.below HS2.out.lt h.1.out)
  have RF : Hid (∀ V F R H A ca, Lies5 V V.heap.size A tw → Calls Tryz.prog 12 #[lv F R H A 2 ca] V fun e w' => ∃ G cap, e = .returned (lv F R H G 2 cap) ∧ Lies5 w' w'.heap.size G tw ∧ Below V.heap.size V w') := Lib.hid (fun V F R H A ca h => ref_any F R H A tw ca V h (by decide))
  have RS : Hid (∀ V F R H A C ca cb, Lies5 V V.heap.size A tw → Lies5 V V.heap.size C tw → Calls Tryz.prog 22 #[lv F R H A 2 ca, lv F R H C 2 cb] V fun e w' => e = .returned (.bool true) ∧ Below V.heap.size V w') := Lib.hid (fun V F R H A C ca cb h1 h2 => (rsame_any F R F R H H A C tw tw ca cb V h1 h2 (by decide)).mono fun e w' ⟨h3, h4⟩ => ⟨by rw [h3, decide_eq_true ⟨⟨rfl, rfl, rfl⟩, rfl⟩], h4⟩)
  have M1 : Hid (∀ V, L7.Sizes V → Lies5 V V.heap.size (some ⟨q1, 0, none⟩) tw → Calls Tryz.prog 17 #[lv 1 0 ⟨#[]⟩ (some ⟨q1, 0, none⟩) 2 2, .int .i64 128] V fun e w' => e = .returned (.bool true) ∧ Below V.heap.size V w') := Lib.hid (fun V hs h => (may_any 1 0 ⟨#[]⟩ (some ⟨q1, 0, none⟩) tw 2 128 V hs h (by decide) (by decide)).mono fun e w' ⟨h3, h4⟩ => ⟨by rw [h3, decide_eq_true (show May ⟨1, 0, ⟨#[]⟩, tw⟩ 128 from tw_may)], h4⟩)
  have M2 : Hid (∀ V, L7.Sizes V → Lies5 V V.heap.size (some ⟨q1, 0, none⟩) tw → Calls Tryz.prog 17 #[lv 1 0 ⟨#[]⟩ (some ⟨q1, 0, none⟩) 2 2, .int .i64 64] V fun e w' => e = .returned (.bool false) ∧ Below V.heap.size V w') := Lib.hid (fun V hs h => (may_any 1 0 ⟨#[]⟩ (some ⟨q1, 0, none⟩) tw 2 64 V hs h (by decide) (by decide)).mono fun e w' ⟨h3, h4⟩ => ⟨by rw [h3, decide_eq_false (show ¬ May ⟨1, 0, ⟨#[]⟩, tw⟩ 64 from two64)], h4⟩)
  have M3 : Hid (∀ V, L7.Sizes V → Calls Tryz.prog 17 #[lv 0 0 ⟨#[]⟩ none 0 0, .int .i64 128] V fun e w' => e = .returned (.bool false) ∧ Below V.heap.size V w') := Lib.hid (fun V hs => (may_any 0 0 ⟨#[]⟩ none [] 0 128 V hs (fun i c h => by simp at h) (by decide) (by decide)).mono fun e w' ⟨h3, h4⟩ => ⟨by rw [h3, decide_eq_false zero_not], h4⟩)
  have SA : Hid (∀ V, Lies5 V V.heap.size (some ⟨q1, 0, none⟩) tw → Calls Tryz.prog 21 #[lv 1 0 ⟨#[]⟩ (some ⟨q1, 0, none⟩) 2 2, lv 1 0 ⟨#[]⟩ (some ⟨q1, 0, none⟩) 2 2] V fun e w' => e = .returned (.bool true) ∧ Below V.heap.size V w') := Lib.hid (fun V h1 => (same_any 1 0 1 0 ⟨#[]⟩ ⟨#[]⟩ (some ⟨q1, 0, none⟩) (some ⟨q1, 0, none⟩) tw tw 2 2 V h1 h1 (by decide) (by decide)).mono fun e w' ⟨h3, h4⟩ => ⟨by rw [h3, decide_eq_true ⟨⟨rfl, rfl, rfl⟩, rfl⟩], h4⟩)
  have SB : Hid (∀ V, Lies5 V V.heap.size (some ⟨q1, 0, none⟩) tw → Lies5 V V.heap.size (some ⟨q6, 0, none⟩) tw → Calls Tryz.prog 21 #[lv 1 0 ⟨#[]⟩ (some ⟨q1, 0, none⟩) 2 2, lv 1 2 ⟨#[97, 100]⟩ (some ⟨q6, 0, none⟩) 2 2] V fun e w' => e = .returned (.bool false) ∧ Below V.heap.size V w') := Lib.hid (fun V h1 h2 => (same_any 1 0 1 2 ⟨#[]⟩ ⟨#[97, 100]⟩ (some ⟨q1, 0, none⟩) (some ⟨q6, 0, none⟩) tw tw 2 2 V h1 h2 (by decide) (by decide)).mono fun e w' ⟨h3, h4⟩ => ⟨by rw [h3, decide_eq_false (fun h => by have := h.1.2.1; omega)], h4⟩)
  have SZ : Hid (∀ V, Lies5 V V.heap.size (some ⟨q1, 0, none⟩) tw → Calls Tryz.prog 19 #[lv 1 0 ⟨#[]⟩ (some ⟨q1, 0, none⟩) 2 2] V fun e w' => e = .returned (.int .i64 19) ∧ Below V.heap.size V w') := Lib.hid (fun V h1 => (lsize_any 1 0 ⟨#[]⟩ (some ⟨q1, 0, none⟩) tw 2 V h1 (May.fit (p := 128) (show May ⟨1, 0, ⟨#[]⟩, tw⟩ 128 from tw_may) (by decide))).mono fun e w' ⟨h3, h4⟩ => ⟨by rw [h3, show size ⟨1, 0, ⟨#[]⟩, tw⟩ = 19 from tw_size]; rfl, h4⟩)
  have L1 : Hid (∀ V (X : Prop), (Hid (Below D.heap.size D V) ∧ X) → Lies5 V V.heap.size (some ⟨q1, 0, none⟩) tw) := Lib.hid (fun V X h => H1.out.row.on h.1.out)
  have L6 : Hid (∀ V (X : Prop), (Hid (Below D.heap.size D V) ∧ X) → Lies5 V V.heap.size (some ⟨q6, 0, none⟩) tw) := Lib.hid (fun V X h => H6.out.row.on h.1.out)
  have L15 : Hid (∀ V (X : Prop), (Hid (Below D.heap.size D V) ∧ X) → Lies5 V V.heap.size G15 tw) := Lib.hid (fun V X h => H15.out.row.on h.1.out)
  have L17 : Hid (∀ V (X : Prop), (Hid (Below D.heap.size D V) ∧ X) → Lies5 V V.heap.size G17 tw) := Lib.hid (fun V X h => H17.out.row.on h.1.out)
  have HSC : Hid (∀ V, Below D.heap.size D V → Hid (Below D.heap.size D V) ∧ V.cell? ⟨b1, 0, none⟩ = some (.int .i64 1) ∧ V.cell? ⟨b1, 1, none⟩ = some (.int .i64 0) ∧ V.cell? ⟨b1, 2, none⟩ = some (.string ⟨#[]⟩) ∧ V.cell? ⟨b1, 3, none⟩ = some (.slice (some ⟨q1, 0, none⟩) 2 2) ∧ V.cell? ⟨b6, 0, none⟩ = some (.int .i64 1) ∧ V.cell? ⟨b6, 1, none⟩ = some (.int .i64 2) ∧ V.cell? ⟨b6, 2, none⟩ = some (.string ⟨#[97, 100]⟩) ∧ V.cell? ⟨b6, 3, none⟩ = some (.slice (some ⟨q6, 0, none⟩) 2 2) ∧ V.cell? ⟨b15, 0, none⟩ = some (.int .i64 1) ∧ V.cell? ⟨b15, 1, none⟩ = some (.int .i64 0) ∧ V.cell? ⟨b15, 2, none⟩ = some (.string ⟨#[]⟩) ∧ V.cell? ⟨b15, 3, none⟩ = some (.slice G15 2 2) ∧ V.cell? ⟨b17, 0, none⟩ = some (.int .i64 1) ∧ V.cell? ⟨b17, 1, none⟩ = some (.int .i64 2) ∧ V.cell? ⟨b17, 2, none⟩ = some (.string ⟨#[97, 100]⟩) ∧ V.cell? ⟨b17, 3, none⟩ = some (.slice G17 2 2) ∧ V.cell? ⟨b21, 1, none⟩ = some (.string ⟨#[121]⟩)) := Lib.hid (fun V hb => by
    obtain ⟨a0, a1, a2, a3⟩ := (H1.out.on hb).box.cells
    obtain ⟨c0, c1, c2, c3⟩ := (H6.out.on hb).box.cells
    obtain ⟨d0, d1, d2, d3⟩ := (H15.out.on hb).box.cells
    obtain ⟨f0, f1, f2, f3⟩ := (H17.out.on hb).box.cells
    exact ⟨Lib.hid hb, a0, a1, a2, a3, c0, c1, c2, c3, d0, d1, d2, d3, f0, f1, f2, f3, (HX.out.below hb).cells.2.1⟩)
  have HNX : Hid (∀ V V' (X : Prop), (Hid (Below D.heap.size D V) ∧ X) → Below V.heap.size V V' → Below D.heap.size D V') := Lib.hid (fun V V' X h1 h2 => h1.1.out.trans' h2)
  have HBW := Lib.hid (HB.out.trans' (Below.refl _ D))
  have hSV := HSC.out _ (Below.refl _ D)
  have hSd := HSC.out _ (L5.below_drewN (Below.refl _ D) 1)
  have hS3' : S.extract 16 29 = ⟨#[1, 97, 0, 1, 98, 0, 1, 120, 1, 99, 0, 1, 121]⟩ := hS3
  clear HG H1 H6 H15 H17 HX HB HS2 hd2
  simp only [List.append]
  go_region_held3 (fun V => Hid (Below D.heap.size D V) ∧ V.cell? ⟨b1, 0, none⟩ = some (.int .i64 1) ∧ V.cell? ⟨b1, 1, none⟩ = some (.int .i64 0) ∧ V.cell? ⟨b1, 2, none⟩ = some (.string ⟨#[]⟩) ∧ V.cell? ⟨b1, 3, none⟩ = some (.slice (some ⟨q1, 0, none⟩) 2 2) ∧ V.cell? ⟨b6, 0, none⟩ = some (.int .i64 1) ∧ V.cell? ⟨b6, 1, none⟩ = some (.int .i64 2) ∧ V.cell? ⟨b6, 2, none⟩ = some (.string ⟨#[97, 100]⟩) ∧ V.cell? ⟨b6, 3, none⟩ = some (.slice (some ⟨q6, 0, none⟩) 2 2) ∧ V.cell? ⟨b15, 0, none⟩ = some (.int .i64 1) ∧ V.cell? ⟨b15, 1, none⟩ = some (.int .i64 0) ∧ V.cell? ⟨b15, 2, none⟩ = some (.string ⟨#[]⟩) ∧ V.cell? ⟨b15, 3, none⟩ = some (.slice G15 2 2) ∧ V.cell? ⟨b17, 0, none⟩ = some (.int .i64 1) ∧ V.cell? ⟨b17, 1, none⟩ = some (.int .i64 2) ∧ V.cell? ⟨b17, 2, none⟩ = some (.string ⟨#[97, 100]⟩) ∧ V.cell? ⟨b17, 3, none⟩ = some (.slice G17 2 2) ∧ V.cell? ⟨b21, 1, none⟩ = some (.string ⟨#[121]⟩))
    (first | assumption | exact hSd)
    (first
      | (go_at_call 12; refine Calls.mono (fit (RF.out _ 1 0 ⟨#[]⟩ G15 2 (L15.out _ _ (by assumption))) (by rfl)) ?_; rintro e V ⟨GA, cGA, rfl, hl, hb⟩; (try have RA := Lib.hid (RA.out.on hb)); (try have RB := Lib.hid (RB.out.on hb)); have RA := Lib.hid hl; have hfin := Lib.hid (HNX.out _ _ _ (by assumption) hb); have hSn := HSC.out _ hfin.out; clear hl hb)
      | (go_at_call 12; refine Calls.mono (fit (RF.out _ 1 0 ⟨#[]⟩ (some ⟨q1, 0, none⟩) 2 (L1.out _ _ (by assumption))) (by rfl)) ?_; rintro e V ⟨GB, cGB, rfl, hl, hb⟩; (try have RA := Lib.hid (RA.out.on hb)); (try have RB := Lib.hid (RB.out.on hb)); have RB := Lib.hid hl; have hfin := Lib.hid (HNX.out _ _ _ (by assumption) hb); have hSn := HSC.out _ hfin.out; clear hl hb)
      | (go_at_call 12; refine Calls.mono (fit (RF.out _ 1 2 ⟨#[97, 100]⟩ G17 2 (L17.out _ _ (by assumption))) (by rfl)) ?_; rintro e V ⟨GA, cGA, rfl, hl, hb⟩; (try have RA := Lib.hid (RA.out.on hb)); (try have RB := Lib.hid (RB.out.on hb)); have RA := Lib.hid hl; have hfin := Lib.hid (HNX.out _ _ _ (by assumption) hb); have hSn := HSC.out _ hfin.out; clear hl hb)
      | (go_at_call 12; refine Calls.mono (fit (RF.out _ 1 2 ⟨#[97, 100]⟩ (some ⟨q6, 0, none⟩) 2 (L6.out _ _ (by assumption))) (by rfl)) ?_; rintro e V ⟨GB, cGB, rfl, hl, hb⟩; (try have RA := Lib.hid (RA.out.on hb)); (try have RB := Lib.hid (RB.out.on hb)); have RB := Lib.hid hl; have hfin := Lib.hid (HNX.out _ _ _ (by assumption) hb); have hSn := HSC.out _ hfin.out; clear hl hb)
      | (go_at_call 22; refine Calls.mono (fit (RS.out _ _ _ _ _ _ _ _ RA.out RB.out) (by rfl)) ?_; rintro e V ⟨rfl, hb⟩; (try have RA := Lib.hid (RA.out.on hb)); (try have RB := Lib.hid (RB.out.on hb)); have hfin := Lib.hid (HNX.out _ _ _ (by assumption) hb); have hSn := HSC.out _ hfin.out; clear hb)
      | (go_at_call 17; refine Calls.mono (fit (M1.out _ (HSZ.out _ _ (by assumption)) (L1.out _ _ (by assumption))) (by rfl)) ?_; rintro e V ⟨rfl, hb⟩; (try have RA := Lib.hid (RA.out.on hb)); (try have RB := Lib.hid (RB.out.on hb)); have hfin := Lib.hid (HNX.out _ _ _ (by assumption) hb); have hSn := HSC.out _ hfin.out; clear hb)
      | (go_at_call 17; refine Calls.mono (fit (M2.out _ (HSZ.out _ _ (by assumption)) (L1.out _ _ (by assumption))) (by rfl)) ?_; rintro e V ⟨rfl, hb⟩; (try have RA := Lib.hid (RA.out.on hb)); (try have RB := Lib.hid (RB.out.on hb)); have hfin := Lib.hid (HNX.out _ _ _ (by assumption) hb); have hSn := HSC.out _ hfin.out; clear hb)
      | (go_at_call 17; refine Calls.mono (fit (M3.out _ (HSZ.out _ _ (by assumption))) (by rfl)) ?_; rintro e V ⟨rfl, hb⟩; (try have RA := Lib.hid (RA.out.on hb)); (try have RB := Lib.hid (RB.out.on hb)); have hfin := Lib.hid (HNX.out _ _ _ (by assumption) hb); have hSn := HSC.out _ hfin.out; clear hb)
      | (go_at_call 21; refine Calls.mono (fit (SA.out _ (L1.out _ _ (by assumption))) (by rfl)) ?_; rintro e V ⟨rfl, hb⟩; (try have RA := Lib.hid (RA.out.on hb)); (try have RB := Lib.hid (RB.out.on hb)); have hfin := Lib.hid (HNX.out _ _ _ (by assumption) hb); have hSn := HSC.out _ hfin.out; clear hb)
      | (go_at_call 21; refine Calls.mono (fit (SB.out _ (L1.out _ _ (by assumption)) (L6.out _ _ (by assumption))) (by rfl)) ?_; rintro e V ⟨rfl, hb⟩; (try have RA := Lib.hid (RA.out.on hb)); (try have RB := Lib.hid (RB.out.on hb)); have hfin := Lib.hid (HNX.out _ _ _ (by assumption) hb); have hSn := HSC.out _ hfin.out; clear hb)
      | (go_at_call 19; refine Calls.mono (fit (SZ.out _ (L1.out _ _ (by assumption))) (by rfl)) ?_; rintro e V ⟨rfl, hb⟩; (try have RA := Lib.hid (RA.out.on hb)); (try have RB := Lib.hid (RB.out.on hb)); have hfin := Lib.hid (HNX.out _ _ _ (by assumption) hb); have hSn := HSC.out _ hfin.out; clear hb)
      | fail "no arm")
  go_wp2_with fail
  go_ret
  exact ⟨rfl, HBW.out.trans' hfin.out⟩
end Go.Proofs.YtpehkikdmckldaaGreatDoor
