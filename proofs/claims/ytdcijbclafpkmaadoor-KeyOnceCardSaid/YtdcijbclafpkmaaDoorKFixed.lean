/-
  The fixed calls of the statements of layer 4: each answers as the document fixes it, so the conjunction is true.
-/
import Derived.Test.YtdcijbclafpkmaaDoorKPart
import Derived.Test.YtdcijbclafpkmaaDoorKSame
import Derived.Test.YtdcijbclafpkmaaDoorKCmp
namespace Go.Proofs.YtdcijbclafpkmaaDoor
open Go.RowKit
set_option linter.unusedVariables false
set_option linter.unusedSimpArgs false

theorem qc_inv (l : List QC) : (cols l).map qc = l := by
  unfold cols
  rw [List.map_map]
  conv => rhs; rw [← List.map_id l]
  exact List.map_congr_left fun c _ => by
    obtain ⟨k, i, u, s⟩ := c
    show (⟨k, i, u, ⟨s.data.toList.toArray⟩⟩ : QC) = ⟨k, i, u, s⟩
    congr 1
theorem qc_of {l : List QC} {m : List CP.Col} (h : cols l = m) : l = m.map qc := by rw [← h, qc_inv]

/-- A block that is just these columns. -/
theorem lies_new (w : World) (t : TypeId) (l : List QC) : Lies (w.alloc (.cells (fours l).toArray t)) (w.alloc (.cells (fours l).toArray t)).heap.size (some ⟨w.heap.size, 0, none⟩) l := fun i c hc =>
  ⟨_, rfl, by simp, fun j v hv => by
    rw [addr_add]
    exact World.news_of_block (heap_alloc_new w _) _ _ (by simpa using fours_get l i j c v hc hv)⟩

/-- key.Put, key.Get, key.Part of what is at hand, in any world in which MaxLen holds an integer. -/
theorem kput (A : Option Addr) (l : List QC) (ca : Nat) (v : Value) (hv : keyV l = v) (ho : QOk l) (hl : l.length ≤ 1000) (W : World) (M : MaxIs W) (ha : Lies W W.heap.size A l) :
    Calls Tryd.prog 10 #[.slice A l.length ca] W fun e w' => e = .returned v ∧ Below W.heap.size W w' ∧ MaxIs w' :=
  (keyPut_any A l ca W M ha ho hl).mono fun e w' ⟨he, hb⟩ => ⟨by rw [he, hv], hb, M.below hb⟩
theorem kget (s : ByteArray) (l : List QC) (er : Nat) (hs : s.size ≤ 1200) (h : KP.get s.data.toList = (cols l, er)) (W : World) (M : MaxIs W) :
    Calls Tryd.prog 13 #[.string s] W fun e w' => ∃ G cap, e = .returned (.tuple #[.slice G l.length cap, .int .i64 er]) ∧ l.length ≤ cap ∧ Lies w' w'.heap.size G l ∧ Below W.heap.size W w' ∧ MaxIs w' :=
  (keyGet_any s hs W).mono fun e w' ⟨v, cs, he, hc, ho, hb⟩ => by
    rw [h] at he hc
    have hcs : cs = l := by rw [qc_of hc, qc_inv]
    subst hcs
    obtain ⟨G, cap, rfl, hcap⟩ := got_form ho
    exact ⟨G, cap, he, hcap, lies_own ho rfl, hb, M.below hb⟩
theorem kpart (s : ByteArray) (n : Int) (v : Value) (hs : s.size ≤ 1000) (hn : (Lit.int .i64 n).wf = true) (hv : partV s n = v) (W : World) (M : MaxIs W) :
    Calls Tryd.prog 15 #[.string s, .int .i64 n] W fun e w' => e = .returned v ∧ Below W.heap.size W w' ∧ MaxIs w' :=
  (keyPart_any s n W M (by omega) (fun cs h h0 => got_ok hs (cs := cs) h h0) hn).mono fun e w' ⟨he, hb⟩ => ⟨by rw [he, hv], hb, M.below hb⟩

def nullC : QC := ⟨0, 0, 0, ⟨#[]⟩⟩
def yesC : QC := ⟨1, 0, 1, ⟨#[]⟩⟩
def nineC : QC := ⟨9, 0, 0, ⟨#[]⟩⟩
theorem twoOk : QOk [nullC, yesC] := fun c hc => by
  simp only [List.mem_cons, List.not_mem_nil, or_false] at hc
  rcases hc with rfl | rfl <;> exact ⟨by unfold CP.Ok; decide, by decide⟩
theorem nineOk : QOk [nineC] := fun c hc => by
  simp only [List.mem_cons, List.not_mem_nil, or_false] at hc
  subst hc
  exact ⟨by unfold CP.Ok; decide, by decide⟩
theorem kv1 : keyV [nullC, yesC] = .tuple #[.string ⟨#[16, 33, 1]⟩, .int .i64 0] := by kernel_rfl
theorem kv2 : keyV [] = .tuple #[.string ⟨#[1]⟩, .int .i64 0] := by kernel_rfl
theorem kv3 : keyV [nineC] = .tuple #[.string ⟨#[]⟩, .int .i64 3] := by kernel_rfl
theorem kg1 : KP.get (⟨#[16, 33, 1]⟩ : ByteArray).data.toList = (cols [nullC, yesC], 0) := by kernel_rfl
theorem kg2 : KP.get (⟨#[1]⟩ : ByteArray).data.toList = (cols [], 0) := by kernel_rfl
theorem kg3 : KP.get (⟨#[16, 1, 16]⟩ : ByteArray).data.toList = (cols [], 3) := by kernel_rfl
theorem kg4 : KP.get (⟨#[16]⟩ : ByteArray).data.toList = (cols [], 7) := by kernel_rfl
theorem kg5 : KP.get (⟨#[5, 1]⟩ : ByteArray).data.toList = (cols [], 3) := by kernel_rfl
theorem kp1 : partV ⟨#[16, 33, 1]⟩ 1 = .tuple #[.string ⟨#[16]⟩, .int .i64 0] := by kernel_rfl
theorem kp2 : partV ⟨#[16, 33, 1]⟩ 3 = .tuple #[.string ⟨#[]⟩, .int .i64 4] := by kernel_rfl
theorem kc1 : KP.cmp (cols [nullC, yesC]) (cols [nullC]) = 1 := by kernel_rfl
theorem kc2 : KP.cmp (cols []) (cols [nullC, yesC]) = -1 := by kernel_rfl
theorem kc3 : KP.cmp (cols [nullC, yesC]) (cols [nullC, yesC]) = 0 := by kernel_rfl

set_option maxHeartbeats 4000000 in
set_option maxRecDepth 100000 in
theorem fixed4_tells : Tells 21 #[] (.bool true) := Tells.of fun w M0 => by
  go_enter Tryd.func21, Tryd.ntmps21
  go_wp2_with fail
  have L1 : Lies ((w.alloc (.cells #[.int .i64 1, .int .i64 0, .int .u64 1, .string ⟨#[]⟩] 51)).alloc (.cells #[.int .i64 0, .int .i64 0, .int .u64 0, .string ⟨#[]⟩, .int .i64 1, .int .i64 0, .int .u64 1, .string ⟨#[]⟩] 51)) ((w.alloc (.cells #[.int .i64 1, .int .i64 0, .int .u64 1, .string ⟨#[]⟩] 51)).alloc (.cells #[.int .i64 0, .int .i64 0, .int .u64 0, .string ⟨#[]⟩, .int .i64 1, .int .i64 0, .int .u64 1, .string ⟨#[]⟩] 51)).heap.size (some ⟨w.heap.size + 1, 0, none⟩) [nullC, yesC] := by
    have h := lies_new (w.alloc (.cells #[.int .i64 1, .int .i64 0, .int .u64 1, .string ⟨#[]⟩] 51)) 51 [nullC, yesC]
    simp only [World.size_alloc] at h ⊢
    exact h
  refine (kput _ [nullC, yesC] 2 _ kv1 twoOk (by decide) _ ((M0.alloc _).alloc _) L1).mono ?_
  rintro e w1 ⟨rfl, hb1, M1⟩
  have B1 : Below w.heap.size w w1 := (below_alloc2 _ _ _).trans' hb1
  clear L1 hb1 M0
  go_wp2_with fail
  refine (kput none [] 0 _ kv2 QOk.nil (by decide) _ M1 (Lies.nil _ _ _)).mono ?_
  rintro e w2 ⟨rfl, hb2, M2⟩
  have B2 := B1.trans' hb2
  clear hb2 B1 M1
  go_wp2_with fail
  refine (kput _ [nineC] 1 _ kv3 nineOk (by decide) _ (M2.alloc _) (lies_new w2 51 [nineC])).mono ?_
  rintro e w3 ⟨rfl, hb3, M3⟩
  have B3 := (B2.trans' (below_alloc _ _)).trans' hb3
  clear hb3 B2 M2
  go_wp2_with fail
  refine (kget _ [nullC, yesC] 0 (by decide) kg1 _ M3).mono ?_
  rintro e w4 ⟨G, cap, rfl, hcap, HL4, hb4, M4⟩
  have HL := Lib.hid HL4
  have B4 := B3.trans' hb4
  have R4 := Below.refl w4.heap.size w4
  clear hb4 B3 M3 HL4
  have hcap' : 2 ≤ cap := hcap
  clear hcap
  go_wp2_with fail
  refine (kget _ [] 0 (by decide) kg2 _ M4).mono ?_
  rintro e w5 ⟨G5, cap5, rfl, _, _, hb5, M5⟩
  have B5 := B4.trans' hb5
  have R5 := R4.trans' hb5
  clear hb5 B4 M4 R4
  go_wp2_with fail
  refine (kget _ [] 3 (by decide) kg3 _ M5).mono ?_
  rintro e w6 ⟨G6, cap6, rfl, _, _, hb6, M6⟩
  have B6 := B5.trans' hb6
  have R6 := R5.trans' hb6
  clear hb6 B5 M5 R5
  go_wp2_with fail
  refine (kget _ [] 7 (by decide) kg4 _ M6).mono ?_
  rintro e w7 ⟨G7, cap7, rfl, _, _, hb7, M7⟩
  have B7 := B6.trans' hb7
  have R7 := R6.trans' hb7
  clear hb7 B6 M6 R6
  go_wp2_with fail
  refine (kget _ [] 3 (by decide) kg5 _ M7).mono ?_
  rintro e w8 ⟨G8, cap8, rfl, _, _, hb8, M8⟩
  have B8 := B7.trans' hb8
  have R8 := R7.trans' hb8
  clear hb8 B7 M7 R7
  go_wp2_with fail
  refine (kpart _ 1 _ (by decide) (by decide) kp1 _ M8).mono ?_
  rintro e w9 ⟨rfl, hb9, M9⟩
  have B9 := B8.trans' hb9
  have R9 := R8.trans' hb9
  clear hb9 B8 M8 R8
  go_wp2_with fail
  refine (kpart _ 3 _ (by decide) (by decide) kp2 _ M9).mono ?_
  rintro e w10 ⟨rfl, hb10, M10⟩
  have B10 := B9.trans' hb10
  have R10 := R9.trans' hb10
  clear hb10 B9 M9 R9
  go_wp2_with fail
  have hsz := R10.size
  refine (ref4_any G [nullC, yesC] cap w10 ((HL.out.below' R10 (Nat.le_refl _)).more hsz) (by decide)).mono ?_
  rintro e w11 ⟨G11, cap11, rfl, hown11, hb11⟩
  have HL11 := Lib.hid (lies_own hown11 rfl)
  have B11 := B10.trans' hb11
  have R11 := R10.trans' hb11
  clear hb11 B10 M10 R10 hown11 hsz
  go_wp2_with fail
  have HSame : Hid (sameL [nullC, yesC] [nullC, yesC] = true) := Lib.hid (sameL_yes rfl)
  refine (same4_any G11 (some ⟨w11.heap.size, 0, none⟩) [nullC, yesC] [nullC, yesC] cap11 2 _ ((HL11.out.below' (below_alloc w11 (.cells (fours [nullC, yesC]).toArray 55)) (Nat.le_refl _)).more (by simp)) (lies_new w11 55 [nullC, yesC]) (by decide) (by decide)).mono ?_
  rw [HSame.out]
  rintro e w12 ⟨rfl, hb12⟩
  have B12 := (B11.trans' (below_alloc _ _)).trans' hb12
  have R12 := (R11.trans' (below_alloc _ _)).trans' hb12
  clear hb12 B11 R11 HL11 HSame
  go_wp2_with fail
  refine (keyCmp_any G G [nullC, yesC] [nullC] cap cap w12 ((HL.out.below' R12 (Nat.le_refl _)).more R12.size) (((HL.out.take 1).below' R12 (Nat.le_refl _)).more R12.size) (by decide) (by decide)).mono ?_
  rw [kc1]
  rintro e w13 ⟨rfl, hb13⟩
  have B13 := B12.trans' hb13
  have R13 := R12.trans' hb13
  clear hb13 B12 R12
  go_wp2_with fail
  refine (keyCmp_any none G [] [nullC, yesC] 0 cap w13 (Lies.nil _ _ _) ((HL.out.below' R13 (Nat.le_refl _)).more R13.size) (by decide) (by decide)).mono ?_
  rw [kc2]
  rintro e w14 ⟨rfl, hb14⟩
  have B14 := B13.trans' hb14
  have R14 := R13.trans' hb14
  clear hb14 B13 R13
  go_wp2_with fail
  refine (keyCmp_any G G [nullC, yesC] [nullC, yesC] cap cap w14 ((HL.out.below' R14 (Nat.le_refl _)).more R14.size) ((HL.out.below' R14 (Nat.le_refl _)).more R14.size) (by decide) (by decide)).mono ?_
  rw [kc3]
  rintro e w15 ⟨rfl, hb15⟩
  have B15 := B14.trans' hb15
  go_wp2_with fail
  go_ret
  exact ⟨rfl, B15⟩
end Go.Proofs.YtdcijbclafpkmaaDoor
