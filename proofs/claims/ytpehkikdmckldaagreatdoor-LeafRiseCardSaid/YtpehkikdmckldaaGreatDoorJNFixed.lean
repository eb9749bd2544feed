/-
  The walk of the laws' own fixed.
-/
import Derived.Test.YtpehkikdmckldaaGreatDoorJ15
import Derived.Test.YtpehkikdmckldaaGreatDoorJ18
import Derived.Test.YtpehkikdmckldaaGreatDoorJ08
import Derived.Test.YtpehkikdmckldaaGreatDoorJNFixF
import Derived.Deep.RegionHeld3
namespace Go.Proofs.YtpehkikdmckldaaGreatDoor
open Go.RowKit NP
set_option linter.unusedVariables false
set_option linter.unusedSimpArgs false

theorem share0 {G : Prop} {A T : World → Prop} (main : (∀ U, A U → T U) → G) (tail : ∀ U, A U → T U) : G := main tail
theorem share1 {G : Prop} {A T : Nat → World → Prop} (main : (∀ g U, A g U → T g U) → G) (tail : ∀ g U, A g U → T g U) : G := main tail
theorem share2 {G : Prop} {A T : Nat → Nat → World → Prop} (main : (∀ g q U, A g q U → T g q U) → G) (tail : ∀ g q U, A g q U → T g q U) : G := main tail
theorem tw_small : ∀ x ∈ tw, x.s.size ≤ 1000000 := by
  intro x hx
  simp only [tw, List.mem_cons, List.not_mem_nil, or_false] at hx
  rcases hx with rfl | rfl <;> decide
theorem findY (F R : Int) (H : ByteArray) (A : Option Addr) (ca : Nat) (W : World) (ha : Lies5 W W.heap.size A tw) :
    Calls Tryz.prog 15 #[lv F R H A 2 ca, .string ⟨#[97, 99]⟩] W fun e w' => e = .returned (.tuple #[.agg #[.bool false, .string ⟨#[121]⟩, .int .i64 0, .int .i64 0], .bool true]) ∧ Below W.heap.size W w' := by
  refine (find_any F R H A tw ca ⟨#[97, 99]⟩ W ha (by decide) tw_small).mono fun e w' ⟨h1, h2⟩ => ⟨?_, h2⟩
  rw [h1, tw_find]
  rfl
theorem findN (F R : Int) (H : ByteArray) (A : Option Addr) (ca : Nat) (W : World) (ha : Lies5 W W.heap.size A tw) :
    Calls Tryz.prog 15 #[lv F R H A 2 ca, .string ⟨#[97]⟩] W fun e w' => e = .returned (.tuple #[.agg #[.bool false, .string ⟨#[]⟩, .int .i64 0, .int .i64 0], .bool false]) ∧ Below W.heap.size W w' := by
  refine (find_any F R H A tw ca ⟨#[97]⟩ W ha (by decide) tw_small).mono fun e w' ⟨h1, h2⟩ => ⟨?_, h2⟩
  rw [h1, tw_nofind]
  rfl
set_option maxHeartbeats 8000000 in
set_option maxRecDepth 100000 in
theorem fixed_any (w : World) (hg : Glo w) :
    Calls Tryz.prog 24 #[] w fun e w' => e = .returned (.bool true) ∧ Below w.heap.size w w' := by
  obtain ⟨S, hS1, hS2, hS3, hS4⟩ := tw_enc
  obtain ⟨T, hT1, hT2, hT3⟩ := twH_enc
  have HTW := Lib.hid (fun W => two_any W)
  have HS1 := Lib.hid hS1
  have HS4 := Lib.hid hS4
  have HT1 := Lib.hid hT1
  have HT3 := Lib.hid hT3
  have HG0 := Lib.hid hg
  have e100 : Hid (enc two 100 = (⟨#[]⟩, 4)) := Lib.hid (enc_arg two (by decide))
  have e2 : Hid (enc two2 128 = (⟨#[]⟩, 3)) := Lib.hid (enc_form (by decide) two2_not)
  have eb : Hid (enc big 128 = (⟨#[]⟩, 8)) := Lib.hid (enc_big big_may big_size)
  clear hS1 hS4 hT1 hT3 hg
  go_enter Tryz.func24, Tryz.ntmps24
  go_wp2_with fail
  refine (HTW.out _).mono ?_
  rintro e V1 ⟨q1, hq1, rfl, hL, hb⟩
  have hz1 := hb.size
  have H1 := Lib.hid (LR.new (t := 24) (F := 1) (R := 0) (H := ⟨#[]⟩) (n := 2) (ca := 2) hL)
  have hb := hb.trans' (lbox_below 24 1 0 ⟨#[]⟩ (some ⟨q1, 0, none⟩) 2 2 V1)
  have HB := Lib.hid hb
  have HG := Lib.hid (HG0.out.on hb)
  have hq1' : q1 < V1.heap.size := by
    obtain ⟨a, ha, hlt, _⟩ := hL 0 _ rfl
    obtain rfl := Option.some.inj ha
    exact hlt
  clear hb hL
  simp only [lbox] at H1 HB HG
  go_wp2_with fail
  generalize V1.alloc (.cells #[.int .i64 1, .int .i64 0, .string ⟨#[]⟩, .slice (some ⟨q1, 0, none⟩) 2 2] 24) = D1 at *
  generalize hb1 : V1.heap.size = b1 at *
  clear hb1
  obtain ⟨a0, a1, a2, a3⟩ := H1.out.box.cells
  go_wp2_with fail
  refine (encT 1 0 ⟨#[]⟩ (some ⟨q1, 0, none⟩) tw 2 2 128 S 0 rfl HS1.out (by omega) (by decide) _ HG.out H1.out.row).mono ?_
  rintro e V ⟨rfl, hb⟩
  replace HB := Lib.hid (HB.out.trans' hb)
  replace HG := Lib.hid (HG0.out.on HB.out)
  replace H1 := Lib.hid (H1.out.on hb)
  clear hb
  clear a0 a1 a2 a3
  obtain ⟨a0, a1, a2, a3⟩ := H1.out.box.cells
  go_wp2_with fail
  refine (encT 1 0 ⟨#[]⟩ (some ⟨q1, 0, none⟩) tw 2 2 100 ⟨#[]⟩ 4 rfl e100.out (by omega) (by decide) _ HG.out H1.out.row).mono ?_
  rintro e V ⟨rfl, hb⟩
  replace HB := Lib.hid (HB.out.trans' hb)
  replace HG := Lib.hid (HG0.out.on HB.out)
  replace H1 := Lib.hid (H1.out.on hb)
  clear hb
  clear a0 a1 a2 a3
  go_wp2_with fail
  refine (HTW.out _).mono ?_
  rintro e V6 ⟨q6, hq6, rfl, hL, hb⟩
  have H6 := Lib.hid (LR.new (t := 24) (F := 1) (R := 2) (H := ⟨#[]⟩) (n := 2) (ca := 2) hL)
  have hz6 := hb.size
  have hlt1 := H1.out.box.lt
  have hb := hb.trans' (lbox_below 24 1 2 ⟨#[]⟩ (some ⟨q6, 0, none⟩) 2 2 V6)
  have hq6' : q6 < V6.heap.size := by
    obtain ⟨a, ha, hlt, _⟩ := hL 0 _ rfl
    obtain rfl := Option.some.inj ha
    exact hlt
  have hb16 : b1 < V6.heap.size := by omega
  have hq16 : q1 < V6.heap.size := by omega
  have hw6 : w.heap.size ≤ V6.heap.size := by have := HB.out.size; omega
  replace HB := Lib.hid (HB.out.trans' hb)
  replace HG := Lib.hid (HG0.out.on HB.out)
  replace H1 := Lib.hid (H1.out.on hb)
  clear hb
  clear hL
  simp only [lbox] at H1 H6 HB HG
  go_wp2_with fail
  generalize V6.alloc (.cells #[.int .i64 1, .int .i64 2, .string ⟨#[]⟩, .slice (some ⟨q6, 0, none⟩) 2 2] 24) = D6 at *
  generalize hb6 : V6.heap.size = b6 at *
  clear hb6 hz6 hz1 hlt1
  refine (encT 1 2 ⟨#[]⟩ (some ⟨q6, 0, none⟩) tw 2 2 128 ⟨#[]⟩ 3 rfl e2.out (by omega) (by decide) _ HG.out H6.out.row).mono ?_
  rintro e V ⟨rfl, hb⟩
  replace HB := Lib.hid (HB.out.trans' hb)
  replace HG := Lib.hid (HG0.out.on HB.out)
  replace H1 := Lib.hid (H1.out.on hb)
  replace H6 := Lib.hid (H6.out.on hb)
  clear hb
  obtain ⟨c0, c1, c2, c3⟩ := H6.out.box.cells
  obtain ⟨f0, f1, f2, f3⟩ := H6.out.box.free
  go_wp2_with fail
  have HB := Lib.hid (HB.out.setCell (p := ⟨b6, 2, none⟩) hw6 (.string ⟨#[97, 100]⟩))
  have HG := Lib.hid (HG0.out.on HB.out)
  have H1 := Lib.hid (show LR 24 b1 1 0 ⟨#[]⟩ (some ⟨q1, 0, none⟩) 2 2 tw (V.setCell ⟨b6, 2, none⟩ (.string ⟨#[97, 100]⟩)) from ⟨H1.out.box.other (by omega) _, by
    have h := H1.out.row.other (q := b6) (o := 2) (fun a ha => by obtain rfl := Option.some.inj ha; exact fun h => by simp only at h; omega) (.string ⟨#[97, 100]⟩)
    simpa using h⟩)
  have H6 := Lib.hid (show LR 24 b6 1 2 ⟨#[97, 100]⟩ (some ⟨q6, 0, none⟩) 2 2 tw (V.setCell ⟨b6, 2, none⟩ (.string ⟨#[97, 100]⟩)) from ⟨H6.out.box.set2 _, by
    have h := H6.out.row.other (q := b6) (o := 2) (fun a ha => by obtain rfl := Option.some.inj ha; exact fun h => by simp only at h; omega) (.string ⟨#[97, 100]⟩)
    simpa using h⟩)
  clear c0 c1 c2 c3 f0 f1 f2 f3
  generalize V.setCell ⟨b6, 2, none⟩ (.string ⟨#[97, 100]⟩) = D7 at *
  refine (encT 1 2 ⟨#[97, 100]⟩ (some ⟨q6, 0, none⟩) tw 2 2 128 T 0 rfl HT1.out (by omega) (by decide) _ HG.out H6.out.row).mono ?_
  rintro e V ⟨rfl, hb⟩
  replace HB := Lib.hid (HB.out.trans' hb)
  replace HG := Lib.hid (HG0.out.on HB.out)
  replace H1 := Lib.hid (H1.out.on hb)
  replace H6 := Lib.hid (H6.out.on hb)
  clear hb
  clear HTW HS1 HT1 e100 e2
  obtain ⟨Z, hZ⟩ : ∃ Z : ByteArray, ⟨(List.replicate 128 (0 : UInt8)).toArray⟩ = Z := ⟨_, rfl⟩
  have hZ2 : Z.size = 128 := by rw [← hZ]; decide
  have HZD : Hid (dec Z = none) := Lib.hid (by rw [← hZ]; exact zeros_dec)
  have HRZ := Lib.hid (fun W => L7.refRepeat_any 0 128 W (by decide))
  rw [hZ] at HRZ
  clear hZ
  have hgV := HG.out
  clear HG
  have HRP := Lib.hid (fun W => L7.refRepeat_any 7 30 W (by decide))
  have hSVE : (⟨(List.replicate 30 (7 : UInt8)).toArray⟩ : ByteArray) = sevens := rfl
  rw [hSVE] at HRP
  obtain ⟨SV, hSV⟩ : ∃ SV, sevens = SV := ⟨_, rfl⟩
  rw [hSV] at HRP
  clear hSVE
  obtain ⟨i0, hi, hz0, hz1, hz2⟩ := info_parts Tryz.infoItem
  go_wp2_with fail
  have HBs := Lib.hid (lbox_new 24 1 0 ⟨#[]⟩ none 0 0 V)
  have HWs := Lib.hid (lbox_below 24 1 0 ⟨#[]⟩ none 0 0 V)
  have hszs : V.heap.size + 1 ≤ (lbox 24 1 0 ⟨#[]⟩ none 0 0 V).heap.size := by rw [lbox_size]; exact Nat.le_refl _
  simp only [lbox] at HBs HWs hszs
  generalize V.alloc (.cells #[.int .i64 1, .int .i64 0, .string ⟨#[]⟩, .slice none 0 0] 24) = D8 at *
  go_loopw [12] (fun iv wr => ∃ (k : Nat) (K : Option Addr) (kc : Nat), k ≤ 9 ∧ iv = .int .i64 k ∧ Hid (LBx 24 V.heap.size 1 0 ⟨#[]⟩ K k kc wr) ∧ Hid (wr.ownsRow (V.heap.size + 1) 59 5 (.slice K k kc) k (fives (nine k))) ∧ Hid (Below V.heap.size V wr) ∧ V.heap.size + 1 ≤ wr.heap.size) (fun iv _ => 9 - (intOf iv).toNat)
  case atStart => exact ⟨0, none, 0, by omega, rfl, HBs, Lib.hid (own5_nil _ _ _), HWs, hszs⟩
  case round =>
    obtain ⟨k, K, kc, hk, rfl, HX, HO, HW, hsz⟩ := hrel
    clear HBs HWs hszs
    by_cases hlt : k < 9
    · have hlt' : (k : Int) < 9 := by omega
      obtain ⟨x, hx⟩ : ∃ x, x = UInt8.ofNat k := ⟨_, rfl⟩
      have a1 : IntKind.u8.wrap (k : Int) = (x.toNat : Int) := by
        subst hx
        rw [UInt8.toNat_ofNat_of_lt' (by show k < 256; omega)]
        exact Int.emod_eq_of_lt (by omega) (by show (k : Int) < 256; omega)
      obtain ⟨KX, hKX⟩ : ∃ KX : ByteArray, ⟨#[x]⟩ = KX := ⟨_, rfl⟩
      have HCV : Hid (∀ (V : World) (g : Nat), V.heap[g]? = some (.cells #[.int .u8 x.toNat] 5 (0, 0)) → (convert 103 9 (.slice (some ⟨g, 0, none⟩) 1 1)).run Tryz.prog V = .ok (.string KX) V) := Lib.hid (fun V g hg => by rw [← hKX]; exact L9.conv_one x hg)
      have HC : Hid (fives (nine (k + 1)) = fives (nine k) ++ [.string KX, .bool false, .string SV, .int .i64 0, .int .i64 0]) := Lib.hid (by
        rw [← hKX, hx, ← hSV, nine, List.range_succ, List.map_append, fives_append]
        rfl)
      clear hx hKX
      have HNE : Hid (∀ g, (Value.slice K k kc).ownBlock = some g → g ≠ V.heap.size) := Lib.hid (fun g hg => by have := own5_block HO.out hg; omega)
      go_wp2_with fail
      have HX := Lib.hid (show LBx 24 V.heap.size 1 0 ⟨#[]⟩ K k kc wr.drew from HX.out)
      have HO := Lib.hid HO.out.drew
      have HW := Lib.hid (drew_below HW.out)
      have hsz : V.heap.size + 1 ≤ wr.drew.heap.size := hsz
      refine wp_region_held_drew (S := fun _ => True) (by kernel_rfl) trivial (fun hHeld => ?_)
      generalize wr.drew = D at *
      refine take_op' (i := 0) (d := some 61) (v := ?_) rfl rfl (by kernel_rfl) (by kernel_rfl) (by kernel_rfl) (fun _ _ _ h => h) (Or.inl ⟨by kernel_rfl, ?_⟩) trivial ?_
      rotate_left
      · intro W hSw; clear hSw; go_simp; (try rw [a1]); (first | done | with_reducible rfl)
      try simp only [Act.put, List.setIfInBounds_toArray, List.set_cons_zero, List.set_cons_succ]
      refine take_op' (i := 2) (d := some 63) (v := ?_) rfl rfl (by kernel_rfl) (by kernel_rfl) (by kernel_rfl) (fun _ _ _ h => h) (Or.inl ⟨by kernel_rfl, ?_⟩) trivial ?_
      rotate_left
      · intro W hSw; clear hSw; go_simp; (try rw [a1]); (first | done | with_reducible rfl)
      try simp only [Act.put, List.setIfInBounds_toArray, List.set_cons_zero, List.set_cons_succ]
      refine take_op' (i := 3) (d := some 64) (v := ?_) rfl rfl (by kernel_rfl) (by kernel_rfl) (by kernel_rfl) (fun _ _ _ h => h) (Or.inl ⟨by kernel_rfl, ?_⟩) trivial ?_
      rotate_left
      · intro W hSw; clear hSw; go_simp; (try rw [a1]); (first | done | with_reducible rfl)
      try simp only [Act.put, List.setIfInBounds_toArray, List.set_cons_zero, List.set_cons_succ]
      revert HX HO HW hsz
      apply share2 (A := fun g1 q W => Hid (LBx 24 V.heap.size 1 0 ⟨#[]⟩ K k kc W) ∧ Hid (W.ownsRow (V.heap.size + 1) 59 5 (.slice K k kc) k (fives (nine k))) ∧ Hid (Below V.heap.size V W) ∧ V.heap.size + 1 ≤ W.heap.size ∧ W.heap[q]? = some (.cells #[.string KX, .bool false, .string SV, .int .i64 0, .int .i64 0] 59) ∧ W.heap.size = q + 1)
      intro T11111
      apply share1 (A := fun g1 W => Hid (LBx 24 V.heap.size 1 0 ⟨#[]⟩ K k kc W) ∧ Hid (W.ownsRow (V.heap.size + 1) 59 5 (.slice K k kc) k (fives (nine k))) ∧ Hid (Below V.heap.size V W) ∧ V.heap.size + 1 ≤ W.heap.size)
      intro T11110
      apply share2 (A := fun g1 q W => Hid (LBx 24 V.heap.size 1 0 ⟨#[]⟩ K k kc W) ∧ Hid (W.ownsRow (V.heap.size + 1) 59 5 (.slice K k kc) k (fives (nine k))) ∧ Hid (Below V.heap.size V W) ∧ V.heap.size + 1 ≤ W.heap.size ∧ W.heap[q]? = some (.cells #[.string KX, .bool false, .string SV, .int .i64 0, .int .i64 0] 59) ∧ W.heap.size = q + 1)
      intro T01111
      apply share1 (A := fun g1 W => Hid (LBx 24 V.heap.size 1 0 ⟨#[]⟩ K k kc W) ∧ Hid (W.ownsRow (V.heap.size + 1) 59 5 (.slice K k kc) k (fives (nine k))) ∧ Hid (Below V.heap.size V W) ∧ V.heap.size + 1 ≤ W.heap.size)
      intro T11100
      apply share1 (A := fun g1 W => Hid (LBx 24 V.heap.size 1 0 ⟨#[]⟩ K k kc W) ∧ Hid (W.ownsRow (V.heap.size + 1) 59 5 (.slice K k kc) k (fives (nine k))) ∧ Hid (Below V.heap.size V W) ∧ V.heap.size + 1 ≤ W.heap.size ∧ W.heap[g1]? = some (.cells #[.int .u8 x.toNat] 5) ∧ g1 < W.heap.size)
      intro T11010
      apply share1 (A := fun g1 W => Hid (LBx 24 V.heap.size 1 0 ⟨#[]⟩ K k kc W) ∧ Hid (W.ownsRow (V.heap.size + 1) 59 5 (.slice K k kc) k (fives (nine k))) ∧ Hid (Below V.heap.size V W) ∧ V.heap.size + 1 ≤ W.heap.size)
      intro T01110
      apply share1 (A := fun g1 W => Hid (LBx 24 V.heap.size 1 0 ⟨#[]⟩ K k kc W) ∧ Hid (W.ownsRow (V.heap.size + 1) 59 5 (.slice K k kc) k (fives (nine k))) ∧ Hid (Below V.heap.size V W) ∧ V.heap.size + 1 ≤ W.heap.size ∧ W.heap[g1]? = some (.cells #[.int .u8 x.toNat] 5) ∧ g1 < W.heap.size)
      intro T11000
      apply share0 (A := fun  W => Hid (LBx 24 V.heap.size 1 0 ⟨#[]⟩ K k kc W) ∧ Hid (W.ownsRow (V.heap.size + 1) 59 5 (.slice K k kc) k (fives (nine k))) ∧ Hid (Below V.heap.size V W) ∧ V.heap.size + 1 ≤ W.heap.size)
      intro T10010
      apply share1 (A := fun g1 W => Hid (LBx 24 V.heap.size 1 0 ⟨#[]⟩ K k kc W) ∧ Hid (W.ownsRow (V.heap.size + 1) 59 5 (.slice K k kc) k (fives (nine k))) ∧ Hid (Below V.heap.size V W) ∧ V.heap.size + 1 ≤ W.heap.size)
      intro T01100
      apply share1 (A := fun g1 W => Hid (LBx 24 V.heap.size 1 0 ⟨#[]⟩ K k kc W) ∧ Hid (W.ownsRow (V.heap.size + 1) 59 5 (.slice K k kc) k (fives (nine k))) ∧ Hid (Below V.heap.size V W) ∧ V.heap.size + 1 ≤ W.heap.size ∧ W.heap[g1]? = some (.cells #[.int .u8 x.toNat] 5) ∧ g1 < W.heap.size)
      intro T01010
      apply share0 (A := fun  W => Hid (LBx 24 V.heap.size 1 0 ⟨#[]⟩ K k kc W) ∧ Hid (W.ownsRow (V.heap.size + 1) 59 5 (.slice K k kc) k (fives (nine k))) ∧ Hid (Below V.heap.size V W) ∧ V.heap.size + 1 ≤ W.heap.size)
      intro T10000
      apply share1 (A := fun g1 W => Hid (LBx 24 V.heap.size 1 0 ⟨#[]⟩ K k kc W) ∧ Hid (W.ownsRow (V.heap.size + 1) 59 5 (.slice K k kc) k (fives (nine k))) ∧ Hid (Below V.heap.size V W) ∧ V.heap.size + 1 ≤ W.heap.size ∧ W.heap[g1]? = some (.cells #[.int .u8 x.toNat] 5) ∧ g1 < W.heap.size)
      intro T01000
      apply share0 (A := fun  W => Hid (LBx 24 V.heap.size 1 0 ⟨#[]⟩ K k kc W) ∧ Hid (W.ownsRow (V.heap.size + 1) 59 5 (.slice K k kc) k (fives (nine k))) ∧ Hid (Below V.heap.size V W) ∧ V.heap.size + 1 ≤ W.heap.size)
      intro T00010
      · intro HX HO HW hsz
        refine wpAnyH_ready (rs := [1, 4, 6]) (by kernel_rfl) (by simp) (AllReadyH.cons rfl (fun QQ hK => ?_) (AllReadyH.cons rfl (fun QQ hK => ?_) (AllReadyH.cons rfl (fun QQ hK => ?_) AllReadyH.nil)))
        · have qq := HX.out.cells.2.2.2
          go_simp
          refine hK.out _ _ trivial (fun _ => ?_)
          clear qq hK
          try simp only [Act.put, List.setIfInBounds_toArray, List.set_cons_zero, List.set_cons_succ]
          exact T10000  D ⟨HX, HO, HW, hsz⟩
        · go_simp
          have hb := L5.below_alloc D (.cells #[.int .u8 x.toNat] 5)
          have h1 := heap_alloc_new D (.cells #[.int .u8 x.toNat] 5)
          have hq1 : D.heap.size < (D.alloc (.cells #[.int .u8 x.toNat] 5)).heap.size := by simp
          replace HX := Lib.hid (HX.out.below hb)
          replace HO := Lib.hid (own5_below HO.out hb)
          replace HW := Lib.hid (HW.out.trans (hb.mono (by omega)))
          have hs2 := hb.size
          replace hsz : V.heap.size + 1 ≤ (D.alloc (.cells #[.int .u8 x.toNat] 5)).heap.size := by omega
          refine hK.out _ _ trivial (fun _ => ?_)
          clear hK hb hs2
          generalize D.alloc (.cells #[.int .u8 x.toNat] 5) = U at *
          generalize D.heap.size = g1 at *
          try simp only [Act.put, List.setIfInBounds_toArray, List.set_cons_zero, List.set_cons_succ]
          exact T01000 g1 U ⟨HX, HO, HW, hsz, h1, hq1⟩
        · go_simp
          refine (HRP.out _).mono ?_
          rintro e Y ⟨rfl, hb⟩
          go_wp2_with fail
          replace HX := Lib.hid (HX.out.below hb)
          replace HO := Lib.hid (own5_below HO.out hb)
          replace HW := Lib.hid (HW.out.trans (hb.mono (by omega)))
          have hs2 := hb.size
          replace hsz : V.heap.size + 1 ≤ Y.heap.size := by omega
          refine hK.out _ _ trivial (fun _ => ?_)
          clear hK hb hs2
          try simp only [Act.put, List.setIfInBounds_toArray, List.set_cons_zero, List.set_cons_succ]
          refine take_op' (i := 7) (d := some 68) (v := ?_) rfl rfl (by kernel_rfl) (by kernel_rfl) (by kernel_rfl) (fun _ _ _ h => h) (Or.inl ⟨by kernel_rfl, ?_⟩) trivial ?_
          rotate_left
          · intro W hSw; clear hSw; go_simp; (try rw [a1]); (first | done | with_reducible rfl)
          try simp only [Act.put, List.setIfInBounds_toArray, List.set_cons_zero, List.set_cons_succ]
          exact T00010  Y ⟨HX, HO, HW, hsz⟩
      · rintro  W0 ⟨HX, HO, HW, hsz⟩
        refine wpAnyH_ready (rs := [1, 4]) (by kernel_rfl) (by simp) (AllReadyH.cons rfl (fun QQ hK => ?_) (AllReadyH.cons rfl (fun QQ hK => ?_) AllReadyH.nil))
        · have qq := HX.out.cells.2.2.2
          go_simp
          refine hK.out _ _ trivial (fun _ => ?_)
          clear qq hK
          try simp only [Act.put, List.setIfInBounds_toArray, List.set_cons_zero, List.set_cons_succ]
          exact T10010  W0 ⟨HX, HO, HW, hsz⟩
        · go_simp
          have hb := L5.below_alloc W0 (.cells #[.int .u8 x.toNat] 5)
          have h1 := heap_alloc_new W0 (.cells #[.int .u8 x.toNat] 5)
          have hq1 : W0.heap.size < (W0.alloc (.cells #[.int .u8 x.toNat] 5)).heap.size := by simp
          replace HX := Lib.hid (HX.out.below hb)
          replace HO := Lib.hid (own5_below HO.out hb)
          replace HW := Lib.hid (HW.out.trans (hb.mono (by omega)))
          have hs2 := hb.size
          replace hsz : V.heap.size + 1 ≤ (W0.alloc (.cells #[.int .u8 x.toNat] 5)).heap.size := by omega
          refine hK.out _ _ trivial (fun _ => ?_)
          clear hK hb hs2
          generalize W0.alloc (.cells #[.int .u8 x.toNat] 5) = U at *
          generalize W0.heap.size = g1 at *
          try simp only [Act.put, List.setIfInBounds_toArray, List.set_cons_zero, List.set_cons_succ]
          exact T01010 g1 U ⟨HX, HO, HW, hsz, h1, hq1⟩
      · rintro g1 W0 ⟨HX, HO, HW, hsz, h1, hq1⟩
        refine wpAnyH_ready (rs := [1, 5, 6]) (by kernel_rfl) (by simp) (AllReadyH.cons rfl (fun QQ hK => ?_) (AllReadyH.cons rfl (fun QQ hK => ?_) (AllReadyH.cons rfl (fun QQ hK => ?_) AllReadyH.nil)))
        · have qq := HX.out.cells.2.2.2
          go_simp
          refine hK.out _ _ trivial (fun _ => ?_)
          clear qq hK
          try simp only [Act.put, List.setIfInBounds_toArray, List.set_cons_zero, List.set_cons_succ]
          exact T11000 g1 W0 ⟨HX, HO, HW, hsz, h1, hq1⟩
        · have hcv := HCV.out _ _ h1
          go_simp
          refine hK.out _ _ trivial (fun _ => ?_)
          clear hK hcv h1 hq1
          try simp only [Act.put, List.setIfInBounds_toArray, List.set_cons_zero, List.set_cons_succ]
          exact T01100 g1 W0 ⟨HX, HO, HW, hsz⟩
        · go_simp
          refine (HRP.out _).mono ?_
          rintro e Y ⟨rfl, hb⟩
          go_wp2_with fail
          have h1 := (hb.block _ hq1).trans h1
          have hq1 := Nat.lt_of_lt_of_le hq1 hb.size
          replace HX := Lib.hid (HX.out.below hb)
          replace HO := Lib.hid (own5_below HO.out hb)
          replace HW := Lib.hid (HW.out.trans (hb.mono (by omega)))
          have hs2 := hb.size
          replace hsz : V.heap.size + 1 ≤ Y.heap.size := by omega
          refine hK.out _ _ trivial (fun _ => ?_)
          clear hK hb hs2
          try simp only [Act.put, List.setIfInBounds_toArray, List.set_cons_zero, List.set_cons_succ]
          refine take_op' (i := 7) (d := some 68) (v := ?_) rfl rfl (by kernel_rfl) (by kernel_rfl) (by kernel_rfl) (fun _ _ _ h => h) (Or.inl ⟨by kernel_rfl, ?_⟩) trivial ?_
          rotate_left
          · intro W hSw; clear hSw; go_simp; (try rw [a1]); (first | done | with_reducible rfl)
          try simp only [Act.put, List.setIfInBounds_toArray, List.set_cons_zero, List.set_cons_succ]
          exact T01010 g1 Y ⟨HX, HO, HW, hsz, h1, hq1⟩
      · rintro  W0 ⟨HX, HO, HW, hsz⟩
        refine wpAnyH_ready (rs := [4, 6]) (by kernel_rfl) (by simp) (AllReadyH.cons rfl (fun QQ hK => ?_) (AllReadyH.cons rfl (fun QQ hK => ?_) AllReadyH.nil))
        · go_simp
          have hb := L5.below_alloc W0 (.cells #[.int .u8 x.toNat] 5)
          have h1 := heap_alloc_new W0 (.cells #[.int .u8 x.toNat] 5)
          have hq1 : W0.heap.size < (W0.alloc (.cells #[.int .u8 x.toNat] 5)).heap.size := by simp
          replace HX := Lib.hid (HX.out.below hb)
          replace HO := Lib.hid (own5_below HO.out hb)
          replace HW := Lib.hid (HW.out.trans (hb.mono (by omega)))
          have hs2 := hb.size
          replace hsz : V.heap.size + 1 ≤ (W0.alloc (.cells #[.int .u8 x.toNat] 5)).heap.size := by omega
          refine hK.out _ _ trivial (fun _ => ?_)
          clear hK hb hs2
          generalize W0.alloc (.cells #[.int .u8 x.toNat] 5) = U at *
          generalize W0.heap.size = g1 at *
          try simp only [Act.put, List.setIfInBounds_toArray, List.set_cons_zero, List.set_cons_succ]
          exact T11000 g1 U ⟨HX, HO, HW, hsz, h1, hq1⟩
        · go_simp
          refine (HRP.out _).mono ?_
          rintro e Y ⟨rfl, hb⟩
          go_wp2_with fail
          replace HX := Lib.hid (HX.out.below hb)
          replace HO := Lib.hid (own5_below HO.out hb)
          replace HW := Lib.hid (HW.out.trans (hb.mono (by omega)))
          have hs2 := hb.size
          replace hsz : V.heap.size + 1 ≤ Y.heap.size := by omega
          refine hK.out _ _ trivial (fun _ => ?_)
          clear hK hb hs2
          try simp only [Act.put, List.setIfInBounds_toArray, List.set_cons_zero, List.set_cons_succ]
          refine take_op' (i := 7) (d := some 68) (v := ?_) rfl rfl (by kernel_rfl) (by kernel_rfl) (by kernel_rfl) (fun _ _ _ h => h) (Or.inl ⟨by kernel_rfl, ?_⟩) trivial ?_
          rotate_left
          · intro W hSw; clear hSw; go_simp; (try rw [a1]); (first | done | with_reducible rfl)
          try simp only [Act.put, List.setIfInBounds_toArray, List.set_cons_zero, List.set_cons_succ]
          exact T10010  Y ⟨HX, HO, HW, hsz⟩
      · rintro g1 W0 ⟨HX, HO, HW, hsz, h1, hq1⟩
        refine wpAnyH_ready (rs := [1, 5]) (by kernel_rfl) (by simp) (AllReadyH.cons rfl (fun QQ hK => ?_) (AllReadyH.cons rfl (fun QQ hK => ?_) AllReadyH.nil))
        · have qq := HX.out.cells.2.2.2
          go_simp
          refine hK.out _ _ trivial (fun _ => ?_)
          clear qq hK
          try simp only [Act.put, List.setIfInBounds_toArray, List.set_cons_zero, List.set_cons_succ]
          exact T11010 g1 W0 ⟨HX, HO, HW, hsz, h1, hq1⟩
        · have hcv := HCV.out _ _ h1
          go_simp
          refine hK.out _ _ trivial (fun _ => ?_)
          clear hK hcv h1 hq1
          try simp only [Act.put, List.setIfInBounds_toArray, List.set_cons_zero, List.set_cons_succ]
          refine take_op' (i := 8) (d := some 69) (v := ?_) rfl rfl (by kernel_rfl) (by kernel_rfl) (by kernel_rfl) (fun _ _ _ h => h) (Or.inl ⟨by kernel_rfl, ?_⟩) trivial ?_
          rotate_left
          · intro W hSw; clear hSw; go_simp; (try rw [a1]); (first | done | with_reducible rfl)
          try simp only [Act.put, List.setIfInBounds_toArray, List.set_cons_zero, List.set_cons_succ]
          exact T01110 g1 W0 ⟨HX, HO, HW, hsz⟩
      · rintro g1 W0 ⟨HX, HO, HW, hsz⟩
        refine wpAnyH_ready (rs := [1, 6]) (by kernel_rfl) (by simp) (AllReadyH.cons rfl (fun QQ hK => ?_) (AllReadyH.cons rfl (fun QQ hK => ?_) AllReadyH.nil))
        · have qq := HX.out.cells.2.2.2
          go_simp
          refine hK.out _ _ trivial (fun _ => ?_)
          clear qq hK
          try simp only [Act.put, List.setIfInBounds_toArray, List.set_cons_zero, List.set_cons_succ]
          exact T11100 g1 W0 ⟨HX, HO, HW, hsz⟩
        · go_simp
          refine (HRP.out _).mono ?_
          rintro e Y ⟨rfl, hb⟩
          go_wp2_with fail
          replace HX := Lib.hid (HX.out.below hb)
          replace HO := Lib.hid (own5_below HO.out hb)
          replace HW := Lib.hid (HW.out.trans (hb.mono (by omega)))
          have hs2 := hb.size
          replace hsz : V.heap.size + 1 ≤ Y.heap.size := by omega
          refine hK.out _ _ trivial (fun _ => ?_)
          clear hK hb hs2
          try simp only [Act.put, List.setIfInBounds_toArray, List.set_cons_zero, List.set_cons_succ]
          refine take_op' (i := 7) (d := some 68) (v := ?_) rfl rfl (by kernel_rfl) (by kernel_rfl) (by kernel_rfl) (fun _ _ _ h => h) (Or.inl ⟨by kernel_rfl, ?_⟩) trivial ?_
          rotate_left
          · intro W hSw; clear hSw; go_simp; (try rw [a1]); (first | done | with_reducible rfl)
          try simp only [Act.put, List.setIfInBounds_toArray, List.set_cons_zero, List.set_cons_succ]
          refine take_op' (i := 8) (d := some 69) (v := ?_) rfl rfl (by kernel_rfl) (by kernel_rfl) (by kernel_rfl) (fun _ _ _ h => h) (Or.inl ⟨by kernel_rfl, ?_⟩) trivial ?_
          rotate_left
          · intro W hSw; clear hSw; go_simp; (try rw [a1]); (first | done | with_reducible rfl)
          try simp only [Act.put, List.setIfInBounds_toArray, List.set_cons_zero, List.set_cons_succ]
          exact T01110 g1 Y ⟨HX, HO, HW, hsz⟩
      · rintro  W0 ⟨HX, HO, HW, hsz⟩
        refine wpAnyH_ready (rs := [4]) (by kernel_rfl) (by simp) (AllReadyH.cons rfl (fun QQ hK => ?_) AllReadyH.nil)
        · go_simp
          have hb := L5.below_alloc W0 (.cells #[.int .u8 x.toNat] 5)
          have h1 := heap_alloc_new W0 (.cells #[.int .u8 x.toNat] 5)
          have hq1 : W0.heap.size < (W0.alloc (.cells #[.int .u8 x.toNat] 5)).heap.size := by simp
          replace HX := Lib.hid (HX.out.below hb)
          replace HO := Lib.hid (own5_below HO.out hb)
          replace HW := Lib.hid (HW.out.trans (hb.mono (by omega)))
          have hs2 := hb.size
          replace hsz : V.heap.size + 1 ≤ (W0.alloc (.cells #[.int .u8 x.toNat] 5)).heap.size := by omega
          refine hK.out _ _ trivial (fun _ => ?_)
          clear hK hb hs2
          generalize W0.alloc (.cells #[.int .u8 x.toNat] 5) = U at *
          generalize W0.heap.size = g1 at *
          try simp only [Act.put, List.setIfInBounds_toArray, List.set_cons_zero, List.set_cons_succ]
          exact T11010 g1 U ⟨HX, HO, HW, hsz, h1, hq1⟩
      · rintro g1 W0 ⟨HX, HO, HW, hsz, h1, hq1⟩
        refine wpAnyH_ready (rs := [5, 6]) (by kernel_rfl) (by simp) (AllReadyH.cons rfl (fun QQ hK => ?_) (AllReadyH.cons rfl (fun QQ hK => ?_) AllReadyH.nil))
        · have hcv := HCV.out _ _ h1
          go_simp
          refine hK.out _ _ trivial (fun _ => ?_)
          clear hK hcv h1 hq1
          try simp only [Act.put, List.setIfInBounds_toArray, List.set_cons_zero, List.set_cons_succ]
          exact T11100 g1 W0 ⟨HX, HO, HW, hsz⟩
        · go_simp
          refine (HRP.out _).mono ?_
          rintro e Y ⟨rfl, hb⟩
          go_wp2_with fail
          have h1 := (hb.block _ hq1).trans h1
          have hq1 := Nat.lt_of_lt_of_le hq1 hb.size
          replace HX := Lib.hid (HX.out.below hb)
          replace HO := Lib.hid (own5_below HO.out hb)
          replace HW := Lib.hid (HW.out.trans (hb.mono (by omega)))
          have hs2 := hb.size
          replace hsz : V.heap.size + 1 ≤ Y.heap.size := by omega
          refine hK.out _ _ trivial (fun _ => ?_)
          clear hK hb hs2
          try simp only [Act.put, List.setIfInBounds_toArray, List.set_cons_zero, List.set_cons_succ]
          refine take_op' (i := 7) (d := some 68) (v := ?_) rfl rfl (by kernel_rfl) (by kernel_rfl) (by kernel_rfl) (fun _ _ _ h => h) (Or.inl ⟨by kernel_rfl, ?_⟩) trivial ?_
          rotate_left
          · intro W hSw; clear hSw; go_simp; (try rw [a1]); (first | done | with_reducible rfl)
          try simp only [Act.put, List.setIfInBounds_toArray, List.set_cons_zero, List.set_cons_succ]
          exact T11010 g1 Y ⟨HX, HO, HW, hsz, h1, hq1⟩
      · rintro g1 W0 ⟨HX, HO, HW, hsz⟩
        refine wpAnyH_ready (rs := [1, 9]) (by kernel_rfl) (by simp) (AllReadyH.cons rfl (fun QQ hK => ?_) (AllReadyH.cons rfl (fun QQ hK => ?_) AllReadyH.nil))
        · have qq := HX.out.cells.2.2.2
          go_simp
          refine hK.out _ _ trivial (fun _ => ?_)
          clear qq hK
          try simp only [Act.put, List.setIfInBounds_toArray, List.set_cons_zero, List.set_cons_succ]
          exact T11110 g1 W0 ⟨HX, HO, HW, hsz⟩
        · go_simp
          have hb := L5.below_alloc W0 (.cells #[.string KX, .bool false, .string SV, .int .i64 0, .int .i64 0] 59)
          have hblk := heap_alloc_new W0 (.cells #[.string KX, .bool false, .string SV, .int .i64 0, .int .i64 0] 59)
          have hq : (W0.alloc (.cells #[.string KX, .bool false, .string SV, .int .i64 0, .int .i64 0] 59)).heap.size = W0.heap.size + 1 := by simp
          replace HX := Lib.hid (HX.out.below hb)
          replace HO := Lib.hid (own5_below HO.out hb)
          replace HW := Lib.hid (HW.out.trans (hb.mono (by omega)))
          have hs2 := hb.size
          replace hsz : V.heap.size + 1 ≤ (W0.alloc (.cells #[.string KX, .bool false, .string SV, .int .i64 0, .int .i64 0] 59)).heap.size := by omega
          refine hK.out _ _ trivial (fun _ => ?_)
          clear hK hb hs2
          generalize W0.alloc (.cells #[.string KX, .bool false, .string SV, .int .i64 0, .int .i64 0] 59) = V3 at *
          generalize W0.heap.size = q at *
          try simp only [Act.put, List.setIfInBounds_toArray, List.set_cons_zero, List.set_cons_succ]
          exact T01111 g1 q V3 ⟨HX, HO, HW, hsz, hblk, hq⟩
      · rintro g1 W0 ⟨HX, HO, HW, hsz, h1, hq1⟩
        refine wpAnyH_ready (rs := [5]) (by kernel_rfl) (by simp) (AllReadyH.cons rfl (fun QQ hK => ?_) AllReadyH.nil)
        · have hcv := HCV.out _ _ h1
          go_simp
          refine hK.out _ _ trivial (fun _ => ?_)
          clear hK hcv h1 hq1
          try simp only [Act.put, List.setIfInBounds_toArray, List.set_cons_zero, List.set_cons_succ]
          refine take_op' (i := 8) (d := some 69) (v := ?_) rfl rfl (by kernel_rfl) (by kernel_rfl) (by kernel_rfl) (fun _ _ _ h => h) (Or.inl ⟨by kernel_rfl, ?_⟩) trivial ?_
          rotate_left
          · intro W hSw; clear hSw; go_simp; (try rw [a1]); (first | done | with_reducible rfl)
          try simp only [Act.put, List.setIfInBounds_toArray, List.set_cons_zero, List.set_cons_succ]
          exact T11110 g1 W0 ⟨HX, HO, HW, hsz⟩
      · rintro g1 W0 ⟨HX, HO, HW, hsz⟩
        refine wpAnyH_ready (rs := [6]) (by kernel_rfl) (by simp) (AllReadyH.cons rfl (fun QQ hK => ?_) AllReadyH.nil)
        · go_simp
          refine (HRP.out _).mono ?_
          rintro e Y ⟨rfl, hb⟩
          go_wp2_with fail
          replace HX := Lib.hid (HX.out.below hb)
          replace HO := Lib.hid (own5_below HO.out hb)
          replace HW := Lib.hid (HW.out.trans (hb.mono (by omega)))
          have hs2 := hb.size
          replace hsz : V.heap.size + 1 ≤ Y.heap.size := by omega
          refine hK.out _ _ trivial (fun _ => ?_)
          clear hK hb hs2
          try simp only [Act.put, List.setIfInBounds_toArray, List.set_cons_zero, List.set_cons_succ]
          refine take_op' (i := 7) (d := some 68) (v := ?_) rfl rfl (by kernel_rfl) (by kernel_rfl) (by kernel_rfl) (fun _ _ _ h => h) (Or.inl ⟨by kernel_rfl, ?_⟩) trivial ?_
          rotate_left
          · intro W hSw; clear hSw; go_simp; (try rw [a1]); (first | done | with_reducible rfl)
          try simp only [Act.put, List.setIfInBounds_toArray, List.set_cons_zero, List.set_cons_succ]
          refine take_op' (i := 8) (d := some 69) (v := ?_) rfl rfl (by kernel_rfl) (by kernel_rfl) (by kernel_rfl) (fun _ _ _ h => h) (Or.inl ⟨by kernel_rfl, ?_⟩) trivial ?_
          rotate_left
          · intro W hSw; clear hSw; go_simp; (try rw [a1]); (first | done | with_reducible rfl)
          try simp only [Act.put, List.setIfInBounds_toArray, List.set_cons_zero, List.set_cons_succ]
          exact T11110 g1 Y ⟨HX, HO, HW, hsz⟩
      · rintro g1 q W0 ⟨HX, HO, HW, hsz, hblk, hq⟩
        refine wpAnyH_ready (rs := [1]) (by kernel_rfl) (by simp) (AllReadyH.cons rfl (fun QQ hK => ?_) AllReadyH.nil)
        · have qq := HX.out.cells.2.2.2
          go_simp
          refine hK.out _ _ trivial (fun _ => ?_)
          clear qq hK
          try simp only [Act.put, List.setIfInBounds_toArray, List.set_cons_zero, List.set_cons_succ]
          exact T11111 g1 q W0 ⟨HX, HO, HW, hsz, hblk, hq⟩
      · rintro g1 W0 ⟨HX, HO, HW, hsz⟩
        refine wpAnyH_ready (rs := [9]) (by kernel_rfl) (by simp) (AllReadyH.cons rfl (fun QQ hK => ?_) AllReadyH.nil)
        · go_simp
          have hb := L5.below_alloc W0 (.cells #[.string KX, .bool false, .string SV, .int .i64 0, .int .i64 0] 59)
          have hblk := heap_alloc_new W0 (.cells #[.string KX, .bool false, .string SV, .int .i64 0, .int .i64 0] 59)
          have hq : (W0.alloc (.cells #[.string KX, .bool false, .string SV, .int .i64 0, .int .i64 0] 59)).heap.size = W0.heap.size + 1 := by simp
          replace HX := Lib.hid (HX.out.below hb)
          replace HO := Lib.hid (own5_below HO.out hb)
          replace HW := Lib.hid (HW.out.trans (hb.mono (by omega)))
          have hs2 := hb.size
          replace hsz : V.heap.size + 1 ≤ (W0.alloc (.cells #[.string KX, .bool false, .string SV, .int .i64 0, .int .i64 0] 59)).heap.size := by omega
          refine hK.out _ _ trivial (fun _ => ?_)
          clear hK hb hs2
          generalize W0.alloc (.cells #[.string KX, .bool false, .string SV, .int .i64 0, .int .i64 0] 59) = V3 at *
          generalize W0.heap.size = q at *
          try simp only [Act.put, List.setIfInBounds_toArray, List.set_cons_zero, List.set_cons_succ]
          exact T11111 g1 q V3 ⟨HX, HO, HW, hsz, hblk, hq⟩
      · rintro g1 q W0 ⟨HX, HO, HW, hsz, hblk, hq⟩
        refine wpAnyH_ready (rs := [10]) (by kernel_rfl) (by simp) (AllReadyH.cons rfl (fun QQ hK => ?_) AllReadyH.nil)
        · refine step_append_lies _ (by rfl) _ _ _ (by rfl) (V.heap.size + 1) 59 i0 (.agg #[.string ⟨#[]⟩, .bool false, .string ⟨#[]⟩, .int .i64 0, .int .i64 0]) 5 56 Tryz.underlying22 hi hz0 hz1 hz2 rfl (by decide) (.slice K k kc) k _ (by rfl) HO.out ⟨q, 0, none⟩ 1 1 [.string KX, .bool false, .string SV, .int .i64 0, .int .i64 0] (by rfl) (by rfl) (World.news_of_block (cs := #[.string KX, .bool false, .string SV, .int .i64 0, .int .i64 0]) (t := 59) (fr := (0, 0)) hblk) (five_one _ _ _ _ _) (by omega) (by unfold maxLen; omega) (by omega) (by omega) W0.heap.size rfl ?_
          intro g' cap' w3 hown3 hgrow3 hat3 hlt3
          have hbA := own5_apart (q := V.heap.size) HO.out hgrow3 (by omega) (by omega)
          have HX := Lib.hid (show LBx 24 V.heap.size 1 0 ⟨#[]⟩ K k kc w3 from (hgrow3.block V.heap.size (by omega) (fun e => HNE.out _ e.symm rfl)).trans HX.out)
          have HW := Lib.hid (HW.out.trans hbA)
          have hs3 := hgrow3.size
          refine hK.out _ _ trivial (fun _ => ?_)
          clear hK hat3 hlt3 hgrow3 hbA
          try simp only [Act.put, List.setIfInBounds_toArray, List.set_cons_zero, List.set_cons_succ]
          refine take_op' (i := 11) (d := some 72) (v := ?_) rfl rfl (by kernel_rfl) (by kernel_rfl) (by kernel_rfl) (fun _ _ _ h => h) (Or.inl ⟨by kernel_rfl, ?_⟩) trivial ?_
          rotate_left
          · intro W hSw; clear hSw; go_simp; (try rw [a1]); (first | done | with_reducible rfl)
          try simp only [Act.put, List.setIfInBounds_toArray, List.set_cons_zero, List.set_cons_succ]
          refine wpAnyH_ready (rs := [12]) (by kernel_rfl) (by simp) (AllReadyH.cons rfl (fun QQ hK => ?_) AllReadyH.nil)
          have E6 := HX.out.cells.2.2.2
          have F6 := HX.out.free.2.2.2
          go_simp
          have HW := Lib.hid (HW.out.setCell (p := ⟨V.heap.size, 3, none⟩) (Nat.le_refl _) (.slice (some ⟨g', 0, none⟩) (k + 1) cap'))
          refine hK.out _ _ trivial (fun _ => ?_)
          clear hK E6 F6
          try simp only [Act.put, List.setIfInBounds_toArray, List.set_cons_zero, List.set_cons_succ]
          refine wpAnyH_done (by kernel_rfl) ?_ _
          have HO := Lib.hid (show (w3.setCell ⟨V.heap.size, 3, none⟩ (.slice (some ⟨g', 0, none⟩) (k + 1) cap')).ownsRow (V.heap.size + 1) 59 5 (.slice (some ⟨g', 0, none⟩) (k + 1) cap') (k + 1) (fives (nine (k + 1))) from own5_set (by rw [HC.out]; exact hown3) (by omega))
          have HX := Lib.hid (HX.out.set3 (some ⟨g', 0, none⟩) (k + 1) cap')
          have hsz : V.heap.size + 1 ≤ (w3.setCell ⟨V.heap.size, 3, none⟩ (.slice (some ⟨g', 0, none⟩) (k + 1) cap')).heap.size := by simp; omega
          clear hown3 hs3
          go_wp2_with fail
          refine ⟨⟨k + 1, some ⟨g', 0, none⟩, cap', by omega, by simp, HX, HO, HW, hsz⟩, ?_⟩
          clear HX HO HW hsz HNE hHeld
          simp only [intOf]
          omega
    · obtain rfl : k = 9 := by omega
      have hlt' : ¬ (((9 : Nat) : Int) < 9) := by omega
      have hrow := lies5_own HO.out rfl
      have H8 := Lib.hid (show LR 24 V.heap.size 1 0 ⟨#[]⟩ K 9 kc (nine 9) wr from ⟨HX.out, hrow⟩)
      have hb := HW.out
      replace HB := Lib.hid (HB.out.trans' hb)
      replace HG := Lib.hid (HG0.out.on HB.out)
      replace H1 := Lib.hid (H1.out.on hb)
      replace H6 := Lib.hid (H6.out.on hb)
      clear hb hrow HX HO HW HRP hi hz0 hz1 hz2 hsz hgV hSV
      generalize V.heap.size = b8 at *
      obtain ⟨a0, a1, a2, a3⟩ := H8.out.box.cells
      go_wp2_with fail
      refine (encT 1 0 ⟨#[]⟩ K (nine 9) 9 kc 128 ⟨#[]⟩ 8 rfl eb.out (by decide) (by decide) _ HG.out H8.out.row).mono ?_
      rintro e V8 ⟨rfl, hb⟩
      replace HB := Lib.hid (HB.out.trans' hb)
      replace HG := Lib.hid (HG0.out.on HB.out)
      replace H1 := Lib.hid (H1.out.on hb)
      replace H6 := Lib.hid (H6.out.on hb)
      clear hb H8 a0 a1 a2 a3 eb
      go_wp2_with fail
      refine (decT S 1 0 ⟨#[]⟩ tw 2 rfl HS4.out _ HG.out (by rw [hS2]; decide)).mono ?_
      rintro e V15 ⟨G15, rfl, hL, hb⟩
      have H15 := Lib.hid (LR.new (t := 24) (F := 1) (R := 0) (H := ⟨#[]⟩) (n := 2) (ca := 2) hL)
      have hb := hb.trans' (lbox_below 24 1 0 ⟨#[]⟩ G15 2 2 V15)
      replace HB := Lib.hid (HB.out.trans' hb)
      replace HG := Lib.hid (HG0.out.on HB.out)
      replace H1 := Lib.hid (H1.out.on hb)
      replace H6 := Lib.hid (H6.out.on hb)
      clear hb hL
      simp only [lbox] at HB HG H15 H1 H6
      go_wp2_with fail
      generalize V15.alloc (.cells #[.int .i64 1, .int .i64 0, .string ⟨#[]⟩, .slice G15 2 2] 24) = DV15 at *
      generalize V15.heap.size = b15 at *
      go_wp2_with fail
      refine (decT T 1 2 ⟨#[97, 100]⟩ tw 2 rfl HT3.out _ HG.out (by rw [hT2]; decide)).mono ?_
      rintro e V17 ⟨G17, rfl, hL, hb⟩
      have H17 := Lib.hid (LR.new (t := 24) (F := 1) (R := 2) (H := ⟨#[97, 100]⟩) (n := 2) (ca := 2) hL)
      have hb := hb.trans' (lbox_below 24 1 2 ⟨#[97, 100]⟩ G17 2 2 V17)
      replace HB := Lib.hid (HB.out.trans' hb)
      replace HG := Lib.hid (HG0.out.on HB.out)
      replace H1 := Lib.hid (H1.out.on hb)
      replace H6 := Lib.hid (H6.out.on hb)
      replace H15 := Lib.hid (H15.out.on hb)
      clear hb hL
      simp only [lbox] at HB HG H17 H1 H6 H15
      go_wp2_with fail
      generalize V17.alloc (.cells #[.int .i64 1, .int .i64 2, .string ⟨#[97, 100]⟩, .slice G17 2 2] 24) = DV17 at *
      generalize V17.heap.size = b17 at *
      go_wp2_with fail
      refine (HRZ.out _).mono ?_
      rintro e V18 ⟨rfl, hb⟩
      replace HB := Lib.hid (HB.out.trans' hb)
      replace HG := Lib.hid (HG0.out.on HB.out)
      replace H1 := Lib.hid (H1.out.on hb)
      replace H6 := Lib.hid (H6.out.on hb)
      replace H15 := Lib.hid (H15.out.on hb)
      replace H17 := Lib.hid (H17.out.on hb)
      clear hb
      go_wp2_with fail
      refine (decN Z HZD.out _ HG.out (by rw [hZ2]; decide)).mono ?_
      rintro e V19 ⟨rfl, hb⟩
      have hb := hb.trans' (L5.below_alloc V19 (.cells #[.int .i64 0, .int .i64 0, .string ⟨#[]⟩, .slice none 0 0] 24))
      replace HB := Lib.hid (HB.out.trans' hb)
      replace HG := Lib.hid (HG0.out.on HB.out)
      replace H1 := Lib.hid (H1.out.on hb)
      replace H6 := Lib.hid (H6.out.on hb)
      replace H15 := Lib.hid (H15.out.on hb)
      replace H17 := Lib.hid (H17.out.on hb)
      obtain ⟨a0, a1, a2, a3⟩ := H1.out.box.cells
      clear hb
      go_wp2_with fail
      generalize V19.alloc (.cells #[.int .i64 0, .int .i64 0, .string ⟨#[]⟩, .slice none 0 0] 24) = D19 at *
      generalize V19.heap.size = b19 at *
      refine (findY 1 0 ⟨#[]⟩ (some ⟨q1, 0, none⟩) 2 _ H1.out.row).mono ?_
      rintro e V21 ⟨rfl, hb⟩
      have H21 := Lib.hid (L9.Bx.new 41 false ⟨#[121]⟩ 0 0 V21)
      have hb := hb.trans' (L5.below_alloc V21 (.cells #[.bool false, .string ⟨#[121]⟩, .int .i64 0, .int .i64 0] 41))
      replace HB := Lib.hid (HB.out.trans' hb)
      replace HG := Lib.hid (HG0.out.on HB.out)
      replace H1 := Lib.hid (H1.out.on hb)
      replace H6 := Lib.hid (H6.out.on hb)
      replace H15 := Lib.hid (H15.out.on hb)
      replace H17 := Lib.hid (H17.out.on hb)
      clear a0 a1 a2 a3
      obtain ⟨a0, a1, a2, a3⟩ := H1.out.box.cells
      clear hb
      go_wp2_with fail
      generalize V21.alloc (.cells #[.bool false, .string ⟨#[121]⟩, .int .i64 0, .int .i64 0] 41) = D21 at *
      generalize V21.heap.size = b21 at *
      refine (findN 1 0 ⟨#[]⟩ (some ⟨q1, 0, none⟩) 2 _ H1.out.row).mono ?_
      rintro e V23 ⟨rfl, hb⟩
      have hb := hb.trans' (L5.below_alloc V23 (.cells #[.bool false, .string ⟨#[]⟩, .int .i64 0, .int .i64 0] 41))
      have hbx := hb
      replace HB := Lib.hid (HB.out.trans' hb)
      replace HG := Lib.hid (HG0.out.on HB.out)
      replace H1 := Lib.hid (H1.out.on hb)
      replace H6 := Lib.hid (H6.out.on hb)
      replace H15 := Lib.hid (H15.out.on hb)
      replace H17 := Lib.hid (H17.out.on hb)
      clear a0 a1 a2 a3
      have HX := Lib.hid (H21.out.below hbx)
      clear hb
      go_wp2_with fail
      generalize V23.alloc (.cells #[.bool false, .string ⟨#[]⟩, .int .i64 0, .int .i64 0] 41) = D at *
      refine fixed_fin w _ S T q1 q6 b1 b6 b15 b17 b21 G15 G17 hS2 hS3 HG H1 H6 H15 H17 HX HB _ _ _ _ _ _ _ _ _ _ _ _ _ _ _ _ _ _ _ _ _ _ _ _ _ _ _ _ _ _ _ _ _ _ _ _ _ _ _ _ _ _ _ _ _ _ _ _ _ _ _ _ _ _ _ _ _ _ _ _ _ _ _ _ _ _ _ _ _ _ _ _ _ _ _ _ _ _ _ _ _ _ _ _ _ _ _ _ _ ?_ ?_
      · kernel_rfl
      · assumption

end Go.Proofs.YtpehkikdmckldaaGreatDoor
