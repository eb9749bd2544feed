/-
  The walk of LeafEach, where the leaf may be.
-/
import Derived.Test.YtpehkikdmckldaaGreatDoorJ18
import Derived.Test.YtpehkikdmckldaaGreatDoorJNCut
import Derived.Test.YtpehkikdmckldaaGreatDoorJNBad0
import Derived.Test.YtpehkikdmckldaaGreatDoorJ11
import Derived.Deep.Cut
import Derived.Deep.RegionHeld3
namespace Go.Proofs.YtpehkikdmckldaaGreatDoor
open Go.RowKit NP
set_option linter.unusedVariables false
set_option linter.unusedSimpArgs false

theorem own4_empty (w : World) (e : Nat) : (w.alloc (.cells #[] e)).ownsRow w.heap.size e 4 (.slice (some ⟨w.heap.size, 0, none⟩) 0 0) 0 [] :=
  ⟨by simp, .inr ⟨w.heap.size, 0, #[], rfl, Nat.le_refl _, heap_alloc_new w _, by omega, by unfold maxLen; omega, by simp, by simp⟩⟩
theorem own4_apart {w w' : World} {base e n q : Nat} {v : Value} {xs : List Value} (h : w.ownsRow base e 4 v n xs) (hg : w.grownBy w' v.ownBlock) (hb : q ≤ base) (hq : q ≤ w.heap.size) : Below q w w' :=
  (Below.refl q w).grown hg hq (fun k hk => by
    rcases h.2 with ⟨rfl, _⟩ | ⟨g, cap, cur, rfl, hg', _⟩
    · simp [Value.ownBlock] at hk
    · simp [Value.ownBlock] at hk; omega)
theorem bad_share0 {G : Prop} {A T : World → Prop} (main : (∀ U, A U → T U) → G) (tail : ∀ U, A U → T U) : G := main tail
theorem odd_not {F R : Int} {H2 K K4 : ByteArray} {L2 : List It} {jj q : Nat} (hj : jj < L2.length) (h4 : K4.size = q / 4 + 1) : ¬ May ⟨F, R, H2, L2.set jj ⟨K, false, K4, 0, 0⟩⟩ q := fun h => by
  have h1 : (K4.size : Int) ≤ (q : Int) / 4 := (h.2.2.2.2 ⟨K, false, K4, 0, 0⟩ (List.mem_of_getElem? (i := jj) (by rw [List.getElem?_set]; simp [hj]))).2.2.2 rfl
  omega
theorem more_not {F R : Int} {H2 K : ByteArray} {L2 : List It} {jj q : Nat} (hj : jj < L2.length) : ¬ May ⟨F, R, H2, L2.set jj ⟨K, true, ⟨#[]⟩, (q : Int) / 4, 9⟩⟩ q := fun h => by
  have h1 : (q : Int) / 4 < (q : Int) / 4 := (h.2.2.2.2 ⟨K, true, ⟨#[]⟩, (q : Int) / 4, 9⟩ (List.mem_of_getElem? (i := jj) (by rw [List.getElem?_set]; simp [hj]))).2.2.1 rfl
  omega
theorem addz (g m : Nat) : (⟨g, 0, none⟩ : Addr).add m = ⟨g, m, none⟩ := by
  unfold Addr.add
  split
  · rename_i h
    rw [h]
  · simp
theorem rem_of (nn : Int) (n : Nat) (h : (Lit.int .u8 nn).wf = true) (hn : ¬ n = 0) : ∃ jj : Nat, (RowKit.wrap64 nn).tmod (n : Int) = (jj : Int) ∧ jj < n := by
  have hb : 0 ≤ nn ∧ nn ≤ 255 := by simp [Lit.wf, IntKind.min, IntKind.max, IntKind.signed, IntKind.bits] at h; omega
  obtain ⟨m, rfl⟩ : ∃ m : Nat, nn = m := Int.eq_ofNat_of_zero_le hb.1
  have hw : RowKit.wrap64 (m : Int) = (m : Int) := IntWalk.wrap64_in _ (by omega)
  refine ⟨m % n, ?_, Nat.mod_lt _ (by omega)⟩
  rw [hw, Int.tmod_eq_emod_of_nonneg (by omega)]
  first | exact (Int.natCast_emod m n).symm | exact (Int.ofNat_emod m n).symm | simp
theorem fives_set4 : ∀ (l : List It) (j : Nat) (c : It) (o : Bool) (s : ByteArray) (a b : Int), l[j]? = some c → ((((fives l).set (j * 5 + 1) (.bool o)).set (j * 5 + 2) (.string s)).set (j * 5 + 3) (.int .i64 a)).set (j * 5 + 4) (.int .i64 b) = fives (l.set j ⟨c.k, o, s, a, b⟩)
  | [], j, c, o, s, a, b, h => by simp at h
  | d :: l, 0, c, o, s, a, b, h => by
    obtain rfl : d = c := by simpa using h
    simp [fives, five]
  | d :: l, j + 1, c, o, s, a, b, h => by
    have ih := fives_set4 l j c o s a b (by simpa using h)
    have e : fives (d :: l) = five d ++ fives l := by simp [fives]
    rw [e, List.set_cons_succ, show fives (d :: l.set j ⟨c.k, o, s, a, b⟩) = five d ++ fives (l.set j ⟨c.k, o, s, a, b⟩) by simp [fives], ← ih]
    have hs : ∀ (xs : List Value) (i : Nat) (v : Value), (five d ++ xs).set ((j + 1) * 5 + i) v = five d ++ xs.set (j * 5 + i) v := fun xs i v => by
      rw [List.set_append_right _ _ (by simp [five]; omega), show (j + 1) * 5 + i - (five d).length = j * 5 + i by simp [five]; omega]
    rw [hs, hs, hs, hs]
set_option maxHeartbeats 8000000 in
set_option maxRecDepth 100000 in
theorem leafEach_yes (hfx : Fixes) (F R : Int) (H : ByteArray) (A : Option Addr) (l : List It) (ca : Nat) (p : Int) (nn : Int) (w : World) (hg : Glo w) (hH : H.size ≤ maxLen) (ha : Lies5 w w.heap.size A l) (hs : ∀ x ∈ l, x.k.size ≤ maxLen ∧ x.s.size ≤ maxLen) (hl : l.length ≤ maxLen) (hp : (Lit.int .i64 p).wf = true) (hnn : (Lit.int .u8 nn).wf = true)
    (hmay : May ⟨F, R, cutH H, cut20 l⟩ p) :
    Calls Tryz.prog 8 #[lv F R H A l.length ca, .int .i64 p, .int .u8 nn] w fun e w' => e = .returned (.bool true) ∧ Below w.heap.size w w' := by
  obtain ⟨i0, hi, hz0, hz1, hz2⟩ := info_parts Tryz.infoLeaf
  obtain ⟨i1, hj, hy0, hy1, hy2⟩ := info_parts Tryz.infoItem
  have hb0 := lbox_below 24 F R H A l.length ca w
  have hsz0 := lbox_size 24 F R H A l.length ca w
  have HB0 := Lib.hid hb0
  have HK0 := Lib.hid (lbox_new 24 F R H A l.length ca w)
  have HFX := Lib.hid hfx
  have HG0 := Lib.hid hg
  have HC := Lib.hid (cutO_any F R H A l ca _ (ha.on hb0) (by unfold maxLen at hl; omega) hH hs)
  obtain ⟨HH, hHH⟩ : ∃ HH, cutH H = HH := ⟨_, rfl⟩
  obtain ⟨L, hL⟩ : ∃ L, cut20 l = L := ⟨_, rfl⟩
  have hHs : HH.size ≤ maxLen := by rw [← hHH, cutH, ByteArray.size_extract]; unfold maxLen; omega
  have hLn : L.length ≤ 20 := by rw [← hL, cut20_length]; omega
  have hLs : ∀ x ∈ L, x.k.size ≤ maxLen ∧ x.s.size ≤ maxLen := by
    intro x hx
    rw [← hL] at hx
    obtain ⟨y, _, rfl⟩ := List.mem_map.1 hx
    have h1 : (cutH y.k).size ≤ 140 := by rw [cutH, ByteArray.size_extract]; omega
    have h2 := L9.cutV_size y.s
    unfold maxLen
    exact ⟨by show (cutH y.k).size ≤ _; omega, by show (L9.cutV y.s).size ≤ _; omega⟩
  rw [hHH, hL] at HC hmay
  obtain ⟨n, hn⟩ : ∃ n, L.length = n := ⟨_, rfl⟩
  have HM := Lib.hid (fun G cap W (h : L7.Sizes W) (h2 : Lies5 W W.heap.size G L) => may_any F R HH G L cap p W h h2 (by omega) hHs)
  rw [decide_eq_true hmay] at HM
  obtain ⟨q, rfl⟩ : ∃ q : Nat, p = q := Int.eq_ofNat_of_zero_le (by have := mayBe_le hmay.1; omega)
  have hpp := mayBe_le hmay.1
  obtain ⟨H2, hH2⟩ : ∃ H2, cutH HH = H2 := ⟨_, rfl⟩
  obtain ⟨L2, hL2⟩ : ∃ L2, cut20 L = L2 := ⟨_, rfl⟩
  have hH2s : H2.size ≤ 140 := by rw [← hH2, cutH, ByteArray.size_extract]; omega
  have hL2n : L2.length = n := by rw [← hL2, cut20_length]; omega
  have HC2 := Lib.hid (fun G cap W (h : Lies5 W W.heap.size G L) => cutO_any F R HH G L cap W h (by omega) hHs hLs)
  rw [hH2, hL2] at HC2
  rw [hn] at HC2
  have hq : q ≤ 1024 := by omega
  have hL20 : L2.length ≤ 20 := by omega
  have hmb := hmay.1
  have hw8 : IntKind.i64.wrap ((q : Int) / 8) = (q : Int) / 8 := IntWalk.i64_in _ (by omega)
  have hw8b : IntKind.i64.wrap ((q : Int) / 8 + 1) = (q : Int) / 8 + 1 := IntWalk.i64_in _ (by omega)
  obtain ⟨K8, hK8⟩ : ∃ K8 : ByteArray, ⟨(List.replicate (q / 8 + 1) (255 : UInt8)).toArray⟩ = K8 := ⟨_, rfl⟩
  have hK8s : K8.size = q / 8 + 1 := by rw [← hK8]; show (List.replicate _ _).toArray.size = _; simp
  have hw4 : IntKind.i64.wrap ((q : Int) / 4) = (q : Int) / 4 := IntWalk.i64_in _ (by omega)
  have hw4b : IntKind.i64.wrap ((q : Int) / 4 + 1) = (q : Int) / 4 + 1 := IntWalk.i64_in _ (by omega)
  obtain ⟨K4, hK4⟩ : ∃ K4 : ByteArray, ⟨(List.replicate (q / 4 + 1) (1 : UInt8)).toArray⟩ = K4 := ⟨_, rfl⟩
  have hK4s : K4.size = q / 4 + 1 := by rw [← hK4]; show (List.replicate _ _).toArray.size = _; simp
  have HR4 : Hid (∀ W, Calls Tryz.prog 30 #[.int .u8 1, .int .i64 ((q : Int) / 4 + 1)] W fun e w' => e = .returned (.string K4) ∧ Below W.heap.size W w') := Lib.hid (fun W => by
    have h := L7.refRepeat_any 1 (q / 4 + 1) W (by omega)
    rw [hK4, show (((q / 4 + 1 : Nat)) : Int) = (q : Int) / 4 + 1 by omega] at h
    exact h)
  have HR8 : Hid (∀ W, Calls Tryz.prog 30 #[.int .u8 255, .int .i64 ((q : Int) / 8 + 1)] W fun e w' => e = .returned (.string K8) ∧ Below W.heap.size W w') := Lib.hid (fun W => by
    have h := L7.refRepeat_any 255 (q / 8 + 1) W (by omega)
    rw [hK8, show (((q / 8 + 1 : Nat)) : Int) = (q : Int) / 8 + 1 by omega] at h
    exact h)
  rw [hn] at HC hLn HM
  have HN := Lib.hid hn
  simp only [lbox] at HC HB0 HK0
  rw [lbox] at hsz0
  generalize l.length = l0 at *
  have HL2 := Lib.hid hL2n
  clear hb0 ha hs hl hg hfx hH hHH hL hHs hn hLs hH2 hL2 hL2n
  go_enter Tryz.func8, Tryz.ntmps8
  go_wp2_with fail
  refine HC.out.mono ?_
  rintro e V ⟨G, cap, rfl, hO, hb⟩
  have hL5 := lies5_own hO HN.out.symm
  have HK1 := Lib.hid (HK0.out.below hb)
  have HB1 := Lib.hid (HB0.out.trans' hb)
  have hne : ∀ a, G = some a → a.block ≠ w.heap.size := fun a e => by
    subst e
    have h := own5_block hO (g := a.block) rfl
    rw [hsz0] at h
    omega
  obtain ⟨c0, c1, c2, c3⟩ := HK1.out.cells
  obtain ⟨f0, f1, f2, f3⟩ := HK1.out.free
  have HX := Lib.hid (show LR 24 w.heap.size F R HH G n cap L (setL V w.heap.size F R HH G n cap) from ⟨setL_box HK1.out F R HH G n cap, by rw [setL_size]; exact setL_lies hL5 hne F R HH G n cap⟩)
  have HB := Lib.hid (setL_below HB1.out (Nat.le_refl _) F R HH G n cap)
  have HG := Lib.hid (HG0.out.on HB.out)
  unfold setL at HX HB HG
  obtain ⟨r0, r1, r2, r3⟩ := HX.out.box.cells
  clear hO hb hL5 HB1 HK1 hne HC
  go_wp2_with fail
  clear c0 c1 c2 c3 f0 f1 f2 f3 r0 r1 r2 r3
  generalize ((((V.setCell ⟨w.heap.size, 0, none⟩ (.int .i64 F)).setCell ⟨w.heap.size, 1, none⟩ (.int .i64 R)).setCell ⟨w.heap.size, 2, none⟩ (.string HH)).setCell ⟨w.heap.size, 3, none⟩ (.slice G n cap)) = W2 at *
  obtain ⟨c0, c1, c2, c3⟩ := HX.out.box.cells
  refine (HM.out G cap _ HG.out.sizes HX.out.row).mono ?_
  rintro e V ⟨rfl, hb⟩
  replace HB := Lib.hid (HB.out.trans' hb)
  replace HG := Lib.hid (HG0.out.on HB.out)
  replace HX := Lib.hid (HX.out.on hb)
  clear hb c0 c1 c2 c3
  obtain ⟨c0, c1, c2, c3⟩ := HX.out.box.cells
  go_wp2_with fail
  clear c0 c1 c2 c3
  go_loopw [7, 8] (fun ov iv wr => ∃ (k g cap : Nat) (bs : List Bd), k ≤ 7 ∧ bs.length = k ∧ iv = .int .i64 k ∧ ov = .slice (some ⟨g, 0, none⟩) k cap ∧ Hid (BadW V.heap.size g cap bs wr) ∧ Hid (∀ x ∈ bs, x.f = F ∧ x.r = R ∧ x.h = H2 ∧ x.l = L2) ∧ Hid (Below V.heap.size V wr)) (fun _ iv _ => 7 - (intOf iv).toNat)
  case atStart => exact ⟨0, V.heap.size, 0, [], by omega, rfl, rfl, rfl, Lib.hid ⟨own4_empty V _, fun i x h => by simp at h, fun i j x y a b h h1 => by simp at h1⟩, Lib.hid (fun x h => by simp at h), Lib.hid (L5.below_alloc _ _)⟩
  case round =>
    obtain ⟨k, gb, cb, bs, hk, hbl, rfl, rfl, HBW, HAL, HWr⟩ := hrel
    have HXr := Lib.hid (HX.out.on HWr.out)
    have HBr := Lib.hid (HB.out.trans' HWr.out)
    have HGr := Lib.hid (HG0.out.on HBr.out)
    by_cases hlt : k < 7
    · have hlt' : (k : Int) < 7 := by omega
      obtain ⟨c0, c1, c2, c3⟩ := HXr.out.box.cells
      go_wp2_with fail
      refine (HC2.out G cap _ HXr.out.row).mono ?_
      rintro e V2 ⟨G', cap', rfl, hO, hb⟩
      have HB2 := Lib.hid ((HBW.out.below hb).below (L5.below_alloc V2 (.cells #[.int .i64 F, .int .i64 R, .string H2, .slice G' L2.length cap'] 24)))
      have HO2 := Lib.hid (own_kept hO (L5.below_alloc V2 (.cells #[.int .i64 F, .int .i64 R, .string H2, .slice G' L2.length cap'] 24)))
      have hszV := HWr.out.size
      have hszb := hb.size
      have HNEW : Hid (∀ (i : Nat) (y : Bd) (a b : Addr), bs[i]? = some y → y.a = some a → G' = some b → a.block ≠ b.block) := Lib.hid (fun i y a b hy ha hb' => by
        have h1 := HBW.out.rows i y hy
        rw [ha] at h1
        have h2 := (own_lt h1).1
        subst hb'
        have h3 := (own_lt hO).2
        omega)
      have HW2 := Lib.hid ((HWr.out.trans (hb.mono hszV)).trans ((L5.below_alloc V2 (.cells #[.int .i64 F, .int .i64 R, .string H2, .slice G' L2.length cap'] 24)).mono (by omega)))
      have HBN := Lib.hid (heap_alloc_new V2 (.cells #[.int .i64 F, .int .i64 R, .string H2, .slice G' L2.length cap'] 24))
      have HOB : Hid ((V2.alloc (.cells #[.int .i64 F, .int .i64 R, .string H2, .slice G' L2.length cap'] 24)).ownsRow V.heap.size 24 4 (.slice (some ⟨gb, 0, none⟩) k cb) k (fours bs)) := Lib.hid (by
        have h := HB2.out.own
        rw [hbl] at h
        exact h)
      clear c0 c1 c2 c3 hb hO HBW HXr HBr HGr HWr
      go_wp2_with (at_builtin; refine wpList_append_lies _ rfl _ _ 70 rfl V.heap.size 24 i0 (.agg #[.int .i64 0, .int .i64 0, .string ⟨#[]⟩, .slice none 0 0]) 4 56 Tryz.underlying70 hi hz0 hz1 hz2 rfl (by decide) (.slice (some ⟨gb, 0, none⟩) k cb) k _ rfl HOB.out ⟨V2.heap.size, 0, none⟩ 1 1 [.int .i64 F, .int .i64 R, .string H2, .slice G' L2.length cap'] rfl rfl (World.news_of_block (cs := #[.int .i64 F, .int .i64 R, .string H2, .slice G' L2.length cap']) (t := 24) (fr := (0, 0)) HBN.out) (by simp [Value.oneCell']) (by omega) (by unfold maxLen; omega) (by omega) (by simp; omega) (V2.heap.size + 1) (by simp) ?_; intro g' cap3 w3 hown' hgrow hat hlt3; have HWN := Lib.hid (HW2.out.trans (own4_apart HOB.out hgrow (Nat.le_refl _) (by simp; omega))); have HBWN := Lib.hid (HB2.out.push (x := ⟨F, R, H2, G', L2, cap'⟩) (own5_base HO2.out (by omega)) HNEW.out hgrow (by rw [hbl]; exact hown')); clear hat hlt3 hgrow)
      go_roundw
      case rel => exact ⟨k + 1, g', cap3, bs ++ [⟨F, R, H2, G', L2, cap'⟩], by omega, by simp [hbl], by simp, rfl, HBWN, Lib.hid (fun x hx => by
        rcases List.mem_append.1 hx with hx | hx
        · exact HAL.out x hx
        · obtain rfl := List.mem_singleton.1 hx
          exact ⟨rfl, rfl, rfl, rfl⟩), HWN⟩
      case measure => simp [intOf]; omega
    · obtain rfl : k = 7 := by omega
      obtain ⟨a0, d0, a1, d1, a2, d2, a3, d3, a4, d4, a5, d5, a6, d6, rfl⟩ := seven HAL.out hbl
      clear HAL hbl HXr HBr HGr hlt hk
      have hbd := HBW.out.bound
      obtain ⟨-, -, hgb, hgb0⟩ := hbd
      have hx7 : ¬ ((7 : Nat) : Int) < 7 := by omega
      go_upto_region 9 with fail
      have qq : wr.cell? ⟨gb, 0, none⟩ = some (.int .i64 F) := HBW.out.cell (i := 0) (j := 0) rfl rfl
      have uu := HBW.out.free 0
      go_upto_region 10 with fail
      replace HBW := Lib.hid (show BadW V.heap.size gb cb [⟨0, R, H2, a0, L2, d0⟩, ⟨F, R, H2, a1, L2, d1⟩, ⟨F, R, H2, a2, L2, d2⟩, ⟨F, R, H2, a3, L2, d3⟩, ⟨F, R, H2, a4, L2, d4⟩, ⟨F, R, H2, a5, L2, d5⟩, ⟨F, R, H2, a6, L2, d6⟩] (wr.setCell ⟨gb, 0, none⟩ (.int .i64 0)) from HBW.out.put 0 0 ⟨F, R, H2, a0, L2, d0⟩ ⟨0, R, H2, a0, L2, d0⟩ (.int .i64 0) rfl rfl rfl rfl rfl)
      replace HWr := Lib.hid (HWr.out.setCell (p := ⟨gb, 0, none⟩) hgb0 (.int .i64 0))
      clear qq uu
      generalize wr.setCell ⟨gb, 0, none⟩ (.int .i64 0) = w1 at *
      have qq : w1.cell? ⟨gb, 4, none⟩ = some (.int .i64 F) := HBW.out.cell (i := 1) (j := 0) rfl rfl
      have uu := HBW.out.free 4
      go_upto_region 11 with fail
      replace HBW := Lib.hid (show BadW V.heap.size gb cb [⟨0, R, H2, a0, L2, d0⟩, ⟨4096, R, H2, a1, L2, d1⟩, ⟨F, R, H2, a2, L2, d2⟩, ⟨F, R, H2, a3, L2, d3⟩, ⟨F, R, H2, a4, L2, d4⟩, ⟨F, R, H2, a5, L2, d5⟩, ⟨F, R, H2, a6, L2, d6⟩] (w1.setCell ⟨gb, 4, none⟩ (.int .i64 4096)) from HBW.out.put 1 0 ⟨F, R, H2, a1, L2, d1⟩ ⟨4096, R, H2, a1, L2, d1⟩ (.int .i64 4096) rfl rfl rfl rfl rfl)
      replace HWr := Lib.hid (HWr.out.setCell (p := ⟨gb, 4, none⟩) hgb0 (.int .i64 4096))
      clear qq uu
      generalize w1.setCell ⟨gb, 4, none⟩ (.int .i64 4096) = w2 at *
      have HXr := Lib.hid (HX.out.on HWr.out)
      obtain ⟨c0, c1, c2, c3⟩ := HXr.out.box.cells
      have qq : w2.cell? ⟨gb, 9, none⟩ = some (.int .i64 R) := HBW.out.cell (i := 2) (j := 1) rfl rfl
      have uu := HBW.out.free 9
      go_upto_region 12 with fail
      clear c0 c1 c2 c3 HXr
      replace HBW := Lib.hid (show BadW V.heap.size gb cb [⟨0, R, H2, a0, L2, d0⟩, ⟨4096, R, H2, a1, L2, d1⟩, ⟨F, F, H2, a2, L2, d2⟩, ⟨F, R, H2, a3, L2, d3⟩, ⟨F, R, H2, a4, L2, d4⟩, ⟨F, R, H2, a5, L2, d5⟩, ⟨F, R, H2, a6, L2, d6⟩] (w2.setCell ⟨gb, 9, none⟩ (.int .i64 F)) from HBW.out.put 2 1 ⟨F, R, H2, a2, L2, d2⟩ ⟨F, F, H2, a2, L2, d2⟩ (.int .i64 F) rfl rfl rfl rfl rfl)
      replace HWr := Lib.hid (HWr.out.setCell (p := ⟨gb, 9, none⟩) hgb0 (.int .i64 F))
      clear qq uu
      generalize w2.setCell ⟨gb, 9, none⟩ (.int .i64 F) = w3 at *
      go_wp2_with fail
      refine (HR8.out _).mono ?_
      rintro e VR ⟨rfl, hb⟩
      have hszr := HWr.out.size
      replace HBW := Lib.hid (HBW.out.below hb)
      replace HWr := Lib.hid (HWr.out.trans (hb.mono hszr))
      clear hb hszr
      have qq : VR.cell? ⟨gb, 14, none⟩ = some (.string H2) := HBW.out.cell (i := 3) (j := 2) rfl rfl
      have uu := HBW.out.free 14
      go_upto_region 13 with fail
      replace HBW := Lib.hid (show BadW V.heap.size gb cb [⟨0, R, H2, a0, L2, d0⟩, ⟨4096, R, H2, a1, L2, d1⟩, ⟨F, F, H2, a2, L2, d2⟩, ⟨F, R, K8, a3, L2, d3⟩, ⟨F, R, H2, a4, L2, d4⟩, ⟨F, R, H2, a5, L2, d5⟩, ⟨F, R, H2, a6, L2, d6⟩] (VR.setCell ⟨gb, 14, none⟩ (.string K8)) from HBW.out.put 3 2 ⟨F, R, H2, a3, L2, d3⟩ ⟨F, R, K8, a3, L2, d3⟩ (.string K8) rfl rfl rfl rfl rfl)
      replace HWr := Lib.hid (HWr.out.setCell (p := ⟨gb, 14, none⟩) hgb0 (.string K8))
      clear qq uu
      generalize VR.setCell ⟨gb, 14, none⟩ (.string K8) = w4 at *
      have hd := drew_below (Below.refl w4.heap.size w4)
      replace HWr := Lib.hid (HWr.out.trans (hd.mono HWr.out.size))
      replace HBW := Lib.hid (HBW.out.below hd)
      clear hd
      refine wp_region_held_drew (S := fun _ => True) (by kernel_rfl) trivial (fun hHeld => ?_)
      generalize w4.drew = D at *
      refine take_op' (i := 0) (d := some 57) (v := ?_) rfl rfl (by kernel_rfl) (by kernel_rfl) (by kernel_rfl) (fun _ _ _ h => h) (Or.inl ⟨by kernel_rfl, ?_⟩) trivial ?_
      rotate_left
      · intro W hSw; clear hSw; go_simp; (first | done | with_reducible rfl)
      try simp only [Act.put, List.setIfInBounds_toArray, List.set_cons_zero, List.set_cons_succ]
      refine take_op' (i := 1) (d := some 58) (v := ?_) rfl rfl (by kernel_rfl) (by kernel_rfl) (by kernel_rfl) (fun _ _ _ h => h) (Or.inl ⟨by kernel_rfl, ?_⟩) trivial ?_
      rotate_left
      · intro W hSw; clear hSw; go_simp; (first | done | with_reducible rfl)
      try simp only [Act.put, List.setIfInBounds_toArray, List.set_cons_zero, List.set_cons_succ]
      refine take_op' (i := 2) (d := some 59) (v := ?_) rfl rfl (by kernel_rfl) (by kernel_rfl) (by kernel_rfl) (fun _ _ _ h => h) (Or.inl ⟨by kernel_rfl, ?_⟩) trivial ?_
      rotate_left
      · intro W hSw; clear hSw; go_simp; (first | done | with_reducible rfl)
      try simp only [Act.put, List.setIfInBounds_toArray, List.set_cons_zero, List.set_cons_succ]
      refine take_op' (i := 3) (d := some 60) (v := ?_) rfl rfl (by kernel_rfl) (by kernel_rfl) (by kernel_rfl) (fun _ _ _ h => h) (Or.inl ⟨by kernel_rfl, ?_⟩) trivial ?_
      rotate_left
      · intro W hSw; clear hSw; go_simp; (first | done | with_reducible rfl)
      try simp only [Act.put, List.setIfInBounds_toArray, List.set_cons_zero, List.set_cons_succ]
      refine take_op' (i := 5) (d := some 62) (v := ?_) rfl rfl (by kernel_rfl) (by kernel_rfl) (by kernel_rfl) (fun _ _ _ h => h) (Or.inl ⟨by kernel_rfl, ?_⟩) trivial ?_
      rotate_left
      · intro W hSw; clear hSw; go_simp; (first | done | with_reducible rfl)
      try simp only [Act.put, List.setIfInBounds_toArray, List.set_cons_zero, List.set_cons_succ]
      refine take_op' (i := 6) (d := some 63) (v := ?_) rfl rfl (by kernel_rfl) (by kernel_rfl) (by kernel_rfl) (fun _ _ _ h => h) (Or.inl ⟨by kernel_rfl, ?_⟩) trivial ?_
      rotate_left
      · intro W hSw; clear hSw; go_simp; (first | done | with_reducible rfl)
      try simp only [Act.put, List.setIfInBounds_toArray, List.set_cons_zero, List.set_cons_succ]
      refine take_op' (i := 7) (d := some 64) (v := ?_) rfl rfl (by kernel_rfl) (by kernel_rfl) (by kernel_rfl) (fun _ _ _ h => h) (Or.inl ⟨by kernel_rfl, ?_⟩) trivial ?_
      rotate_left
      · intro W hSw; clear hSw; go_simp; (first | done | with_reducible rfl)
      try simp only [Act.put, List.setIfInBounds_toArray, List.set_cons_zero, List.set_cons_succ]
      revert HBW HWr
      apply bad_share (A := fun q9 U => Hid (BadW V.heap.size gb cb [⟨0, R, H2, a0, L2, d0⟩, ⟨4096, R, H2, a1, L2, d1⟩, ⟨F, F, H2, a2, L2, d2⟩, ⟨F, R, K8, a3, L2, d3⟩, ⟨F, R, H2, a4, L2, d4⟩, ⟨F, R, H2, a5, L2, d5⟩, ⟨F, R, H2, a6, L2, d6⟩] U) ∧ Hid (Below V.heap.size V U) ∧ U.heap[q9]? = some (.cells #[.string K8, .bool false, .string ⟨#[]⟩, .int .i64 0, .int .i64 0] 59) ∧ U.heap.size = q9 + 1)
      intro J9
      · intro HWr HBW
        refine wpAnyH_ready (rs := [4, 8]) (by kernel_rfl) (by simp) (AllReadyH.cons rfl (fun QQ hK => ?_) (AllReadyH.cons rfl (fun QQ hK => ?_) AllReadyH.nil))
        · have qq : D.cell? ⟨gb, 19, none⟩ = some (.slice a4 L2.length d4) := HBW.out.cell (i := 4) (j := 3) rfl rfl
          go_simp
          refine hK.out _ _ trivial (fun _ => ?_)
          clear qq hK
          try simp only [Act.put, List.setIfInBounds_toArray, List.set_cons_zero, List.set_cons_succ]
          refine wpAnyH_ready (rs := [8]) (by kernel_rfl) (by simp) (AllReadyH.cons rfl (fun QQ hK => ?_) AllReadyH.nil)
          go_simp
          refine (HR8.out _).mono ?_
          rintro e Y ⟨rfl, hb⟩
          go_wp2_with fail
          have hszr := HWr.out.size
          replace HBW := Lib.hid (HBW.out.below hb)
          replace HWr := Lib.hid (HWr.out.trans (hb.mono hszr))
          refine hK.out _ _ trivial (fun _ => ?_)
          clear hK hb hszr
          try simp only [Act.put, List.setIfInBounds_toArray, List.set_cons_zero, List.set_cons_succ]
          refine take_op' (i := 9) (d := some 66) (v := ?_) rfl rfl (by kernel_rfl) (by kernel_rfl) (by kernel_rfl) (fun _ _ _ h => h) (Or.inl ⟨by kernel_rfl, ?_⟩) trivial ?_
          rotate_left
          · intro W hSw; clear hSw; go_simp; (first | done | with_reducible rfl)
          try simp only [Act.put, List.setIfInBounds_toArray, List.set_cons_zero, List.set_cons_succ]
          refine wpAnyH_ready (rs := [10]) (by kernel_rfl) (by simp) (AllReadyH.cons rfl (fun QQ hK => ?_) AllReadyH.nil)
          go_simp
          have hb := L5.below_alloc Y (.cells #[.string K8, .bool false, .string ⟨#[]⟩, .int .i64 0, .int .i64 0] 59)
          have hblk := heap_alloc_new Y (.cells #[.string K8, .bool false, .string ⟨#[]⟩, .int .i64 0, .int .i64 0] 59)
          have hq9 : (Y.alloc (.cells #[.string K8, .bool false, .string ⟨#[]⟩, .int .i64 0, .int .i64 0] 59)).heap.size = Y.heap.size + 1 := by simp
          have hszr := HWr.out.size
          replace HBW := Lib.hid (HBW.out.below hb)
          replace HWr := Lib.hid (HWr.out.trans (hb.mono hszr))
          refine hK.out _ _ trivial (fun _ => ?_)
          clear hK hb hszr
          generalize Y.alloc (.cells #[.string K8, .bool false, .string ⟨#[]⟩, .int .i64 0, .int .i64 0] 59) = U9 at *
          generalize Y.heap.size = q9 at *
          try simp only [Act.put, List.setIfInBounds_toArray, List.set_cons_zero, List.set_cons_succ]
          exact J9 q9 U9 ⟨HBW, HWr, hblk, hq9⟩
        · go_simp
          refine (HR8.out _).mono ?_
          rintro e Y ⟨rfl, hb⟩
          go_wp2_with fail
          have hszr := HWr.out.size
          replace HBW := Lib.hid (HBW.out.below hb)
          replace HWr := Lib.hid (HWr.out.trans (hb.mono hszr))
          refine hK.out _ _ trivial (fun _ => ?_)
          clear hK hb hszr
          try simp only [Act.put, List.setIfInBounds_toArray, List.set_cons_zero, List.set_cons_succ]
          refine take_op' (i := 9) (d := some 66) (v := ?_) rfl rfl (by kernel_rfl) (by kernel_rfl) (by kernel_rfl) (fun _ _ _ h => h) (Or.inl ⟨by kernel_rfl, ?_⟩) trivial ?_
          rotate_left
          · intro W hSw; clear hSw; go_simp; (first | done | with_reducible rfl)
          try simp only [Act.put, List.setIfInBounds_toArray, List.set_cons_zero, List.set_cons_succ]
          refine wpAnyH_ready (rs := [4, 10]) (by kernel_rfl) (by simp) (AllReadyH.cons rfl (fun QQ hK => ?_) (AllReadyH.cons rfl (fun QQ hK => ?_) AllReadyH.nil))
          · have qq : Y.cell? ⟨gb, 19, none⟩ = some (.slice a4 L2.length d4) := HBW.out.cell (i := 4) (j := 3) rfl rfl
            go_simp
            refine hK.out _ _ trivial (fun _ => ?_)
            clear qq hK
            try simp only [Act.put, List.setIfInBounds_toArray, List.set_cons_zero, List.set_cons_succ]
            refine wpAnyH_ready (rs := [10]) (by kernel_rfl) (by simp) (AllReadyH.cons rfl (fun QQ hK => ?_) AllReadyH.nil)
            go_simp
            have hb := L5.below_alloc Y (.cells #[.string K8, .bool false, .string ⟨#[]⟩, .int .i64 0, .int .i64 0] 59)
            have hblk := heap_alloc_new Y (.cells #[.string K8, .bool false, .string ⟨#[]⟩, .int .i64 0, .int .i64 0] 59)
            have hq9 : (Y.alloc (.cells #[.string K8, .bool false, .string ⟨#[]⟩, .int .i64 0, .int .i64 0] 59)).heap.size = Y.heap.size + 1 := by simp
            have hszr := HWr.out.size
            replace HBW := Lib.hid (HBW.out.below hb)
            replace HWr := Lib.hid (HWr.out.trans (hb.mono hszr))
            refine hK.out _ _ trivial (fun _ => ?_)
            clear hK hb hszr
            generalize Y.alloc (.cells #[.string K8, .bool false, .string ⟨#[]⟩, .int .i64 0, .int .i64 0] 59) = U9 at *
            generalize Y.heap.size = q9 at *
            try simp only [Act.put, List.setIfInBounds_toArray, List.set_cons_zero, List.set_cons_succ]
            exact J9 q9 U9 ⟨HBW, HWr, hblk, hq9⟩
          · go_simp
            have hb := L5.below_alloc Y (.cells #[.string K8, .bool false, .string ⟨#[]⟩, .int .i64 0, .int .i64 0] 59)
            have hblk := heap_alloc_new Y (.cells #[.string K8, .bool false, .string ⟨#[]⟩, .int .i64 0, .int .i64 0] 59)
            have hq9 : (Y.alloc (.cells #[.string K8, .bool false, .string ⟨#[]⟩, .int .i64 0, .int .i64 0] 59)).heap.size = Y.heap.size + 1 := by simp
            have hszr := HWr.out.size
            replace HBW := Lib.hid (HBW.out.below hb)
            replace HWr := Lib.hid (HWr.out.trans (hb.mono hszr))
            refine hK.out _ _ trivial (fun _ => ?_)
            clear hK hb hszr
            generalize Y.alloc (.cells #[.string K8, .bool false, .string ⟨#[]⟩, .int .i64 0, .int .i64 0] 59) = U9 at *
            generalize Y.heap.size = q9 at *
            try simp only [Act.put, List.setIfInBounds_toArray, List.set_cons_zero, List.set_cons_succ]
            refine wpAnyH_ready (rs := [4]) (by kernel_rfl) (by simp) (AllReadyH.cons rfl (fun QQ hK => ?_) AllReadyH.nil)
            have qq : U9.cell? ⟨gb, 19, none⟩ = some (.slice a4 L2.length d4) := HBW.out.cell (i := 4) (j := 3) rfl rfl
            go_simp
            refine hK.out _ _ trivial (fun _ => ?_)
            clear qq hK
            try simp only [Act.put, List.setIfInBounds_toArray, List.set_cons_zero, List.set_cons_succ]
            exact J9 q9 U9 ⟨HBW, HWr, hblk, hq9⟩
      · rintro q9 U9 ⟨HBW, HWr, hblk, hq9⟩
        have hszr := HWr.out.size
        refine wpAnyH_ready (rs := [11]) (by kernel_rfl) (by simp) (AllReadyH.cons rfl (fun QQ hK => ?_) AllReadyH.nil)
        refine step_append_lies _ (by rfl) _ _ _ (by rfl) V.heap.size 59 i1 (.agg #[.string ⟨#[]⟩, .bool false, .string ⟨#[]⟩, .int .i64 0, .int .i64 0]) 5 56 Tryz.underlying22 hj hy0 hy1 hy2 rfl (by decide) (.slice a4 L2.length d4) L2.length _ (by rfl) (HBW.out.rows 4 _ rfl) ⟨q9, 0, none⟩ 1 1 [.string K8, .bool false, .string ⟨#[]⟩, .int .i64 0, .int .i64 0] (by rfl) (by rfl) (World.news_of_block (cs := #[.string K8, .bool false, .string ⟨#[]⟩, .int .i64 0, .int .i64 0]) (t := 59) (fr := (0, 0)) hblk) (five_one _ _ _ _ _) (by omega) (by unfold maxLen; omega) (by omega) (by omega) U9.heap.size rfl ?_
        intro g4 e4 w3 hown3 hgrow3 hat3 hlt3
        have hbg := HBW.out.grown (i := 4) rfl hgrow3
        have qq : w3.cell? ⟨gb, 19, none⟩ = some (.slice a4 L2.length d4) := row4_cell hbg (i := 4) (j := 3) rfl rfl
        have uu : w3.frozen? ⟨gb, 19, none⟩ = false := hbg.frozenAt 19
        have HWN := Lib.hid ((HWr.out.trans (own5_apart (q := V.heap.size) (HBW.out.rows 4 _ rfl) hgrow3 (Nat.le_refl _) hszr)).setCell (p := ⟨gb, 19, none⟩) hgb0 (.slice (some ⟨g4, 0, none⟩) (L2.length + 1) e4))
        have HBN := Lib.hid (show BadW V.heap.size gb cb [⟨0, R, H2, a0, L2, d0⟩, ⟨4096, R, H2, a1, L2, d1⟩, ⟨F, F, H2, a2, L2, d2⟩, ⟨F, R, K8, a3, L2, d3⟩, ⟨F, R, H2, some ⟨g4, 0, none⟩, L2 ++ [(⟨K8, false, ⟨#[]⟩, 0, 0⟩ : It)], e4⟩, ⟨F, R, H2, a5, L2, d5⟩, ⟨F, R, H2, a6, L2, d6⟩] (w3.setCell ⟨gb, 19, none⟩ (.slice (some ⟨g4, 0, none⟩) (L2.length + 1) e4)) from HBW.out.grow (cap' := e4) (m := L2.length + 1) (ls := (L2 ++ [(⟨K8, false, ⟨#[]⟩, 0, 0⟩ : It)])) 4 ⟨F, R, H2, a4, L2, d4⟩ rfl hgrow3 hat3 (by simp) (by rw [fives_append, fives_one]; exact hown3) rfl)
        refine hK.out _ _ trivial (fun _ => ?_)
        clear hK hat3 hlt3 hgrow3 hbg HBW HWr hblk hszr hown3
        try simp only [Act.put, List.setIfInBounds_toArray, List.set_cons_zero, List.set_cons_succ]
        refine take_op' (i := 12) (d := some 69) (v := ?_) rfl rfl (by kernel_rfl) (by kernel_rfl) (by kernel_rfl) (fun _ _ _ h => h) (Or.inl ⟨by kernel_rfl, ?_⟩) trivial ?_
        rotate_left
        · intro W hSw; clear hSw; go_simp; (first | done | with_reducible rfl)
        try simp only [Act.put, List.setIfInBounds_toArray, List.set_cons_zero, List.set_cons_succ]
        refine take_op' (i := 13) (d := some 70) (v := ?_) rfl rfl (by kernel_rfl) (by kernel_rfl) (by kernel_rfl) (fun _ _ _ h => h) (Or.inl ⟨by kernel_rfl, ?_⟩) trivial ?_
        rotate_left
        · intro W hSw; clear hSw; go_simp; (first | done | with_reducible rfl)
        try simp only [Act.put, List.setIfInBounds_toArray, List.set_cons_zero, List.set_cons_succ]
        refine wpAnyH_ready (rs := [14]) (by kernel_rfl) (by simp) (AllReadyH.cons rfl (fun QQ hK => ?_) AllReadyH.nil)
        go_simp
        refine hK.out _ _ trivial (fun _ => ?_)
        clear hK qq uu
        try simp only [Act.put, List.setIfInBounds_toArray, List.set_cons_zero, List.set_cons_succ]
        refine wpAnyH_done (by kernel_rfl) ?_ _
        have HBW := HBN
        have HWr := HWN
        clear HBN HWN hHeld
        generalize w3.setCell ⟨gb, 19, none⟩ (.slice (some ⟨g4, 0, none⟩) (L2.length + 1) e4) = wA at *
        go_upto_region 14 with fail
        have qq : wA.cell? ⟨gb, 21, none⟩ = some (.int .i64 R) := HBW.out.cell (i := 5) (j := 1) rfl rfl
        have uu := HBW.out.free 21
        go_upto_region 15 with fail
        replace HBW := Lib.hid (show BadW V.heap.size gb cb [⟨0, R, H2, a0, L2, d0⟩, ⟨4096, R, H2, a1, L2, d1⟩, ⟨F, F, H2, a2, L2, d2⟩, ⟨F, R, K8, a3, L2, d3⟩, ⟨F, R, H2, some ⟨g4, 0, none⟩, L2 ++ [(⟨K8, false, ⟨#[]⟩, 0, 0⟩ : It)], e4⟩, ⟨F, 4096, H2, a5, L2, d5⟩, ⟨F, R, H2, a6, L2, d6⟩] (wA.setCell ⟨gb, 21, none⟩ (.int .i64 4096)) from HBW.out.put 5 1 ⟨F, R, H2, a5, L2, d5⟩ ⟨F, 4096, H2, a5, L2, d5⟩ (.int .i64 4096) rfl rfl rfl rfl rfl)
        replace HWr := Lib.hid (HWr.out.setCell (p := ⟨gb, 21, none⟩) hgb0 (.int .i64 4096))
        clear qq uu
        generalize wA.setCell ⟨gb, 21, none⟩ (.int .i64 4096) = w5 at *
        have hszr := HWr.out.size
        have HBA := Lib.hid (HBW.out.below (L5.below_alloc w5 (.cells #[.string ⟨#[]⟩, .bool false, .string ⟨#[]⟩, .int .i64 0, .int .i64 0, .string ⟨#[]⟩, .bool false, .string ⟨#[]⟩, .int .i64 0, .int .i64 0] 59)))
        have HWA := Lib.hid (HWr.out.trans ((L5.below_alloc w5 (.cells #[.string ⟨#[]⟩, .bool false, .string ⟨#[]⟩, .int .i64 0, .int .i64 0, .string ⟨#[]⟩, .bool false, .string ⟨#[]⟩, .int .i64 0, .int .i64 0] 59)).mono hszr))
        have qq : (w5.alloc (.cells #[.string ⟨#[]⟩, .bool false, .string ⟨#[]⟩, .int .i64 0, .int .i64 0, .string ⟨#[]⟩, .bool false, .string ⟨#[]⟩, .int .i64 0, .int .i64 0] 59)).cell? ⟨gb, 27, none⟩ = some (.slice a6 L2.length d6) := HBA.out.cell (i := 6) (j := 3) rfl rfl
        have qq0 : w5.cell? ⟨gb, 27, none⟩ = some (.slice a6 L2.length d6) := HBW.out.cell (i := 6) (j := 3) rfl rfl
        have HBL := Lib.hid (heap_alloc_new w5 (.cells #[.string ⟨#[]⟩, .bool false, .string ⟨#[]⟩, .int .i64 0, .int .i64 0, .string ⟨#[]⟩, .bool false, .string ⟨#[]⟩, .int .i64 0, .int .i64 0] 59))
        go_upto_region 16 with (at_builtin; go_loud (refine wpList_append_lies _ rfl _ _ 22 rfl V.heap.size 59 i1 (.agg #[.string ⟨#[]⟩, .bool false, .string ⟨#[]⟩, .int .i64 0, .int .i64 0]) 5 56 Tryz.underlying22 hj hy0 hy1 hy2 rfl (by decide) (.slice a6 L2.length d6) L2.length _ rfl (HBA.out.rows 6 _ rfl) ⟨w5.heap.size, 0, none⟩ 2 2 [.string ⟨#[]⟩, .bool false, .string ⟨#[]⟩, .int .i64 0, .int .i64 0, .string ⟨#[]⟩, .bool false, .string ⟨#[]⟩, .int .i64 0, .int .i64 0] rfl rfl (World.news_of_block (cs := #[.string ⟨#[]⟩, .bool false, .string ⟨#[]⟩, .int .i64 0, .int .i64 0, .string ⟨#[]⟩, .bool false, .string ⟨#[]⟩, .int .i64 0, .int .i64 0]) (t := 59) (fr := (0, 0)) HBL.out) (by simp [Value.oneCell']) (by omega) (by unfold maxLen; omega) (by omega) (by simp; omega) (w5.heap.size + 1) (by simp) ?_; intro g6 e6 w3 hown3 hgrow3 hat3 hlt3; have hbg := HBA.out.grown (i := 6) rfl hgrow3; have rr : w3.cell? ⟨gb, 27, none⟩ = some (.slice a6 L2.length d6) := row4_cell hbg (i := 6) (j := 3) rfl rfl; have uu : w3.frozen? ⟨gb, 27, none⟩ = false := hbg.frozenAt 27; have HWN := Lib.hid ((HWA.out.trans (own5_apart (q := V.heap.size) (HBA.out.rows 6 _ rfl) hgrow3 (Nat.le_refl _) (by simp; omega))).setCell (p := ⟨gb, 27, none⟩) hgb0 (.slice (some ⟨g6, 0, none⟩) (L2.length + 2) e6)); have HBN := Lib.hid (show BadW V.heap.size gb cb [⟨0, R, H2, a0, L2, d0⟩, ⟨4096, R, H2, a1, L2, d1⟩, ⟨F, F, H2, a2, L2, d2⟩, ⟨F, R, K8, a3, L2, d3⟩, ⟨F, R, H2, some ⟨g4, 0, none⟩, L2 ++ [(⟨K8, false, ⟨#[]⟩, 0, 0⟩ : It)], e4⟩, ⟨F, 4096, H2, a5, L2, d5⟩, ⟨F, R, H2, some ⟨g6, 0, none⟩, L2 ++ [(⟨⟨#[]⟩, false, ⟨#[]⟩, 0, 0⟩ : It), (⟨⟨#[]⟩, false, ⟨#[]⟩, 0, 0⟩ : It)], e6⟩] (w3.setCell ⟨gb, 27, none⟩ (.slice (some ⟨g6, 0, none⟩) (L2.length + 2) e6)) from HBA.out.grow (cap' := e6) (m := L2.length + 2) (ls := (L2 ++ [(⟨⟨#[]⟩, false, ⟨#[]⟩, 0, 0⟩ : It), (⟨⟨#[]⟩, false, ⟨#[]⟩, 0, 0⟩ : It)])) 6 ⟨F, R, H2, a6, L2, d6⟩ rfl hgrow3 (by simpa using hat3) (by simp) (by rw [fives_append]; exact hown3) rfl); clear hat3 hlt3 hgrow3 hbg hown3))
        clear HBW HWr HBA HWA HBL qq qq0 rr uu
        have HBW := HBN
        have HWr := HWN
        clear HBN HWN
        generalize w3.setCell ⟨gb, 27, none⟩ (.slice (some ⟨g6, 0, none⟩) (L2.length + 2) e6) = wB at *
        obtain ⟨BS, hBS⟩ : ∃ BS : List Bd, [⟨0, R, H2, a0, L2, d0⟩, ⟨4096, R, H2, a1, L2, d1⟩, ⟨F, F, H2, a2, L2, d2⟩, ⟨F, R, K8, a3, L2, d3⟩, ⟨F, R, H2, some ⟨g4, 0, none⟩, L2 ++ [(⟨K8, false, ⟨#[]⟩, 0, 0⟩ : It)], e4⟩, ⟨F, 4096, H2, a5, L2, d5⟩, ⟨F, R, H2, some ⟨g6, 0, none⟩, L2 ++ [(⟨⟨#[]⟩, false, ⟨#[]⟩, 0, 0⟩ : It), (⟨⟨#[]⟩, false, ⟨#[]⟩, 0, 0⟩ : It)], e6⟩] = BS := ⟨_, rfl⟩
        have HNO := Lib.hid (each_bad (F := F) (R := R) hK8s hH2s hL20 hq a0 a1 a2 a3 (some ⟨g4, 0, none⟩) a5 (some ⟨g6, 0, none⟩) d0 d1 d2 d3 e4 d5 e6)
        have hBS7 : BS.length = 7 := by rw [← hBS]; rfl
        rw [hBS] at HBW HNO
        clear hBS
        have HLD := Lib.hid (fun W' (hb : Below wB.heap.size wB W') i x (hx : BS[i]? = some x) => (HBW.out.below hb).load hx)
        generalize (⟨gb, 0, none⟩ : Addr) = ga at HLD ⊢
        have HBB := Lib.hid (HB.out.trans' HWr.out)
        have HXB := Lib.hid (HX.out.on HWr.out)
        go_wp2_with fail
        go_loopw [9] (fun iv wr => ∃ k : Nat, k ≤ 7 ∧ iv = .int .i64 k ∧ Hid (Below wB.heap.size wB wr)) (fun iv _ => 7 - (intOf iv).toNat)
        case atStart => exact ⟨0, by omega, rfl, Lib.hid (Below.refl _ _)⟩
        case round =>
          obtain ⟨k, hk, rfl, HWk⟩ := hrel
          by_cases hlt : k < 7
          · have hlt' : (k : Int) < 7 := by omega
            have hk0 : (0 : Int) ≤ k := by omega
            obtain ⟨⟨xf, xr, xh, xa, xl, xc⟩, hx⟩ : ∃ x, BS[k]? = some x := ⟨_, List.getElem?_eq_getElem (by omega)⟩
            have hno := HNO.out k _ hx
            simp only at hno
            obtain ⟨hno1, hno2, hno3⟩ := hno
            have HEx := Lib.hid (fun W (h : Glo W) (h2 : Lies5 W W.heap.size xa xl) => encT xf xr xh xa xl xl.length xc q ⟨#[]⟩ 3 rfl (enc_form hmb hno1) (by omega) (by unfold maxLen; omega) W h h2)
            have HMx := Lib.hid (fun W (h : Glo W) (h2 : Lies5 W W.heap.size xa xl) => may_any xf xr xh xa xl xc q W h.sizes h2 (by omega) (by unfold maxLen; omega))
            rw [decide_eq_false hno1] at HMx
            obtain ⟨p0, p1, p2, p3⟩ := HLD.out _ HWk.out k _ hx
            simp only at p0 p1 p2 p3
            have HLx := Lib.hid (fun W' (hb : Below wB.heap.size wB W') => (HBW.out.below hb).lies hx)
            have HGk := Lib.hid (HG0.out.on (HBB.out.trans' HWk.out))
            clear hno1 hno2 hno3
            go_wp2_with fail
            refine (HEx.out _ HGk.out (HLx.out _ HWk.out)).mono ?_
            rintro e V3 ⟨rfl, hb⟩
            have HWj := Lib.hid (HWk.out.trans' hb)
            have HGj := Lib.hid (HGk.out.on hb)
            clear hb p0 p1 p2 p3 HWk HGk
            obtain ⟨p0, p1, p2, p3⟩ := HLD.out _ HWj.out k _ hx
            simp only at p0 p1 p2 p3
            go_wp2_with fail
            refine (HMx.out _ HGj.out (HLx.out _ HWj.out)).mono ?_
            rintro e V4 ⟨rfl, hb⟩
            have HWi := Lib.hid (HWj.out.trans' hb)
            clear hb p0 p1 p2 p3 HWj HGj HEx HMx HLx
            go_wp2_with fail
            go_roundw
            case rel => exact ⟨k + 1, by omega, by simp, HWi⟩
            case measure => simp [intOf]; omega
          · have hx7b : ¬ (k : Int) < 7 := by omega
            have HXk := Lib.hid (HXB.out.on HWk.out)
            have HBk := Lib.hid (HBB.out.trans' HWk.out)
            have HGk := Lib.hid (HG0.out.on HBk.out)
            obtain ⟨c0, c1, c2, c3⟩ := HXk.out.box.cells
            clear HBW HNO HLD HWr HXB HBB hBS7
            by_cases hn0 : n = 0
            · subst hn0
              go_wp2_with fail
              refine (HFX.out _ HGk.out).mono ?_
              rintro e V9 ⟨rfl, hb⟩
              go_wp2_with fail
              go_ret
              exact ⟨rfl, HBk.out.trans' hb⟩
            · have hnz : ((n : Int) == 0) = false := beq_eq_false_iff_ne.2 (by omega)
              obtain ⟨jj, hjj, hjn⟩ := rem_of nn n hnn hn0
              have HLn := HL2.out
              have hjL : jj < L2.length := by omega
              have hjL' : (jj : Int) < (L2.length : Int) := by omega
              have hj0 : (0 : Int) ≤ jj := by omega
              obtain ⟨⟨K, O, S, Lq, P⟩, hcj⟩ : ∃ c, L2[jj]? = some c := ⟨_, List.getElem?_eq_getElem hjL⟩
              clear HLn
              go_wp2_with fail
              (try rw [hjj])
              refine (HC2.out G cap _ HXk.out.row).mono ?_
              rintro e VO ⟨GO, capO, rfl, hO, hb⟩
              obtain ⟨go, co, heq⟩ := own5_form hO (by omega)
              injection heq with hG1 hG2 hG3
              subst hG1 hG3
              clear hG2
              have hszO := hb.size
              have hgo : wr.heap.size ≤ go := (own_lt hO).2
              have hgob : go < VO.heap.size := (own_lt hO).1
              have HLB := Lib.hid (lbox_new 24 F R H2 (some ⟨go, 0, none⟩) L2.length capO VO)
              have HO1 := Lib.hid (own_kept hO (lbox_below 24 F R H2 (some ⟨go, 0, none⟩) L2.length capO VO))
              have hb2 := hb.trans' (lbox_below 24 F R H2 (some ⟨go, 0, none⟩) L2.length capO VO)
              have HXo := Lib.hid (HXk.out.on hb2)
              have HWo := Lib.hid hb2
              clear hb hb2 hO c0 c1 c2 c3
              simp only [lbox] at HLB HO1 HXo HWo
              have hadd : ∀ m, (⟨go, 0, none⟩ : Addr).add m = ⟨go, m, none⟩ := addz go
              go_upto_region 26 with fail
              generalize VO.alloc (.cells #[.int .i64 F, .int .i64 R, .string H2, .slice (some ⟨go, 0, none⟩) L2.length capO] 24) = wO at *
              generalize VO.heap.size = bo at *
              have hd := drew_below (Below.refl wO.heap.size wO)
              replace HO1 := Lib.hid (own_kept HO1.out hd)
              replace HLB := Lib.hid (HLB.out.below hd)
              replace HWo := Lib.hid (HWo.out.trans' hd)
              clear hd HXo
              refine wp_region_held_drew (S := fun _ => True) (by kernel_rfl) trivial (fun hHeld => ?_)
              generalize wO.drew = D3 at *
              refine take_op' (i := 0) (d := some 121) (v := ?_) rfl rfl (by kernel_rfl) (by kernel_rfl) (by kernel_rfl) (fun _ _ _ h => h) (Or.inl ⟨by kernel_rfl, ?_⟩) trivial ?_
              rotate_left
              · intro W hSw; clear hSw; go_simp; (first | done | with_reducible rfl)
              try simp only [Act.put, List.setIfInBounds_toArray, List.set_cons_zero, List.set_cons_succ]
              refine take_op' (i := 2) (d := some 123) (v := ?_) rfl rfl (by kernel_rfl) (by kernel_rfl) (by kernel_rfl) (fun _ _ _ h => h) (Or.inl ⟨by kernel_rfl, ?_⟩) trivial ?_
              rotate_left
              · intro W hSw; clear hSw; go_simp; (first | done | with_reducible rfl)
              try simp only [Act.put, List.setIfInBounds_toArray, List.set_cons_zero, List.set_cons_succ]
              refine take_op' (i := 3) (d := some 124) (v := ?_) rfl rfl (by kernel_rfl) (by kernel_rfl) (by kernel_rfl) (fun _ _ _ h => h) (Or.inl ⟨by kernel_rfl, ?_⟩) trivial ?_
              rotate_left
              · intro W hSw; clear hSw; go_simp; (first | done | with_reducible rfl)
              try simp only [Act.put, List.setIfInBounds_toArray, List.set_cons_zero, List.set_cons_succ]
              refine take_op' (i := 4) (d := some 125) (v := ?_) rfl rfl (by kernel_rfl) (by kernel_rfl) (by kernel_rfl) (fun _ _ _ h => h) (Or.inl ⟨by kernel_rfl, ?_⟩) trivial ?_
              rotate_left
              · intro W hSw; clear hSw; go_simp; (first | done | with_reducible rfl)
              try simp only [Act.put, List.setIfInBounds_toArray, List.set_cons_zero, List.set_cons_succ]
              refine take_op' (i := 5) (d := some 126) (v := ?_) rfl rfl (by kernel_rfl) (by kernel_rfl) (by kernel_rfl) (fun _ _ _ h => h) (Or.inl ⟨by kernel_rfl, ?_⟩) trivial ?_
              rotate_left
              · intro W hSw; clear hSw; go_simp; (first | done | with_reducible rfl)
              try simp only [Act.put, List.setIfInBounds_toArray, List.set_cons_zero, List.set_cons_succ]
              revert HO1 HLB HWo
              apply bad_share0 (A := fun U => Hid (U.ownsRow wr.heap.size 59 5 (.slice (some ⟨go, 0, none⟩) L2.length capO) L2.length (fives L2)) ∧ Hid (LBx 24 bo F R H2 (some ⟨go, 0, none⟩) L2.length capO U) ∧ Hid (Below wr.heap.size wr U))
              intro J10
              · intro HO1 HLB HWo
                refine wpAnyH_ready (rs := [1, 6]) (by kernel_rfl) (by simp) (AllReadyH.cons rfl (fun QQ hK => ?_) (AllReadyH.cons rfl (fun QQ hK => ?_) AllReadyH.nil))
                · have qq := HLB.out.cells.2.2.2
                  go_simp
                  refine hK.out _ _ trivial (fun _ => ?_)
                  clear qq hK
                  try simp only [Act.put, List.setIfInBounds_toArray, List.set_cons_zero, List.set_cons_succ]
                  refine wpAnyH_ready (rs := [6]) (by kernel_rfl) (by simp) (AllReadyH.cons rfl (fun QQ hK => ?_) AllReadyH.nil)
                  go_simp
                  refine (HR4.out _).mono ?_
                  rintro e Y ⟨rfl, hb⟩
                  go_wp2_with fail
                  replace HO1 := Lib.hid (own_kept HO1.out hb)
                  replace HLB := Lib.hid (HLB.out.below hb)
                  replace HWo := Lib.hid (HWo.out.trans' hb)
                  refine hK.out _ _ trivial (fun _ => ?_)
                  clear hK hb
                  try simp only [Act.put, List.setIfInBounds_toArray, List.set_cons_zero, List.set_cons_succ]
                  refine take_op' (i := 7) (d := some 128) (v := ?_) rfl rfl (by kernel_rfl) (by kernel_rfl) (by kernel_rfl) (fun _ _ _ h => h) (Or.inl ⟨by kernel_rfl, ?_⟩) trivial ?_
                  rotate_left
                  · intro W hSw; clear hSw; go_simp; (first | done | with_reducible rfl)
                  try simp only [Act.put, List.setIfInBounds_toArray, List.set_cons_zero, List.set_cons_succ]
                  exact J10 Y ⟨HO1, HLB, HWo⟩
                · go_simp
                  refine (HR4.out _).mono ?_
                  rintro e Y ⟨rfl, hb⟩
                  go_wp2_with fail
                  replace HO1 := Lib.hid (own_kept HO1.out hb)
                  replace HLB := Lib.hid (HLB.out.below hb)
                  replace HWo := Lib.hid (HWo.out.trans' hb)
                  refine hK.out _ _ trivial (fun _ => ?_)
                  clear hK hb
                  try simp only [Act.put, List.setIfInBounds_toArray, List.set_cons_zero, List.set_cons_succ]
                  refine take_op' (i := 7) (d := some 128) (v := ?_) rfl rfl (by kernel_rfl) (by kernel_rfl) (by kernel_rfl) (fun _ _ _ h => h) (Or.inl ⟨by kernel_rfl, ?_⟩) trivial ?_
                  rotate_left
                  · intro W hSw; clear hSw; go_simp; (first | done | with_reducible rfl)
                  try simp only [Act.put, List.setIfInBounds_toArray, List.set_cons_zero, List.set_cons_succ]
                  refine wpAnyH_ready (rs := [1]) (by kernel_rfl) (by simp) (AllReadyH.cons rfl (fun QQ hK => ?_) AllReadyH.nil)
                  have qq := HLB.out.cells.2.2.2
                  go_simp
                  refine hK.out _ _ trivial (fun _ => ?_)
                  clear qq hK
                  try simp only [Act.put, List.setIfInBounds_toArray, List.set_cons_zero, List.set_cons_succ]
                  exact J10 Y ⟨HO1, HLB, HWo⟩
              · rintro U ⟨HO1, HLB, HWo⟩
                have k1 : U.cell? ⟨go, jj * 5 + 1, none⟩ = some (.bool O) := by
                  have h := HO1.out.cells (g := go) rfl _ _ (fives_get L2 jj 1 _ _ hcj rfl)
                  rwa [addz] at h
                have ff1 := HO1.out.frozenAt (jj * 5 + 1)
                have k2 : U.cell? ⟨go, jj * 5 + 2, none⟩ = some (.string S) := by
                  have h := HO1.out.cells (g := go) rfl _ _ (fives_get L2 jj 2 _ _ hcj rfl)
                  rwa [addz] at h
                have ff2 := HO1.out.frozenAt (jj * 5 + 2)
                have k3 : U.cell? ⟨go, jj * 5 + 3, none⟩ = some (.int .i64 Lq) := by
                  have h := HO1.out.cells (g := go) rfl _ _ (fives_get L2 jj 3 _ _ hcj rfl)
                  rwa [addz] at h
                have ff3 := HO1.out.frozenAt (jj * 5 + 3)
                have k4 : U.cell? ⟨go, jj * 5 + 4, none⟩ = some (.int .i64 P) := by
                  have h := HO1.out.cells (g := go) rfl _ _ (fives_get L2 jj 4 _ _ hcj rfl)
                  rwa [addz] at h
                have ff4 := HO1.out.frozenAt (jj * 5 + 4)
                refine take_op' (i := 8) (d := some 129) (v := ?_) rfl rfl (by kernel_rfl) (by kernel_rfl) (by kernel_rfl) (fun _ _ _ h => h) (Or.inl ⟨by kernel_rfl, ?_⟩) trivial ?_
                rotate_left
                · intro W hSw; clear hSw; go_simp; (first | done | with_reducible rfl)
                try simp only [Act.put, List.setIfInBounds_toArray, List.set_cons_zero, List.set_cons_succ]
                refine take_op' (i := 9) (d := some 130) (v := ?_) rfl rfl (by kernel_rfl) (by kernel_rfl) (by kernel_rfl) (fun _ _ _ h => h) (Or.inl ⟨by kernel_rfl, ?_⟩) trivial ?_
                rotate_left
                · intro W hSw; clear hSw; go_simp; (first | done | with_reducible rfl)
                try simp only [Act.put, List.setIfInBounds_toArray, List.set_cons_zero, List.set_cons_succ]
                refine wpAnyH_ready (rs := [10]) (by kernel_rfl) (by simp) (AllReadyH.cons rfl (fun QQ hK => ?_) AllReadyH.nil)
                go_simp
                refine hK.out _ _ trivial (fun _ => ?_)
                clear hK k1 k2 k3 k4 ff1 ff2 ff3 ff4
                try simp only [Act.put, List.setIfInBounds_toArray, List.set_cons_zero, List.set_cons_succ]
                refine wpAnyH_done (by kernel_rfl) ?_ _
                show Exit.then _ _ Exit.normal _ ((((U.setCell ⟨go, jj * 5 + 1, none⟩ (.bool false)).setCell ⟨go, jj * 5 + 2, none⟩ (.string K4)).setCell ⟨go, jj * 5 + 3, none⟩ (.int .i64 0)).setCell ⟨go, jj * 5 + 4, none⟩ (.int .i64 0))
                have HOW : ((((U.setCell ⟨go, jj * 5 + 1, none⟩ (.bool false)).setCell ⟨go, jj * 5 + 2, none⟩ (.string K4)).setCell ⟨go, jj * 5 + 3, none⟩ (.int .i64 0)).setCell ⟨go, jj * 5 + 4, none⟩ (.int .i64 0)).ownsRow wr.heap.size 59 5 (.slice (some ⟨go, 0, none⟩) L2.length capO) L2.length (fives (L2.set jj ⟨K, false, K4, 0, 0⟩)) := by
                  have h := ((((HO1.out.stored (jj * 5 + 1) (.bool false)).1.stored (jj * 5 + 2) (.string K4)).1.stored (jj * 5 + 3) (.int .i64 0)).1.stored (jj * 5 + 4) (.int .i64 0)).1
                  rw [fives_set4 L2 jj _ false K4 0 0 hcj] at h
                  exact h
                have hbo : bo ≠ go := by omega
                have HWP := Lib.hid ((((HWo.out.setCell (p := ⟨go, jj * 5 + 1, none⟩) hgo (.bool false)).setCell (p := ⟨go, jj * 5 + 2, none⟩) hgo (.string K4)).setCell (p := ⟨go, jj * 5 + 3, none⟩) hgo (.int .i64 0)).setCell (p := ⟨go, jj * 5 + 4, none⟩) hgo (.int .i64 0))
                have HOdd := Lib.hid (show LR 24 bo F R H2 (some ⟨go, 0, none⟩) L2.length capO (L2.set jj ⟨K, false, K4, 0, 0⟩) ((((U.setCell ⟨go, jj * 5 + 1, none⟩ (.bool false)).setCell ⟨go, jj * 5 + 2, none⟩ (.string K4)).setCell ⟨go, jj * 5 + 3, none⟩ (.int .i64 0)).setCell ⟨go, jj * 5 + 4, none⟩ (.int .i64 0)) from ⟨(((HLB.out.other (o := jj * 5 + 1) hbo _).other (o := jj * 5 + 2) hbo _).other (o := jj * 5 + 3) hbo _).other (o := jj * 5 + 4) hbo _, lies5_own HOW (by simp)⟩)
                have HXP := Lib.hid (HXk.out.on HWP.out)
                clear HOW HO1 HLB HWo hHeld hadd
                generalize ((((U.setCell ⟨go, jj * 5 + 1, none⟩ (.bool false)).setCell ⟨go, jj * 5 + 2, none⟩ (.string K4)).setCell ⟨go, jj * 5 + 3, none⟩ (.int .i64 0)).setCell ⟨go, jj * 5 + 4, none⟩ (.int .i64 0)) = wP at *
                obtain ⟨c0, c1, c2, c3⟩ := HXP.out.box.cells
                go_wp2_with fail
                refine (HC2.out G cap _ HXP.out.row).mono ?_
                rintro e VM ⟨GM, capM, rfl, hO, hb⟩
                obtain ⟨gm, cm, heq⟩ := own5_form hO (by omega)
                injection heq with hG1 hG2 hG3
                subst hG1 hG3
                clear hG2
                have hgm : wP.heap.size ≤ gm := (own_lt hO).2
                have hgmb : gm < VM.heap.size := (own_lt hO).1
                have HLM := Lib.hid (lbox_new 24 F R H2 (some ⟨gm, 0, none⟩) L2.length capM VM)
                have HM1 := Lib.hid (own_kept hO (lbox_below 24 F R H2 (some ⟨gm, 0, none⟩) L2.length capM VM))
                have HWM := Lib.hid (hb.trans' (lbox_below 24 F R H2 (some ⟨gm, 0, none⟩) L2.length capM VM))
                clear hb hO c0 c1 c2 c3
                simp only [lbox] at HLM HM1 HWM
                have hadd : ∀ m, (⟨gm, 0, none⟩ : Addr).add m = ⟨gm, m, none⟩ := addz gm
                go_upto_region 28 with fail
                generalize VM.alloc (.cells #[.int .i64 F, .int .i64 R, .string H2, .slice (some ⟨gm, 0, none⟩) L2.length capM] 24) = wM at *
                generalize VM.heap.size = bm at *
                obtain ⟨m0, m1, m2, m3⟩ := HLM.out.cells
                have k1 : wM.cell? ⟨gm, jj * 5 + 1, none⟩ = some (.bool O) := by
                  have h := HM1.out.cells (g := gm) rfl _ _ (fives_get L2 jj 1 _ _ hcj rfl)
                  rwa [addz] at h
                have ff1 := HM1.out.frozenAt (jj * 5 + 1)
                have k2 : wM.cell? ⟨gm, jj * 5 + 2, none⟩ = some (.string S) := by
                  have h := HM1.out.cells (g := gm) rfl _ _ (fives_get L2 jj 2 _ _ hcj rfl)
                  rwa [addz] at h
                have ff2 := HM1.out.frozenAt (jj * 5 + 2)
                have k3 : wM.cell? ⟨gm, jj * 5 + 3, none⟩ = some (.int .i64 Lq) := by
                  have h := HM1.out.cells (g := gm) rfl _ _ (fives_get L2 jj 3 _ _ hcj rfl)
                  rwa [addz] at h
                have ff3 := HM1.out.frozenAt (jj * 5 + 3)
                have k4 : wM.cell? ⟨gm, jj * 5 + 4, none⟩ = some (.int .i64 P) := by
                  have h := HM1.out.cells (g := gm) rfl _ _ (fives_get L2 jj 4 _ _ hcj rfl)
                  rwa [addz] at h
                have ff4 := HM1.out.frozenAt (jj * 5 + 4)
                go_upto_region 29 with fail
                clear k1 k2 k3 k4 ff1 ff2 ff3 ff4 m0 m1 m2 m3
                show Code.wp _ _ _ _ ((((wM.setCell ⟨gm, jj * 5 + 1, none⟩ (.bool true)).setCell ⟨gm, jj * 5 + 2, none⟩ (.string ⟨#[]⟩)).setCell ⟨gm, jj * 5 + 3, none⟩ (.int .i64 ((q : Int) / 4))).setCell ⟨gm, jj * 5 + 4, none⟩ (.int .i64 9))
                have HOM : ((((wM.setCell ⟨gm, jj * 5 + 1, none⟩ (.bool true)).setCell ⟨gm, jj * 5 + 2, none⟩ (.string ⟨#[]⟩)).setCell ⟨gm, jj * 5 + 3, none⟩ (.int .i64 ((q : Int) / 4))).setCell ⟨gm, jj * 5 + 4, none⟩ (.int .i64 9)).ownsRow wP.heap.size 59 5 (.slice (some ⟨gm, 0, none⟩) L2.length capM) L2.length (fives (L2.set jj ⟨K, true, ⟨#[]⟩, (q : Int) / 4, 9⟩)) := by
                  have h := ((((HM1.out.stored (jj * 5 + 1) (.bool true)).1.stored (jj * 5 + 2) (.string ⟨#[]⟩)).1.stored (jj * 5 + 3) (.int .i64 ((q : Int) / 4))).1.stored (jj * 5 + 4) (.int .i64 9)).1
                  rw [fives_set4 L2 jj _ true ⟨#[]⟩ ((q : Int) / 4) 9 hcj] at h
                  exact h
                have hbm : bm ≠ gm := by omega
                have HWQ := Lib.hid ((((HWM.out.setCell (p := ⟨gm, jj * 5 + 1, none⟩) hgm (.bool true)).setCell (p := ⟨gm, jj * 5 + 2, none⟩) hgm (.string ⟨#[]⟩)).setCell (p := ⟨gm, jj * 5 + 3, none⟩) hgm (.int .i64 ((q : Int) / 4))).setCell (p := ⟨gm, jj * 5 + 4, none⟩) hgm (.int .i64 9))
                have HMore := Lib.hid (show LR 24 bm F R H2 (some ⟨gm, 0, none⟩) L2.length capM (L2.set jj ⟨K, true, ⟨#[]⟩, (q : Int) / 4, 9⟩) ((((wM.setCell ⟨gm, jj * 5 + 1, none⟩ (.bool true)).setCell ⟨gm, jj * 5 + 2, none⟩ (.string ⟨#[]⟩)).setCell ⟨gm, jj * 5 + 3, none⟩ (.int .i64 ((q : Int) / 4))).setCell ⟨gm, jj * 5 + 4, none⟩ (.int .i64 9)) from ⟨(((HLM.out.other (o := jj * 5 + 1) hbm _).other (o := jj * 5 + 2) hbm _).other (o := jj * 5 + 3) hbm _).other (o := jj * 5 + 4) hbm _, lies5_own HOM (by simp)⟩)
                have HOdd2 := Lib.hid (HOdd.out.on HWQ.out)
                have HBQ := Lib.hid (HBk.out.trans' (HWP.out.trans' HWQ.out))
                have HGQ := Lib.hid (HG0.out.on HBQ.out)
                have HMo := Lib.hid (fun W (h : L7.Sizes W) (h2 : Lies5 W W.heap.size (some ⟨go, 0, none⟩) (L2.set jj ⟨K, false, K4, 0, 0⟩)) => may_any F R H2 (some ⟨go, 0, none⟩) (L2.set jj ⟨K, false, K4, 0, 0⟩) capO q W h h2 (by rw [List.length_set]; omega) (by unfold maxLen; omega))
                have HMm := Lib.hid (fun W (h : L7.Sizes W) (h2 : Lies5 W W.heap.size (some ⟨gm, 0, none⟩) (L2.set jj ⟨K, true, ⟨#[]⟩, (q : Int) / 4, 9⟩)) => may_any F R H2 (some ⟨gm, 0, none⟩) (L2.set jj ⟨K, true, ⟨#[]⟩, (q : Int) / 4, 9⟩) capM q W h h2 (by rw [List.length_set]; omega) (by unfold maxLen; omega))
                rw [decide_eq_false (odd_not hjL hK4s), List.length_set] at HMo
                rw [decide_eq_false (more_not hjL), List.length_set] at HMm
                clear HOM HM1 HLM HWM hadd HOdd HXP HWP
                generalize ((((wM.setCell ⟨gm, jj * 5 + 1, none⟩ (.bool true)).setCell ⟨gm, jj * 5 + 2, none⟩ (.string ⟨#[]⟩)).setCell ⟨gm, jj * 5 + 3, none⟩ (.int .i64 ((q : Int) / 4))).setCell ⟨gm, jj * 5 + 4, none⟩ (.int .i64 9)) = wQ at *
                obtain ⟨c0, c1, c2, c3⟩ := HOdd2.out.box.cells
                go_wp2_with fail
                refine (HMo.out _ HGQ.out.sizes HOdd2.out.row).mono ?_
                rintro e V7 ⟨rfl, hb⟩
                have HG7 := Lib.hid (HGQ.out.on hb)
                have HM7 := Lib.hid (HMore.out.on hb)
                have HB7 := Lib.hid (HBQ.out.trans' hb)
                clear hb c0 c1 c2 c3
                obtain ⟨c0, c1, c2, c3⟩ := HM7.out.box.cells
                go_wp2_with fail
                refine (HMm.out _ HG7.out.sizes HM7.out.row).mono ?_
                rintro e V8 ⟨rfl, hb⟩
                have HG8 := Lib.hid (HG7.out.on hb)
                have HB8 := Lib.hid (HB7.out.trans' hb)
                clear hb c0 c1 c2 c3
                go_wp2_with fail
                refine (HFX.out _ HG8.out).mono ?_
                rintro e V9 ⟨rfl, hb⟩
                go_wp2_with fail
                go_ret
                exact ⟨rfl, HB8.out.trans' hb⟩
end Go.Proofs.YtpehkikdmckldaaGreatDoor
