/-
  The walk of InnerEach, where the page may be. Written by wip/gen_ieach.py.
-/
import Derived.Test.YtembccehokodeaaGreatDoorJIBad0
import Derived.Test.YtembccehokodeaaGreatDoorJIBack
import Derived.Deep.Cut
namespace Go.Proofs.YtembccehokodeaaGreatDoor
open Go.RowKit IP
set_option linter.unusedVariables false
set_option linter.unusedSimpArgs false

theorem own6_empty (w : World) (e : Nat) : (w.alloc (.cells #[] e)).ownsRow w.heap.size e 6 (.slice (some ⟨w.heap.size, 0, none⟩) 0 0) 0 [] :=
  ⟨by simp, .inr ⟨w.heap.size, 0, #[], rfl, Nat.le_refl _, heap_alloc_new w _, by omega, by unfold maxLen; omega, by simp, by simp⟩⟩
theorem owns_apart {w w' : World} {base e size n q : Nat} {v : Value} {xs : List Value} (h : w.ownsRow base e size v n xs) (hg : w.grownBy w' v.ownBlock) (hb : q ≤ base) (hq : q ≤ w.heap.size) : Below q w w' :=
  (Below.refl q w).grown hg hq (fun k hk => by
    rcases h.2 with ⟨rfl, _⟩ | ⟨g, cap, cur, rfl, hg', _⟩
    · simp [Value.ownBlock] at hk
    · simp [Value.ownBlock] at hk; omega)
theorem addz (g m : Nat) : (⟨g, 0, none⟩ : Addr).add m = ⟨g, m, none⟩ := by
  unfold Addr.add
  split
  · rename_i h
    rw [h]
  · simp
theorem rem_of (nn : Int) (n : Nat) (h : (Lit.int .u8 nn).wf = true) (hn : ¬ n = 0) : ∃ jj : Nat, (RowKit.wrap64 nn).tmod (n : Int) = (jj : Int) ∧ jj < n := by
  have hb : 0 ≤ nn ∧ nn ≤ 255 := by simp [Lit.wf, IntKind.min, IntKind.max, IntKind.signed, IntKind.bits] at h; omega
  obtain ⟨m, rfl⟩ : ∃ m : Nat, nn = m := Int.eq_ofNat_of_zero_le hb.1
  have hw : RowKit.wrap64 (m : Int) = (m : Int) := IntWalk.wrap64_in _ (by omega)
  refine ⟨m % n, ?_, Nat.mod_lt _ (by omega)⟩
  rw [hw, Int.tmod_eq_emod_of_nonneg (by omega)]
  first | exact (Int.natCast_emod m n).symm | exact (Int.ofNat_emod m n).symm | simp
theorem strs_one (l : List ByteArray) : ∀ u ∈ L5.strCells l, u.oneCell' = true := by
  intro u hu
  unfold L5.strCells at hu
  obtain ⟨s, _, rfl⟩ := List.mem_map.1 hu
  rfl
theorem Tryz.infoStr : (Tryz.prog.info? 9).map (fun i => (i.zero, i.size, i.bytes)) = some (some (.string ⟨#[]⟩), 1, 16) := by kernel_rfl
/-- Texts, any many, none too, are put behind a row of the call's own. -/
theorem wpList_seps {P : Program} {w : World} {ops : Array Oper} {rest : List Oper} {o : Oper} {a : Act} {Q : Exit → Act → World → Prop} (hgd : o.guard = none) (s x : Operand) (t : TypeId)
    (ho : o.op = .call { callee := .builtin .append, args := #[s, x], argTypes := #[t, t] })
    (base : Nat) (e : TypeId) (i : TypeInfo) (z : Value) (ht : P.underlying t = some (.slice e)) (hi : P.info? e = some i) (hz : i.zero = some z)
    (hsize : i.size = 1) (hby : i.bytes = 16) (hzs : z.cells.size = 1) (g0 n cap0 : Nat) (xs : List Value) (hs : a.eval s = .slice (some ⟨g0, 0, none⟩) n cap0) (hown : w.ownsRow base e 1 (.slice (some ⟨g0, 0, none⟩) n cap0) n xs)
    (ad : Addr) (m c : Nat) (news : List Value) (hx : a.eval x = .slice (some ad) m c) (hl : news.length = m) (hnews : ∀ j u, news[j]? = some u → w.cell? (ad.add j) = some u) (h1 : ∀ u ∈ news, u.oneCell' = true)
    (hn : n ≤ 30) (hm : m ≤ 30) (hbase : base ≤ w.heap.size)
    (h : ∀ g cap w', w'.ownsRow base e 1 (.slice (some ⟨g, 0, none⟩) (n + m) cap) (n + m) (xs ++ news) → w.grownBy w' (some g0) → wpList P ops Q rest (a.put o.dst (.slice (some ⟨g, 0, none⟩) (n + m) cap)) w') : wpList P ops Q (o :: rest) a w := by
  rcases Nat.eq_zero_or_pos m with hm0 | hm0
  · subst hm0
    obtain rfl := List.eq_nil_of_length_eq_zero hl
    refine wpList_plain hgd fun K hK => ?_
    have hr := run_append_nothing (P := P) w t t o.type e i ht hi (some ⟨g0, 0, none⟩) n cap0 (L5.own_cap hown) (.slice (some ad) 0 c) (Src.ofSlice w ht ad 0 c [] (by simp) (fun j u hu => by simp at hu) (by simp))
    unfold Oper.wp execOp
    simp only [ho, resolve, invoke, builtin, Sem.run_bind, Sem.run_pure, Result.andThen_ok, List.map_toArray, List.map_cons, List.map_nil, hs, hx, hr]
    exact hK _ _ (h g0 cap0 w (by rw [List.append_nil]; exact hown) ⟨rfl, rfl, rfl, Nat.le_refl _, fun _ _ _ => rfl⟩)
  · exact wpList_append_lies w hgd s x t ho base e i z 1 16 ht hi hz hsize hby hzs (by decide) (.slice (some ⟨g0, 0, none⟩) n cap0) n xs hs hown ad m c news hx (by omega) hnews h1 hm0 (by unfold maxLen; omega) (by omega) hbase w.heap.size rfl (fun g cap w' h2 h3 _ _ => h g cap w' h2 h3)
set_option maxHeartbeats 4000000 in
set_option maxRecDepth 100000 in
theorem innerEach_yes (hfx : Fixes) (F L R : Int) (H : ByteArray) (A : Option Addr) (n ca : Nat) (C : Option Addr) (m cb : Nat) (ks : List Int) (ss : List ByteArray) (p : Int) (nn : Int) (w : World) (hg : L7.Sizes w) (hr : Rows2 w A n ca C m cb ks ss) (hn : n ≤ maxLen) (hca : ca ≤ maxLen) (hm : m ≤ maxLen) (hH : H.size ≤ maxLen) (hs : ∀ s ∈ ss, s.size ≤ maxLen) (hnn : (Lit.int .u8 nn).wf = true) (hmay : May ⟨F, L, R, cutH H, ks.take 30, cutSs ss⟩ p) :
    Calls Tryz.prog 8 #[nv F L R H A n ca C m cb, .int .i64 p, .int .u8 nn] w fun e w' => e = .returned (.bool true) ∧ Below w.heap.size w w' := by
  obtain ⟨i0, hi, hz0, hz1, hz2⟩ := info_parts Tryz.infoInn
  obtain ⟨i1, hj, hy0, hy1, hy2⟩ := info_parts Tryz.infoNum
  obtain ⟨i2, hk0, hv0, hv1, hv2⟩ := info_parts Tryz.infoStr
  have hb0 := nbox_below 25 F L R H A n ca C m cb w
  have hsz0 := nbox_size 25 F L R H A n ca C m cb w
  have HB0 := Lib.hid hb0
  have HK0 := Lib.hid (nbox_new 25 F L R H A n ca C m cb w)
  have HFX := Lib.hid hfx
  have HG0 := Lib.hid hg
  have HC := Lib.hid (cutM_any F L R H A n ca C m cb ks ss _ (hr.on hb0) hn hca hm hH hs)
  obtain ⟨HH, hHH⟩ : ∃ HH, cutH H = HH := ⟨_, rfl⟩
  obtain ⟨K1, hK1⟩ : ∃ K1, ks.take 30 = K1 := ⟨_, rfl⟩
  obtain ⟨S1, hS1⟩ : ∃ S1, cutSs ss = S1 := ⟨_, rfl⟩
  obtain ⟨kn, hkn⟩ : ∃ kn, min 30 n = kn := ⟨_, rfl⟩
  obtain ⟨mn, hmn⟩ : ∃ mn, min 30 m = mn := ⟨_, rfl⟩
  have hK1n : K1.length = kn := by rw [← hK1, List.length_take, hr.nk, hkn]
  have hS1n : S1.length = mn := by rw [← hS1, cutSs_length, hr.nm, hmn]
  have hHHs : HH.size ≤ 140 := by rw [← hHH]; exact cutH_size H
  have HS1s : Hid (∀ s ∈ S1, s.size ≤ 140) := Lib.hid (by rw [← hS1]; exact cutSs_size ss)
  rw [hHH, hK1, hS1, hkn, hmn] at HC
  have hk30 : kn ≤ 30 := by omega
  have hm30 : mn ≤ 30 := by omega
  simp only [nbox] at HC HB0 HK0 hsz0
  rw [hHH, hK1, hS1] at hmay
  have HM := Lib.hid (fun A gc D dc W (h : L7.Sizes W) (h2 : Rows2 W A kn gc D mn dc K1 S1) => may_any F L R HH A kn gc D mn dc K1 S1 p W h h2 (by omega) (by omega))
  rw [decide_eq_true hmay] at HM
  obtain ⟨q, rfl⟩ : ∃ q : Nat, p = q := Int.eq_ofNat_of_zero_le (by have := mayBe_le hmay.1; omega)
  have hpp := mayBe_le hmay.1
  have hmb := hmay.1
  have hq : q ≤ 1024 := by omega
  obtain ⟨H2, hH2⟩ : ∃ H2, cutH HH = H2 := ⟨_, rfl⟩
  obtain ⟨S2, hS2⟩ : ∃ S2, cutSs S1 = S2 := ⟨_, rfl⟩
  have hH2s : H2.size ≤ 140 := by rw [← hH2]; exact cutH_size HH
  have hS2n : S2.length = mn := by rw [← hS2, cutSs_length, hS1n]; omega
  have hks1 : K1.length = S1.length + 1 := hmay.2.2.1.1
  have HKS : Hid (K1.length = S2.length + 1) := Lib.hid (by omega)
  have HKL : Hid (K1.length ≤ 30) := Lib.hid (by omega)
  have HSL : Hid (S2.length ≤ 30) := Lib.hid (by omega)
  have HC2 := Lib.hid (fun (G gc D dc : Nat) W (h : Rows2 W (some ⟨G, 0, none⟩) kn gc (some ⟨D, 0, none⟩) mn dc K1 S1) (hc : gc ≤ maxLen) => cutB_any F L R HH (some ⟨G, 0, none⟩) kn gc (some ⟨D, 0, none⟩) mn dc K1 S1 W h hk30 hc hm30 hHHs HS1s.out)
  rw [hH2, hS2] at HC2
  have hw8 : IntKind.i64.wrap ((q : Int) / 8) = (q : Int) / 8 := IntWalk.i64_in _ (by omega)
  have hw8b : IntKind.i64.wrap ((q : Int) / 8 + 1) = (q : Int) / 8 + 1 := IntWalk.i64_in _ (by omega)
  obtain ⟨K8, hK8⟩ : ∃ K8 : ByteArray, ⟨(List.replicate (q / 8 + 1) (255 : UInt8)).toArray⟩ = K8 := ⟨_, rfl⟩
  have HK8 : Hid (K8.size = q / 8 + 1) := Lib.hid (by rw [← hK8]; show (List.replicate _ _).toArray.size = _; simp)
  have HR8 : Hid (∀ W, Calls Tryz.prog 30 #[.int .u8 255, .int .i64 ((q : Int) / 8 + 1)] W fun e w' => e = .returned (.string K8) ∧ Below W.heap.size W w') := Lib.hid (fun W => by
    have h := L7.refRepeat_any 255 (q / 8 + 1) W (by omega)
    rw [hK8, show (((q / 8 + 1 : Nat)) : Int) = (q : Int) / 8 + 1 by omega] at h
    exact h)
  have hkn0 : ¬ kn = 0 := by omega
  have hnz : ((kn : Int) == 0) = false := beq_eq_false_iff_ne.2 (by omega)
  obtain ⟨jj, hjj, hjn⟩ := rem_of nn kn hnn hkn0
  have HJL : Hid (jj < K1.length) := Lib.hid (by omega)
  have hj0 : (0 : Int) ≤ jj := by omega
  obtain ⟨Kj, hKj⟩ : ∃ c, K1[jj]? = some c := ⟨_, List.getElem?_eq_getElem HJL.out⟩
  have HKJ := Lib.hid hKj
  clear hmay hpp hH2 hS2 hS2n hks1 hK1n hS1n hK8 hKj hjn
  clear hb0 hr hs hn hca hm hg hfx hH hHH hK1 hS1 hkn hmn
  obtain ⟨c0, c1, c2, c3, c4, c5⟩ := HK0.out.cells
  go_enter Tryz.func8, Tryz.ntmps8
  go_wp2_with fail
  refine HC.out.mono ?_
  rintro e V ⟨G, gc, D, dc, rfl, hG, hD, hgc, hrw, hb⟩
  have HGC := Lib.hid hgc
  clear c0 c1 c2 c3 c4 c5
  have HK1 := Lib.hid (HK0.out.below hb)
  have HB1 := Lib.hid (HB0.out.trans' hb)
  have hGn : ∀ a, some (⟨G, 0, none⟩ : Addr) = some a → a.block ≠ w.heap.size := fun a e => by
    obtain rfl := Option.some.inj e
    rw [hsz0] at hG
    show G ≠ _
    omega
  have hDn : ∀ a, some (⟨D, 0, none⟩ : Addr) = some a → a.block ≠ w.heap.size := fun a e => by
    obtain rfl := Option.some.inj e
    rw [hsz0] at hD
    show D ≠ _
    omega
  obtain ⟨c0, c1, c2, c3, c4, c5⟩ := HK1.out.cells
  obtain ⟨f0, f1, f2, f3, f4, f5⟩ := HK1.out.free
  have HX := Lib.hid (show NR 25 w.heap.size F L R HH (some ⟨G, 0, none⟩) kn gc (some ⟨D, 0, none⟩) mn dc K1 S1 (setN V w.heap.size F L R HH (some ⟨G, 0, none⟩) kn gc (some ⟨D, 0, none⟩) mn dc) from ⟨setN_box HK1.out F L R HH (some ⟨G, 0, none⟩) kn gc (some ⟨D, 0, none⟩) mn dc, hrw.stored hGn hDn F L R HH (some ⟨G, 0, none⟩) kn gc (some ⟨D, 0, none⟩) mn dc⟩)
  have HB := Lib.hid (setN_below HB1.out (Nat.le_refl _) F L R HH (some ⟨G, 0, none⟩) kn gc (some ⟨D, 0, none⟩) mn dc)
  have HG := Lib.hid (HG0.out.below HG0.out.lt HB.out)
  have hck := hrw.ck
  have hcm := hrw.cm
  unfold setN at HX HB HG
  obtain ⟨r0, r1, r2, r3, r4, r5⟩ := HX.out.box.cells
  clear hb hgc hrw HK1 HB1 hGn hDn HC hG hD
  go_wp2_with fail
  clear c0 c1 c2 c3 c4 c5 f0 f1 f2 f3 f4 f5 r0 r1 r2 r3 r4 r5
  generalize ((((((V.setCell ⟨w.heap.size, 0, none⟩ (.int .i64 F)).setCell ⟨w.heap.size, 1, none⟩ (.int .i64 L)).setCell ⟨w.heap.size, 2, none⟩ (.int .i64 R)).setCell ⟨w.heap.size, 3, none⟩ (.string HH)).setCell ⟨w.heap.size, 4, none⟩ (.slice (some ⟨G, 0, none⟩) kn gc)).setCell ⟨w.heap.size, 5, none⟩ (.slice (some ⟨D, 0, none⟩) mn dc)) = W2 at *
  obtain ⟨c0, c1, c2, c3, c4, c5⟩ := HX.out.box.cells
  refine (HM.out _ gc _ dc _ HG.out HX.out.rows).mono ?_
  rintro e V ⟨rfl, hb⟩
  replace HB := Lib.hid (HB.out.trans' hb)
  replace HG := Lib.hid (HG0.out.below HG0.out.lt HB.out)
  replace HX := Lib.hid (HX.out.on hb)
  clear hb c0 c1 c2 c3 c4 c5
  obtain ⟨c0, c1, c2, c3, c4, c5⟩ := HX.out.box.cells
  go_wp2_with fail
  clear c0 c1 c2 c3 c4 c5
  go_loopw [7, 8] (fun ov iv wr => ∃ (k g cap : Nat) (bs : List Bd), k ≤ 8 ∧ bs.length = k ∧ iv = .int .i64 k ∧ ov = .slice (some ⟨g, 0, none⟩) k cap ∧ Hid (BadW V.heap.size g cap bs wr) ∧ Hid (∀ x ∈ bs, x.f = F ∧ x.l = L ∧ x.r = R ∧ x.h = H2 ∧ x.ks = K1 ∧ x.ss = S2) ∧ Hid (Below V.heap.size V wr)) (fun _ iv _ => 8 - (intOf iv).toNat)
  case atStart => exact ⟨0, V.heap.size, 0, [], by omega, rfl, rfl, rfl, Lib.hid ⟨own6_empty V _, fun i x h => by simp at h, fun i x h => by simp at h, fun i j x y hij h => by simp at h⟩, Lib.hid (fun x h => by simp at h), Lib.hid (L5.below_alloc _ _)⟩
  case round =>
    obtain ⟨k, gb, cb, bs, hk, hbl, rfl, rfl, HBW, HAL, HWr⟩ := hrel
    have HXr := Lib.hid (HX.out.on HWr.out)
    have HBr := Lib.hid (HB.out.trans' HWr.out)
    by_cases hlt : k < 8
    · have hlt' : (k : Int) < 8 := by omega
      obtain ⟨c0, c1, c2, c3, c4, c5⟩ := HXr.out.box.cells
      go_wp2_with fail
      refine (HC2.out G gc D dc _ HXr.out.rows HGC.out).mono ?_
      rintro e V2 ⟨G', gc', D', dc', rfl, hO, hP, hb⟩
      have HB2 := Lib.hid ((HBW.out.below hb).below (L5.below_alloc V2 (.cells #[.int .i64 F, .int .i64 L, .int .i64 R, .string H2, .slice (some ⟨G', 0, none⟩) K1.length gc', .slice (some ⟨D', 0, none⟩) S2.length dc'] 25)))
      have HO2 := Lib.hid (owns_below hO (L5.below_alloc V2 (.cells #[.int .i64 F, .int .i64 L, .int .i64 R, .string H2, .slice (some ⟨G', 0, none⟩) K1.length gc', .slice (some ⟨D', 0, none⟩) S2.length dc'] 25)))
      have HP2 := Lib.hid (owns_below hP (L5.below_alloc V2 (.cells #[.int .i64 F, .int .i64 L, .int .i64 R, .string H2, .slice (some ⟨G', 0, none⟩) K1.length gc', .slice (some ⟨D', 0, none⟩) S2.length dc'] 25)))
      have hszV := HWr.out.size
      have hszb := hb.size
      have HNEW : Hid (∀ (i : Nat) (y : Bd), bs[i]? = some y → y.a ≠ G') := Lib.hid (fun i y hy => by
        have h1 := (own_at (HBW.out.kids i y hy)).2.1
        have h2 := (own_at hO).1
        omega)
      have HW2 := Lib.hid ((HWr.out.trans (hb.mono hszV)).trans ((L5.below_alloc V2 (.cells #[.int .i64 F, .int .i64 L, .int .i64 R, .string H2, .slice (some ⟨G', 0, none⟩) K1.length gc', .slice (some ⟨D', 0, none⟩) S2.length dc'] 25)).mono (by omega)))
      have HBN := Lib.hid (heap_alloc_new V2 (.cells #[.int .i64 F, .int .i64 L, .int .i64 R, .string H2, .slice (some ⟨G', 0, none⟩) K1.length gc', .slice (some ⟨D', 0, none⟩) S2.length dc'] 25))
      have HOB : Hid ((V2.alloc (.cells #[.int .i64 F, .int .i64 L, .int .i64 R, .string H2, .slice (some ⟨G', 0, none⟩) K1.length gc', .slice (some ⟨D', 0, none⟩) S2.length dc'] 25)).ownsRow V.heap.size 25 6 (.slice (some ⟨gb, 0, none⟩) k cb) k (sixs bs)) := Lib.hid (by
        have h := HB2.out.own
        rw [hbl] at h
        exact h)
      clear c0 c1 c2 c3 c4 c5 hb hO hP HBW HXr HBr HWr
      go_wp2_with (at_builtin; refine wpList_append_lies _ rfl _ _ 63 rfl V.heap.size 25 i0 (.agg #[.int .i64 0, .int .i64 0, .int .i64 0, .string ⟨#[]⟩, .slice none 0 0, .slice none 0 0]) 6 88 Tryz.underlying63 hi hz0 hz1 hz2 rfl (by decide) (.slice (some ⟨gb, 0, none⟩) k cb) k _ rfl HOB.out ⟨V2.heap.size, 0, none⟩ 1 1 [.int .i64 F, .int .i64 L, .int .i64 R, .string H2, .slice (some ⟨G', 0, none⟩) K1.length gc', .slice (some ⟨D', 0, none⟩) S2.length dc'] rfl rfl (World.news_of_block (cs := #[.int .i64 F, .int .i64 L, .int .i64 R, .string H2, .slice (some ⟨G', 0, none⟩) K1.length gc', .slice (some ⟨D', 0, none⟩) S2.length dc']) (t := 25) (fr := (0, 0)) HBN.out) (by simp [Value.oneCell']) (by omega) (by unfold maxLen; omega) (by omega) (by simp; omega) (V2.heap.size + 1) (by simp) ?_; intro g' cap3 w3 hown' hgrow hat hlt3; have HWN := Lib.hid (HW2.out.trans (owns_apart HOB.out hgrow (Nat.le_refl _) (by simp; omega))); have HBWN := Lib.hid (HB2.out.push (x := ⟨F, L, R, H2, G', K1, gc', D', S2, dc'⟩) (own_less HO2.out (by omega)) (own_less HP2.out (by omega)) HNEW.out hgrow (by rw [hbl]; exact hown')); clear hat hlt3 hgrow)
      go_roundw
      case rel => exact ⟨k + 1, g', cap3, bs ++ [⟨F, L, R, H2, G', K1, gc', D', S2, dc'⟩], by omega, by simp [hbl], by simp, rfl, HBWN, Lib.hid (fun x hx => by
        rcases List.mem_append.1 hx with hx | hx
        · exact HAL.out x hx
        · obtain rfl := List.mem_singleton.1 hx
          exact ⟨rfl, rfl, rfl, rfl, rfl, rfl⟩), HWN⟩
      case measure => simp [intOf]; omega
    · obtain rfl : k = 8 := by omega
      obtain ⟨ka0, kc0, sb0, sd0, ka1, kc1, sb1, sd1, ka2, kc2, sb2, sd2, ka3, kc3, sb3, sd3, ka4, kc4, sb4, sd4, ka5, kc5, sb5, sd5, ka6, kc6, sb6, sd6, ka7, kc7, sb7, sd7, rfl⟩ := eight HAL.out hbl
      clear HAL hbl hlt hk
      have hbd := HBW.out.bound
      obtain ⟨hgb, hgb0⟩ := hbd
      have hx8 : ¬ ((8 : Nat) : Int) < 8 := by omega
      obtain ⟨c0, c1, c2, c3, c4, c5⟩ := HXr.out.box.cells
      go_upto_region 10 with fail
      (try rw [hjj])
      clear c0 c1 c2 c3 c4 c5 HXr
      have qq : wr.cell? ⟨gb, 0, none⟩ = some (.int .i64 F) := HBW.out.cell (i := 0) (j := 0) rfl rfl
      have uu := HBW.out.free 0
      go_upto_region 11 with fail
      replace HBW := Lib.hid (show BadW V.heap.size gb cb [⟨0, L, R, H2, ka0, K1, kc0, sb0, S2, sd0⟩, ⟨F, L, R, H2, ka1, K1, kc1, sb1, S2, sd1⟩, ⟨F, L, R, H2, ka2, K1, kc2, sb2, S2, sd2⟩, ⟨F, L, R, H2, ka3, K1, kc3, sb3, S2, sd3⟩, ⟨F, L, R, H2, ka4, K1, kc4, sb4, S2, sd4⟩, ⟨F, L, R, H2, ka5, K1, kc5, sb5, S2, sd5⟩, ⟨F, L, R, H2, ka6, K1, kc6, sb6, S2, sd6⟩, ⟨F, L, R, H2, ka7, K1, kc7, sb7, S2, sd7⟩] (wr.setCell ⟨gb, 0, none⟩ (.int .i64 0)) from HBW.out.put 0 0 ⟨F, L, R, H2, ka0, K1, kc0, sb0, S2, sd0⟩ ⟨0, L, R, H2, ka0, K1, kc0, sb0, S2, sd0⟩ (.int .i64 0) rfl rfl rfl rfl rfl rfl rfl rfl)
      replace HWr := Lib.hid (HWr.out.setCell (p := ⟨gb, 0, none⟩) hgb0 (.int .i64 0))
      clear qq uu
      generalize wr.setCell ⟨gb, 0, none⟩ (.int .i64 0) = w1 at *
      have qq : w1.cell? ⟨gb, 7, none⟩ = some (.int .i64 L) := HBW.out.cell (i := 1) (j := 1) rfl rfl
      have uu := HBW.out.free 7
      go_upto_region 12 with fail
      replace HBW := Lib.hid (show BadW V.heap.size gb cb [⟨0, L, R, H2, ka0, K1, kc0, sb0, S2, sd0⟩, ⟨F, 0, R, H2, ka1, K1, kc1, sb1, S2, sd1⟩, ⟨F, L, R, H2, ka2, K1, kc2, sb2, S2, sd2⟩, ⟨F, L, R, H2, ka3, K1, kc3, sb3, S2, sd3⟩, ⟨F, L, R, H2, ka4, K1, kc4, sb4, S2, sd4⟩, ⟨F, L, R, H2, ka5, K1, kc5, sb5, S2, sd5⟩, ⟨F, L, R, H2, ka6, K1, kc6, sb6, S2, sd6⟩, ⟨F, L, R, H2, ka7, K1, kc7, sb7, S2, sd7⟩] (w1.setCell ⟨gb, 7, none⟩ (.int .i64 0)) from HBW.out.put 1 1 ⟨F, L, R, H2, ka1, K1, kc1, sb1, S2, sd1⟩ ⟨F, 0, R, H2, ka1, K1, kc1, sb1, S2, sd1⟩ (.int .i64 0) rfl rfl rfl rfl rfl rfl rfl rfl)
      replace HWr := Lib.hid (HWr.out.setCell (p := ⟨gb, 7, none⟩) hgb0 (.int .i64 0))
      clear qq uu
      generalize w1.setCell ⟨gb, 7, none⟩ (.int .i64 0) = w2 at *
      have qq : w2.cell? ⟨gb, 13, none⟩ = some (.int .i64 L) := HBW.out.cell (i := 2) (j := 1) rfl rfl
      have uu := HBW.out.free 13
      go_upto_region 13 with fail
      replace HBW := Lib.hid (show BadW V.heap.size gb cb [⟨0, L, R, H2, ka0, K1, kc0, sb0, S2, sd0⟩, ⟨F, 0, R, H2, ka1, K1, kc1, sb1, S2, sd1⟩, ⟨F, 256, R, H2, ka2, K1, kc2, sb2, S2, sd2⟩, ⟨F, L, R, H2, ka3, K1, kc3, sb3, S2, sd3⟩, ⟨F, L, R, H2, ka4, K1, kc4, sb4, S2, sd4⟩, ⟨F, L, R, H2, ka5, K1, kc5, sb5, S2, sd5⟩, ⟨F, L, R, H2, ka6, K1, kc6, sb6, S2, sd6⟩, ⟨F, L, R, H2, ka7, K1, kc7, sb7, S2, sd7⟩] (w2.setCell ⟨gb, 13, none⟩ (.int .i64 256)) from HBW.out.put 2 1 ⟨F, L, R, H2, ka2, K1, kc2, sb2, S2, sd2⟩ ⟨F, 256, R, H2, ka2, K1, kc2, sb2, S2, sd2⟩ (.int .i64 256) rfl rfl rfl rfl rfl rfl rfl rfl)
      replace HWr := Lib.hid (HWr.out.setCell (p := ⟨gb, 13, none⟩) hgb0 (.int .i64 256))
      clear qq uu
      generalize w2.setCell ⟨gb, 13, none⟩ (.int .i64 256) = w3 at *
      have HXr := Lib.hid (HX.out.on HWr.out)
      obtain ⟨c0, c1, c2, c3, c4, c5⟩ := HXr.out.box.cells
      have qq : w3.cell? ⟨gb, 20, none⟩ = some (.int .i64 R) := HBW.out.cell (i := 3) (j := 2) rfl rfl
      have uu := HBW.out.free 20
      go_upto_region 14 with fail
      clear c0 c1 c2 c3 c4 c5 HXr
      replace HBW := Lib.hid (show BadW V.heap.size gb cb [⟨0, L, R, H2, ka0, K1, kc0, sb0, S2, sd0⟩, ⟨F, 0, R, H2, ka1, K1, kc1, sb1, S2, sd1⟩, ⟨F, 256, R, H2, ka2, K1, kc2, sb2, S2, sd2⟩, ⟨F, L, F, H2, ka3, K1, kc3, sb3, S2, sd3⟩, ⟨F, L, R, H2, ka4, K1, kc4, sb4, S2, sd4⟩, ⟨F, L, R, H2, ka5, K1, kc5, sb5, S2, sd5⟩, ⟨F, L, R, H2, ka6, K1, kc6, sb6, S2, sd6⟩, ⟨F, L, R, H2, ka7, K1, kc7, sb7, S2, sd7⟩] (w3.setCell ⟨gb, 20, none⟩ (.int .i64 F)) from HBW.out.put 3 2 ⟨F, L, R, H2, ka3, K1, kc3, sb3, S2, sd3⟩ ⟨F, L, F, H2, ka3, K1, kc3, sb3, S2, sd3⟩ (.int .i64 F) rfl rfl rfl rfl rfl rfl rfl rfl)
      replace HWr := Lib.hid (HWr.out.setCell (p := ⟨gb, 20, none⟩) hgb0 (.int .i64 F))
      clear qq uu
      generalize w3.setCell ⟨gb, 20, none⟩ (.int .i64 F) = w4 at *
      go_wp2_with fail
      refine (HR8.out _).mono ?_
      rintro e VR ⟨rfl, hb⟩
      have hszr := HWr.out.size
      replace HBW := Lib.hid (HBW.out.below hb)
      replace HWr := Lib.hid (HWr.out.trans (hb.mono hszr))
      clear hb hszr
      have qq : VR.cell? ⟨gb, 27, none⟩ = some (.string H2) := HBW.out.cell (i := 4) (j := 3) rfl rfl
      have uu := HBW.out.free 27
      go_upto_region 15 with fail
      replace HBW := Lib.hid (show BadW V.heap.size gb cb [⟨0, L, R, H2, ka0, K1, kc0, sb0, S2, sd0⟩, ⟨F, 0, R, H2, ka1, K1, kc1, sb1, S2, sd1⟩, ⟨F, 256, R, H2, ka2, K1, kc2, sb2, S2, sd2⟩, ⟨F, L, F, H2, ka3, K1, kc3, sb3, S2, sd3⟩, ⟨F, L, R, K8, ka4, K1, kc4, sb4, S2, sd4⟩, ⟨F, L, R, H2, ka5, K1, kc5, sb5, S2, sd5⟩, ⟨F, L, R, H2, ka6, K1, kc6, sb6, S2, sd6⟩, ⟨F, L, R, H2, ka7, K1, kc7, sb7, S2, sd7⟩] (VR.setCell ⟨gb, 27, none⟩ (.string K8)) from HBW.out.put 4 3 ⟨F, L, R, H2, ka4, K1, kc4, sb4, S2, sd4⟩ ⟨F, L, R, K8, ka4, K1, kc4, sb4, S2, sd4⟩ (.string K8) rfl rfl rfl rfl rfl rfl rfl rfl)
      replace HWr := Lib.hid (HWr.out.setCell (p := ⟨gb, 27, none⟩) hgb0 (.string K8))
      clear qq uu
      generalize VR.setCell ⟨gb, 27, none⟩ (.string K8) = w5 at *
      have hka5 := (own_at (HBW.out.kids 5 _ rfl)).1
      have qq : w5.cell? ⟨gb, 34, none⟩ = some (.slice (some ⟨ka5, 0, none⟩) (K1).length kc5) := HBW.out.cell (i := 5) (j := 4) rfl rfl
      have hadd : ∀ m, (⟨ka5, 0, none⟩ : Addr).add m = ⟨ka5, m, none⟩ := addz ka5
      have kk : w5.cell? ⟨ka5, jj, none⟩ = some (.int .i64 Kj) := by
        have h := (HBW.out.kids 5 _ rfl).cells (g := ka5) rfl _ _ (numCells_get K1 jj _ HKJ.out)
        rwa [addz] at h
      have ku : w5.frozen? ⟨ka5, jj, none⟩ = false := (HBW.out.kids 5 _ rfl).frozenAt jj
      have hjL' : (jj : Int) < (K1.length : Int) := by have := HJL.out; omega
      go_upto_region 16 with fail
      show Code.wp _ _ _ _ (w5.setCell ⟨ka5, jj, none⟩ (.int .i64 4096))
      replace HBW := Lib.hid (show BadW V.heap.size gb cb [⟨0, L, R, H2, ka0, K1, kc0, sb0, S2, sd0⟩, ⟨F, 0, R, H2, ka1, K1, kc1, sb1, S2, sd1⟩, ⟨F, 256, R, H2, ka2, K1, kc2, sb2, S2, sd2⟩, ⟨F, L, F, H2, ka3, K1, kc3, sb3, S2, sd3⟩, ⟨F, L, R, K8, ka4, K1, kc4, sb4, S2, sd4⟩, ⟨F, L, R, H2, ka5, K1.set jj 4096, kc5, sb5, S2, sd5⟩, ⟨F, L, R, H2, ka6, K1, kc6, sb6, S2, sd6⟩, ⟨F, L, R, H2, ka7, K1, kc7, sb7, S2, sd7⟩] (w5.setCell ⟨ka5, jj, none⟩ (.int .i64 4096)) from HBW.out.putK 5 jj ⟨F, L, R, H2, ka5, K1, kc5, sb5, S2, sd5⟩ 4096 rfl (by simp [sixs, six]))
      replace HWr := Lib.hid (HWr.out.setCell (p := ⟨ka5, jj, none⟩) hka5 (.int .i64 4096))
      clear qq kk ku hadd hka5 hjL'
      generalize w5.setCell ⟨ka5, jj, none⟩ (.int .i64 4096) = wA at *
      have hszr := HWr.out.size
      have HBA := Lib.hid (HBW.out.below (L5.below_alloc wA (.cells #[.int .i64 7] 3)))
      have HWA := Lib.hid (HWr.out.trans ((L5.below_alloc wA (.cells #[.int .i64 7] 3)).mono hszr))
      have qq : (wA.alloc (.cells #[.int .i64 7] 3)).cell? ⟨gb, 40, none⟩ = some (.slice (some ⟨ka6, 0, none⟩) (K1).length kc6) := HBA.out.cell (i := 6) (j := 4) rfl rfl
      have qq0 : wA.cell? ⟨gb, 40, none⟩ = some (.slice (some ⟨ka6, 0, none⟩) (K1).length kc6) := HBW.out.cell (i := 6) (j := 4) rfl rfl
      have HBL := Lib.hid (heap_alloc_new wA (.cells #[.int .i64 7] 3))
      go_upto_region 17 with (at_builtin; go_loud (refine wpList_append_lies _ rfl _ _ 22 rfl V.heap.size 3 i1 (.int .i64 0) 1 8 Tryz.underlying22 hj hy0 hy1 hy2 rfl (by decide) (.slice (some ⟨ka6, 0, none⟩) (K1).length kc6) K1.length _ rfl (HBA.out.kids 6 _ rfl) ⟨wA.heap.size, 0, none⟩ 1 1 [.int .i64 7] rfl rfl (World.news_of_block (cs := #[.int .i64 7]) (t := 3) (fr := (0, 0)) HBL.out) (by simp [Value.oneCell']) (by omega) (by have := HKL.out; unfold maxLen; omega) (by have := HKL.out; omega) (by simp; omega) (wA.heap.size + 1) (by simp) ?_; intro g6 e6 w3 hown3 hgrow3 hat3 hlt3; have hbg := HBA.out.grown (i := 6) rfl hgrow3; have rr : w3.cell? ⟨gb, 40, none⟩ = some (.slice (some ⟨ka6, 0, none⟩) (K1).length kc6) := row6_cell hbg (i := 6) (j := 4) rfl rfl; have uu : w3.frozen? ⟨gb, 40, none⟩ = false := hbg.frozenAt 40; have HWN := Lib.hid ((HWA.out.trans (L5.own_apart (q := V.heap.size) (HBA.out.kids 6 _ rfl) hgrow3 (Nat.le_refl _) (by simp; omega))).setCell (p := ⟨gb, 40, none⟩) hgb0 (.slice (some ⟨g6, 0, none⟩) (K1.length + 1) e6)); have HBN := Lib.hid (show BadW V.heap.size gb cb [⟨0, L, R, H2, ka0, K1, kc0, sb0, S2, sd0⟩, ⟨F, 0, R, H2, ka1, K1, kc1, sb1, S2, sd1⟩, ⟨F, 256, R, H2, ka2, K1, kc2, sb2, S2, sd2⟩, ⟨F, L, F, H2, ka3, K1, kc3, sb3, S2, sd3⟩, ⟨F, L, R, K8, ka4, K1, kc4, sb4, S2, sd4⟩, ⟨F, L, R, H2, ka5, K1.set jj 4096, kc5, sb5, S2, sd5⟩, ⟨F, L, R, H2, g6, K1 ++ [7], e6, sb6, S2, sd6⟩, ⟨F, L, R, H2, ka7, K1, kc7, sb7, S2, sd7⟩] (w3.setCell ⟨gb, 40, none⟩ (.slice (some ⟨g6, 0, none⟩) (K1.length + 1) e6)) from HBA.out.grow (cap' := e6) (m := K1.length + 1) (ls := K1 ++ [7]) 6 ⟨F, L, R, H2, ka6, K1, kc6, sb6, S2, sd6⟩ rfl hgrow3 (by simpa [Value.ownBlock] using hat3) (by simp) (by rw [numCells_append]; exact hown3) rfl); clear hat3 hlt3 hgrow3 hbg hown3))
      clear HBW HWr HBA HWA HBL qq qq0 rr uu hszr
      have HBW := HBN
      have HWr := HWN
      clear HBN HWN
      generalize w3.setCell ⟨gb, 40, none⟩ (.slice (some ⟨g6, 0, none⟩) (K1.length + 1) e6) = wB at *
      have hszr := HWr.out.size
      have HBA := Lib.hid (HBW.out.below (L5.below_alloc wB (.cells #[.string ⟨#[]⟩] 9)))
      have HOL := Lib.hid (World.ownsRow_lit (base := wB.heap.size) (e := 9) (size := 1) wB #[.string ⟨#[]⟩] 1 (Nat.le_refl _) (by unfold maxLen; omega) rfl)
      have qq : (wB.alloc (.cells #[.string ⟨#[]⟩] 9)).cell? ⟨gb, 47, none⟩ = some (.slice (some ⟨sb7, 0, none⟩) (S2).length sd7) := HBA.out.cell (i := 7) (j := 5) rfl rfl
      have qq0 : wB.cell? ⟨gb, 47, none⟩ = some (.slice (some ⟨sb7, 0, none⟩) (S2).length sd7) := HBW.out.cell (i := 7) (j := 5) rfl rfl
      go_upto_region 18 with (at_builtin; go_loud (refine wpList_seps rfl _ _ 23 rfl wB.heap.size 9 i2 (.string ⟨#[]⟩) Tryz.underlying23 hk0 hv0 hv1 hv2 rfl wB.heap.size 1 1 _ rfl HOL.out ⟨sb7, 0, none⟩ S2.length sd7 (L5.strCells S2) rfl (by simp [L5.strCells]) (fun j u hu => (HBA.out.seps 7 _ rfl).cells (g := sb7) rfl j u hu) (strs_one S2) (by omega) (by have := HSL.out; omega) (by simp) ?_; intro gs es w3 hown3 hgrow3; have hbe := (L5.below_alloc wB (.cells #[.string ⟨#[]⟩] 9)).trans (L5.own_apart (q := wB.heap.size) HOL.out hgrow3 (Nat.le_refl _) (by simp)); have HB3 := Lib.hid (HBW.out.below hbe); have rr : w3.cell? ⟨gb, 47, none⟩ = some (.slice (some ⟨sb7, 0, none⟩) (S2).length sd7) := HB3.out.cell (i := 7) (j := 5) rfl rfl; have uu : w3.frozen? ⟨gb, 47, none⟩ = false := HB3.out.free 47; have HWN := Lib.hid ((HWr.out.trans (hbe.mono hszr)).setCell (p := ⟨gb, 47, none⟩) hgb0 (.slice (some ⟨gs, 0, none⟩) (1 + S2.length) es)); have HBN := Lib.hid (show BadW V.heap.size gb cb [⟨0, L, R, H2, ka0, K1, kc0, sb0, S2, sd0⟩, ⟨F, 0, R, H2, ka1, K1, kc1, sb1, S2, sd1⟩, ⟨F, 256, R, H2, ka2, K1, kc2, sb2, S2, sd2⟩, ⟨F, L, F, H2, ka3, K1, kc3, sb3, S2, sd3⟩, ⟨F, L, R, K8, ka4, K1, kc4, sb4, S2, sd4⟩, ⟨F, L, R, H2, ka5, K1.set jj 4096, kc5, sb5, S2, sd5⟩, ⟨F, L, R, H2, g6, K1 ++ [7], e6, sb6, S2, sd6⟩, ⟨F, L, R, H2, ka7, K1, kc7, gs, (⟨#[]⟩ : ByteArray) :: S2, es⟩] (w3.setCell ⟨gb, 47, none⟩ (.slice (some ⟨gs, 0, none⟩) (1 + S2.length) es)) from HB3.out.putS (cap' := es) (m := 1 + S2.length) (ls := (⟨#[]⟩ : ByteArray) :: S2) 7 ⟨F, L, R, H2, ka7, K1, kc7, sb7, S2, sd7⟩ rfl (by simp; omega) (own_less hown3 hszr) rfl); clear hbe hgrow3 hown3 HB3))
      clear HBW HWr HBA HOL qq qq0 rr uu hszr
      have HBW := HBN
      have HWr := HWN
      clear HBN HWN
      generalize w3.setCell ⟨gb, 47, none⟩ (.slice (some ⟨gs, 0, none⟩) (1 + S2.length) es) = wC at *
      have hszr := HWr.out.size
      have HBA := Lib.hid (HBW.out.below (L5.below_alloc wC (.cells #[.int .i64 7] 3)))
      have HWA := Lib.hid (HWr.out.trans ((L5.below_alloc wC (.cells #[.int .i64 7] 3)).mono hszr))
      have qq : (wC.alloc (.cells #[.int .i64 7] 3)).cell? ⟨gb, 46, none⟩ = some (.slice (some ⟨ka7, 0, none⟩) (K1).length kc7) := HBA.out.cell (i := 7) (j := 4) rfl rfl
      have qq0 : wC.cell? ⟨gb, 46, none⟩ = some (.slice (some ⟨ka7, 0, none⟩) (K1).length kc7) := HBW.out.cell (i := 7) (j := 4) rfl rfl
      have HBL := Lib.hid (heap_alloc_new wC (.cells #[.int .i64 7] 3))
      go_upto_region 19 with (at_builtin; go_loud (refine wpList_append_lies _ rfl _ _ 22 rfl V.heap.size 3 i1 (.int .i64 0) 1 8 Tryz.underlying22 hj hy0 hy1 hy2 rfl (by decide) (.slice (some ⟨ka7, 0, none⟩) (K1).length kc7) K1.length _ rfl (HBA.out.kids 7 _ rfl) ⟨wC.heap.size, 0, none⟩ 1 1 [.int .i64 7] rfl rfl (World.news_of_block (cs := #[.int .i64 7]) (t := 3) (fr := (0, 0)) HBL.out) (by simp [Value.oneCell']) (by omega) (by have := HKL.out; unfold maxLen; omega) (by have := HKL.out; omega) (by simp; omega) (wC.heap.size + 1) (by simp) ?_; intro g7 e7 w3 hown3 hgrow3 hat3 hlt3; have hbg := HBA.out.grown (i := 7) rfl hgrow3; have rr : w3.cell? ⟨gb, 46, none⟩ = some (.slice (some ⟨ka7, 0, none⟩) (K1).length kc7) := row6_cell hbg (i := 7) (j := 4) rfl rfl; have uu : w3.frozen? ⟨gb, 46, none⟩ = false := hbg.frozenAt 46; have HWN := Lib.hid ((HWA.out.trans (L5.own_apart (q := V.heap.size) (HBA.out.kids 7 _ rfl) hgrow3 (Nat.le_refl _) (by simp; omega))).setCell (p := ⟨gb, 46, none⟩) hgb0 (.slice (some ⟨g7, 0, none⟩) (K1.length + 1) e7)); have HBN := Lib.hid (show BadW V.heap.size gb cb [⟨0, L, R, H2, ka0, K1, kc0, sb0, S2, sd0⟩, ⟨F, 0, R, H2, ka1, K1, kc1, sb1, S2, sd1⟩, ⟨F, 256, R, H2, ka2, K1, kc2, sb2, S2, sd2⟩, ⟨F, L, F, H2, ka3, K1, kc3, sb3, S2, sd3⟩, ⟨F, L, R, K8, ka4, K1, kc4, sb4, S2, sd4⟩, ⟨F, L, R, H2, ka5, K1.set jj 4096, kc5, sb5, S2, sd5⟩, ⟨F, L, R, H2, g6, K1 ++ [7], e6, sb6, S2, sd6⟩, ⟨F, L, R, H2, g7, K1 ++ [7], e7, gs, (⟨#[]⟩ : ByteArray) :: S2, es⟩] (w3.setCell ⟨gb, 46, none⟩ (.slice (some ⟨g7, 0, none⟩) (K1.length + 1) e7)) from HBA.out.grow (cap' := e7) (m := K1.length + 1) (ls := K1 ++ [7]) 7 ⟨F, L, R, H2, ka7, K1, kc7, gs, (⟨#[]⟩ : ByteArray) :: S2, es⟩ rfl hgrow3 (by simpa [Value.ownBlock] using hat3) (by simp) (by rw [numCells_append]; exact hown3) rfl); clear hat3 hlt3 hgrow3 hbg hown3))
      clear HBW HWr HBA HWA HBL qq qq0 rr uu hszr
      have HBW := HBN
      have HWr := HWN
      clear HBN HWN
      generalize w3.setCell ⟨gb, 46, none⟩ (.slice (some ⟨g7, 0, none⟩) (K1.length + 1) e7) = wD at *
      obtain ⟨BS, hBS⟩ : ∃ BS : List Bd, [⟨0, L, R, H2, ka0, K1, kc0, sb0, S2, sd0⟩, ⟨F, 0, R, H2, ka1, K1, kc1, sb1, S2, sd1⟩, ⟨F, 256, R, H2, ka2, K1, kc2, sb2, S2, sd2⟩, ⟨F, L, F, H2, ka3, K1, kc3, sb3, S2, sd3⟩, ⟨F, L, R, K8, ka4, K1, kc4, sb4, S2, sd4⟩, ⟨F, L, R, H2, ka5, K1.set jj 4096, kc5, sb5, S2, sd5⟩, ⟨F, L, R, H2, g6, K1 ++ [7], e6, sb6, S2, sd6⟩, ⟨F, L, R, H2, g7, K1 ++ [7], e7, gs, (⟨#[]⟩ : ByteArray) :: S2, es⟩] = BS := ⟨_, rfl⟩
      have HNO := Lib.hid (each_bad (F := F) (L := L) (R := R) HK8.out hH2s HKL.out HKS.out HJL.out hq ka0 ka1 ka2 ka3 ka4 ka5 g6 g7 kc0 kc1 kc2 kc3 kc4 kc5 e6 e7 sb0 sb1 sb2 sb3 sb4 sb5 sb6 gs sd0 sd1 sd2 sd3 sd4 sd5 sd6 es)
      have hBS8 : BS.length = 8 := by rw [← hBS]; rfl
      rw [hBS] at HBW HNO
      clear hBS
      have HLD := Lib.hid (fun W' (hb : Below wD.heap.size wD W') i x (hx : BS[i]? = some x) => (HBW.out.below hb).load hx)
      generalize (⟨gb, 0, none⟩ : Addr) = ga at HLD ⊢
      have HBB := Lib.hid (HB.out.trans' HWr.out)
      clear HR8 HC2 HX HM
      go_wp2_with fail
      go_loopw [10] (fun iv wr => ∃ k : Nat, k ≤ 8 ∧ iv = .int .i64 k ∧ Hid (Below wD.heap.size wD wr)) (fun iv _ => 8 - (intOf iv).toNat)
      case atStart => exact ⟨0, by omega, rfl, Lib.hid (Below.refl _ _)⟩
      case round =>
        obtain ⟨k, hk, rfl, HWk⟩ := hrel
        by_cases hlt : k < 8
        · have hlt' : (k : Int) < 8 := by omega
          have hk0 : (0 : Int) ≤ k := by omega
          obtain ⟨⟨xf, xl, xr, xh, xa, xks, xc, xb, xss, xd⟩, hx⟩ : ∃ x, BS[k]? = some x := ⟨_, List.getElem?_eq_getElem (by omega)⟩
          have hno := HNO.out k _ hx
          simp only at hno
          obtain ⟨hno1, hno2, hno3⟩ := hno
          have HEx := Lib.hid (fun W (h : L7.Sizes W) (h2 : Rows2 W (some ⟨xa, 0, none⟩) xks.length xc (some ⟨xb, 0, none⟩) xss.length xd xks xss) => encT xf xl xr xh (some ⟨xa, 0, none⟩) xks.length xc (some ⟨xb, 0, none⟩) xss.length xd xks xss q ⟨#[]⟩ 3 (enc_form hmb hno1) (by omega) (by omega) W h h2)
          have HMx := Lib.hid (fun W (h : L7.Sizes W) (h2 : Rows2 W (some ⟨xa, 0, none⟩) xks.length xc (some ⟨xb, 0, none⟩) xss.length xd xks xss) => may_any xf xl xr xh (some ⟨xa, 0, none⟩) xks.length xc (some ⟨xb, 0, none⟩) xss.length xd xks xss q W h h2 (by omega) (by omega))
          rw [decide_eq_false hno1] at HMx
          obtain ⟨p0, p1, p2, p3, p4, p5⟩ := HLD.out _ HWk.out k _ hx
          simp only at p0 p1 p2 p3 p4 p5
          have HLx := Lib.hid (fun W' (hb : Below wD.heap.size wD W') => (HBW.out.below hb).rows hx)
          simp only at HLx
          have HBk := Lib.hid (HBB.out.trans' HWk.out)
          have HGk := Lib.hid (HG0.out.below HG0.out.lt HBk.out)
          clear hno1 hno2 hno3
          go_wp2_with fail
          refine (HEx.out _ HGk.out (HLx.out _ HWk.out)).mono ?_
          rintro e V3 ⟨rfl, hb⟩
          have HWj := Lib.hid (HWk.out.trans' hb)
          have HGj := Lib.hid (HG0.out.below HG0.out.lt (HBk.out.trans' hb))
          clear hb p0 p1 p2 p3 p4 p5 HWk HGk HBk
          obtain ⟨p0, p1, p2, p3, p4, p5⟩ := HLD.out _ HWj.out k _ hx
          simp only at p0 p1 p2 p3 p4 p5
          go_wp2_with fail
          refine (HMx.out _ HGj.out (HLx.out _ HWj.out)).mono ?_
          rintro e V4 ⟨rfl, hb⟩
          have HWi := Lib.hid (HWj.out.trans' hb)
          clear hb p0 p1 p2 p3 p4 p5 HWj HGj HEx HMx HLx
          go_wp2_with fail
          go_roundw
          case rel => exact ⟨k + 1, by omega, by simp, HWi⟩
          case measure => simp [intOf]; omega
        · have hx8b : ¬ (k : Int) < 8 := by omega
          have HBk := Lib.hid (HBB.out.trans' HWk.out)
          have HGk := Lib.hid (HG0.out.below HG0.out.lt HBk.out)
          clear HBW HNO HLD HWr HBB hBS8
          go_wp2_with fail
          refine (HFX.out _ HGk.out).mono ?_
          rintro e V9 ⟨rfl, hb⟩
          go_wp2_with fail
          go_ret
          exact ⟨rfl, HBk.out.trans' hb⟩
end Go.Proofs.YtembccehokodeaaGreatDoor
