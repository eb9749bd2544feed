/-
  The walk of the document's Decode.
-/
import Derived.Test.YtpehkikdmckldaaGreatDoorJNDEnc
import Derived.Test.YtpehkikdmckldaaGreatDoorJNRead
import Derived.Test.YtpehkikdmckldaaGreatDoorJ15
import Derived.Test.YtpehkikdmckldaaGreatDoorJ06
import Derived.Test.YtpehkikdmckldaaGreatDoorJ18
namespace Go.Proofs.YtpehkikdmckldaaGreatDoor
open Go.RowKit NP
set_option linter.unusedVariables false
set_option linter.unusedSimpArgs false

def DecD (s : ByteArray) (e : Ending) (w' : World) : Prop :=
  (∃ l G cap, dec s = some l ∧ e = .returned (.tuple #[lv l.self l.right l.high G l.items.length cap, .int .i64 0]) ∧ Lies5 w' w'.heap.size G l.items) ∨
  (dec s = none ∧ e = .returned (.tuple #[lv 0 0 ⟨#[]⟩ none 0 0, .int .i64 3]))
theorem allI_none {l : List (Option It)} (h : none ∈ l) : allI l = none := by
  induction l with
  | nil => simp at h
  | cons x l ih =>
    cases x with
    | none => rfl
    | some x =>
      have h' : none ∈ l := by simpa using h
      unfold allI
      rw [ih h']
      rfl
theorem allI_some (xs : List It) : allI (xs.map some) = some xs := by
  induction xs with
  | nil => rfl
  | cons x xs ih =>
    simp only [List.map_cons]
    unfold allI
    rw [ih]
    rfl
set_option maxHeartbeats 8000000 in
set_option maxRecDepth 100000 in
theorem rdec_any (s : ByteArray) (w : World) (hg : Glo w) (hs : s.size ≤ 1000000) :
    Calls Tryz.prog 14 #[.string s] w fun e w' => DecD s e w' ∧ Below w.heap.size w w' := by
  obtain ⟨i0, hi, hz0, hz1, hz2⟩ := info_parts Tryz.infoItemD
  have hb0 := lbox_below 34 0 0 ⟨#[]⟩ none 0 0 w
  have HB := Lib.hid hb0
  have HK := Lib.hid (lbox_new 34 0 0 ⟨#[]⟩ none 0 0 w)
  have HG0 := Lib.hid hg
  have HG := Lib.hid (hg.on hb0)
  have HOP := Lib.hid (fun W (h : L7.Sizes W) => L7.refOpen_any s W h)
  clear hb0 hg
  by_cases hgood : ¬ (L7.mayBe s.size = true ∧ L7.HP.good s.data.toList)
  · have HD : Hid (dec s = none) := Lib.hid (dec_parse_none (by unfold parse; rw [if_neg hgood]))
    have hv : L7.opnV s = .tuple #[.agg #[.int .i64 0, .int .i64 0, .int .i64 0, .int .i64 0, .int .i64 0], .string ⟨#[]⟩, .int .i64 3] := by
      unfold L7.opnV
      rw [L7.HP.opn_bad hgood]
      rfl
    rw [hv] at HOP
    clear hgood hv
    go_enter Tryz.func14, Tryz.ntmps14
    go_wp2_with fail
    refine (HOP.out _ HG.out.sizes).mono ?_
    rintro e w2 ⟨rfl, hb⟩
    replace hb := hb.trans' (L5.below_alloc w2 (.cells #[.int .i64 0, .int .i64 0, .int .i64 0, .int .i64 0, .int .i64 0] 62))
    replace HB := Lib.hid (HB.out.trans' hb)
    replace HK := Lib.hid (HK.out.below hb)
    clear hb HG
    obtain ⟨x0, x1, x2, x3⟩ := HK.out.cells
    obtain ⟨f0, f1, f2, f3⟩ := HK.out.free
    go_wp2_with fail
    obtain ⟨r0, r1, r2, r3⟩ := (setL_box HK.out 0 0 ⟨#[]⟩ none 0 0).cells
    unfold setL at r0 r1 r2 r3
    refine bodyPost_ret (v := .tuple #[lv 0 0 ⟨#[]⟩ none 0 0, .int .i64 3]) (by simp [results, Tryz.results14, go_sem, r0, r1, r2, r3]) rfl ⟨.inr ⟨HD.out, rfl⟩, ?_⟩
    exact setL_below HB.out (Nat.le_refl _) 0 0 ⟨#[]⟩ none 0 0
  have hgd : L7.mayBe s.size = true ∧ L7.HP.good s.data.toList := Classical.not_not.1 hgood
  have hok : L7.HP.Ok (L7.HP.headOf s.data.toList) := hgd.2.1
  have hsz := mayBe_le hgd.1
  obtain ⟨B0, hB0⟩ : ∃ B0, s.extract 16 s.size = B0 := ⟨_, rfl⟩
  have hBl : B0.data.toList = s.data.toList.drop 16 := by
    rw [← hB0, Lib.extract_data, List.take_of_length_le (by simp)]
  have hBs : B0.size + 16 = s.size := by rw [← hB0]; simp; omega
  have hv : L7.opnV s = .tuple #[L7.hv (L7.HP.headOf s.data.toList), .string B0, .int .i64 0] := by
    unfold L7.opnV
    rw [L7.HP.opn_good hgd.1 hgd.2, hB0]
  obtain ⟨hk, hl, hc, hr, hs5, hhd⟩ : ∃ k l c r f, L7.HP.headOf s.data.toList = ⟨k, l, c, r, f⟩ := ⟨_, _, _, _, _, rfl⟩
  rw [hhd] at hv hok
  obtain ⟨n, rfl⟩ : ∃ n : Nat, hc = n := Int.eq_ofNat_of_zero_le hok.2.2.2.2.1
  have hn : n ≤ 65535 := by have h := hok.2.2.2.2.2.1; simp only at h; omega
  have HP := Lib.hid (reads_of hgd hBl hhd)
  simp only [L7.hv] at hv
  rw [hv] at HOP
  by_cases hk2 : hk ≠ 2
  · have HD : Hid (dec s = none) := Lib.hid (dec_kind (by rw [hhd]; exact hk2))
    have hkn : (hk != 2) = true := by simpa using hk2
    clear hgood hgd hok hBl hB0 hv hhd hk2
    go_enter Tryz.func14, Tryz.ntmps14
    go_wp2_with fail
    refine (HOP.out _ HG.out.sizes).mono ?_
    rintro e w2 ⟨rfl, hb⟩
    have HH := Lib.hid (show L7.Bx 62 w2.heap.size ⟨hk, hl, n, hr, hs5⟩ (w2.alloc (.cells #[.int .i64 hk, .int .i64 hl, .int .i64 n, .int .i64 hr, .int .i64 hs5] 62)) from heap_alloc_new _ _)
    replace hb := hb.trans' (L5.below_alloc w2 (.cells #[.int .i64 hk, .int .i64 hl, .int .i64 n, .int .i64 hr, .int .i64 hs5] 62))
    replace HB := Lib.hid (HB.out.trans' hb)
    replace HK := Lib.hid (HK.out.below hb)
    clear hb HG
    obtain ⟨y0, y1, y2, y3, y4⟩ := HH.out.cells
    simp only at y0 y1 y2 y3 y4
    obtain ⟨x0, x1, x2, x3⟩ := HK.out.cells
    obtain ⟨f0, f1, f2, f3⟩ := HK.out.free
    go_wp2_with fail
    obtain ⟨r0, r1, r2, r3⟩ := (setL_box HK.out 0 0 ⟨#[]⟩ none 0 0).cells
    unfold setL at r0 r1 r2 r3
    refine bodyPost_ret (v := .tuple #[lv 0 0 ⟨#[]⟩ none 0 0, .int .i64 3]) (by simp [results, Tryz.results14, go_sem, r0, r1, r2, r3]) rfl ⟨.inr ⟨HD.out, rfl⟩, ?_⟩
    exact setL_below HB.out (Nat.le_refl _) 0 0 ⟨#[]⟩ none 0 0
  obtain rfl : hk = 2 := Classical.not_not.1 hk2
  clear hgood hgd hok hBl hB0 hv hhd hk2
  have HRT := Lib.hid (fun (i : Nat) W (hi : i ≤ B0.size) => rtext_any B0 i W hi (by omega))
  have HRN := Lib.hid (fun W => rtext_neg B0 (-1) W (by omega))
  go_enter Tryz.func14, Tryz.ntmps14
  go_wp2_with fail
  refine (HOP.out _ HG.out.sizes).mono ?_
  rintro e w2 ⟨rfl, hb⟩
  have HH := Lib.hid (show L7.Bx 62 w2.heap.size ⟨2, hl, n, hr, hs5⟩ (w2.alloc (.cells #[.int .i64 2, .int .i64 hl, .int .i64 n, .int .i64 hr, .int .i64 hs5] 62)) from heap_alloc_new _ _)
  have hlt2 : w.heap.size < w2.heap.size := by have := HK.out.lt; have := hb.size; omega
  replace hb := hb.trans' (L5.below_alloc w2 (.cells #[.int .i64 2, .int .i64 hl, .int .i64 n, .int .i64 hr, .int .i64 hs5] 62))
  replace HB := Lib.hid (HB.out.trans' hb)
  replace HK := Lib.hid (HK.out.below hb)
  replace HG := Lib.hid (HG.out.on hb)
  clear hb HOP
  obtain ⟨y0, y1, y2, y3, y4⟩ := HH.out.cells
  simp only at y0 y1 y2 y3 y4
  go_wp2_with fail
  refine (HRT.out 0 _ (by omega)).mono ?_
  rintro e w4 ⟨h4, hb⟩
  replace HB := Lib.hid (HB.out.trans' hb)
  replace HK := Lib.hid (HK.out.below hb)
  replace HG := Lib.hid (HG.out.on hb)
  replace HH := Lib.hid (HH.out.below hb)
  clear hb y0 y1 y2 y3 y4
  rcases h4 with ⟨h4, rfl⟩ | ⟨T1, i1, h4, rfl⟩
  · have HD := Lib.hid (HP.out.n1 h4)
    clear h4
    go_wp2_with fail
    refine (HRN.out _).mono ?_
    rintro e w6 ⟨rfl, hb⟩
    replace HB := Lib.hid (HB.out.trans' hb)
    replace HK := Lib.hid (HK.out.below hb)
    clear hb HG HH
    obtain ⟨x0, x1, x2, x3⟩ := HK.out.cells
    obtain ⟨f0, f1, f2, f3⟩ := HK.out.free
    go_wp2_with fail
    obtain ⟨r0, r1, r2, r3⟩ := (setL_box HK.out 0 0 ⟨#[]⟩ none 0 0).cells
    unfold setL at r0 r1 r2 r3
    refine bodyPost_ret (v := .tuple #[lv 0 0 ⟨#[]⟩ none 0 0, .int .i64 3]) (by simp [results, Tryz.results14, go_sem, r0, r1, r2, r3]) rfl ⟨.inr ⟨HD.out, rfl⟩, ?_⟩
    exact setL_below HB.out (Nat.le_refl _) 0 0 ⟨#[]⟩ none 0 0
  have hi1 := (L9.gtext_some h4)
  have H4 := Lib.hid h4
  have hBl : B0.data.toList.length = B0.size := by simp
  have hT1 : T1.data.toList.length = T1.size := by simp
  have hT1s : T1.size ≤ 1000000 := by omega
  have hi1' : i1 ≤ B0.size := by omega
  clear h4 hi1
  go_wp2_with fail
  refine (HRT.out i1 _ hi1').mono ?_
  rintro e w6 ⟨h6, hb⟩
  replace HB := Lib.hid (HB.out.trans' hb)
  replace HK := Lib.hid (HK.out.below hb)
  replace HG := Lib.hid (HG.out.on hb)
  replace HH := Lib.hid (HH.out.below hb)
  clear hb
  rcases h6 with ⟨h6, rfl⟩ | ⟨T2, i2, h6, rfl⟩
  · have HD := Lib.hid (HP.out.n2 _ _ H4.out h6)
    clear h6 HG HH
    obtain ⟨x0, x1, x2, x3⟩ := HK.out.cells
    obtain ⟨f0, f1, f2, f3⟩ := HK.out.free
    go_wp2_with fail
    obtain ⟨r0, r1, r2, r3⟩ := (setL_box HK.out 0 0 ⟨#[]⟩ none 0 0).cells
    unfold setL at r0 r1 r2 r3
    refine bodyPost_ret (v := .tuple #[lv 0 0 ⟨#[]⟩ none 0 0, .int .i64 3]) (by simp [results, Tryz.results14, go_sem, r0, r1, r2, r3]) rfl ⟨.inr ⟨HD.out, rfl⟩, ?_⟩
    exact setL_below HB.out (Nat.le_refl _) 0 0 ⟨#[]⟩ none 0 0
  have hi2 := (L9.gtext_some h6)
  have H6 := Lib.hid h6
  have hT2 : T2.data.toList.length = T2.size := by simp
  have hT2s : T2.size ≤ 1000000 := by omega
  have hi2' : i2 ≤ B0.size := by omega
  have HU := Lib.hid (fun W => L8.unpack8_any B0 (i2 : Int) (n : Int) W (by simp [Lit.wf, IntKind.min, IntKind.max, IntKind.signed, IntKind.bits]; omega) (by simp [Lit.wf, IntKind.min, IntKind.max, IntKind.signed, IntKind.bits]; omega) (by unfold maxLen; omega))
  have di2 : decide ((i2 : Int) < 0) = false := decide_eq_false (by omega)
  obtain ⟨y0, y1, y2, y3, y4⟩ := HH.out.cells
  simp only at y0 y1 y2 y3 y4
  clear h6 hi2
  go_wp2_with fail
  refine (HU.out _).mono ?_
  rintro e w7 ⟨h7, hb⟩
  replace HB := Lib.hid (HB.out.trans' hb)
  replace HK := Lib.hid (HK.out.below hb)
  replace HG := Lib.hid (HG.out.on hb)
  replace HH := Lib.hid (HH.out.below hb)
  clear hb HU y0 y1 y2 y3 y4
  rcases h7 with ⟨h7, -⟩ | ⟨-, h7, rfl⟩ | ⟨-, h7, g, cap, rfl, hgw, hcap, hL7⟩
  · exfalso
    omega
  · rw [Int.toNat_natCast, Int.toNat_natCast] at h7
    have HD := Lib.hid (HP.out.n3 _ _ _ _ H4.out H6.out h7)
    clear h7 HG HH
    obtain ⟨x0, x1, x2, x3⟩ := HK.out.cells
    obtain ⟨f0, f1, f2, f3⟩ := HK.out.free
    go_wp2_with fail
    obtain ⟨r0, r1, r2, r3⟩ := (setL_box HK.out 0 0 ⟨#[]⟩ none 0 0).cells
    unfold setL at r0 r1 r2 r3
    refine bodyPost_ret (v := .tuple #[lv 0 0 ⟨#[]⟩ none 0 0, .int .i64 3]) (by simp [results, Tryz.results14, go_sem, r0, r1, r2, r3]) rfl ⟨.inr ⟨HD.out, rfl⟩, ?_⟩
    exact setL_below HB.out (Nat.le_refl _) 0 0 ⟨#[]⟩ none 0 0
  rw [Int.toNat_natCast, Int.toNat_natCast] at h7
  rw [Int.toNat_natCast] at hcap hL7 ⊢
  have H7 := Lib.hid h7
  have hcl := L8.cellsB_length B0 n
  have HCS := Lib.hid (L8.cellsB_size B0 n)
  have hmap : allI ((L8.cellsB B0 n).map fun t => told3 t T1) = (mapV (L8.LP.cells B0.data.toList n)).map (List.map (item T1.data.toList)) := by
    rw [← L8.bs_cellsB B0 n]
    exact allI_mapV T1.data.toList (L8.cellsB B0 n)
  have HM := Lib.hid hmap
  have hfew := L8.good_few h7
  have hn1 : n ≤ 1000 := by
    have h1 : (L5.B B0).length = B0.size := L5.b_size B0
    omega
  obtain ⟨y0, y1, y2, y3, y4⟩ := HH.out.cells
  simp only at y0 y1 y2 y3 y4
  have HN9 := Lib.hid (show LBx 34 w7.heap.size hs5 hr T2 none 0 0 (w7.alloc (.cells #[.int .i64 hs5, .int .i64 hr, .string T2, .slice none 0 0] 34)) from heap_alloc_new _ _)
  have HB9 := Lib.hid (L5.below_alloc w7 (.cells #[.int .i64 hs5, .int .i64 hr, .string T2, .slice none 0 0] 34))
  have hsz9 : w7.heap.size + 1 ≤ (w7.alloc (.cells #[.int .i64 hs5, .int .i64 hr, .string T2, .slice none 0 0] 34)).heap.size := by simp
  have HL8 := Lib.hid hL7
  have hq : w.heap.size < w7.heap.size := HK.out.lt
  clear h7 hmap hL7 hgw hfew HG HH
  generalize (⟨g, 0, none⟩ : Addr) = a8 at *
  go_wp2_with fail
  clear y0 y1 y2 y3 y4
  generalize w7.alloc (.cells #[.int .i64 hs5, .int .i64 hr, .string T2, .slice none 0 0] 34) = w9 at *
  have HL8 := Lib.hid (HL8.out.below HB9.out)
  have HK := Lib.hid (HK.out.below HB9.out)
  have HB := Lib.hid (HB.out.trans' HB9.out)
  generalize w7.heap.size = q8 at *
  generalize hw8 : w7 = w8 at *
  go_loopw [14] (fun iv wr => ∃ (k : Nat) (K : Option Addr) (kc : Nat) (xs : List It), k ≤ n ∧ iv = .int .i64 k ∧ Hid (LBx 34 q8 hs5 hr T2 K k kc wr) ∧ Hid (wr.ownsRow (q8 + 1) 82 5 (.slice K k kc) k (fives xs)) ∧ Hid (((L8.cellsB B0 n).take k).map (fun t => told3 t T1) = xs.map some) ∧ Hid (Below q8 w8 wr) ∧ q8 + 1 ≤ wr.heap.size) (fun iv _ => n - (intOf iv).toNat)
  case atStart => exact ⟨0, none, 0, [], by omega, rfl, HN9, Lib.hid (own5_nil _ _ _), Lib.hid (by simp), HB9, hsz9⟩
  case round =>
    obtain ⟨k, K, kc, xs, hk, rfl, HX, HO, HT, HW, hsz⟩ := hrel
    have HKr := Lib.hid (HK.out.on HW.out hq)
    have HBr := Lib.hid (HB.out.trans (HW.out.mono (by omega)))
    have HGr := Lib.hid (HG0.out.on HBr.out)
    by_cases hlt : k < n
    · obtain ⟨t, ht⟩ : ∃ t, (L8.cellsB B0 n)[k]? = some t := ⟨_, List.getElem?_eq_getElem (by omega)⟩
      obtain ⟨a, ha, hab, x0⟩ := (HL8.out.below HW.out) k t ht
      obtain rfl := Option.some.inj ha
      have hts := HCS.out t (List.mem_of_getElem? ht)
      have h0 : (0 : Int) ≤ k := by omega
      have hkn : (k : Int) < n := by omega
      have HGV := Lib.hid (fun W => L9.rgetv_any t W (by omega))
      cases hgv : L9.VP.getV t.data.toList with
      | none =>
        have HD : Hid (dec s = none) := Lib.hid (by
          refine HP.out.n4 _ _ _ _ H4.out H6.out H7.out ?_
          have h := HM.out
          rw [allI_none (List.mem_map.2 ⟨t, List.mem_of_getElem? ht, by unfold told3; rw [hgv]; rfl⟩)] at h
          exact Option.map_eq_none_iff.1 h.symm)
        rw [hgv] at HGV
        unfold L9.gotV at HGV
        clear ht ha hab hgv HT HO HX
        go_wp2_with fail
        refine (HGV.out _).mono ?_
        rintro e V ⟨rfl, hb⟩
        replace hb := hb.trans' (L5.below_alloc V (.cells #[.bool false, .string ⟨#[]⟩, .int .i64 0, .int .i64 0] 44))
        replace HKr := Lib.hid (HKr.out.below hb)
        replace HBr := Lib.hid (HBr.out.trans' hb)
        clear hb x0
        obtain ⟨x0, x1, x2, x3⟩ := HKr.out.cells
        obtain ⟨f0, f1, f2, f3⟩ := HKr.out.free
        go_wp2_with fail
        obtain ⟨r0, r1, r2, r3⟩ := (setL_box HKr.out 0 0 ⟨#[]⟩ none 0 0).cells
        unfold setL at r0 r1 r2 r3
        refine bodyPost_ret (v := .tuple #[lv 0 0 ⟨#[]⟩ none 0 0, .int .i64 3]) (by simp [results, Tryz.results14, go_sem, r0, r1, r2, r3]) rfl ⟨.inr ⟨HD.out, rfl⟩, ?_⟩
        exact setL_below HBr.out (Nat.le_refl _) 0 0 ⟨#[]⟩ none 0 0
      | some x =>
        obtain ⟨T', v⟩ := x
        have hok := L9.VP.getV_some hgv
        have hT : T'.length ≤ 128 := hok.1.1
        have HT1 : Hid (((L8.cellsB B0 n).take (k + 1)).map (fun t => told3 t T1) = (xs ++ [item T1.data.toList (T', v)]).map some) := Lib.hid (by
          rw [List.take_add_one, ht, Option.toList_some, List.map_append, HT.out, List.map_append]
          simp only [List.map_cons, List.map_nil]
          unfold told3
          rw [hgv]
          rfl)
        rw [hgv] at HGV
        unfold L9.gotV at HGV
        simp only at HGV
        obtain ⟨KR, hKR⟩ : ∃ KR : ByteArray, ⟨T'.toArray⟩ = KR := ⟨_, rfl⟩
        have hKRs : KR.size ≤ 128 := by rw [← hKR]; show T'.toArray.size ≤ 128; simpa using hT
        have hcat : ¬ 9223372036854775807 < T1.size + KR.size := by omega
        have hcat' : ¬ (9223372036854775807 : Int) < (T1.size : Int) + (KR.size : Int) := by omega
        rw [hKR] at HGV
        have hfive : five (item T1.data.toList (T', v)) = [.string (T1 ++ KR), .bool v.over, .string ⟨v.s.toArray⟩, .int .i64 v.len, .int .i64 v.page] := by
          rw [← hKR]
          have e1 : T1 ++ (⟨T'.toArray⟩ : ByteArray) = ⟨(T1.data.toList ++ T').toArray⟩ := by
            apply ByteArray.ext
            simp
          rw [e1]
          rfl
        have HC : Hid (fives (xs ++ [item T1.data.toList (T', v)]) = fives xs ++ [.string (T1 ++ KR), .bool v.over, .string ⟨v.s.toArray⟩, .int .i64 v.len, .int .i64 v.page]) := Lib.hid (by rw [fives_append, fives_one, hfive])
        generalize item T1.data.toList (T', v) = ni at *
        obtain ⟨O, S, L, P⟩ := v
        simp only at HGV HC
        generalize (⟨S.toArray⟩ : ByteArray) = S at *
        have HNE : Hid (∀ g, (Value.slice K k kc).ownBlock = some g → g ≠ q8) := Lib.hid (fun g hg => by have := own5_block HO.out hg; omega)
        clear ht ha hab hgv hok hT HT hfive hKR
        go_wp2_with fail
        refine (HGV.out _).mono ?_
        rintro e V ⟨rfl, hb⟩
        have hb2 := hb.trans' (L5.below_alloc V (.cells #[.bool O, .string S, .int .i64 L, .int .i64 P] 44))
        have HX2 := Lib.hid (HX.out.below hb2)
        have HO2 := Lib.hid (own5_below HO.out hb2)
        have HW2 := Lib.hid (HW.out.trans (hb2.mono (by omega)))
        have HV2 := Lib.hid (L9.Bx.new 44 O S L P V)
        have hs2 := hb2.size
        clear hb hb2 HX HO HW x0 HKr HBr HGr
        obtain ⟨p0, p1, p2, p3⟩ := HX2.out.cells
        obtain ⟨f0, f1, f2, f3⟩ := HX2.out.free
        obtain ⟨v0, v1, v2, v3⟩ := HV2.out.cells
        have HBK : Hid (((V.alloc (.cells #[.bool O, .string S, .int .i64 L, .int .i64 P] 44)).alloc (.cells #[.string (T1 ++ KR), .bool O, .string S, .int .i64 L, .int .i64 P] 82)).heap[V.heap.size + 1]? = some (.cells #[.string (T1 ++ KR), .bool O, .string S, .int .i64 L, .int .i64 P] 82)) := Lib.hid (by
          have h := heap_alloc_new (V.alloc (.cells #[.bool O, .string S, .int .i64 L, .int .i64 P] 44)) (.cells #[.string (T1 ++ KR), .bool O, .string S, .int .i64 L, .int .i64 P] 82)
          rw [show (V.alloc (.cells #[.bool O, .string S, .int .i64 L, .int .i64 P] 44)).heap.size = V.heap.size + 1 by simp] at h
          exact h)
        go_wp2_with (at_builtin; refine wpList_append_lies _ rfl _ _ 32 rfl (q8 + 1) 82 i0 (.agg #[.string ⟨#[]⟩, .bool false, .string ⟨#[]⟩, .int .i64 0, .int .i64 0]) 5 56 Tryz.underlying32 hi hz0 hz1 hz2 rfl (by decide) (.slice K k kc) k _ rfl (HO2.out.alloc _) ⟨V.heap.size + 1, 0, none⟩ 1 1 [.string (T1 ++ KR), .bool O, .string S, .int .i64 L, .int .i64 P] rfl rfl (World.news_of_block (cs := #[.string (T1 ++ KR), .bool O, .string S, .int .i64 L, .int .i64 P]) (t := 82) (fr := (0, 0)) HBK.out) (five_one _ _ _ _ _) (by omega) (by unfold maxLen; omega) (by omega) (by simp at hs2 ⊢; omega) (V.heap.size + 1 + 1) (by simp) ?_; intro g' cap' w3 hown3 hgrow3 hat3 hlt3; have hbA := L5.below_alloc (V.alloc (.cells #[.bool O, .string S, .int .i64 L, .int .i64 P] 44)) (.cells #[.string (T1 ++ KR), .bool O, .string S, .int .i64 L, .int .i64 P] 82); have hbB := own5_apart (q := q8) (HO2.out.alloc (.cells #[.string (T1 ++ KR), .bool O, .string S, .int .i64 L, .int .i64 P] 82)) hgrow3 (by omega) (by simp at hs2 ⊢; omega); have HX3 := Lib.hid (show LBx 34 q8 hs5 hr T2 K k kc w3 from (hgrow3.block q8 (by simp at hs2 ⊢; omega) (fun e => HNE.out _ e.symm rfl)).trans (HX2.out.below hbA)); have HW3 := Lib.hid ((HW2.out.trans (hbA.mono (by simp at hs2 ⊢; omega))).trans hbB); have hs3 := hgrow3.size; clear p0 p1 p2 p3 f0 f1 f2 f3 hat3 hlt3 hgrow3 hbA hbB; obtain ⟨p0, p1, p2, p3⟩ := HX3.out.cells; obtain ⟨f0, f1, f2, f3⟩ := HX3.out.free)
        have HX4 := Lib.hid (HX3.out.set3 (some ⟨g', 0, none⟩) (k + 1) cap')
        have HO4 := Lib.hid (own5_set (q := q8) (o := 3) (u := .slice (some ⟨g', 0, none⟩) (k + 1) cap') (show w3.ownsRow (q8 + 1) 82 5 (.slice (some ⟨g', 0, none⟩) (k + 1) cap') (k + 1) (fives (xs ++ [ni])) by rw [HC.out]; exact hown3) (by omega))
        have HW4 := Lib.hid (HW3.out.setCell (p := ⟨q8, 3, none⟩) (Nat.le_refl _) (.slice (some ⟨g', 0, none⟩) (k + 1) cap'))
        have hsz4 : q8 + 1 ≤ (w3.setCell ⟨q8, 3, none⟩ (.slice (some ⟨g', 0, none⟩) (k + 1) cap')).heap.size := by simp at hs2 hs3 ⊢; omega
        go_roundw
        case rel => exact ⟨k + 1, some ⟨g', 0, none⟩, cap', xs ++ [ni], by omega, by simp, HX4, HO4, HT1, HW4, hsz4⟩
        case measure => simp [intOf]; omega
    · obtain rfl : k = n := by omega
      have hxl : xs.length = k := by
        have h := congrArg List.length HT.out
        simp only [List.length_map, List.length_take] at h
        omega
      have hall : allI ((L8.cellsB B0 k).map fun t => told3 t T1) = some xs := by
        have h := HT.out
        rw [List.take_of_length_le (by omega)] at h
        rw [h, allI_some]
      have HD : Hid (dec s = if enc ⟨hs5, hr, T2, xs⟩ s.size = (s, 0) then some ⟨hs5, hr, T2, xs⟩ else none) := Lib.hid (by
        have h := HM.out
        rw [hall] at h
        obtain ⟨ys, hy, hxy⟩ := Option.map_eq_some_iff.1 h.symm
        have h2 := HP.out.ok _ _ _ _ _ H4.out H6.out H7.out hy
        rw [hxy, bytes_eq] at h2
        exact h2)
      have HRW := Lib.hid (lies5_own HO.out hxl.symm)
      have HKN : Hid (∀ a, K = some a → a.block ≠ w.heap.size) := Lib.hid (fun a h => by
        subst h
        have := own5_block HO.out (g := a.block) rfl
        omega)
      obtain ⟨S2, c2, he⟩ : ∃ S2 c2, enc ⟨hs5, hr, T2, xs⟩ s.size = (S2, c2) := ⟨_, _, rfl⟩
      have HE := Lib.hid (fun W (h2 : Lies5 W W.heap.size K xs) => renc_any hs5 hr T2 K xs kc s.size W h2 (by omega) (by unfold maxLen; omega) (by simp [Lit.wf, IntKind.min, IntKind.max, IntKind.signed, IntKind.bits]; omega))
      rw [encV, he, hxl] at HE
      rw [he] at HD
      have hlt' : ¬ (k : Int) < k := by omega
      have hXL := Lib.hid hxl
      obtain ⟨p0, p1, p2, p3⟩ := HX.out.cells
      clear hlt hk HT HO hall he hxl
      go_wp2_with fail
      refine (HE.out _ HRW.out).mono ?_
      rintro e V ⟨rfl, hb⟩
      have HX3 := Lib.hid (HX.out.below hb)
      have HR3 := Lib.hid (HRW.out.on hb)
      have HK3 := Lib.hid (HKr.out.below hb)
      have HB3 := Lib.hid (HBr.out.trans' hb)
      clear hb p0 p1 p2 p3 HX HRW HKr HBr HGr HE
      by_cases hc0 : c2 = 0
      · subst hc0
        by_cases hS : S2 = s
        · subst hS
          have hz := text_yes (rfl : S2 = S2)
          rw [if_pos rfl] at HD
          obtain ⟨x0, x1, x2, x3⟩ := HK3.out.cells
          obtain ⟨f0, f1, f2, f3⟩ := HK3.out.free
          obtain ⟨p0, p1, p2, p3⟩ := HX3.out.cells
          go_wp2_with fail
          obtain ⟨r0, r1, r2, r3⟩ := (setL_box HK3.out hs5 hr T2 K k kc).cells
          unfold setL at r0 r1 r2 r3
          refine bodyPost_ret (v := .tuple #[lv hs5 hr T2 K k kc, .int .i64 0]) (by simp [results, Tryz.results14, go_sem, r0, r1, r2, r3]) rfl ⟨.inl ⟨⟨hs5, hr, T2, xs⟩, K, kc, HD.out, by simp only [hXL.out], ?_⟩, ?_⟩
          · have hlies : Lies5 (setL V w.heap.size hs5 hr T2 K k kc) (setL V w.heap.size hs5 hr T2 K k kc).heap.size K xs := by
              rw [setL_size]
              exact setL_lies HR3.out HKN.out hs5 hr T2 K k kc
            exact hlies
          · exact setL_below HB3.out (Nat.le_refl _) hs5 hr T2 K k kc
        · rw [if_neg (fun h => hS (congrArg Prod.fst h))] at HD
          have hz := text_no hS
          obtain ⟨x0, x1, x2, x3⟩ := HK3.out.cells
          obtain ⟨f0, f1, f2, f3⟩ := HK3.out.free
          go_wp2_with fail
          obtain ⟨r0, r1, r2, r3⟩ := (setL_box HK3.out 0 0 ⟨#[]⟩ none 0 0).cells
          unfold setL at r0 r1 r2 r3
          refine bodyPost_ret (v := .tuple #[lv 0 0 ⟨#[]⟩ none 0 0, .int .i64 3]) (by simp [results, Tryz.results14, go_sem, r0, r1, r2, r3]) rfl ⟨.inr ⟨HD.out, rfl⟩, ?_⟩
          exact setL_below HB3.out (Nat.le_refl _) 0 0 ⟨#[]⟩ none 0 0
      · rw [if_neg (fun h => hc0 (congrArg Prod.snd h))] at HD
        have hcn : (c2 != 0) = true := by simpa using hc0
        have hce : (c2 == 0) = false := by simpa using hc0
        obtain ⟨x0, x1, x2, x3⟩ := HK3.out.cells
        obtain ⟨f0, f1, f2, f3⟩ := HK3.out.free
        go_wp2_with fail
        obtain ⟨r0, r1, r2, r3⟩ := (setL_box HK3.out 0 0 ⟨#[]⟩ none 0 0).cells
        unfold setL at r0 r1 r2 r3
        refine bodyPost_ret (v := .tuple #[lv 0 0 ⟨#[]⟩ none 0 0, .int .i64 3]) (by simp [results, Tryz.results14, go_sem, r0, r1, r2, r3]) rfl ⟨.inr ⟨HD.out, rfl⟩, ?_⟩
        exact setL_below HB3.out (Nat.le_refl _) 0 0 ⟨#[]⟩ none 0 0
end Go.Proofs.YtpehkikdmckldaaGreatDoor
