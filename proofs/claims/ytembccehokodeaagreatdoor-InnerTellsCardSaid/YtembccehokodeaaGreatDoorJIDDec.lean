/-
  The walk of the document's Decode. Written by wip/gen_iddec.py.
-/
import Derived.Test.YtembccehokodeaaGreatDoorJ07
import Derived.Test.YtembccehokodeaaGreatDoorJ05
import Derived.Test.YtembccehokodeaaGreatDoorJ03
namespace Go.Proofs.YtembccehokodeaaGreatDoor
open Go.RowKit IP
set_option linter.unusedVariables false
set_option linter.unusedSimpArgs false

/-- What the document's Unpack hands on. -/
structure Handed (s : ByteArray) (hs5 hl hr : Int) (T1 T2 : ByteArray) (cs : List ByteArray) (er : Int) : Prop where
  few : cs.length ≤ 1000
  size : ∀ t ∈ cs, t.size ≤ 100000
  bad : ∀ t ∈ cs, L9.VP.getK t.data.toList = none → dec s = none
  no : er ≠ 0 → dec s = none
  ok : er = 0 → ∀ xs, mapK (cs.map L5.B) = some xs → parse s = some ⟨hs5, hl, hr, T2, kidsOf xs, sepsOf T1.data.toList xs⟩
theorem kidsOf_length (xs : List (Nat × List UInt8)) : (kidsOf xs).length = xs.length := by simp [kidsOf]
theorem sepsOf_size {c : List UInt8} {xs : List (Nat × List UInt8)} (hc : c.length ≤ 1000000) (hx : ∀ x ∈ xs, x.2.length ≤ 128) : ∀ t ∈ sepsOf c xs, t.size ≤ maxLen := by
  intro t ht
  unfold sepsOf at ht
  obtain ⟨x, hx1, rfl⟩ := List.mem_map.1 ht
  have := hx x (List.mem_of_mem_drop hx1)
  show (c ++ x.2).toArray.size ≤ _
  unfold maxLen
  rw [List.size_toArray, List.length_append]
  omega
theorem mapK_few : ∀ {cs : List (List UInt8)} {xs : List (Nat × List UInt8)}, mapK cs = some xs → ∀ x ∈ xs, x.2.length ≤ 128
  | [], xs, h => by obtain rfl := Option.some.inj (show some [] = some xs from h); simp
  | c :: cs, xs, h => by
    simp only [mapK] at h
    cases hd : L9.VP.getK c with
    | none => rw [hd] at h; cases h
    | some y =>
      rw [hd] at h
      cases ha : mapK cs with
      | none => rw [ha] at h; cases h
      | some zs =>
        rw [ha] at h
        obtain rfl := Option.some.inj h
        intro x hx
        rcases List.mem_cons.1 hx with rfl | hx
        · have h1 := (L9.VP.getK_some hd).1
          unfold L9.VP.OkK at h1
          exact h1.2.2
        · exact mapK_few ha x hx

set_option maxHeartbeats 8000000 in
set_option maxRecDepth 100000 in
theorem rdec_any (s : ByteArray) (w : World) (hz : L7.Sizes w) (hs : s.size ≤ 1000000) :
    Calls Tryz.prog 14 #[.string s] w fun e w' => DecS s e w' ∧ Below w.heap.size w w' := by
  obtain ⟨i0, hi, hz0, hz1, hz2⟩ := info_parts Tryz.infoNum
  obtain ⟨j0, hj, hy0, hy1, hy2⟩ := info_parts L5.Tryz.infoStr
  have hb0 := nbox_below 33 0 0 0 ⟨#[]⟩ none 0 0 none 0 0 w
  have HB0 := Lib.hid hb0
  have HK0 := Lib.hid (nbox_new 33 0 0 0 ⟨#[]⟩ none 0 0 none 0 0 w)
  have HG0 := Lib.hid (hz.below hz.lt hb0)
  have HOP := Lib.hid (fun W (h : L7.Sizes W) => L7.refOpen_any s W h)
  clear hb0 hz
  by_cases hgood : ¬ (L7.mayBe s.size = true ∧ L7.HP.good s.data.toList)
  · have HD : Hid (dec s = none) := Lib.hid (dec_parse_none (by unfold parse; rw [if_neg hgood]))
    have hv : L7.opnV s = .tuple #[.agg #[.int .i64 0, .int .i64 0, .int .i64 0, .int .i64 0, .int .i64 0], .string ⟨#[]⟩, .int .i64 3] := by
      unfold L7.opnV
      rw [L7.HP.opn_bad hgood]
      rfl
    rw [hv] at HOP
    clear hgood hv
    go_enter Tryz.func14, Tryz.ntmps14
    go_wp2_with fail
    refine (HOP.out _ HG0.out).mono ?_
    rintro e w2 ⟨rfl, hb2⟩
    have hb3 := hb2.trans' (L5.below_alloc w2 (.cells #[.int .i64 0, .int .i64 0, .int .i64 0, .int .i64 0, .int .i64 0] 57))
    have HK := Lib.hid (HK0.out.below hb3)
    have HB := Lib.hid (HB0.out.trans' hb3)
    clear hb2 hb3
    obtain ⟨x0, x1, x2, x3, x4, x5⟩ := HK.out.cells
    obtain ⟨f0, f1, f2, f3, f4, f5⟩ := HK.out.free
    go_wp2_with fail
    all_goals (first | (obtain ⟨r0, r1, r2, r3, r4, r5⟩ := (setN_box HK.out 0 0 0 ⟨#[]⟩ none 0 0 none 0 0).cells; unfold setN at r0 r1 r2 r3 r4 r5; refine bodyPost_ret (v := .tuple #[nv0, .int .i64 3]) (by simp [results, Tryz.results14, go_sem, r0, r1, r2, r3, r4, r5]) rfl ⟨.inr ⟨HD.out, rfl⟩, ?_⟩; exact setN_below HB.out (Nat.le_refl _) 0 0 0 ⟨#[]⟩ none 0 0 none 0 0) | (rename_i e1 e2; exact absurd (Option.some.inj e1) (by simp [undef])) | (rename_i e1; exact absurd (Option.some.inj e1) (by simp [undef])))
  have hgd := Decidable.not_not.1 hgood
  have hm := mayBe_le hgd.1
  have hok : L7.HP.Ok (L7.HP.headOf s.data.toList) := hgd.2.1
  obtain ⟨B0, hB0⟩ : ∃ B0, s.extract 16 s.size = B0 := ⟨_, rfl⟩
  have hBl : B0.data.toList = s.data.toList.drop 16 := by
    rw [← hB0, Lib.extract_data, List.take_of_length_le (by simp)]
  have hBs : B0.size + 16 = s.size := by rw [← hB0]; simp; omega
  have hv : L7.opnV s = .tuple #[L7.hv (L7.HP.headOf s.data.toList), .string B0, .int .i64 0] := by
    unfold L7.opnV
    rw [L7.HP.opn_good hgd.1 hgd.2, hB0]
  obtain ⟨hk, hl, hc, hr, hs5, hhd⟩ : ∃ k l c r f, L7.HP.headOf s.data.toList = ⟨k, l, c, r, f⟩ := ⟨_, _, _, _, _, rfl⟩
  rw [hhd] at hv hok
  obtain ⟨n0, rfl⟩ : ∃ n : Nat, hc = n := Int.eq_ofNat_of_zero_le hok.2.2.2.2.1
  have hn : n0 ≤ 65535 := by have h := hok.2.2.2.2.2.1; simp only at h; omega
  have HP := Lib.hid (reads_of hgd hBl hhd)
  simp only [L7.hv] at hv
  rw [hv] at HOP
  by_cases hk3 : hk ≠ 3
  · have HD : Hid (dec s = none) := Lib.hid (dec_kind (by rw [hhd]; exact hk3))
    have hkn : (hk != 3) = true := by simpa using hk3
    clear hgood hgd hok hBl hB0 hv hhd hk3
    go_enter Tryz.func14, Tryz.ntmps14
    go_wp2_with fail
    refine (HOP.out _ HG0.out).mono ?_
    rintro e w2 ⟨rfl, hb2⟩
    have hb3 := hb2.trans' (L5.below_alloc w2 (.cells #[.int .i64 hk, .int .i64 hl, .int .i64 n0, .int .i64 hr, .int .i64 hs5] 57))
    have HK := Lib.hid (HK0.out.below hb3)
    have HB := Lib.hid (HB0.out.trans' hb3)
    have HH := Lib.hid (show L7.Bx 57 w2.heap.size ⟨hk, hl, n0, hr, hs5⟩ (w2.alloc (.cells #[.int .i64 hk, .int .i64 hl, .int .i64 n0, .int .i64 hr, .int .i64 hs5] 57)) from heap_alloc_new _ _)
    clear hb2 hb3
    obtain ⟨y0, y1, y2, y3, y4⟩ := HH.out.cells
    simp only at y0 y1 y2 y3 y4
    obtain ⟨x0, x1, x2, x3, x4, x5⟩ := HK.out.cells
    obtain ⟨f0, f1, f2, f3, f4, f5⟩ := HK.out.free
    go_wp2_with fail
    all_goals (first | (obtain ⟨r0, r1, r2, r3, r4, r5⟩ := (setN_box HK.out 0 0 0 ⟨#[]⟩ none 0 0 none 0 0).cells; unfold setN at r0 r1 r2 r3 r4 r5; refine bodyPost_ret (v := .tuple #[nv0, .int .i64 3]) (by simp [results, Tryz.results14, go_sem, r0, r1, r2, r3, r4, r5]) rfl ⟨.inr ⟨HD.out, rfl⟩, ?_⟩; exact setN_below HB.out (Nat.le_refl _) 0 0 0 ⟨#[]⟩ none 0 0 none 0 0) | (rename_i e1 e2; exact absurd (Option.some.inj e1) (by simp [undef])) | (rename_i e1; exact absurd (Option.some.inj e1) (by simp [undef])))
  obtain rfl : hk = 3 := Classical.not_not.1 hk3
  clear hgood hgd hok hB0 hv hhd hk3
  have HRT := Lib.hid (fun (i : Nat) W (hi : i ≤ B0.size) => rtext_any B0 i W hi (by omega))
  have HRN := Lib.hid (fun W => rtext_neg B0 (-1) W (by omega))
  go_enter Tryz.func14, Tryz.ntmps14
  go_wp2_with fail
  refine (HOP.out _ HG0.out).mono ?_
  rintro e w2 ⟨rfl, hb2⟩
  have hb3 := hb2.trans' (L5.below_alloc w2 (.cells #[.int .i64 3, .int .i64 hl, .int .i64 n0, .int .i64 hr, .int .i64 hs5] 57))
  have HK := Lib.hid (HK0.out.below hb3)
  have HB := Lib.hid (HB0.out.trans' hb3)
  have HH := Lib.hid (show L7.Bx 57 w2.heap.size ⟨3, hl, n0, hr, hs5⟩ (w2.alloc (.cells #[.int .i64 3, .int .i64 hl, .int .i64 n0, .int .i64 hr, .int .i64 hs5] 57)) from heap_alloc_new _ _)
  clear hb2 hb3 HK0 HB0 HG0 HOP
  obtain ⟨y0, y1, y2, y3, y4⟩ := HH.out.cells
  simp only at y0 y1 y2 y3 y4
  go_wp2_with fail
  clear y0 y1 y2 y3 y4
  generalize hW3 : w2.alloc (.cells #[.int .i64 3, .int .i64 hl, .int .i64 n0, .int .i64 hr, .int .i64 hs5] 57) = W3 at *
  generalize w2.heap.size = q at *
  clear hW3
  refine (HRT.out 0 _ (by omega)).mono ?_
  rintro e w4 ⟨h4, hb4⟩
  have HK := Lib.hid (HK.out.below hb4)
  have HH := Lib.hid (HH.out.below hb4)
  have HB := Lib.hid (HB.out.trans' hb4)
  clear hb4
  rcases h4 with ⟨h4, rfl⟩ | ⟨T1, i1, h4, rfl⟩
  · have HD := Lib.hid (dec_parse_none (HP.out.n1 h4))
    clear h4
    go_wp2_with fail
    refine (HRN.out _).mono ?_
    rintro e w6 ⟨rfl, hb⟩
    have HB := Lib.hid (HB.out.trans' hb)
    have HK := Lib.hid (HK.out.below hb)
    clear hb HH
    obtain ⟨x0, x1, x2, x3, x4, x5⟩ := HK.out.cells
    obtain ⟨f0, f1, f2, f3, f4, f5⟩ := HK.out.free
    go_wp2_with fail
    all_goals (first | (obtain ⟨r0, r1, r2, r3, r4, r5⟩ := (setN_box HK.out 0 0 0 ⟨#[]⟩ none 0 0 none 0 0).cells; unfold setN at r0 r1 r2 r3 r4 r5; refine bodyPost_ret (v := .tuple #[nv0, .int .i64 3]) (by simp [results, Tryz.results14, go_sem, r0, r1, r2, r3, r4, r5]) rfl ⟨.inr ⟨HD.out, rfl⟩, ?_⟩; exact setN_below HB.out (Nat.le_refl _) 0 0 0 ⟨#[]⟩ none 0 0 none 0 0) | (rename_i e1 e2; exact absurd (Option.some.inj e1) (by simp [undef])) | (rename_i e1; exact absurd (Option.some.inj e1) (by simp [undef])))
  have hi1 := (L9.gtext_some h4)
  have H4 := Lib.hid h4
  have hBl : B0.data.toList.length = B0.size := by simp
  have hT1 : T1.data.toList.length = T1.size := by simp
  have hT1s : T1.size ≤ 1000000 := by omega
  have hi1' : i1 ≤ B0.size := by omega
  clear h4 hi1
  go_wp2_with fail
  refine (HRT.out i1 _ hi1').mono ?_
  rintro e w6 ⟨h6, hb6⟩
  have HK := Lib.hid (HK.out.below hb6)
  have HH := Lib.hid (HH.out.below hb6)
  have HB := Lib.hid (HB.out.trans' hb6)
  clear hb6
  rcases h6 with ⟨h6, rfl⟩ | ⟨T2, i2, h6, rfl⟩
  · have HD := Lib.hid (dec_parse_none (HP.out.n2 _ _ H4.out h6))
    clear h6 HH
    obtain ⟨x0, x1, x2, x3, x4, x5⟩ := HK.out.cells
    obtain ⟨f0, f1, f2, f3, f4, f5⟩ := HK.out.free
    go_wp2_with fail
    all_goals (first | (obtain ⟨r0, r1, r2, r3, r4, r5⟩ := (setN_box HK.out 0 0 0 ⟨#[]⟩ none 0 0 none 0 0).cells; unfold setN at r0 r1 r2 r3 r4 r5; refine bodyPost_ret (v := .tuple #[nv0, .int .i64 3]) (by simp [results, Tryz.results14, go_sem, r0, r1, r2, r3, r4, r5]) rfl ⟨.inr ⟨HD.out, rfl⟩, ?_⟩; exact setN_below HB.out (Nat.le_refl _) 0 0 0 ⟨#[]⟩ none 0 0 none 0 0) | (rename_i e1 e2; exact absurd (Option.some.inj e1) (by simp [undef])) | (rename_i e1; exact absurd (Option.some.inj e1) (by simp [undef])))
  have hi2 := (L9.gtext_some h6)
  have H6 := Lib.hid h6
  have hT2 : T2.data.toList.length = T2.size := by simp
  have hT2s : T2.size ≤ 1000000 := by omega
  have hi2' : i2 ≤ B0.size := by omega
  have di2 : decide ((i2 : Int) < 0) = false := decide_eq_false (by omega)
  have HU := Lib.hid (fun W => L8.unpack8_any B0 (i2 : Int) (n0 : Int) W (by simp [Lit.wf, IntKind.min, IntKind.max, IntKind.signed, IntKind.bits]; omega) (by simp [Lit.wf, IntKind.min, IntKind.max, IntKind.signed, IntKind.bits]; omega) (by unfold maxLen; omega))
  obtain ⟨y0, y1, y2, y3, y4⟩ := HH.out.cells
  simp only at y0 y1 y2 y3 y4
  clear h6 hi2
  go_wp2_with fail
  refine (HU.out _).mono ?_
  rintro e w7 ⟨h7, hb7⟩
  have HK := Lib.hid (HK.out.below hb7)
  have HH := Lib.hid (HH.out.below hb7)
  have HB := Lib.hid (HB.out.trans' hb7)
  clear hb7 y0 y1 y2 y3 y4 HU
  obtain ⟨cs, A8, cap, er, rfl, HL, HN⟩ : ∃ (cs : List ByteArray) (A8 : Option Addr) (cap : Nat) (er : Int), e = .returned (.tuple #[.slice A8 cs.length cap, .int .i64 er]) ∧ L5.Lies w7 w7.heap.size A8 cs ∧ Handed s hs5 hl hr T1 T2 cs er := by
    rcases h7 with ⟨h7, -⟩ | ⟨-, h7, rfl⟩ | ⟨-, h7, g, cap, rfl, hgw, hcap, hL7⟩
    · exfalso
      omega
    · rw [Int.toNat_natCast, Int.toNat_natCast] at h7
      have hD := dec_parse_none (HP.out.n3 _ _ _ _ H4.out H6.out h7)
      exact ⟨[], none, 0, 3, rfl, L5.Lies.nil _ _ _, by simp, by simp, by simp, fun _ => hD, fun h => by simp at h⟩
    · rw [Int.toNat_natCast, Int.toNat_natCast] at h7
      rw [Int.toNat_natCast] at hcap hL7 ⊢
      have hcl := L8.cellsB_length B0 n0
      have hcs := L8.cellsB_size B0 n0
      have hcb := L8.bs_cellsB B0 n0
      have hfew := L8.good_few h7
      have hn1 : n0 ≤ 1000 := by
        have h1 : (L5.B B0).length = B0.size := L5.b_size B0
        have h2 : B0.data.toList.length = B0.size := by simp
        omega
      refine ⟨L8.cellsB B0 n0, some ⟨g, 0, none⟩, cap, 0, by rw [hcl], hL7, by omega, fun t ht => by have := hcs t ht; omega, fun t ht hg => ?_, fun h => absurd rfl h, fun _ xs hx => ?_⟩
      · refine dec_parse_none (HP.out.n4 _ _ _ _ H4.out H6.out h7 ?_)
        rw [← hcb]
        exact mapK_none (List.mem_map.2 ⟨t, ht, rfl⟩) hg
      · have h2 := HP.out.ok _ _ _ _ xs H4.out H6.out h7 (by rw [← hcb]; exact hx)
        rwa [bytes_eq] at h2
  clear h7
  have HND := Lib.hid HN
  have HCS : Hid (∀ t ∈ cs, t.size ≤ 1000000) := Lib.hid (fun t ht => by have := HN.size t ht; omega)
  have HL := Lib.hid HL
  have hn1 := HN.few
  obtain ⟨n, hcn⟩ : ∃ n, cs.length = n := ⟨_, rfl⟩
  have HCL := Lib.hid hcn
  rw [hcn] at hn1 ⊢
  clear hcn HN
  obtain ⟨y0, y1, y2, y3, y4⟩ := HH.out.cells
  simp only at y0 y1 y2 y3 y4
  obtain ⟨q7, hq7⟩ : ∃ q7, w7.heap.size = q7 := ⟨_, rfl⟩
  have HN7 := Lib.hid (NRows.ofNew (t := 33) (F := hs5) (L := hl) (R := hr) (H := T2) hq7)
  have hqlt : w.heap.size < q7 := by rw [← hq7]; exact HK.out.lt
  have hb8 := nbox_below 33 hs5 hl hr T2 none 0 0 none 0 0 w7
  have HB8 : Hid (Below q7 (nbox 33 hs5 hl hr T2 none 0 0 none 0 0 w7) (nbox 33 hs5 hl hr T2 none 0 0 none 0 0 w7)) := Lib.hid (Below.refl _ _)
  have HL := Lib.hid (lies_below' HL.out hb8 (Nat.le_refl _))
  have HK := Lib.hid (HK.out.below hb8)
  have HB := Lib.hid (HB.out.trans' hb8)
  clear hb8 hBl hT1 hT2
  rw [hq7] at HL
  go_wp2_with fail
  clear y0 y1 y2 y3 y4
  try rw [hq7]
  simp only [nbox] at HL HK HB HB8 HN7
  have HSZ8 : Hid ((w7.alloc (.cells #[.int .i64 hs5, .int .i64 hl, .int .i64 hr, .string T2, .slice none 0 0, .slice none 0 0] 33)).heap.size = q7 + 1) := Lib.hid (by simp [hq7])
  generalize w7.alloc (.cells #[.int .i64 hs5, .int .i64 hl, .int .i64 hr, .string T2, .slice none 0 0, .slice none 0 0] 33) = w8 at *
  clear hq7
  go_loopw [14] (fun iv wr => ∃ (k : Nat) (K : Option Addr) (kc : Nat) (C : Option Addr) (j cb : Nat) (xs : List (Nat × List UInt8)), k ≤ n ∧ iv = .int .i64 k ∧ j = k - 1 ∧ Hid (mapK ((cs.map L5.B).take k) = some xs) ∧ Hid (NRows 33 q7 hs5 hl hr T2 K k kc C j cb (kidsOf xs) (sepsOf T1.data.toList xs) wr) ∧ Hid (Below q7 w8 wr)) (fun iv _ => n - (intOf iv).toNat)
  case atStart => exact ⟨0, none, 0, none, 0, 0, [], by omega, rfl, rfl, Lib.hid rfl, HN7, HB8⟩
  case round =>
    obtain ⟨k, K, kc, C, j, cb, xs, hk, rfl, hjk, HT, HN, HW⟩ := hrel
    have HJK := Lib.hid hjk
    have hj1000 : j ≤ 1000 := by omega
    clear hjk
    have HKr := Lib.hid (HK.out.on HW.out hqlt)
    have HBr := Lib.hid (HB.out.trans (HW.out.mono (by omega)))
    by_cases hlt : k < n
    · obtain ⟨t, ht⟩ : ∃ t, cs[k]? = some t := ⟨_, List.getElem?_eq_getElem (by have := HCL.out; omega)⟩
      obtain ⟨a8, rfl, hab, x0⟩ := (HL.out.below HW.out) k t ht
      have hts := HCS.out t (List.mem_of_getElem? ht)
      have hct : (cs.map L5.B)[k]? = some (L5.B t) := by rw [List.getElem?_map, ht]; rfl
      have ha := ht
      have h0 : (0 : Int) ≤ k := by omega
      have hkn : (k : Int) < n := by omega
      have HGV := Lib.hid (fun W => L9.rgetk_any t W hts)
      cases hgv : L9.VP.getK t.data.toList with
      | none =>
        have HD : Hid (dec s = none) := Lib.hid (HND.out.bad t (List.mem_of_getElem? ht) hgv)
        rw [hgv] at HGV
        unfold L9.gotK at HGV
        have HK := HKr
        have HB := HBr
        clear ht ha hab hgv HT HN hct HKr HBr
        go_wp2_with fail
        refine (HGV.out _).mono ?_
        rintro e V ⟨rfl, hb⟩
        have HK := Lib.hid (HK.out.below hb)
        have HB := Lib.hid (HB.out.trans' hb)
        clear hb x0
        obtain ⟨x0, x1, x2, x3, x4, x5⟩ := HK.out.cells
        obtain ⟨f0, f1, f2, f3, f4, f5⟩ := HK.out.free
        go_wp2_with fail
        all_goals (first | (obtain ⟨r0, r1, r2, r3, r4, r5⟩ := (setN_box HK.out 0 0 0 ⟨#[]⟩ none 0 0 none 0 0).cells; unfold setN at r0 r1 r2 r3 r4 r5; refine bodyPost_ret (v := .tuple #[nv0, .int .i64 3]) (by simp [results, Tryz.results14, go_sem, r0, r1, r2, r3, r4, r5]) rfl ⟨.inr ⟨HD.out, rfl⟩, ?_⟩; exact setN_below HB.out (Nat.le_refl _) 0 0 0 ⟨#[]⟩ none 0 0 none 0 0) | (rename_i e1 e2; exact absurd (Option.some.inj e1) (by simp [undef])) | (rename_i e1; exact absurd (Option.some.inj e1) (by simp [undef])))
      | some x =>
        obtain ⟨kid, T'⟩ := x
        have hokk := (L9.VP.getK_some hgv).1
        have hT : T'.length ≤ 128 := hokk.2.2
        have HT1 := Lib.hid (mapK_take hct HT.out hgv)
        rw [hgv] at HGV
        unfold L9.gotK at HGV
        simp only at HGV
        obtain ⟨KR, hKR⟩ : ∃ KR : ByteArray, ⟨T'.toArray⟩ = KR := ⟨_, rfl⟩
        have hKRs : KR.size ≤ 128 := by rw [← hKR]; show T'.toArray.size ≤ 128; simpa using hT
        have hcat : ¬ 9223372036854775807 < T1.size + KR.size := by omega
        have hcat' : ¬ (9223372036854775807 : Int) < (T1.size : Int) + (KR.size : Int) := by omega
        rw [hKR] at HGV
        have HCT : Hid (T1 ++ KR = ⟨(T1.data.toList ++ T').toArray⟩) := Lib.hid (by
          rw [← hKR]
          apply ByteArray.ext
          simp)
        have hxl : xs.length = k := by
          have h := mapK_length HT.out
          rw [List.length_take, List.length_map, HCL.out] at h
          omega
        have HXL := Lib.hid hxl
        have HKS := Lib.hid (kidsOf_snoc xs (kid, T'))
        clear ht ha hab hgv hokk hT HT hct hKR hxl
        go_wp2_with fail
        refine (HGV.out _).mono ?_
        rintro e V ⟨rfl, hb⟩
        have HNV := Lib.hid (HN.out.below hb)
        have HWV := Lib.hid (HW.out.trans (hb.mono (by have := HN.out.box.lt; omega)))
        have hqV := HNV.out.box.lt
        clear hb x0 HN HW HKr HBr
        obtain ⟨p0, p1, p2, p3, p4, p5⟩ := HNV.out.box.cells
        obtain ⟨f0, f1, f2, f3, f4, f5⟩ := HNV.out.box.free
        rcases Nat.eq_zero_or_pos k with hk0 | hk0
        · have dk : decide ((0 : Int) < (k : Int)) = false := decide_eq_false (by omega)
          have dk2 : decide (0 < k) = false := decide_eq_false (by omega)
          have HKZ := Lib.hid hk0
          have hkx : ((k : Int) > 0) = False := by simp; omega
          clear hk0
          go_wp2_with (first | (at_builtin; refine wpList_append_lies _ rfl _ _ 22 rfl (q7 + 1) 3 i0 (.int .i64 0) 1 8 Tryz.underlying22 hi hz0 hz1 hz2 rfl (by decide) (.slice K k kc) k _ rfl (HNV.out.kown.alloc _) ⟨V.heap.size, 0, none⟩ 1 1 [.int .i64 kid] rfl rfl (World.news_of_block (cs := #[.int .i64 kid]) (t := 3) (fr := (0, 0)) (heap_alloc_new V _)) (num_one _) (by omega) (by unfold maxLen; omega) (by omega) (by simp; omega) (V.heap.size + 1) (by simp) ?_; intro g' cap' w3 hown3 hgrow3 hat3 hlt3; have hgk := HNV.out.growK hgrow3; have hx3 := hgk.1; have HP3 := Lib.hid (HNV.out.pushK hgrow3 hown3); clear p0 p1 p2 p3 p4 p5 f0 f1 f2 f3 f4 f5 hat3 hlt3 hgrow3; obtain ⟨p0, p1, p2, p3, p4, p5⟩ := hx3.cells; obtain ⟨f0, f1, f2, f3, f4, f5⟩ := hx3.free; obtain ⟨u0, u1, u2, u3, u4, u5⟩ := HP3.out.1.box.cells; obtain ⟨v0, v1, v2, v3, v4, v5⟩ := HP3.out.1.box.free) | fail)
          have hxs0 : xs = [] := List.eq_nil_of_length_eq_zero (by have := HXL.out; have := HKZ.out; omega)
          go_roundw
          case rel =>
            refine ⟨k + 1, some ⟨g', 0, none⟩, cap', C, j, cb, xs ++ [(kid, T')], by omega, by simp, by have := HKZ.out; have := HJK.out; omega, HT1, Lib.hid ?_, Lib.hid (HWV.out.trans HP3.out.2)⟩
            rw [HKS.out]
            subst hxs0
            exact HP3.out.1
          case measure => simp [intOf]; omega
        · have dk : decide ((0 : Int) < (k : Int)) = true := decide_eq_true (by omega)
          have dk2 : decide (0 < k) = true := decide_eq_true hk0
          have HKZ := Lib.hid hk0
          clear hk0
          go_wp2_with (first | (at_builtin; refine wpList_append_lies _ rfl _ _ 22 rfl (q7 + 1) 3 i0 (.int .i64 0) 1 8 Tryz.underlying22 hi hz0 hz1 hz2 rfl (by decide) (.slice K k kc) k _ rfl (HNV.out.kown.alloc _) ⟨V.heap.size, 0, none⟩ 1 1 [.int .i64 kid] rfl rfl (World.news_of_block (cs := #[.int .i64 kid]) (t := 3) (fr := (0, 0)) (heap_alloc_new V _)) (num_one _) (by omega) (by unfold maxLen; omega) (by omega) (by simp; omega) (V.heap.size + 1) (by simp) ?_; intro g' cap' w3 hown3 hgrow3 hat3 hlt3; have hgk := HNV.out.growK hgrow3; have hx3 := hgk.1; have HP3 := Lib.hid (HNV.out.pushK hgrow3 hown3); clear p0 p1 p2 p3 p4 p5 f0 f1 f2 f3 f4 f5 hat3 hlt3 hgrow3; obtain ⟨p0, p1, p2, p3, p4, p5⟩ := hx3.cells; obtain ⟨f0, f1, f2, f3, f4, f5⟩ := hx3.free; obtain ⟨u0, u1, u2, u3, u4, u5⟩ := HP3.out.1.box.cells; obtain ⟨v0, v1, v2, v3, v4, v5⟩ := HP3.out.1.box.free; have hs3 := hx3.lt; have HW4S : Hid ((w3.setCell ⟨q7, 4, none⟩ (.slice (some ⟨g', 0, none⟩) (k + 1) cap')).heap.size = w3.heap.size) := Lib.hid (by simp); have HBK4 : Hid (((w3.setCell ⟨q7, 4, none⟩ (.slice (some ⟨g', 0, none⟩) (k + 1) cap')).alloc (.cells #[.string (T1 ++ KR)] 9)).heap[w3.heap.size]? = some (.cells #[.string (T1 ++ KR)] 9 (0, 0))) := Lib.hid (by have h := heap_alloc_new (w3.setCell ⟨q7, 4, none⟩ (.slice (some ⟨g', 0, none⟩) (k + 1) cap')) (.cells #[.string (T1 ++ KR)] 9); rwa [HW4S.out] at h)) | (at_builtin; refine wpList_append_lies _ rfl _ _ 23 rfl (q7 + 1) 9 j0 (.string ⟨#[]⟩) 1 16 Tryz.underlying23 hj hy0 hy1 hy2 rfl (by decide) (.slice C j cb) j _ rfl (HP3.out.1.sown.alloc _) ⟨w3.heap.size, 0, none⟩ 1 1 [.string (T1 ++ KR)] rfl rfl (World.news_of_block (cs := #[.string (T1 ++ KR)]) (t := 9) (fr := (0, 0)) HBK4.out) (L5.str_one _) (by omega) (by unfold maxLen; omega) (by omega) (by simp; omega) (w3.heap.size + 1) (by simp) ?_; intro g2 cap2 w5 hown5 hgrow5 hat5 hlt5; have hgs := HP3.out.1.growS hgrow5; have hx5 := hgs.1; have HP5 := Lib.hid (HP3.out.1.pushS hgrow5 hown5); clear p0 p1 p2 p3 p4 p5 f0 f1 f2 f3 f4 f5 u0 u1 u2 u3 u4 u5 v0 v1 v2 v3 v4 v5 hat5 hlt5 hgrow5; obtain ⟨p0, p1, p2, p3, p4, p5⟩ := hx5.cells; obtain ⟨f0, f1, f2, f3, f4, f5⟩ := hx5.free) | fail)
          have hxs0 : xs ≠ [] := fun h => by
            have h1 := HXL.out
            have h2 := HKZ.out
            rw [h] at h1
            simp at h1
            omega
          have hse := sepsOf_snoc T1.data.toList xs (kid, T') hxs0
          go_roundw
          case rel =>
            refine ⟨k + 1, some ⟨g', 0, none⟩, cap', some ⟨g2, 0, none⟩, j + 1, cap2, xs ++ [(kid, T')], by omega, by simp, by have := HKZ.out; have := HJK.out; omega, HT1, Lib.hid ?_, Lib.hid ((HWV.out.trans HP3.out.2).trans HP5.out.2)⟩
            rw [HKS.out, hse, ← HCT.out]
            exact HP5.out.1
          case measure => simp [intOf]; omega
    · obtain rfl : k = n := by omega
      have hmk : mapK (cs.map L5.B) = some xs := by
        have h := HT.out
        rwa [List.take_of_length_le (by rw [List.length_map, HCL.out]; exact Nat.le_refl _)] at h
      have hxl : xs.length = k := by have h := mapK_length hmk; rw [List.length_map, HCL.out] at h; exact h
      have HXF : Hid (∀ t ∈ sepsOf T1.data.toList xs, t.size ≤ maxLen) := Lib.hid (sepsOf_size (by simpa using hT1s) (mapK_few hmk))
      have HRW := Lib.hid HN.out.rows
      have HKN : Hid (∀ a, K = some a → a.block ≠ w.heap.size) := Lib.hid (fun a ha => by have := HN.out.kne a ha; omega)
      have HSN : Hid (∀ a, C = some a → a.block ≠ w.heap.size) := Lib.hid (fun a ha => by have := HN.out.sne a ha; omega)
      have hlt' : ¬ (k : Int) < k := by omega
      have HXB := Lib.hid HN.out.box
      have HE := Lib.hid (fun W (h2 : Rows2 W K k kc C j cb (kidsOf xs) (sepsOf T1.data.toList xs)) => renc_any hs5 hl hr T2 K k kc C j cb (kidsOf xs) (sepsOf T1.data.toList xs) s.size W h2 hn1 hj1000 hT2s HXF.out (by simp [Lit.wf, IntKind.min, IntKind.max, IntKind.signed, IntKind.bits]; omega))
      obtain ⟨S2, c2, he⟩ : ∃ S2 c2, enc ⟨hs5, hl, hr, T2, kidsOf xs, sepsOf T1.data.toList xs⟩ s.size = (S2, c2) := ⟨_, _, rfl⟩
      rw [encV, he] at HE
      have HD : Hid ((er ≠ 0 → dec s = none) ∧ (er = 0 → dec s = if (S2, c2) = (s, 0) then some ⟨hs5, hl, hr, T2, kidsOf xs, sepsOf T1.data.toList xs⟩ else none)) := Lib.hid ⟨HND.out.no, fun h => by
        have h2 := dec_parse (HND.out.ok h xs hmk)
        rwa [he] at h2⟩
      obtain ⟨p0, p1, p2, p3, p4, p5⟩ := HXB.out.cells
      obtain ⟨x0, x1, x2, x3, x4, x5⟩ := HKr.out.cells
      obtain ⟨f0, f1, f2, f3, f4, f5⟩ := HKr.out.free
      clear hlt hk HT HN hmk hxl he
      go_wp2_with fail
      refine (HE.out _ HRW.out).mono ?_
      rintro e V ⟨rfl, hb⟩
      clear p0 p1 p2 p3 p4 p5 x0 x1 x2 x3 x4 x5 f0 f1 f2 f3 f4 f5
      have HK := Lib.hid (HKr.out.below hb)
      have HB := Lib.hid (HBr.out.trans' hb)
      have HW := Lib.hid (HRW.out.on hb)
      have HXB := Lib.hid (HXB.out.below hb)
      obtain ⟨p0, p1, p2, p3, p4, p5⟩ := HXB.out.cells
      clear hb HKr HBr HRW
      by_cases her : er = 0
      · subst her
        replace HD := Lib.hid (HD.out.2 rfl)
        by_cases hc0 : c2 = 0
        · subst hc0
          by_cases hS : S2 = s
          · subst hS
            have hz := text_yes (rfl : S2 = S2)
            have hz2 : (S2.toList != S2.toList) = false := by simp
            rw [if_pos rfl] at HD
            obtain ⟨x0, x1, x2, x3, x4, x5⟩ := HK.out.cells
            obtain ⟨f0, f1, f2, f3, f4, f5⟩ := HK.out.free
            go_wp2_with fail
            obtain ⟨r0, r1, r2, r3, r4, r5⟩ := (setN_box HK.out hs5 hl hr T2 K k kc C j cb).cells
            unfold setN at r0 r1 r2 r3 r4 r5
            refine bodyPost_ret (v := .tuple #[nv hs5 hl hr T2 K k kc C j cb, .int .i64 0]) (by simp [results, Tryz.results14, go_sem, r0, r1, r2, r3, r4, r5]) rfl ⟨.inl ⟨hs5, hl, hr, T2, K, k, kc, C, j, cb, _, _, HD.out, rfl, HW.out.stored HKN.out HSN.out _ _ _ _ _ _ _ _ _ _⟩, ?_⟩
            exact setN_below HB.out (Nat.le_refl _) hs5 hl hr T2 K k kc C j cb
          · rw [if_neg (fun h => hS (congrArg Prod.fst h))] at HD
            have hz := text_no hS
            have hz2 : (S2.toList != s.toList) = true := by simp only [bne, hz]; rfl
            clear hS
            obtain ⟨x0, x1, x2, x3, x4, x5⟩ := HK.out.cells
            obtain ⟨f0, f1, f2, f3, f4, f5⟩ := HK.out.free
            go_wp2_with fail
            all_goals (first | (obtain ⟨r0, r1, r2, r3, r4, r5⟩ := (setN_box HK.out 0 0 0 ⟨#[]⟩ none 0 0 none 0 0).cells; unfold setN at r0 r1 r2 r3 r4 r5; refine bodyPost_ret (v := .tuple #[nv0, .int .i64 3]) (by simp [results, Tryz.results14, go_sem, r0, r1, r2, r3, r4, r5]) rfl ⟨.inr ⟨HD.out, rfl⟩, ?_⟩; exact setN_below HB.out (Nat.le_refl _) 0 0 0 ⟨#[]⟩ none 0 0 none 0 0) | (rename_i e1 e2; exact absurd (Option.some.inj e1) (by simp [undef])) | (rename_i e1; exact absurd (Option.some.inj e1) (by simp [undef])))
        · rw [if_neg (fun h => hc0 (congrArg Prod.snd h))] at HD
          have hcn : (c2 != 0) = true := by simpa using hc0
          have hce : (c2 == 0) = false := by simpa using hc0
          clear hc0
          obtain ⟨x0, x1, x2, x3, x4, x5⟩ := HK.out.cells
          obtain ⟨f0, f1, f2, f3, f4, f5⟩ := HK.out.free
          go_wp2_with fail
          all_goals (first | (obtain ⟨r0, r1, r2, r3, r4, r5⟩ := (setN_box HK.out 0 0 0 ⟨#[]⟩ none 0 0 none 0 0).cells; unfold setN at r0 r1 r2 r3 r4 r5; refine bodyPost_ret (v := .tuple #[nv0, .int .i64 3]) (by simp [results, Tryz.results14, go_sem, r0, r1, r2, r3, r4, r5]) rfl ⟨.inr ⟨HD.out, rfl⟩, ?_⟩; exact setN_below HB.out (Nat.le_refl _) 0 0 0 ⟨#[]⟩ none 0 0 none 0 0) | (rename_i e1 e2; exact absurd (Option.some.inj e1) (by simp [undef])) | (rename_i e1; exact absurd (Option.some.inj e1) (by simp [undef])))
      · replace HD := Lib.hid (HD.out.1 her)
        have hcn : (er != 0) = true := by simpa using her
        have hce : (er == 0) = false := by simpa using her
        clear her
        obtain ⟨x0, x1, x2, x3, x4, x5⟩ := HK.out.cells
        obtain ⟨f0, f1, f2, f3, f4, f5⟩ := HK.out.free
        go_wp2_with fail
        all_goals (first | (obtain ⟨r0, r1, r2, r3, r4, r5⟩ := (setN_box HK.out 0 0 0 ⟨#[]⟩ none 0 0 none 0 0).cells; unfold setN at r0 r1 r2 r3 r4 r5; refine bodyPost_ret (v := .tuple #[nv0, .int .i64 3]) (by simp [results, Tryz.results14, go_sem, r0, r1, r2, r3, r4, r5]) rfl ⟨.inr ⟨HD.out, rfl⟩, ?_⟩; exact setN_below HB.out (Nat.le_refl _) 0 0 0 ⟨#[]⟩ none 0 0 none 0 0) | (rename_i e1 e2; exact absurd (Option.some.inj e1) (by simp [undef])) | (rename_i e1; exact absurd (Option.some.inj e1) (by simp [undef])))
end Go.Proofs.YtembccehokodeaaGreatDoor
