import Derived.Test.YtpeghilfldpgfaaGreatDoorT13
import Derived.Test.YtpeghilfldpgfaaGreatDoorT14
set_option linter.unusedVariables false
set_option linter.unusedSimpArgs false
set_option maxHeartbeats 8000000
set_option maxRecDepth 100000
namespace Go.Proofs.YtpeghilfldpgfaaGreatDoor.L11
open Go.RowKit IP
structure Handed (s : ByteArray) (hs5 hl hr : Int) (T1 T2 : ByteArray) (cs : List ByteArray) (er : Int) : Prop where
 few : cs.length ≤ 1000
 size : ∀ t ∈ cs,t.size ≤ 100000
 bad : ∀ t ∈ cs,L9.VP.getK t.data.toList = none → dec s = none
 no : er ≠ 0 → dec s = none
 ok : er = 0 → ∀ xs,mapK (cs.map L5.B) = some xs → parse s = some ⟨hs5,hl,hr,T2,kidsOf xs,sepsOf T1.data.toList xs⟩
theorem sepsOf_size {c : List UInt8} {xs : List (Nat × List UInt8)} (hc : c.length ≤ 1000000) (hx : ∀ x ∈ xs,x.2.length ≤ 128) : ∀ t ∈ sepsOf c xs,t.size ≤ maxLen := by
 intro t ht;unfold sepsOf at ht;obtain ⟨x,hx1,rfl⟩ := List.mem_map.1 ht;have := hx x (List.mem_of_mem_drop hx1);show (c ++ x.2).toArray.size ≤ _;unfold maxLen;rw [List.size_toArray,List.length_append];omega
theorem mapK_few : ∀ {cs : List (List UInt8)} {xs : List (Nat × List UInt8)},mapK cs = some xs → ∀ x ∈ xs,x.2.length ≤ 128
 | [],xs,h => by obtain rfl := Option.some.inj (show some [] = some xs from h);simp
 | c :: cs,xs,h => by
  simp only [mapK] at h
  cases hd : L9.VP.getK c with
  | none => rw [hd] at h;cases h
  | some y =>
   rw [hd] at h
   cases ha : mapK cs with
   | none => rw [ha] at h;cases h
   | some zs =>
    rw [ha] at h;obtain rfl := Option.some.inj h;intro x hx;rcases List.mem_cons.1 hx with rfl | hx
    ·have h1 := (L9.VP.getK_some hd).1
     unfold L9.VP.OkK at h1;exact h1.2.2
    ·exact mapK_few ha x hx
theorem rdec_any (s : ByteArray) (w : World) (hz : L7.Sizes w) (hs : s.size ≤ 1000000) :
  Calls Tryz.prog 48 #[.string s] w fun e w' => DecS s w.heap.size e w' ∧ Below w.heap.size w w' := by
 obtain ⟨i0,hi,hz0,hz1,hz2⟩ := info_parts Tryz.infoNum;obtain ⟨j0,hj,hy0,hy1,hy2⟩ := info_parts L5.Tryz.infoStr;have hb0 := nbox_below 42 0 0 0 ⟨#[]⟩ none 0 0 none 0 0 w;have HB0 := zj hb0;have HK0 := zj (nbox_new 42 0 0 0 ⟨#[]⟩ none 0 0 none 0 0 w);have HG0 := zj (hz.below hz.lt hb0);have HOP := zj (fun W (h : L7.Sizes W) => L7.refOpen_any s W h);clear hb0 hz;by_cases hgood : ¬ (L7.mayBe s.size = true ∧ L7.HP.good s.data.toList)
 ·have HD : Hid (dec s = none) := zj (dec_parse_none (by unfold parse;rw [if_neg hgood]))
  have hv : L7.opnV s = .tuple #[.agg #[.int .i64 0,.int .i64 0,.int .i64 0,.int .i64 0,.int .i64 0],.string ⟨#[]⟩,.int .i64 3] := by
   unfold L7.opnV;rw [L7.HP.opn_bad hgood];rfl
  rw [hv] at HOP;clear hgood hv;go_enter Tryz.func48,Tryz.ntmps48;go_wp2_with fail;refine (HOP.out _ HG0.out).mono ?_;rintro e w2 ⟨rfl,hb2⟩;have hb3 := hb2.trans' (L5.below_alloc w2 (.cells #[.int .i64 0,.int .i64 0,.int .i64 0,.int .i64 0,.int .i64 0] 153));have HK := zj (HK0.out.below hb3);have HB := zj (HB0.out.trans' hb3);clear hb2 hb3;obtain ⟨x0,x1,x2,x3,x4,x5⟩ := HK.out.cells;obtain ⟨f0,f1,f2,f3,f4,f5⟩ := HK.out.free;go_wp2_with fail
  all_goals (first | (obtain ⟨r0,r1,r2,r3,r4,r5⟩ := (setN_box HK.out 0 0 0 ⟨#[]⟩ none 0 0 none 0 0).cells;unfold setN at r0 r1 r2 r3 r4 r5;refine bodyPost_ret (v := .tuple #[nv0,.int .i64 3]) (by simp [results,Tryz.results48,go_sem,r0,r1,r2,r3,r4,r5]) rfl ⟨.inr ⟨HD.out,rfl⟩,?_⟩;exact setN_below HB.out (Nat.le_refl _) 0 0 0 ⟨#[]⟩ none 0 0 none 0 0) | (rename_i e1 e2;exact absurd (Option.some.inj e1) (by simp [undef])) | (rename_i e1;exact absurd (Option.some.inj e1) (by simp [undef])))
 have hgd := Decidable.not_not.1 hgood;have hm := mayBe_le hgd.1;have hok : L7.HP.Ok (L7.HP.headOf s.data.toList) := hgd.2.1;obtain ⟨B0,hB0⟩ : ∃ B0,s.extract 16 s.size = B0 := ⟨_,rfl⟩
 have hBl : B0.data.toList = s.data.toList.drop 16 := by
  rw [← hB0,Lib.extract_data,List.take_of_length_le (by simp)]
 have hBs : B0.size + 16 = s.size := by rw [← hB0];simp;omega
 have hv : L7.opnV s = .tuple #[L7.hv (L7.HP.headOf s.data.toList),.string B0,.int .i64 0] := by
  unfold L7.opnV;rw [L7.HP.opn_good hgd.1 hgd.2,hB0]
 obtain ⟨hk,hl,hc,hr,hs5,hhd⟩ : ∃ k l c r f,L7.HP.headOf s.data.toList = ⟨k,l,c,r,f⟩ := ⟨_,_,_,_,_,rfl⟩;rw [hhd] at hv hok;obtain ⟨n0,rfl⟩ : ∃ n : Nat,hc = n := Int.eq_ofNat_of_zero_le hok.2.2.2.2.1
 have hn : n0 ≤ 65535 := by have h := hok.2.2.2.2.2.1;simp only at h;omega
 have HP := zj (reads_of hgd hBl hhd);simp only [L7.hv] at hv;rw [hv] at HOP;by_cases hk3 : hk ≠ 3
 ·have HD : Hid (dec s = none) := zj (dec_kind (by rw [hhd];exact hk3))
  have hkn : (hk != 3) = true := by simpa using hk3
  clear hgood hgd hok hBl hB0 hv hhd hk3;go_enter Tryz.func48,Tryz.ntmps48;go_wp2_with fail;refine (HOP.out _ HG0.out).mono ?_;rintro e w2 ⟨rfl,hb2⟩;have hb3 := hb2.trans' (L5.below_alloc w2 (.cells #[.int .i64 hk,.int .i64 hl,.int .i64 n0,.int .i64 hr,.int .i64 hs5] 153));have HK := zj (HK0.out.below hb3);have HB := zj (HB0.out.trans' hb3);have HH := zj (show L7.Bx 153 w2.heap.size ⟨hk,hl,n0,hr,hs5⟩ (w2.alloc (.cells #[.int .i64 hk,.int .i64 hl,.int .i64 n0,.int .i64 hr,.int .i64 hs5] 153)) from heap_alloc_new _ _);clear hb2 hb3;obtain ⟨y0,y1,y2,y3,y4⟩ := HH.out.cells;simp only at y0 y1 y2 y3 y4;obtain ⟨x0,x1,x2,x3,x4,x5⟩ := HK.out.cells;obtain ⟨f0,f1,f2,f3,f4,f5⟩ := HK.out.free;go_wp2_with fail
  all_goals (first | (obtain ⟨r0,r1,r2,r3,r4,r5⟩ := (setN_box HK.out 0 0 0 ⟨#[]⟩ none 0 0 none 0 0).cells;unfold setN at r0 r1 r2 r3 r4 r5;refine bodyPost_ret (v := .tuple #[nv0,.int .i64 3]) (by simp [results,Tryz.results48,go_sem,r0,r1,r2,r3,r4,r5]) rfl ⟨.inr ⟨HD.out,rfl⟩,?_⟩;exact setN_below HB.out (Nat.le_refl _) 0 0 0 ⟨#[]⟩ none 0 0 none 0 0) | (rename_i e1 e2;exact absurd (Option.some.inj e1) (by simp [undef])) | (rename_i e1;exact absurd (Option.some.inj e1) (by simp [undef])))
 obtain rfl : hk = 3 := Classical.not_not.1 hk3;clear hgood hgd hok hB0 hv hhd hk3;have HRT := zj (fun (i : Nat) W (hi : i ≤ B0.size) => rtext_any B0 i W hi (by omega));have HRN := zj (fun W => rtext_neg B0 (-1) W (by omega));go_enter Tryz.func48,Tryz.ntmps48;go_wp2_with fail;refine (HOP.out _ HG0.out).mono ?_;rintro e w2 ⟨rfl,hb2⟩;have hb3 := hb2.trans' (L5.below_alloc w2 (.cells #[.int .i64 3,.int .i64 hl,.int .i64 n0,.int .i64 hr,.int .i64 hs5] 153));have HK := zj (HK0.out.below hb3);have HB := zj (HB0.out.trans' hb3);have HH := zj (show L7.Bx 153 w2.heap.size ⟨3,hl,n0,hr,hs5⟩ (w2.alloc (.cells #[.int .i64 3,.int .i64 hl,.int .i64 n0,.int .i64 hr,.int .i64 hs5] 153)) from heap_alloc_new _ _);clear hb2 hb3 HK0 HB0 HG0 HOP;obtain ⟨y0,y1,y2,y3,y4⟩ := HH.out.cells;simp only at y0 y1 y2 y3 y4;go_wp2_with fail;clear y0 y1 y2 y3 y4;generalize hW3 : w2.alloc (.cells #[.int .i64 3,.int .i64 hl,.int .i64 n0,.int .i64 hr,.int .i64 hs5] 153) = W3 at *;generalize w2.heap.size = q at *;clear hW3;refine (HRT.out 0 _ (by omega)).mono ?_;rintro e w4 ⟨h4,hb4⟩;have HK := zj (HK.out.below hb4);have HH := zj (HH.out.below hb4);have HB := zj (HB.out.trans' hb4);clear hb4;rcases h4 with ⟨h4,rfl⟩ | ⟨T1,i1,h4,rfl⟩
 ·have HD := zj (dec_parse_none (HP.out.n1 h4))
  clear h4;go_wp2_with fail;refine (HRN.out _).mono ?_;rintro e w6 ⟨rfl,hb⟩;have HB := zj (HB.out.trans' hb);have HK := zj (HK.out.below hb);clear hb HH;obtain ⟨x0,x1,x2,x3,x4,x5⟩ := HK.out.cells;obtain ⟨f0,f1,f2,f3,f4,f5⟩ := HK.out.free;go_wp2_with fail
  all_goals (first | (obtain ⟨r0,r1,r2,r3,r4,r5⟩ := (setN_box HK.out 0 0 0 ⟨#[]⟩ none 0 0 none 0 0).cells;unfold setN at r0 r1 r2 r3 r4 r5;refine bodyPost_ret (v := .tuple #[nv0,.int .i64 3]) (by simp [results,Tryz.results48,go_sem,r0,r1,r2,r3,r4,r5]) rfl ⟨.inr ⟨HD.out,rfl⟩,?_⟩;exact setN_below HB.out (Nat.le_refl _) 0 0 0 ⟨#[]⟩ none 0 0 none 0 0) | (rename_i e1 e2;exact absurd (Option.some.inj e1) (by simp [undef])) | (rename_i e1;exact absurd (Option.some.inj e1) (by simp [undef])))
 have hi1 := (L9.gtext_some h4);have H4 := zj h4
 have hBl : B0.data.toList.length = B0.size := by simp
 have hT1 : T1.data.toList.length = T1.size := by simp
 have hT1s : T1.size ≤ 1000000 := by omega
 have hi1' : i1 ≤ B0.size := by omega
 clear h4 hi1;go_wp2_with fail;refine (HRT.out i1 _ hi1').mono ?_;rintro e w6 ⟨h6,hb6⟩;have HK := zj (HK.out.below hb6);have HH := zj (HH.out.below hb6);have HB := zj (HB.out.trans' hb6);clear hb6;rcases h6 with ⟨h6,rfl⟩ | ⟨T2,i2,h6,rfl⟩
 ·have HD := zj (dec_parse_none (HP.out.n2 _ _ H4.out h6))
  clear h6 HH;obtain ⟨x0,x1,x2,x3,x4,x5⟩ := HK.out.cells;obtain ⟨f0,f1,f2,f3,f4,f5⟩ := HK.out.free;go_wp2_with fail
  all_goals (first | (obtain ⟨r0,r1,r2,r3,r4,r5⟩ := (setN_box HK.out 0 0 0 ⟨#[]⟩ none 0 0 none 0 0).cells;unfold setN at r0 r1 r2 r3 r4 r5;refine bodyPost_ret (v := .tuple #[nv0,.int .i64 3]) (by simp [results,Tryz.results48,go_sem,r0,r1,r2,r3,r4,r5]) rfl ⟨.inr ⟨HD.out,rfl⟩,?_⟩;exact setN_below HB.out (Nat.le_refl _) 0 0 0 ⟨#[]⟩ none 0 0 none 0 0) | (rename_i e1 e2;exact absurd (Option.some.inj e1) (by simp [undef])) | (rename_i e1;exact absurd (Option.some.inj e1) (by simp [undef])))
 have hi2 := (L9.gtext_some h6);have H6 := zj h6
 have hT2 : T2.data.toList.length = T2.size := by simp
 have hT2s : T2.size ≤ 1000000 := by omega
 have hi2' : i2 ≤ B0.size := by omega
 have di2 : decide ((i2 : Int) < 0) = false := dF (by omega);have HU := zj (fun W => L8.unpack8_any B0 (i2 : Int) (n0 : Int) W (by simp [Lit.wf,IntKind.min,IntKind.max,IntKind.signed,IntKind.bits];omega) (by simp [Lit.wf,IntKind.min,IntKind.max,IntKind.signed,IntKind.bits];omega) (by unfold maxLen;omega));obtain ⟨y0,y1,y2,y3,y4⟩ := HH.out.cells;simp only at y0 y1 y2 y3 y4;clear h6 hi2;go_wp2_with fail;refine (HU.out _).mono ?_;rintro e w7 ⟨h7,hb7⟩;have HK := zj (HK.out.below hb7);have HH := zj (HH.out.below hb7);have HB := zj (HB.out.trans' hb7);clear hb7 y0 y1 y2 y3 y4 HU
 obtain ⟨cs,A8,cap,er,rfl,HL,HN⟩ : ∃ (cs : List ByteArray) (A8 : Option Addr) (cap : Nat) (er : Int),e = .returned (.tuple #[.slice A8 cs.length cap,.int .i64 er]) ∧ L5.Lies w7 w7.heap.size A8 cs ∧ Handed s hs5 hl hr T1 T2 cs er := by
  rcases h7 with ⟨h7,-⟩ | ⟨-,h7,rfl⟩ | ⟨-,h7,g,cap,rfl,hgw,hcap,hL7⟩
  ·exfalso
   omega
  ·rw [Int.toNat_natCast,Int.toNat_natCast] at h7
   have hD := dec_parse_none (HP.out.n3 _ _ _ _ H4.out H6.out h7);exact ⟨[],none,0,3,rfl,L5.Lies.nil _ _ _,by simp,by simp,by simp,fun _ => hD,fun h => by simp at h⟩
  ·rw [Int.toNat_natCast,Int.toNat_natCast] at h7
   rw [Int.toNat_natCast] at hcap hL7 ⊢;have hcl := L8.cellsB_length B0 n0;have hcs := L8.cellsB_size B0 n0;have hcb := L8.bs_cellsB B0 n0;have hfew := L8.good_few h7
   have hn1 : n0 ≤ 1000 := by
    have h1 : (L5.B B0).length = B0.size := L5.b_size B0
    have h2 : B0.data.toList.length = B0.size := by simp
    omega
   refine ⟨L8.cellsB B0 n0,some ⟨g,0,none⟩,cap,0,by rw [hcl],hL7,by omega,fun t ht => by have := hcs t ht;omega,fun t ht hg => ?_,fun h => absurd rfl h,fun _ xs hx => ?_⟩
   ·refine dec_parse_none (HP.out.n4 _ _ _ _ H4.out H6.out h7 ?_)
    rw [← hcb];exact mapK_none (List.mem_map.2 ⟨t,ht,rfl⟩) hg
   ·have h2 := HP.out.ok _ _ _ _ xs H4.out H6.out h7 (by rw [← hcb];exact hx)
    rwa [bytes_eq] at h2
 clear h7;have HND := zj HN;have HCS : Hid (∀ t ∈ cs,t.size ≤ 1000000) := zj (fun t ht => by have := HN.size t ht;omega);have HL := zj HL;have hn1 := HN.few;obtain ⟨n,hcn⟩ : ∃ n,cs.length = n := ⟨_,rfl⟩;have HCL := zj hcn;rw [hcn] at hn1 ⊢;clear hcn HN;obtain ⟨y0,y1,y2,y3,y4⟩ := HH.out.cells;simp only at y0 y1 y2 y3 y4;obtain ⟨q7,hq7⟩ : ∃ q7,w7.heap.size = q7 := ⟨_,rfl⟩;have HN7 := zj (NRows.ofNew (t := 42) (F := hs5) (L := hl) (R := hr) (H := T2) hq7)
 have hqlt : w.heap.size < q7 := by rw [← hq7];exact HK.out.lt
 have hb8 := nbox_below 42 hs5 hl hr T2 none 0 0 none 0 0 w7;have HB8 : Hid (Below q7 (nbox 42 hs5 hl hr T2 none 0 0 none 0 0 w7) (nbox 42 hs5 hl hr T2 none 0 0 none 0 0 w7)) := zj (Below.refl _ _);have HL := zj (lies_below' HL.out hb8 (Nat.le_refl _));have HK := zj (HK.out.below hb8);have HB := zj (HB.out.trans' hb8);clear hb8 hBl hT1 hT2;rw [hq7] at HL;go_wp2_with fail;clear y0 y1 y2 y3 y4
 try rw [hq7]
 simp only [nbox] at HL HK HB HB8 HN7;have HSZ8 : Hid ((w7.alloc (.cells #[.int .i64 hs5,.int .i64 hl,.int .i64 hr,.string T2,.slice none 0 0,.slice none 0 0] 42)).heap.size = q7 + 1) := zj (by simp [hq7]);generalize w7.alloc (.cells #[.int .i64 hs5,.int .i64 hl,.int .i64 hr,.string T2,.slice none 0 0,.slice none 0 0] 42) = w8 at *;clear hq7
 go_loopw [14] (fun iv wr => ∃ (k : Nat) (K : Option Addr) (kc : Nat) (C : Option Addr) (j cb : Nat) (xs : List (Nat × List UInt8)),k ≤ n ∧ iv = .int .i64 k ∧ j = k - 1 ∧ Hid (mapK ((cs.map L5.B).take k) = some xs) ∧ Hid (NRows 42 q7 hs5 hl hr T2 K k kc C j cb (kidsOf xs) (sepsOf T1.data.toList xs) wr) ∧ Hid (Below q7 w8 wr)) (fun iv _ => n - (intOf iv).toNat)
 case atStart => exact ⟨0,none,0,none,0,0,[],by omega,rfl,rfl,zj rfl,HN7,HB8⟩
 case round =>
  obtain ⟨k,K,kc,C,j,cb,xs,hk,rfl,hjk,HT,HN,HW⟩ := hrel;have HJK := zj hjk
  have hj1000 : j ≤ 1000 := by omega
  clear hjk;have HKr := zj (HK.out.on HW.out hqlt);have HBr := zj (HB.out.trans (HW.out.mono (by omega)));by_cases hlt : k < n
  ·obtain ⟨t,ht⟩ : ∃ t,cs[k]? = some t := ⟨_,List.getElem?_eq_getElem (by have := HCL.out;omega)⟩
   obtain ⟨a8,rfl,hab,x0⟩ := (HL.out.below HW.out) k t ht;have hts := HCS.out t (List.mem_of_getElem? ht)
   have hct : (cs.map L5.B)[k]? = some (L5.B t) := by rw [List.getElem?_map,ht];rfl
   have ha := ht
   have h0 : (0 : Int) ≤ k := by omega
   have hkn : (k : Int) < n := by omega
   have HGV := zj (fun W => L9.rgetk_any t W hts)
   cases hgv : L9.VP.getK t.data.toList with
   | none =>
    have HD : Hid (dec s = none) := zj (HND.out.bad t (List.mem_of_getElem? ht) hgv);rw [hgv] at HGV;unfold L9.gotK at HGV;have HK := HKr;have HB := HBr;clear ht ha hab hgv HT HN hct HKr HBr;go_wp2_with fail;refine (HGV.out _).mono ?_;rintro e V ⟨rfl,hb⟩;have HK := zj (HK.out.below hb);have HB := zj (HB.out.trans' hb);clear hb x0;obtain ⟨x0,x1,x2,x3,x4,x5⟩ := HK.out.cells;obtain ⟨f0,f1,f2,f3,f4,f5⟩ := HK.out.free;go_wp2_with fail
    all_goals (first | (obtain ⟨r0,r1,r2,r3,r4,r5⟩ := (setN_box HK.out 0 0 0 ⟨#[]⟩ none 0 0 none 0 0).cells;unfold setN at r0 r1 r2 r3 r4 r5;refine bodyPost_ret (v := .tuple #[nv0,.int .i64 3]) (by simp [results,Tryz.results48,go_sem,r0,r1,r2,r3,r4,r5]) rfl ⟨.inr ⟨HD.out,rfl⟩,?_⟩;exact setN_below HB.out (Nat.le_refl _) 0 0 0 ⟨#[]⟩ none 0 0 none 0 0) | (rename_i e1 e2;exact absurd (Option.some.inj e1) (by simp [undef])) | (rename_i e1;exact absurd (Option.some.inj e1) (by simp [undef])))
   | some x =>
    obtain ⟨kid,T'⟩ := x;have hokk := (L9.VP.getK_some hgv).1;have hT : T'.length ≤ 128 := hokk.2.2;have HT1 := zj (mapK_take hct HT.out hgv);rw [hgv] at HGV;unfold L9.gotK at HGV;simp only at HGV;obtain ⟨KR,hKR⟩ : ∃ KR : ByteArray,⟨T'.toArray⟩ = KR := ⟨_,rfl⟩
    have hKRs : KR.size ≤ 128 := by rw [← hKR];show T'.toArray.size ≤ 128;simpa using hT
    have hcat : ¬ 9223372036854775807 < T1.size + KR.size := by omega
    have hcat' : ¬ (9223372036854775807 : Int) < (T1.size : Int) + (KR.size : Int) := by omega
    rw [hKR] at HGV
    have HCT : Hid (T1 ++ KR = ⟨(T1.data.toList ++ T').toArray⟩) := zj (by
     rw [← hKR];apply ByteArray.ext
     simp)
    have hxl : xs.length = k := by
     have h := mapK_length HT.out;rw [List.length_take,List.length_map,HCL.out] at h;omega
    have HXL := zj hxl;have HKS := zj (kidsOf_snoc xs (kid,T'));clear ht ha hab hgv hokk hT HT hct hKR hxl;go_wp2_with fail;refine (HGV.out _).mono ?_;rintro e V ⟨rfl,hb⟩;have HNV := zj (HN.out.below hb);have HWV := zj (HW.out.trans (hb.mono (by have := HN.out.box.lt;omega)));have hqV := HNV.out.box.lt;clear hb x0 HN HW HKr HBr;obtain ⟨p0,p1,p2,p3,p4,p5⟩ := HNV.out.box.cells;obtain ⟨f0,f1,f2,f3,f4,f5⟩ := HNV.out.box.free;rcases Nat.eq_zero_or_pos k with hk0 | hk0
    ·have dk : decide ((0 : Int) < (k : Int)) = false := dF (by omega)
     have dk2 : decide (0 < k) = false := dF (by omega);have HKZ := zj hk0
     have hkx : ((k : Int) > 0) = False := by simp;omega
     clear hk0;go_wp2_with (first | (at_builtin;refine wpList_append_lies _ rfl _ _ 27 rfl (q7 + 1) 3 i0 (.int .i64 0) 1 8 Tryz.underlying27 hi hz0 hz1 hz2 rfl (by decide) (.slice K k kc) k _ rfl (HNV.out.kown.alloc _) ⟨V.heap.size,0,none⟩ 1 1 [.int .i64 kid] rfl rfl (World.news_of_block (cs := #[.int .i64 kid]) (t := 3) (fr := (0,0)) (heap_alloc_new V _)) (num_one _) (by omega) (by unfold maxLen;omega) (by omega) (by simp;omega) (V.heap.size + 1) (by simp) ?_;intro g' cap' w3 hown3 hgrow3 hat3 hlt3;have hgk := HNV.out.growK hgrow3;have hx3 := hgk.1;have HP3 := zj (HNV.out.pushK hgrow3 hown3);clear p0 p1 p2 p3 p4 p5 f0 f1 f2 f3 f4 f5 hat3 hlt3 hgrow3;obtain ⟨p0,p1,p2,p3,p4,p5⟩ := hx3.cells;obtain ⟨f0,f1,f2,f3,f4,f5⟩ := hx3.free;obtain ⟨u0,u1,u2,u3,u4,u5⟩ := HP3.out.1.box.cells;obtain ⟨v0,v1,v2,v3,v4,v5⟩ := HP3.out.1.box.free) | fail);have hxs0 : xs = [] := List.eq_nil_of_length_eq_zero (by have := HXL.out;have := HKZ.out;omega)
     go_roundw
     case rel =>
      refine ⟨k + 1,some ⟨g',0,none⟩,cap',C,j,cb,xs ++ [(kid,T')],by omega,by simp,by have := HKZ.out;have := HJK.out;omega,HT1,zj ?_,zj (HWV.out.trans HP3.out.2)⟩;rw [HKS.out];subst hxs0;exact HP3.out.1
     case measure => simp [intOf];omega
    ·have dk : decide ((0 : Int) < (k : Int)) = true := dT (by omega)
     have dk2 : decide (0 < k) = true := dT hk0;have HKZ := zj hk0;clear hk0;go_wp2_with (first | (at_builtin;refine wpList_append_lies _ rfl _ _ 27 rfl (q7 + 1) 3 i0 (.int .i64 0) 1 8 Tryz.underlying27 hi hz0 hz1 hz2 rfl (by decide) (.slice K k kc) k _ rfl (HNV.out.kown.alloc _) ⟨V.heap.size,0,none⟩ 1 1 [.int .i64 kid] rfl rfl (World.news_of_block (cs := #[.int .i64 kid]) (t := 3) (fr := (0,0)) (heap_alloc_new V _)) (num_one _) (by omega) (by unfold maxLen;omega) (by omega) (by simp;omega) (V.heap.size + 1) (by simp) ?_;intro g' cap' w3 hown3 hgrow3 hat3 hlt3;have hgk := HNV.out.growK hgrow3;have hx3 := hgk.1;have HP3 := zj (HNV.out.pushK hgrow3 hown3);clear p0 p1 p2 p3 p4 p5 f0 f1 f2 f3 f4 f5 hat3 hlt3 hgrow3;obtain ⟨p0,p1,p2,p3,p4,p5⟩ := hx3.cells;obtain ⟨f0,f1,f2,f3,f4,f5⟩ := hx3.free;obtain ⟨u0,u1,u2,u3,u4,u5⟩ := HP3.out.1.box.cells;obtain ⟨v0,v1,v2,v3,v4,v5⟩ := HP3.out.1.box.free;have hs3 := hx3.lt;have HW4S : Hid ((w3.setCell ⟨q7,4,none⟩ (.slice (some ⟨g',0,none⟩) (k + 1) cap')).heap.size = w3.heap.size) := zj (by simp);have HBK4 : Hid (((w3.setCell ⟨q7,4,none⟩ (.slice (some ⟨g',0,none⟩) (k + 1) cap')).alloc (.cells #[.string (T1 ++ KR)] 9)).heap[w3.heap.size]? = some (.cells #[.string (T1 ++ KR)] 9 (0,0))) := zj (by have h := heap_alloc_new (w3.setCell ⟨q7,4,none⟩ (.slice (some ⟨g',0,none⟩) (k + 1) cap')) (.cells #[.string (T1 ++ KR)] 9);rwa [HW4S.out] at h)) | (at_builtin;refine wpList_append_lies _ rfl _ _ 22 rfl (q7 + 1) 9 j0 (.string ⟨#[]⟩) 1 16 Tryz.underlying22 hj hy0 hy1 hy2 rfl (by decide) (.slice C j cb) j _ rfl (HP3.out.1.sown.alloc _) ⟨w3.heap.size,0,none⟩ 1 1 [.string (T1 ++ KR)] rfl rfl (World.news_of_block (cs := #[.string (T1 ++ KR)]) (t := 9) (fr := (0,0)) HBK4.out) (L5.str_one _) (by omega) (by unfold maxLen;omega) (by omega) (by simp;omega) (w3.heap.size + 1) (by simp) ?_;intro g2 cap2 w5 hown5 hgrow5 hat5 hlt5;have hgs := HP3.out.1.growS hgrow5;have hx5 := hgs.1;have HP5 := zj (HP3.out.1.pushS hgrow5 hown5);clear p0 p1 p2 p3 p4 p5 f0 f1 f2 f3 f4 f5 u0 u1 u2 u3 u4 u5 v0 v1 v2 v3 v4 v5 hat5 hlt5 hgrow5;obtain ⟨p0,p1,p2,p3,p4,p5⟩ := hx5.cells;obtain ⟨f0,f1,f2,f3,f4,f5⟩ := hx5.free) | fail)
     have hxs0 : xs ≠ [] := fun h => by
      have h1 := HXL.out;have h2 := HKZ.out;rw [h] at h1;simp at h1;omega
     have hse := sepsOf_snoc T1.data.toList xs (kid,T') hxs0
     go_roundw
     case rel =>
      refine ⟨k + 1,some ⟨g',0,none⟩,cap',some ⟨g2,0,none⟩,j + 1,cap2,xs ++ [(kid,T')],by omega,by simp,by have := HKZ.out;have := HJK.out;omega,HT1,zj ?_,zj ((HWV.out.trans HP3.out.2).trans HP5.out.2)⟩;rw [HKS.out,hse,← HCT.out];exact HP5.out.1
     case measure => simp [intOf];omega
  ·obtain rfl : k = n := by omega
   have hmk : mapK (cs.map L5.B) = some xs := by
    have h := HT.out;rwa [List.take_of_length_le (by rw [List.length_map,HCL.out];exact Nat.le_refl _)] at h
   have hxl : xs.length = k := by have h := mapK_length hmk;rw [List.length_map,HCL.out] at h;exact h
   have HXF : Hid (∀ t ∈ sepsOf T1.data.toList xs,t.size ≤ maxLen) := zj (sepsOf_size (by simpa using hT1s) (mapK_few hmk));have HRW := zj HN.out.rows;have HKN : Hid (∀ a,K = some a → w.heap.size < a.block) := zj (fun a ha => by have := HN.out.kne a ha;omega);have HSN : Hid (∀ a,C = some a → w.heap.size < a.block) := zj (fun a ha => by have := HN.out.sne a ha;omega)
   have hlt' : ¬ (k : Int) < k := by omega
   have HXB := zj HN.out.box;have HE := zj (fun W (h2 : Rows2 W K k kc C j cb (kidsOf xs) (sepsOf T1.data.toList xs)) => renc_any hs5 hl hr T2 K k kc C j cb (kidsOf xs) (sepsOf T1.data.toList xs) s.size W h2 hn1 hj1000 hT2s HXF.out (by simp [Lit.wf,IntKind.min,IntKind.max,IntKind.signed,IntKind.bits];omega));obtain ⟨S2,c2,he⟩ : ∃ S2 c2,enc ⟨hs5,hl,hr,T2,kidsOf xs,sepsOf T1.data.toList xs⟩ s.size = (S2,c2) := ⟨_,_,rfl⟩;rw [encV,he] at HE
   have HD : Hid ((er ≠ 0 → dec s = none) ∧ (er = 0 → dec s = if (S2,c2) = (s,0) then some ⟨hs5,hl,hr,T2,kidsOf xs,sepsOf T1.data.toList xs⟩ else none)) := zj ⟨HND.out.no,fun h => by
    have h2 := dec_parse (HND.out.ok h xs hmk)
    rwa [he] at h2⟩
   obtain ⟨p0,p1,p2,p3,p4,p5⟩ := HXB.out.cells;obtain ⟨x0,x1,x2,x3,x4,x5⟩ := HKr.out.cells;obtain ⟨f0,f1,f2,f3,f4,f5⟩ := HKr.out.free;clear hlt hk HT HN hmk hxl he;go_wp2_with fail;refine (HE.out _ HRW.out).mono ?_;rintro e V ⟨rfl,hb⟩;clear p0 p1 p2 p3 p4 p5 x0 x1 x2 x3 x4 x5 f0 f1 f2 f3 f4 f5;have HK := zj (HKr.out.below hb);have HB := zj (HBr.out.trans' hb);have HW := zj (HRW.out.on hb);have HXB := zj (HXB.out.below hb);obtain ⟨p0,p1,p2,p3,p4,p5⟩ := HXB.out.cells;clear hb HKr HBr HRW;by_cases her : er = 0
   ·subst her
    replace HD := zj (HD.out.2 rfl);by_cases hc0 : c2 = 0
    ·subst hc0
     by_cases hS : S2 = s
     ·subst hS
      have hz := text_yes (rfl : S2 = S2)
      have hz2 : (S2.toList != S2.toList) = false := by simp
      rw [if_pos rfl] at HD;obtain ⟨x0,x1,x2,x3,x4,x5⟩ := HK.out.cells;obtain ⟨f0,f1,f2,f3,f4,f5⟩ := HK.out.free;go_wp2_with fail;obtain ⟨r0,r1,r2,r3,r4,r5⟩ := (setN_box HK.out hs5 hl hr T2 K k kc C j cb).cells;unfold setN at r0 r1 r2 r3 r4 r5;refine bodyPost_ret (v := .tuple #[nv hs5 hl hr T2 K k kc C j cb,.int .i64 0]) (by simp [results,Tryz.results48,go_sem,r0,r1,r2,r3,r4,r5]) rfl ⟨.inl ⟨hs5,hl,hr,T2,K,k,kc,C,j,cb,_,_,HD.out,rfl,HW.out.stored (fun a h => Nat.ne_of_gt (HKN.out a h)) (fun a h => Nat.ne_of_gt (HSN.out a h)) _ _ _ _ _ _ _ _ _ _,fun a h => Nat.le_of_lt (HKN.out a h),fun a h => Nat.le_of_lt (HSN.out a h)⟩,?_⟩;exact setN_below HB.out (Nat.le_refl _) hs5 hl hr T2 K k kc C j cb
     ·rw [if_neg (fun h => hS (congrArg Prod.fst h))] at HD
      have hz := text_no hS
      have hz2 : (S2.toList != s.toList) = true := by simp only [bne,hz];rfl
      clear hS;obtain ⟨x0,x1,x2,x3,x4,x5⟩ := HK.out.cells;obtain ⟨f0,f1,f2,f3,f4,f5⟩ := HK.out.free;go_wp2_with fail
      all_goals (first | (obtain ⟨r0,r1,r2,r3,r4,r5⟩ := (setN_box HK.out 0 0 0 ⟨#[]⟩ none 0 0 none 0 0).cells;unfold setN at r0 r1 r2 r3 r4 r5;refine bodyPost_ret (v := .tuple #[nv0,.int .i64 3]) (by simp [results,Tryz.results48,go_sem,r0,r1,r2,r3,r4,r5]) rfl ⟨.inr ⟨HD.out,rfl⟩,?_⟩;exact setN_below HB.out (Nat.le_refl _) 0 0 0 ⟨#[]⟩ none 0 0 none 0 0) | (rename_i e1 e2;exact absurd (Option.some.inj e1) (by simp [undef])) | (rename_i e1;exact absurd (Option.some.inj e1) (by simp [undef])))
    ·rw [if_neg (fun h => hc0 (congrArg Prod.snd h))] at HD
     have hcn : (c2 != 0) = true := by simpa using hc0
     have hce : (c2 == 0) = false := by simpa using hc0
     clear hc0;obtain ⟨x0,x1,x2,x3,x4,x5⟩ := HK.out.cells;obtain ⟨f0,f1,f2,f3,f4,f5⟩ := HK.out.free;go_wp2_with fail
     all_goals (first | (obtain ⟨r0,r1,r2,r3,r4,r5⟩ := (setN_box HK.out 0 0 0 ⟨#[]⟩ none 0 0 none 0 0).cells;unfold setN at r0 r1 r2 r3 r4 r5;refine bodyPost_ret (v := .tuple #[nv0,.int .i64 3]) (by simp [results,Tryz.results48,go_sem,r0,r1,r2,r3,r4,r5]) rfl ⟨.inr ⟨HD.out,rfl⟩,?_⟩;exact setN_below HB.out (Nat.le_refl _) 0 0 0 ⟨#[]⟩ none 0 0 none 0 0) | (rename_i e1 e2;exact absurd (Option.some.inj e1) (by simp [undef])) | (rename_i e1;exact absurd (Option.some.inj e1) (by simp [undef])))
   ·replace HD := zj (HD.out.1 her)
    have hcn : (er != 0) = true := by simpa using her
    have hce : (er == 0) = false := by simpa using her
    clear her;obtain ⟨x0,x1,x2,x3,x4,x5⟩ := HK.out.cells;obtain ⟨f0,f1,f2,f3,f4,f5⟩ := HK.out.free;go_wp2_with fail
    all_goals (first | (obtain ⟨r0,r1,r2,r3,r4,r5⟩ := (setN_box HK.out 0 0 0 ⟨#[]⟩ none 0 0 none 0 0).cells;unfold setN at r0 r1 r2 r3 r4 r5;refine bodyPost_ret (v := .tuple #[nv0,.int .i64 3]) (by simp [results,Tryz.results48,go_sem,r0,r1,r2,r3,r4,r5]) rfl ⟨.inr ⟨HD.out,rfl⟩,?_⟩;exact setN_below HB.out (Nat.le_refl _) 0 0 0 ⟨#[]⟩ none 0 0 none 0 0) | (rename_i e1 e2;exact absurd (Option.some.inj e1) (by simp [undef])) | (rename_i e1;exact absurd (Option.some.inj e1) (by simp [undef])))
end Go.Proofs.YtpeghilfldpgfaaGreatDoor.L11
namespace Go.Proofs.YtpeghilfldpgfaaGreatDoor.L13
open Go.RowKit MP
theorem rmay_any (P G R L C : Int) (w : World) :
  Calls Tryz.prog 146 #[mv P G R L C] w fun e w' => e = .returned (.bool (decide (May ⟨P,G,R,L,C⟩))) ∧ Below w.heap.size w w' := by
 have hb := mbox_below 44 P G R L C w;have HB := zj hb;have HK := zj (mbox_new 44 P G R L C w);have HSZ : Hid (∀ W,Calls Tryz.prog 130 #[.int .i64 P] W fun e w' => e = .returned (.bool (L7.mayBe P)) ∧ W = w') := zj (fun W => L7.sizeRef_any P W);obtain ⟨r,HRS⟩ : ∃ r,Hid (r = decide (May ⟨P,G,R,L,C⟩)) := ⟨_,zj rfl⟩;rw [← HRS.out];obtain ⟨c0,c1,c2,c3,c4⟩ := HK.out.cells;clear hb
 cases hm : L7.mayBe P with
 | false =>
  have HX : Hid (r = false) := zj (by rw [HRS.out];exact dF (fun h => by have := h.1;simp only at this;rw [hm] at this;cases this));rw [hm] at HSZ;clear hm;go_enter Tryz.func146,Tryz.ntmps146;go_wp2_with fail;refine (HSZ.out _).mono ?_;rintro e w2 ⟨rfl,rfl⟩;go_wp2_with fail;go_ret
  exact ⟨by rw [HX.out] <;> rfl,HB.out⟩
 | true =>
  rcases (show (2 ≤ G ∧ G ≤ 4096 ∧ 1 ≤ R ∧ R < G ∧ 0 ≤ L ∧ L ≤ 255 ∧ 0 ≤ C ∧ C ≤ 2147483647) ∨ (¬ 2 ≤ G) ∨ (2 ≤ G ∧ ¬ G ≤ 4096) ∨ (2 ≤ G ∧ G ≤ 4096 ∧ ¬ 1 ≤ R) ∨ (2 ≤ G ∧ G ≤ 4096 ∧ 1 ≤ R ∧ ¬ R < G) ∨ (2 ≤ G ∧ G ≤ 4096 ∧ 1 ≤ R ∧ R < G ∧ ¬ 0 ≤ L) ∨ (2 ≤ G ∧ G ≤ 4096 ∧ 1 ≤ R ∧ R < G ∧ 0 ≤ L ∧ ¬ L ≤ 255) ∨ (2 ≤ G ∧ G ≤ 4096 ∧ 1 ≤ R ∧ R < G ∧ 0 ≤ L ∧ L ≤ 255 ∧ ¬ 0 ≤ C) ∨ (2 ≤ G ∧ G ≤ 4096 ∧ 1 ≤ R ∧ R < G ∧ 0 ≤ L ∧ L ≤ 255 ∧ 0 ≤ C ∧ ¬ C ≤ 2147483647) by omega) with h | h | h | h | h | h | h | h | h
  ·have HX : Hid (r = true) := zj (by rw [HRS.out];exact dT ⟨hm,by simp only;omega,by simp only;omega,by simp only;omega,by simp only;omega,by simp only;omega,by simp only;omega,by simp only;omega,by simp only;omega⟩)
   have d0 : decide (2 ≤ G) = true := dT (by omega);have d1 : decide (G ≤ 4096) = true := dT (by omega);have d2 : decide (1 ≤ R) = true := dT (by omega);have d3 : decide (R < G) = true := dT (by omega);have d4 : decide (0 ≤ L) = true := dT (by omega);have d5 : decide (L ≤ 255) = true := dT (by omega);have d6 : decide (0 ≤ C) = true := dT (by omega);have d7 : decide (C ≤ 2147483647) = true := dT (by omega);rw [hm] at HSZ;clear hm h;go_enter Tryz.func146,Tryz.ntmps146;go_wp2_with fail;refine (HSZ.out _).mono ?_;rintro e w2 ⟨rfl,rfl⟩;go_wp2_with fail;go_ret
   exact ⟨by rw [HX.out] <;> rfl,HB.out⟩
  ·have HX : Hid (r = false) := zj (by rw [HRS.out];exact dF (fun hh => by unfold May at hh;simp only at hh;omega))
   have d0 : decide (2 ≤ G) = false := dF (by omega);rw [hm] at HSZ;clear hm h;go_enter Tryz.func146,Tryz.ntmps146;go_wp2_with fail;refine (HSZ.out _).mono ?_;rintro e w2 ⟨rfl,rfl⟩;go_wp2_with fail;go_ret
   exact ⟨by rw [HX.out] <;> rfl,HB.out⟩
  ·have HX : Hid (r = false) := zj (by rw [HRS.out];exact dF (fun hh => by unfold May at hh;simp only at hh;omega))
   have d0 : decide (2 ≤ G) = true := dT (by omega);have d1 : decide (G ≤ 4096) = false := dF (by omega);rw [hm] at HSZ;clear hm h;go_enter Tryz.func146,Tryz.ntmps146;go_wp2_with fail;refine (HSZ.out _).mono ?_;rintro e w2 ⟨rfl,rfl⟩;go_wp2_with fail;go_ret
   exact ⟨by rw [HX.out] <;> rfl,HB.out⟩
  ·have HX : Hid (r = false) := zj (by rw [HRS.out];exact dF (fun hh => by unfold May at hh;simp only at hh;omega))
   have d0 : decide (2 ≤ G) = true := dT (by omega);have d1 : decide (G ≤ 4096) = true := dT (by omega);have d2 : decide (1 ≤ R) = false := dF (by omega);rw [hm] at HSZ;clear hm h;go_enter Tryz.func146,Tryz.ntmps146;go_wp2_with fail;refine (HSZ.out _).mono ?_;rintro e w2 ⟨rfl,rfl⟩;go_wp2_with fail;go_ret
   exact ⟨by rw [HX.out] <;> rfl,HB.out⟩
  ·have HX : Hid (r = false) := zj (by rw [HRS.out];exact dF (fun hh => by unfold May at hh;simp only at hh;omega))
   have d0 : decide (2 ≤ G) = true := dT (by omega);have d1 : decide (G ≤ 4096) = true := dT (by omega);have d2 : decide (1 ≤ R) = true := dT (by omega);have d3 : decide (R < G) = false := dF (by omega);rw [hm] at HSZ;clear hm h;go_enter Tryz.func146,Tryz.ntmps146;go_wp2_with fail;refine (HSZ.out _).mono ?_;rintro e w2 ⟨rfl,rfl⟩;go_wp2_with fail;go_ret
   exact ⟨by rw [HX.out] <;> rfl,HB.out⟩
  ·have HX : Hid (r = false) := zj (by rw [HRS.out];exact dF (fun hh => by unfold May at hh;simp only at hh;omega))
   have d0 : decide (2 ≤ G) = true := dT (by omega);have d1 : decide (G ≤ 4096) = true := dT (by omega);have d2 : decide (1 ≤ R) = true := dT (by omega);have d3 : decide (R < G) = true := dT (by omega);have d4 : decide (0 ≤ L) = false := dF (by omega);rw [hm] at HSZ;clear hm h;go_enter Tryz.func146,Tryz.ntmps146;go_wp2_with fail;refine (HSZ.out _).mono ?_;rintro e w2 ⟨rfl,rfl⟩;go_wp2_with fail;go_ret
   exact ⟨by rw [HX.out] <;> rfl,HB.out⟩
  ·have HX : Hid (r = false) := zj (by rw [HRS.out];exact dF (fun hh => by unfold May at hh;simp only at hh;omega))
   have d0 : decide (2 ≤ G) = true := dT (by omega);have d1 : decide (G ≤ 4096) = true := dT (by omega);have d2 : decide (1 ≤ R) = true := dT (by omega);have d3 : decide (R < G) = true := dT (by omega);have d4 : decide (0 ≤ L) = true := dT (by omega);have d5 : decide (L ≤ 255) = false := dF (by omega);rw [hm] at HSZ;clear hm h;go_enter Tryz.func146,Tryz.ntmps146;go_wp2_with fail;refine (HSZ.out _).mono ?_;rintro e w2 ⟨rfl,rfl⟩;go_wp2_with fail;go_ret
   exact ⟨by rw [HX.out] <;> rfl,HB.out⟩
  ·have HX : Hid (r = false) := zj (by rw [HRS.out];exact dF (fun hh => by unfold May at hh;simp only at hh;omega))
   have d0 : decide (2 ≤ G) = true := dT (by omega);have d1 : decide (G ≤ 4096) = true := dT (by omega);have d2 : decide (1 ≤ R) = true := dT (by omega);have d3 : decide (R < G) = true := dT (by omega);have d4 : decide (0 ≤ L) = true := dT (by omega);have d5 : decide (L ≤ 255) = true := dT (by omega);have d6 : decide (0 ≤ C) = false := dF (by omega);rw [hm] at HSZ;clear hm h;go_enter Tryz.func146,Tryz.ntmps146;go_wp2_with fail;refine (HSZ.out _).mono ?_;rintro e w2 ⟨rfl,rfl⟩;go_wp2_with fail;go_ret
   exact ⟨by rw [HX.out] <;> rfl,HB.out⟩
  ·have HX : Hid (r = false) := zj (by rw [HRS.out];exact dF (fun hh => by unfold May at hh;simp only at hh;omega))
   have d0 : decide (2 ≤ G) = true := dT (by omega);have d1 : decide (G ≤ 4096) = true := dT (by omega);have d2 : decide (1 ≤ R) = true := dT (by omega);have d3 : decide (R < G) = true := dT (by omega);have d4 : decide (0 ≤ L) = true := dT (by omega);have d5 : decide (L ≤ 255) = true := dT (by omega);have d6 : decide (0 ≤ C) = true := dT (by omega);have d7 : decide (C ≤ 2147483647) = false := dF (by omega);rw [hm] at HSZ;clear hm h;go_enter Tryz.func146,Tryz.ntmps146;go_wp2_with fail;refine (HSZ.out _).mono ?_;rintro e w2 ⟨rfl,rfl⟩;go_wp2_with fail;go_ret
   exact ⟨by rw [HX.out] <;> rfl,HB.out⟩
theorem heldW {c : Prop} {f : FuncId} {args : Array Value} {v : Value} {W0 W : World} (t : Hid (∀ W,Calls Tryz.prog f args W fun e w' => e = .returned v ∧ Below W.heap.size W w')) (b : Hid (Below W0.heap.size W0 W) ∧ c) : Calls Tryz.prog f args W fun e w' => e = .returned v ∧ Below W0.heap.size W0 w' :=
 (t.out W).mono fun e w' ⟨h1,h2⟩ => ⟨h1,b.1.out.trans' h2⟩
theorem renc_any (P G R L C : Int) (w : World) (hs : L7.Sizes w) :
  Calls Tryz.prog 84 #[mv P G R L C] w fun e w' => e = .returned (encV P G R L C) ∧ Below w.heap.size w w' := by
 have hb0 := mbox_below 44 P G R L C w;have HB0 := zj hb0;have HS0 := zj (hs.below hs.lt hb0);have HK := zj (mbox_new 44 P G R L C w);have HM := zj (fun W (h : L7.Sizes W) => rmay_any P G R L C W);obtain ⟨r,HRS⟩ : ∃ r,Hid (r = encV P G R L C) := ⟨_,zj rfl⟩;rw [← HRS.out];by_cases hmay : May ⟨P,G,R,L,C⟩
 ·obtain ⟨n,hn,hn2,_,hbody,hbl⟩ := enc_parts hmay
  have hp : 128 ≤ P ∧ P ≤ 1024 := mayBe_le hmay.1;have HX : Hid (r = .tuple #[.string ⟨(page ⟨P,G,R,L,C⟩).toArray⟩,.int .i64 0]) := zj (by rw [HRS.out,encV,enc_good hmay]);obtain ⟨X1,h1⟩ : ∃ X1 : ByteArray,⟨#[119,105,116,104,121]⟩ ++ four P = X1 := ⟨_,rfl⟩;obtain ⟨X2,h2⟩ : ∃ X2,X1 ++ four G = X2 := ⟨_,rfl⟩;obtain ⟨X3,h3⟩ : ∃ X3,X2 ++ four C = X3 := ⟨_,rfl⟩;obtain ⟨X4,h4⟩ : ∃ X4,X3 ++ rep 0 n = X4 := ⟨_,rfl⟩;obtain ⟨X5,h5⟩ : ∃ X5 : ByteArray,X4 ++ ⟨#[87]⟩ = X5 := ⟨_,rfl⟩;obtain ⟨s1,s2,s3,s4,s5⟩ := enc_sizes n h1 h2 h3 h4 h5
  have hX5 : X5 = ⟨(body ⟨P,G,R,L,C⟩).toArray⟩ := by rw [← h5,← h4,← h3,← h2,← h1];exact hbody
  have hg2 : 2 ≤ G ∧ G ≤ 4096 ∧ 0 ≤ C ∧ C ≤ 2147483647 ∧ 0 ≤ L ∧ L ≤ 255 ∧ 1 ≤ R ∧ R < G := by
   obtain ⟨_,h2,h3,h4,h5,h6,h7,h8,h9⟩ := hmay;exact ⟨h2,h3,h8,h9,h6,h7,h4,h5⟩
  have H4 : Hid (∀ n W,U32 n → Calls Tryz.prog 147 #[.int .u32 n] W fun e w' => e = .returned (.string (four n)) ∧ Below W.heap.size W w') := zj (fun n W h => L7.rfour_any n W h.1 h.2);have v1 : U32 P := ⟨by omega,by omega⟩;have v2 : U32 G := ⟨by omega,by omega⟩;have v3 : U32 C := ⟨by omega,by omega⟩;have HREP : Hid (∀ W,Calls Tryz.prog 38 #[.int .u8 0,.int .i64 n] W fun e w' => e = .returned (.string (rep 0 n)) ∧ Below W.heap.size W w') := zj (fun W => L7.repeat0_any n W (by omega));have HSE : Hid (L7.Tells 132 #[L7.hv (hd ⟨P,G,R,L,C⟩),.string X5,.int .i64 P] (L7.seaV (hd ⟨P,G,R,L,C⟩) X5 P)) := zj (fun W (h : L7.Sizes W) => L7.refSeal_any (hd ⟨P,G,R,L,C⟩) X5 P W (by simp [Lit.wf,IntKind.min,IntKind.max,IntKind.signed,IntKind.bits];omega) (by unfold maxLen;omega));have hsv := seal_ok hmay;simp only at hsv;unfold L7.seaV at HSE;rw [hX5,hsv,← hX5] at HSE;rw [show L7.hv (hd ⟨P,G,R,L,C⟩) = .agg #[.int .i64 1,.int .i64 L,.int .i64 0,.int .i64 R,.int .i64 0] by rfl] at HSE;generalize (⟨(page ⟨P,G,R,L,C⟩).toArray⟩ : ByteArray) = PG at *;rw [dT hmay] at HM;have Z1 : Hid (¬ 9223372036854775807 < 5 + (four P).size) := zj (by rw [four_size];decide);have Z2 : Hid (¬ 9223372036854775807 < X1.size + (four G).size) := zj (by rw [four_size];omega);have Z3 : Hid (¬ 9223372036854775807 < X2.size + (four C).size) := zj (by rw [four_size];omega);have Z4 : Hid (¬ 9223372036854775807 < X3.size + (rep 0 n).size) := zj (by rw [rep_size];omega);have Z5 : Hid (¬ 9223372036854775807 < X4.size + 1) := zj (by omega);have U1 : Hid (IntKind.u32.wrap P = P) := zj (by rw [IntKind.wrap_u32];omega);have U2 : Hid (IntKind.u32.wrap G = G) := zj (by rw [IntKind.wrap_u32];omega);have U3 : Hid (IntKind.u32.wrap C = C) := zj (by rw [IntKind.wrap_u32];omega);have I1 : Hid (IntKind.i64.wrap (P - 16) = P - 16) := zj (IntWalk.i64_in _ (by omega));have I2 : Hid (IntKind.i64.wrap (P - 16 - 17) = P - 16 - 17) := zj (IntWalk.i64_in _ (by omega));have I3 : Hid (IntKind.i64.wrap (P - 16 - 17 - 1) = n) := zj (by rw [IntWalk.i64_in _ (by omega)];omega);clear hmay hs hb0 hbody hbl hX5 hsv s1 s2 s3 s4 s5 hp hg2 hn2 hn;generalize four = F4 at *;generalize rep 0 n = Z at *;obtain ⟨c0,c1,c2,c3,c4⟩ := HK.out.cells;go_enter Tryz.func84,Tryz.ntmps84;go_wp2_with fail;refine (HM.out _ HS0.out).mono ?_;rintro e w2 ⟨rfl,hb2⟩;clear c0 c1 c2 c3 c4;have HS2 := zj (HS0.out.below HS0.out.lt hb2);have HB2 := zj (HB0.out.trans' hb2);have HK2 := zj (HK.out.below hb2);clear hb2 HB0 HS0 HK;have HSA : Hid (∀ V,Below w2.heap.size w2 V → (fun V => Hid (Below w2.heap.size w2 V) ∧ V.cell? ⟨w.heap.size,0,none⟩ = some (.int .i64 P) ∧ V.cell? ⟨w.heap.size,1,none⟩ = some (.int .i64 G) ∧ V.cell? ⟨w.heap.size,4,none⟩ = some (.int .i64 C)) V) := zj (fun V hb => ⟨zj hb,(HK2.out.below hb).cells.1,(HK2.out.below hb).cells.2.1,(HK2.out.below hb).cells.2.2.2.2⟩)
  have hSA := HSA.out _ (Below.refl _ _);have hSd := HSA.out _ (L5.below_drewN (Below.refl _ w2) 1);go_wp2_with fail;have z1 := Z1.out;have z2 := Z2.out;have z3 := Z3.out;have u1 := U1.out;have u2 := U2.out;have u3 := U3.out
  go_region_held3 (fun V => Hid (Below w2.heap.size w2 V) ∧ V.cell? ⟨w.heap.size,0,none⟩ = some (.int .i64 P) ∧ V.cell? ⟨w.heap.size,1,none⟩ = some (.int .i64 G) ∧ V.cell? ⟨w.heap.size,4,none⟩ = some (.int .i64 C)) (first | assumption | exact hSd)
   (first
    | (go_at_call 147;refine (held4 H4 (by assumption) (by assumption)).mono ?_;rintro e V5 ⟨rfl,hb⟩;have hSn := HSA.out _ hb)
    | fail "no arm")
  have HS5 := zj (HS2.out.below HS2.out.lt hb);have HB5 := zj (HB2.out.trans' hb);have HK5 := zj (HK2.out.below hb);clear hb hSA hSd hSn HSA u1 u2 u3 U1 U2 U3 z1 z2 z3 Z1 Z2 Z3 HS2 HB2 HK2;have HSB : Hid (∀ V,Below V5.heap.size V5 V → (fun V => Hid (Below V5.heap.size V5 V) ∧ V.cell? ⟨w.heap.size,0,none⟩ = some (.int .i64 P) ∧ V.cell? ⟨w.heap.size,2,none⟩ = some (.int .i64 R) ∧ V.cell? ⟨w.heap.size,3,none⟩ = some (.int .i64 L)) V) := zj (fun V hb => ⟨zj hb,(HK5.out.below hb).cells.1,(HK5.out.below hb).cells.2.2.1,(HK5.out.below hb).cells.2.2.2.1⟩);have hSB := HSB.out _ (Below.refl _ _);have hSe := HSB.out _ (L5.below_drewN (Below.refl _ V5) 1);have i1 := I1.out;have i2 := I2.out;have i3 := I3.out;have z4 := Z4.out;have z5 := Z5.out;go_wp2_with fail
  go_region_held3 (fun V => Hid (Below V5.heap.size V5 V) ∧ V.cell? ⟨w.heap.size,0,none⟩ = some (.int .i64 P) ∧ V.cell? ⟨w.heap.size,2,none⟩ = some (.int .i64 R) ∧ V.cell? ⟨w.heap.size,3,none⟩ = some (.int .i64 L)) (first | assumption | exact hSe)
   (first
    | (go_at_call 38;refine (heldW HREP (by assumption)).mono ?_;rintro e V6 ⟨rfl,hb⟩;have hSn := HSB.out _ hb)
    | (go_at_call 132;refine (L7.Tells.held HSE HS5 (by assumption)).mono ?_;rintro e V6 ⟨rfl,hb⟩;have hSn := HSB.out _ hb)
    | fail "no arm")
  go_wp2_with fail
  go_ret2
  exact ⟨by rw [HX.out] <;> rfl,HB5.out.trans' hb⟩
 ·have HX : Hid (r = .tuple #[.string ⟨#[]⟩,.int .i64 3]) := zj (by rw [HRS.out,encV,enc_form hmay])
  rw [dF hmay] at HM;clear hmay hs hb0;obtain ⟨c0,c1,c2,c3,c4⟩ := HK.out.cells;go_enter Tryz.func84,Tryz.ntmps84;go_wp2_with fail;refine (HM.out _ HS0.out).mono ?_;rintro e w2 ⟨rfl,hb2⟩;go_wp2_with fail
  go_ret2
  exact ⟨by rw [HX.out] <;> rfl,HB0.out.trans' hb2⟩
end Go.Proofs.YtpeghilfldpgfaaGreatDoor.L13
