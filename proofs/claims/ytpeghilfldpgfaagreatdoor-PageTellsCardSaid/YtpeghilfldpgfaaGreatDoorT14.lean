import Derived.Test.YtpeghilfldpgfaaGreatDoorTIDMay
import Derived.Test.YtpeghilfldpgfaaGreatDoorTIParts
set_option linter.unusedVariables false
set_option linter.unusedSimpArgs false
set_option maxHeartbeats 8000000
set_option maxRecDepth 100000
namespace Go.Proofs.YtpeghilfldpgfaaGreatDoor.L11
open Go.RowKit IP
def encV (n : Inn) (p : Int) : Value := .tuple #[.string (enc n p).1,.int .i64 (enc n p).2]
theorem packV_ok {F L R : Int} {H : ByteArray} {ks : List Int} {ss : List ByteArray} {p : Nat} (hp : p ≤ 1024) (h16 : 16 ≤ p) (hs : size ⟨F,L,R,H,ks,ss⟩ ≤ p - 16) : L8.packV ((p : Int) - 16) (fixedS H ss) (cellsS ks ss) = .tuple #[.string ⟨(body ⟨F,L,R,H,ks,ss⟩ p).toArray⟩,.int .i64 0] := by
 unfold L8.packV;rw [if_neg (by omega),if_neg (by rw [size_eq F L R];omega)];unfold L8.packS body cells;rw [cellsS_list,← fixedS_list F L R H ks ss];simp only [Int.ofNat_eq_natCast,show ((p : Int) - 16).toNat = p - 16 by omega]
theorem packV_big {F L R : Int} {H : ByteArray} {ks : List Int} {ss : List ByteArray} {p : Nat} (hp : p ≤ 1024) (h16 : 16 ≤ p) (hs : ¬ size ⟨F,L,R,H,ks,ss⟩ ≤ p - 16) : L8.packV ((p : Int) - 16) (fixedS H ss) (cellsS ks ss) = .tuple #[.string ⟨#[]⟩,.int .i64 8] := by
 unfold L8.packV;rw [if_neg (by omega),if_pos (by rw [size_eq F L R];omega)]
theorem seal_ok {n : Inn} {p : Nat} (h : May n p) (hs : (size n : Int) ≤ (p : Int) - 16) : L7.seaV (hd n) ⟨(body n p).toArray⟩ p = .tuple #[.string ⟨(page n p).toArray⟩,.int .i64 0] := by
 obtain ⟨hok,hn⟩ := h.fits hs;have hp := mayBe_le h.1;have hbl : (body n p).length = p - 16 := body_length (by omega)
 have hsz : (⟨(body n p).toArray⟩ : ByteArray).size = p - 16 := by
  show (body n p).toArray.size = _;rw [List.size_toArray,hbl]
 have hg := L7.HP.seal_good (h := hd n) (b := ⟨(body n p).toArray⟩) (p := p) h.1 (L7.HP.right_iff.2 hok) (by rw [hsz];omega);have e1 : (⟨(body n p).toArray⟩ : ByteArray).data.toList = body n p := rfl
 have e2 : L7.HP.rest (body n p) p = body n p := by
  unfold L7.HP.rest;rw [hbl,Nat.sub_self];simp
 unfold L7.seaV;rw [hg,e1,Int.toNat_natCast,e2];rfl
theorem enc_any (F L R : Int) (H : ByteArray) (A : Option Addr) (n ca : Nat) (C : Option Addr) (m cb : Nat) (ks : List Int) (ss : List ByteArray) (p : Int) (w : World) (hs : L7.Sizes w) (hr : Rows2 w A n ca C m cb ks ss) (hn : n ≤ 1000) (hm : m ≤ 1000) :
  Calls Tryz.prog 34 #[nv F L R H A n ca C m cb,.int .i64 p] w fun e w' => e = .returned (encV ⟨F,L,R,H,ks,ss⟩ p) ∧ Below w.heap.size w w' := by
 have hb0 := nbox_below 29 F L R H A n ca C m cb w;have HB0 := zj hb0;have HS0 := zj (hs.below hs.lt hb0);have HR0 := zj (hr.on hb0);have HK := zj (nbox_new 29 F L R H A n ca C m cb w);have HSZ := zj (fun W (h : L7.Sizes W) => L7.size_any p W h);have HM := zj (fun W (h : L7.Sizes W) (h2 : Rows2 W A n ca C m cb ks ss) => may_any F L R H A n ca C m cb ks ss p W h h2 (by omega) (by omega));obtain ⟨r,HRS⟩ : ∃ r,Hid (r = encV ⟨F,L,R,H,ks,ss⟩ p) := ⟨_,zj rfl⟩;rw [← HRS.out];have hcases := enc_cases ⟨F,L,R,H,ks,ss⟩ p;have hnk := hr.nk;have hnm := hr.nm;rcases hcases with ⟨hmb,he⟩ | ⟨hmb,hmay,he⟩ | ⟨hmay,hbig,he⟩ | ⟨hmay,hfit,he⟩
 ·have HX : Hid (r = .tuple #[.string ⟨#[]⟩,.int .i64 4]) := zj (by rw [HRS.out,encV,he])
  rw [hmb] at HSZ;clear hmb he hnk hnm hs hr hn hm hb0 HM;go_enter Tryz.func34,Tryz.ntmps34;go_wp2_with fail;refine (HSZ.out _ HS0.out).mono ?_;rintro e w2 ⟨rfl,rfl⟩;go_wp2_with fail
  go_ret2
  exact ⟨by rw [HX.out] <;> rfl,HB0.out⟩
 ·have HX : Hid (r = .tuple #[.string ⟨#[]⟩,.int .i64 3]) := zj (by rw [HRS.out,encV,he])
  rw [hmb] at HSZ;rw [dF hmay] at HM;clear hmb hmay he hnk hnm hs hr hn hm hb0;obtain ⟨c0,c1,c2,c3,c4,c5⟩ := HK.out.cells;go_enter Tryz.func34,Tryz.ntmps34;go_wp2_with fail;refine (HSZ.out _ HS0.out).mono ?_;rintro e w2 ⟨rfl,rfl⟩;go_wp2_with fail;refine (HM.out _ HS0.out HR0.out).mono ?_;rintro e w2 ⟨rfl,hb2⟩;go_wp2_with fail
  go_ret2
  exact ⟨by rw [HX.out] <;> rfl,HB0.out.trans' hb2⟩
 ·have hp := mayBe_le hmay.1
  obtain ⟨q,rfl⟩ : ∃ q : Nat,p = q := Int.eq_ofNat_of_zero_le (by omega);have HX : Hid (r = .tuple #[.string ⟨#[]⟩,.int .i64 8]) := zj (by rw [HRS.out,encV,he]);rw [hmay.1] at HSZ;rw [dT hmay] at HM;have hf := May.fit hmay (by omega)
  have hnc : (cellsS ks ss).length = n := by rw [cellsS_length hf.len,hnk]
  have HP := zj (fun W (h : Rows2 W A n ca C m cb ks ss) => parts_any F L R H A n ca C m cb ks ss W h hf);have HK8 := zj (fun G cap W (h : L5.Lies W W.heap.size G (cellsS ks ss)) => L8.pack_any ((q : Int) - 16) (fixedS H ss) G (cellsS ks ss) cap W h (by omega) (by have := fixedS_size hf;omega) (fun s hs => by have := cellsS_size hf s hs;omega));rw [packV_big (F := F) (L := L) (R := R) (by omega) (by omega) (by omega),hnc] at HK8;have hw : IntKind.i64.wrap ((q : Int) - 16) = (q : Int) - 16 := IntWalk.i64_in _ (by omega);clear hmay he hnk hnm hs hr hn hm hb0 hbig hf hp hnc;obtain ⟨c0,c1,c2,c3,c4,c5⟩ := HK.out.cells;go_enter Tryz.func34,Tryz.ntmps34;go_wp2_with fail;refine (HSZ.out _ HS0.out).mono ?_;rintro e w2 ⟨rfl,rfl⟩;go_wp2_with fail;refine (HM.out _ HS0.out HR0.out).mono ?_;rintro e w2 ⟨rfl,hb2⟩;clear c0 c1 c2 c3 c4 c5;obtain ⟨c0,c1,c2,c3,c4,c5⟩ := (HK.out.below hb2).cells;go_wp2_with fail;refine (HP.out _ (HR0.out.on hb2)).mono ?_;rintro e w3 ⟨G,cap,rfl,HL,hb3⟩;go_wp2_with fail;refine (HK8.out G cap _ HL).mono ?_;rintro e w4 ⟨rfl,hb4⟩;go_wp2_with fail
  go_ret2
  exact ⟨by rw [HX.out] <;> rfl,((HB0.out.trans' hb2).trans' hb3).trans' hb4⟩
 ·have hp := mayBe_le hmay.1
  obtain ⟨q,rfl⟩ : ∃ q : Nat,p = q := Int.eq_ofNat_of_zero_le (by omega);have HX : Hid (r = .tuple #[.string ⟨(page ⟨F,L,R,H,ks,ss⟩ q).toArray⟩,.int .i64 0]) := zj (by rw [HRS.out,encV,he,Int.toNat_natCast]);rw [hmay.1] at HSZ;rw [dT hmay] at HM;have hf := May.fit hmay (by omega)
  have hnc : (cellsS ks ss).length = n := by rw [cellsS_length hf.len,hnk]
  have HP := zj (fun W (h : Rows2 W A n ca C m cb ks ss) => parts_any F L R H A n ca C m cb ks ss W h hf);have HK8 := zj (fun G cap W (h : L5.Lies W W.heap.size G (cellsS ks ss)) => L8.pack_any ((q : Int) - 16) (fixedS H ss) G (cellsS ks ss) cap W h (by omega) (by have := fixedS_size hf;omega) (fun s hs => by have := cellsS_size hf s hs;omega));rw [packV_ok (F := F) (L := L) (R := R) (by omega) (by omega) (by omega),hnc] at HK8;have hbl : (body ⟨F,L,R,H,ks,ss⟩ q).length = q - 16 := body_length (by omega);have HSE := zj (fun W (h : L7.Sizes W) => L7.seal_any (hd ⟨F,L,R,H,ks,ss⟩) ⟨(body ⟨F,L,R,H,ks,ss⟩ q).toArray⟩ q W h (by simp [Lit.wf,IntKind.min,IntKind.max,IntKind.signed,IntKind.bits];omega) (by show (body ⟨F,L,R,H,ks,ss⟩ q).toArray.size ≤ maxLen;rw [List.size_toArray,hbl];unfold maxLen;omega));have hsv := seal_ok hmay (by omega);unfold L7.seaV at hsv;rw [hsv] at HSE;rw [show L7.hv (hd ⟨F,L,R,H,ks,ss⟩) = .agg #[.int .i64 3,.int .i64 L,.int .i64 n,.int .i64 R,.int .i64 F] by rw [← hnk];rfl] at HSE;have hw : IntKind.i64.wrap ((q : Int) - 16) = (q : Int) - 16 := IntWalk.i64_in _ (by omega);generalize (⟨(page ⟨F,L,R,H,ks,ss⟩ q).toArray⟩ : ByteArray) = PG at *;generalize (⟨(body ⟨F,L,R,H,ks,ss⟩ q).toArray⟩ : ByteArray) = BD at *;clear hmay he hnk hnm hs hr hn hm hb0 hfit hf hp hbl hsv hnc;obtain ⟨c0,c1,c2,c3,c4,c5⟩ := HK.out.cells;go_enter Tryz.func34,Tryz.ntmps34;go_wp2_with fail;refine (HSZ.out _ HS0.out).mono ?_;rintro e w2 ⟨rfl,rfl⟩;go_wp2_with fail;refine (HM.out _ HS0.out HR0.out).mono ?_;rintro e w2 ⟨rfl,hb2⟩;clear c0 c1 c2 c3 c4 c5;obtain ⟨c0,c1,c2,c3,c4,c5⟩ := (HK.out.below hb2).cells;go_wp2_with fail;refine (HP.out _ (HR0.out.on hb2)).mono ?_;rintro e w3 ⟨G,cap,rfl,HL,hb3⟩;go_wp2_with fail;refine (HK8.out G cap _ HL).mono ?_;rintro e w4 ⟨rfl,hb4⟩;have hb14 := (hb2.trans' hb3).trans' hb4;have HS4 := zj (HS0.out.below HS0.out.lt hb14);have HB4 := zj (HB0.out.trans' hb14);clear c0 c1 c2 c3 c4 c5;obtain ⟨c0,c1,c2,c3,c4,c5⟩ := (HK.out.below hb14).cells;have HS5 := zj (HS4.out.below HS4.out.lt (L5.below_alloc w4 (.cells #[.int .i64 3,.int .i64 L,.int .i64 n,.int .i64 R,.int .i64 F] 120)));have HB5 := zj (HB4.out.trans' (L5.below_alloc w4 (.cells #[.int .i64 3,.int .i64 L,.int .i64 n,.int .i64 R,.int .i64 F] 120)));clear hb2 hb3 hb4 hb14 HL;go_wp2_with fail;refine (HSE.out _ HS5.out).mono ?_;rintro e w5 ⟨rfl,hb5⟩;go_wp2_with fail
  go_ret2
  exact ⟨by rw [HX.out] <;> rfl,HB5.out.trans' hb5⟩
abbrev nv0 : Value := nv 0 0 0 ⟨#[]⟩ none 0 0 none 0 0
structure Reads (s B0 : ByteArray) (n : Nat) (f l r : Int) : Prop where
 n1 : L9.VP.gtext B0.data.toList 0 = none → parse s = none
 n2 : ∀ c i,L9.VP.gtext B0.data.toList 0 = some (c,i) → L9.VP.gtext B0.data.toList i = none → parse s = none
 n3 : ∀ c i t j,L9.VP.gtext B0.data.toList 0 = some (c,i) → L9.VP.gtext B0.data.toList i = some (t,j) → ¬ L8.LP.good B0.data.toList j n → parse s = none
 n4 : ∀ c i t j,L9.VP.gtext B0.data.toList 0 = some (c,i) → L9.VP.gtext B0.data.toList i = some (t,j) → L8.LP.good B0.data.toList j n → mapK (L8.LP.cells B0.data.toList n) = none → parse s = none
 ok : ∀ c i t j xs,L9.VP.gtext B0.data.toList 0 = some (c,i) → L9.VP.gtext B0.data.toList i = some (t,j) → L8.LP.good B0.data.toList j n → mapK (L8.LP.cells B0.data.toList n) = some xs →
  parse s = some ⟨f,l,r,⟨t.toArray⟩,kidsOf xs,sepsOf c xs⟩
theorem reads_of {s B0 : ByteArray} {k l r f : Int} {n : Nat} (hg : L7.mayBe s.size = true ∧ L7.HP.good s.data.toList) (hB : B0.data.toList = s.data.toList.drop 16) (hh : L7.HP.headOf s.data.toList = ⟨k,l,n,r,f⟩) : Reads s B0 n f l r := by
 refine ⟨fun h1 => ?_,fun c i h1 h2 => ?_,fun c i t j h1 h2 h3 => ?_,fun c i t j h1 h2 h3 h4 => ?_,fun c i t j xs h1 h2 h3 h4 => ?_⟩
 ·unfold parse
  rw [if_pos hg,← hB];simp only [h1]
 ·unfold parse
  rw [if_pos hg,← hB];simp only [h1,h2]
 ·unfold parse
  rw [if_pos hg,← hB,hh];simp only [h1,h2,Int.toNat_natCast];rw [if_neg h3]
 ·unfold parse
  rw [if_pos hg,← hB,hh];simp only [h1,h2,Int.toNat_natCast];rw [if_pos h3,h4]
 ·unfold parse
  rw [if_pos hg,← hB,hh];simp only [h1,h2,Int.toNat_natCast];rw [if_pos h3,h4]
theorem mapK_take {cs : List (List UInt8)} {k : Nat} {c : List UInt8} {xs : List (Nat × List UInt8)} {x : Nat × List UInt8} (hc : cs[k]? = some c) (h : mapK (cs.take k) = some xs) (hx : L9.VP.getK c = some x) : mapK (cs.take (k + 1)) = some (xs ++ [x]) := by
 have happ : ∀ (a : List (List UInt8)) (ys : List (Nat × List UInt8)),mapK a = some ys → mapK (a ++ [c]) = some (ys ++ [x]) := by
  intro a
  induction a with
  | nil =>
   intro ys h;obtain rfl := Option.some.inj (show some [] = some ys from h);show mapK [c] = some [x];simp only [mapK,hx]
  | cons d a ih =>
   intro ys h;simp only [mapK] at h
   cases hd : L9.VP.getK d with
   | none => rw [hd] at h;cases h
   | some y =>
    rw [hd] at h
    cases ha : mapK a with
    | none => rw [ha] at h;cases h
    | some zs =>
     rw [ha] at h;obtain rfl := Option.some.inj h;show mapK (d :: (a ++ [c])) = _;simp only [mapK,hd,ih zs ha,List.cons_append]
 rw [List.take_add_one,hc];exact happ _ _ h
theorem mapK_none {cs : List (List UInt8)} {c : List UInt8} (hc : c ∈ cs) (h : L9.VP.getK c = none) : mapK cs = none := by
 induction cs with
 | nil => simp at hc
 | cons d cs ih =>
  simp only [mapK]
  cases hd : L9.VP.getK d with
  | none => rfl
  | some y =>
   rcases List.mem_cons.1 hc with e | e
   ·subst e;rw [hd] at h;cases h
   ·simp only [ih e]
theorem mapK_length : ∀ {cs : List (List UInt8)} {xs : List (Nat × List UInt8)},mapK cs = some xs → xs.length = cs.length
 | [],xs,h => by obtain rfl := Option.some.inj (show some [] = some xs from h);rfl
 | c :: cs,xs,h => by
  simp only [mapK] at h
  cases hd : L9.VP.getK c with
  | none => rw [hd] at h;cases h
  | some y =>
   rw [hd] at h
   cases ha : mapK cs with
   | none => rw [ha] at h;cases h
   | some zs =>
    rw [ha] at h;obtain rfl := Option.some.inj h;have := mapK_length ha;simp [this]
theorem kidsOf_snoc (xs : List (Nat × List UInt8)) (x : Nat × List UInt8) : kidsOf (xs ++ [x]) = kidsOf xs ++ [(x.1 : Int)] := by simp [kidsOf]
theorem sepsOf_snoc (c : List UInt8) (xs : List (Nat × List UInt8)) (x : Nat × List UInt8) (h : xs ≠ []) : sepsOf c (xs ++ [x]) = sepsOf c xs ++ [⟨(c ++ x.2).toArray⟩] := by
 unfold sepsOf
 cases xs with
 | nil => exact absurd rfl h
 | cons y ys => simp
def ReadS (s : ByteArray) (b : Nat) (e : Ending) (w' : World) : Prop :=
 (∃ F L R H A n ca C m cb ks ss,parse s = some ⟨F,L,R,H,ks,ss⟩ ∧ e = .returned (.tuple #[nv F L R H A n ca C m cb,.int .i64 0]) ∧ Rows2 w' A n ca C m cb ks ss ∧ (∀ a,A = some a → b ≤ a.block) ∧ (∀ a,C = some a → b ≤ a.block) ∧ n ≤ 1000 ∧ m ≤ 1000 ∧ H.size ≤ 1000000) ∨
 (parse s = none ∧ ∃ x : Int,x ≠ 0 ∧ e = .returned (.tuple #[nv0,.int .i64 x]))
theorem nread_any (s : ByteArray) (w : World) (hz : L7.Sizes w) (hs : s.size ≤ 1000000) :
  Calls Tryz.prog 54 #[.string s] w fun e w' => ReadS s w.heap.size e w' ∧ Below w.heap.size w w' := by
 obtain ⟨i0,hi,hz0,hz1,hz2⟩ := info_parts Tryz.infoNum;obtain ⟨j0,hj,hy0,hy1,hy2⟩ := info_parts L5.Tryz.infoStr;have hb0 := nbox_below 29 0 0 0 ⟨#[]⟩ none 0 0 none 0 0 w;have HB0 := zj hb0;have HK0 := zj (nbox_new 29 0 0 0 ⟨#[]⟩ none 0 0 none 0 0 w);have HG0 := zj (hz.below hz.lt hb0);have HOP := zj (fun W (h : L7.Sizes W) => L7.open_any s W h (by unfold maxLen;omega));have HRT := zj (fun (b : ByteArray) (i : Nat) W (hi : i ≤ b.size) (hb : b.size ≤ 1000000) => textGet_any b i W hi hb);have HBAD : Hid (parse s = none → ∀ (w' : World) (x : Int),x ≠ 0 → ReadS s w.heap.size (.returned (.tuple #[nv0,.int .i64 x])) w') := zj (fun h w' x hx => .inr ⟨h,x,hx,rfl⟩);clear hb0 hz;by_cases hgood : ¬ (L7.mayBe s.size = true ∧ L7.HP.good s.data.toList)
 ·have HD : Hid (parse s = none) := zj (by unfold parse;rw [if_neg hgood])
  have hv : L7.opnV s = .tuple #[.agg #[.int .i64 0,.int .i64 0,.int .i64 0,.int .i64 0,.int .i64 0],.string ⟨#[]⟩,.int .i64 3] := by
   unfold L7.opnV;rw [L7.HP.opn_bad hgood];rfl
  rw [hv] at HOP;clear hgood hv;go_enter Tryz.func54,Tryz.ntmps54;go_wp2_with fail;refine (HOP.out _ HG0.out).mono ?_;rintro e w2 ⟨rfl,hb2⟩;have hb3 := hb2.trans' (L5.below_alloc w2 (.cells #[.int .i64 0,.int .i64 0,.int .i64 0,.int .i64 0,.int .i64 0] 120));have HK := zj (HK0.out.below hb3);have HB := zj (HB0.out.trans' hb3);clear hb2 hb3;obtain ⟨x0,x1,x2,x3,x4,x5⟩ := HK.out.cells;obtain ⟨f0,f1,f2,f3,f4,f5⟩ := HK.out.free;go_wp2_with fail;obtain ⟨r0,r1,r2,r3,r4,r5⟩ := (setN_box HK.out 0 0 0 ⟨#[]⟩ none 0 0 none 0 0).cells;unfold setN at r0 r1 r2 r3 r4 r5;refine bodyPost_ret (v := .tuple #[nv0,.int .i64 3]) (by simp [results,Tryz.results54,go_sem,r0,r1,r2,r3,r4,r5]) rfl ⟨HBAD.out HD.out _ _ (by decide),?_⟩;exact setN_below HB.out (Nat.le_refl _) 0 0 0 ⟨#[]⟩ none 0 0 none 0 0
 have hgd := Decidable.not_not.1 hgood;have hm := mayBe_le hgd.1;have hok : L7.HP.Ok (L7.HP.headOf s.data.toList) := hgd.2.1;obtain ⟨B0,hB0⟩ : ∃ B0,s.extract 16 s.size = B0 := ⟨_,rfl⟩
 have hBl : B0.data.toList = s.data.toList.drop 16 := by
  rw [← hB0,Lib.extract_data,List.take_of_length_le (by simp)]
 have hBs : B0.size + 16 = s.size := by rw [← hB0];simp;omega
 have hv : L7.opnV s = .tuple #[L7.hv (L7.HP.headOf s.data.toList),.string B0,.int .i64 0] := by
  unfold L7.opnV;rw [L7.HP.opn_good hgd.1 hgd.2,hB0]
 obtain ⟨hk,hl,hc,hr,hs5,hhd⟩ : ∃ k l c r f,L7.HP.headOf s.data.toList = ⟨k,l,c,r,f⟩ := ⟨_,_,_,_,_,rfl⟩;rw [hhd] at hv hok;obtain ⟨n,rfl⟩ : ∃ n : Nat,hc = n := Int.eq_ofNat_of_zero_le hok.2.2.2.2.1
 have hn : n ≤ 65535 := by have h := hok.2.2.2.2.2.1;simp only at h;omega
 have HP := zj (reads_of hgd hBl hhd);simp only [L7.hv] at hv;rw [hv] at HOP;clear hgood hgd hok hBl hB0 hv hhd;go_enter Tryz.func54,Tryz.ntmps54;go_wp2_with fail;refine (HOP.out _ HG0.out).mono ?_;rintro e w2 ⟨rfl,hb2⟩;have hb3 := hb2.trans' (L5.below_alloc w2 (.cells #[.int .i64 hk,.int .i64 hl,.int .i64 n,.int .i64 hr,.int .i64 hs5] 120));have HK := zj (HK0.out.below hb3);have HB := zj (HB0.out.trans' hb3);have HH := zj (show L7.Bx 120 w2.heap.size ⟨hk,hl,n,hr,hs5⟩ (w2.alloc (.cells #[.int .i64 hk,.int .i64 hl,.int .i64 n,.int .i64 hr,.int .i64 hs5] 120)) from heap_alloc_new _ _);clear hb2 hb3 HK0 HB0 HG0 HOP;go_wp2_with fail;generalize hW3 : w2.alloc (.cells #[.int .i64 hk,.int .i64 hl,.int .i64 n,.int .i64 hr,.int .i64 hs5] 120) = W3 at *;generalize w2.heap.size = q at *;clear hW3;refine (HRT.out B0 0 _ (by omega) (by omega)).mono ?_;rintro e w4 ⟨h4,hb4⟩;have HK := zj (HK.out.below hb4);have HH := zj (HH.out.below hb4);have HB := zj (HB.out.trans' hb4);clear hb4;rcases h4 with ⟨h4,xe,hxe,rfl⟩ | ⟨T1,i1,h4,rfl⟩
 ·have HD := zj (HP.out.n1 h4)
  have hxz : (xe != 0) = true := by simpa using hxe
  have HXE := zj hxe;clear h4 hxe;obtain ⟨x0,x1,x2,x3,x4,x5⟩ := HK.out.cells;obtain ⟨f0,f1,f2,f3,f4,f5⟩ := HK.out.free;go_wp2_with fail;obtain ⟨r0,r1,r2,r3,r4,r5⟩ := (setN_box HK.out 0 0 0 ⟨#[]⟩ none 0 0 none 0 0).cells;unfold setN at r0 r1 r2 r3 r4 r5;refine bodyPost_ret (v := .tuple #[nv0,.int .i64 xe]) (by simp [results,Tryz.results54,go_sem,r0,r1,r2,r3,r4,r5]) rfl ⟨HBAD.out HD.out _ _ HXE.out,?_⟩;exact setN_below HB.out (Nat.le_refl _) 0 0 0 ⟨#[]⟩ none 0 0 none 0 0
 have hi1 := (L9.gtext_some h4);have H4 := zj h4
 have hBl : B0.data.toList.length = B0.size := by simp
 have hT1 : T1.data.toList.length = T1.size := by simp
 have hT1s : T1.size ≤ 1000000 := by omega
 have hi1' : i1 ≤ B0.size := by omega
 clear h4 hi1;go_wp2_with fail;refine (HRT.out B0 i1 _ hi1' (by omega)).mono ?_;rintro e w6 ⟨h6,hb6⟩;have HK := zj (HK.out.below hb6);have HH := zj (HH.out.below hb6);have HB := zj (HB.out.trans' hb6);clear hb6;rcases h6 with ⟨h6,xe,hxe,rfl⟩ | ⟨T2,i2,h6,rfl⟩
 ·have HD := zj (HP.out.n2 _ _ H4.out h6)
  have hxz : (xe != 0) = true := by simpa using hxe
  have HXE := zj hxe;clear h6 hxe;obtain ⟨x0,x1,x2,x3,x4,x5⟩ := HK.out.cells;obtain ⟨f0,f1,f2,f3,f4,f5⟩ := HK.out.free;go_wp2_with fail;obtain ⟨r0,r1,r2,r3,r4,r5⟩ := (setN_box HK.out 0 0 0 ⟨#[]⟩ none 0 0 none 0 0).cells;unfold setN at r0 r1 r2 r3 r4 r5;refine bodyPost_ret (v := .tuple #[nv0,.int .i64 xe]) (by simp [results,Tryz.results54,go_sem,r0,r1,r2,r3,r4,r5]) rfl ⟨HBAD.out HD.out _ _ HXE.out,?_⟩;exact setN_below HB.out (Nat.le_refl _) 0 0 0 ⟨#[]⟩ none 0 0 none 0 0
 have hi2 := (L9.gtext_some h6);have H6 := zj h6
 have hT2 : T2.data.toList.length = T2.size := by simp
 have hT2s : T2.size ≤ 1000000 := by omega
 have hi2' : i2 ≤ B0.size := by omega
 have HU := zj (fun W => L8.unpack_any B0 (i2 : Int) (n : Int) W (by simp [Lit.wf,IntKind.min,IntKind.max,IntKind.signed,IntKind.bits];omega) (by simp [Lit.wf,IntKind.min,IntKind.max,IntKind.signed,IntKind.bits];omega) (by unfold maxLen;omega));obtain ⟨y0,y1,y2,y3,y4⟩ := HH.out.cells;simp only at y0 y1 y2 y3 y4;clear h6 hi2;go_wp2_with fail;refine (HU.out _).mono ?_;rintro e w7 ⟨h7,hb7⟩;have HK := zj (HK.out.below hb7);have HH := zj (HH.out.below hb7);have HB := zj (HB.out.trans' hb7);clear hb7 y0 y1 y2 y3 y4 HU;rcases h7 with ⟨h7,-⟩ | ⟨-,h7,rfl⟩ | ⟨-,h7,g,cap,rfl,hgw,hcap,hL7⟩
 ·exfalso
  omega
 ·rw [Int.toNat_natCast,Int.toNat_natCast] at h7
  have HD := zj (HP.out.n3 _ _ _ _ H4.out H6.out h7);clear h7;obtain ⟨x0,x1,x2,x3,x4,x5⟩ := HK.out.cells;obtain ⟨f0,f1,f2,f3,f4,f5⟩ := HK.out.free;go_wp2_with fail;obtain ⟨r0,r1,r2,r3,r4,r5⟩ := (setN_box HK.out 0 0 0 ⟨#[]⟩ none 0 0 none 0 0).cells;unfold setN at r0 r1 r2 r3 r4 r5;refine bodyPost_ret (v := .tuple #[nv0,.int .i64 3]) (by simp [results,Tryz.results54,go_sem,r0,r1,r2,r3,r4,r5]) rfl ⟨HBAD.out HD.out _ _ (by decide),?_⟩;exact setN_below HB.out (Nat.le_refl _) 0 0 0 ⟨#[]⟩ none 0 0 none 0 0
 rw [Int.toNat_natCast,Int.toNat_natCast] at h7;rw [Int.toNat_natCast] at hcap hL7 ⊢;have H7 := zj h7;have hcl := L8.cellsB_length B0 n;have hcs := L8.cellsB_size B0 n;have HCS : Hid (∀ t ∈ L8.cellsB B0 n,t.size ≤ 1000000) := zj (fun t ht => by have := hcs t ht;omega);have HCB := zj (L8.bs_cellsB B0 n);have hfew := L8.good_few H7.out
 have hn1 : n ≤ 1000 := by
  have h1 : (L5.B B0).length = B0.size := L5.b_size B0
  have h2 : B0.data.toList.length = B0.size := by simp
  omega
 have HL := zj hL7;have HCL := zj hcl;obtain ⟨y0,y1,y2,y3,y4⟩ := HH.out.cells;simp only at y0 y1 y2 y3 y4;obtain ⟨q7,hq7⟩ : ∃ q7,w7.heap.size = q7 := ⟨_,rfl⟩;have HN7 := zj (NRows.ofNew (t := 29) (F := hs5) (L := hl) (R := hr) (H := T2) hq7)
 have hqlt : w.heap.size < q7 := by rw [← hq7];exact HK.out.lt
 have hb8 := nbox_below 29 hs5 hl hr T2 none 0 0 none 0 0 w7;have HB8 : Hid (Below q7 (nbox 29 hs5 hl hr T2 none 0 0 none 0 0 w7) (nbox 29 hs5 hl hr T2 none 0 0 none 0 0 w7)) := zj (Below.refl _ _);have HL := zj (lies_below' HL.out hb8 (Nat.le_refl _));have HK := zj (HK.out.below hb8);have HB := zj (HB.out.trans' hb8);clear h7 hcs hgw hcap hL7 hfew hcl hb8 hBl hT1 hT2;rw [hq7] at HL;generalize (⟨g,0,none⟩ : Addr) = a8 at *;go_wp2_with fail;clear y0 y1 y2 y3 y4
 try rw [hq7]
 simp only [nbox] at HL HK HB HB8 HN7;have HSZ8 : Hid ((w7.alloc (.cells #[.int .i64 hs5,.int .i64 hl,.int .i64 hr,.string T2,.slice none 0 0,.slice none 0 0] 29)).heap.size = q7 + 1) := zj (by simp [hq7]);generalize w7.alloc (.cells #[.int .i64 hs5,.int .i64 hl,.int .i64 hr,.string T2,.slice none 0 0,.slice none 0 0] 29) = w8 at *;clear hq7
 go_loopw [70] (fun iv wr => ∃ (k : Nat) (K : Option Addr) (kc : Nat) (C : Option Addr) (j cb : Nat) (xs : List (Nat × List UInt8)),k ≤ n ∧ iv = .int .i64 k ∧ j = k - 1 ∧ Hid (mapK (((L8.cellsB B0 n).map L5.B).take k) = some xs) ∧ Hid (NRows 29 q7 hs5 hl hr T2 K k kc C j cb (kidsOf xs) (sepsOf T1.data.toList xs) wr) ∧ Hid (Below q7 w8 wr)) (fun iv _ => n - (intOf iv).toNat)
 case atStart => exact ⟨0,none,0,none,0,0,[],by omega,rfl,rfl,zj rfl,HN7,HB8⟩
 case round =>
  obtain ⟨k,K,kc,C,j,cb,xs,hk,rfl,hjk,HT,HN,HW⟩ := hrel;have HJK := zj hjk
  have hj1000 : j ≤ 1000 := by omega
  clear hjk;have HKr := zj (HK.out.on HW.out hqlt);have HBr := zj (HB.out.trans (HW.out.mono (by omega)));by_cases hlt : k < n
  ·obtain ⟨t,ht⟩ : ∃ t,(L8.cellsB B0 n)[k]? = some t := ⟨_,List.getElem?_eq_getElem (by have := HCL.out;omega)⟩
   obtain ⟨a,ha,hab,x0⟩ := (HL.out.below HW.out) k t ht;obtain rfl := Option.some.inj ha;have hts := HCS.out t (List.mem_of_getElem? ht)
   have hct : ((L8.cellsB B0 n).map L5.B)[k]? = some (L5.B t) := by rw [List.getElem?_map,ht];rfl
   have h0 : (0 : Int) ≤ k := by omega
   have hkn : (k : Int) < n := by omega
   have HGV := zj (fun W => L9.getk_any t W hts)
   cases hgv : L9.VP.getK t.data.toList with
   | none =>
    have HD : Hid (parse s = none) := zj (by
     refine HP.out.n4 _ _ _ _ H4.out H6.out H7.out ?_;rw [← HCB.out]
     exact mapK_none (List.mem_of_getElem? hct) hgv)
    rw [hgv] at HGV;unfold L9.gotK at HGV;have HK := HKr;have HB := HBr;clear ht ha hab hgv HT HN hct HKr HBr;go_wp2_with fail;refine (HGV.out _).mono ?_;rintro e V ⟨rfl,hb⟩;have HK := zj (HK.out.below hb);have HB := zj (HB.out.trans' hb);clear hb x0;obtain ⟨x0,x1,x2,x3,x4,x5⟩ := HK.out.cells;obtain ⟨f0,f1,f2,f3,f4,f5⟩ := HK.out.free;go_wp2_with fail;obtain ⟨r0,r1,r2,r3,r4,r5⟩ := (setN_box HK.out 0 0 0 ⟨#[]⟩ none 0 0 none 0 0).cells;unfold setN at r0 r1 r2 r3 r4 r5;refine bodyPost_ret (v := .tuple #[nv0,.int .i64 3]) (by simp [results,Tryz.results54,go_sem,r0,r1,r2,r3,r4,r5]) rfl ⟨HBAD.out HD.out _ _ (by decide),?_⟩;exact setN_below HB.out (Nat.le_refl _) 0 0 0 ⟨#[]⟩ none 0 0 none 0 0
   | some x =>
    obtain ⟨kid,T'⟩ := x;have hokk := (L9.VP.getK_some hgv).1;have hT : T'.length ≤ 128 := hokk.2.2;have HT1 := zj (mapK_take hct HT.out hgv);rw [hgv] at HGV;unfold L9.gotK at HGV;simp only at HGV;obtain ⟨KR,hKR⟩ : ∃ KR : ByteArray,⟨T'.toArray⟩ = KR := ⟨_,rfl⟩
    have hKRs : KR.size ≤ 128 := by rw [← hKR];show T'.toArray.size ≤ 128;simpa using hT
    have hcat : ¬ 9223372036854775807 < T1.size + KR.size := by omega
    have hcat' : ¬ (9223372036854775807 : Int) < (T1.size : Int) + (KR.size : Int) := by omega
    rw [hKR] at HGV
    have HCT : Hid (T1 ++ KR = ⟨(T1.data.toList ++ T').toArray⟩) := zj (by
     rw [← hKR];apply ByteArray.ext
     simp)
    have hxl : xs.length = k := by
     have h := mapK_length HT.out;rw [List.length_take,List.length_map,HCL.out] at h;omega
    have HXL := zj hxl;have HKS := zj (kidsOf_snoc xs (kid,T'));clear ht ha hab hgv hokk hT HT hct hKR hxl;go_wp2_with fail;refine (HGV.out _).mono ?_;rintro e V ⟨rfl,hb⟩;have HNV := zj (HN.out.below hb);have HWV := zj (HW.out.trans (hb.mono (by have := HN.out.box.lt;omega)));have hqV := HNV.out.box.lt;clear hb x0 HN HW HKr HBr;obtain ⟨p0,p1,p2,p3,p4,p5⟩ := HNV.out.box.cells;obtain ⟨f0,f1,f2,f3,f4,f5⟩ := HNV.out.box.free;rcases Nat.eq_zero_or_pos k with hk0 | hk0
    ·have dk : decide ((0 : Int) < (k : Int)) = false := dF (by omega)
     have dk2 : decide (0 < k) = false := dF (by omega);have HKZ := zj hk0
     have hkx : ((k : Int) > 0) = False := by simp;omega
     clear hk0;go_wp2_with (first | (at_builtin;refine wpList_append_lies _ rfl _ _ 27 rfl (q7 + 1) 3 i0 (.int .i64 0) 1 8 Tryz.underlying27 hi hz0 hz1 hz2 rfl (by decide) (.slice K k kc) k _ rfl (HNV.out.kown.alloc _) ⟨V.heap.size,0,none⟩ 1 1 [.int .i64 kid] rfl rfl (World.news_of_block (cs := #[.int .i64 kid]) (t := 3) (fr := (0,0)) (heap_alloc_new V _)) (num_one _) (by omega) (by unfold maxLen;omega) (by omega) (by simp;omega) (V.heap.size + 1) (by simp) ?_;intro g' cap' w3 hown3 hgrow3 hat3 hlt3;have hgk := HNV.out.growK hgrow3;have hx3 := hgk.1;have HP3 := zj (HNV.out.pushK hgrow3 hown3);clear p0 p1 p2 p3 p4 p5 f0 f1 f2 f3 f4 f5 hat3 hlt3 hgrow3;obtain ⟨p0,p1,p2,p3,p4,p5⟩ := hx3.cells;obtain ⟨f0,f1,f2,f3,f4,f5⟩ := hx3.free;obtain ⟨u0,u1,u2,u3,u4,u5⟩ := HP3.out.1.box.cells;obtain ⟨v0,v1,v2,v3,v4,v5⟩ := HP3.out.1.box.free) | fail);have hxs0 : xs = [] := List.eq_nil_of_length_eq_zero (by have := HXL.out;have := HKZ.out;omega)
     go_roundw
     case rel =>
      refine ⟨k + 1,some ⟨g',0,none⟩,cap',C,j,cb,xs ++ [(kid,T')],by omega,by simp,by have := HKZ.out;have := HJK.out;omega,HT1,zj ?_,zj (HWV.out.trans HP3.out.2)⟩;rw [HKS.out];subst hxs0;exact HP3.out.1
     case measure => simp [intOf];omega
    ·have dk : decide ((0 : Int) < (k : Int)) = true := dT (by omega)
     have dk2 : decide (0 < k) = true := dT hk0;have HKZ := zj hk0;clear hk0;go_wp2_with (first | (at_builtin;refine wpList_append_lies _ rfl _ _ 27 rfl (q7 + 1) 3 i0 (.int .i64 0) 1 8 Tryz.underlying27 hi hz0 hz1 hz2 rfl (by decide) (.slice K k kc) k _ rfl (HNV.out.kown.alloc _) ⟨V.heap.size,0,none⟩ 1 1 [.int .i64 kid] rfl rfl (World.news_of_block (cs := #[.int .i64 kid]) (t := 3) (fr := (0,0)) (heap_alloc_new V _)) (num_one _) (by omega) (by unfold maxLen;omega) (by omega) (by simp;omega) (V.heap.size + 1) (by simp) ?_;intro g' cap' w3 hown3 hgrow3 hat3 hlt3;have hgk := HNV.out.growK hgrow3;have hx3 := hgk.1;have HP3 := zj (HNV.out.pushK hgrow3 hown3);clear p0 p1 p2 p3 p4 p5 f0 f1 f2 f3 f4 f5 hat3 hlt3 hgrow3;obtain ⟨p0,p1,p2,p3,p4,p5⟩ := hx3.cells;obtain ⟨f0,f1,f2,f3,f4,f5⟩ := hx3.free;obtain ⟨u0,u1,u2,u3,u4,u5⟩ := HP3.out.1.box.cells;obtain ⟨v0,v1,v2,v3,v4,v5⟩ := HP3.out.1.box.free;have hs3 := hx3.lt;have HW4S : Hid ((w3.setCell ⟨q7,4,none⟩ (.slice (some ⟨g',0,none⟩) (k + 1) cap')).heap.size = w3.heap.size) := zj (by simp);have HBK4 : Hid (((w3.setCell ⟨q7,4,none⟩ (.slice (some ⟨g',0,none⟩) (k + 1) cap')).alloc (.cells #[.string (T1 ++ KR)] 9)).heap[w3.heap.size]? = some (.cells #[.string (T1 ++ KR)] 9 (0,0))) := zj (by have h := heap_alloc_new (w3.setCell ⟨q7,4,none⟩ (.slice (some ⟨g',0,none⟩) (k + 1) cap')) (.cells #[.string (T1 ++ KR)] 9);rwa [HW4S.out] at h)) | (at_builtin;refine wpList_append_lies _ rfl _ _ 22 rfl (q7 + 1) 9 j0 (.string ⟨#[]⟩) 1 16 Tryz.underlying22 hj hy0 hy1 hy2 rfl (by decide) (.slice C j cb) j _ rfl (HP3.out.1.sown.alloc _) ⟨w3.heap.size,0,none⟩ 1 1 [.string (T1 ++ KR)] rfl rfl (World.news_of_block (cs := #[.string (T1 ++ KR)]) (t := 9) (fr := (0,0)) HBK4.out) (L5.str_one _) (by omega) (by unfold maxLen;omega) (by omega) (by simp;omega) (w3.heap.size + 1) (by simp) ?_;intro g2 cap2 w5 hown5 hgrow5 hat5 hlt5;have hgs := HP3.out.1.growS hgrow5;have hx5 := hgs.1;have HP5 := zj (HP3.out.1.pushS hgrow5 hown5);clear p0 p1 p2 p3 p4 p5 f0 f1 f2 f3 f4 f5 u0 u1 u2 u3 u4 u5 v0 v1 v2 v3 v4 v5 hat5 hlt5 hgrow5;obtain ⟨p0,p1,p2,p3,p4,p5⟩ := hx5.cells;obtain ⟨f0,f1,f2,f3,f4,f5⟩ := hx5.free) | fail)
     have hxs0 : xs ≠ [] := fun h => by
      have h1 := HXL.out;have h2 := HKZ.out;rw [h] at h1;simp at h1;omega
     have hse := sepsOf_snoc T1.data.toList xs (kid,T') hxs0
     go_roundw
     case rel =>
      refine ⟨k + 1,some ⟨g',0,none⟩,cap',some ⟨g2,0,none⟩,j + 1,cap2,xs ++ [(kid,T')],by omega,by simp,by have := HKZ.out;have := HJK.out;omega,HT1,zj ?_,zj ((HWV.out.trans HP3.out.2).trans HP5.out.2)⟩;rw [HKS.out,hse,← HCT.out];exact HP5.out.1
     case measure => simp [intOf];omega
  ·obtain rfl : k = n := by omega
   have HD : Hid (parse s = some ⟨hs5,hl,hr,T2,kidsOf xs,sepsOf T1.data.toList xs⟩) := zj (by
    have h := HT.out;rw [List.take_of_length_le (by rw [List.length_map,HCL.out];exact Nat.le_refl _)] at h;have h2 := HP.out.ok _ _ _ _ xs H4.out H6.out H7.out (by rw [← HCB.out];exact h)
    rwa [bytes_eq] at h2)
   have HRW := zj HN.out.rows;have HKN := zj HN.out.kne;have HSN := zj HN.out.sne
   have hlt' : ¬ (k : Int) < k := by omega
   obtain ⟨p0,p1,p2,p3,p4,p5⟩ := HN.out.box.cells;obtain ⟨x0,x1,x2,x3,x4,x5⟩ := HKr.out.cells;obtain ⟨f0,f1,f2,f3,f4,f5⟩ := HKr.out.free;clear hlt hk HT HN;go_wp2_with fail;obtain ⟨r0,r1,r2,r3,r4,r5⟩ := (setN_box HKr.out hs5 hl hr T2 K k kc C j cb).cells;unfold setN at r0 r1 r2 r3 r4 r5;refine bodyPost_ret (v := .tuple #[nv hs5 hl hr T2 K k kc C j cb,.int .i64 0]) (by simp [results,Tryz.results54,go_sem,r0,r1,r2,r3,r4,r5]) rfl ⟨.inl ⟨hs5,hl,hr,T2,K,k,kc,C,j,cb,_,_,HD.out,rfl,HRW.out.stored (fun a ha => by have := HKN.out a ha;omega) (fun a ha => by have := HSN.out a ha;omega) _ _ _ _ _ _ _ _ _ _,fun a ha => by have := HKN.out a ha;omega,fun a ha => by have := HSN.out a ha;omega,hn1,by omega,hT2s⟩,?_⟩;exact setN_below HBr.out (Nat.le_refl _) hs5 hl hr T2 K k kc C j cb
def DecS (s : ByteArray) (b : Nat) (e : Ending) (w' : World) : Prop :=
 (∃ F L R H A n ca C m cb ks ss,dec s = some ⟨F,L,R,H,ks,ss⟩ ∧ e = .returned (.tuple #[nv F L R H A n ca C m cb,.int .i64 0]) ∧ Rows2 w' A n ca C m cb ks ss ∧ (∀ a,A = some a → b ≤ a.block) ∧ (∀ a,C = some a → b ≤ a.block)) ∨
 (dec s = none ∧ e = .returned (.tuple #[nv0,.int .i64 3]))
theorem dec_any (s : ByteArray) (w : World) (hz : L7.Sizes w) (hs : s.size ≤ 1000000) :
  Calls Tryz.prog 26 #[.string s] w fun e w' => DecS s w.heap.size e w' ∧ Below w.heap.size w w' := by
 have hb0 := nbox_below 29 0 0 0 ⟨#[]⟩ none 0 0 none 0 0 w;have HB := zj hb0;have HK := zj (nbox_new 29 0 0 0 ⟨#[]⟩ none 0 0 none 0 0 w);have HG := zj (hz.below hz.lt hb0);have hsz0 := nbox_size 29 0 0 0 ⟨#[]⟩ none 0 0 none 0 0 w;have HR := zj (nread_any s _ (hz.below hz.lt hb0) hs);have HSS : Hid (s.size ≤ 1000000) := zj hs;clear hb0 hz hs;go_enter Tryz.func26,Tryz.ntmps26;go_wp2_with fail;refine HR.out.mono ?_;rintro e w2 ⟨h2,hb2⟩;have hlt2 := hb2.size;rcases h2 with ⟨F,L,R,H,A,n,ca,C,m,cb,ks,ss,hp,rfl,hrw,hA,hC,hn,hm,hH⟩ | ⟨hp,x,hx,rfl⟩;rotate_left
 ·have HD := zj (dec_parse_none hp)
  have hxz : (x != 0) = true := by simpa using hx
  have hb3 := hb2.trans' (nbox_below 29 0 0 0 ⟨#[]⟩ none 0 0 none 0 0 w2);have HK := zj (HK.out.below hb3);have HB := zj (HB.out.trans' hb3);clear hb2 hb3 hp hx hlt2;obtain ⟨x0,x1,x2,x3,x4,x5⟩ := HK.out.cells;obtain ⟨f0,f1,f2,f3,f4,f5⟩ := HK.out.free;go_wp2_with fail;obtain ⟨r0,r1,r2,r3,r4,r5⟩ := (setN_box HK.out 0 0 0 ⟨#[]⟩ none 0 0 none 0 0).cells;unfold setN at r0 r1 r2 r3 r4 r5;refine bodyPost_ret (v := .tuple #[nv0,.int .i64 3]) (by simp [results,Tryz.results26,go_sem,r0,r1,r2,r3,r4,r5]) rfl ⟨.inr ⟨HD.out,rfl⟩,?_⟩;exact setN_below HB.out (Nat.le_refl _) 0 0 0 ⟨#[]⟩ none 0 0 none 0 0
 have hb3 := hb2.trans' (nbox_below 29 F L R H A n ca C m cb w2);have HN := zj (nbox_new 29 F L R H A n ca C m cb w2);have HK := zj (HK.out.below hb3);have HB := zj (HB.out.trans' hb3);have HG := zj (HG.out.below HG.out.lt hb3);have HW := zj (hrw.on (nbox_below 29 F L R H A n ca C m cb w2));have HA : Hid (∀ a,A = some a → w.heap.size < a.block) := zj (fun a h => by have := hA a h;omega);have HC : Hid (∀ a,C = some a → w.heap.size < a.block) := zj (fun a h => by have := hC a h;omega);have HE := zj (fun W (h : L7.Sizes W) (h2 : Rows2 W A n ca C m cb ks ss) => enc_any F L R H A n ca C m cb ks ss s.size W h h2 hn hm);obtain ⟨S2,c2,he⟩ : ∃ S2 c2,enc ⟨F,L,R,H,ks,ss⟩ s.size = (S2,c2) := ⟨_,_,rfl⟩;rw [encV,he] at HE;have HD := zj (dec_parse hp);rw [he] at HD;clear hb2 hb3 hrw hA hC hp hlt2 he hsz0;obtain ⟨x0,x1,x2,x3,x4,x5⟩ := HK.out.cells;obtain ⟨f0,f1,f2,f3,f4,f5⟩ := HK.out.free;obtain ⟨y0,y1,y2,y3,y4,y5⟩ := HN.out.cells;go_wp2_with fail;refine (HE.out _ HG.out HW.out).mono ?_;rintro e V ⟨rfl,hb⟩;clear x0 x1 x2 x3 x4 x5 f0 f1 f2 f3 f4 f5 y0 y1 y2 y3 y4 y5;have HK := zj (HK.out.below hb);have HB := zj (HB.out.trans' hb);have HN := zj (HN.out.below hb);have HW := zj (HW.out.on hb);clear hb;obtain ⟨x0,x1,x2,x3,x4,x5⟩ := HK.out.cells;obtain ⟨f0,f1,f2,f3,f4,f5⟩ := HK.out.free;obtain ⟨y0,y1,y2,y3,y4,y5⟩ := HN.out.cells;by_cases hc0 : c2 = 0
 ·subst hc0
  by_cases hS : S2 = s
  ·subst hS
   have hz := text_yes (rfl : S2 = S2)
   have hz2 : (S2.toList != S2.toList) = false := by simp
   rw [if_pos rfl] at HD;go_wp2_with fail;obtain ⟨r0,r1,r2,r3,r4,r5⟩ := (setN_box HK.out F L R H A n ca C m cb).cells;unfold setN at r0 r1 r2 r3 r4 r5;refine bodyPost_ret (v := .tuple #[nv F L R H A n ca C m cb,.int .i64 0]) (by simp [results,Tryz.results26,go_sem,r0,r1,r2,r3,r4,r5]) rfl ⟨.inl ⟨F,L,R,H,A,n,ca,C,m,cb,ks,ss,HD.out,rfl,HW.out.stored (fun a h => Nat.ne_of_gt (HA.out a h)) (fun a h => Nat.ne_of_gt (HC.out a h)) _ _ _ _ _ _ _ _ _ _,fun a h => Nat.le_of_lt (HA.out a h),fun a h => Nat.le_of_lt (HC.out a h)⟩,?_⟩;exact setN_below HB.out (Nat.le_refl _) F L R H A n ca C m cb
  ·rw [if_neg (fun h => hS (congrArg Prod.fst h))] at HD
   have hz := text_no hS
   have hz2 : (S2.toList != s.toList) = true := by simp only [bne,hz];rfl
   clear hS;go_wp2_with fail;obtain ⟨r0,r1,r2,r3,r4,r5⟩ := (setN_box HK.out 0 0 0 ⟨#[]⟩ none 0 0 none 0 0).cells;unfold setN at r0 r1 r2 r3 r4 r5;refine bodyPost_ret (v := .tuple #[nv0,.int .i64 3]) (by simp [results,Tryz.results26,go_sem,r0,r1,r2,r3,r4,r5]) rfl ⟨.inr ⟨HD.out,rfl⟩,?_⟩;exact setN_below HB.out (Nat.le_refl _) 0 0 0 ⟨#[]⟩ none 0 0 none 0 0
 ·rw [if_neg (fun h => hc0 (congrArg Prod.snd h))] at HD
  have hcn : (c2 != 0) = true := by simpa using hc0
  have hce : (c2 == 0) = false := by simpa using hc0
  clear hc0;go_wp2_with fail;obtain ⟨r0,r1,r2,r3,r4,r5⟩ := (setN_box HK.out 0 0 0 ⟨#[]⟩ none 0 0 none 0 0).cells;unfold setN at r0 r1 r2 r3 r4 r5;refine bodyPost_ret (v := .tuple #[nv0,.int .i64 3]) (by simp [results,Tryz.results26,go_sem,r0,r1,r2,r3,r4,r5]) rfl ⟨.inr ⟨HD.out,rfl⟩,?_⟩;exact setN_below HB.out (Nat.le_refl _) 0 0 0 ⟨#[]⟩ none 0 0 none 0 0
theorem fit {f : FuncId} {a b : Array Value} {W : World} {Q : Ending → World → Prop} (h : Calls Tryz.prog f a W Q) (e : b = a) : Calls Tryz.prog f b W Q := e ▸ h
theorem rputT (t : ByteArray) (W : World) (h : t.size ≤ 1000) :
  ∃ P : ByteArray,P.size ≤ 9 ∧ P ++ t = L9.textS t ∧ ∀ W,Calls Tryz.prog 183 #[.int .u64 (t.size : Nat)] W fun e w' => e = .returned (.string P) ∧ Below W.heap.size W w' :=
 ⟨_,L9.wput_size t.size (by omega),L9.textS_eq t t.size rfl,fun W => by
  have h2 := L9.rput_any (t.size : Nat) W (by omega) (by omega);rw [Int.toNat_natCast] at h2
  exact h2⟩
theorem rfixed_any (F L R : Int) (H : ByteArray) (A : Option Addr) (n ca : Nat) (C : Option Addr) (m cb : Nat) (ks : List Int) (ss : List ByteArray) (w : World) (hr : Rows2 w A n ca C m cb ks ss) (hf : Fit H ks ss) :
  Calls Tryz.prog 143 #[nv F L R H A n ca C m cb] w fun e w' => e = .returned (.string (fixedS H ss)) ∧ Below w.heap.size w w' := by
 have hb0 := nbox_below 42 F L R H A n ca C m cb w;have HB0 := zj hb0;have HK := zj (nbox_new 42 F L R H A n ca C m cb w);have hms := hr.nm;have HS := zj (L5.rstrip_any C ss cb _ (hr.on hb0).seps (by have := hf.few;omega) (fun s hs => by have := hf.sep s hs;omega));have z3 := headS_size hf.sep;have z4 := hf.high;obtain ⟨P1,p1,q1,c1⟩ := rputT (L5.headS ss) w (by omega);obtain ⟨P2,p2,q2,c2⟩ := rputT H w z4;have HZ : Hid (((P1 ++ L5.headS ss) ++ P2) ++ H = fixedS H ss) := zj (by rw [ByteArray.append_assoc,q1,q2];rfl);have HP1 := zj c1;have HP2 := zj c2;rw [hms] at HS;obtain ⟨hd,hhd⟩ : ∃ hd,L5.headS ss = hd := ⟨_,rfl⟩;rw [hhd] at HS HP1 HZ z3;rw [← HZ.out];have e1 : (P1 ++ hd).size = P1.size + hd.size := ByteArray.size_append
 have e2 : ((P1 ++ hd) ++ P2).size = P1.size + hd.size + P2.size := by rw [ByteArray.size_append,e1]
 have hz1 : ¬ 9223372036854775807 < P1.size + hd.size := by omega
 have hz2 : ¬ 9223372036854775807 < P1.size + hd.size + P2.size := by omega
 have hz3 : ¬ 9223372036854775807 < P1.size + hd.size + P2.size + H.size := by omega
 have hz1' : ¬ (9223372036854775807 : Int) < (P1.size : Int) + (hd.size : Int) := by omega
 have hz2' : ¬ (9223372036854775807 : Int) < (P1.size : Int) + (hd.size : Int) + (P2.size : Int) := by omega
 have hz3' : ¬ (9223372036854775807 : Int) < (P1.size : Int) + (hd.size : Int) + (P2.size : Int) + (H.size : Int) := by omega
 have w1 : IntKind.u64.wrap (hd.size : Int) = (hd.size : Int) := IntWalk.u64_in _ (by omega);have w2 : IntKind.u64.wrap (H.size : Int) = (H.size : Int) := IntWalk.u64_in _ (by omega);obtain ⟨c0,c1',c2',c3,c4,c5⟩ := HK.out.cells;simp only [nbox] at HS HK HB0 c0 c1' c2' c3 c4 c5;clear hr hf hb0 q1 q2 c1 c2 hhd HZ hms;go_enter Tryz.func143,Tryz.ntmps143;go_wp2_with fail;refine HS.out.mono ?_;rintro e W3 ⟨G3,cap3,rfl,hL3,hb3⟩;have HK3 := zj (HK.out.below hb3);have HB3 := zj (HB0.out.trans' hb3);clear hb3 hL3;have HST : Hid (∀ V,Below W3.heap.size W3 V → (Hid (Below W3.heap.size W3 V) ∧ V.cell? ⟨w.heap.size,3,none⟩ = some (.string H))) := zj (fun V hb => ⟨zj hb,(HK3.out.below hb).cells.2.2.2.1⟩);have hSd := HST.out _ (L5.below_drewN (Below.refl _ W3) 1);have hS0 := HST.out _ (Below.refl _ W3);go_wp2_with fail
 go_region_held3 (fun V => Hid (Below W3.heap.size W3 V) ∧ V.cell? ⟨w.heap.size,3,none⟩ = some (.string H))
  (first | assumption | exact hSd)
  (first
   | (go_at_call 183;refine Calls.mono (fit (HP1.out _) (by rfl)) ?_;rintro e V ⟨rfl,hb⟩;have HBV := zj ((by assumption : Hid (Below W3.heap.size W3 _) ∧ _).1.out.trans' hb);have hSn := HST.out _ HBV.out;clear hb)
   | (go_at_call 183;refine Calls.mono (fit (HP2.out _) (by rfl)) ?_;rintro e V ⟨rfl,hb⟩;have HBV := zj ((by assumption : Hid (Below W3.heap.size W3 _) ∧ _).1.out.trans' hb);have hSn := HST.out _ HBV.out;clear hb)
   | fail "no arm")
 all_goals
  go_wp2_with fail;go_ret;exact ⟨rfl,HB3.out.trans' HBV.out⟩
theorem range_snoc (f : Nat → ByteArray) (k : Nat) : (List.range (k + 1)).map f = (List.range k).map f ++ [f k] := by rw [List.range_succ,List.map_append];rfl
theorem rcells_any (F L R : Int) (H : ByteArray) (A : Option Addr) (n ca : Nat) (C : Option Addr) (m cb : Nat) (ks : List Int) (ss : List ByteArray) (w : World) (hr : Rows2 w A n ca C m cb ks ss) (hf : Fit H ks ss) :
  Calls Tryz.prog 144 #[nv F L R H A n ca C m cb] w fun e w' => ∃ G cap,e = .returned (.slice G n cap) ∧ L5.Lies w' w'.heap.size G (cellsS ks ss) ∧ Below w.heap.size w w' := by
 obtain ⟨i0,hi,hz0,hz1,hz2⟩ := info_parts L5.Tryz.infoStr;have hb0 := nbox_below 42 F L R H A n ca C m cb w;have HB0 := zj hb0;have HK := zj (nbox_new 42 F L R H A n ca C m cb w);have hms := hr.nm;have hks := hr.nk
 have hnm : n = m + 1 := by rw [← hks,← hms];exact hf.len
 have hm1000 : m ≤ 1000 := by rw [← hms];exact hf.few
 have HNM := zj hnm;have HRA := zj (hr.on hb0);have HS := zj (L5.rstrip_any C ss cb _ (hr.on hb0).seps (by have := hf.few;omega) (fun s hs => by have := hf.sep s hs;omega));rw [hms] at HS
 have HKID : Hid (∀ i (hi : i < n),∃ k,ks[i]? = some k ∧ KidOk k ∧ ks.getD i 0 = k) := zj (fun i hi => by
  have h1 : ks[i]? = some ks[i] := List.getElem?_eq_getElem (by omega)
  exact ⟨_,h1,hf.kids _ (List.mem_of_getElem? h1),by rw [List.getD_eq_getElem?_getD,h1];rfl⟩)
 have HLO : Hid (∀ i,(loAt ⟨#[]⟩ (L5.bares ss) i).size ≤ 128) := zj (fun i => lo_size (bares_size hf.sep) i);have HCR : Hid ((List.range n).map (cellAt ks (L5.bares ss)) = cellsS ks ss) := zj (by rw [← hks];exact cells_range hf.len);have HBL : Hid ((L5.bares ss).length = m) := zj (by rw [L5.bares_length,hms]);have HPK := zj (fun (k : Int) (t : ByteArray) (hk : KidOk k) (ht : t.size ≤ 128) W => (by have h := L9.rputk_any k t W (by omega);rw [putk_ok hk ht] at h;exact h : Calls Tryz.prog 141 #[.int .i64 k,.string t] W fun e w' => e = .returned (.tuple #[.string (L9.kidS k.toNat t),.int .i64 0]) ∧ Below W.heap.size W w'));have HCA : Hid (cellsS ks ss = (List.range n).map (cellAt ks (L5.bares ss))) := zj HCR.out.symm;rw [HCA.out];clear HCA HCR;obtain ⟨bs,hbs⟩ : ∃ bs,L5.bares ss = bs := ⟨_,rfl⟩;rw [hbs] at HS HLO HBL;rw [hbs];obtain ⟨c0,c1,c2,c3,c4,c5⟩ := HK.out.cells;clear hbs hr hf hb0 hms hks hnm;simp only [nbox] at HK HB0 HRA HS c0 c1 c2 c3 c4 c5;go_enter Tryz.func144,Tryz.ntmps144;go_wp2_with fail;refine HS.out.mono ?_;rintro e w1 ⟨G3,cap3,rfl,hL3,hb3⟩;have HK3 := zj (HK.out.below hb3);have HB3 := zj (HB0.out.trans' hb3);have HA3 := zj ((HRA.out.on hb3).kids);have HL3 := zj hL3;have hlt1 := HK3.out.lt;clear hL3 hb3 HS HK HB0 HRA c0 c1 c2 c3 c4 c5;go_wp2_with fail
 go_loopw [5,6] (fun ov iv wr => ∃ (k g cap : Nat),k ≤ n ∧ iv = .int .i64 k ∧ ov = .slice (some ⟨g,0,none⟩) k cap ∧ Hid (L5.Owns wr w1.heap.size (.slice (some ⟨g,0,none⟩) k cap) k ((List.range k).map (cellAt ks bs))) ∧ Below w1.heap.size w1 wr) (fun _ iv _ => n - (intOf iv).toNat)
 case atStart =>
  exact ⟨0,w1.heap.size,0,by omega,rfl,rfl,zj (L5.own_empty w1 _),L5.below_alloc _ _⟩
 case round =>
  obtain ⟨k,g,cap,hk,rfl,rfl,HO,hbr⟩ := hrel;by_cases hlt : k < n
  ·obtain ⟨kid,hkid,hok,hgd⟩ := HKID.out k hlt
   obtain ⟨a,rfl,hab,x0⟩ := (HA3.out.below hbr) k kid hkid;obtain ⟨p0,p1,p2,p3,p4,p5⟩ := (HK3.out.on hbr hlt1).cells;have HC : Hid ((List.range (k + 1)).map (cellAt ks bs) = (List.range k).map (cellAt ks bs) ++ [cellAt ks bs k]) := zj (range_snoc _ k);have HCE : Hid (cellAt ks bs k = L9.kidS kid.toNat (loAt ⟨#[]⟩ bs k)) := zj (by unfold cellAt;rw [hgd]);have HP := zj (fun W => HPK.out kid (loAt ⟨#[]⟩ bs k) hok (HLO.out k) W);rw [← HCE.out] at HP;have hbs := hbr.size
   have h0 : (0 : Int) ≤ k := by omega
   have hkn : (k : Int) < n := by omega
   have hk1000 : (k : Int) ≤ 1001 := by have := HNM.out;omega
   generalize cellAt ks bs k = cc at *;clear hkid hgd HCE hab;rcases Nat.eq_zero_or_pos k with hk0 | hk0
   ·subst hk0
    have HP' : Hid (∀ W,Calls Tryz.prog 141 #[.int .i64 kid,.string ⟨#[]⟩] W fun e w' => e = .returned (.tuple #[.string cc,.int .i64 0]) ∧ Below W.heap.size W w') := HP;rw [show a.add ((0 : Nat) : Nat) = a from by cases a;simp [Addr.add]] at x0;go_wp2_with fail;refine (HP'.out _).mono ?_;rintro e V ⟨rfl,hbV⟩;have HBV := zj hbV;have HOV := zj (L5.own_below HO.out hbV);have HW1 := zj (hbr.trans (hbV.mono hbs));have hbs2 := hbV.size;clear hbV;go_wp2_with (at_builtin;refine wpList_append_lies _ rfl _ _ 22 rfl w1.heap.size 9 i0 (.string ⟨#[]⟩) 1 16 Tryz.underlying22 hi hz0 hz1 hz2 rfl (by decide) (.slice (some ⟨g,0,none⟩) 0 cap) 0 _ rfl (HOV.out.alloc _) ⟨V.heap.size,0,none⟩ 1 1 [.string cc] rfl rfl (World.news_of_block (cs := #[.string cc]) (t := 9) (fr := (0,0)) (heap_alloc_new V _)) (L5.str_one _) (by omega) (by unfold maxLen;omega) (by omega) (by simp;omega) (V.heap.size + 1) (by simp) ?_;intro g' cap' w2 hown' hgrow hat hlt2;have hb3 : Below w1.heap.size V w2 := ((Below.refl _ V).alloc (by omega) (.cells #[.string cc] 9)).trans (L5.own_apart (HOV.out.alloc _) hgrow (Nat.le_refl _) (by simp;omega));clear hat hlt2 hgrow);have hb4 := HW1.out.trans hb3
    go_roundw
    case rel => exact ⟨1,g',cap',by omega,by simp,rfl,zj (by rw [HC.out,L5.Owns,L5.strCells_snoc];exact hown'),hb4⟩
    case measure => simp [intOf];omega
   ·obtain ⟨j,HJ⟩ : ∃ j,Hid (k = j + 1) := ⟨k - 1,zj (by omega)⟩
    have hj : j < bs.length := by have h1 := HBL.out;have h2 := HNM.out;have h3 := HJ.out;omega
    obtain ⟨t,ht⟩ : ∃ t,bs[j]? = some t := ⟨_,List.getElem?_eq_getElem hj⟩
    have hlo : loAt ⟨#[]⟩ bs k = t := by
     rw [HJ.out];show bs.getD j ⟨#[]⟩ = t;rw [List.getD_eq_getElem?_getD,ht];rfl
    obtain ⟨b,rfl,hbb,y0⟩ := (HL3.out.below hbr) j t ht;rw [hlo] at HP
    have hjm : j < m := by have h1 := HBL.out;omega
    have hj2 : (j : Int) < m := by omega
    have hj0 : (0 : Int) ≤ j := by omega
    have hw : IntKind.i64.wrap ((k : Int) - 1) = (j : Int) := by
     rw [HJ.out]
     have : (((j + 1 : Nat) : Int) - 1) = j := by omega
     rw [this];exact IntWalk.i64_in _ (by omega)
    have hkp : (0 : Int) < (k : Int) := by omega
    have hk1 : ((k : Int) - 1) = (j : Int) := by have := HJ.out;omega
    have hg0 : decide ((0 : Int) < (k : Int)) = true := dT hkp;clear hlo ht hj hbb;go_wp2_with fail;refine (HP.out _).mono ?_;rintro e V ⟨rfl,hbV⟩;have HBV := zj hbV;have HOV := zj (L5.own_below HO.out hbV);have HW1 := zj (hbr.trans (hbV.mono hbs));have hbs2 := hbV.size;clear hbV;go_wp2_with (at_builtin;refine wpList_append_lies _ rfl _ _ 22 rfl w1.heap.size 9 i0 (.string ⟨#[]⟩) 1 16 Tryz.underlying22 hi hz0 hz1 hz2 rfl (by decide) (.slice (some ⟨g,0,none⟩) k cap) k _ rfl (HOV.out.alloc _) ⟨V.heap.size,0,none⟩ 1 1 [.string cc] rfl rfl (World.news_of_block (cs := #[.string cc]) (t := 9) (fr := (0,0)) (heap_alloc_new V _)) (L5.str_one _) (by omega) (by unfold maxLen;omega) (by omega) (by simp;omega) (V.heap.size + 1) (by simp) ?_;intro g' cap' w2 hown' hgrow hat hlt2;have hb3 : Below w1.heap.size V w2 := ((Below.refl _ V).alloc (by omega) (.cells #[.string cc] 9)).trans (L5.own_apart (HOV.out.alloc _) hgrow (Nat.le_refl _) (by simp;omega));clear hat hlt2 hgrow);have hb4 := HW1.out.trans hb3
    go_roundw
    case rel => exact ⟨k + 1,g',cap',by omega,by simp,rfl,zj (by rw [HC.out,L5.Owns,L5.strCells_snoc];exact hown'),hb4⟩
    case measure => simp [intOf];omega
  ·obtain rfl : k = n := by omega
   have HL : Hid (L5.Lies wr wr.heap.size (some ⟨g,0,none⟩) ((List.range k).map (cellAt ks bs))) := zj (L5.lies_own HO.out (by simp));obtain ⟨p0,p1,p2,p3,p4,p5⟩ := (HK3.out.on hbr hlt1).cells
   have hlt' : ¬ (k : Int) < k := by omega
   go_wp2_with fail;go_ret;exact ⟨some ⟨g,0,none⟩,⟨cap,rfl⟩,HL.out,HB3.out.trans' hbr⟩
def HoldN (w2 : World) (g : Nat) (F L R : Int) (H : ByteArray) (A : Option Addr) (n ca : Nat) (C : Option Addr) (m cb : Nat) (V : World) : Prop := Hid (Below w2.heap.size w2 V) ∧ V.cell? ⟨g,0,none⟩ = some (.int .i64 F) ∧ V.cell? ⟨g,1,none⟩ = some (.int .i64 L) ∧ V.cell? ⟨g,2,none⟩ = some (.int .i64 R) ∧ V.cell? ⟨g,3,none⟩ = some (.string H) ∧ V.cell? ⟨g,4,none⟩ = some (.slice A n ca) ∧ V.cell? ⟨g,5,none⟩ = some (.slice C m cb)
theorem holdN {t : TypeId} {w2 V : World} {g : Nat} {F L R : Int} {H : ByteArray} {A : Option Addr} {n ca : Nat} {C : Option Addr} {m cb : Nat} (h : NBx t g F L R H A n ca C m cb w2) (hb : Below w2.heap.size w2 V) : HoldN w2 g F L R H A n ca C m cb V := ⟨zj hb,(h.below hb).cells⟩
theorem renc_any (F L R : Int) (H : ByteArray) (A : Option Addr) (n ca : Nat) (C : Option Addr) (m cb : Nat) (ks : List Int) (ss : List ByteArray) (p : Int) (w : World) (hr : Rows2 w A n ca C m cb ks ss) (hn : n ≤ 1000) (hm : m ≤ 1000) (hh : H.size ≤ 1000000) (hss : ∀ s ∈ ss,s.size ≤ maxLen) (hpw : (Lit.int .i64 p).wf = true) :
  Calls Tryz.prog 81 #[nv F L R H A n ca C m cb,.int .i64 p] w fun e w' => e = .returned (encV ⟨F,L,R,H,ks,ss⟩ p) ∧ Below w.heap.size w w' := by
 have hb0 := nbox_below 42 F L R H A n ca C m cb w;have HB0 := zj hb0;have HA := zj (hr.on hb0);have HK := zj (nbox_new 42 F L R H A n ca C m cb w);have HSZ : Hid (∀ W,Calls Tryz.prog 130 #[.int .i64 p] W fun e w' => e = .returned (.bool (L7.mayBe p)) ∧ W = w') := zj (fun W => L7.sizeRef_any p W);have HM := zj (fun W (h2 : Rows2 W A n ca C m cb ks ss) => rmay_any F L R H A n ca C m cb ks ss p W h2 (by omega) (by omega) hh hss);obtain ⟨r,HR⟩ : ∃ r,Hid (r = encV ⟨F,L,R,H,ks,ss⟩ p) := ⟨_,zj rfl⟩;rw [← HR.out];have hcases := enc_cases ⟨F,L,R,H,ks,ss⟩ p;have hnk := hr.nk;have hnm := hr.nm;obtain ⟨c0,c1,c2,c3,c4,c5⟩ := HK.out.cells;simp only [nbox] at HK HB0 HA c0 c1 c2 c3 c4 c5;rcases hcases with ⟨hmb,he⟩ | ⟨hmb,hmay,he⟩ | ⟨hmay,hbig,he⟩ | ⟨hmay,hfit,he⟩
 ·have HX : Hid (r = .tuple #[.string ⟨#[]⟩,.int .i64 4]) := zj (by rw [HR.out,encV,he])
  rw [hmb] at HSZ;clear hmb he hnk hnm hr hn hm hh hss hb0 HM;go_enter Tryz.func81,Tryz.ntmps81;go_wp2_with fail;refine (HSZ.out _).mono ?_;rintro e w2 ⟨rfl,rfl⟩;go_wp2_with fail
  go_ret2
  exact ⟨by rw [HX.out] <;> rfl,HB0.out⟩
 ·have HX : Hid (r = .tuple #[.string ⟨#[]⟩,.int .i64 3]) := zj (by rw [HR.out,encV,he])
  rw [hmb] at HSZ;rw [dF hmay] at HM;clear hmb hmay he hnk hnm hr hn hm hh hss hb0;go_enter Tryz.func81,Tryz.ntmps81;go_wp2_with fail;refine (HSZ.out _).mono ?_;rintro e w2 ⟨rfl,rfl⟩;go_wp2_with fail;refine (HM.out _ HA.out).mono ?_;rintro e w2 ⟨rfl,hb2⟩;go_wp2_with fail
  go_ret2
  exact ⟨by rw [HX.out] <;> rfl,HB0.out.trans' hb2⟩
 ·have HX : Hid (r = .tuple #[.string ⟨#[]⟩,.int .i64 8]) := zj (by rw [HR.out,encV,he])
  have hp := mayBe_le hmay.1;obtain ⟨q,rfl⟩ : ∃ q : Nat,p = q := Int.eq_ofNat_of_zero_le (by omega);have hf := May.fit hmay (by omega)
  have hnc : (cellsS ks ss).length = n := by rw [cellsS_length hf.len,hnk]
  have HF := zj (fun W (h : Rows2 W A n ca C m cb ks ss) => rfixed_any F L R H A n ca C m cb ks ss W h hf);have HC := zj (fun W (h : Rows2 W A n ca C m cb ks ss) => rcells_any F L R H A n ca C m cb ks ss W h hf);have HK8 := zj (fun G cap W (h : L5.Lies W W.heap.size G (cellsS ks ss)) => L8.pack8_any ((q : Int) - 16) (fixedS H ss) G (cellsS ks ss) cap W h (by omega) (by have := fixedS_size hf;omega) (fun s hs => by have := cellsS_size hf s hs;omega));rw [packV_big (F := F) (L := L) (R := R) (by omega) (by omega) (by omega),hnc] at HK8;rw [hmay.1] at HSZ;rw [dT hmay] at HM;have hw : IntKind.i64.wrap ((q : Int) - 16) = (q : Int) - 16 := IntWalk.i64_in _ (by omega);generalize fixedS H ss = fx at *;clear hmay he hnk hnm hr hn hm hh hss hb0 hbig hf hp hnc hpw;go_enter Tryz.func81,Tryz.ntmps81;go_wp2_with fail;refine (HSZ.out _).mono ?_;rintro e w2 ⟨rfl,rfl⟩;go_wp2_with fail;refine (HM.out _ HA.out).mono ?_;rintro e w2 ⟨rfl,hb2⟩;have HB3 := zj (HB0.out.trans' hb2);have HK3 := zj (HK.out.below hb2);have HA3 := zj (HA.out.on hb2);clear hb2 HM HSZ c0 c1 c2 c3 c4 c5;go_wp2_with fail;have HST : Hid (∀ V,Below w2.heap.size w2 V → (Hid (Below w2.heap.size w2 V) ∧ V.cell? ⟨w.heap.size,0,none⟩ = some (.int .i64 F) ∧ V.cell? ⟨w.heap.size,1,none⟩ = some (.int .i64 L) ∧ V.cell? ⟨w.heap.size,2,none⟩ = some (.int .i64 R) ∧ V.cell? ⟨w.heap.size,3,none⟩ = some (.string H) ∧ V.cell? ⟨w.heap.size,4,none⟩ = some (.slice A n ca) ∧ V.cell? ⟨w.heap.size,5,none⟩ = some (.slice C m cb))) := zj (fun V hb => holdN HK3.out hb);have HLI : Hid (∀ V (X : Prop),(Hid (Below w2.heap.size w2 V) ∧ X) → Rows2 V A n ca C m cb ks ss) := zj (fun V X h => HA3.out.on h.1.out);have hSd := HST.out _ (L5.below_drewN (Below.refl _ w2) 1)
  go_region_held3 (fun V => Hid (Below w2.heap.size w2 V) ∧ V.cell? ⟨w.heap.size,0,none⟩ = some (.int .i64 F) ∧ V.cell? ⟨w.heap.size,1,none⟩ = some (.int .i64 L) ∧ V.cell? ⟨w.heap.size,2,none⟩ = some (.int .i64 R) ∧ V.cell? ⟨w.heap.size,3,none⟩ = some (.string H) ∧ V.cell? ⟨w.heap.size,4,none⟩ = some (.slice A n ca) ∧ V.cell? ⟨w.heap.size,5,none⟩ = some (.slice C m cb))
   (first | assumption | exact hSd)
   (first
    | (go_at_call 143;refine (HF.out _ (HLI.out _ _ (by assumption))).mono ?_;rintro e V ⟨rfl,hb⟩;have HBV := zj ((by assumption : Hid (Below w2.heap.size w2 _) ∧ _).1.out.trans' hb);(try have RA := zj (RA.out.on hb));have hSn := HST.out _ HBV.out;clear hb)
    | (go_at_call 144;refine (HC.out _ (HLI.out _ _ (by assumption))).mono ?_;rintro e V ⟨G,cap,rfl,hl,hb⟩;have HBV := zj ((by assumption : Hid (Below w2.heap.size w2 _) ∧ _).1.out.trans' hb);have RA := zj hl;have hSn := HST.out _ HBV.out;clear hl hb)
    | (go_at_call 135;refine (HK8.out _ _ _ RA.out).mono ?_;rintro e V ⟨rfl,hb⟩;have HBV := zj ((by assumption : Hid (Below w2.heap.size w2 _) ∧ _).1.out.trans' hb);have hSn := HST.out _ HBV.out;clear hb)
    | fail "no arm")
  all_goals
   go_wp2_with fail
   go_ret2
   exact ⟨by rw [HX.out] <;> rfl,HB3.out.trans' HBV.out⟩
 ·have HX : Hid (r = .tuple #[.string ⟨(page ⟨F,L,R,H,ks,ss⟩ p.toNat).toArray⟩,.int .i64 0]) := zj (by rw [HR.out,encV,he])
  have hp := mayBe_le hmay.1;obtain ⟨q,rfl⟩ : ∃ q : Nat,p = q := Int.eq_ofNat_of_zero_le (by omega);have hf := May.fit hmay (by omega)
  have hnc : (cellsS ks ss).length = n := by rw [cellsS_length hf.len,hnk]
  have HF := zj (fun W (h : Rows2 W A n ca C m cb ks ss) => rfixed_any F L R H A n ca C m cb ks ss W h hf);have HC := zj (fun W (h : Rows2 W A n ca C m cb ks ss) => rcells_any F L R H A n ca C m cb ks ss W h hf);have HK8 := zj (fun G cap W (h : L5.Lies W W.heap.size G (cellsS ks ss)) => L8.pack8_any ((q : Int) - 16) (fixedS H ss) G (cellsS ks ss) cap W h (by omega) (by have := fixedS_size hf;omega) (fun s hs => by have := cellsS_size hf s hs;omega));rw [packV_ok (F := F) (L := L) (R := R) (by omega) (by omega) (by omega),hnc] at HK8;rw [hmay.1] at HSZ;rw [dT hmay] at HM;have hw : IntKind.i64.wrap ((q : Int) - 16) = (q : Int) - 16 := IntWalk.i64_in _ (by omega);rw [Int.toNat_natCast] at HX;have hbl : (body ⟨F,L,R,H,ks,ss⟩ q).length = q - 16 := body_length (by omega);have HSE := zj (fun W => L7.refSeal_any (hd ⟨F,L,R,H,ks,ss⟩) ⟨(body ⟨F,L,R,H,ks,ss⟩ q).toArray⟩ q W hpw (by show (body ⟨F,L,R,H,ks,ss⟩ q).toArray.size ≤ _;rw [List.size_toArray,hbl];unfold maxLen;omega));have hsv := seal_ok hmay (by omega);rw [hsv] at HSE;rw [show L7.hv (hd ⟨F,L,R,H,ks,ss⟩) = .agg #[.int .i64 3,.int .i64 L,.int .i64 n,.int .i64 R,.int .i64 F] by rw [← hnk];rfl] at HSE;generalize (⟨(page ⟨F,L,R,H,ks,ss⟩ q).toArray⟩ : ByteArray) = PG at *;generalize (⟨(body ⟨F,L,R,H,ks,ss⟩ q).toArray⟩ : ByteArray) = BD at *;generalize fixedS H ss = fx at *;clear hmay he hnk hnm hr hn hm hh hss hb0 hfit hf hp hbl hsv hpw hnc;go_enter Tryz.func81,Tryz.ntmps81;go_wp2_with fail;refine (HSZ.out _).mono ?_;rintro e w2 ⟨rfl,rfl⟩;go_wp2_with fail;refine (HM.out _ HA.out).mono ?_;rintro e w2 ⟨rfl,hb2⟩;have HB3 := zj (HB0.out.trans' hb2);have HK3 := zj (HK.out.below hb2);have HA3 := zj (HA.out.on hb2);clear hb2 HM HSZ c0 c1 c2 c3 c4 c5;go_wp2_with fail;have HST : Hid (∀ V,Below w2.heap.size w2 V → (Hid (Below w2.heap.size w2 V) ∧ V.cell? ⟨w.heap.size,0,none⟩ = some (.int .i64 F) ∧ V.cell? ⟨w.heap.size,1,none⟩ = some (.int .i64 L) ∧ V.cell? ⟨w.heap.size,2,none⟩ = some (.int .i64 R) ∧ V.cell? ⟨w.heap.size,3,none⟩ = some (.string H) ∧ V.cell? ⟨w.heap.size,4,none⟩ = some (.slice A n ca) ∧ V.cell? ⟨w.heap.size,5,none⟩ = some (.slice C m cb))) := zj (fun V hb => holdN HK3.out hb);have HLI : Hid (∀ V (X : Prop),(Hid (Below w2.heap.size w2 V) ∧ X) → Rows2 V A n ca C m cb ks ss) := zj (fun V X h => HA3.out.on h.1.out);have hSd := HST.out _ (L5.below_drewN (Below.refl _ w2) 1)
  go_region_held3 (fun V => Hid (Below w2.heap.size w2 V) ∧ V.cell? ⟨w.heap.size,0,none⟩ = some (.int .i64 F) ∧ V.cell? ⟨w.heap.size,1,none⟩ = some (.int .i64 L) ∧ V.cell? ⟨w.heap.size,2,none⟩ = some (.int .i64 R) ∧ V.cell? ⟨w.heap.size,3,none⟩ = some (.string H) ∧ V.cell? ⟨w.heap.size,4,none⟩ = some (.slice A n ca) ∧ V.cell? ⟨w.heap.size,5,none⟩ = some (.slice C m cb))
   (first | assumption | exact hSd)
   (first
    | (go_at_call 143;refine (HF.out _ (HLI.out _ _ (by assumption))).mono ?_;rintro e V ⟨rfl,hb⟩;have HBV := zj ((by assumption : Hid (Below w2.heap.size w2 _) ∧ _).1.out.trans' hb);(try have RA := zj (RA.out.on hb));have hSn := HST.out _ HBV.out;clear hb)
    | (go_at_call 144;refine (HC.out _ (HLI.out _ _ (by assumption))).mono ?_;rintro e V ⟨G,cap,rfl,hl,hb⟩;have HBV := zj ((by assumption : Hid (Below w2.heap.size w2 _) ∧ _).1.out.trans' hb);have RA := zj hl;have hSn := HST.out _ HBV.out;clear hl hb)
    | (go_at_call 135;refine (HK8.out _ _ _ RA.out).mono ?_;rintro e V ⟨rfl,hb⟩;have HBV := zj ((by assumption : Hid (Below w2.heap.size w2 _) ∧ _).1.out.trans' hb);have hSn := HST.out _ HBV.out;clear hb)
    | fail "no arm")
  all_goals
   go_wp2_with fail;refine (HSE.out _).mono ?_;rintro e w5 ⟨rfl,hb5⟩;go_wp2_with fail
   go_ret2
   exact ⟨by rw [HX.out] <;> rfl,(HB3.out.trans' HBV.out).trans' hb5⟩
end Go.Proofs.YtpeghilfldpgfaaGreatDoor.L11
