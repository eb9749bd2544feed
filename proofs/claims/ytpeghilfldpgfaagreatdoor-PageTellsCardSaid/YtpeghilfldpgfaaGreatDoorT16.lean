import Derived.Test.YtpeghilfldpgfaaGreatDoorT15
import Derived.Deep.WholeRow
set_option linter.unusedVariables false
set_option linter.unusedSimpArgs false
set_option maxHeartbeats 8000000
set_option maxRecDepth 100000
namespace Go.Proofs.YtpeghilfldpgfaaGreatDoor.L13
open Go.RowKit MP
theorem rdec_any (s : ByteArray) (w : World) (hz : L7.Sizes w) (hs : s.size ≤ maxLen) :
  Calls Tryz.prog 50 #[.string s] w fun e w' => e = .returned (decV s) ∧ Below w.heap.size w w' := by
 have hb0 := mbox_below 44 0 0 0 0 0 w;have HB := zj hb0;have HK := zj (mbox_new 44 0 0 0 0 0 w);have HG := zj (hz.below hz.lt hb0);have HO := zj (L7.refOpen_any s _ (hz.below hz.lt hb0));have hroom := @opn_room s;have hbad := @dec_bad s;have hyes := @dec_yes s;have hno := @dec_no s;unfold L7.opnV at HO;generalize L7.HP.opn s = x at *;obtain ⟨⟨k,l,c,r,f⟩,b,e⟩ := x;simp only [L7.hv] at HO;simp only at hbad hyes hno hroom;unfold told at hyes hno;simp only at hyes hno;clear hb0 hz;by_cases he : e = 0
 ·subst he
  obtain ⟨hr1,hr2⟩ := hroom rfl;have R5 : Hid (∀ W,Calls Tryz.prog 83 #[.string b,.int .i64 5] W fun e w' => e = .returned (.tuple #[.int .u32 (num b 5),.int .i64 0]) ∧ W = w') := zj (fun W => L7.rread_any b 5 W (by omega) (by omega) (by unfold maxLen;omega));have R9 : Hid (∀ W,Calls Tryz.prog 83 #[.string b,.int .i64 9] W fun e w' => e = .returned (.tuple #[.int .u32 (num b 9),.int .i64 0]) ∧ W = w') := zj (fun W => L7.rread_any b 9 W (by omega) (by omega) (by unfold maxLen;omega));have R13 : Hid (∀ W,Calls Tryz.prog 83 #[.string b,.int .i64 13] W fun e w' => e = .returned (.tuple #[.int .u32 (num b 13),.int .i64 0]) ∧ W = w') := zj (fun W => L7.rread_any b 13 W (by omega) (by omega) (by unfold maxLen;omega));have b5 := num_bd b 5;have b9 := num_bd b 9;have b13 := num_bd b 13;generalize num b 5 = n5 at *;generalize num b 9 = n9 at *;generalize num b 13 = n13 at *;have w5 : Hid (IntKind.i64.wrap n5 = n5) := zj (IntWalk.i64_in _ (by omega));have w9 : Hid (IntKind.i64.wrap n9 = n9) := zj (IntWalk.i64_in _ (by omega));have w13 : Hid (IntKind.i64.wrap n13 = n13) := zj (IntWalk.i64_in _ (by omega));have HE := zj (fun W (h : L7.Sizes W) => renc_any n5 n9 r l n13 W h);obtain ⟨S2,c2,he⟩ : ∃ S2 c2,enc ⟨n5,n9,r,l,n13⟩ = (S2,c2) := ⟨_,_,rfl⟩;rw [encV,he] at HE;rw [he] at hyes hno;have HYES := zj (hyes rfl);have HNO := zj (hno rfl);clear hbad hyes hno he b5 b9 b13 hr1 hr2 hroom;go_enter Tryz.func50,Tryz.ntmps50;go_wp2_with fail;refine HO.out.mono ?_;rintro e V ⟨rfl,hb⟩;have hbh := L5.below_alloc V (.cells #[.int .i64 k,.int .i64 l,.int .i64 c,.int .i64 r,.int .i64 f] 153);have HHX := zj (show L7.Bx 153 V.heap.size ⟨k,l,c,r,f⟩ (V.alloc (.cells #[.int .i64 k,.int .i64 l,.int .i64 c,.int .i64 r,.int .i64 f] 153)) from heap_alloc_new _ _);have HB1 := zj (HB.out.trans' (hb.trans' hbh));have HK1 := zj (HK.out.below (hb.trans' hbh));have HG1 := zj (HG.out.below HG.out.lt (hb.trans' hbh));obtain ⟨y0,y1,y2,y3,y4⟩ := HHX.out.cells;clear hb hbh HB HK HG HO;go_wp2_with fail;clear y0 y1 y2 y3 y4;generalize V.alloc (.cells #[.int .i64 k,.int .i64 l,.int .i64 c,.int .i64 r,.int .i64 f] 153) = W1 at *;refine (R5.out _).mono ?_;rintro e V1 ⟨rfl,rfl⟩;go_wp2_with fail;refine (R9.out _).mono ?_;rintro e V1 ⟨rfl,rfl⟩;go_wp2_with fail;refine (R13.out _).mono ?_;rintro e V1 ⟨rfl,rfl⟩;have w5 := w5.out;have w9 := w9.out;have w13 := w13.out;obtain ⟨y0,y1,y2,y3,y4⟩ := HHX.out.cells;have hbh := mbox_below 44 n5 n9 r l n13 W1;have HC := zj (mbox_new 44 n5 n9 r l n13 W1);have HB2 := zj (HB1.out.trans' hbh);have HK2 := zj (HK1.out.below hbh);have HG2 := zj (HG1.out.below HG1.out.lt hbh)
  obtain ⟨x0,x1,x2,x3,x4⟩ := HC.out.cells;simp only [mbox] at x0 x1 x2 x3 x4;clear hbh HB1 HK1 HG1 R5 R9 R13;go_wp2_with fail;clear x0 x1 x2 x3 x4 y0 y1 y2 y3 y4 HHX w5 w9 w13;refine (HE.out _ HG2.out).mono ?_;rintro e V3 ⟨rfl,hb⟩;have HKQ := zj (HK2.out.below hb);have HBQ := zj (HB2.out.trans' hb);obtain ⟨x0,x1,x2,x3,x4⟩ := (HC.out.below hb).cells;obtain ⟨u0,u1,u2,u3,u4⟩ := HKQ.out.cells;obtain ⟨f0,f1,f2,f3,f4⟩ := HKQ.out.free;clear hb HK2 HB2 HG2 HC;by_cases hc0 : c2 = 0
  ·subst hc0
   by_cases hS : S2 = s
   ·subst hS
    have hz := text_yes (rfl : S2 = S2)
    have hz2 : (S2.toList != S2.toList) = false := by simp
    have HX : Hid (decV S2 = .tuple #[mv n5 n9 r l n13,.int .i64 0]) := zj (decV_some (HYES.out rfl));go_wp2_with fail;obtain ⟨r0,r1,r2,r3,r4⟩ := (setM_box HKQ.out n5 n9 r l n13).cells;unfold setM at r0 r1 r2 r3 r4;refine bodyPost_ret (v := .tuple #[mv n5 n9 r l n13,.int .i64 0]) (by simp [results,Tryz.results50,go_sem,r0,r1,r2,r3,r4]) rfl ⟨by rw [HX.out],?_⟩;exact setM_below HBQ.out (Nat.le_refl _) n5 n9 r l n13
   ·have hz := text_no hS
    have hz2 : (S2.toList != s.toList) = true := by simp only [bne,hz];rfl
    have HX : Hid (decV s = .tuple #[mv 0 0 0 0 0,.int .i64 3]) := zj (decV_none (HNO.out (fun h => hS (congrArg Prod.fst h))));clear hS;go_wp2_with fail;obtain ⟨r0,r1,r2,r3,r4⟩ := (setM_box HKQ.out 0 0 0 0 0).cells;unfold setM at r0 r1 r2 r3 r4;refine bodyPost_ret (v := .tuple #[mv 0 0 0 0 0,.int .i64 3]) (by simp [results,Tryz.results50,go_sem,r0,r1,r2,r3,r4]) rfl ⟨by rw [HX.out],?_⟩;exact setM_below HBQ.out (Nat.le_refl _) 0 0 0 0 0
  ·have hcn : (c2 != 0) = true := by simpa using hc0
   have hce : (c2 == 0) = false := by simpa using hc0
   have HX : Hid (decV s = .tuple #[mv 0 0 0 0 0,.int .i64 3]) := zj (decV_none (HNO.out (fun h => hc0 (congrArg Prod.snd h))));clear hc0;go_wp2_with fail;obtain ⟨r0,r1,r2,r3,r4⟩ := (setM_box HKQ.out 0 0 0 0 0).cells;unfold setM at r0 r1 r2 r3 r4;refine bodyPost_ret (v := .tuple #[mv 0 0 0 0 0,.int .i64 3]) (by simp [results,Tryz.results50,go_sem,r0,r1,r2,r3,r4]) rfl ⟨by rw [HX.out],?_⟩;exact setM_below HBQ.out (Nat.le_refl _) 0 0 0 0 0
 ·have hcn : (e != 0) = true := by simpa using he
  have hce : (e == 0) = false := by simpa using he
  have HX : Hid (decV s = .tuple #[mv 0 0 0 0 0,.int .i64 3]) := zj (decV_none (hbad he));clear hbad hyes hno he hroom;go_enter Tryz.func50,Tryz.ntmps50;go_wp2_with fail;refine HO.out.mono ?_;rintro e' V ⟨rfl,hb⟩;have hb := hb.trans' (L5.below_alloc V (.cells #[.int .i64 k,.int .i64 l,.int .i64 c,.int .i64 r,.int .i64 f] 153));have HBQ := zj (HB.out.trans' hb);have HKQ := zj (HK.out.below hb);obtain ⟨u0,u1,u2,u3,u4⟩ := HKQ.out.cells;obtain ⟨f0,f1,f2,f3,f4⟩ := HKQ.out.free;clear hb;go_wp2_with fail;obtain ⟨r0,r1,r2,r3,r4⟩ := (setM_box HKQ.out 0 0 0 0 0).cells;unfold setM at r0 r1 r2 r3 r4;refine bodyPost_ret (v := .tuple #[mv 0 0 0 0 0,.int .i64 3]) (by simp [results,Tryz.results50,go_sem,r0,r1,r2,r3,r4]) rfl ⟨by rw [HX.out],?_⟩;exact setM_below HBQ.out (Nat.le_refl _) 0 0 0 0 0
end Go.Proofs.YtpeghilfldpgfaaGreatDoor.L13
namespace Go.Proofs.YtpeghilfldpgfaaGreatDoor
open Go.RowKit
theorem setG_cell {w : World} {g : Nat} {p : Addr} (h : p.block ≠ g) (k : Int) (a : LV) (b : NV) (c : CV) (m : Mv) : (setG w g k a b c m).cell? p = w.cell? p := by
 unfold World.cell?;rw [setG_heap h]
theorem lies5_kept {w w' : World} {B : Nat} {A : Option Addr} {l : List L10.NP.It} (h : L10.Lies5 w B A l) (hk : ∀ a,A = some a → ∀ p : Addr,p.block = a.block → w'.cell? p = w.cell? p) : L10.Lies5 w' B A l := fun i c hc => by
 obtain ⟨a,e,hb,hx⟩ := h i c hc;exact ⟨a,e,hb,fun j v hv => (hk a e _ (by rw [L5.addr_block,L5.addr_block])).trans (hx j v hv)⟩
theorem liesN_kept {w w' : World} {B : Nat} {A : Option Addr} {l : List Int} (h : L11.LiesN w B A l) (hk : ∀ a,A = some a → ∀ p : Addr,p.block = a.block → w'.cell? p = w.cell? p) : L11.LiesN w' B A l := fun i c hc => by
 obtain ⟨a,e,hb,hx⟩ := h i c hc;exact ⟨a,e,hb,(hk a e _ (by rw [L5.addr_block])).trans hx⟩
theorem lies_kept {w w' : World} {B : Nat} {A : Option Addr} {l : List ByteArray} (h : L5.Lies w B A l) (hk : ∀ a,A = some a → ∀ p : Addr,p.block = a.block → w'.cell? p = w.cell? p) : L5.Lies w' B A l := fun i c hc => by
 obtain ⟨a,e,hb,hx⟩ := h i c hc;exact ⟨a,e,hb,(hk a e _ (by rw [L5.addr_block])).trans hx⟩
theorem HasL.stored {w : World} {x : LV} {l : L10.NP.Lf} {g : Nat} (h : HasL w x l) (hg : ∀ p,x.A = some p → p.block ≠ g) (k : Int) (a : LV) (b : NV) (c : CV) (m : Mv) : HasL (setG w g k a b c m) x l :=
 ⟨h.f,h.r,h.h,h.n,by rw [setG_size];exact lies5_kept h.rows fun p hp q hq => setG_cell (by rw [hq];exact hg p hp) k a b c m⟩
theorem HasN.stored {w : World} {x : NV} {n : L11.IP.Inn} {g : Nat} (h : HasN w x n) (hg : ∀ p,x.A = some p → p.block ≠ g) (hs : ∀ p,x.C = some p → p.block ≠ g) (k : Int) (a : LV) (b : NV) (c : CV) (m : Mv) : HasN (setG w g k a b c m) x n :=
 ⟨h.f,h.l,h.r,h.h,⟨by rw [setG_size];exact liesN_kept h.rows.kids fun p hp q hq => setG_cell (by rw [hq];exact hg p hp) k a b c m,by rw [setG_size];exact lies_kept h.rows.seps fun p hp q hq => setG_cell (by rw [hq];exact hs p hp) k a b c m,h.rows.nk,h.rows.nm,h.rows.ck,h.rows.cm⟩⟩
abbrev lvO (a : LV) : Value := L10.lv a.F a.R a.H a.A a.n a.ca
abbrev nvO (b : NV) : Value := L11.nv b.F b.L b.R b.H b.A b.n b.ca b.C b.m b.cb
theorem pl_yes {s : ByteArray} {l : L10.NP.Lf} (h : L10.NP.dec s = some l) (W : World) (hg : L10.Glo W) (hs : s.size ≤ 1000000) :
  Calls Tryz.prog 25 #[.string s] W fun e w' => ∃ a : LV,e = .returned (.tuple #[lvO a,.int .i64 0]) ∧ HasL w' a l ∧ (∀ x,a.A = some x → W.heap.size ≤ x.block) ∧ Below W.heap.size W w' := by
 refine (L10.dec_any s W hg hs).mono ?_;rintro e w' ⟨⟨l',G,h1,rfl,h2,h3⟩ | ⟨h1,_⟩,hb⟩
 ·rw [h] at h1
  obtain rfl := Option.some.inj h1;exact ⟨⟨_,_,_,G,_,_⟩,rfl,⟨rfl,rfl,rfl,rfl,h2⟩,h3,hb⟩
 ·rw [h] at h1
  cases h1
theorem pl_no {s : ByteArray} (h : L10.NP.dec s = none) (W : World) (hg : L10.Glo W) (hs : s.size ≤ 1000000) :
  Calls Tryz.prog 25 #[.string s] W fun e w' => e = .returned (.tuple #[L10.lv 0 0 ⟨#[]⟩ none 0 0,.int .i64 3]) ∧ Below W.heap.size W w' := by
 refine (L10.dec_any s W hg hs).mono ?_;rintro e w' ⟨⟨l',G,h1,_⟩ | ⟨h1,rfl⟩,hb⟩
 ·rw [h] at h1
  cases h1
 ·exact ⟨rfl,hb⟩
theorem rl_yes {s : ByteArray} {l : L10.NP.Lf} (h : L10.NP.dec s = some l) (W : World) (hg : L10.Glo W) (hs : s.size ≤ 1000000) :
  Calls Tryz.prog 47 #[.string s] W fun e w' => ∃ a : LV,e = .returned (.tuple #[lvO a,.int .i64 0]) ∧ HasL w' a l ∧ (∀ x,a.A = some x → W.heap.size ≤ x.block) ∧ Below W.heap.size W w' := by
 refine (L10.rdec_any s W hg hs).mono ?_;rintro e w' ⟨⟨l',G,cap,h1,rfl,h2,h3⟩ | ⟨h1,_⟩,hb⟩
 ·rw [h] at h1
  obtain rfl := Option.some.inj h1;exact ⟨⟨_,_,_,G,_,cap⟩,rfl,⟨rfl,rfl,rfl,rfl,h2⟩,h3,hb⟩
 ·rw [h] at h1
  cases h1
theorem rl_no {s : ByteArray} (h : L10.NP.dec s = none) (W : World) (hg : L10.Glo W) (hs : s.size ≤ 1000000) :
  Calls Tryz.prog 47 #[.string s] W fun e w' => e = .returned (.tuple #[L10.lv 0 0 ⟨#[]⟩ none 0 0,.int .i64 3]) ∧ Below W.heap.size W w' := by
 refine (L10.rdec_any s W hg hs).mono ?_;rintro e w' ⟨⟨l',G,cap,h1,_⟩ | ⟨h1,rfl⟩,hb⟩
 ·rw [h] at h1
  cases h1
 ·exact ⟨rfl,hb⟩
theorem dn_yes {s : ByteArray} {n : L11.IP.Inn} {b : Nat} {e : Ending} {w' : World} (h : L11.IP.dec s = some n) (hd : L11.DecS s b e w') : ∃ x : NV,e = .returned (.tuple #[nvO x,.int .i64 0]) ∧ HasN w' x n ∧ (∀ p,x.A = some p → b ≤ p.block) ∧ (∀ p,x.C = some p → b ≤ p.block) := by
 rcases hd with ⟨F,L,R,H,A,k,ca,C,m,cb,ks,ss,h1,rfl,h2,h3,h4⟩ | ⟨h1,_⟩
 ·rw [h] at h1
  obtain rfl := Option.some.inj h1;exact ⟨⟨F,L,R,H,A,k,ca,C,m,cb⟩,rfl,⟨rfl,rfl,rfl,rfl,h2⟩,h3,h4⟩
 ·rw [h] at h1
  cases h1
theorem dn_no {s : ByteArray} {b : Nat} {e : Ending} {w' : World} (h : L11.IP.dec s = none) (hd : L11.DecS s b e w') : e = .returned (.tuple #[L11.nv 0 0 0 ⟨#[]⟩ none 0 0 none 0 0,.int .i64 3]) := by
 rcases hd with ⟨F,L,R,H,A,k,ca,C,m,cb,ks,ss,h1,_⟩ | ⟨h1,rfl⟩
 ·rw [h] at h1
  cases h1
 ·rfl
theorem pn_yes {s : ByteArray} {n : L11.IP.Inn} (h : L11.IP.dec s = some n) (W : World) (hg : L10.Glo W) (hs : s.size ≤ 1000000) :
  Calls Tryz.prog 26 #[.string s] W fun e w' => ∃ b : NV,e = .returned (.tuple #[nvO b,.int .i64 0]) ∧ HasN w' b n ∧ (∀ x,b.A = some x → W.heap.size ≤ x.block) ∧ (∀ x,b.C = some x → W.heap.size ≤ x.block) ∧ Below W.heap.size W w' :=
 (L11.dec_any s W hg.sizes hs).mono fun e w' ⟨hd,hb⟩ => by
  obtain ⟨x,h1,h2,h3,h4⟩ := dn_yes h hd;exact ⟨x,h1,h2,h3,h4,hb⟩
theorem pn_no {s : ByteArray} (h : L11.IP.dec s = none) (W : World) (hg : L10.Glo W) (hs : s.size ≤ 1000000) :
  Calls Tryz.prog 26 #[.string s] W fun e w' => e = .returned (.tuple #[L11.nv 0 0 0 ⟨#[]⟩ none 0 0 none 0 0,.int .i64 3]) ∧ Below W.heap.size W w' :=
 (L11.dec_any s W hg.sizes hs).mono fun e w' ⟨hd,hb⟩ => ⟨dn_no h hd,hb⟩
theorem rn_yes {s : ByteArray} {n : L11.IP.Inn} (h : L11.IP.dec s = some n) (W : World) (hg : L10.Glo W) (hs : s.size ≤ 1000000) :
  Calls Tryz.prog 48 #[.string s] W fun e w' => ∃ b : NV,e = .returned (.tuple #[nvO b,.int .i64 0]) ∧ HasN w' b n ∧ (∀ x,b.A = some x → W.heap.size ≤ x.block) ∧ (∀ x,b.C = some x → W.heap.size ≤ x.block) ∧ Below W.heap.size W w' :=
 (L11.rdec_any s W hg.sizes hs).mono fun e w' ⟨hd,hb⟩ => by
  obtain ⟨x,h1,h2,h3,h4⟩ := dn_yes h hd;exact ⟨x,h1,h2,h3,h4,hb⟩
theorem rn_no {s : ByteArray} (h : L11.IP.dec s = none) (W : World) (hg : L10.Glo W) (hs : s.size ≤ 1000000) :
  Calls Tryz.prog 48 #[.string s] W fun e w' => e = .returned (.tuple #[L11.nv 0 0 0 ⟨#[]⟩ none 0 0 none 0 0,.int .i64 3]) ∧ Below W.heap.size W w' :=
 (L11.rdec_any s W hg.sizes hs).mono fun e w' ⟨hd,hb⟩ => ⟨dn_no h hd,hb⟩
theorem pc_tell {s : ByteArray} {v : Value} (h : L12.decV s = v) (W : World) (hg : L10.Glo W) (hs : s.size ≤ 1000000) :
  Calls Tryz.prog 27 #[.string s] W fun e w' => e = .returned v ∧ Below W.heap.size W w' := by
 subst h;exact L12.dec_any s W hg.sizes (by unfold maxLen;omega)
theorem rc_tell {s : ByteArray} {v : Value} (h : L12.decV s = v) (W : World) (hg : L10.Glo W) (hs : s.size ≤ 1000000) :
  Calls Tryz.prog 49 #[.string s] W fun e w' => e = .returned v ∧ Below W.heap.size W w' := by
 subst h;exact L12.rdec_any s W hg.sizes (by unfold maxLen;omega)
theorem pm_tell {s : ByteArray} {v : Value} (h : L13.decV s = v) (W : World) (hg : L10.Glo W) (hs : s.size ≤ 1000000) :
  Calls Tryz.prog 28 #[.string s] W fun e w' => e = .returned v ∧ Below W.heap.size W w' := by
 subst h;exact L13.dec_any s W hg.sizes (by unfold maxLen;omega)
theorem rm_tell {s : ByteArray} {v : Value} (h : L13.decV s = v) (W : World) (hg : L10.Glo W) (hs : s.size ≤ 1000000) :
  Calls Tryz.prog 50 #[.string s] W fun e w' => e = .returned v ∧ Below W.heap.size W w' := by
 subst h;exact L13.rdec_any s W hg.sizes (by unfold maxLen;omega)
def Own (B : Nat) (a : LV) (b : NV) : Prop := (∀ p,a.A = some p → B ≤ p.block) ∧ (∀ p,b.A = some p → B ≤ p.block) ∧ (∀ p,b.C = some p → B ≤ p.block)
def DecG (s : ByteArray) (B : Nat) (e : Ending) (w' : World) : Prop :=
 (∃ k a b c m x,GP.dec s = some x ∧ e = .returned (.tuple #[gv k a b c m,.int .i64 0]) ∧ HasG w' k a b c m x ∧ Own B a b) ∨
 (GP.dec s = none ∧ e = .returned (.tuple #[gv 0 LV0 NV0 CV0 Mv0,.int .i64 3]))
theorem own_l0 {B : Nat} {b : NV} (h : ∀ p,b.A = some p → B ≤ p.block) (h2 : ∀ p,b.C = some p → B ≤ p.block) : Own B LV0 b := ⟨(fun p hp => by cases hp),h,h2⟩
theorem own_n0 {B : Nat} {a : LV} (h : ∀ p,a.A = some p → B ≤ p.block) : Own B a NV0 := ⟨h,(fun p hp => by cases hp),(fun p hp => by cases hp)⟩
theorem rgdec_l (s : ByteArray) (w : World) (hg : L10.Glo w) (hs : s.size ≤ 1000000) {l : L10.NP.Lf} (h1 : L10.NP.dec s = some l) (h5 : GP.dec s = some (GP.ofL l)) :
  Calls Tryz.prog 18 #[.string s] w fun e w' => DecG s w.heap.size e w' ∧ Below w.heap.size w w' := by
 have hb0 := gbox_below 46 0 LV0 NV0 CV0 Mv0 w;have HK := zj (gbox_new 46 0 LV0 NV0 CV0 Mv0 w);have HB := zj hb0;have HG := zj (hg.on hb0);clear hb0 hg;generalize hw0 : gbox 46 0 LV0 NV0 CV0 Mv0 w = W0 at *;have hw1 : w.alloc (.cells #[.int .i64 0,.int .i64 0,.int .i64 0,.string ⟨#[]⟩,.slice none 0 0,.int .i64 0,.int .i64 0,.int .i64 0,.string ⟨#[]⟩,.slice none 0 0,.slice none 0 0,.int .i64 0,.int .i64 0,.string ⟨#[]⟩,.int .i64 0,.int .i64 0,.int .i64 0,.int .i64 0,.int .i64 0] 46) = W0 := hw0;clear hw0;have HD := zj h5;have Hl := zj (fun W (h : L10.Glo W) => rl_yes h1 W h hs);clear h1 h5 hs;go_enter Tryz.func18,Tryz.ntmps18;go_wp2_with fail;refine (Hl.out _ HG.out).mono ?_;rintro e V ⟨a,rfl,hl,ho,hb⟩;have hba := L5.below_alloc V (.cells #[.int .i64 a.F,.int .i64 a.R,.string a.H,.slice a.A a.n a.ca] 41);have HX : Hid (L10.LBx 41 V.heap.size a.F a.R a.H a.A a.n a.ca (V.alloc (.cells #[.int .i64 a.F,.int .i64 a.R,.string a.H,.slice a.A a.n a.ca] 41))) := zj (heap_alloc_new _ _);have HL := zj (hl.on hba);have HO : Hid (∀ p,a.A = some p → w.heap.size < p.block) := zj (fun p hp => by have h1 := ho p hp;have h2 := HK.out.lt;omega);clear hl ho;replace HB := zj (HB.out.trans' (hb.trans' hba));replace HK := zj (HK.out.below (hb.trans' hba));clear hb hba;obtain ⟨x0,x1,x2,x3⟩ := HX.out.cells;go_wp2_with (with_reducible refine store_page Tryz.sizeGD rfl _ _ rfl w.heap.size 2 a NV0 CV0 Mv0 rfl rfl HK.out ?_);have HKF := zj (setG_box HK.out 2 a NV0 CV0 Mv0);have HBF := zj (setG_below HB.out (Nat.le_refl _) 2 a NV0 CV0 Mv0);have HOF : Hid (Own w.heap.size a NV0) := zj (own_n0 (fun p hp => Nat.le_of_lt (HO.out p hp)));have HLF : Hid (HasG (setG (V.alloc (.cells #[.int .i64 a.F,.int .i64 a.R,.string a.H,.slice a.A a.n a.ca] 41)) w.heap.size 2 a NV0 CV0 Mv0) 2 a NV0 CV0 Mv0 (GP.ofL l)) := zj ⟨rfl,HL.out.stored (fun p hp => Nat.ne_of_gt (HO.out p hp)) 2 a NV0 CV0 Mv0,hasN0 _,rfl,rfl⟩;change bodyPost _ _ _ _ _ (setG (V.alloc (.cells #[.int .i64 a.F,.int .i64 a.R,.string a.H,.slice a.A a.n a.ca] 41)) w.heap.size 2 a NV0 CV0 Mv0);generalize setG (V.alloc (.cells #[.int .i64 a.F,.int .i64 a.R,.string a.H,.slice a.A a.n a.ca] 41)) w.heap.size 2 a NV0 CV0 Mv0 = WF at *;exact bodyPost_ret (v := .tuple #[gv 2 a NV0 CV0 Mv0,.int .i64 0]) (results_two Tryz.results18 rfl (load_pageD HKF.out)) rfl ⟨.inl ⟨_,_,_,_,_,_,HD.out,rfl,HLF.out,HOF.out⟩,HBF.out⟩
theorem rgdec_n (s : ByteArray) (w : World) (hg : L10.Glo w) (hs : s.size ≤ 1000000) {n : L11.IP.Inn} (h1 : L10.NP.dec s = none) (h2 : L11.IP.dec s = some n) (h5 : GP.dec s = some (GP.ofN n)) :
  Calls Tryz.prog 18 #[.string s] w fun e w' => DecG s w.heap.size e w' ∧ Below w.heap.size w w' := by
 have hb0 := gbox_below 46 0 LV0 NV0 CV0 Mv0 w;have HK := zj (gbox_new 46 0 LV0 NV0 CV0 Mv0 w);have HB := zj hb0;have HG := zj (hg.on hb0);clear hb0 hg;generalize hw0 : gbox 46 0 LV0 NV0 CV0 Mv0 w = W0 at *;have hw1 : w.alloc (.cells #[.int .i64 0,.int .i64 0,.int .i64 0,.string ⟨#[]⟩,.slice none 0 0,.int .i64 0,.int .i64 0,.int .i64 0,.string ⟨#[]⟩,.slice none 0 0,.slice none 0 0,.int .i64 0,.int .i64 0,.string ⟨#[]⟩,.int .i64 0,.int .i64 0,.int .i64 0,.int .i64 0,.int .i64 0] 46) = W0 := hw0;clear hw0;have HD := zj h5;have Hl := zj (fun W (h : L10.Glo W) => rl_no h1 W h hs);have Hn := zj (fun W (h : L10.Glo W) => rn_yes h2 W h hs);clear h1 h2 h5 hs;go_enter Tryz.func18,Tryz.ntmps18;go_wp2_with fail;refine (Hl.out _ HG.out).mono ?_;rintro e V ⟨rfl,hb⟩;have hb := hb.trans' (L5.below_alloc V (.cells #[.int .i64 0,.int .i64 0,.string ⟨#[]⟩,.slice none 0 0] 41));replace HB := zj (HB.out.trans' hb);replace HK := zj (HK.out.below hb);replace HG := zj (HG.out.on hb);clear hb;go_wp2_with fail;generalize V.alloc (.cells #[.int .i64 0,.int .i64 0,.string ⟨#[]⟩,.slice none 0 0] 41) = V' at *;refine (Hn.out _ HG.out).mono ?_;rintro e V ⟨b,rfl,hn,ho,ho2,hb⟩;have hba := L5.below_alloc V (.cells #[.int .i64 b.F,.int .i64 b.L,.int .i64 b.R,.string b.H,.slice b.A b.n b.ca,.slice b.C b.m b.cb] 42);have HX : Hid (L11.NBx 42 V.heap.size b.F b.L b.R b.H b.A b.n b.ca b.C b.m b.cb (V.alloc (.cells #[.int .i64 b.F,.int .i64 b.L,.int .i64 b.R,.string b.H,.slice b.A b.n b.ca,.slice b.C b.m b.cb] 42))) := zj (heap_alloc_new _ _);have HL := zj (hn.on hba);have HO : Hid (∀ p,b.A = some p → w.heap.size < p.block) := zj (fun p hp => by have h1 := ho p hp;have h2 := HK.out.lt;omega);have HO2 : Hid (∀ p,b.C = some p → w.heap.size < p.block) := zj (fun p hp => by have h1 := ho2 p hp;have h2 := HK.out.lt;omega);clear hn ho ho2;replace HB := zj (HB.out.trans' (hb.trans' hba));replace HK := zj (HK.out.below (hb.trans' hba));clear hb hba;obtain ⟨x0,x1,x2,x3,x4,x5⟩ := HX.out.cells;go_wp2_with (with_reducible refine store_page Tryz.sizeGD rfl _ _ rfl w.heap.size 3 LV0 b CV0 Mv0 rfl rfl HK.out ?_);have HKF := zj (setG_box HK.out 3 LV0 b CV0 Mv0);have HBF := zj (setG_below HB.out (Nat.le_refl _) 3 LV0 b CV0 Mv0);have HOF : Hid (Own w.heap.size LV0 b) := zj (own_l0 (fun p hp => Nat.le_of_lt (HO.out p hp)) (fun p hp => Nat.le_of_lt (HO2.out p hp)));have HLF : Hid (HasG (setG (V.alloc (.cells #[.int .i64 b.F,.int .i64 b.L,.int .i64 b.R,.string b.H,.slice b.A b.n b.ca,.slice b.C b.m b.cb] 42)) w.heap.size 3 LV0 b CV0 Mv0) 3 LV0 b CV0 Mv0 (GP.ofN n)) := zj ⟨rfl,hasL0 _,HL.out.stored (fun p hp => Nat.ne_of_gt (HO.out p hp)) (fun p hp => Nat.ne_of_gt (HO2.out p hp)) 3 LV0 b CV0 Mv0,rfl,rfl⟩
 change bodyPost _ _ _ _ _ (setG (V.alloc (.cells #[.int .i64 b.F,.int .i64 b.L,.int .i64 b.R,.string b.H,.slice b.A b.n b.ca,.slice b.C b.m b.cb] 42)) w.heap.size 3 LV0 b CV0 Mv0);generalize setG (V.alloc (.cells #[.int .i64 b.F,.int .i64 b.L,.int .i64 b.R,.string b.H,.slice b.A b.n b.ca,.slice b.C b.m b.cb] 42)) w.heap.size 3 LV0 b CV0 Mv0 = WF at *;exact bodyPost_ret (v := .tuple #[gv 3 LV0 b CV0 Mv0,.int .i64 0]) (results_two Tryz.results18 rfl (load_pageD HKF.out)) rfl ⟨.inl ⟨_,_,_,_,_,_,HD.out,rfl,HLF.out,HOF.out⟩,HBF.out⟩
theorem rgdec_c (s : ByteArray) (w : World) (hg : L10.Glo w) (hs : s.size ≤ 1000000) {F N : Int} {D : ByteArray} (h1 : L10.NP.dec s = none) (h2 : L11.IP.dec s = none) (h3 : L12.CP.dec s = some (F,N,D)) (h5 : GP.dec s = some (GP.ofC (F,N,D))) :
  Calls Tryz.prog 18 #[.string s] w fun e w' => DecG s w.heap.size e w' ∧ Below w.heap.size w w' := by
 have hb0 := gbox_below 46 0 LV0 NV0 CV0 Mv0 w;have HK := zj (gbox_new 46 0 LV0 NV0 CV0 Mv0 w);have HB := zj hb0;have HG := zj (hg.on hb0);clear hb0 hg;generalize hw0 : gbox 46 0 LV0 NV0 CV0 Mv0 w = W0 at *;have hw1 : w.alloc (.cells #[.int .i64 0,.int .i64 0,.int .i64 0,.string ⟨#[]⟩,.slice none 0 0,.int .i64 0,.int .i64 0,.int .i64 0,.string ⟨#[]⟩,.slice none 0 0,.slice none 0 0,.int .i64 0,.int .i64 0,.string ⟨#[]⟩,.int .i64 0,.int .i64 0,.int .i64 0,.int .i64 0,.int .i64 0] 46) = W0 := hw0;clear hw0;have HD := zj h5;have Hl := zj (fun W (h : L10.Glo W) => rl_no h1 W h hs);have Hn := zj (fun W (h : L10.Glo W) => rn_no h2 W h hs);have Hc := zj (fun W (h : L10.Glo W) => rc_tell (L12.decV_some h3) W h hs);clear h1 h2 h3 h5 hs;go_enter Tryz.func18,Tryz.ntmps18;go_wp2_with fail;refine (Hl.out _ HG.out).mono ?_;rintro e V ⟨rfl,hb⟩;have hb := hb.trans' (L5.below_alloc V (.cells #[.int .i64 0,.int .i64 0,.string ⟨#[]⟩,.slice none 0 0] 41));replace HB := zj (HB.out.trans' hb);replace HK := zj (HK.out.below hb);replace HG := zj (HG.out.on hb);clear hb;go_wp2_with fail;generalize V.alloc (.cells #[.int .i64 0,.int .i64 0,.string ⟨#[]⟩,.slice none 0 0] 41) = V' at *;refine (Hn.out _ HG.out).mono ?_;rintro e V ⟨rfl,hb⟩;have hb := hb.trans' (L5.below_alloc V (.cells #[.int .i64 0,.int .i64 0,.int .i64 0,.string ⟨#[]⟩,.slice none 0 0,.slice none 0 0] 42));replace HB := zj (HB.out.trans' hb);replace HK := zj (HK.out.below hb);replace HG := zj (HG.out.on hb);clear hb;go_wp2_with fail;generalize V.alloc (.cells #[.int .i64 0,.int .i64 0,.int .i64 0,.string ⟨#[]⟩,.slice none 0 0,.slice none 0 0] 42) = V' at *;refine (Hc.out _ HG.out).mono ?_;rintro e V ⟨rfl,hb⟩;have hba := L5.below_alloc V (.cells #[.int .i64 F,.int .i64 N,.string D] 43);have HX : Hid (L12.Cx 43 V.heap.size F N D (V.alloc (.cells #[.int .i64 F,.int .i64 N,.string D] 43))) := zj (heap_alloc_new _ _);replace HB := zj (HB.out.trans' (hb.trans' hba));replace HK := zj (HK.out.below (hb.trans' hba));clear hb hba;obtain ⟨x0,x1,x2⟩ := HX.out.cells;go_wp2_with (with_reducible refine store_page Tryz.sizeGD rfl _ _ rfl w.heap.size 4 LV0 NV0 ⟨F,N,D⟩ Mv0 rfl rfl HK.out ?_);have HKF := zj (setG_box HK.out 4 LV0 NV0 ⟨F,N,D⟩ Mv0);have HBF := zj (setG_below HB.out (Nat.le_refl _) 4 LV0 NV0 ⟨F,N,D⟩ Mv0);have HOF : Hid (Own w.heap.size LV0 NV0) := zj (own_n0 (fun p hp => by cases hp));have HLF : Hid (HasG (setG (V.alloc (.cells #[.int .i64 F,.int .i64 N,.string D] 43)) w.heap.size 4 LV0 NV0 ⟨F,N,D⟩ Mv0) 4 LV0 NV0 ⟨F,N,D⟩ Mv0 (GP.ofC (F,N,D))) := zj ⟨rfl,hasL0 _,hasN0 _,rfl,rfl⟩
 change bodyPost _ _ _ _ _ (setG (V.alloc (.cells #[.int .i64 F,.int .i64 N,.string D] 43)) w.heap.size 4 LV0 NV0 ⟨F,N,D⟩ Mv0);generalize setG (V.alloc (.cells #[.int .i64 F,.int .i64 N,.string D] 43)) w.heap.size 4 LV0 NV0 ⟨F,N,D⟩ Mv0 = WF at *;exact bodyPost_ret (v := .tuple #[gv 4 LV0 NV0 ⟨F,N,D⟩ Mv0,.int .i64 0]) (results_two Tryz.results18 rfl (load_pageD HKF.out)) rfl ⟨.inl ⟨_,_,_,_,_,_,HD.out,rfl,HLF.out,HOF.out⟩,HBF.out⟩
theorem rgdec_m (s : ByteArray) (w : World) (hg : L10.Glo w) (hs : s.size ≤ 1000000) {x : L13.MP.Mt} (h1 : L10.NP.dec s = none) (h2 : L11.IP.dec s = none) (h3 : L12.CP.dec s = none) (h4 : L13.MP.dec s = some x) (h5 : GP.dec s = some (GP.ofM x)) :
  Calls Tryz.prog 18 #[.string s] w fun e w' => DecG s w.heap.size e w' ∧ Below w.heap.size w w' := by
 have hb0 := gbox_below 46 0 LV0 NV0 CV0 Mv0 w;have HK := zj (gbox_new 46 0 LV0 NV0 CV0 Mv0 w);have HB := zj hb0;have HG := zj (hg.on hb0);clear hb0 hg;generalize hw0 : gbox 46 0 LV0 NV0 CV0 Mv0 w = W0 at *;have hw1 : w.alloc (.cells #[.int .i64 0,.int .i64 0,.int .i64 0,.string ⟨#[]⟩,.slice none 0 0,.int .i64 0,.int .i64 0,.int .i64 0,.string ⟨#[]⟩,.slice none 0 0,.slice none 0 0,.int .i64 0,.int .i64 0,.string ⟨#[]⟩,.int .i64 0,.int .i64 0,.int .i64 0,.int .i64 0,.int .i64 0] 46) = W0 := hw0;clear hw0;have HD := zj h5;have Hl := zj (fun W (h : L10.Glo W) => rl_no h1 W h hs);have Hn := zj (fun W (h : L10.Glo W) => rn_no h2 W h hs);have Hc := zj (fun W (h : L10.Glo W) => rc_tell (L12.decV_none h3) W h hs);have Hm := zj (fun W (h : L10.Glo W) => rm_tell (L13.decV_some h4) W h hs);clear h1 h2 h3 h4 h5 hs;go_enter Tryz.func18,Tryz.ntmps18;go_wp2_with fail;refine (Hl.out _ HG.out).mono ?_;rintro e V ⟨rfl,hb⟩;have hb := hb.trans' (L5.below_alloc V (.cells #[.int .i64 0,.int .i64 0,.string ⟨#[]⟩,.slice none 0 0] 41));replace HB := zj (HB.out.trans' hb);replace HK := zj (HK.out.below hb);replace HG := zj (HG.out.on hb);clear hb;go_wp2_with fail;generalize V.alloc (.cells #[.int .i64 0,.int .i64 0,.string ⟨#[]⟩,.slice none 0 0] 41) = V' at *;refine (Hn.out _ HG.out).mono ?_;rintro e V ⟨rfl,hb⟩;have hb := hb.trans' (L5.below_alloc V (.cells #[.int .i64 0,.int .i64 0,.int .i64 0,.string ⟨#[]⟩,.slice none 0 0,.slice none 0 0] 42));replace HB := zj (HB.out.trans' hb);replace HK := zj (HK.out.below hb);replace HG := zj (HG.out.on hb);clear hb;go_wp2_with fail;generalize V.alloc (.cells #[.int .i64 0,.int .i64 0,.int .i64 0,.string ⟨#[]⟩,.slice none 0 0,.slice none 0 0] 42) = V' at *;refine (Hc.out _ HG.out).mono ?_;rintro e V ⟨rfl,hb⟩;have hb := hb.trans' (L5.below_alloc V (.cells #[.int .i64 0,.int .i64 0,.string ⟨#[]⟩] 43));replace HB := zj (HB.out.trans' hb);replace HK := zj (HK.out.below hb);replace HG := zj (HG.out.on hb);clear hb;go_wp2_with fail;generalize V.alloc (.cells #[.int .i64 0,.int .i64 0,.string ⟨#[]⟩] 43) = V' at *;refine (Hm.out _ HG.out).mono ?_;rintro e V ⟨rfl,hb⟩;have hba := L5.below_alloc V (.cells #[.int .i64 x.p,.int .i64 x.pg,.int .i64 x.r,.int .i64 x.l,.int .i64 x.n] 44);have HX : Hid (L13.Mx 44 V.heap.size x.p x.pg x.r x.l x.n (V.alloc (.cells #[.int .i64 x.p,.int .i64 x.pg,.int .i64 x.r,.int .i64 x.l,.int .i64 x.n] 44))) := zj (heap_alloc_new _ _);replace HB := zj (HB.out.trans' (hb.trans' hba));replace HK := zj (HK.out.below (hb.trans' hba));clear hb hba
 obtain ⟨x0,x1,x2,x3,x4⟩ := HX.out.cells;go_wp2_with (with_reducible refine store_page Tryz.sizeGD rfl _ _ rfl w.heap.size 1 LV0 NV0 CV0 x rfl rfl HK.out ?_);have HKF := zj (setG_box HK.out 1 LV0 NV0 CV0 x);have HBF := zj (setG_below HB.out (Nat.le_refl _) 1 LV0 NV0 CV0 x);have HOF : Hid (Own w.heap.size LV0 NV0) := zj (own_n0 (fun p hp => by cases hp));have HLF : Hid (HasG (setG (V.alloc (.cells #[.int .i64 x.p,.int .i64 x.pg,.int .i64 x.r,.int .i64 x.l,.int .i64 x.n] 44)) w.heap.size 1 LV0 NV0 CV0 x) 1 LV0 NV0 CV0 x (GP.ofM x)) := zj ⟨rfl,hasL0 _,hasN0 _,rfl,rfl⟩;change bodyPost _ _ _ _ _ (setG (V.alloc (.cells #[.int .i64 x.p,.int .i64 x.pg,.int .i64 x.r,.int .i64 x.l,.int .i64 x.n] 44)) w.heap.size 1 LV0 NV0 CV0 x);generalize setG (V.alloc (.cells #[.int .i64 x.p,.int .i64 x.pg,.int .i64 x.r,.int .i64 x.l,.int .i64 x.n] 44)) w.heap.size 1 LV0 NV0 CV0 x = WF at *;exact bodyPost_ret (v := .tuple #[gv 1 LV0 NV0 CV0 x,.int .i64 0]) (results_two Tryz.results18 rfl (load_pageD HKF.out)) rfl ⟨.inl ⟨_,_,_,_,_,_,HD.out,rfl,HLF.out,HOF.out⟩,HBF.out⟩
theorem rgdec_0 (s : ByteArray) (w : World) (hg : L10.Glo w) (hs : s.size ≤ 1000000) (h1 : L10.NP.dec s = none) (h2 : L11.IP.dec s = none) (h3 : L12.CP.dec s = none) (h4 : L13.MP.dec s = none) (h5 : GP.dec s = none) :
  Calls Tryz.prog 18 #[.string s] w fun e w' => DecG s w.heap.size e w' ∧ Below w.heap.size w w' := by
 have hb0 := gbox_below 46 0 LV0 NV0 CV0 Mv0 w;have HK := zj (gbox_new 46 0 LV0 NV0 CV0 Mv0 w);have HB := zj hb0;have HG := zj (hg.on hb0);clear hb0 hg;generalize hw0 : gbox 46 0 LV0 NV0 CV0 Mv0 w = W0 at *;have hw1 : w.alloc (.cells #[.int .i64 0,.int .i64 0,.int .i64 0,.string ⟨#[]⟩,.slice none 0 0,.int .i64 0,.int .i64 0,.int .i64 0,.string ⟨#[]⟩,.slice none 0 0,.slice none 0 0,.int .i64 0,.int .i64 0,.string ⟨#[]⟩,.int .i64 0,.int .i64 0,.int .i64 0,.int .i64 0,.int .i64 0] 46) = W0 := hw0;clear hw0;have HD := zj h5;have Hl := zj (fun W (h : L10.Glo W) => rl_no h1 W h hs);have Hn := zj (fun W (h : L10.Glo W) => rn_no h2 W h hs);have Hc := zj (fun W (h : L10.Glo W) => rc_tell (L12.decV_none h3) W h hs);have Hm := zj (fun W (h : L10.Glo W) => rm_tell (L13.decV_none h4) W h hs);clear h1 h2 h3 h4 h5 hs;go_enter Tryz.func18,Tryz.ntmps18;go_wp2_with fail;refine (Hl.out _ HG.out).mono ?_;rintro e V ⟨rfl,hb⟩;have hb := hb.trans' (L5.below_alloc V (.cells #[.int .i64 0,.int .i64 0,.string ⟨#[]⟩,.slice none 0 0] 41));replace HB := zj (HB.out.trans' hb);replace HK := zj (HK.out.below hb);replace HG := zj (HG.out.on hb);clear hb;go_wp2_with fail;generalize V.alloc (.cells #[.int .i64 0,.int .i64 0,.string ⟨#[]⟩,.slice none 0 0] 41) = V' at *;refine (Hn.out _ HG.out).mono ?_;rintro e V ⟨rfl,hb⟩;have hb := hb.trans' (L5.below_alloc V (.cells #[.int .i64 0,.int .i64 0,.int .i64 0,.string ⟨#[]⟩,.slice none 0 0,.slice none 0 0] 42));replace HB := zj (HB.out.trans' hb);replace HK := zj (HK.out.below hb);replace HG := zj (HG.out.on hb);clear hb;go_wp2_with fail;generalize V.alloc (.cells #[.int .i64 0,.int .i64 0,.int .i64 0,.string ⟨#[]⟩,.slice none 0 0,.slice none 0 0] 42) = V' at *;refine (Hc.out _ HG.out).mono ?_;rintro e V ⟨rfl,hb⟩;have hb := hb.trans' (L5.below_alloc V (.cells #[.int .i64 0,.int .i64 0,.string ⟨#[]⟩] 43));replace HB := zj (HB.out.trans' hb);replace HK := zj (HK.out.below hb);replace HG := zj (HG.out.on hb);clear hb;go_wp2_with fail;generalize V.alloc (.cells #[.int .i64 0,.int .i64 0,.string ⟨#[]⟩] 43) = V' at *;refine (Hm.out _ HG.out).mono ?_;rintro e V ⟨rfl,hb⟩;have hb := hb.trans' (L5.below_alloc V (.cells #[.int .i64 0,.int .i64 0,.int .i64 0,.int .i64 0,.int .i64 0] 44));replace HB := zj (HB.out.trans' hb);replace HK := zj (HK.out.below hb);replace HG := zj (HG.out.on hb);clear hb;go_wp2_with (with_reducible refine store_page Tryz.sizeGD rfl _ _ rfl w.heap.size 0 LV0 NV0 CV0 Mv0 rfl rfl HK.out ?_);have HKF := zj (setG_box HK.out 0 LV0 NV0 CV0 Mv0);have HBF := zj (setG_below HB.out (Nat.le_refl _) 0 LV0 NV0 CV0 Mv0)
 change bodyPost _ _ _ _ _ (setG (V.alloc (.cells #[.int .i64 0,.int .i64 0,.int .i64 0,.int .i64 0,.int .i64 0] 44)) w.heap.size 0 LV0 NV0 CV0 Mv0);generalize setG (V.alloc (.cells #[.int .i64 0,.int .i64 0,.int .i64 0,.int .i64 0,.int .i64 0] 44)) w.heap.size 0 LV0 NV0 CV0 Mv0 = WF at *;exact bodyPost_ret (v := .tuple #[gv 0 LV0 NV0 CV0 Mv0,.int .i64 3]) (results_two Tryz.results18 rfl (load_pageD HKF.out)) rfl ⟨.inr ⟨HD.out,rfl⟩,HBF.out⟩
theorem rgdec_any (s : ByteArray) (w : World) (hg : L10.Glo w) (hs : s.size ≤ 1000000) :
  Calls Tryz.prog 18 #[.string s] w fun e w' => DecG s w.heap.size e w' ∧ Below w.heap.size w w' := by
 rcases GP.dec_cases s with ⟨l,h1,h2,h3,h4,h5⟩ | ⟨n,h1,h2,h3,h4,h5⟩ | ⟨⟨F,N,D⟩,h1,h2,h3,h4,h5⟩ | ⟨x,h1,h2,h3,h4,h5⟩ | ⟨h1,h2,h3,h4,h5⟩
 ·exact rgdec_l s w hg hs h1 h5
 ·exact rgdec_n s w hg hs h1 h2 h5
 ·exact rgdec_c s w hg hs h1 h2 h3 h5
 ·exact rgdec_m s w hg hs h1 h2 h3 h4 h5
 ·exact rgdec_0 s w hg hs h1 h2 h3 h4 h5
def selfV (k : Int) (a : LV) (b : NV) (c : CV) : Int := if k = 2 then a.F else if k = 3 then b.F else if k = 4 then c.F else 0
def rightV (k : Int) (a : LV) (b : NV) (c : CV) (m : Mv) : Int := if k = 1 then m.r else if k = 2 then a.R else if k = 3 then b.R else if k = 4 then c.N else 0
theorem selfV_of {w : World} {k : Int} {a : LV} {b : NV} {c : CV} {m : Mv} {x : GP.Pg} (h : HasG w k a b c m x) : selfV k a b c = GP.self x := by
 unfold selfV GP.self;rw [h.kind,h.l.f,h.n.f,← h.c]
theorem rightV_of {w : World} {k : Int} {a : LV} {b : NV} {c : CV} {m : Mv} {x : GP.Pg} (h : HasG w k a b c m x) : rightV k a b c m = GP.right x := by
 unfold rightV GP.right;rw [h.kind,h.l.r,h.n.r,← h.c,h.m]
theorem selfV_cases (k : Int) (a : LV) (b : NV) (c : CV) : (k = 2 ∧ selfV k a b c = a.F) ∨ (k = 3 ∧ selfV k a b c = b.F) ∨ (k = 4 ∧ selfV k a b c = c.F) ∨ ((k == 2) = false ∧ (k == 3) = false ∧ (k == 4) = false ∧ selfV k a b c = 0) := by
 unfold selfV;by_cases h2 : k = 2
 ·exact .inl ⟨h2,by rw [if_pos h2]⟩
 ·by_cases h3 : k = 3
  ·exact .inr (.inl ⟨h3,by rw [if_neg h2,if_pos h3]⟩)
  ·by_cases h4 : k = 4
   ·exact .inr (.inr (.inl ⟨h4,by rw [if_neg h2,if_neg h3,if_pos h4]⟩))
   ·exact .inr (.inr (.inr ⟨by simpa using h2,by simpa using h3,by simpa using h4,by rw [if_neg h2,if_neg h3,if_neg h4]⟩))
theorem rself_any (k : Int) (a : LV) (b : NV) (c : CV) (m : Mv) (w : World) :
  Calls Tryz.prog 20 #[gv k a b c m] w fun e w' => e = .returned (.int .i64 (selfV k a b c)) ∧ Below w.heap.size w w' := by
 have HB := zj (gbox_below 46 k a b c m w);have HK := gbox_new 46 k a b c m w;obtain ⟨u0,u1,-,-,-,u5,-,-,-,-,-,u11,-,-,-,-,-,-,-⟩ := HK.cells;clear HK;obtain ⟨v,hv⟩ : ∃ v,selfV k a b c = v := ⟨_,rfl⟩;have hcs := selfV_cases k a b c;rw [hv] at hcs ⊢;clear hv;rcases hcs with ⟨rfl,h⟩ | ⟨rfl,h⟩ | ⟨rfl,h⟩ | ⟨h2,h3,h4,h⟩
 all_goals
  subst h;go_enter Tryz.func20,Tryz.ntmps20;go_wp2_with fail;go_ret;exact ⟨rfl,HB.out⟩
theorem rightV_cases (k : Int) (a : LV) (b : NV) (c : CV) (m : Mv) : (k = 1 ∧ rightV k a b c m = m.r) ∨ (k = 2 ∧ rightV k a b c m = a.R) ∨ (k = 3 ∧ rightV k a b c m = b.R) ∨ (k = 4 ∧ rightV k a b c m = c.N) ∨ ((k == 1) = false ∧ (k == 2) = false ∧ (k == 3) = false ∧ (k == 4) = false ∧ rightV k a b c m = 0) := by
 unfold rightV;by_cases h1 : k = 1
 ·exact .inl ⟨h1,by rw [if_pos h1]⟩
 ·by_cases h2 : k = 2
  ·exact .inr (.inl ⟨h2,by rw [if_neg h1,if_pos h2]⟩)
  ·by_cases h3 : k = 3
   ·exact .inr (.inr (.inl ⟨h3,by rw [if_neg h1,if_neg h2,if_pos h3]⟩))
   ·by_cases h4 : k = 4
    ·exact .inr (.inr (.inr (.inl ⟨h4,by rw [if_neg h1,if_neg h2,if_neg h3,if_pos h4]⟩)))
    ·exact .inr (.inr (.inr (.inr ⟨by simpa using h1,by simpa using h2,by simpa using h3,by simpa using h4,by rw [if_neg h1,if_neg h2,if_neg h3,if_neg h4]⟩)))
theorem rright_any (k : Int) (a : LV) (b : NV) (c : CV) (m : Mv) (w : World) :
  Calls Tryz.prog 22 #[gv k a b c m] w fun e w' => e = .returned (.int .i64 (rightV k a b c m)) ∧ Below w.heap.size w w' := by
 have HB := zj (gbox_below 46 k a b c m w);have HK := gbox_new 46 k a b c m w;obtain ⟨u0,-,u2,-,-,-,-,u7,-,-,-,-,u12,-,-,-,u16,-,-⟩ := HK.cells;clear HK;obtain ⟨v,hv⟩ : ∃ v,rightV k a b c m = v := ⟨_,rfl⟩;have hcs := rightV_cases k a b c m;rw [hv] at hcs ⊢;clear hv;rcases hcs with ⟨rfl,h⟩ | ⟨rfl,h⟩ | ⟨rfl,h⟩ | ⟨rfl,h⟩ | ⟨h1,h2,h3,h4,h⟩
 all_goals
  subst h;go_enter Tryz.func22,Tryz.ntmps22;go_wp2_with fail;go_ret;exact ⟨rfl,HB.out⟩
def AtG (l : List ByteArray) (i : Int) (B : Nat) (e : Ending) (w' : World) : Prop :=
 (∃ k a b c m x,GP.at_ l i = .ok x ∧ e = .returned (.tuple #[gv k a b c m,.int .i64 0]) ∧ HasG w' k a b c m x ∧ Own B a b) ∨
 (∃ r,GP.at_ l i = .error r ∧ (r = 3 ∨ r = 4) ∧ e = .returned (.tuple #[gv 0 LV0 NV0 CV0 Mv0,.int .i64 r]))
theorem Own.lt {a : LV} {b : NV} {B C : Nat} (h : Own B a b) (k : C ≤ B) : Own C a b := ⟨fun p hp => Nat.le_trans k (h.1 p hp),fun p hp => Nat.le_trans k (h.2.1 p hp),fun p hp => Nat.le_trans k (h.2.2 p hp)⟩
theorem HasG.stored {w : World} {k : Int} {a : LV} {b : NV} {c : CV} {m : Mv} {x : GP.Pg} {g B : Nat} (h : HasG w k a b c m x) (o : Own B a b) (hg : g < B) (k' : Int) (a' : LV) (b' : NV) (c' : CV) (m' : Mv) : HasG (setG w g k' a' b' c' m') k a b c m x :=
 ⟨h.kind,h.l.stored (fun p hp => by have := o.1 p hp;omega) k' a' b' c' m',h.n.stored (fun p hp => by have := o.2.1 p hp;omega) (fun p hp => by have := o.2.2 p hp;omega) k' a' b' c' m',h.c,h.m⟩
theorem rat_out (A : Option Addr) (l : List ByteArray) (ca : Nat) (i : Int) (w : World) (h : ¬ (0 ≤ i ∧ i < l.length)) :
  Calls Tryz.prog 11 #[.slice A l.length ca,.int .i64 i] w fun e w' => AtG l i w.heap.size e w' ∧ Below w.heap.size w w' := by
 have hb0 := gbox_below 46 0 LV0 NV0 CV0 Mv0 w;have HK := zj (gbox_new 46 0 LV0 NV0 CV0 Mv0 w);have HB := zj hb0;have HD := zj (GP.at_arg h);have hlen : Hid (l.length = l.length) := zj rfl;obtain ⟨n,hn⟩ : ∃ n,l.length = n := ⟨_,rfl⟩;rw [hn] at h;rw [hn];clear hb0 hn;rcases (show i < 0 ∨ (0 ≤ i ∧ (n : Int) ≤ i) by omega) with h1 | ⟨h1,h2⟩
 ·have d1 : decide (i < 0) = true := dT h1
  clear h;go_enter Tryz.func11,Tryz.ntmps11;go_wp2_with (with_reducible refine store_page Tryz.sizeGD rfl _ _ rfl w.heap.size 0 LV0 NV0 CV0 Mv0 rfl rfl HK.out ?_);have HKF := zj (setG_box HK.out 0 LV0 NV0 CV0 Mv0);have HBF := zj (setG_below HB.out (Nat.le_refl _) 0 LV0 NV0 CV0 Mv0);exact bodyPost_ret (v := .tuple #[gv 0 LV0 NV0 CV0 Mv0,.int .i64 4]) (results_two Tryz.results11 rfl (load_pageD HKF.out)) rfl ⟨.inr ⟨4,HD.out,.inr rfl,rfl⟩,HBF.out⟩
 ·have d1 : decide (i < 0) = false := dF (by omega)
  have d2 : decide ((n : Int) ≤ i) = true := dT h2;clear h;go_enter Tryz.func11,Tryz.ntmps11;go_wp2_with (with_reducible refine store_page Tryz.sizeGD rfl _ _ rfl w.heap.size 0 LV0 NV0 CV0 Mv0 rfl rfl HK.out ?_);have HKF := zj (setG_box HK.out 0 LV0 NV0 CV0 Mv0);have HBF := zj (setG_below HB.out (Nat.le_refl _) 0 LV0 NV0 CV0 Mv0);exact bodyPost_ret (v := .tuple #[gv 0 LV0 NV0 CV0 Mv0,.int .i64 4]) (results_two Tryz.results11 rfl (load_pageD HKF.out)) rfl ⟨.inr ⟨4,HD.out,.inr rfl,rfl⟩,HBF.out⟩
theorem setG_alloc {t : TypeId} {cs : Array Value} {w : World} (k' : Int) (a' : LV) (b' : NV) (c' : CV) (m' : Mv) : setG (w.alloc (.cells cs t)) w.heap.size k' a' b' c' m' = gbox t k' a' b' c' m' w := World.setRow_alloc_new _ _ _ _
theorem gbox_zero (t : TypeId) (w : World) : Gx t w.heap.size 0 LV0 NV0 CV0 Mv0 (w.alloc (.cells #[.int .i64 0,.int .i64 0,.int .i64 0,.string ⟨#[]⟩,.slice none 0 0,.int .i64 0,.int .i64 0,.int .i64 0,.string ⟨#[]⟩,.slice none 0 0,.slice none 0 0,.int .i64 0,.int .i64 0,.string ⟨#[]⟩,.int .i64 0,.int .i64 0,.int .i64 0,.int .i64 0,.int .i64 0] t)) := heap_alloc_new _ _
theorem load_wantedD {ops : Array Oper} {rest : List Oper} {o : Oper} {q : Act} {w : World} {Q : Exit → Act → World → Prop} (x : Operand) (ho : o.op = .load 46 x)
  (g : Nat) (hx : q.eval x = .pointer (some ⟨g,0,none⟩)) {t : TypeId} {k : Int} {a : LV} {b : NV} {c : CV} {m : Mv} (hg : Gx t g k a b c m w) (hw : Region.wanted o (yielded ops q.tmps) = true)
  (h : wpList Tryz.prog ops Q rest (q.put o.dst (gv k a b c m)) w) : wpList Tryz.prog ops Q (o :: rest) q w := load_wanted Tryz.underlying46 rfl Tryz.sizeGD hw x ho g hx hg h
theorem rat_in (A : Option Addr) (l : List ByteArray) (ca : Nat) (i : Nat) (w : World) (hg : L10.Glo w) (ha : L5.Lies w w.heap.size A l) (hi : i < l.length) (hs : ∀ s ∈ l,s.size ≤ 1000000) :
  Calls Tryz.prog 11 #[.slice A l.length ca,.int .i64 i] w fun e w' => AtG l i w.heap.size e w' ∧ Below w.heap.size w w' := by
 obtain ⟨s,hsi⟩ : ∃ s,l[i]? = some s := ⟨_,List.getElem?_eq_getElem hi⟩;obtain ⟨p,rfl,hpb,hpc⟩ := ha i s hsi;have hss : s.size ≤ 1000000 := hs s (List.mem_of_getElem? hsi);have hb0 := gbox_below 46 0 LV0 NV0 CV0 Mv0 w;have HK := zj (gbox_new 46 0 LV0 NV0 CV0 Mv0 w);have HB := zj hb0;have HG := zj (hg.on hb0);have hc0 : (gbox 46 0 LV0 NV0 CV0 Mv0 w).cell? (p.add i) = some (.string s) := (hb0.cell (by rw [L5.addr_block];exact hpb)).trans hpc;have HR := zj (fun W (h : L10.Glo W) => rgdec_any s W h hss);have HS := zj (fun k a b c m W => rself_any k a b c m W);have HAN := zj (@GP.at_none l i s hsi);have HAM := zj (fun x => @GP.at_moved l i s x hsi);have HAO := zj (fun x => @GP.at_ok l i s x hsi);obtain ⟨n,hn⟩ : ∃ n,l.length = n := ⟨_,rfl⟩;rw [hn] at hi ⊢;have d1 : decide ((i : Int) < 0) = false := dF (by omega);have d2 : decide ((n : Int) ≤ i) = false := dF (by omega)
 have q1 : (0 : Int) ≤ i := by omega
 have q2 : (i : Int) < n := by omega
 clear hb0 hg ha hs hss hsi hpb hpc hn hi;generalize hw0 : gbox 46 0 LV0 NV0 CV0 Mv0 w = W0 at *;have hw1 : w.alloc (.cells #[.int .i64 0,.int .i64 0,.int .i64 0,.string ⟨#[]⟩,.slice none 0 0,.int .i64 0,.int .i64 0,.int .i64 0,.string ⟨#[]⟩,.slice none 0 0,.slice none 0 0,.int .i64 0,.int .i64 0,.string ⟨#[]⟩,.int .i64 0,.int .i64 0,.int .i64 0,.int .i64 0,.int .i64 0] 46) = W0 := hw0;clear hw0;go_enter Tryz.func11,Tryz.ntmps11;go_wp2_with fail;refine (HR.out _ HG.out).mono ?_;rintro e V ⟨hd,hb⟩;clear hc0 q1 q2 hw1;rcases hd with ⟨k,a,b,c,m,x,hx,rfl,hG,hO⟩ | ⟨hx,rfl⟩
 ·have hba := gbox_below 46 k a b c m V
  have HX := zj (gbox_new 46 k a b c m V);have HLT : Hid (w.heap.size < W0.heap.size) := zj HK.out.lt;replace HB := zj (HB.out.trans' (hb.trans' hba));replace HK := zj (HK.out.below (hb.trans' hba));have HGG := zj (hG.on hba);have HO := zj hO;have HBV : Hid (W0.heap.size ≤ W0.heap.size) := zj (Nat.le_refl _);have hself := selfV_of hG;obtain ⟨v,hv⟩ : ∃ v,selfV k a b c = v := ⟨_,rfl⟩;have HSV : Hid (GP.self x = v) := zj (hself.symm.trans hv);have HSS : Hid (∀ W,Calls Tryz.prog 20 #[gv k a b c m] W fun e w' => e = .returned (.int .i64 v) ∧ Below W.heap.size W w') := zj (fun W => by have h := HS.out k a b c m W;rw [hv] at h;exact h);have HDX := zj hx;have hld := load_pageD HX.out;clear hb hba hG hO hself hv hx HS HR HG;go_wp2_with (first | (with_reducible refine store_page Tryz.sizeGD rfl _ _ rfl V.heap.size k a b c m rfl rfl (gbox_zero 46 V) ?_;rw [setG_alloc];generalize gbox 46 k a b c m V = V1 at *) | (refine load_wantedD (.tmp 6) rfl V.heap.size rfl HX.out (by rfl) ?_));clear hld;refine (HSS.out _).mono ?_;rintro e w2 ⟨rfl,hb⟩;replace HB := zj (HB.out.trans' hb);replace HK := zj (HK.out.below hb);replace HX := zj (HX.out.below hb);replace HGG := zj (HGG.out.on hb);clear hb;generalize V.heap.size = gx at *;by_cases hvi : v = i
  ·have hz : (v != (i : Int)) = false := by simp [hvi]
   have HOK := zj (HAO.out x HDX.out (HSV.out.trans hvi));clear hvi;go_wp2_with (first | (refine load_wantedD (.tmp 6) rfl gx rfl HX.out (by rfl) ?_) | (with_reducible refine store_page Tryz.sizeGD rfl _ _ rfl w.heap.size k a b c m rfl rfl HK.out ?_));have HKF := zj (setG_box HK.out k a b c m);have HBF := zj (setG_below HB.out (Nat.le_refl _) k a b c m);exact bodyPost_ret (v := .tuple #[gv k a b c m,.int .i64 0]) (results_two Tryz.results11 rfl (load_pageD HKF.out)) rfl ⟨.inl ⟨k,a,b,c,m,x,HOK.out,rfl,HGG.out.stored HO.out (Nat.lt_of_lt_of_le HLT.out HBV.out) k a b c m,HO.out.lt (Nat.le_trans (Nat.le_of_lt HLT.out) HBV.out)⟩,HBF.out⟩
  ·have hz : (v != (i : Int)) = true := by simpa using hvi
   have HNO := zj (HAM.out x HDX.out (fun h => hvi (HSV.out.symm.trans h)));clear hvi;go_wp2_with (with_reducible refine store_page Tryz.sizeGD rfl _ _ rfl w.heap.size 0 LV0 NV0 CV0 Mv0 rfl rfl HK.out ?_);have HKF := zj (setG_box HK.out 0 LV0 NV0 CV0 Mv0);have HBF := zj (setG_below HB.out (Nat.le_refl _) 0 LV0 NV0 CV0 Mv0);exact bodyPost_ret (v := .tuple #[gv 0 LV0 NV0 CV0 Mv0,.int .i64 3]) (results_two Tryz.results11 rfl (load_pageD HKF.out)) rfl ⟨.inr ⟨3,HNO.out,.inl rfl,rfl⟩,HBF.out⟩
 ·have hba := gbox_below 46 0 LV0 NV0 CV0 Mv0 V
  replace HB := zj (HB.out.trans' (hb.trans' hba));replace HK := zj (HK.out.below (hb.trans' hba));have HNO := zj (HAN.out hx);clear hb hba hx HS HR HG;go_wp2_with (first | (with_reducible refine store_page Tryz.sizeGD rfl _ _ rfl V.heap.size 0 LV0 NV0 CV0 Mv0 rfl rfl (gbox_zero 46 V) ?_;rw [setG_alloc];generalize gbox 46 0 LV0 NV0 CV0 Mv0 V = V1 at *) | (with_reducible refine store_page Tryz.sizeGD rfl _ _ rfl w.heap.size 0 LV0 NV0 CV0 Mv0 rfl rfl HK.out ?_));have HKF := zj (setG_box HK.out 0 LV0 NV0 CV0 Mv0);have HBF := zj (setG_below HB.out (Nat.le_refl _) 0 LV0 NV0 CV0 Mv0);exact bodyPost_ret (v := .tuple #[gv 0 LV0 NV0 CV0 Mv0,.int .i64 3]) (results_two Tryz.results11 rfl (load_pageD HKF.out)) rfl ⟨.inr ⟨3,HNO.out,.inl rfl,rfl⟩,HBF.out⟩
structure Small (x : GP.Pg) : Prop where
 i : x.l.items.length ≤ 1000000
 k : x.n.kids.length ≤ 1000000
 s : x.n.seps.length ≤ 1000000
theorem small0 : Small GP.Pg0 := ⟨by decide,by decide,by decide⟩
theorem small_dec {s : ByteArray} {x : GP.Pg} (h : GP.dec s = some x) : Small x := by
 have Z : (0 : Nat) ≤ 1000000 := by decide
 rcases GP.dec_cases s with ⟨l,h1,-,-,-,h5⟩ | ⟨n,-,h1,-,-,h5⟩ | ⟨c,-,-,-,-,h5⟩ | ⟨m,-,-,-,-,h5⟩ | ⟨-,-,-,-,h5⟩
 ·obtain rfl := Option.some.inj (h5.symm.trans h)
  obtain ⟨a,b,_⟩ := L10.NP.enc_ok ((L10.NP.dec_iff s l).1 h1);exact ⟨Nat.le_trans (a.fits b).2 (by decide),Z,Z⟩
 ·obtain rfl := Option.some.inj (h5.symm.trans h)
  obtain ⟨a,b,_⟩ := L11.IP.enc_ok ((L11.IP.dec_iff s n).1 h1);have h2 := (a.fits b).2;have h3 := a.2.2.1.1;exact ⟨Z,Nat.le_trans h2 (by decide),by show n.seps.length ≤ 1000000;omega⟩
 ·obtain rfl := Option.some.inj (h5.symm.trans h)
  exact ⟨Z,Z,Z⟩
 ·obtain rfl := Option.some.inj (h5.symm.trans h)
  exact ⟨Z,Z,Z⟩
 ·rw [h5] at h
  cases h
theorem same_parts {x y : GP.Pg} : x = y ↔ x.k = y.k ∧ x.l = y.l ∧ x.n = y.n ∧ x.c = y.c ∧ x.m = y.m := by
 cases x;cases y;simp
theorem psameL {w : World} {a a' : LV} {l l' : L10.NP.Lf} (h : HasL w a l) (h' : HasL w a' l') (s : l.items.length ≤ 1000000) (s' : l'.items.length ≤ 1000000) : ∃ q : Bool,(q = true ↔ l = l') ∧
  Hid (∀ W,Below w.heap.size w W → Calls Tryz.prog 29 #[lvO a,lvO a'] W fun e w' => e = .returned (.bool q) ∧ Below W.heap.size W w') := by
 refine ⟨decide ((a.F = a'.F ∧ a.R = a'.R ∧ a.H = a'.H) ∧ l.items = l'.items),?_,zj fun W hb => ?_⟩
 ·rw [decide_eq_true_eq,h.f,h.r,h.h,h'.f,h'.r,h'.h]
  obtain ⟨b1,b2,b3,b4⟩ := l;obtain ⟨c1,c2,c3,c4⟩ := l';simp [and_assoc]
 ·have k := L10.same_any a.F a.R a'.F a'.R a.H a'.H a.A a'.A l.items l'.items a.ca a'.ca W (h.rows.on hb) (h'.rows.on hb) s s'
  rw [← h.n,← h'.n] at k;exact k
theorem psameN {w : World} {a a' : NV} {l l' : L11.IP.Inn} (h : HasN w a l) (h' : HasN w a' l') (s : l.kids.length ≤ 1000000) (s1 : l.seps.length ≤ 1000000) (s' : l'.kids.length ≤ 1000000) (s1' : l'.seps.length ≤ 1000000) : ∃ q : Bool,(q = true ↔ l = l') ∧
  Hid (∀ W,Below w.heap.size w W → Calls Tryz.prog 30 #[nvO a,nvO a'] W fun e w' => e = .returned (.bool q) ∧ Below W.heap.size W w') := by
 have e1 : l = ⟨a.F,a.L,a.R,a.H,l.kids,l.seps⟩ := by rw [h.f,h.l,h.r,h.h]
 have e2 : l' = ⟨a'.F,a'.L,a'.R,a'.H,l'.kids,l'.seps⟩ := by rw [h'.f,h'.l,h'.r,h'.h]
 have k := fun W hb => L11.same_any a.F a.L a.R a.H a.A a.n a.ca a.C a.m a.cb l.kids l.seps a'.F a'.L a'.R a'.H a'.A a'.n a'.ca a'.C a'.m a'.cb l'.kids l'.seps W (h.rows.on hb) (h'.rows.on hb) (by rw [← h.rows.nk];exact s) (by rw [← h.rows.nm];exact s1) (by rw [← h'.rows.nk];exact s') (by rw [← h'.rows.nm];exact s1');rw [← e1,← e2] at k;exact ⟨_,decide_eq_true_iff,zj k⟩
theorem peqC (c c' : CV) : ∃ q : Bool,(q = true ↔ (c.F,c.N,c.D) = (c'.F,c'.N,c'.D)) ∧ ∀ W,(binOp .eql 31 (.agg #[.int .i64 c.F,.int .i64 c.N,.string c.D]) (.agg #[.int .i64 c'.F,.int .i64 c'.N,.string c'.D])).run Tryz.prog W = .ok (.bool q) W := by
 refine ⟨c.F == c'.F && (c.N == c'.N && (c.D.toList == c'.D.toList)),by simp [Lib.toList_data,ByteArray.ext_iff],fun W => ?_⟩;rw [run_eql_struct];simp [go_sem,Tryz.underlying31];by_cases h1 : c.F = c'.F
 ·by_cases h2 : c.N = c'.N
  ·by_cases h3 : c.D.toList = c'.D.toList
   ·simp [h1,h2,h3]
   ·simp [h1,h2,h3]
  ·simp [h1,h2]
 ·simp [h1]
theorem peqM (m m' : Mv) : ∃ q : Bool,(q = true ↔ m = m') ∧ ∀ W,(binOp .eql 33 (.agg #[.int .i64 m.p,.int .i64 m.pg,.int .i64 m.r,.int .i64 m.l,.int .i64 m.n]) (.agg #[.int .i64 m'.p,.int .i64 m'.pg,.int .i64 m'.r,.int .i64 m'.l,.int .i64 m'.n])).run Tryz.prog W = .ok (.bool q) W := by
 refine ⟨m.p == m'.p && (m.pg == m'.pg && (m.r == m'.r && (m.l == m'.l && m.n == m'.n))),by cases m;cases m';simp,fun W => ?_⟩;rw [run_eql_struct];simp [go_sem,Tryz.underlying33];by_cases h1 : m.p = m'.p
 ·by_cases h2 : m.pg = m'.pg
  ·by_cases h3 : m.r = m'.r
   ·by_cases h4 : m.l = m'.l
    ·by_cases h5 : m.n = m'.n
     ·simp [h1,h2,h3,h4,h5]
     ·simp [h1,h2,h3,h4,h5]
    ·simp [h1,h2,h3,h4]
   ·simp [h1,h2,h3]
  ·simp [h1,h2]
 ·simp [h1]
theorem psame_any {k k' : Int} {a a' : LV} {b b' : NV} {c c' : CV} {m m' : Mv} {x y : GP.Pg} (w : World) (h : HasG w k a b c m x) (h' : HasG w k' a' b' c' m' y) (s : Small x) (s' : Small y) {q : Bool} (hq : q = true ↔ x = y) :
  Calls Tryz.prog 23 #[gv k a b c m,gv k' a' b' c' m'] w fun e w' => e = .returned (.bool q) ∧ Below w.heap.size w w' := by
 obtain ⟨q0,d0,e0⟩ : ∃ q0 : Bool,(k == k') = q0 ∧ (q0 = true ↔ x.k = y.k) := ⟨_,rfl,by simp [h.kind,h'.kind]⟩;obtain ⟨q1,e1,H1⟩ := psameL h.l h'.l s.i s'.i;obtain ⟨q2,e2,H2⟩ := psameN h.n h'.n s.k s.s s'.k s'.s;obtain ⟨q3,e3,f3⟩ := peqC c c';obtain ⟨q4,e4,f4⟩ := peqM m m'
 obtain rfl : q = (q0 && (q1 && (q2 && (q3 && q4)))) := by
  rw [Bool.eq_iff_iff,hq,same_parts,← e0,← e1,← e2,← h.c,← h'.c,← e3,← h.m,← h'.m,← e4];simp
 have hb0 := gbox_below 35 k a b c m w;have hb1 := gbox_below 35 k' a' b' c' m' (gbox 35 k a b c m w);have HX := zj ((gbox_new 35 k a b c m w).below hb1);have hy := gbox_new 35 k' a' b' c' m' (gbox 35 k a b c m w);rw [gbox_size] at hy;have HY := zj hy;have HB := zj (hb0.trans' hb1);clear h h' s s' hq e0 e1 e2 e3 e4 hb0 hb1 hy;obtain ⟨x0,x1,x2,x3,x4,-⟩ := HX.out.cells;obtain ⟨y0,y1,y2,y3,y4,-⟩ := HY.out.cells
 cases q0 with
 | false =>
  go_enter Tryz.func23,Tryz.ntmps23;go_wp2_with fail;go_ret;exact ⟨rfl,HB.out⟩
 | true =>
 go_enter Tryz.func23,Tryz.ntmps23;go_wp2_with fail;refine (H1.out _ HB.out).mono ?_;rintro e V ⟨rfl,hb⟩;replace HX := zj (HX.out.below hb);replace HY := zj (HY.out.below hb);replace HB := zj (HB.out.trans' hb);clear x0 x1 x2 x3 x4 y0 y1 y2 y3 y4 d0 hb H1;obtain ⟨-,-,-,-,-,x5,x6,x7,x8,x9,x10,-⟩ := HX.out.cells;obtain ⟨-,-,-,-,-,y5,y6,y7,y8,y9,y10,-⟩ := HY.out.cells
 cases q1 with
 | false =>
  go_wp2_with fail;go_ret;exact ⟨rfl,HB.out⟩
 | true =>
 go_wp2_with fail;refine (H2.out _ HB.out).mono ?_;rintro e U ⟨rfl,hb⟩;replace HX := zj (HX.out.below hb);replace HY := zj (HY.out.below hb);replace HB := zj (HB.out.trans' hb);clear x5 x6 x7 x8 x9 x10 y5 y6 y7 y8 y9 y10 hb H2;obtain ⟨-,-,-,-,-,-,-,-,-,-,-,x11,x12,x13,x14,x15,x16,x17,x18⟩ := HX.out.cells;obtain ⟨-,-,-,-,-,-,-,-,-,-,-,y11,y12,y13,y14,y15,y16,y17,y18⟩ := HY.out.cells;cases q2
 ·go_wp2_with fail
  go_ret;exact ⟨rfl,HB.out⟩
 cases q3
 all_goals
  go_wp2_with fail;go_ret;exact ⟨rfl,HB.out⟩
theorem rsameL {w : World} {a a' : LV} {l l' : L10.NP.Lf} (h : HasL w a l) (h' : HasL w a' l') (s : l.items.length ≤ 1000000) (s' : l'.items.length ≤ 1000000) : ∃ q : Bool,(q = true ↔ l = l') ∧
  Hid (∀ W,Below w.heap.size w W → Calls Tryz.prog 39 #[lvO a,lvO a'] W fun e w' => e = .returned (.bool q) ∧ Below W.heap.size W w') := by
 refine ⟨decide ((a.F = a'.F ∧ a.R = a'.R ∧ a.H = a'.H) ∧ l.items = l'.items),?_,zj fun W hb => ?_⟩
 ·rw [decide_eq_true_eq,h.f,h.r,h.h,h'.f,h'.r,h'.h]
  obtain ⟨b1,b2,b3,b4⟩ := l;obtain ⟨c1,c2,c3,c4⟩ := l';simp [and_assoc]
 ·have k := L10.rsame_any a.F a.R a'.F a'.R a.H a'.H a.A a'.A l.items l'.items a.ca a'.ca W (h.rows.on hb) (h'.rows.on hb) s
  rw [← h.n,← h'.n] at k;exact k
theorem rsameN {w : World} {a a' : NV} {l l' : L11.IP.Inn} (h : HasN w a l) (h' : HasN w a' l') (s : l.kids.length ≤ 1000000) (s1 : l.seps.length ≤ 1000000) (s' : l'.kids.length ≤ 1000000) (s1' : l'.seps.length ≤ 1000000) : ∃ q : Bool,(q = true ↔ l = l') ∧
  Hid (∀ W,Below w.heap.size w W → Calls Tryz.prog 40 #[nvO a,nvO a'] W fun e w' => e = .returned (.bool q) ∧ Below W.heap.size W w') := by
 have e1 : l = ⟨a.F,a.L,a.R,a.H,l.kids,l.seps⟩ := by rw [h.f,h.l,h.r,h.h]
 have e2 : l' = ⟨a'.F,a'.L,a'.R,a'.H,l'.kids,l'.seps⟩ := by rw [h'.f,h'.l,h'.r,h'.h]
 have k := fun W hb => L11.rsame_any a.F a.L a.R a.H a.A a.n a.ca a.C a.m a.cb l.kids l.seps a'.F a'.L a'.R a'.H a'.A a'.n a'.ca a'.C a'.m a'.cb l'.kids l'.seps W (h.rows.on hb) (h'.rows.on hb) (by rw [← h.rows.nk];exact s) (by rw [← h.rows.nm];exact s1) (by rw [← h'.rows.nk];exact s') (by rw [← h'.rows.nm];exact s1');rw [← e1,← e2] at k;exact ⟨_,decide_eq_true_iff,zj k⟩
theorem reqC (c c' : CV) : ∃ q : Bool,(q = true ↔ (c.F,c.N,c.D) = (c'.F,c'.N,c'.D)) ∧ ∀ W,(binOp .eql 43 (.agg #[.int .i64 c.F,.int .i64 c.N,.string c.D]) (.agg #[.int .i64 c'.F,.int .i64 c'.N,.string c'.D])).run Tryz.prog W = .ok (.bool q) W := by
 refine ⟨c.F == c'.F && (c.N == c'.N && (c.D.toList == c'.D.toList)),by simp [Lib.toList_data,ByteArray.ext_iff],fun W => ?_⟩;rw [run_eql_struct];simp [go_sem,Tryz.underlying43];by_cases h1 : c.F = c'.F
 ·by_cases h2 : c.N = c'.N
  ·by_cases h3 : c.D.toList = c'.D.toList
   ·simp [h1,h2,h3]
   ·simp [h1,h2,h3]
  ·simp [h1,h2]
 ·simp [h1]
theorem reqM (m m' : Mv) : ∃ q : Bool,(q = true ↔ m = m') ∧ ∀ W,(binOp .eql 44 (.agg #[.int .i64 m.p,.int .i64 m.pg,.int .i64 m.r,.int .i64 m.l,.int .i64 m.n]) (.agg #[.int .i64 m'.p,.int .i64 m'.pg,.int .i64 m'.r,.int .i64 m'.l,.int .i64 m'.n])).run Tryz.prog W = .ok (.bool q) W := by
 refine ⟨m.p == m'.p && (m.pg == m'.pg && (m.r == m'.r && (m.l == m'.l && m.n == m'.n))),by cases m;cases m';simp,fun W => ?_⟩;rw [run_eql_struct];simp [go_sem,Tryz.underlying44];by_cases h1 : m.p = m'.p
 ·by_cases h2 : m.pg = m'.pg
  ·by_cases h3 : m.r = m'.r
   ·by_cases h4 : m.l = m'.l
    ·by_cases h5 : m.n = m'.n
     ·simp [h1,h2,h3,h4,h5]
     ·simp [h1,h2,h3,h4,h5]
    ·simp [h1,h2,h3,h4]
   ·simp [h1,h2,h3]
  ·simp [h1,h2]
 ·simp [h1]
theorem rsame_any {k k' : Int} {a a' : LV} {b b' : NV} {c c' : CV} {m m' : Mv} {x y : GP.Pg} (w : World) (h : HasG w k a b c m x) (h' : HasG w k' a' b' c' m' y) (s : Small x) (s' : Small y) {q : Bool} (hq : q = true ↔ x = y) :
  Calls Tryz.prog 12 #[gv k a b c m,gv k' a' b' c' m'] w fun e w' => e = .returned (.bool q) ∧ Below w.heap.size w w' := by
 obtain ⟨q0,d0,e0⟩ : ∃ q0 : Bool,(k == k') = q0 ∧ (q0 = true ↔ x.k = y.k) := ⟨_,rfl,by simp [h.kind,h'.kind]⟩;obtain ⟨q1,e1,H1⟩ := rsameL h.l h'.l s.i s'.i;obtain ⟨q2,e2,H2⟩ := rsameN h.n h'.n s.k s.s s'.k s'.s;obtain ⟨q3,e3,f3⟩ := reqC c c';obtain ⟨q4,e4,f4⟩ := reqM m m'
 obtain rfl : q = (q0 && (q1 && (q2 && (q3 && q4)))) := by
  rw [Bool.eq_iff_iff,hq,same_parts,← e0,← e1,← e2,← h.c,← h'.c,← e3,← h.m,← h'.m,← e4];simp
 have hb0 := gbox_below 46 k a b c m w;have hb1 := gbox_below 46 k' a' b' c' m' (gbox 46 k a b c m w);have HX := zj ((gbox_new 46 k a b c m w).below hb1);have hy := gbox_new 46 k' a' b' c' m' (gbox 46 k a b c m w);rw [gbox_size] at hy;have HY := zj hy;have HB := zj (hb0.trans' hb1);clear h h' s s' hq e0 e1 e2 e3 e4 hb0 hb1 hy;obtain ⟨x0,x1,x2,x3,x4,-⟩ := HX.out.cells;obtain ⟨y0,y1,y2,y3,y4,-⟩ := HY.out.cells
 cases q0 with
 | false =>
  go_enter Tryz.func12,Tryz.ntmps12;go_wp2_with fail;go_ret;exact ⟨rfl,HB.out⟩
 | true =>
 go_enter Tryz.func12,Tryz.ntmps12;go_wp2_with fail;refine (H1.out _ HB.out).mono ?_;rintro e V ⟨rfl,hb⟩;replace HX := zj (HX.out.below hb);replace HY := zj (HY.out.below hb);replace HB := zj (HB.out.trans' hb);clear x0 x1 x2 x3 x4 y0 y1 y2 y3 y4 d0 hb H1;obtain ⟨-,-,-,-,-,x5,x6,x7,x8,x9,x10,-⟩ := HX.out.cells;obtain ⟨-,-,-,-,-,y5,y6,y7,y8,y9,y10,-⟩ := HY.out.cells
 cases q1 with
 | false =>
  go_wp2_with fail;go_ret;exact ⟨rfl,HB.out⟩
 | true =>
 go_wp2_with fail;refine (H2.out _ HB.out).mono ?_;rintro e U ⟨rfl,hb⟩;replace HX := zj (HX.out.below hb);replace HY := zj (HY.out.below hb);replace HB := zj (HB.out.trans' hb);clear x5 x6 x7 x8 x9 x10 y5 y6 y7 y8 y9 y10 hb H2;obtain ⟨-,-,-,-,-,-,-,-,-,-,-,x11,x12,x13,x14,x15,x16,x17,x18⟩ := HX.out.cells;obtain ⟨-,-,-,-,-,-,-,-,-,-,-,y11,y12,y13,y14,y15,y16,y17,y18⟩ := HY.out.cells;cases q2
 ·go_wp2_with fail
  go_ret;exact ⟨rfl,HB.out⟩
 cases q3
 all_goals
  go_wp2_with fail;go_ret;exact ⟨rfl,HB.out⟩
end Go.Proofs.YtpeghilfldpgfaaGreatDoor
