import Derived.Test.YtpeghilfldpgfaaGreatDoorQT
import Derived.Test.YtpeghilfldpgfaaGreatDoorT19
set_option linter.unusedVariables false
set_option linter.unusedSimpArgs false
set_option maxHeartbeats 8000000
set_option maxRecDepth 100000
namespace Go.Proofs.YtpeghilfldpgfaaGreatDoor
open Go.RowKit
theorem yieldsP {ops : Array Oper} {o : Oper} {q : Act} {S : World → Prop} (x : Operand) (ho : o.op = .load 35 x) (hw : Region.wanted o (yielded ops q.tmps) = true) {g : Nat} {t : TypeId} {k : Int} {a : LV} {b : NV} {c : CV} {m : Mv} (hx : q.eval x = .pointer (some ⟨g,0,none⟩)) (hS : ∀ w,S w → Gx t g k a b c m w) : YieldsIf Tryz.prog ops S o (gv k a b c m) q :=
 .inl ⟨hw,fun w hw' => by
  unfold execOp
  simp only [ho,hx,Instr.loadAt,Instr.sureAddr,Sem.run_bind,Sem.run_pure,Result.andThen_ok,load_pageP (hS w hw')]⟩
theorem yieldsD {ops : Array Oper} {o : Oper} {q : Act} {S : World → Prop} (x : Operand) (ho : o.op = .load 46 x) (hw : Region.wanted o (yielded ops q.tmps) = true) {g : Nat} {t : TypeId} {k : Int} {a : LV} {b : NV} {c : CV} {m : Mv} (hx : q.eval x = .pointer (some ⟨g,0,none⟩)) (hS : ∀ w,S w → Gx t g k a b c m w) : YieldsIf Tryz.prog ops S o (gv k a b c m) q :=
 .inl ⟨hw,fun w hw' => by
  unfold execOp
  simp only [ho,hx,Instr.loadAt,Instr.sureAddr,Sem.run_bind,Sem.run_pure,Result.andThen_ok,load_pageD (hS w hw')]⟩
theorem rself1 {x : GP.Pg} {k : Int} {a : LV} {b : NV} {c : CV} {m : Mv} {w : World} {v : Int} (h : HasG w k a b c m x) (hv : GP.self x = v) : Hid (∀ W,Calls Tryz.prog 20 #[gv k a b c m] W fun e w' => e = .returned (.int .i64 v) ∧ Below W.heap.size W w') := zj fun W => by
 have h1 := rself_any k a b c m W;rw [selfV_of h,hv] at h1;exact h1
theorem rright1 {x : GP.Pg} {k : Int} {a : LV} {b : NV} {c : CV} {m : Mv} {w : World} {v : Int} (h : HasG w k a b c m x) (hv : GP.right x = v) : Hid (∀ W,Calls Tryz.prog 22 #[gv k a b c m] W fun e w' => e = .returned (.int .i64 v) ∧ Below W.heap.size W w') := zj fun W => by
 have h1 := rright_any k a b c m W;rw [rightV_of h,hv] at h1;exact h1
theorem rsurvey1 {l : List ByteArray} {A : Option Addr} {n ca : Nat} {W : World} (hn : l.length = n) (h30 : n ≤ 1000) (hs : ∀ s ∈ l,s.size ≤ 1000000) (hg : L10.Glo W) (ha : L5.Lies W W.heap.size A l) :
  Calls Tryz.prog 16 #[.slice A n ca] W fun e w' => ∃ G cap,e = .returned (.slice G n cap) ∧ L11.LiesN w' w'.heap.size G (GP.survey l) ∧ Below W.heap.size W w' := by
 subst hn;exact rsurvey_any A l ca W hg ha h30 hs
def PageU (f : FuncId) (args : Array Value) (x : GP.Pg) (r : Int) (W : World) : Prop :=
 Calls Tryz.prog f args W fun e w' => ∃ k a b c m,e = .returned (.tuple #[gv k a b c m,.int .i64 r]) ∧ HasG w' k a b c m x ∧ Own W.heap.size a b ∧ Below W.heap.size W w'
theorem own_0 (B : Nat) : Own B LV0 NV0 := ⟨(fun p hp => by cases hp),(fun p hp => by cases hp),(fun p hp => by cases hp)⟩
theorem DecG.u {s : ByteArray} {B : Nat} {e : Ending} {w' : World} (h : DecG s B e w') : ∃ k a b c m,e = .returned (.tuple #[gv k a b c m,.int .i64 ((GP.dec s).elim 3 fun _ => 0)]) ∧ HasG w' k a b c m ((GP.dec s).getD GP.Pg0) ∧ Own B a b := by
 rcases h with ⟨k,a,b,c,m,y,h1,h2,h3,h4⟩ | ⟨h1,h2⟩
 ·rw [h1];exact ⟨k,a,b,c,m,h2,h3,h4⟩
 ·rw [h1];exact ⟨0,LV0,NV0,CV0,Mv0,h2,hasG0 _,own_0 _⟩
theorem dec_two (s : ByteArray) (hs : s.size ≤ 1000000) : ∃ (x : GP.Pg) (r : Int),Small x ∧ (∀ W,L10.Glo W → PageU 17 #[.string s] x r W) ∧ (∀ W,L10.Glo W → PageU 18 #[.string s] x r W) := by
 refine ⟨(GP.dec s).getD GP.Pg0,(GP.dec s).elim 3 fun _ => 0,?_,fun W hW => (pgdec_any s W hW hs).mono ?_,fun W hW => (rgdec_any s W hW hs).mono ?_⟩
 ·cases h : GP.dec s with
  | none => exact small0
  | some x => exact small_dec h
 ·rintro e w' ⟨h,hb⟩
  obtain ⟨k,a,b,c,m,h1,h2,h3⟩ := h.u;exact ⟨k,a,b,c,m,h1,h2,h3,hb⟩
 ·rintro e w' ⟨h,hb⟩
  obtain ⟨k,a,b,c,m,h1,h2,h3⟩ := h.u;exact ⟨k,a,b,c,m,h1,h2,h3,hb⟩
def atX (l : List ByteArray) (i : Int) : GP.Pg := match GP.at_ l i with
 | .ok x => x
 | .error _ => GP.Pg0
def atR (l : List ByteArray) (i : Int) : Int := match GP.at_ l i with
 | .ok _ => 0
 | .error r => r
theorem AtG.u {l : List ByteArray} {i : Int} {B : Nat} {e : Ending} {w' : World} (h : AtG l i B e w') : ∃ k a b c m,e = .returned (.tuple #[gv k a b c m,.int .i64 (atR l i)]) ∧ HasG w' k a b c m (atX l i) ∧ Own B a b := by
 unfold atX atR;rcases h with ⟨k,a,b,c,m,y,h1,h2,h3,h4⟩ | ⟨r,h1,_,h2⟩
 ·rw [h1];exact ⟨k,a,b,c,m,h2,h3,h4⟩
 ·rw [h1];exact ⟨0,LV0,NV0,CV0,Mv0,h2,hasG0 _,own_0 _⟩
theorem at_small (l : List ByteArray) (i : Int) : Small (atX l i) := by
 unfold atX GP.at_;by_cases h : 0 ≤ i ∧ i < l.length
 ·rw [dif_pos h]
  cases hd : GP.dec (l[i.toNat]'(by omega)) with
  | none => exact small0
  | some x =>
   by_cases hs : GP.self x = i
   ·simp only [if_pos hs]
    exact small_dec hd
   ·simp only [if_neg hs]
    exact small0
 ·rw [dif_neg h]
  exact small0
theorem at_two (l : List ByteArray) (i : Int) (n : Nat) (hn : l.length = n) (hs : ∀ s ∈ l,s.size ≤ 1000000) : ∃ (x : GP.Pg) (r : Int),Small x ∧ (∀ W A ca,L10.Glo W → L5.Lies W W.heap.size A l → PageU 10 #[.slice A n ca,.int .i64 i] x r W) ∧ (∀ W A ca,L10.Glo W → L5.Lies W W.heap.size A l → PageU 11 #[.slice A n ca,.int .i64 i] x r W) := by
 subst hn;refine ⟨atX l i,atR l i,at_small l i,fun W A ca hW hL => (pat_any A l ca i W hW hL hs).mono ?_,fun W A ca hW hL => (rat_any A l ca i W hW hL hs).mono ?_⟩
 ·rintro e w' ⟨h,hb⟩
  obtain ⟨k,a,b,c,m,h1,h2,h3⟩ := h.u;exact ⟨k,a,b,c,m,h1,h2,h3,hb⟩
 ·rintro e w' ⟨h,hb⟩
  obtain ⟨k,a,b,c,m,h1,h2,h3⟩ := h.u;exact ⟨k,a,b,c,m,h1,h2,h3,hb⟩
theorem pageTells_walk (A : Option Addr) (l : List ByteArray) (ca : Nat) (i : Int) (w : World) (hg : L10.Glo w) (hla : L5.Lies w w.heap.size A l) (hls : ∀ s ∈ l,s.size ≤ maxLen) (hll : l.length ≤ maxLen) (wi : (Lit.int .i64 i).wf = true) :
  Calls Tryz.prog 3 #[.slice A l.length ca,.int .i64 i] w fun e w' => e = .returned (.bool true) ∧ Below w.heap.size w w' := by
 have HCUT := zj (GC.cutO_any A l ca w hla hll hls);have HL0 := zj (GC.cutL_few l);have HSS := zj (@GC.cutL_size l);have HF : Hid Fixes := zj fixed_any;have HG := zj hg;have HB := zj (Below.refl w.heap.size w);generalize l.length = ln at *;clear hg hla hls hll wi;generalize GC.cutL l = L at *;go_enter Tryz.func3,Tryz.ntmps3;go_wp2_with fail;refine HCUT.out.mono ?_;rintro e V ⟨g,cap,rfl,hcap,hlies,hb,hown⟩;replace HB := zj (HB.out.trans' hb);replace HG := zj (HG.out.on hb);have HL := zj hlies;obtain ⟨n,hn⟩ : ∃ n,L.length = n := ⟨_,rfl⟩;have HLS : Hid ((GP.survey L).length = n) := zj ((GP.survey_length L).trans hn);have HN30 : Hid (n ≤ 1000) := zj (by have := HL0.out;omega);have HN6 : Hid (n ≤ 1000000) := zj (by have := HL0.out;omega);have HLL := zj hn;rw [hn];obtain ⟨x,r,hsm,hp,hr⟩ := at_two L i n hn HSS.out;have HSM := zj hsm;have HP := zj hp;have HRF := zj hr;clear hb hown hlies hcap hn HCUT hsm hp hr HL0;generalize (⟨g,0,none⟩ : Addr) = ad at *;go_wp2_with fail;refine (HP.out _ _ _ HG.out HL.out).mono ?_;rintro e V ⟨kp,ap,bp,cp,mp,rfl,hG,hO,hb⟩;have hba := gbox_below 35 kp ap bp cp mp V;have hbb := hb.trans' hba;replace HB := zj (HB.out.trans' hbb);replace HG := zj (HG.out.on hbb);replace HL := zj (HL.out.on hbb);have HX := zj (gbox_new 35 kp ap bp cp mp V);have HXG := zj (hG.on hba);clear hb hba hbb hG hO HP;go_wp2_with (refine store_page Tryz.sizeG rfl _ _ rfl V.heap.size kp ap bp cp mp rfl rfl (gbox_zero 35 V) ?_;rw [setG_alloc];generalize gbox 35 kp ap bp cp mp V = V1 at *);generalize V.heap.size = gp at *;refine (HRF.out _ _ _ HG.out HL.out).mono ?_;rintro e V ⟨kq,aq,bq,cq,mq,rfl,hG,hO,hb⟩;have hba := gbox_below 46 kq aq bq cq mq V;have hbb := hb.trans' hba;replace HB := zj (HB.out.trans' hbb);replace HG := zj (HG.out.on hbb);replace HL := zj (HL.out.on hbb);replace HX := zj (HX.out.below hbb);replace HXG := zj (HXG.out.on hbb);have HY := zj (gbox_new 46 kq aq bq cq mq V);have HYG := zj (hG.on hba);clear hb hba hbb hG hO HRF;go_wp2_with (refine store_page Tryz.sizeGD rfl _ _ rfl V.heap.size kq aq bq cq mq rfl rfl (gbox_zero 46 V) ?_;rw [setG_alloc];generalize gbox 46 kq aq bq cq mq V = V1 at *);generalize V.heap.size = gq at *;have hHeld0 : Hid (Below V1.heap.size V1 V1.drew) := zj (L10.drew_below (Below.refl _ _));refine wp_region_held_drew (S := fun V => Hid (Below V1.heap.size V1 V)) (by kernel_rfl) hHeld0 (fun hHeld => ?_);clear hHeld0;generalize V1.drew = D at *;refine L10.take_op' (i := 0) (d := some 29) (v := (gv kp ap bp cp mp)) rfl rfl (by kernel_rfl) (by kernel_rfl) (by kernel_rfl) (fun _ _ _ h => h) (yieldsP (.tmp 5) rfl (by kernel_rfl) rfl fun W h => HX.out.below h.out) (by assumption) ?_
 try simp only [Act.put,jA,jZ,jS]
 refine L10.take_op' (i := 2) (d := some 31) (v := (gv kq aq bq cq mq)) rfl rfl (by kernel_rfl) (by kernel_rfl) (by kernel_rfl) (fun _ _ _ h => h) (yieldsD (.tmp 7) rfl (by kernel_rfl) rfl fun W h => HY.out.below h.out) (by assumption) ?_;try simp only [Act.put,jA,jZ,jS]
 refine rd1 1 rfl (fun QQ hK => ?_);go_simp;refine (gref_any _ (HXG.out.on hHeld.out) HSM.out).mono ?_;rintro e V ⟨a',rfl,hr,-,hb⟩;go_wp2_with fail;replace hHeld := zj (hHeld.out.trans' hb);have HR := zj hr;clear hb hr;refine hK.out _ _ hHeld (fun _ => ?_);clear hK;try simp only [Act.put,jA,jZ,jS]
 refine rd1 3 rfl (fun QQ hK => ?_);go_simp;refine (rsame_any _ HR.out (HYG.out.on hHeld.out) HSM.out HSM.out (q := true) (by simp)).mono ?_;rintro e V ⟨rfl,hb⟩;go_wp2_with fail;replace hHeld := zj (hHeld.out.trans' hb);clear hb;refine hK.out _ _ hHeld (fun _ => ?_);clear hK;try simp only [Act.put,jA,jZ,jS]
 clear HR;refine tk 4 (some 33) ?_ rfl rfl ?_ ?_;rotate_left
 ·intro W h;(try dsimp only at h);go_simp;(try with_reducible rfl)
 try simp only [Act.put,jA,jZ,jS]
 refine tk 5 (some 34) ?_ rfl rfl ?_ ?_;rotate_left
 ·intro W h;(try dsimp only at h);go_simp;(try with_reducible rfl)
 try simp only [Act.put,jA,jZ,jS]
 refine tk 6 (some 35) ?_ rfl rfl ?_ ?_;rotate_left
 ·intro W h;(try dsimp only at h);go_simp;(try with_reducible rfl)
 try simp only [Act.put,jA,jZ,jS]
 refine tk 7 (some 36) ?_ rfl rfl ?_ ?_;rotate_left
 ·intro W h;(try dsimp only at h);go_simp;(try with_reducible rfl)
 try simp only [Act.put,jA,jZ,jS]
 refine tk 8 (some 37) ?_ rfl rfl ?_ ?_;rotate_left
 ·intro W h;(try dsimp only at h);go_simp;(try with_reducible rfl)
 try simp only [Act.put,jA,jZ,jS]
 refine tk 9 (some 38) ?_ rfl rfl ?_ ?_;rotate_left
 ·intro W h;(try dsimp only at h);go_simp;(try with_reducible rfl)
 try simp only [Act.put,jA,jZ,jS]
 refine tk 10 (some 39) ?_ rfl rfl ?_ ?_;rotate_left
 ·intro W h;(try dsimp only at h);go_simp;(try with_reducible rfl)
 try simp only [Act.put,jA,jZ,jS]
 refine tk 11 (some 40) ?_ rfl rfl ?_ ?_;rotate_left
 ·intro W h;(try dsimp only at h);go_simp;(try with_reducible rfl)
 try simp only [Act.put,jA,jZ,jS]
 refine tk 13 (some 42) ?_ rfl rfl ?_ ?_;rotate_left
 ·intro W h;(try dsimp only at h);go_simp;(try with_reducible rfl)
 try simp only [Act.put,jA,jZ,jS]
 refine rd1 12 rfl (fun QQ hK => ?_);go_simp;refine (psurvey1 HLL.out HN30.out HSS.out (HG.out.on hHeld.out) (HL.out.on hHeld.out)).mono ?_;rintro e V ⟨G1,c1,rfl,hl,hb⟩;go_wp2_with fail;replace hHeld := zj (hHeld.out.trans' hb);have HR := zj hl;clear hb hl;refine hK.out _ _ hHeld (fun _ => ?_);clear hK;try simp only [Act.put,jA,jZ,jS]
 refine rd1 14 rfl (fun QQ hK => ?_);go_simp;refine (rsurvey1 HLL.out HN30.out HSS.out (HG.out.on hHeld.out) (HL.out.on hHeld.out)).mono ?_;rintro e V ⟨G2,c2,rfl,hl,hb⟩;go_wp2_with fail;replace hHeld := zj (hHeld.out.trans' hb);replace HR := zj (HR.out.on hb);have HR2 := zj hl;clear hb hl;refine hK.out _ _ hHeld (fun _ => ?_);clear hK;try simp only [Act.put,jA,jZ,jS]
 refine rd1 15 rfl (fun QQ hK => ?_);go_simp;refine (ints1 (q := true) HLS.out HLS.out HN6.out HN6.out (by simp) HR.out HR2.out).mono ?_;rintro e V ⟨rfl,hb⟩;go_wp2_with fail;replace hHeld := zj (hHeld.out.trans' hb);clear hb;refine hK.out _ _ hHeld (fun _ => ?_);clear hK;try simp only [Act.put,jA,jZ,jS]
 clear HR HR2;refine tk 16 (some 45) ?_ rfl rfl ?_ ?_;rotate_left
 ·intro W h;(try dsimp only at h);go_simp;(try with_reducible rfl)
 try simp only [Act.put,jA,jZ,jS]
 refine tk 17 (some 46) ?_ rfl rfl ?_ ?_;rotate_left
 ·intro W h;(try dsimp only at h);go_simp;(try with_reducible rfl)
 try simp only [Act.put,jA,jZ,jS]
 refine wpAnyH_done (by kernel_rfl) ?_ _;replace HB := zj (HB.out.trans' hHeld.out);replace HG := zj (HG.out.on hHeld.out);replace HL := zj (HL.out.on hHeld.out);clear hHeld HX HY HXG HYG HSM HLS HN6;generalize hVb : V = Vb at *;have HK0 := zj (gbox_new 35 0 LV0 NV0 CV0 Mv0 Vb);have HKG0 := zj (hasG0 (gbox 35 0 LV0 NV0 CV0 Mv0 Vb));have HB0 := zj (gbox_below 35 0 LV0 NV0 CV0 Mv0 Vb);go_wp2_with (refine store_page Tryz.sizeG rfl _ _ rfl Vb.heap.size 0 LV0 NV0 CV0 Mv0 rfl rfl (gbox_zero 35 Vb) ?_;rw [setG_alloc];generalize gbox 35 0 LV0 NV0 CV0 Mv0 Vb = V1 at *)
 go_loopw [10] (fun iv wr => ∃ (j : Nat) (kl : Int) (al : LV) (bl : NV) (cl : CV) (ml : Mv) (y : GP.Pg),j ≤ n ∧ iv = .int .i64 j ∧ Hid (Gx 35 Vb.heap.size kl al bl cl ml wr) ∧ Hid (HasG wr kl al bl cl ml y) ∧ Hid (Small y) ∧ Hid (Below Vb.heap.size Vb wr)) (fun iv _ => n - (intOf iv).toNat)
 case atStart => exact ⟨0,0,LV0,NV0,CV0,Mv0,GP.Pg0,Nat.zero_le _,rfl,HK0,HKG0,zj small0,HB0⟩
 case round =>
  obtain ⟨j,kl,al,bl,cl,ml,y,hj,rfl,HK,HKG,HSY,HBV⟩ := hrel;clear HK0 HKG0 HB0;by_cases hlt : j < n
  ·have d1 : decide ((j : Int) < n) = true := dT (by omega)
   obtain ⟨s,hs⟩ : ∃ s,L[j]? = some s := ⟨_,List.getElem?_eq_getElem (by have := HLL.out;omega)⟩;obtain ⟨x,r,hsm,hp,hr⟩ := dec_two s (HSS.out s (List.mem_of_getElem? hs));have HSM := zj hsm;have HP := zj hp;have HRF := zj hr
   have HCE : Hid (∀ W,Below Vb.heap.size Vb W → W.cell? (ad.add j) = some (.string s)) := zj (fun W hW => by
    obtain ⟨a,e,hab,hc⟩ := HL.out j s hs;obtain rfl := Option.some.inj e
    exact (hW.cell (by rw [L5.addr_block];exact hab)).trans hc)
   obtain ⟨qs,hqs⟩ : ∃ qs : Bool,qs = true ↔ x = y := by
    by_cases e : x = y
    ·exact ⟨true,by simp [e]⟩
    ·exact ⟨false,by simp [e]⟩
   have HQS := zj hqs;obtain ⟨sv,hsv⟩ : ∃ sv,GP.self x = sv := ⟨_,rfl⟩;obtain ⟨rv,hrv⟩ : ∃ rv,GP.right x = rv := ⟨_,rfl⟩;have HS := zj hsv;have HR0 := zj hrv
   have q1 : (0 : Int) ≤ j := by omega
   have q2 : (j : Int) < n := by omega
   have hc1 := HCE.out _ HBV.out;have HGV := zj (HG.out.on HBV.out);clear hs hsm hp hr hqs hsv hrv;go_wp2_with fail;refine (HP.out _ HGV.out).mono ?_;rintro e V ⟨kp,ap,bp,cp,mp,rfl,hG,hO,hb⟩;have hba := gbox_below 35 kp ap bp cp mp V;have hbb := hb.trans' hba;have HLT : Hid (Vb.heap.size < wr.heap.size) := zj HK.out.lt;have HBV := zj (HBV.out.trans (hbb.mono HBV.out.size));have HGV := zj (HGV.out.on hbb);have HK := zj (HK.out.below hbb);have HKG := zj (HKG.out.on hbb);have HX := zj (gbox_new 35 kp ap bp cp mp V);have HXG := zj (hG.on hba);have HOW := zj hO;have hc2 := HCE.out _ HBV.out;clear hb hba hbb hG hO HP hc1;go_wp2_with (refine store_page Tryz.sizeG rfl _ _ rfl V.heap.size kp ap bp cp mp rfl rfl (gbox_zero 35 V) ?_;rw [setG_alloc];generalize gbox 35 kp ap bp cp mp V = V1 at *);generalize V.heap.size = gp at *;refine (HRF.out _ HGV.out).mono ?_;rintro e V ⟨kq,aq,bq,cq,mq,rfl,hG,hO,hb⟩;have hba := gbox_below 46 kq aq bq cq mq V;have hbb := hb.trans' hba;have HBV := zj (HBV.out.trans (hbb.mono HBV.out.size));have HGV := zj (HGV.out.on hbb);have HK := zj (HK.out.below hbb);have HKG := zj (HKG.out.on hbb);have HX := zj (HX.out.below hbb);have HXG := zj (HXG.out.on hbb);have HY := zj (gbox_new 46 kq aq bq cq mq V);have HYG := zj (hG.on hba);clear hb hba hbb hG hO HRF hc2;go_wp2_with (refine store_page Tryz.sizeGD rfl _ _ rfl V.heap.size kq aq bq cq mq rfl rfl (gbox_zero 46 V) ?_;rw [setG_alloc];generalize gbox 46 kq aq bq cq mq V = V2 at *);generalize V.heap.size = gq at *;have hHeld0 : Hid (Below V2.heap.size V2 V2.drew) := zj (L10.drew_below (Below.refl _ _));refine wp_region_held_drew (S := fun V => Hid (Below V2.heap.size V2 V)) (by kernel_rfl) hHeld0 (fun hHeld => ?_);clear hHeld0;generalize V2.drew = D at *;refine L10.take_op' (i := 0) (d := some 70) (v := (gv kp ap bp cp mp)) rfl rfl (by kernel_rfl) (by kernel_rfl) (by kernel_rfl) (fun _ _ _ h => h) (yieldsP (.tmp 11) rfl (by kernel_rfl) rfl fun W h => HX.out.below h.out) (by assumption) ?_;try simp only [Act.put,jA,jZ,jS]
   refine L10.take_op' (i := 2) (d := some 72) (v := (gv kq aq bq cq mq)) rfl rfl (by kernel_rfl) (by kernel_rfl) (by kernel_rfl) (fun _ _ _ h => h) (yieldsD (.tmp 13) rfl (by kernel_rfl) rfl fun W h => HY.out.below h.out) (by assumption) ?_;try simp only [Act.put,jA,jZ,jS]
   refine rd1 1 rfl (fun QQ hK => ?_);go_simp;refine (gref_any _ (HXG.out.on hHeld.out) HSM.out).mono ?_;rintro e V ⟨a',rfl,hr,-,hb⟩;go_wp2_with fail;replace hHeld := zj (hHeld.out.trans' hb);have HR := zj hr;clear hb hr;refine hK.out _ _ hHeld (fun _ => ?_);clear hK;try simp only [Act.put,jA,jZ,jS]
   refine rd1 3 rfl (fun QQ hK => ?_);go_simp;refine (rsame_any _ HR.out (HYG.out.on hHeld.out) HSM.out HSM.out (q := true) (by simp)).mono ?_;rintro e V ⟨rfl,hb⟩;go_wp2_with fail;replace hHeld := zj (hHeld.out.trans' hb);clear hb;refine hK.out _ _ hHeld (fun _ => ?_);clear hK;try simp only [Act.put,jA,jZ,jS]
   clear HR;refine tk 4 (some 74) ?_ rfl rfl ?_ ?_;rotate_left
   ·intro W h;(try dsimp only at h);go_simp;(try with_reducible rfl)
   try simp only [Act.put,jA,jZ,jS]
   refine tk 5 (some 75) ?_ rfl rfl ?_ ?_;rotate_left
   ·intro W h;(try dsimp only at h);go_simp;(try with_reducible rfl)
   try simp only [Act.put,jA,jZ,jS]
   refine tk 6 (some 76) ?_ rfl rfl ?_ ?_;rotate_left
   ·intro W h;(try dsimp only at h);go_simp;(try with_reducible rfl)
   try simp only [Act.put,jA,jZ,jS]
   refine tk 7 (some 77) ?_ rfl rfl ?_ ?_;rotate_left
   ·intro W h;(try dsimp only at h);go_simp;(try with_reducible rfl)
   try simp only [Act.put,jA,jZ,jS]
   refine tk 8 (some 78) ?_ rfl rfl ?_ ?_;rotate_left
   ·intro W h;(try dsimp only at h);go_simp;(try with_reducible rfl)
   try simp only [Act.put,jA,jZ,jS]
   refine tk 9 (some 79) ?_ rfl rfl ?_ ?_;rotate_left
   ·intro W h;(try dsimp only at h);go_simp;(try with_reducible rfl)
   try simp only [Act.put,jA,jZ,jS]
   refine tk 10 (some 80) ?_ rfl rfl ?_ ?_;rotate_left
   ·intro W h;(try dsimp only at h);go_simp;(try with_reducible rfl)
   try simp only [Act.put,jA,jZ,jS]
   refine L10.take_op' (i := 11) (d := some 81) (v := (gv kp ap bp cp mp)) rfl rfl (by kernel_rfl) (by kernel_rfl) (by kernel_rfl) (fun _ _ _ h => h) (yieldsP (.tmp 11) rfl (by kernel_rfl) rfl fun W h => HX.out.below h.out) (by assumption) ?_;try simp only [Act.put,jA,jZ,jS]
   refine L10.take_op' (i := 13) (d := some 83) (v := (gv kq aq bq cq mq)) rfl rfl (by kernel_rfl) (by kernel_rfl) (by kernel_rfl) (fun _ _ _ h => h) (yieldsD (.tmp 13) rfl (by kernel_rfl) rfl fun W h => HY.out.below h.out) (by assumption) ?_;try simp only [Act.put,jA,jZ,jS]
   refine rd1 12 rfl (fun QQ hK => ?_);go_simp;refine ((pself1 HXG.out HS.out).out _).mono ?_;rintro e V ⟨rfl,hb⟩;go_wp2_with fail;replace hHeld := zj (hHeld.out.trans' hb);clear hb;refine hK.out _ _ hHeld (fun _ => ?_);clear hK;try simp only [Act.put,jA,jZ,jS]
   refine rd1 14 rfl (fun QQ hK => ?_);go_simp;refine ((rself1 HYG.out HS.out).out _).mono ?_;rintro e V ⟨rfl,hb⟩;go_wp2_with fail;replace hHeld := zj (hHeld.out.trans' hb);clear hb;refine hK.out _ _ hHeld (fun _ => ?_);clear hK;try simp only [Act.put,jA,jZ,jS]
   refine tk 15 (some 85) ?_ rfl rfl ?_ ?_;rotate_left
   ·intro W h;(try dsimp only at h);go_simp;(try with_reducible rfl)
   try simp only [Act.put,jA,jZ,jS]
   refine tk 16 (some 86) ?_ rfl rfl ?_ ?_;rotate_left
   ·intro W h;(try dsimp only at h);go_simp;(try with_reducible rfl)
   try simp only [Act.put,jA,jZ,jS]
   refine tk 17 (some 87) ?_ rfl rfl ?_ ?_;rotate_left
   ·intro W h;(try dsimp only at h);go_simp;(try with_reducible rfl)
   try simp only [Act.put,jA,jZ,jS]
   refine L10.take_op' (i := 18) (d := some 88) (v := (gv kp ap bp cp mp)) rfl rfl (by kernel_rfl) (by kernel_rfl) (by kernel_rfl) (fun _ _ _ h => h) (yieldsP (.tmp 11) rfl (by kernel_rfl) rfl fun W h => HX.out.below h.out) (by assumption) ?_;try simp only [Act.put,jA,jZ,jS]
   refine L10.take_op' (i := 20) (d := some 90) (v := (gv kq aq bq cq mq)) rfl rfl (by kernel_rfl) (by kernel_rfl) (by kernel_rfl) (fun _ _ _ h => h) (yieldsD (.tmp 13) rfl (by kernel_rfl) rfl fun W h => HY.out.below h.out) (by assumption) ?_;try simp only [Act.put,jA,jZ,jS]
   refine rd1 19 rfl (fun QQ hK => ?_);go_simp;refine ((pright1 HXG.out HR0.out).out _).mono ?_;rintro e V ⟨rfl,hb⟩;go_wp2_with fail;replace hHeld := zj (hHeld.out.trans' hb);clear hb;refine hK.out _ _ hHeld (fun _ => ?_);clear hK;try simp only [Act.put,jA,jZ,jS]
   refine rd1 21 rfl (fun QQ hK => ?_);go_simp;refine ((rright1 HYG.out HR0.out).out _).mono ?_;rintro e V ⟨rfl,hb⟩;go_wp2_with fail;replace hHeld := zj (hHeld.out.trans' hb);clear hb;refine hK.out _ _ hHeld (fun _ => ?_);clear hK;try simp only [Act.put,jA,jZ,jS]
   refine tk 22 (some 92) ?_ rfl rfl ?_ ?_;rotate_left
   ·intro W h;(try dsimp only at h);go_simp;(try with_reducible rfl)
   try simp only [Act.put,jA,jZ,jS]
   refine tk 23 (some 93) ?_ rfl rfl ?_ ?_;rotate_left
   ·intro W h;(try dsimp only at h);go_simp;(try with_reducible rfl)
   try simp only [Act.put,jA,jZ,jS]
   refine tk 24 (some 94) ?_ rfl rfl ?_ ?_;rotate_left
   ·intro W h;(try dsimp only at h);go_simp;(try with_reducible rfl)
   try simp only [Act.put,jA,jZ,jS]
   refine L10.take_op' (i := 25) (d := some 95) (v := (gv kp ap bp cp mp)) rfl rfl (by kernel_rfl) (by kernel_rfl) (by kernel_rfl) (fun _ _ _ h => h) (yieldsP (.tmp 11) rfl (by kernel_rfl) rfl fun W h => HX.out.below h.out) (by assumption) ?_;try simp only [Act.put,jA,jZ,jS]
   refine L10.take_op' (i := 26) (d := some 96) (v := (gv kl al bl cl ml)) rfl rfl (by kernel_rfl) (by kernel_rfl) (by kernel_rfl) (fun _ _ _ h => h) (yieldsP (.tmp 9) rfl (by kernel_rfl) rfl fun W h => HK.out.below h.out) (by assumption) ?_;try simp only [Act.put,jA,jZ,jS]
   refine L10.take_op' (i := 28) (d := some 98) (v := (gv kq aq bq cq mq)) rfl rfl (by kernel_rfl) (by kernel_rfl) (by kernel_rfl) (fun _ _ _ h => h) (yieldsD (.tmp 13) rfl (by kernel_rfl) rfl fun W h => HY.out.below h.out) (by assumption) ?_;try simp only [Act.put,jA,jZ,jS]
   refine L10.take_op' (i := 29) (d := some 99) (v := (gv kl al bl cl ml)) rfl rfl (by kernel_rfl) (by kernel_rfl) (by kernel_rfl) (fun _ _ _ h => h) (yieldsP (.tmp 9) rfl (by kernel_rfl) rfl fun W h => HK.out.below h.out) (by assumption) ?_;try simp only [Act.put,jA,jZ,jS]
   refine rd1 27 rfl (fun QQ hK => ?_);go_simp;refine (psame_any _ (HXG.out.on hHeld.out) (HKG.out.on hHeld.out) HSM.out HSY.out (q := qs) HQS.out).mono ?_;rintro e V ⟨rfl,hb⟩;go_wp2_with fail;replace hHeld := zj (hHeld.out.trans' hb);clear hb;refine hK.out _ _ hHeld (fun _ => ?_);clear hK;try simp only [Act.put,jA,jZ,jS]
   refine rd1 30 rfl (fun QQ hK => ?_);go_simp;refine (gref_any _ (HKG.out.on hHeld.out) HSY.out).mono ?_;rintro e V ⟨a',rfl,hr,-,hb⟩;go_wp2_with fail;replace hHeld := zj (hHeld.out.trans' hb);have HR := zj hr;clear hb hr;refine hK.out _ _ hHeld (fun _ => ?_);clear hK;try simp only [Act.put,jA,jZ,jS]
   refine rd1 31 rfl (fun QQ hK => ?_);go_simp;refine (rsame_any _ (HYG.out.on hHeld.out) HR.out HSM.out HSY.out (q := qs) HQS.out).mono ?_;rintro e V ⟨rfl,hb⟩;go_wp2_with fail;replace hHeld := zj (hHeld.out.trans' hb);clear hb;refine hK.out _ _ hHeld (fun _ => ?_);clear hK;try simp only [Act.put,jA,jZ,jS]
   clear HR;refine tk 32 (some 102) ?_ rfl rfl ?_ ?_;rotate_left
   ·intro W h;(try dsimp only at h);go_simp;(try with_reducible rfl)
   try simp only [Act.put,jA,jZ,jS]
   refine tk 33 (some 103) ?_ rfl rfl ?_ ?_;rotate_left
   ·intro W h;(try dsimp only at h);go_simp;(try with_reducible rfl)
   try simp only [Act.put,jA,jZ,jS]
   refine wpAnyH_done (by kernel_rfl) ?_ _;have hb := hHeld.out;have HBV := zj (HBV.out.trans (hb.mono HBV.out.size));have HGV := zj (HGV.out.on hb);have HK := zj (HK.out.below hb);have HKG := zj (HKG.out.on hb);have HX := zj (HX.out.below hb);have HXG := zj (HXG.out.on hb);clear hb hHeld HY HYG;go_wp2_with (first | (refine load_wantedP0 (.tmp 11) rfl HX.out rfl (by rfl) ?_) | (refine store_page Tryz.sizeG rfl _ _ rfl Vb.heap.size kp ap bp cp mp rfl rfl HK.out ?_));have HKN := zj (setG_box HK.out kp ap bp cp mp);have HKGN := zj (HXG.out.stored HOW.out HLT.out kp ap bp cp mp);have HBN := zj (setG_below HBV.out (Nat.le_refl _) kp ap bp cp mp);have q3 : wrap64 ((j : Int) + 1) = (j : Int) + 1 := IntWalk.wrap64_in _ (by have := HN30.out;omega);have HQ3 := zj q3;clear q3
   go_roundw
   case rel => exact ⟨j + 1,kp,ap,bp,cp,mp,x,by omega,by rw [HQ3.out];simp,HKN,HKGN,HSM,HBN⟩
   case measure => rw [HQ3.out];simp only [intOf];omega
  ·have d1 : decide ((j : Int) < n) = false := dF (by omega)
   go_wp2_with fail;refine (HF.out _ (HG.out.on HBV.out)).mono ?_;rintro e V4 ⟨rfl,hb⟩;go_wp2_with fail;go_ret;exact ⟨rfl,(HB.out.trans' HBV.out).trans' hb⟩
end Go.Proofs.YtpeghilfldpgfaaGreatDoor
