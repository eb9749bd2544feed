import Derived.Test.YtpeghilfldpgfaaGreatDoorQT
import Derived.Test.YtpeghilfldpgfaaGreatDoorT17
set_option linter.unusedVariables false
set_option linter.unusedSimpArgs false
set_option maxHeartbeats 8000000
set_option maxRecDepth 100000
namespace Go.Proofs.YtpeghilfldpgfaaGreatDoor
open Go.RowKit
theorem pat_any (A : Option Addr) (l : List ByteArray) (ca : Nat) (i : Int) (w : World) (hg : L10.Glo w) (ha : L5.Lies w w.heap.size A l) (hs : ∀ s ∈ l,s.size ≤ 1000000) :
  Calls Tryz.prog 10 #[.slice A l.length ca,.int .i64 i] w fun e w' => AtG l i w.heap.size e w' ∧ Below w.heap.size w w' := by
 by_cases h : 0 ≤ i ∧ i < l.length
 ·obtain ⟨n,rfl⟩ := Int.eq_ofNat_of_zero_le h.1
  exact pat_in A l ca n w hg ha (by omega) hs
 ·exact pat_out A l ca i w h
theorem rat_any (A : Option Addr) (l : List ByteArray) (ca : Nat) (i : Int) (w : World) (hg : L10.Glo w) (ha : L5.Lies w w.heap.size A l) (hs : ∀ s ∈ l,s.size ≤ 1000000) :
  Calls Tryz.prog 11 #[.slice A l.length ca,.int .i64 i] w fun e w' => AtG l i w.heap.size e w' ∧ Below w.heap.size w w' := by
 by_cases h : 0 ≤ i ∧ i < l.length
 ·obtain ⟨n,rfl⟩ := Int.eq_ofNat_of_zero_le h.1
  exact rat_in A l ca n w hg ha (by omega) hs
 ·exact rat_out A l ca i w h
theorem AtG.kind {l : List ByteArray} {i : Nat} {B : Nat} {e : Ending} {w' : World} (h : AtG l i B e w') : ∃ k a b c m r,e = .returned (.tuple #[gv k a b c m,.int .i64 r]) ∧ k = GP.kindAt l i ∧ ((r = 0) ∨ ((r == 0) = false ∧ k = 0)) := by
 rcases h with ⟨k,a,b,c,m,x,h1,rfl,h2,_⟩ | ⟨r,h1,h2,rfl⟩
 ·exact ⟨k,a,b,c,m,0,rfl,by unfold GP.kindAt;rw [h1];exact h2.kind,.inl rfl⟩
 ·refine ⟨0,LV0,NV0,CV0,Mv0,r,rfl,by unfold GP.kindAt;rw [h1],.inr ⟨?_,rfl⟩⟩
  rcases h2 with rfl | rfl <;> rfl
theorem own_on {w w' : World} {b e s n : Nat} {v : Value} {xs : List Value} (h : w.ownsRow b e s v n xs) (k : Below w.heap.size w w') : w'.ownsRow b e s v n xs :=
 h.kept (row := none) ⟨k.os,k.tape,k.output,k.size,fun i hi _ => k.block i hi⟩ (by cases v.ownBlock <;> simp)
theorem Tryz.infoInt : (Tryz.prog.info? 3).map (fun i => (i.zero,i.size,i.bytes)) = some (some (.int .i64 0),1,8) := by kernel_rfl
def surv (l : List ByteArray) (n k : Nat) : List Int := (List.range n).map fun j => if j < k then GP.kindAt l j else 0
theorem surv_length (l : List ByteArray) (n k : Nat) : (surv l n k).length = n := by simp [surv]
theorem surv_zero (l : List ByteArray) (n : Nat) : L11.numCells (surv l n 0) = List.replicate n (.int .i64 0) := by
 apply List.ext_getElem
 ·simp [L11.numCells,surv]
 ·intro i h1 h2
  simp [L11.numCells,surv]
theorem surv_all (l : List ByteArray) : surv l l.length l.length = GP.survey l := by
 unfold surv GP.survey;apply List.map_congr_left;intro j hj;rw [if_pos (List.mem_range.1 hj)]
theorem surv_at {l : List ByteArray} {n k : Nat} (h : k < n) : (L11.numCells (surv l n k))[k]? = some (.int .i64 0) := by simp [L11.numCells,surv,h]
theorem surv_set {l : List ByteArray} {n k : Nat} (h : k < n) : (L11.numCells (surv l n k)).set k (.int .i64 (GP.kindAt l k)) = L11.numCells (surv l n (k + 1)) := by
 apply List.ext_getElem?;intro i;rw [List.getElem?_set];by_cases e : k = i
 ·subst e
  simp [L11.numCells,surv,h]
 ·rw [if_neg e]
  simp only [L11.numCells,surv,List.getElem?_map];by_cases hi : i < n
  ·rw [List.getElem?_range hi]
   simp only [Option.map_some]
   have : (i < k + 1) ↔ i < k := by omega
   simp only [this]
  ·simp [hi]
theorem psurvey_any (A : Option Addr) (l : List ByteArray) (ca : Nat) (w : World) (hg : L10.Glo w) (ha : L5.Lies w w.heap.size A l) (hl : l.length ≤ 1000) (hs : ∀ s ∈ l,s.size ≤ 1000000) :
  Calls Tryz.prog 15 #[.slice A l.length ca] w fun e w' => ∃ G cap,e = .returned (.slice G l.length cap) ∧ L11.LiesN w' w'.heap.size G (GP.survey l) ∧ Below w.heap.size w w' := by
 obtain ⟨i0,hi,hz0,hz1,hz2⟩ := info_parts Tryz.infoInt;have HAT := zj (fun (k : Nat) W (h : Below w.heap.size w W) => pat_any A l ca k W (hg.on h) (ha.on h) hs);have HSV := zj (surv_all l);obtain ⟨n,hn⟩ : ∃ n,n = l.length := ⟨_,rfl⟩;rw [← hn] at hl HAT HSV ⊢;clear hg ha hs hn;go_enter Tryz.func15,Tryz.ntmps15;go_wp2_with (at_make;refine wpList_make_full _ rfl _ _ 27 rfl w.heap.size 3 i0 (.int .i64 0) 1 Tryz.underlying27 hi hz0 hz1 _ _ _ _ n rfl rfl rfl rfl (by rw [hz2];omega) (by unfold maxLen;omega) (Nat.le_refl _) ?_;intro w1 hown1 hg1);have HB1 : Hid (Below w.heap.size w w1) := zj ((Below.refl _ w).grown hg1 (Nat.le_refl _) (by simp))
 have HO1 : Hid (w1.ownsRow w.heap.size 3 1 (.slice (some ⟨w.heap.size,0,none⟩) n n) n (L11.numCells (surv l n 0))) := zj (by
  rw [surv_zero];have h := hown1;rw [Nat.mul_one,show (Value.int IntKind.i64 0).cells = #[.int .i64 0] from rfl,toList_madeCells_one] at h
  exact h)
 clear hown1 hg1
 go_loopw [12] (fun iv wr => ∃ k : Nat,k ≤ n ∧ iv = .int .i64 k ∧ Hid (wr.ownsRow w.heap.size 3 1 (.slice (some ⟨w.heap.size,0,none⟩) n n) n (L11.numCells (surv l n k))) ∧ Hid (Below w.heap.size w wr)) (fun iv _ => n - (intOf iv).toNat)
 case atStart => exact ⟨0,Nat.zero_le _,rfl,HO1,HB1⟩
 case round =>
  obtain ⟨k,hk,rfl,HO,HB⟩ := hrel;by_cases hlt : k < n
  ·have d1 : decide ((k : Int) < n) = true := dT (by omega)
   have HST := zj (@surv_set l n k hlt);have HS0 := zj (@surv_at l n k hlt)
   have q1 : (0 : Int) ≤ k := by omega
   have q2 : (k : Int) < n := by omega
   go_wp2_with fail;refine (HAT.out k _ HB.out).mono ?_;rintro e V ⟨hd,hb⟩;obtain ⟨kd,a,b,c,m,r,rfl,hkd,-⟩ := hd.kind;rw [← hkd] at HST;clear hd hkd;have hba := gbox_below 35 kd a b c m V;have x0 := (gbox_new 35 kd a b c m V).cells.1;have hsz := gbox_size 35 kd a b c m V;have HOX := zj (own_on HO.out (hb.trans' hba));have HBX : Hid (Below w.heap.size w (gbox 35 kd a b c m V)) := zj (HB.out.trans ((hb.trans' hba).mono HB.out.size));have c1 : (gbox 35 kd a b c m V).cell? ⟨w.heap.size,k,none⟩ = some (.int .i64 0) := (HOX.out.cellAt k (by omega)).trans HS0.out;have f1 : (gbox 35 kd a b c m V).frozen? ⟨w.heap.size,k,none⟩ = false := HOX.out.frozenAt k;clear hb hba hsz;go_wp2_with (with_reducible refine store_page Tryz.sizeG rfl _ _ rfl V.heap.size kd a b c m rfl rfl (gbox_zero 35 V) ?_;rw [setG_alloc];generalize gbox 35 kd a b c m V = V1 at *);have HON := zj (HOX.out.stored k (.int .i64 kd)).1;rw [HST.out] at HON;have HBN := zj (HBX.out.setCell (p := ⟨w.heap.size,k,none⟩) (Nat.le_refl _) (.int .i64 kd));clear c1 f1 x0
   go_roundw
   case rel => exact ⟨k + 1,by omega,by go_num,HON,HBN⟩
   case measure => simp [intOf];omega
  ·have hkn : k = n := by omega
   have HL : Hid (L11.LiesN wr wr.heap.size (some ⟨w.heap.size,0,none⟩) (GP.survey l)) := zj (by
    have h := HO.out;rw [hkn,HSV.out] at h
    exact L11.liesN_own h (by rw [← HSV.out,surv_length]))
   have d1 : decide ((k : Int) < n) = false := dF (by omega);have d0 : decide (k < n) = false := dF hlt;clear hkn hlt;go_wp2_with fail;go_ret;exact ⟨_,_,rfl,HL.out,HB.out⟩
theorem take_kind {l : List ByteArray} {k : Nat} (h : k < l.length) : (GP.survey l).take (k + 1) = (GP.survey l).take k ++ [GP.kindAt l k] := by
 have e : (GP.survey l)[k]? = some (GP.kindAt l k) := by simp [GP.survey,h]
 rw [List.take_add_one,e];rfl
theorem rsurvey_any (A : Option Addr) (l : List ByteArray) (ca : Nat) (w : World) (hg : L10.Glo w) (ha : L5.Lies w w.heap.size A l) (hl : l.length ≤ 1000) (hs : ∀ s ∈ l,s.size ≤ 1000000) :
  Calls Tryz.prog 16 #[.slice A l.length ca] w fun e w' => ∃ G cap,e = .returned (.slice G l.length cap) ∧ L11.LiesN w' w'.heap.size G (GP.survey l) ∧ Below w.heap.size w w' := by
 obtain ⟨i0,hi,hz0,hz1,hz2⟩ := info_parts Tryz.infoInt;have HAT := zj (fun (k : Nat) W (h : Below w.heap.size w W) => rat_any A l ca k W (hg.on h) (ha.on h) hs);have HTK : Hid (∀ k : Nat,k < l.length → (GP.survey l).take (k + 1) = (GP.survey l).take k ++ [GP.kindAt l k]) := zj (fun k h => take_kind h);have HSL := zj (GP.survey_length l);obtain ⟨n,hn⟩ : ∃ n,n = l.length := ⟨_,rfl⟩;rw [← hn] at hl HAT HSL ⊢;have HTK2 : Hid (∀ k,k < n → (GP.survey l).take (k + 1) = (GP.survey l).take k ++ [GP.kindAt l k]) := zj (fun k h => HTK.out k (by omega));clear hg ha hs hn HTK;go_enter Tryz.func16,Tryz.ntmps16;go_wp2_with fail
 go_loopw [3,4] (fun ov iv wr => ∃ (k g cap : Nat),k ≤ n ∧ iv = .int .i64 k ∧ ov = .slice (some ⟨g,0,none⟩) k cap ∧ Hid (wr.ownsRow w.heap.size 3 1 (.slice (some ⟨g,0,none⟩) k cap) k (L11.numCells ((GP.survey l).take k))) ∧ Hid (Below w.heap.size w wr)) (fun _ iv _ => n - (intOf iv).toNat)
 case atStart => exact ⟨0,w.heap.size,0,Nat.zero_le _,rfl,rfl,zj (World.ownsRow_lit w #[] 0 (Nat.le_refl _) (Nat.zero_le _) rfl),zj (L5.below_alloc _ _)⟩
 case round =>
  obtain ⟨k,g,cap,hk,rfl,rfl,HO,HB⟩ := hrel;by_cases hlt : k < n
  ·have d1 : decide ((k : Int) < n) = true := dT (by omega)
   have HST := zj (HTK2.out k hlt)
   have q1 : (0 : Int) ≤ k := by omega
   have q2 : (k : Int) < n := by omega
   go_wp2_with fail;refine (HAT.out k _ HB.out).mono ?_;rintro e V ⟨hd,hb⟩;obtain ⟨kd,a,b,c,m,r,rfl,hkd,hr⟩ := hd.kind;rw [← hkd] at HST;clear hd hkd;have hba := gbox_below 46 kd a b c m V;have x0 := (gbox_new 46 kd a b c m V).cells.1;have HOX := zj (own_on HO.out (hb.trans' hba));have HBX : Hid (Below w.heap.size w (gbox 46 kd a b c m V)) := zj (HB.out.trans ((hb.trans' hba).mono HB.out.size));clear hb hba
   have tail : ∀ (V1 : World) (u : Int),u = kd → Hid (V1.ownsRow w.heap.size 3 1 (.slice (some ⟨g,0,none⟩) k cap) k (L11.numCells ((GP.survey l).take k))) → Hid (Below w.heap.size w V1) → ∀ (g' cap' : Nat) (w1 : World),w1.ownsRow w.heap.size 3 1 (.slice (some ⟨g',0,none⟩) (k + 1) cap') (k + 1) (L11.numCells ((GP.survey l).take k) ++ [.int .i64 u]) → (V1.alloc (.cells #[.int .i64 u] 3)).grownBy w1 (some g) →
     Hid (w1.ownsRow w.heap.size 3 1 (.slice (some ⟨g',0,none⟩) (k + 1) cap') (k + 1) (L11.numCells ((GP.survey l).take (k + 1)))) ∧ Hid (Below w.heap.size w w1) := by
    rintro V1 u rfl h1 h2 g' cap' w1 h3 h4;refine ⟨zj ?_,zj ?_⟩
    ·rw [HST.out,show L11.numCells ((GP.survey l).take k ++ [u]) = L11.numCells ((GP.survey l).take k) ++ [.int .i64 u] from by simp [L11.numCells]]
     exact h3
    ·exact (h2.out.alloc h2.out.size _).grown h4 (by have := h2.out.size;simp;omega) (fun j hj => by
      obtain rfl := Option.some.inj hj;have := h1.out.lt g rfl
      omega)
   have HT := zj tail;clear tail;rcases hr with rfl | ⟨hr,rfl⟩
   ·go_wp2_with (first | (at_builtin;refine wpList_append_lies _ rfl _ _ 27 rfl w.heap.size 3 i0 (.int .i64 0) 1 8 Tryz.underlying27 hi hz0 hz1 hz2 rfl (by decide) (.slice (some ⟨g,0,none⟩) k cap) k _ rfl (HOX.out.alloc _) ⟨V1.heap.size,0,none⟩ 1 1 [.int .i64 kd] rfl rfl (World.news_of_block (cs := #[.int .i64 kd]) (t := 3) (fr := (0,0)) (heap_alloc_new V1 _)) (L11.num_one _) (by omega) (by unfold maxLen;omega) (by omega) (by have := HBX.out.size;simp;omega) (V1.heap.size + 1) (by simp) ?_;intro g' cap' w1 hown' hgrow hat hlt1) | (with_reducible refine store_page Tryz.sizeGD rfl _ _ rfl V.heap.size kd a b c m rfl rfl (gbox_zero 46 V) ?_;rw [setG_alloc];generalize gbox 46 kd a b c m V = V1 at *))
    obtain ⟨h1,h2⟩ := HT.out V1 kd rfl HOX HBX g' cap' w1 hown' hgrow;clear hown' hgrow hat hlt1 x0
    go_roundw
    case rel => exact ⟨k + 1,g',cap',by omega,by go_num,rfl,h1,h2⟩
    case measure => simp [intOf];omega
   ·go_wp2_with (first | (at_builtin;refine wpList_append_lies _ rfl _ _ 27 rfl w.heap.size 3 i0 (.int .i64 0) 1 8 Tryz.underlying27 hi hz0 hz1 hz2 rfl (by decide) (.slice (some ⟨g,0,none⟩) k cap) k _ rfl (HOX.out.alloc _) ⟨V1.heap.size,0,none⟩ 1 1 [.int .i64 0] rfl rfl (World.news_of_block (cs := #[.int .i64 0]) (t := 3) (fr := (0,0)) (heap_alloc_new V1 _)) (L11.num_one _) (by omega) (by unfold maxLen;omega) (by omega) (by have := HBX.out.size;simp;omega) (V1.heap.size + 1) (by simp) ?_;intro g' cap' w1 hown' hgrow hat hlt1) | (with_reducible refine store_page Tryz.sizeGD rfl _ _ rfl V.heap.size 0 a b c m rfl rfl (gbox_zero 46 V) ?_;rw [setG_alloc];generalize gbox 46 0 a b c m V = V1 at *))
    obtain ⟨h1,h2⟩ := HT.out V1 0 rfl HOX HBX g' cap' w1 hown' hgrow;clear hown' hgrow hat hlt1 x0
    go_roundw
    case rel => exact ⟨k + 1,g',cap',by omega,by go_num,rfl,h1,h2⟩
    case measure => simp [intOf];omega
  ·have hkn : k = n := by omega
   have HL : Hid (L11.LiesN wr wr.heap.size (some ⟨g,0,none⟩) (GP.survey l)) := zj (by
    have h := HO.out;rw [List.take_of_length_le (by rw [HSL.out];omega)] at h
    exact L11.liesN_own h (by rw [HSL.out];exact hkn))
   have d1 : decide ((k : Int) < n) = false := dF (by omega);have d0 : decide (k < n) = false := dF hlt;have hkn' := zj hkn;clear hkn hlt;go_wp2_with fail;go_ret;exact ⟨some ⟨g,0,none⟩,cap,congrArg (fun z => Ending.returned (Value.slice (some ⟨g,0,none⟩) z cap)) hkn'.out,HL.out,HB.out⟩
end Go.Proofs.YtpeghilfldpgfaaGreatDoor
namespace Go.Proofs.YtpeghilfldpgfaaGreatDoor.L13
open Go.RowKit MP
theorem ref_any (P G R L C : Int) (w : World) : Calls Tryz.prog 44 #[mv P G R L C] w fun e w' => e = .returned (mv P G R L C) ∧ Below w.heap.size w w' := by
 have hb1 := mbox_below 33 P G R L C w;have hb2 := mbox_below 44 0 0 0 0 0 (mbox 33 P G R L C w);have HX := zj ((mbox_new 33 P G R L C w).below hb2);have HY := zj (mbox_new 44 0 0 0 0 0 (mbox 33 P G R L C w));clear hb1 hb2;obtain ⟨x0,x1,x2,x3,x4⟩ := HX.out.cells;obtain ⟨y0,y1,y2,y3,y4⟩ := HY.out.cells;obtain ⟨g0,g1,g2,g3,g4⟩ := HY.out.free;simp only [mbox] at x0 x1 x2 x3 x4 y0 y1 y2 y3 y4 g0 g1 g2 g3 g4;go_enter Tryz.func44,Tryz.ntmps44;go_wp2_with fail;have hr := mbox_new 44 P G R L C (mbox 33 P G R L C w);rw [mbox_size] at hr;obtain ⟨r0,r1,r2,r3,r4⟩ := hr.cells;refine bodyPost_ret (v := mv P G R L C) (by simp [results,Tryz.results44,go_sem,r0,r1,r2,r3,r4]) rfl ⟨rfl,?_⟩;exact (mbox_below _ _ _ _ _ _ w).trans' (mbox_below _ _ _ _ _ _ _)
end Go.Proofs.YtpeghilfldpgfaaGreatDoor.L13
namespace Go.Proofs.YtpeghilfldpgfaaGreatDoor
open Go.RowKit
theorem step_store_page {ops : Array Oper} {o : Oper} {q : Act} {w : World} {K : Act → World → Prop} {Q : Exit → Act → World → Prop} {E : Prop} {ty : TypeId} (hi : (Tryz.prog.info? ty).map (·.size) = some 19) (hgd : o.guard = none) (x y : Operand) (ho : o.op = .store ty x y)
  (g : Nat) (k : Int) (a : LV) (b : NV) (c : CV) (m : Mv) (hx : q.eval x = .pointer (some ⟨g,0,none⟩)) (hy : q.eval y = gv k a b c m) {t : TypeId} {k0 : Int} {a0 : LV} {b0 : NV} {c0 : CV} {m0 : Mv} (hg : Gx t g k0 a0 b0 c0 m0 w)
  (h : K (q.put o.dst undef) (setG w g k a b c m)) : if Region.wanted o (yielded ops q.tmps) = true then Oper.wp Tryz.prog o q w K Q else E := by
 rw [if_pos (by simp [Region.wanted,hgd])];exact wp_store_row ty x y ho g _ hx hy t _ hg hi rfl (by simp [Value.oneCell']) h
theorem refL_any {w : World} {a : LV} {l : L10.NP.Lf} (h : HasL w a l) (hs : l.items.length ≤ 1000000) (W : World) (hb : Below w.heap.size w W) :
  Calls Tryz.prog 41 #[lvO a] W fun e w' => ∃ a' : LV,e = .returned (lvO a') ∧ HasL w' a' l ∧ (∀ p,a'.A = some p → W.heap.size ≤ p.block) ∧ Below W.heap.size W w' := by
 have k := L10.ref_any a.F a.R a.H a.A l.items a.ca W (h.rows.on hb) hs;rw [← h.n] at k;refine k.mono ?_;rintro e w' ⟨G,cap,rfl,h2,h3,h4⟩;exact ⟨⟨a.F,a.R,a.H,G,a.n,cap⟩,rfl,⟨h.f,h.r,h.h,h.n,h2⟩,h3,h4⟩
theorem HasN.far {w V : World} {x : NV} {n : L11.IP.Inn} {g : Nat} (h : HasN w x n) (hb : Below w.heap.size w V) (hg : w.heap.size ≤ g) (k : Int) (a : LV) (b : NV) (c : CV) (m : Mv) : HasN (setG V g k a b c m) x n :=
 ⟨h.f,h.l,h.r,h.h,⟨((h.rows.kids.below hb).keep fun p hp => setG_cell (by omega) k a b c m).more (by rw [setG_size];exact hb.size),((h.rows.seps.below hb).keep fun p hp => setG_cell (by omega) k a b c m).more (by rw [setG_size];exact hb.size),h.rows.nk,h.rows.nm,h.rows.ck,h.rows.cm⟩⟩
theorem gref_any {k : Int} {a : LV} {b : NV} {c : CV} {m : Mv} {x : GP.Pg} (w : World) (h : HasG w k a b c m x) (hs : Small x) :
  Calls Tryz.prog 13 #[gv k a b c m] w fun e w' => ∃ a' : LV,e = .returned (gv k a' b c m) ∧ HasG w' k a' b c m x ∧ (∀ p,a'.A = some p → w.heap.size ≤ p.block) ∧ Below w.heap.size w w' := by
 have HRL := zj (fun W hb => refL_any h.l hs.i W hb);have HX := zj h;have hb0 := gbox_below 35 k a b c m w;have HA := zj (gbox_new 35 k a b c m w);have hz := gbox_size 35 k a b c m w;have hk := gbox_new 46 0 LV0 NV0 CV0 Mv0 (gbox 35 k a b c m w);have hb1 := gbox_below 46 0 LV0 NV0 CV0 Mv0 (gbox 35 k a b c m w);rw [hz] at hk hb1;have HW0 := zj hb0;have HZ := zj hz;clear h hs;generalize hw0 : gbox 35 k a b c m w = W1 at *;have hw1 : w.alloc (.cells #[.int .i64 k,.int .i64 a.F,.int .i64 a.R,.string a.H,.slice a.A a.n a.ca,.int .i64 b.F,.int .i64 b.L,.int .i64 b.R,.string b.H,.slice b.A b.n b.ca,.slice b.C b.m b.cb,.int .i64 c.F,.int .i64 c.N,.string c.D,.int .i64 m.p,.int .i64 m.pg,.int .i64 m.r,.int .i64 m.l,.int .i64 m.n] 35) = W1 := hw0
 have hw2 : (gbox 46 0 LV0 NV0 CV0 Mv0 W1).heap.size = w.heap.size + 1 + 1 := by rw [gbox_size,hz]
 generalize hw3 : gbox 46 0 LV0 NV0 CV0 Mv0 W1 = W2 at *;have hw4 : W1.alloc (.cells #[.int .i64 0,.int .i64 0,.int .i64 0,.string ⟨#[]⟩,.slice none 0 0,.int .i64 0,.int .i64 0,.int .i64 0,.string ⟨#[]⟩,.slice none 0 0,.slice none 0 0,.int .i64 0,.int .i64 0,.string ⟨#[]⟩,.int .i64 0,.int .i64 0,.int .i64 0,.int .i64 0,.int .i64 0] 46) = W2 := hw3
 have HSV : Hid (∀ V,Below (w.heap.size + 1) W1 V → (Hid (Below (w.heap.size + 1) W1 V) ∧ V.cell? ⟨w.heap.size,0,none⟩ = some (.int .i64 k) ∧ V.cell? ⟨w.heap.size,1,none⟩ = some (.int .i64 a.F) ∧ V.cell? ⟨w.heap.size,2,none⟩ = some (.int .i64 a.R) ∧ V.cell? ⟨w.heap.size,3,none⟩ = some (.string a.H) ∧ V.cell? ⟨w.heap.size,4,none⟩ = some (.slice a.A a.n a.ca) ∧ V.cell? ⟨w.heap.size,5,none⟩ = some (.int .i64 b.F) ∧ V.cell? ⟨w.heap.size,6,none⟩ = some (.int .i64 b.L) ∧ V.cell? ⟨w.heap.size,7,none⟩ = some (.int .i64 b.R) ∧ V.cell? ⟨w.heap.size,8,none⟩ = some (.string b.H) ∧ V.cell? ⟨w.heap.size,9,none⟩ = some (.slice b.A b.n b.ca) ∧ V.cell? ⟨w.heap.size,10,none⟩ = some (.slice b.C b.m b.cb) ∧ V.cell? ⟨w.heap.size,11,none⟩ = some (.int .i64 c.F) ∧ V.cell? ⟨w.heap.size,12,none⟩ = some (.int .i64 c.N) ∧ V.cell? ⟨w.heap.size,13,none⟩ = some (.string c.D) ∧ V.cell? ⟨w.heap.size,14,none⟩ = some (.int .i64 m.p) ∧ V.cell? ⟨w.heap.size,15,none⟩ = some (.int .i64 m.pg) ∧ V.cell? ⟨w.heap.size,16,none⟩ = some (.int .i64 m.r) ∧ V.cell? ⟨w.heap.size,17,none⟩ = some (.int .i64 m.l) ∧ V.cell? ⟨w.heap.size,18,none⟩ = some (.int .i64 m.n))) := zj (fun V hb => ⟨zj hb,by
  have h1 : Gx 35 w.heap.size k a b c m V := (hb.block w.heap.size (Nat.lt_succ_self _)).trans HA.out
  exact h1.cells⟩)
 have HB := zj (L10.drew_below hb1);have HK : Hid (Gx 46 (w.heap.size + 1) 0 LV0 NV0 CV0 Mv0 W2.drew) := zj hk;have hSd := HSV.out _ HB.out;clear hw0 hw3 hb0 hb1 hk HA;go_enter Tryz.func13,Tryz.ntmps13;go_wp2_with fail;refine wp_region_held_drew (S := fun V => Hid (Below (w.heap.size + 1) W1 V) ∧ V.cell? ⟨w.heap.size,0,none⟩ = some (.int .i64 k) ∧ V.cell? ⟨w.heap.size,1,none⟩ = some (.int .i64 a.F) ∧ V.cell? ⟨w.heap.size,2,none⟩ = some (.int .i64 a.R) ∧ V.cell? ⟨w.heap.size,3,none⟩ = some (.string a.H) ∧ V.cell? ⟨w.heap.size,4,none⟩ = some (.slice a.A a.n a.ca) ∧ V.cell? ⟨w.heap.size,5,none⟩ = some (.int .i64 b.F) ∧ V.cell? ⟨w.heap.size,6,none⟩ = some (.int .i64 b.L) ∧ V.cell? ⟨w.heap.size,7,none⟩ = some (.int .i64 b.R) ∧ V.cell? ⟨w.heap.size,8,none⟩ = some (.string b.H) ∧ V.cell? ⟨w.heap.size,9,none⟩ = some (.slice b.A b.n b.ca) ∧ V.cell? ⟨w.heap.size,10,none⟩ = some (.slice b.C b.m b.cb) ∧ V.cell? ⟨w.heap.size,11,none⟩ = some (.int .i64 c.F) ∧ V.cell? ⟨w.heap.size,12,none⟩ = some (.int .i64 c.N) ∧ V.cell? ⟨w.heap.size,13,none⟩ = some (.string c.D) ∧ V.cell? ⟨w.heap.size,14,none⟩ = some (.int .i64 m.p) ∧ V.cell? ⟨w.heap.size,15,none⟩ = some (.int .i64 m.pg) ∧ V.cell? ⟨w.heap.size,16,none⟩ = some (.int .i64 m.r) ∧ V.cell? ⟨w.heap.size,17,none⟩ = some (.int .i64 m.l) ∧ V.cell? ⟨w.heap.size,18,none⟩ = some (.int .i64 m.n)) (by kernel_rfl) hSd (fun hHeld => ?_);clear hw1 hw2 hw4 hSd hz;generalize W2.drew = D at *;refine tk 0 (some 3) ?_ rfl rfl ?_ ?_;rotate_left
 ·intro W h;(try dsimp only at h);go_simp;(try with_reducible rfl)
 try simp only [Act.put,jA,jZ,jS]
 refine tk 1 (some 4) ?_ rfl rfl ?_ ?_;rotate_left
 ·intro W h;(try dsimp only at h);go_simp;(try with_reducible rfl)
 try simp only [Act.put,jA,jZ,jS]
 refine tk 2 (some 5) ?_ rfl rfl ?_ ?_;rotate_left
 ·intro W h;(try dsimp only at h);go_simp;(try with_reducible rfl)
 try simp only [Act.put,jA,jZ,jS]
 refine tk 3 (some 6) ?_ rfl rfl ?_ ?_;rotate_left
 ·intro W h;(try dsimp only at h);go_simp;(try with_reducible rfl)
 try simp only [Act.put,jA,jZ,jS]
 refine tk 5 (some 8) ?_ rfl rfl ?_ ?_;rotate_left
 ·intro W h;(try dsimp only at h);go_simp;(try with_reducible rfl)
 try simp only [Act.put,jA,jZ,jS]
 refine tk 6 (some 9) ?_ rfl rfl ?_ ?_;rotate_left
 ·intro W h;(try dsimp only at h);go_simp;(try with_reducible rfl)
 try simp only [Act.put,jA,jZ,jS]
 refine tk 8 (some 11) ?_ rfl rfl ?_ ?_;rotate_left
 ·intro W h;(try dsimp only at h);go_simp;(try with_reducible rfl)
 try simp only [Act.put,jA,jZ,jS]
 refine tk 9 (some 12) ?_ rfl rfl ?_ ?_;rotate_left
 ·intro W h;(try dsimp only at h);go_simp;(try with_reducible rfl)
 try simp only [Act.put,jA,jZ,jS]
 refine tk 11 (some 14) ?_ rfl rfl ?_ ?_;rotate_left
 ·intro W h;(try dsimp only at h);go_simp;(try with_reducible rfl)
 try simp only [Act.put,jA,jZ,jS]
 refine tk 12 (some 15) ?_ rfl rfl ?_ ?_;rotate_left
 ·intro W h;(try dsimp only at h);go_simp;(try with_reducible rfl)
 try simp only [Act.put,jA,jZ,jS]
 refine rd1 4 rfl (fun QQ hK => ?_);go_simp;refine (HRL.out _ (HW0.out.trans (HB.out.mono (Nat.le_succ _)))).mono ?_;rintro e V ⟨a',rfl,hl,ho,hb⟩;go_wp2_with fail;have HSZ := zj HK.out.lt;have HB := zj (HB.out.trans (hb.mono (Nat.le_trans (Nat.le_of_eq HZ.out.symm) HB.out.size)));have HK := zj (HK.out.below hb);have hHeld := HSV.out _ HB.out;have HL := zj hl;have HO : Hid (∀ p,a'.A = some p → w.heap.size + 1 < p.block) := zj (fun p hp => Nat.lt_of_lt_of_le HSZ.out (ho p hp));clear hb hl ho;refine hK.out _ _ hHeld (fun _ => ?_);clear hK;try simp only [Act.put,jA,jZ,jS]
 refine rd1 7 rfl (fun QQ hK => ?_);go_simp;refine (L11.ref_any b.F b.L b.R b.H b.A b.n b.ca b.C b.m b.cb _).mono ?_;rintro e V ⟨rfl,hb⟩;go_wp2_with fail;have HB := zj (HB.out.trans (hb.mono (Nat.le_trans (Nat.le_of_eq HZ.out.symm) HB.out.size)));have HK := zj (HK.out.below hb);have hHeld := HSV.out _ HB.out;have HL := zj (HL.out.on hb);clear hb;refine hK.out _ _ hHeld (fun _ => ?_);clear hK;try simp only [Act.put,jA,jZ,jS]
 refine rd1 10 rfl (fun QQ hK => ?_);go_simp;refine (L12.ref_any c.F c.N c.D _).mono ?_;rintro e V ⟨rfl,hb⟩;go_wp2_with fail;have HB := zj (HB.out.trans (hb.mono (Nat.le_trans (Nat.le_of_eq HZ.out.symm) HB.out.size)));have HK := zj (HK.out.below hb);have hHeld := HSV.out _ HB.out;have HL := zj (HL.out.on hb);clear hb;refine hK.out _ _ hHeld (fun _ => ?_);clear hK;try simp only [Act.put,jA,jZ,jS]
 refine rd1 13 rfl (fun QQ hK => ?_);go_simp;refine (L13.ref_any m.p m.pg m.r m.l m.n _).mono ?_;rintro e V ⟨rfl,hb⟩;go_wp2_with fail;have HB := zj (HB.out.trans (hb.mono (Nat.le_trans (Nat.le_of_eq HZ.out.symm) HB.out.size)));have HK := zj (HK.out.below hb);have hHeld := HSV.out _ HB.out;have HL := zj (HL.out.on hb);clear hb;refine hK.out _ _ hHeld (fun _ => ?_);clear hK;try simp only [Act.put,jA,jZ,jS]
 refine tk 14 (some 17) ?_ rfl rfl ?_ ?_;rotate_left
 ·intro W h;(try dsimp only at h);go_simp;(try with_reducible rfl)
 try simp only [Act.put,jA,jZ,jS]
 refine rd1 15 rfl (fun QQ hK => ?_);refine step_store_page Tryz.sizeGD rfl _ _ rfl (w.heap.size + 1) k a' b c m rfl rfl HK.out ?_;have HKF := zj (setG_box HK.out k a' b c m);have HBF := zj (setG_below HB.out (Nat.le_refl _) k a' b c m);have hHeld := HSV.out _ HBF.out;refine hK.out _ _ hHeld (fun _ => ?_);clear hK;try simp only [Act.put,jA,jZ,jS]
 refine wpAnyH_done (by kernel_rfl) ?_ _;have HHF : Hid (HasG (setG V (w.heap.size + 1) k a' b c m) k a' b c m x) := zj ⟨HX.out.kind,HL.out.stored (fun p hp => Nat.ne_of_gt (HO.out p hp)) k a' b c m,HX.out.n.far (HW0.out.trans (HB.out.mono (Nat.le_succ _))) (Nat.le_succ _) k a' b c m,HX.out.c,HX.out.m⟩;generalize setG V (w.heap.size + 1) k a' b c m = WF at *;go_wp2_with fail;exact bodyPost_ret (v := gv k a' b c m) (results_one Tryz.results13 rfl (load_pageD HKF.out)) rfl ⟨a',rfl,HHF.out,fun p hp => by have := HO.out p hp;omega,HW0.out.trans (HBF.out.mono (Nat.le_succ _))⟩
def Page1 (f : FuncId) (args : Array Value) (x : GP.Pg) (W : World) : Prop :=
 Calls Tryz.prog f args W fun e w' => ∃ k a b c m,e = .returned (.tuple #[gv k a b c m,.int .i64 0]) ∧ HasG w' k a b c m x ∧ Own W.heap.size a b ∧ Below W.heap.size W w'
def Page0 (f : FuncId) (args : Array Value) (r : Int) (W : World) : Prop :=
 Calls Tryz.prog f args W fun e w' => e = .returned (.tuple #[gv 0 LV0 NV0 CV0 Mv0,.int .i64 r]) ∧ Below W.heap.size W w'
section
variable {s : ByteArray} {x : GP.Pg} {W : World}
theorem DecG.one {B : Nat} {e : Ending} {w' : World} (h : DecG s B e w') (hd : GP.dec s = some x) : ∃ k a b c m,e = .returned (.tuple #[gv k a b c m,.int .i64 0]) ∧ HasG w' k a b c m x ∧ Own B a b := by
 rcases h with ⟨k,a,b,c,m,y,h1,h2,h3,h4⟩ | ⟨h1,_⟩
 ·obtain rfl := Option.some.inj (h1.symm.trans hd)
  exact ⟨k,a,b,c,m,h2,h3,h4⟩
 ·rw [h1] at hd
  cases hd
theorem pdec1 (hd : GP.dec s = some x) (hs : s.size ≤ 1000000) (hg : L10.Glo W) : Page1 17 #[.string s] x W :=
 (pgdec_any s W hg hs).mono fun e w' ⟨h,hb⟩ => by
  obtain ⟨k,a,b,c,m,h1,h2,h3⟩ := h.one hd;exact ⟨k,a,b,c,m,h1,h2,h3,hb⟩
theorem AtG.one {l : List ByteArray} {i : Int} {B : Nat} {e : Ending} {w' : World} (h : AtG l i B e w') (hd : GP.at_ l i = .ok x) : ∃ k a b c m,e = .returned (.tuple #[gv k a b c m,.int .i64 0]) ∧ HasG w' k a b c m x ∧ Own B a b := by
 rcases h with ⟨k,a,b,c,m,y,h1,h2,h3,h4⟩ | ⟨r,h1,_⟩
 ·obtain rfl := Except.ok.inj (h1.symm.trans hd)
  exact ⟨k,a,b,c,m,h2,h3,h4⟩
 ·rw [h1] at hd
  cases hd
theorem AtG.zero {l : List ByteArray} {i r : Int} {B : Nat} {e : Ending} {w' : World} (h : AtG l i B e w') (hd : GP.at_ l i = .error r) : e = .returned (.tuple #[gv 0 LV0 NV0 CV0 Mv0,.int .i64 r]) := by
 rcases h with ⟨k,a,b,c,m,y,h1,_⟩ | ⟨r',h1,_,h⟩
 ·rw [h1] at hd
  cases hd
 ·obtain rfl := Except.error.inj (h1.symm.trans hd)
  exact h
variable {A : Option Addr} {l : List ByteArray} {n ca : Nat} {i r : Int}
theorem pat1 (hd : GP.at_ l i = .ok x) (hn : l.length = n) (hs : ∀ s ∈ l,s.size ≤ 1000000) (hg : L10.Glo W) (ha : L5.Lies W W.heap.size A l) : Page1 10 #[.slice A n ca,.int .i64 i] x W := by
 subst hn
 exact (pat_any A l ca i W hg ha hs).mono fun e w' ⟨h,hb⟩ => by
  obtain ⟨k,a,b,c,m,h1,h2,h3⟩ := h.one hd;exact ⟨k,a,b,c,m,h1,h2,h3,hb⟩
theorem pat0 (hd : GP.at_ l i = .error r) (hn : l.length = n) (hs : ∀ s ∈ l,s.size ≤ 1000000) (hg : L10.Glo W) (ha : L5.Lies W W.heap.size A l) : Page0 10 #[.slice A n ca,.int .i64 i] r W := by
 subst hn;exact (pat_any A l ca i W hg ha hs).mono fun e w' ⟨h,hb⟩ => ⟨h.zero hd,hb⟩
theorem pself1 {k : Int} {a : LV} {b : NV} {c : CV} {m : Mv} {w : World} {v : Int} (h : HasG w k a b c m x) (hv : GP.self x = v) : Hid (∀ W,Calls Tryz.prog 19 #[gv k a b c m] W fun e w' => e = .returned (.int .i64 v) ∧ Below W.heap.size W w') := zj fun W => by
 have h1 := pself_any k a b c m W;rw [selfV_of h,hv] at h1;exact h1
theorem pright1 {k : Int} {a : LV} {b : NV} {c : CV} {m : Mv} {w : World} {v : Int} (h : HasG w k a b c m x) (hv : GP.right x = v) : Hid (∀ W,Calls Tryz.prog 21 #[gv k a b c m] W fun e w' => e = .returned (.int .i64 v) ∧ Below W.heap.size W w') := zj fun W => by
 have h1 := pright_any k a b c m W;rw [rightV_of h,hv] at h1;exact h1
theorem psurvey1 (hn : l.length = n) (h30 : n ≤ 1000) (hs : ∀ s ∈ l,s.size ≤ 1000000) (hg : L10.Glo W) (ha : L5.Lies W W.heap.size A l) :
  Calls Tryz.prog 15 #[.slice A n ca] W fun e w' => ∃ G cap,e = .returned (.slice G n cap) ∧ L11.LiesN w' w'.heap.size G (GP.survey l) ∧ Below W.heap.size W w' := by
 subst hn;exact psurvey_any A l ca W hg ha h30 hs
theorem ints1 {A C : Option Addr} {l m : List Int} {n k ca cb : Nat} {q : Bool} (hl : l.length = n) (hm : m.length = k) (hn : n ≤ 1000000) (hk : k ≤ 1000000) (hq : q = true ↔ l = m) (ha : L11.LiesN W W.heap.size A l) (hb : L11.LiesN W W.heap.size C m) :
  Calls Tryz.prog 14 #[.slice A n ca,.slice C k cb] W fun e w' => e = .returned (.bool q) ∧ Below W.heap.size W w' := by
 subst hl hm;have h := L11.ints_any A C l m ca cb W ha hb hn hk;rw [show decide (l = m) = q from by rw [Bool.eq_iff_iff,hq];exact decide_eq_true_iff] at h;exact h
end
theorem load_wantedP0 {ops : Array Oper} {rest : List Oper} {o : Oper} {q : Act} {w : World} {Q : Exit → Act → World → Prop} (x : Operand) (ho : o.op = .load 35 x)
  {g : Nat} {t : TypeId} {k : Int} {a : LV} {b : NV} {c : CV} {m : Mv} (hg : Gx t g k a b c m w) (hx : q.eval x = .pointer (some ⟨g,0,none⟩)) (hw : Region.wanted o (yielded ops q.tmps) = true)
  (h : wpList Tryz.prog ops Q rest (q.put o.dst (gv k a b c m)) w) : wpList Tryz.prog ops Q (o :: rest) q w := load_wanted Tryz.underlying35 rfl Tryz.sizeG hw x ho g hx hg h
end Go.Proofs.YtpeghilfldpgfaaGreatDoor
