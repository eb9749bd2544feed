import Derived.Test.YtpeghilfldpgfaaGreatDoorQ16
namespace Go.Proofs.YtpeghilfldpgfaaGreatDoor
open Go.RowKit
set_option linter.unusedVariables false
set_option linter.unusedSimpArgs false
def Combo (k rp r1 r2 r3 r4 : Int) : Prop :=
  (k = 2 ∧ rp = 0 ∧ r1 = 3 ∧ r2 = 0 ∧ r3 = 3 ∧ r4 = 3) ∨ (k = 3 ∧ rp = 0 ∧ r1 = 3 ∧ r2 = 3 ∧ r3 = 0 ∧ r4 = 3) ∨ (k = 4 ∧ rp = 0 ∧ r1 = 3 ∧ r2 = 3 ∧ r3 = 3 ∧ r4 = 0) ∨ (k = 1 ∧ rp = 0 ∧ r1 = 0 ∧ r2 = 3 ∧ r3 = 3 ∧ r4 = 3) ∨ (k = 0 ∧ rp = 3 ∧ r1 = 3 ∧ r2 = 3 ∧ r3 = 3 ∧ r4 = 3)
structure OneG (s : ByteArray) (x : GP.Pg) (rp r1 r2 r3 r4 : Int) : Prop where
  p : ∀ W, L10.Glo W → Calls Tryz.prog 17 #[.string s] W fun e w' => ∃ k a b c m, e = .returned (.tuple #[gv k a b c m, .int .i64 rp]) ∧ HasG w' k a b c m x ∧ Below W.heap.size W w'
  l : ∀ W, L10.Glo W → Calls Tryz.prog 25 #[.string s] W fun e w' => ∃ a : LV, e = .returned (.tuple #[lvO a, .int .i64 r2]) ∧ HasL w' a x.l ∧ Below W.heap.size W w'
  n : ∀ W, L10.Glo W → Calls Tryz.prog 26 #[.string s] W fun e w' => ∃ b : NV, e = .returned (.tuple #[nvO b, .int .i64 r3]) ∧ HasN w' b x.n ∧ Below W.heap.size W w'
  c : ∀ W, L10.Glo W → Calls Tryz.prog 27 #[.string s] W fun e w' => ∃ c : CV, e = .returned (.tuple #[L12.cv c.F c.N c.D, .int .i64 r4]) ∧ (c.F, c.N, c.D) = x.c ∧ Below W.heap.size W w'
  m : ∀ W, L10.Glo W → Calls Tryz.prog 28 #[.string s] W fun e w' => ∃ m : Mv, e = .returned (.tuple #[L13.mv m.p m.pg m.r m.l m.n, .int .i64 r1]) ∧ m = x.m ∧ Below W.heap.size W w'
section
variable {s : ByteArray} (hs : s.size ≤ 1000000)
include hs
theorem l_yes {l : L10.NP.Lf} (h : L10.NP.dec s = some l) (W : World) (hW : L10.Glo W) : Calls Tryz.prog 25 #[.string s] W fun e w' => ∃ a : LV, e = .returned (.tuple #[lvO a, .int .i64 0]) ∧ HasL w' a l ∧ Below W.heap.size W w' :=
  (pl_yes h W hW hs).mono fun e w' ⟨a, h1, h2, _, h3⟩ => ⟨a, h1, h2, h3⟩
theorem l_no (h : L10.NP.dec s = none) (W : World) (hW : L10.Glo W) : Calls Tryz.prog 25 #[.string s] W fun e w' => ∃ a : LV, e = .returned (.tuple #[lvO a, .int .i64 3]) ∧ HasL w' a L10.NP.Lf0 ∧ Below W.heap.size W w' :=
  (pl_no h W hW hs).mono fun e w' ⟨h1, h2⟩ => ⟨LV0, h1, hasL0 _, h2⟩
theorem n_yes {n : L11.IP.Inn} (h : L11.IP.dec s = some n) (W : World) (hW : L10.Glo W) : Calls Tryz.prog 26 #[.string s] W fun e w' => ∃ b : NV, e = .returned (.tuple #[nvO b, .int .i64 0]) ∧ HasN w' b n ∧ Below W.heap.size W w' :=
  (pn_yes h W hW hs).mono fun e w' ⟨a, h1, h2, _, _, h3⟩ => ⟨a, h1, h2, h3⟩
theorem n_no (h : L11.IP.dec s = none) (W : World) (hW : L10.Glo W) : Calls Tryz.prog 26 #[.string s] W fun e w' => ∃ b : NV, e = .returned (.tuple #[nvO b, .int .i64 3]) ∧ HasN w' b L11.IP.In0 ∧ Below W.heap.size W w' :=
  (pn_no h W hW hs).mono fun e w' ⟨h1, h2⟩ => ⟨NV0, h1, hasN0 _, h2⟩
theorem c_yes {F N : Int} {D : ByteArray} (h : L12.CP.dec s = some (F, N, D)) (W : World) (hW : L10.Glo W) : Calls Tryz.prog 27 #[.string s] W fun e w' => ∃ c : CV, e = .returned (.tuple #[L12.cv c.F c.N c.D, .int .i64 0]) ∧ (c.F, c.N, c.D) = (F, N, D) ∧ Below W.heap.size W w' :=
  (pc_tell (L12.decV_some h) W hW hs).mono fun e w' ⟨h1, h2⟩ => ⟨⟨F, N, D⟩, h1, rfl, h2⟩
theorem c_no (h : L12.CP.dec s = none) (W : World) (hW : L10.Glo W) : Calls Tryz.prog 27 #[.string s] W fun e w' => ∃ c : CV, e = .returned (.tuple #[L12.cv c.F c.N c.D, .int .i64 3]) ∧ (c.F, c.N, c.D) = GP.c0 ∧ Below W.heap.size W w' :=
  (pc_tell (L12.decV_none h) W hW hs).mono fun e w' ⟨h1, h2⟩ => ⟨CV0, h1, rfl, h2⟩
theorem m_yes {x : Mv} (h : L13.MP.dec s = some x) (W : World) (hW : L10.Glo W) : Calls Tryz.prog 28 #[.string s] W fun e w' => ∃ m : Mv, e = .returned (.tuple #[L13.mv m.p m.pg m.r m.l m.n, .int .i64 0]) ∧ m = x ∧ Below W.heap.size W w' :=
  (pm_tell (L13.decV_some h) W hW hs).mono fun e w' ⟨h1, h2⟩ => ⟨x, h1, rfl, h2⟩
theorem m_no (h : L13.MP.dec s = none) (W : World) (hW : L10.Glo W) : Calls Tryz.prog 28 #[.string s] W fun e w' => ∃ m : Mv, e = .returned (.tuple #[L13.mv m.p m.pg m.r m.l m.n, .int .i64 3]) ∧ m = L13.MP.Mt0 ∧ Below W.heap.size W w' :=
  (pm_tell (L13.decV_none h) W hW hs).mono fun e w' ⟨h1, h2⟩ => ⟨Mv0, h1, rfl, h2⟩
theorem p_yes {x : GP.Pg} (h : GP.dec s = some x) (W : World) (hW : L10.Glo W) : Calls Tryz.prog 17 #[.string s] W fun e w' => ∃ k a b c m, e = .returned (.tuple #[gv k a b c m, .int .i64 0]) ∧ HasG w' k a b c m x ∧ Below W.heap.size W w' :=
  (pdec1 h hs hW).mono fun e w' ⟨k, a, b, c, m, h1, h2, _, h3⟩ => ⟨k, a, b, c, m, h1, h2, h3⟩
theorem p_no (h : GP.dec s = none) (W : World) (hW : L10.Glo W) : Calls Tryz.prog 17 #[.string s] W fun e w' => ∃ k a b c m, e = .returned (.tuple #[gv k a b c m, .int .i64 3]) ∧ HasG w' k a b c m GP.Pg0 ∧ Below W.heap.size W w' :=
  (pdec0 h hs hW).mono fun e w' ⟨h1, h2⟩ => ⟨0, LV0, NV0, CV0, Mv0, h1, hasG0 _, h2⟩
theorem one_of : ∃ (x : GP.Pg) (rp r1 r2 r3 r4 : Int), OneG s x rp r1 r2 r3 r4 ∧ Small x ∧ Combo x.k rp r1 r2 r3 r4 := by
  rcases GP.dec_cases s with ⟨l, h1, h2, h3, h4, h5⟩ | ⟨n, h1, h2, h3, h4, h5⟩ | ⟨⟨F, N, D⟩, h1, h2, h3, h4, h5⟩ | ⟨x, h1, h2, h3, h4, h5⟩ | ⟨h1, h2, h3, h4, h5⟩
  · exact ⟨_, 0, 3, 0, 3, 3, ⟨p_yes hs h5, l_yes hs h1, n_no hs h2, c_no hs h3, m_no hs h4⟩, small_dec h5, .inl ⟨rfl, rfl, rfl, rfl, rfl, rfl⟩⟩
  · exact ⟨_, 0, 3, 3, 0, 3, ⟨p_yes hs h5, l_no hs h1, n_yes hs h2, c_no hs h3, m_no hs h4⟩, small_dec h5, .inr (.inl ⟨rfl, rfl, rfl, rfl, rfl, rfl⟩)⟩
  · exact ⟨_, 0, 3, 3, 3, 0, ⟨p_yes hs h5, l_no hs h1, n_no hs h2, c_yes hs h3, m_no hs h4⟩, small_dec h5, .inr (.inr (.inl ⟨rfl, rfl, rfl, rfl, rfl, rfl⟩))⟩
  · exact ⟨_, 0, 0, 3, 3, 3, ⟨p_yes hs h5, l_no hs h1, n_no hs h2, c_no hs h3, m_yes hs h4⟩, small_dec h5, .inr (.inr (.inr (.inl ⟨rfl, rfl, rfl, rfl, rfl, rfl⟩)))⟩
  · exact ⟨GP.Pg0, 3, 3, 3, 3, 3, ⟨p_no hs h5, l_no hs h1, n_no hs h2, c_no hs h3, m_no hs h4⟩, small0, .inr (.inr (.inr (.inr ⟨rfl, rfl, rfl, rfl, rfl, rfl⟩)))⟩
end
def cntB (l : List Bool) (j : Nat) : Nat := (l.take j).count true
def lstB (l : List Bool) : Nat → Int
  | 0 => 0
  | j + 1 => if l.getD j false = true then (j : Int) + 1 else lstB l j
theorem lstB_succ (l : List Bool) (j : Nat) (h : j < 4) : lstB l (j + 1) = if l.getD j false = true then (j : Int) + 1 else lstB l j := rfl
theorem cntB_succ (l : List Bool) (j : Nat) (h : j < 4) : cntB l (j + 1) = cntB l j + if l.getD j false = true then 1 else 0 := by
  unfold cntB
  rw [List.take_add_one, List.count_append, List.getD_eq_getElem?_getD]
  cases l[j]? with
  | none => simp
  | some b => cases b <;> simp
theorem cntB_few (b1 b2 b3 b4 : Bool) (j : Nat) : cntB [b1, b2, b3, b4] j ≤ 4 := by
  unfold cntB
  exact Nat.le_trans List.count_le_length (by rw [List.length_take]; simp; omega)
theorem rowB {w : World} {g : Nat} {b1 b2 b3 b4 : Bool} (h : w.heap[g]? = some (.cells #[.bool b1, .bool b2, .bool b3, .bool b4] 4 (0, 0))) (j : Nat) (hj : j < 4) : w.cell? ⟨g, j, none⟩ = some (.bool ([b1, b2, b3, b4].getD j false)) := by
  rw [cell_of_row _ _ j _ _ _ h]
  rcases (show j = 0 ∨ j = 1 ∨ j = 2 ∨ j = 3 by omega) with rfl | rfl | rfl | rfl <;> rfl
theorem combo_end {k rp r1 r2 r3 r4 : Int} (h : Combo k rp r1 r2 r3 r4) : lstB [r1 == 0, r2 == 0, r3 == 0, r4 == 0] 4 = k ∧ ((rp = 0 ∧ cntB [r1 == 0, r2 == 0, r3 == 0, r4 == 0] 4 = 1) ∨ (rp = 3 ∧ cntB [r1 == 0, r2 == 0, r3 == 0, r4 == 0] 4 = 0)) := by
  rcases h with ⟨rfl, rfl, rfl, rfl, rfl, rfl⟩ | ⟨rfl, rfl, rfl, rfl, rfl, rfl⟩ | ⟨rfl, rfl, rfl, rfl, rfl, rfl⟩ | ⟨rfl, rfl, rfl, rfl, rfl, rfl⟩ | ⟨rfl, rfl, rfl, rfl, rfl, rfl⟩ <;> decide
set_option maxHeartbeats 4000000 in
set_option maxRecDepth 100000 in
theorem pageOne_walk (s : ByteArray) (w : World) (hg : L10.Glo w) (ws : s.size ≤ maxLen) :
    Calls Tryz.prog 4 #[.string s] w fun e w' => e = .returned (.bool true) ∧ Below w.heap.size w w' := by
  obtain ⟨m, hm, hm1, hms, hm2, hts⟩ := L9.cut_min s 1100 (by decide)
  have q1 : (m : Int) ≤ s.size := by omega
  obtain ⟨X, hX⟩ : ∃ X, s.extract 0 m = X := ⟨_, rfl⟩
  rw [hX] at hts
  obtain ⟨x, rp, r1, r2, r3, r4, ho, hsm, hc⟩ := one_of (s := X) (by omega)
  have HO := Lib.hid ho
  have HSM := Lib.hid hsm
  have HC := Lib.hid hc
  obtain ⟨b1, hb1⟩ : ∃ b1, (r1 == 0) = b1 := ⟨_, rfl⟩
  obtain ⟨b2, hb2⟩ : ∃ b2, (r2 == 0) = b2 := ⟨_, rfl⟩
  obtain ⟨b3, hb3⟩ : ∃ b3, (r3 == 0) = b3 := ⟨_, rfl⟩
  obtain ⟨b4, hb4⟩ : ∃ b4, (r4 == 0) = b4 := ⟨_, rfl⟩
  have HB1 := Lib.hid hb1
  have HB2 := Lib.hid hb2
  have HB3 := Lib.hid hb3
  have HB4 := Lib.hid hb4
  have HF : Hid Fixes := Lib.hid fixed_any
  have HG := Lib.hid hg
  have HB := Lib.hid (Below.refl w.heap.size w)
  clear hg hm1 hms hts ws ho hsm hc
  go_enter Tryz.func4, Tryz.ntmps4
  go_wp2_with fail
  clear hm hm2 hX q1
  refine (HO.out.p _ HG.out).mono ?_
  rintro e V ⟨k, a, b, c, m', rfl, hx, hb⟩
  have hba := gbox_below 35 k a b c m' V
  have hbb := hb.trans' hba
  replace HB := Lib.hid (HB.out.trans' hbb)
  replace HG := Lib.hid (HG.out.on hbb)
  have HX := Lib.hid (gbox_new 35 k a b c m' V)
  have HXG := Lib.hid (hx.on hba)
  clear hx hb hba hbb
  go_wp2_with (refine store_page Tryz.sizeG rfl _ _ rfl V.heap.size k a b c m' rfl rfl (gbox_zero 35 V) ?_; rw [setG_alloc]; generalize gbox 35 k a b c m' V = V1 at *)
  generalize V.heap.size = gp at *
  refine (HO.out.l _ HG.out).mono ?_
  rintro e V ⟨al, rfl, hx, hb⟩
  have hba := L5.below_alloc V (.cells #[.int .i64 al.F, .int .i64 al.R, .string al.H, .slice al.A al.n al.ca] 26)
  have hbb := hb.trans' hba
  replace HB := Lib.hid (HB.out.trans' hbb)
  replace HG := Lib.hid (HG.out.on hbb)
  replace HX := Lib.hid (HX.out.below hbb)
  replace HXG := Lib.hid (HXG.out.on hbb)
  have Bl : Hid (L10.LBx 26 V.heap.size al.F al.R al.H al.A al.n al.ca (V.alloc (.cells #[.int .i64 al.F, .int .i64 al.R, .string al.H, .slice al.A al.n al.ca] 26))) := Lib.hid (heap_alloc_new _ _)
  have Hl := Lib.hid (hx.on hba)
  clear hx hb hba hbb
  go_wp2_with fail
  generalize V.alloc (.cells #[.int .i64 al.F, .int .i64 al.R, .string al.H, .slice al.A al.n al.ca] 26) = V1 at *
  generalize V.heap.size = gl at *
  refine (HO.out.n _ HG.out).mono ?_
  rintro e V ⟨bn, rfl, hx, hb⟩
  have hba := L5.below_alloc V (.cells #[.int .i64 bn.F, .int .i64 bn.L, .int .i64 bn.R, .string bn.H, .slice bn.A bn.n bn.ca, .slice bn.C bn.m bn.cb] 29)
  have hbb := hb.trans' hba
  replace HB := Lib.hid (HB.out.trans' hbb)
  replace HG := Lib.hid (HG.out.on hbb)
  replace HX := Lib.hid (HX.out.below hbb)
  replace HXG := Lib.hid (HXG.out.on hbb)
  replace Bl := Lib.hid (Bl.out.below hbb)
  replace Hl := Lib.hid (Hl.out.on hbb)
  have Bn : Hid (L11.NBx 29 V.heap.size bn.F bn.L bn.R bn.H bn.A bn.n bn.ca bn.C bn.m bn.cb (V.alloc (.cells #[.int .i64 bn.F, .int .i64 bn.L, .int .i64 bn.R, .string bn.H, .slice bn.A bn.n bn.ca, .slice bn.C bn.m bn.cb] 29))) := Lib.hid (heap_alloc_new _ _)
  have Hn := Lib.hid (hx.on hba)
  clear hx hb hba hbb
  go_wp2_with fail
  generalize V.alloc (.cells #[.int .i64 bn.F, .int .i64 bn.L, .int .i64 bn.R, .string bn.H, .slice bn.A bn.n bn.ca, .slice bn.C bn.m bn.cb] 29) = V1 at *
  generalize V.heap.size = gn at *
  refine (HO.out.c _ HG.out).mono ?_
  rintro e V ⟨cc, rfl, hx, hb⟩
  have hba := L5.below_alloc V (.cells #[.int .i64 cc.F, .int .i64 cc.N, .string cc.D] 31)
  have hbb := hb.trans' hba
  replace HB := Lib.hid (HB.out.trans' hbb)
  replace HG := Lib.hid (HG.out.on hbb)
  replace HX := Lib.hid (HX.out.below hbb)
  replace HXG := Lib.hid (HXG.out.on hbb)
  replace Bl := Lib.hid (Bl.out.below hbb)
  replace Hl := Lib.hid (Hl.out.on hbb)
  replace Bn := Lib.hid (Bn.out.below hbb)
  replace Hn := Lib.hid (Hn.out.on hbb)
  have Bc : Hid (L12.Cx 31 V.heap.size cc.F cc.N cc.D (V.alloc (.cells #[.int .i64 cc.F, .int .i64 cc.N, .string cc.D] 31))) := Lib.hid (heap_alloc_new _ _)
  have Hc := Lib.hid hx
  clear hx hb hba hbb
  go_wp2_with fail
  generalize V.alloc (.cells #[.int .i64 cc.F, .int .i64 cc.N, .string cc.D] 31) = V1 at *
  generalize V.heap.size = gc at *
  refine (HO.out.m _ HG.out).mono ?_
  rintro e V ⟨mm, rfl, hx, hb⟩
  have hba := L5.below_alloc V (.cells #[.int .i64 mm.p, .int .i64 mm.pg, .int .i64 mm.r, .int .i64 mm.l, .int .i64 mm.n] 33)
  have hbb := hb.trans' hba
  replace HB := Lib.hid (HB.out.trans' hbb)
  replace HG := Lib.hid (HG.out.on hbb)
  replace HX := Lib.hid (HX.out.below hbb)
  replace HXG := Lib.hid (HXG.out.on hbb)
  replace Bl := Lib.hid (Bl.out.below hbb)
  replace Hl := Lib.hid (Hl.out.on hbb)
  replace Bn := Lib.hid (Bn.out.below hbb)
  replace Hn := Lib.hid (Hn.out.on hbb)
  replace Bc := Lib.hid (Bc.out.below hbb)
  have Bm : Hid (L13.Mx 33 V.heap.size mm.p mm.pg mm.r mm.l mm.n (V.alloc (.cells #[.int .i64 mm.p, .int .i64 mm.pg, .int .i64 mm.r, .int .i64 mm.l, .int .i64 mm.n] 33))) := Lib.hid (heap_alloc_new _ _)
  have Hm := Lib.hid hx
  clear hx hb hba hbb
  have hrow : (((V.alloc (.cells #[.int .i64 mm.p, .int .i64 mm.pg, .int .i64 mm.r, .int .i64 mm.l, .int .i64 mm.n] 33)).alloc (.cells #[.bool b1, .bool b2, .bool b3, .bool b4] 4)).heap[(V.alloc (.cells #[.int .i64 mm.p, .int .i64 mm.pg, .int .i64 mm.r, .int .i64 mm.l, .int .i64 mm.n] 33)).heap.size]?) = some (.cells #[.bool b1, .bool b2, .bool b3, .bool b4] 4 (0, 0)) := heap_alloc_new _ _
  have hbr := L5.below_alloc (V.alloc (.cells #[.int .i64 mm.p, .int .i64 mm.pg, .int .i64 mm.r, .int .i64 mm.l, .int .i64 mm.n] 33)) (.cells #[.bool b1, .bool b2, .bool b3, .bool b4] 4)
  replace HB := Lib.hid (HB.out.trans' hbr)
  replace HG := Lib.hid (HG.out.on hbr)
  replace HX := Lib.hid (HX.out.below hbr)
  replace HXG := Lib.hid (HXG.out.on hbr)
  replace Bl := Lib.hid (Bl.out.below hbr)
  replace Hl := Lib.hid (Hl.out.on hbr)
  replace Bn := Lib.hid (Bn.out.below hbr)
  replace Hn := Lib.hid (Hn.out.on hbr)
  replace Bc := Lib.hid (Bc.out.below hbr)
  replace Bm := Lib.hid (Bm.out.below hbr)
  clear hbr
  rw [show (V.alloc (.cells #[.int .i64 mm.p, .int .i64 mm.pg, .int .i64 mm.r, .int .i64 mm.l, .int .i64 mm.n] 33)).heap.size = V.heap.size + 1 from by simp] at hrow
  go_wp2_with fail
  generalize (V.alloc (.cells #[.int .i64 mm.p, .int .i64 mm.pg, .int .i64 mm.r, .int .i64 mm.l, .int .i64 mm.n] 33)).alloc (.cells #[.bool b1, .bool b2, .bool b3, .bool b4] 4) = V1 at *
  generalize V.heap.size + 1 = gk at *
  generalize V.heap.size = gm at *
  have HRW := Lib.hid (rowB hrow)
  clear hrow
  go_loopw [14, 15, 16] (fun mv kv iv wr => ∃ j : Nat, j ≤ 4 ∧ iv = .int .i64 j ∧ mv = .int .i64 (cntB [b1, b2, b3, b4] j) ∧ kv = .int .i64 (lstB [b1, b2, b3, b4] j) ∧ wr = V1) (fun _ _ iv _ => 4 - (intOf iv).toNat)
  case atStart => exact ⟨0, by omega, rfl, rfl, rfl, rfl⟩
  case round =>
    obtain ⟨j, hj4, rfl, rfl, rfl, rfl⟩ := hrel
    by_cases h4 : j < 4
    · have hcl := HRW.out j h4
      have hcn := cntB_succ [b1, b2, b3, b4] j h4
      have hln := lstB_succ [b1, b2, b3, b4] j h4
      have q1 : decide ((j : Int) < 4) = true := decide_eq_true (by omega)
      have q2 : (0 : Int) ≤ j := by omega
      have q3 : (j : Int) < 4 := by omega
      have q4 : wrap64 ((j : Int) + 1) = (j : Int) + 1 := IntWalk.wrap64_in _ (by omega)
      obtain ⟨bj, hbj⟩ : ∃ bj, [b1, b2, b3, b4].getD j false = bj := ⟨_, rfl⟩
      rw [hbj] at hcl hcn hln
      cases bj with
      | true =>
        have hcb := cntB_few b1 b2 b3 b4 j
        have q5 : wrap64 ((cntB [b1, b2, b3, b4] j : Nat) + 1) = ((cntB [b1, b2, b3, b4] j : Nat) : Int) + 1 := IntWalk.wrap64_in _ (by omega)
        clear hcb
        go_wp2_with fail
        go_roundw
        case rel => exact ⟨j + 1, by omega, by go_num, by rw [hcn]; simp; exact q5, by rw [hln]; simp, by first | rfl | trivial⟩
        case measure => simp [intOf]; omega
      | false =>
        go_wp2_with fail
        go_roundw
        case rel => exact ⟨j + 1, by omega, by go_num, by rw [hcn]; simp, by rw [hln]; simp, by first | rfl | trivial⟩
        case measure => simp [intOf]; omega
    · have hj : j = 4 := by omega
      subst hj
      have hCO := HC.out
      have hk := HXG.out.kind
      rw [← HB1.out, ← HB2.out, ← HB3.out, ← HB4.out]
      obtain ⟨hlst, hrp⟩ := combo_end hCO
      rw [hlst, ← hk]
      obtain ⟨q2, e2, S2⟩ := psameL HXG.out.l Hl.out HSM.out.i HSM.out.i
      obtain ⟨q3, e3, S3⟩ := psameN HXG.out.n Hn.out HSM.out.k HSM.out.s HSM.out.k HSM.out.s
      obtain rfl : q2 = true := e2.2 rfl
      obtain rfl : q3 = true := e3.2 rfl
      obtain ⟨q4, e4, f4⟩ := peqC c cc
      obtain rfl : q4 = true := e4.2 (HXG.out.c.trans Hc.out.symm)
      obtain ⟨q5, e5, f5⟩ := peqM m' mm
      obtain rfl : q5 = true := e5.2 (HXG.out.m.trans Hm.out.symm)
      have HBV := Lib.hid (Below.refl wr.heap.size wr)
      clear hCO hk hlst e2 e3 e4 e5 h4 hj4 HRW
      obtain ⟨x0, x1, x2, x3, x4, -⟩ := HX.out.cells
      obtain ⟨l0, l1, l2, l3⟩ := Bl.out.cells
      rcases hrp with ⟨rfl, hn⟩ | ⟨rfl, hn⟩
      all_goals
        rw [hn]
        clear hn
        go_wp2_with fail
        refine (S2.out _ HBV.out).mono ?_
        rintro e V2 ⟨rfl, hb⟩
        clear x0 x1 x2 x3 x4 l0 l1 l2 l3
        replace HBV := Lib.hid (HBV.out.trans' hb)
        replace HB := Lib.hid (HB.out.trans' hb)
        replace HG := Lib.hid (HG.out.on hb)
        replace HX := Lib.hid (HX.out.below hb)
        replace HXG := Lib.hid (HXG.out.on hb)
        replace Bl := Lib.hid (Bl.out.below hb)
        replace Hl := Lib.hid (Hl.out.on hb)
        replace Bn := Lib.hid (Bn.out.below hb)
        replace Hn := Lib.hid (Hn.out.on hb)
        replace Bc := Lib.hid (Bc.out.below hb)
        replace Bm := Lib.hid (Bm.out.below hb)
        clear hb
        obtain ⟨-, -, -, -, -, x5, x6, x7, x8, x9, x10, -⟩ := HX.out.cells
        obtain ⟨n0, n1, n2, n3, n4, n5⟩ := Bn.out.cells
        go_wp2_with fail
        refine (S3.out _ HBV.out).mono ?_
        rintro e V3 ⟨rfl, hb⟩
        clear x5 x6 x7 x8 x9 x10 n0 n1 n2 n3 n4 n5
        replace HBV := Lib.hid (HBV.out.trans' hb)
        replace HB := Lib.hid (HB.out.trans' hb)
        replace HG := Lib.hid (HG.out.on hb)
        replace HX := Lib.hid (HX.out.below hb)
        replace HXG := Lib.hid (HXG.out.on hb)
        replace Bl := Lib.hid (Bl.out.below hb)
        replace Hl := Lib.hid (Hl.out.on hb)
        replace Bn := Lib.hid (Bn.out.below hb)
        replace Hn := Lib.hid (Hn.out.on hb)
        replace Bc := Lib.hid (Bc.out.below hb)
        replace Bm := Lib.hid (Bm.out.below hb)
        clear hb
        obtain ⟨-, -, -, -, -, -, -, -, -, -, -, x11, x12, x13, x14, x15, x16, x17, x18⟩ := HX.out.cells
        obtain ⟨c0, c1, c2⟩ := Bc.out.cells
        obtain ⟨m0, m1, m2, m3, m4⟩ := Bm.out.cells
        go_wp2_with fail
        refine (HF.out _ HG.out).mono ?_
        rintro e V4 ⟨rfl, hb⟩
        go_wp2_with fail
        go_ret
        exact ⟨rfl, HB.out.trans' hb⟩
end Go.Proofs.YtpeghilfldpgfaaGreatDoor
