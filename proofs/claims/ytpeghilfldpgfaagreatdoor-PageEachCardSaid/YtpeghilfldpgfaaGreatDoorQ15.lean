import Derived.Test.YtpeghilfldpgfaaGreatDoorQ14
import Derived.Shelf.Abstract
namespace Go.Proofs.YtpeghilfldpgfaaGreatDoor
open Go.RowKit
set_option linter.unusedVariables false
set_option linter.unusedSimpArgs false
def PartG (s : ByteArray) (B : Nat) (e : Ending) (w' : World) : Prop :=
  (∃ a l, GP.dec s = some (GP.ofL l) ∧ e = .returned (.tuple #[.iface 150 (lvO a), .int .i64 0]) ∧ HasL w' a l ∧ ∀ p, a.A = some p → B ≤ p.block) ∨
  (∃ b n, GP.dec s = some (GP.ofN n) ∧ e = .returned (.tuple #[.iface 151 (nvO b), .int .i64 0]) ∧ HasN w' b n ∧ (∀ p, b.A = some p → B ≤ p.block) ∧ ∀ p, b.C = some p → B ≤ p.block) ∨
  (∃ F N D, GP.dec s = some (GP.ofC (F, N, D)) ∧ e = .returned (.tuple #[.iface 152 (L12.cv F N D), .int .i64 0])) ∨
  (∃ x : Mv, GP.dec s = some (GP.ofM x) ∧ e = .returned (.tuple #[.iface 149 (L13.mv x.p x.pg x.r x.l x.n), .int .i64 0])) ∨
  (∃ t v, GP.dec s = none ∧ e = .returned (.tuple #[.iface t v, .int .i64 3]))
theorem openK (s : ByteArray) (hs : s.size ≤ 1000000) : (∃ k l c r f B, GP.kd s = k ∧ Hid (∀ W, L10.Glo W → Calls Tryz.prog 55 #[.string s] W fun e w' => e = .returned (.tuple #[.agg #[.int .i64 k, .int .i64 l, .int .i64 c, .int .i64 r, .int .i64 f], .string B, .int .i64 0]) ∧ Below W.heap.size W w')) ∨
    (GP.dec s = none ∧ ∃ k l c r f B, Hid (∀ W, L10.Glo W → Calls Tryz.prog 55 #[.string s] W fun e w' => e = .returned (.tuple #[.agg #[.int .i64 k, .int .i64 l, .int .i64 c, .int .i64 r, .int .i64 f], .string B, .int .i64 3]) ∧ Below W.heap.size W w')) := by
  have ho := fun W (h : L10.Glo W) => L7.open_any s W h.sizes (by unfold maxLen; omega)
  unfold L7.opnV L7.hv at ho
  by_cases e : L7.mayBe s.size = true ∧ L7.HP.good s.data.toList
  · left
    refine ⟨(L7.HP.opn s).1.k, (L7.HP.opn s).1.l, (L7.HP.opn s).1.c, (L7.HP.opn s).1.r, (L7.HP.opn s).1.s, (L7.HP.opn s).2.1, rfl, Lib.hid fun W h => ?_⟩
    have h1 := ho W h
    have h2 : (L7.HP.opn s).2.2 = 0 := by rw [L7.HP.opn_good e.1 e.2]
    rw [h2] at h1
    exact h1
  · right
    refine ⟨?_, (L7.HP.opn s).1.k, (L7.HP.opn s).1.l, (L7.HP.opn s).1.c, (L7.HP.opn s).1.r, (L7.HP.opn s).1.s, (L7.HP.opn s).2.1, Lib.hid fun W h => ?_⟩
    · cases hd : GP.dec s with
      | none => rfl
      | some x => exact absurd (GP.dec_open hd) e
    · have h1 := ho W h
      have h2 : (L7.HP.opn s).2.2 = 3 := by rw [L7.HP.opn_bad e]
      rw [h2] at h1
      exact h1
set_option maxHeartbeats 2000000 in
set_option maxRecDepth 100000 in
theorem pread_l (s : ByteArray) (w : World) (hg : L10.Glo w) (hs : s.size ≤ 1000000) {k lv ct rt sf : Int} {B : ByteArray} {l : L10.NP.Lf} (h1 : L10.NP.dec s = some l) (h5 : GP.dec s = some (GP.ofL l)) (hk : k = 2) (HO : Hid (∀ W, L10.Glo W → Calls Tryz.prog 55 #[.string s] W fun e w' => e = .returned (.tuple #[.agg #[.int .i64 k, .int .i64 lv, .int .i64 ct, .int .i64 rt, .int .i64 sf], .string B, .int .i64 0]) ∧ Below W.heap.size W w')) :
    Calls Tryz.prog 45 #[.string s] w fun e w' => PartG s w.heap.size e w' ∧ Below w.heap.size w w' := by
  have HG := Lib.hid hg
  have HS := Lib.hid h5
  have HD := Lib.hid (fun W (h : L10.Glo W) => pl_yes h1 W h hs)
  clear hg h1 h5 hs
  subst hk
  go_enter Tryz.func45, Tryz.ntmps45
  go_wp2_with fail
  refine (HO.out _ HG.out).mono ?_
  rintro e V ⟨rfl, hb⟩
  have hba := L5.below_alloc V (.cells #[.int .i64 2, .int .i64 lv, .int .i64 ct, .int .i64 rt, .int .i64 sf] 120)
  have h0 : (V.alloc (.cells #[.int .i64 2, .int .i64 lv, .int .i64 ct, .int .i64 rt, .int .i64 sf] 120)).cell? ⟨V.heap.size, 0, none⟩ = some (.int .i64 2) := by rw [cell_of_row _ _ 0 _ _ _ (heap_alloc_new V (.cells #[.int .i64 2, .int .i64 lv, .int .i64 ct, .int .i64 rt, .int .i64 sf] 120))]; rfl
  replace HB := Lib.hid (hb.trans' hba)
  replace HG := Lib.hid (HG.out.on (hb.trans' hba))
  clear hb hba
  go_wp2_with fail
  generalize V.alloc (.cells #[.int .i64 2, .int .i64 lv, .int .i64 ct, .int .i64 rt, .int .i64 sf] 120) = V1 at *
  refine (HD.out _ HG.out).mono ?_
  rintro e U ⟨a, rfl, hl, ho, hb⟩
  have hba := L5.below_alloc U (.cells #[.int .i64 a.F, .int .i64 a.R, .string a.H, .slice a.A a.n a.ca] 26)
  have HX : Hid (L10.LBx 26 U.heap.size a.F a.R a.H a.A a.n a.ca (U.alloc (.cells #[.int .i64 a.F, .int .i64 a.R, .string a.H, .slice a.A a.n a.ca] 26))) := Lib.hid (heap_alloc_new _ _)
  have HL := Lib.hid (hl.on hba)
  have HP : Hid (∀ p, a.A = some p → w.heap.size ≤ p.block) := Lib.hid (fun p hp => Nat.le_trans HB.out.size (ho p hp))
  clear hl ho
  replace HB := Lib.hid (HB.out.trans' (hb.trans' hba))
  clear hb hba
  obtain ⟨x0, x1, x2, x3⟩ := HX.out.cells
  clear h0
  go_wp2_with fail
  exact bodyPost_ret (v := .tuple #[.iface 150 (lvO a), .int .i64 0]) (by simp [results, Tryz.results45, go_sem]) rfl ⟨.inl ⟨a, l, HS.out, rfl, HL.out, HP.out⟩, HB.out⟩
set_option maxHeartbeats 2000000 in
set_option maxRecDepth 100000 in
theorem pread_l0 (s : ByteArray) (w : World) (hg : L10.Glo w) (hs : s.size ≤ 1000000) {k lv ct rt sf : Int} {B : ByteArray} (h1 : L10.NP.dec s = none) (h5 : GP.dec s = none) (hk : k = 2) (HO : Hid (∀ W, L10.Glo W → Calls Tryz.prog 55 #[.string s] W fun e w' => e = .returned (.tuple #[.agg #[.int .i64 k, .int .i64 lv, .int .i64 ct, .int .i64 rt, .int .i64 sf], .string B, .int .i64 0]) ∧ Below W.heap.size W w')) :
    Calls Tryz.prog 45 #[.string s] w fun e w' => PartG s w.heap.size e w' ∧ Below w.heap.size w w' := by
  have HG := Lib.hid hg
  have HS := Lib.hid h5
  have HD := Lib.hid (fun W (h : L10.Glo W) => pl_no h1 W h hs)
  clear hg h1 h5 hs
  subst hk
  go_enter Tryz.func45, Tryz.ntmps45
  go_wp2_with fail
  refine (HO.out _ HG.out).mono ?_
  rintro e V ⟨rfl, hb⟩
  have hba := L5.below_alloc V (.cells #[.int .i64 2, .int .i64 lv, .int .i64 ct, .int .i64 rt, .int .i64 sf] 120)
  have h0 : (V.alloc (.cells #[.int .i64 2, .int .i64 lv, .int .i64 ct, .int .i64 rt, .int .i64 sf] 120)).cell? ⟨V.heap.size, 0, none⟩ = some (.int .i64 2) := by rw [cell_of_row _ _ 0 _ _ _ (heap_alloc_new V (.cells #[.int .i64 2, .int .i64 lv, .int .i64 ct, .int .i64 rt, .int .i64 sf] 120))]; rfl
  replace HB := Lib.hid (hb.trans' hba)
  replace HG := Lib.hid (HG.out.on (hb.trans' hba))
  clear hb hba
  go_wp2_with fail
  generalize V.alloc (.cells #[.int .i64 2, .int .i64 lv, .int .i64 ct, .int .i64 rt, .int .i64 sf] 120) = V1 at *
  refine (HD.out _ HG.out).mono ?_
  rintro e U ⟨rfl, hb⟩
  have hba := L5.below_alloc U (.cells #[.int .i64 0, .int .i64 0, .string ⟨#[]⟩, .slice none 0 0] 26)
  have HX : Hid (L10.LBx 26 U.heap.size 0 0 ⟨#[]⟩ none 0 0 (U.alloc (.cells #[.int .i64 0, .int .i64 0, .string ⟨#[]⟩, .slice none 0 0] 26))) := Lib.hid (heap_alloc_new _ _)
  replace HB := Lib.hid (HB.out.trans' (hb.trans' hba))
  clear hb hba
  obtain ⟨x0, x1, x2, x3⟩ := HX.out.cells
  clear h0
  go_wp2_with fail
  exact bodyPost_ret (v := .tuple #[.iface 150 (.agg #[.int .i64 0, .int .i64 0, .string ⟨#[]⟩, .slice none 0 0]), .int .i64 3]) (by simp [results, Tryz.results45, go_sem]) rfl ⟨.inr (.inr (.inr (.inr ⟨_, _, HS.out, rfl⟩))), HB.out⟩
set_option maxHeartbeats 2000000 in
set_option maxRecDepth 100000 in
theorem pread_n (s : ByteArray) (w : World) (hg : L10.Glo w) (hs : s.size ≤ 1000000) {k lv ct rt sf : Int} {B : ByteArray} {n : L11.IP.Inn} (h1 : L11.IP.dec s = some n) (h5 : GP.dec s = some (GP.ofN n)) (hk : k = 3) (HO : Hid (∀ W, L10.Glo W → Calls Tryz.prog 55 #[.string s] W fun e w' => e = .returned (.tuple #[.agg #[.int .i64 k, .int .i64 lv, .int .i64 ct, .int .i64 rt, .int .i64 sf], .string B, .int .i64 0]) ∧ Below W.heap.size W w')) :
    Calls Tryz.prog 45 #[.string s] w fun e w' => PartG s w.heap.size e w' ∧ Below w.heap.size w w' := by
  have HG := Lib.hid hg
  have HS := Lib.hid h5
  have HD := Lib.hid (fun W (h : L10.Glo W) => pn_yes h1 W h hs)
  clear hg h1 h5 hs
  subst hk
  go_enter Tryz.func45, Tryz.ntmps45
  go_wp2_with fail
  refine (HO.out _ HG.out).mono ?_
  rintro e V ⟨rfl, hb⟩
  have hba := L5.below_alloc V (.cells #[.int .i64 3, .int .i64 lv, .int .i64 ct, .int .i64 rt, .int .i64 sf] 120)
  have h0 : (V.alloc (.cells #[.int .i64 3, .int .i64 lv, .int .i64 ct, .int .i64 rt, .int .i64 sf] 120)).cell? ⟨V.heap.size, 0, none⟩ = some (.int .i64 3) := by rw [cell_of_row _ _ 0 _ _ _ (heap_alloc_new V (.cells #[.int .i64 3, .int .i64 lv, .int .i64 ct, .int .i64 rt, .int .i64 sf] 120))]; rfl
  replace HB := Lib.hid (hb.trans' hba)
  replace HG := Lib.hid (HG.out.on (hb.trans' hba))
  clear hb hba
  go_wp2_with fail
  generalize V.alloc (.cells #[.int .i64 3, .int .i64 lv, .int .i64 ct, .int .i64 rt, .int .i64 sf] 120) = V1 at *
  refine (HD.out _ HG.out).mono ?_
  rintro e U ⟨b, rfl, hn, ho, ho2, hb⟩
  have hba := L5.below_alloc U (.cells #[.int .i64 b.F, .int .i64 b.L, .int .i64 b.R, .string b.H, .slice b.A b.n b.ca, .slice b.C b.m b.cb] 29)
  have HX : Hid (L11.NBx 29 U.heap.size b.F b.L b.R b.H b.A b.n b.ca b.C b.m b.cb (U.alloc (.cells #[.int .i64 b.F, .int .i64 b.L, .int .i64 b.R, .string b.H, .slice b.A b.n b.ca, .slice b.C b.m b.cb] 29))) := Lib.hid (heap_alloc_new _ _)
  have HL := Lib.hid (hn.on hba)
  have HP : Hid (∀ p, b.A = some p → w.heap.size ≤ p.block) := Lib.hid (fun p hp => Nat.le_trans HB.out.size (ho p hp))
  have HP2 : Hid (∀ p, b.C = some p → w.heap.size ≤ p.block) := Lib.hid (fun p hp => Nat.le_trans HB.out.size (ho2 p hp))
  clear hn ho ho2
  replace HB := Lib.hid (HB.out.trans' (hb.trans' hba))
  clear hb hba
  obtain ⟨x0, x1, x2, x3, x4, x5⟩ := HX.out.cells
  clear h0
  go_wp2_with fail
  exact bodyPost_ret (v := .tuple #[.iface 151 (nvO b), .int .i64 0]) (by simp [results, Tryz.results45, go_sem]) rfl ⟨.inr (.inl ⟨b, n, HS.out, rfl, HL.out, HP.out, HP2.out⟩), HB.out⟩
set_option maxHeartbeats 2000000 in
set_option maxRecDepth 100000 in
theorem pread_n0 (s : ByteArray) (w : World) (hg : L10.Glo w) (hs : s.size ≤ 1000000) {k lv ct rt sf : Int} {B : ByteArray} (h1 : L11.IP.dec s = none) (h5 : GP.dec s = none) (hk : k = 3) (HO : Hid (∀ W, L10.Glo W → Calls Tryz.prog 55 #[.string s] W fun e w' => e = .returned (.tuple #[.agg #[.int .i64 k, .int .i64 lv, .int .i64 ct, .int .i64 rt, .int .i64 sf], .string B, .int .i64 0]) ∧ Below W.heap.size W w')) :
    Calls Tryz.prog 45 #[.string s] w fun e w' => PartG s w.heap.size e w' ∧ Below w.heap.size w w' := by
  have HG := Lib.hid hg
  have HS := Lib.hid h5
  have HD := Lib.hid (fun W (h : L10.Glo W) => pn_no h1 W h hs)
  clear hg h1 h5 hs
  subst hk
  go_enter Tryz.func45, Tryz.ntmps45
  go_wp2_with fail
  refine (HO.out _ HG.out).mono ?_
  rintro e V ⟨rfl, hb⟩
  have hba := L5.below_alloc V (.cells #[.int .i64 3, .int .i64 lv, .int .i64 ct, .int .i64 rt, .int .i64 sf] 120)
  have h0 : (V.alloc (.cells #[.int .i64 3, .int .i64 lv, .int .i64 ct, .int .i64 rt, .int .i64 sf] 120)).cell? ⟨V.heap.size, 0, none⟩ = some (.int .i64 3) := by rw [cell_of_row _ _ 0 _ _ _ (heap_alloc_new V (.cells #[.int .i64 3, .int .i64 lv, .int .i64 ct, .int .i64 rt, .int .i64 sf] 120))]; rfl
  replace HB := Lib.hid (hb.trans' hba)
  replace HG := Lib.hid (HG.out.on (hb.trans' hba))
  clear hb hba
  go_wp2_with fail
  generalize V.alloc (.cells #[.int .i64 3, .int .i64 lv, .int .i64 ct, .int .i64 rt, .int .i64 sf] 120) = V1 at *
  refine (HD.out _ HG.out).mono ?_
  rintro e U ⟨rfl, hb⟩
  have hba := L5.below_alloc U (.cells #[.int .i64 0, .int .i64 0, .int .i64 0, .string ⟨#[]⟩, .slice none 0 0, .slice none 0 0] 29)
  have HX : Hid (L11.NBx 29 U.heap.size 0 0 0 ⟨#[]⟩ none 0 0 none 0 0 (U.alloc (.cells #[.int .i64 0, .int .i64 0, .int .i64 0, .string ⟨#[]⟩, .slice none 0 0, .slice none 0 0] 29))) := Lib.hid (heap_alloc_new _ _)
  replace HB := Lib.hid (HB.out.trans' (hb.trans' hba))
  clear hb hba
  obtain ⟨x0, x1, x2, x3, x4, x5⟩ := HX.out.cells
  clear h0
  go_wp2_with fail
  exact bodyPost_ret (v := .tuple #[.iface 151 (.agg #[.int .i64 0, .int .i64 0, .int .i64 0, .string ⟨#[]⟩, .slice none 0 0, .slice none 0 0]), .int .i64 3]) (by simp [results, Tryz.results45, go_sem]) rfl ⟨.inr (.inr (.inr (.inr ⟨_, _, HS.out, rfl⟩))), HB.out⟩
set_option maxHeartbeats 2000000 in
set_option maxRecDepth 100000 in
theorem pread_c (s : ByteArray) (w : World) (hg : L10.Glo w) (hs : s.size ≤ 1000000) {k lv ct rt sf : Int} {B : ByteArray} {F N : Int} {D : ByteArray} (h1 : L12.CP.dec s = some (F, N, D)) (h5 : GP.dec s = some (GP.ofC (F, N, D))) (hk : k = 4) (HO : Hid (∀ W, L10.Glo W → Calls Tryz.prog 55 #[.string s] W fun e w' => e = .returned (.tuple #[.agg #[.int .i64 k, .int .i64 lv, .int .i64 ct, .int .i64 rt, .int .i64 sf], .string B, .int .i64 0]) ∧ Below W.heap.size W w')) :
    Calls Tryz.prog 45 #[.string s] w fun e w' => PartG s w.heap.size e w' ∧ Below w.heap.size w w' := by
  have HG := Lib.hid hg
  have HS := Lib.hid h5
  have HD := Lib.hid (fun W (h : L10.Glo W) => pc_tell (L12.decV_some h1) W h hs)
  clear hg h1 h5 hs
  subst hk
  go_enter Tryz.func45, Tryz.ntmps45
  go_wp2_with fail
  refine (HO.out _ HG.out).mono ?_
  rintro e V ⟨rfl, hb⟩
  have hba := L5.below_alloc V (.cells #[.int .i64 4, .int .i64 lv, .int .i64 ct, .int .i64 rt, .int .i64 sf] 120)
  have h0 : (V.alloc (.cells #[.int .i64 4, .int .i64 lv, .int .i64 ct, .int .i64 rt, .int .i64 sf] 120)).cell? ⟨V.heap.size, 0, none⟩ = some (.int .i64 4) := by rw [cell_of_row _ _ 0 _ _ _ (heap_alloc_new V (.cells #[.int .i64 4, .int .i64 lv, .int .i64 ct, .int .i64 rt, .int .i64 sf] 120))]; rfl
  replace HB := Lib.hid (hb.trans' hba)
  replace HG := Lib.hid (HG.out.on (hb.trans' hba))
  clear hb hba
  go_wp2_with fail
  generalize V.alloc (.cells #[.int .i64 4, .int .i64 lv, .int .i64 ct, .int .i64 rt, .int .i64 sf] 120) = V1 at *
  refine (HD.out _ HG.out).mono ?_
  rintro e U ⟨rfl, hb⟩
  have hba := L5.below_alloc U (.cells #[.int .i64 F, .int .i64 N, .string D] 31)
  have HX : Hid (L12.Cx 31 U.heap.size F N D (U.alloc (.cells #[.int .i64 F, .int .i64 N, .string D] 31))) := Lib.hid (heap_alloc_new _ _)
  replace HB := Lib.hid (HB.out.trans' (hb.trans' hba))
  clear hb hba
  obtain ⟨x0, x1, x2⟩ := HX.out.cells
  clear h0
  go_wp2_with fail
  exact bodyPost_ret (v := .tuple #[.iface 152 (L12.cv F N D), .int .i64 0]) (by simp [results, Tryz.results45, go_sem]) rfl ⟨.inr (.inr (.inl ⟨F, N, D, HS.out, rfl⟩)), HB.out⟩
set_option maxHeartbeats 2000000 in
set_option maxRecDepth 100000 in
theorem pread_c0 (s : ByteArray) (w : World) (hg : L10.Glo w) (hs : s.size ≤ 1000000) {k lv ct rt sf : Int} {B : ByteArray} (h1 : L12.CP.dec s = none) (h5 : GP.dec s = none) (hk : k = 4) (HO : Hid (∀ W, L10.Glo W → Calls Tryz.prog 55 #[.string s] W fun e w' => e = .returned (.tuple #[.agg #[.int .i64 k, .int .i64 lv, .int .i64 ct, .int .i64 rt, .int .i64 sf], .string B, .int .i64 0]) ∧ Below W.heap.size W w')) :
    Calls Tryz.prog 45 #[.string s] w fun e w' => PartG s w.heap.size e w' ∧ Below w.heap.size w w' := by
  have HG := Lib.hid hg
  have HS := Lib.hid h5
  have HD := Lib.hid (fun W (h : L10.Glo W) => pc_tell (L12.decV_none h1) W h hs)
  clear hg h1 h5 hs
  subst hk
  go_enter Tryz.func45, Tryz.ntmps45
  go_wp2_with fail
  refine (HO.out _ HG.out).mono ?_
  rintro e V ⟨rfl, hb⟩
  have hba := L5.below_alloc V (.cells #[.int .i64 4, .int .i64 lv, .int .i64 ct, .int .i64 rt, .int .i64 sf] 120)
  have h0 : (V.alloc (.cells #[.int .i64 4, .int .i64 lv, .int .i64 ct, .int .i64 rt, .int .i64 sf] 120)).cell? ⟨V.heap.size, 0, none⟩ = some (.int .i64 4) := by rw [cell_of_row _ _ 0 _ _ _ (heap_alloc_new V (.cells #[.int .i64 4, .int .i64 lv, .int .i64 ct, .int .i64 rt, .int .i64 sf] 120))]; rfl
  replace HB := Lib.hid (hb.trans' hba)
  replace HG := Lib.hid (HG.out.on (hb.trans' hba))
  clear hb hba
  go_wp2_with fail
  generalize V.alloc (.cells #[.int .i64 4, .int .i64 lv, .int .i64 ct, .int .i64 rt, .int .i64 sf] 120) = V1 at *
  refine (HD.out _ HG.out).mono ?_
  rintro e U ⟨rfl, hb⟩
  have hba := L5.below_alloc U (.cells #[.int .i64 0, .int .i64 0, .string ⟨#[]⟩] 31)
  have HX : Hid (L12.Cx 31 U.heap.size 0 0 ⟨#[]⟩ (U.alloc (.cells #[.int .i64 0, .int .i64 0, .string ⟨#[]⟩] 31))) := Lib.hid (heap_alloc_new _ _)
  replace HB := Lib.hid (HB.out.trans' (hb.trans' hba))
  clear hb hba
  obtain ⟨x0, x1, x2⟩ := HX.out.cells
  clear h0
  go_wp2_with fail
  exact bodyPost_ret (v := .tuple #[.iface 152 (.agg #[.int .i64 0, .int .i64 0, .string ⟨#[]⟩]), .int .i64 3]) (by simp [results, Tryz.results45, go_sem]) rfl ⟨.inr (.inr (.inr (.inr ⟨_, _, HS.out, rfl⟩))), HB.out⟩
set_option maxHeartbeats 2000000 in
set_option maxRecDepth 100000 in
theorem pread_m (s : ByteArray) (w : World) (hg : L10.Glo w) (hs : s.size ≤ 1000000) {k lv ct rt sf : Int} {B : ByteArray} {x : L13.MP.Mt} (h1 : L13.MP.dec s = some x) (h5 : GP.dec s = some (GP.ofM x)) (hk : k = 1) (HO : Hid (∀ W, L10.Glo W → Calls Tryz.prog 55 #[.string s] W fun e w' => e = .returned (.tuple #[.agg #[.int .i64 k, .int .i64 lv, .int .i64 ct, .int .i64 rt, .int .i64 sf], .string B, .int .i64 0]) ∧ Below W.heap.size W w')) :
    Calls Tryz.prog 45 #[.string s] w fun e w' => PartG s w.heap.size e w' ∧ Below w.heap.size w w' := by
  have HG := Lib.hid hg
  have HS := Lib.hid h5
  have HD := Lib.hid (fun W (h : L10.Glo W) => pm_tell (L13.decV_some h1) W h hs)
  clear hg h1 h5 hs
  subst hk
  go_enter Tryz.func45, Tryz.ntmps45
  go_wp2_with fail
  refine (HO.out _ HG.out).mono ?_
  rintro e V ⟨rfl, hb⟩
  have hba := L5.below_alloc V (.cells #[.int .i64 1, .int .i64 lv, .int .i64 ct, .int .i64 rt, .int .i64 sf] 120)
  have h0 : (V.alloc (.cells #[.int .i64 1, .int .i64 lv, .int .i64 ct, .int .i64 rt, .int .i64 sf] 120)).cell? ⟨V.heap.size, 0, none⟩ = some (.int .i64 1) := by rw [cell_of_row _ _ 0 _ _ _ (heap_alloc_new V (.cells #[.int .i64 1, .int .i64 lv, .int .i64 ct, .int .i64 rt, .int .i64 sf] 120))]; rfl
  replace HB := Lib.hid (hb.trans' hba)
  replace HG := Lib.hid (HG.out.on (hb.trans' hba))
  clear hb hba
  go_wp2_with fail
  generalize V.alloc (.cells #[.int .i64 1, .int .i64 lv, .int .i64 ct, .int .i64 rt, .int .i64 sf] 120) = V1 at *
  refine (HD.out _ HG.out).mono ?_
  rintro e U ⟨rfl, hb⟩
  have hba := L5.below_alloc U (.cells #[.int .i64 x.p, .int .i64 x.pg, .int .i64 x.r, .int .i64 x.l, .int .i64 x.n] 33)
  have HX : Hid (L13.Mx 33 U.heap.size x.p x.pg x.r x.l x.n (U.alloc (.cells #[.int .i64 x.p, .int .i64 x.pg, .int .i64 x.r, .int .i64 x.l, .int .i64 x.n] 33))) := Lib.hid (heap_alloc_new _ _)
  replace HB := Lib.hid (HB.out.trans' (hb.trans' hba))
  clear hb hba
  obtain ⟨x0, x1, x2, x3, x4⟩ := HX.out.cells
  clear h0
  go_wp2_with fail
  exact bodyPost_ret (v := .tuple #[.iface 149 (L13.mv x.p x.pg x.r x.l x.n), .int .i64 0]) (by simp [results, Tryz.results45, go_sem]) rfl ⟨.inr (.inr (.inr (.inl ⟨x, HS.out, rfl⟩))), HB.out⟩
set_option maxHeartbeats 2000000 in
set_option maxRecDepth 100000 in
theorem pread_m0 (s : ByteArray) (w : World) (hg : L10.Glo w) (hs : s.size ≤ 1000000) {k lv ct rt sf : Int} {B : ByteArray} (h1 : L13.MP.dec s = none) (h5 : GP.dec s = none) (hk : k = 1) (HO : Hid (∀ W, L10.Glo W → Calls Tryz.prog 55 #[.string s] W fun e w' => e = .returned (.tuple #[.agg #[.int .i64 k, .int .i64 lv, .int .i64 ct, .int .i64 rt, .int .i64 sf], .string B, .int .i64 0]) ∧ Below W.heap.size W w')) :
    Calls Tryz.prog 45 #[.string s] w fun e w' => PartG s w.heap.size e w' ∧ Below w.heap.size w w' := by
  have HG := Lib.hid hg
  have HS := Lib.hid h5
  have HD := Lib.hid (fun W (h : L10.Glo W) => pm_tell (L13.decV_none h1) W h hs)
  clear hg h1 h5 hs
  subst hk
  go_enter Tryz.func45, Tryz.ntmps45
  go_wp2_with fail
  refine (HO.out _ HG.out).mono ?_
  rintro e V ⟨rfl, hb⟩
  have hba := L5.below_alloc V (.cells #[.int .i64 1, .int .i64 lv, .int .i64 ct, .int .i64 rt, .int .i64 sf] 120)
  have h0 : (V.alloc (.cells #[.int .i64 1, .int .i64 lv, .int .i64 ct, .int .i64 rt, .int .i64 sf] 120)).cell? ⟨V.heap.size, 0, none⟩ = some (.int .i64 1) := by rw [cell_of_row _ _ 0 _ _ _ (heap_alloc_new V (.cells #[.int .i64 1, .int .i64 lv, .int .i64 ct, .int .i64 rt, .int .i64 sf] 120))]; rfl
  replace HB := Lib.hid (hb.trans' hba)
  replace HG := Lib.hid (HG.out.on (hb.trans' hba))
  clear hb hba
  go_wp2_with fail
  generalize V.alloc (.cells #[.int .i64 1, .int .i64 lv, .int .i64 ct, .int .i64 rt, .int .i64 sf] 120) = V1 at *
  refine (HD.out _ HG.out).mono ?_
  rintro e U ⟨rfl, hb⟩
  have hba := L5.below_alloc U (.cells #[.int .i64 0, .int .i64 0, .int .i64 0, .int .i64 0, .int .i64 0] 33)
  have HX : Hid (L13.Mx 33 U.heap.size 0 0 0 0 0 (U.alloc (.cells #[.int .i64 0, .int .i64 0, .int .i64 0, .int .i64 0, .int .i64 0] 33))) := Lib.hid (heap_alloc_new _ _)
  replace HB := Lib.hid (HB.out.trans' (hb.trans' hba))
  clear hb hba
  obtain ⟨x0, x1, x2, x3, x4⟩ := HX.out.cells
  clear h0
  go_wp2_with fail
  exact bodyPost_ret (v := .tuple #[.iface 149 (.agg #[.int .i64 0, .int .i64 0, .int .i64 0, .int .i64 0, .int .i64 0]), .int .i64 3]) (by simp [results, Tryz.results45, go_sem]) rfl ⟨.inr (.inr (.inr (.inr ⟨_, _, HS.out, rfl⟩))), HB.out⟩
set_option maxHeartbeats 2000000 in
set_option maxRecDepth 100000 in
theorem pread_x (s : ByteArray) (w : World) (hg : L10.Glo w) (hs : s.size ≤ 1000000) {k lv ct rt sf : Int} {B : ByteArray} (h5 : GP.dec s = none) (k1 : (k == 1) = false) (k2 : (k == 2) = false) (k3 : (k == 3) = false) (k4 : (k == 4) = false) (HO : Hid (∀ W, L10.Glo W → Calls Tryz.prog 55 #[.string s] W fun e w' => e = .returned (.tuple #[.agg #[.int .i64 k, .int .i64 lv, .int .i64 ct, .int .i64 rt, .int .i64 sf], .string B, .int .i64 0]) ∧ Below W.heap.size W w')) :
    Calls Tryz.prog 45 #[.string s] w fun e w' => PartG s w.heap.size e w' ∧ Below w.heap.size w w' := by
  have HG := Lib.hid hg
  have HS := Lib.hid h5
  clear hg h5 hs
  go_enter Tryz.func45, Tryz.ntmps45
  go_wp2_with fail
  refine (HO.out _ HG.out).mono ?_
  rintro e V ⟨rfl, hb⟩
  have hba := L5.below_alloc V (.cells #[.int .i64 k, .int .i64 lv, .int .i64 ct, .int .i64 rt, .int .i64 sf] 120)
  have h0 : (V.alloc (.cells #[.int .i64 k, .int .i64 lv, .int .i64 ct, .int .i64 rt, .int .i64 sf] 120)).cell? ⟨V.heap.size, 0, none⟩ = some (.int .i64 k) := by rw [cell_of_row _ _ 0 _ _ _ (heap_alloc_new V (.cells #[.int .i64 k, .int .i64 lv, .int .i64 ct, .int .i64 rt, .int .i64 sf] 120))]; rfl
  replace HB := Lib.hid (hb.trans' hba)
  replace HG := Lib.hid (HG.out.on (hb.trans' hba))
  clear hb hba
  go_wp2_with fail
  exact bodyPost_ret (v := .tuple #[.iface 148 (.agg #[]), .int .i64 3]) (by simp [results, Tryz.results45, go_sem]) rfl ⟨.inr (.inr (.inr (.inr ⟨_, _, HS.out, rfl⟩))), HB.out⟩
set_option maxHeartbeats 2000000 in
set_option maxRecDepth 100000 in
theorem pread_e (s : ByteArray) (w : World) (hg : L10.Glo w) (hs : s.size ≤ 1000000) {k lv ct rt sf : Int} {B : ByteArray} (h5 : GP.dec s = none) (HO : Hid (∀ W, L10.Glo W → Calls Tryz.prog 55 #[.string s] W fun e w' => e = .returned (.tuple #[.agg #[.int .i64 k, .int .i64 lv, .int .i64 ct, .int .i64 rt, .int .i64 sf], .string B, .int .i64 3]) ∧ Below W.heap.size W w')) :
    Calls Tryz.prog 45 #[.string s] w fun e w' => PartG s w.heap.size e w' ∧ Below w.heap.size w w' := by
  have HG := Lib.hid hg
  have HS := Lib.hid h5
  clear hg h5 hs
  go_enter Tryz.func45, Tryz.ntmps45
  go_wp2_with fail
  refine (HO.out _ HG.out).mono ?_
  rintro e V ⟨rfl, hb⟩
  have hba := L5.below_alloc V (.cells #[.int .i64 k, .int .i64 lv, .int .i64 ct, .int .i64 rt, .int .i64 sf] 120)
  have h0 : (V.alloc (.cells #[.int .i64 k, .int .i64 lv, .int .i64 ct, .int .i64 rt, .int .i64 sf] 120)).cell? ⟨V.heap.size, 0, none⟩ = some (.int .i64 k) := by rw [cell_of_row _ _ 0 _ _ _ (heap_alloc_new V (.cells #[.int .i64 k, .int .i64 lv, .int .i64 ct, .int .i64 rt, .int .i64 sf] 120))]; rfl
  replace HB := Lib.hid (hb.trans' hba)
  replace HG := Lib.hid (HG.out.on (hb.trans' hba))
  clear hb hba
  go_wp2_with fail
  exact bodyPost_ret (v := .tuple #[.iface 148 (.agg #[]), .int .i64 3]) (by simp [results, Tryz.results45, go_sem]) rfl ⟨.inr (.inr (.inr (.inr ⟨_, _, HS.out, rfl⟩))), HB.out⟩
theorem pread_any (s : ByteArray) (w : World) (hg : L10.Glo w) (hs : s.size ≤ 1000000) :
    Calls Tryz.prog 45 #[.string s] w fun e w' => PartG s w.heap.size e w' ∧ Below w.heap.size w w' := by
  rcases openK s hs with ⟨k, lv, ct, rt, sf, B, hk, HO⟩ | ⟨hd, k, lv, ct, rt, sf, B, HO⟩
  · rcases GP.dec_cases s with ⟨l, h1, h2, h3, h4, h5⟩ | ⟨n, h1, h2, h3, h4, h5⟩ | ⟨⟨F, N, D⟩, h1, h2, h3, h4, h5⟩ | ⟨x, h1, h2, h3, h4, h5⟩ | ⟨h1, h2, h3, h4, h5⟩
    · exact pread_l s w hg hs h1 h5 (hk.symm.trans (GP.kd_l h1)) HO
    · exact pread_n s w hg hs h2 h5 (hk.symm.trans (GP.kd_n h2)) HO
    · exact pread_c s w hg hs h3 h5 (hk.symm.trans (GP.kd_c h3)) HO
    · exact pread_m s w hg hs h4 h5 (hk.symm.trans (GP.kd_m h4)) HO
    · by_cases k1 : k = 1
      · exact pread_m0 s w hg hs h4 h5 k1 HO
      · by_cases k2 : k = 2
        · exact pread_l0 s w hg hs h1 h5 k2 HO
        · by_cases k3 : k = 3
          · exact pread_n0 s w hg hs h2 h5 k3 HO
          · by_cases k4 : k = 4
            · exact pread_c0 s w hg hs h3 h5 k4 HO
            · exact pread_x s w hg hs h5 (by simpa using k1) (by simpa using k2) (by simpa using k3) (by simpa using k4) HO
  · exact pread_e s w hg hs hd HO
set_option maxHeartbeats 2000000 in
set_option maxRecDepth 100000 in
theorem pwhole_l (a : LV) (w : World) : Calls Tryz.prog 46 #[.iface 150 (lvO a)] w fun e w' => e = .returned (gv 2 a NV0 CV0 Mv0) ∧ Below w.heap.size w w' := by
  have hb0 := gbox_below 35 0 LV0 NV0 CV0 Mv0 w
  have HK0 := Lib.hid (gbox_new 35 0 LV0 NV0 CV0 Mv0 w)
  generalize hw0 : gbox 35 0 LV0 NV0 CV0 Mv0 w = W0 at *
  have hw1 : w.alloc (.cells #[.int .i64 0, .int .i64 0, .int .i64 0, .string ⟨#[]⟩, .slice none 0 0, .int .i64 0, .int .i64 0, .int .i64 0, .string ⟨#[]⟩, .slice none 0 0, .slice none 0 0, .int .i64 0, .int .i64 0, .string ⟨#[]⟩, .int .i64 0, .int .i64 0, .int .i64 0, .int .i64 0, .int .i64 0] 35) = W0 := hw0
  have hba := L5.below_alloc W0 (.cells #[.int .i64 a.F, .int .i64 a.R, .string a.H, .slice a.A a.n a.ca] 150)
  have HX : Hid (L10.LBx 150 W0.heap.size a.F a.R a.H a.A a.n a.ca (W0.alloc (.cells #[.int .i64 a.F, .int .i64 a.R, .string a.H, .slice a.A a.n a.ca] 150))) := Lib.hid (heap_alloc_new _ _)
  have HB := Lib.hid (hb0.trans' hba)
  have HK := Lib.hid (HK0.out.below hba)
  obtain ⟨x0, x1, x2, x3⟩ := HX.out.cells
  clear hw0 hb0 hba HK0
  have am : ∀ W, (Instr.typeAssert (.iface 150 (.agg #[.int .i64 a.F, .int .i64 a.R, .string a.H, .slice a.A a.n a.ca])) 97 149 true).run Tryz.prog W = .ok (.tuple #[.agg #[.int .i64 0, .int .i64 0, .int .i64 0, .int .i64 0, .int .i64 0], .bool false]) W := fun W => by kernel_rfl
  have al : ∀ W, (Instr.typeAssert (.iface 150 (.agg #[.int .i64 a.F, .int .i64 a.R, .string a.H, .slice a.A a.n a.ca])) 97 150 true).run Tryz.prog W = .ok (.tuple #[.agg #[.int .i64 a.F, .int .i64 a.R, .string a.H, .slice a.A a.n a.ca], .bool true]) W := fun W => by kernel_rfl
  go_enter Tryz.func46, Tryz.ntmps46
  go_wp2_with (with_reducible refine store_page Tryz.sizeG rfl _ _ rfl w.heap.size 2 a NV0 CV0 Mv0 rfl rfl HK.out ?_)
  have HKF := Lib.hid (setG_box HK.out 2 a NV0 CV0 Mv0)
  have HBF := Lib.hid (setG_below HB.out (Nat.le_refl _) 2 a NV0 CV0 Mv0)
  change bodyPost _ _ _ _ _ (setG _ _ _ _ _ _ _)
  exact bodyPost_ret (v := gv 2 a NV0 CV0 Mv0) (results_one Tryz.results46 rfl (load_pageP HKF.out)) rfl ⟨rfl, HBF.out⟩
set_option maxHeartbeats 2000000 in
set_option maxRecDepth 100000 in
theorem pwhole_n (b : NV) (w : World) : Calls Tryz.prog 46 #[.iface 151 (nvO b)] w fun e w' => e = .returned (gv 3 LV0 b CV0 Mv0) ∧ Below w.heap.size w w' := by
  have hb0 := gbox_below 35 0 LV0 NV0 CV0 Mv0 w
  have HK0 := Lib.hid (gbox_new 35 0 LV0 NV0 CV0 Mv0 w)
  generalize hw0 : gbox 35 0 LV0 NV0 CV0 Mv0 w = W0 at *
  have hw1 : w.alloc (.cells #[.int .i64 0, .int .i64 0, .int .i64 0, .string ⟨#[]⟩, .slice none 0 0, .int .i64 0, .int .i64 0, .int .i64 0, .string ⟨#[]⟩, .slice none 0 0, .slice none 0 0, .int .i64 0, .int .i64 0, .string ⟨#[]⟩, .int .i64 0, .int .i64 0, .int .i64 0, .int .i64 0, .int .i64 0] 35) = W0 := hw0
  have hba := L5.below_alloc W0 (.cells #[.int .i64 b.F, .int .i64 b.L, .int .i64 b.R, .string b.H, .slice b.A b.n b.ca, .slice b.C b.m b.cb] 151)
  have HX : Hid (L11.NBx 151 W0.heap.size b.F b.L b.R b.H b.A b.n b.ca b.C b.m b.cb (W0.alloc (.cells #[.int .i64 b.F, .int .i64 b.L, .int .i64 b.R, .string b.H, .slice b.A b.n b.ca, .slice b.C b.m b.cb] 151))) := Lib.hid (heap_alloc_new _ _)
  have HB := Lib.hid (hb0.trans' hba)
  have HK := Lib.hid (HK0.out.below hba)
  obtain ⟨x0, x1, x2, x3, x4, x5⟩ := HX.out.cells
  clear hw0 hb0 hba HK0
  have am : ∀ W, (Instr.typeAssert (.iface 151 (.agg #[.int .i64 b.F, .int .i64 b.L, .int .i64 b.R, .string b.H, .slice b.A b.n b.ca, .slice b.C b.m b.cb])) 97 149 true).run Tryz.prog W = .ok (.tuple #[.agg #[.int .i64 0, .int .i64 0, .int .i64 0, .int .i64 0, .int .i64 0], .bool false]) W := fun W => by kernel_rfl
  have al : ∀ W, (Instr.typeAssert (.iface 151 (.agg #[.int .i64 b.F, .int .i64 b.L, .int .i64 b.R, .string b.H, .slice b.A b.n b.ca, .slice b.C b.m b.cb])) 97 150 true).run Tryz.prog W = .ok (.tuple #[.agg #[.int .i64 0, .int .i64 0, .string ⟨#[]⟩, .slice none 0 0], .bool false]) W := fun W => by kernel_rfl
  have an : ∀ W, (Instr.typeAssert (.iface 151 (.agg #[.int .i64 b.F, .int .i64 b.L, .int .i64 b.R, .string b.H, .slice b.A b.n b.ca, .slice b.C b.m b.cb])) 97 151 true).run Tryz.prog W = .ok (.tuple #[.agg #[.int .i64 b.F, .int .i64 b.L, .int .i64 b.R, .string b.H, .slice b.A b.n b.ca, .slice b.C b.m b.cb], .bool true]) W := fun W => by kernel_rfl
  go_enter Tryz.func46, Tryz.ntmps46
  go_wp2_with (with_reducible refine store_page Tryz.sizeG rfl _ _ rfl w.heap.size 3 LV0 b CV0 Mv0 rfl rfl HK.out ?_)
  have HKF := Lib.hid (setG_box HK.out 3 LV0 b CV0 Mv0)
  have HBF := Lib.hid (setG_below HB.out (Nat.le_refl _) 3 LV0 b CV0 Mv0)
  change bodyPost _ _ _ _ _ (setG _ _ _ _ _ _ _)
  exact bodyPost_ret (v := gv 3 LV0 b CV0 Mv0) (results_one Tryz.results46 rfl (load_pageP HKF.out)) rfl ⟨rfl, HBF.out⟩
set_option maxHeartbeats 2000000 in
set_option maxRecDepth 100000 in
theorem pwhole_c (F N : Int) (D : ByteArray) (w : World) : Calls Tryz.prog 46 #[.iface 152 (L12.cv F N D)] w fun e w' => e = .returned (gv 4 LV0 NV0 ⟨F, N, D⟩ Mv0) ∧ Below w.heap.size w w' := by
  have hb0 := gbox_below 35 0 LV0 NV0 CV0 Mv0 w
  have HK0 := Lib.hid (gbox_new 35 0 LV0 NV0 CV0 Mv0 w)
  generalize hw0 : gbox 35 0 LV0 NV0 CV0 Mv0 w = W0 at *
  have hw1 : w.alloc (.cells #[.int .i64 0, .int .i64 0, .int .i64 0, .string ⟨#[]⟩, .slice none 0 0, .int .i64 0, .int .i64 0, .int .i64 0, .string ⟨#[]⟩, .slice none 0 0, .slice none 0 0, .int .i64 0, .int .i64 0, .string ⟨#[]⟩, .int .i64 0, .int .i64 0, .int .i64 0, .int .i64 0, .int .i64 0] 35) = W0 := hw0
  have hba := L5.below_alloc W0 (.cells #[.int .i64 F, .int .i64 N, .string D] 152)
  have HX : Hid (L12.Cx 152 W0.heap.size F N D (W0.alloc (.cells #[.int .i64 F, .int .i64 N, .string D] 152))) := Lib.hid (heap_alloc_new _ _)
  have HB := Lib.hid (hb0.trans' hba)
  have HK := Lib.hid (HK0.out.below hba)
  obtain ⟨x0, x1, x2⟩ := HX.out.cells
  clear hw0 hb0 hba HK0
  have am : ∀ W, (Instr.typeAssert (.iface 152 (.agg #[.int .i64 F, .int .i64 N, .string D])) 97 149 true).run Tryz.prog W = .ok (.tuple #[.agg #[.int .i64 0, .int .i64 0, .int .i64 0, .int .i64 0, .int .i64 0], .bool false]) W := fun W => by kernel_rfl
  have al : ∀ W, (Instr.typeAssert (.iface 152 (.agg #[.int .i64 F, .int .i64 N, .string D])) 97 150 true).run Tryz.prog W = .ok (.tuple #[.agg #[.int .i64 0, .int .i64 0, .string ⟨#[]⟩, .slice none 0 0], .bool false]) W := fun W => by kernel_rfl
  have an : ∀ W, (Instr.typeAssert (.iface 152 (.agg #[.int .i64 F, .int .i64 N, .string D])) 97 151 true).run Tryz.prog W = .ok (.tuple #[.agg #[.int .i64 0, .int .i64 0, .int .i64 0, .string ⟨#[]⟩, .slice none 0 0, .slice none 0 0], .bool false]) W := fun W => by kernel_rfl
  have ac : ∀ W, (Instr.typeAssert (.iface 152 (.agg #[.int .i64 F, .int .i64 N, .string D])) 97 152 true).run Tryz.prog W = .ok (.tuple #[.agg #[.int .i64 F, .int .i64 N, .string D], .bool true]) W := fun W => by kernel_rfl
  go_enter Tryz.func46, Tryz.ntmps46
  go_wp2_with (with_reducible refine store_page Tryz.sizeG rfl _ _ rfl w.heap.size 4 LV0 NV0 ⟨F, N, D⟩ Mv0 rfl rfl HK.out ?_)
  have HKF := Lib.hid (setG_box HK.out 4 LV0 NV0 ⟨F, N, D⟩ Mv0)
  have HBF := Lib.hid (setG_below HB.out (Nat.le_refl _) 4 LV0 NV0 ⟨F, N, D⟩ Mv0)
  change bodyPost _ _ _ _ _ (setG _ _ _ _ _ _ _)
  exact bodyPost_ret (v := gv 4 LV0 NV0 ⟨F, N, D⟩ Mv0) (results_one Tryz.results46 rfl (load_pageP HKF.out)) rfl ⟨rfl, HBF.out⟩
set_option maxHeartbeats 2000000 in
set_option maxRecDepth 100000 in
theorem pwhole_m (x : Mv) (w : World) : Calls Tryz.prog 46 #[.iface 149 (L13.mv x.p x.pg x.r x.l x.n)] w fun e w' => e = .returned (gv 1 LV0 NV0 CV0 x) ∧ Below w.heap.size w w' := by
  have hb0 := gbox_below 35 0 LV0 NV0 CV0 Mv0 w
  have HK0 := Lib.hid (gbox_new 35 0 LV0 NV0 CV0 Mv0 w)
  generalize hw0 : gbox 35 0 LV0 NV0 CV0 Mv0 w = W0 at *
  have hw1 : w.alloc (.cells #[.int .i64 0, .int .i64 0, .int .i64 0, .string ⟨#[]⟩, .slice none 0 0, .int .i64 0, .int .i64 0, .int .i64 0, .string ⟨#[]⟩, .slice none 0 0, .slice none 0 0, .int .i64 0, .int .i64 0, .string ⟨#[]⟩, .int .i64 0, .int .i64 0, .int .i64 0, .int .i64 0, .int .i64 0] 35) = W0 := hw0
  have hba := L5.below_alloc W0 (.cells #[.int .i64 x.p, .int .i64 x.pg, .int .i64 x.r, .int .i64 x.l, .int .i64 x.n] 149)
  have HX : Hid (L13.Mx 149 W0.heap.size x.p x.pg x.r x.l x.n (W0.alloc (.cells #[.int .i64 x.p, .int .i64 x.pg, .int .i64 x.r, .int .i64 x.l, .int .i64 x.n] 149))) := Lib.hid (heap_alloc_new _ _)
  have HB := Lib.hid (hb0.trans' hba)
  have HK := Lib.hid (HK0.out.below hba)
  obtain ⟨x0, x1, x2, x3, x4⟩ := HX.out.cells
  clear hw0 hb0 hba HK0
  have am : ∀ W, (Instr.typeAssert (.iface 149 (.agg #[.int .i64 x.p, .int .i64 x.pg, .int .i64 x.r, .int .i64 x.l, .int .i64 x.n])) 97 149 true).run Tryz.prog W = .ok (.tuple #[.agg #[.int .i64 x.p, .int .i64 x.pg, .int .i64 x.r, .int .i64 x.l, .int .i64 x.n], .bool true]) W := fun W => by kernel_rfl
  go_enter Tryz.func46, Tryz.ntmps46
  go_wp2_with (with_reducible refine store_page Tryz.sizeG rfl _ _ rfl w.heap.size 1 LV0 NV0 CV0 x rfl rfl HK.out ?_)
  have HKF := Lib.hid (setG_box HK.out 1 LV0 NV0 CV0 x)
  have HBF := Lib.hid (setG_below HB.out (Nat.le_refl _) 1 LV0 NV0 CV0 x)
  change bodyPost _ _ _ _ _ (setG _ _ _ _ _ _ _)
  exact bodyPost_ret (v := gv 1 LV0 NV0 CV0 x) (results_one Tryz.results46 rfl (load_pageP HKF.out)) rfl ⟨rfl, HBF.out⟩
end Go.Proofs.YtpeghilfldpgfaaGreatDoor
namespace Go.Proofs.YtpeghilfldpgfaaGreatDoor
open Go.RowKit
set_option linter.unusedVariables false
set_option linter.unusedSimpArgs false
def PartIs (k : Int) (a : LV) (b : NV) (c : CV) (m : Mv) (t : TypeId) (r : Value) : Prop :=
  (k = 1 ∧ t = 149 ∧ r = L13.mv m.p m.pg m.r m.l m.n) ∨ (k = 2 ∧ t = 150 ∧ r = lvO a) ∨ (k = 3 ∧ t = 151 ∧ r = nvO b) ∨ (k = 4 ∧ t = 152 ∧ r = L12.cv c.F c.N c.D) ∨
    (((k == 1) = false ∧ (k == 2) = false ∧ (k == 3) = false ∧ (k == 4) = false) ∧ t = 148 ∧ r = .agg #[])
theorem partIs (k : Int) (a : LV) (b : NV) (c : CV) (m : Mv) : ∃ t r, PartIs k a b c m t r := by
  unfold PartIs
  by_cases h1 : k = 1
  · exact ⟨_, _, .inl ⟨h1, rfl, rfl⟩⟩
  by_cases h2 : k = 2
  · exact ⟨_, _, .inr (.inl ⟨h2, rfl, rfl⟩)⟩
  by_cases h3 : k = 3
  · exact ⟨_, _, .inr (.inr (.inl ⟨h3, rfl, rfl⟩))⟩
  by_cases h4 : k = 4
  · exact ⟨_, _, .inr (.inr (.inr (.inl ⟨h4, rfl, rfl⟩)))⟩
  exact ⟨_, _, .inr (.inr (.inr (.inr ⟨⟨by simpa using h1, by simpa using h2, by simpa using h3, by simpa using h4⟩, rfl, rfl⟩)))⟩
set_option maxHeartbeats 2000000 in
set_option maxRecDepth 100000 in
theorem ppart_any (k : Int) (a : LV) (b : NV) (c : CV) (m : Mv) (t : TypeId) (r : Value) (h : PartIs k a b c m t r) (w : World) :
    Calls Tryz.prog 51 #[gv k a b c m] w fun e w' => e = .returned (.iface t r) ∧ Below w.heap.size w w' := by
  have HB := Lib.hid (gbox_below 35 k a b c m w)
  obtain ⟨u0, u1, u2, u3, u4, u5, u6, u7, u8, u9, u10, u11, u12, u13, u14, u15, u16, u17, u18⟩ := (gbox_new 35 k a b c m w).cells
  rcases h with ⟨rfl, rfl, rfl⟩ | ⟨rfl, rfl, rfl⟩ | ⟨rfl, rfl, rfl⟩ | ⟨rfl, rfl, rfl⟩ | ⟨⟨h1, h2, h3, h4⟩, rfl, rfl⟩
  all_goals
    go_enter Tryz.func51, Tryz.ntmps51
    go_wp2_with fail
    go_ret
    exact ⟨rfl, HB.out⟩
theorem self_m (m : Mv) (W : World) : Calls Tryz.prog 249 #[L13.mv m.p m.pg m.r m.l m.n] W fun e w' => e = .returned (.int .i64 (0)) ∧ Below W.heap.size W w' := by
  have HB := Lib.hid (L5.below_alloc W (.cells #[.int .i64 m.p, .int .i64 m.pg, .int .i64 m.r, .int .i64 m.l, .int .i64 m.n] 149))
  go_enter Tryz.func249, Tryz.ntmps249
  go_wp2_with fail
  go_ret
  exact ⟨rfl, HB.out⟩
theorem self_l (a : LV) (W : World) : Calls Tryz.prog 251 #[lvO a] W fun e w' => e = .returned (.int .i64 (a.F)) ∧ Below W.heap.size W w' := by
  have HB := Lib.hid (L5.below_alloc W (.cells #[.int .i64 a.F, .int .i64 a.R, .string a.H, .slice a.A a.n a.ca] 150))
  have h : (W.alloc (.cells #[.int .i64 a.F, .int .i64 a.R, .string a.H, .slice a.A a.n a.ca] 150)).cell? ⟨W.heap.size, 0, none⟩ = some (.int .i64 a.F) := by rw [cell_of_row _ _ 0 _ _ _ (heap_alloc_new W _)]; rfl
  go_enter Tryz.func251, Tryz.ntmps251
  go_wp2_with fail
  go_ret
  exact ⟨rfl, HB.out⟩
theorem self_n (b : NV) (W : World) : Calls Tryz.prog 253 #[nvO b] W fun e w' => e = .returned (.int .i64 (b.F)) ∧ Below W.heap.size W w' := by
  have HB := Lib.hid (L5.below_alloc W (.cells #[.int .i64 b.F, .int .i64 b.L, .int .i64 b.R, .string b.H, .slice b.A b.n b.ca, .slice b.C b.m b.cb] 151))
  have h : (W.alloc (.cells #[.int .i64 b.F, .int .i64 b.L, .int .i64 b.R, .string b.H, .slice b.A b.n b.ca, .slice b.C b.m b.cb] 151)).cell? ⟨W.heap.size, 0, none⟩ = some (.int .i64 b.F) := by rw [cell_of_row _ _ 0 _ _ _ (heap_alloc_new W _)]; rfl
  go_enter Tryz.func253, Tryz.ntmps253
  go_wp2_with fail
  go_ret
  exact ⟨rfl, HB.out⟩
theorem self_c (c : CV) (W : World) : Calls Tryz.prog 255 #[L12.cv c.F c.N c.D] W fun e w' => e = .returned (.int .i64 (c.F)) ∧ Below W.heap.size W w' := by
  have HB := Lib.hid (L5.below_alloc W (.cells #[.int .i64 c.F, .int .i64 c.N, .string c.D] 152))
  have h : (W.alloc (.cells #[.int .i64 c.F, .int .i64 c.N, .string c.D] 152)).cell? ⟨W.heap.size, 0, none⟩ = some (.int .i64 c.F) := by rw [cell_of_row _ _ 0 _ _ _ (heap_alloc_new W _)]; rfl
  go_enter Tryz.func255, Tryz.ntmps255
  go_wp2_with fail
  go_ret
  exact ⟨rfl, HB.out⟩
theorem self_0  (W : World) : Calls Tryz.prog 247 #[.agg #[]] W fun e w' => e = .returned (.int .i64 (0)) ∧ Below W.heap.size W w' := by
  have HB := Lib.hid (L5.below_alloc W (.cells #[] 148))
  go_enter Tryz.func247, Tryz.ntmps247
  go_wp2_with fail
  go_ret
  exact ⟨rfl, HB.out⟩
theorem its_self {k : Int} {a : LV} {b : NV} {c : CV} {m : Mv} {t : TypeId} {r : Value} (h : PartIs k a b c m t r) : ∃ f, (∀ N W, (method (N + 1) t r "withy/page.self").run Tryz.prog W = .ok (f, r) W) ∧ Enters Tryz.prog f ∧
    Hid (∀ W, Calls Tryz.prog f #[r] W fun e w' => e = .returned (.int .i64 (selfV k a b c)) ∧ Below W.heap.size W w') := by
  rcases h with ⟨rfl, rfl, rfl⟩ | ⟨rfl, rfl, rfl⟩ | ⟨rfl, rfl, rfl⟩ | ⟨rfl, rfl, rfl⟩ | ⟨⟨h1, h2, h3, h4⟩, rfl, rfl⟩
  · exact ⟨249, fun N W => by kernel_rfl, enters_of Tryz.func249 (by kernel_rfl) rfl, Lib.hid fun W => by rw [show selfV _ _ _ _ = 0 from by simp [selfV]]; exact self_m m W⟩
  · exact ⟨251, fun N W => by kernel_rfl, enters_of Tryz.func251 (by kernel_rfl) rfl, Lib.hid fun W => by rw [show selfV _ _ _ _ = a.F from by simp [selfV]]; exact self_l a W⟩
  · exact ⟨253, fun N W => by kernel_rfl, enters_of Tryz.func253 (by kernel_rfl) rfl, Lib.hid fun W => by rw [show selfV _ _ _ _ = b.F from by simp [selfV]]; exact self_n b W⟩
  · exact ⟨255, fun N W => by kernel_rfl, enters_of Tryz.func255 (by kernel_rfl) rfl, Lib.hid fun W => by rw [show selfV _ _ _ _ = c.F from by simp [selfV]]; exact self_c c W⟩
  · exact ⟨247, fun N W => by kernel_rfl, enters_of Tryz.func247 (by kernel_rfl) rfl, Lib.hid fun W => by rw [show selfV k a b c = 0 from by have e1 := ne_of_beq_false h1; have e2 := ne_of_beq_false h2; have e3 := ne_of_beq_false h3; have e4 := ne_of_beq_false h4; simp [selfV, e1, e2, e3, e4]]; exact self_0 W⟩
set_option maxHeartbeats 2000000 in
set_option maxRecDepth 100000 in
theorem pself_any (k : Int) (a : LV) (b : NV) (c : CV) (m : Mv) (w : World) :
    Calls Tryz.prog 19 #[gv k a b c m] w fun e w' => e = .returned (.int .i64 (selfV k a b c)) ∧ Below w.heap.size w w' := by
  obtain ⟨t, r, hp⟩ := partIs k a b c m
  have HP := Lib.hid (ppart_any k a b c m t r hp)
  obtain ⟨f, hm, hen, HF⟩ := its_self hp
  have HB := Lib.hid (gbox_below 35 k a b c m w)
  have HK := Lib.hid (gbox_new 35 k a b c m w)
  generalize selfV k a b c = v at *
  clear hp
  generalize hw0 : gbox 35 k a b c m w = W0 at *
  have hw1 : w.alloc (.cells #[.int .i64 k, .int .i64 a.F, .int .i64 a.R, .string a.H, .slice a.A a.n a.ca, .int .i64 b.F, .int .i64 b.L, .int .i64 b.R, .string b.H, .slice b.A b.n b.ca, .slice b.C b.m b.cb, .int .i64 c.F, .int .i64 c.N, .string c.D, .int .i64 m.p, .int .i64 m.pg, .int .i64 m.r, .int .i64 m.l, .int .i64 m.n] 35) = W0 := hw0
  clear hw0
  go_enter Tryz.func19, Tryz.ntmps19
  go_wp2_with (refine load_wanted Tryz.underlying35 rfl Tryz.sizeG (by rfl) (.tmp 1) rfl w.heap.size rfl HK.out ?_)
  refine (HP.out _).mono ?_
  rintro e V ⟨rfl, hb⟩
  replace HB := Lib.hid (HB.out.trans' hb)
  clear hb HK hw1
  have hm2 := fun N => hm N V
  have hen2 : ∀ args w, (callFunc f args).run Tryz.prog w = .ok (.enter f args) w := hen
  go_wp2_with fail
  refine (HF.out _).mono ?_
  rintro e U ⟨rfl, hb⟩
  replace HB := Lib.hid (HB.out.trans' hb)
  go_wp2_with fail
  go_ret
  exact ⟨rfl, HB.out⟩
theorem right_m (m : Mv) (W : World) : Calls Tryz.prog 248 #[L13.mv m.p m.pg m.r m.l m.n] W fun e w' => e = .returned (.int .i64 (m.r)) ∧ Below W.heap.size W w' := by
  have HB := Lib.hid (L5.below_alloc W (.cells #[.int .i64 m.p, .int .i64 m.pg, .int .i64 m.r, .int .i64 m.l, .int .i64 m.n] 149))
  have h : (W.alloc (.cells #[.int .i64 m.p, .int .i64 m.pg, .int .i64 m.r, .int .i64 m.l, .int .i64 m.n] 149)).cell? ⟨W.heap.size, 2, none⟩ = some (.int .i64 m.r) := by rw [cell_of_row _ _ 2 _ _ _ (heap_alloc_new W _)]; rfl
  go_enter Tryz.func248, Tryz.ntmps248
  go_wp2_with fail
  go_ret
  exact ⟨rfl, HB.out⟩
theorem right_l (a : LV) (W : World) : Calls Tryz.prog 250 #[lvO a] W fun e w' => e = .returned (.int .i64 (a.R)) ∧ Below W.heap.size W w' := by
  have HB := Lib.hid (L5.below_alloc W (.cells #[.int .i64 a.F, .int .i64 a.R, .string a.H, .slice a.A a.n a.ca] 150))
  have h : (W.alloc (.cells #[.int .i64 a.F, .int .i64 a.R, .string a.H, .slice a.A a.n a.ca] 150)).cell? ⟨W.heap.size, 1, none⟩ = some (.int .i64 a.R) := by rw [cell_of_row _ _ 1 _ _ _ (heap_alloc_new W _)]; rfl
  go_enter Tryz.func250, Tryz.ntmps250
  go_wp2_with fail
  go_ret
  exact ⟨rfl, HB.out⟩
theorem right_n (b : NV) (W : World) : Calls Tryz.prog 252 #[nvO b] W fun e w' => e = .returned (.int .i64 (b.R)) ∧ Below W.heap.size W w' := by
  have HB := Lib.hid (L5.below_alloc W (.cells #[.int .i64 b.F, .int .i64 b.L, .int .i64 b.R, .string b.H, .slice b.A b.n b.ca, .slice b.C b.m b.cb] 151))
  have h : (W.alloc (.cells #[.int .i64 b.F, .int .i64 b.L, .int .i64 b.R, .string b.H, .slice b.A b.n b.ca, .slice b.C b.m b.cb] 151)).cell? ⟨W.heap.size, 2, none⟩ = some (.int .i64 b.R) := by rw [cell_of_row _ _ 2 _ _ _ (heap_alloc_new W _)]; rfl
  go_enter Tryz.func252, Tryz.ntmps252
  go_wp2_with fail
  go_ret
  exact ⟨rfl, HB.out⟩
theorem right_c (c : CV) (W : World) : Calls Tryz.prog 254 #[L12.cv c.F c.N c.D] W fun e w' => e = .returned (.int .i64 (c.N)) ∧ Below W.heap.size W w' := by
  have HB := Lib.hid (L5.below_alloc W (.cells #[.int .i64 c.F, .int .i64 c.N, .string c.D] 152))
  have h : (W.alloc (.cells #[.int .i64 c.F, .int .i64 c.N, .string c.D] 152)).cell? ⟨W.heap.size, 1, none⟩ = some (.int .i64 c.N) := by rw [cell_of_row _ _ 1 _ _ _ (heap_alloc_new W _)]; rfl
  go_enter Tryz.func254, Tryz.ntmps254
  go_wp2_with fail
  go_ret
  exact ⟨rfl, HB.out⟩
theorem right_0  (W : World) : Calls Tryz.prog 246 #[.agg #[]] W fun e w' => e = .returned (.int .i64 (0)) ∧ Below W.heap.size W w' := by
  have HB := Lib.hid (L5.below_alloc W (.cells #[] 148))
  go_enter Tryz.func246, Tryz.ntmps246
  go_wp2_with fail
  go_ret
  exact ⟨rfl, HB.out⟩
theorem its_right {k : Int} {a : LV} {b : NV} {c : CV} {m : Mv} {t : TypeId} {r : Value} (h : PartIs k a b c m t r) : ∃ f, (∀ N W, (method (N + 1) t r "withy/page.right").run Tryz.prog W = .ok (f, r) W) ∧ Enters Tryz.prog f ∧
    Hid (∀ W, Calls Tryz.prog f #[r] W fun e w' => e = .returned (.int .i64 (rightV k a b c m)) ∧ Below W.heap.size W w') := by
  rcases h with ⟨rfl, rfl, rfl⟩ | ⟨rfl, rfl, rfl⟩ | ⟨rfl, rfl, rfl⟩ | ⟨rfl, rfl, rfl⟩ | ⟨⟨h1, h2, h3, h4⟩, rfl, rfl⟩
  · exact ⟨248, fun N W => by kernel_rfl, enters_of Tryz.func248 (by kernel_rfl) rfl, Lib.hid fun W => by rw [show rightV _ _ _ _ _ = m.r from by simp [rightV]]; exact right_m m W⟩
  · exact ⟨250, fun N W => by kernel_rfl, enters_of Tryz.func250 (by kernel_rfl) rfl, Lib.hid fun W => by rw [show rightV _ _ _ _ _ = a.R from by simp [rightV]]; exact right_l a W⟩
  · exact ⟨252, fun N W => by kernel_rfl, enters_of Tryz.func252 (by kernel_rfl) rfl, Lib.hid fun W => by rw [show rightV _ _ _ _ _ = b.R from by simp [rightV]]; exact right_n b W⟩
  · exact ⟨254, fun N W => by kernel_rfl, enters_of Tryz.func254 (by kernel_rfl) rfl, Lib.hid fun W => by rw [show rightV _ _ _ _ _ = c.N from by simp [rightV]]; exact right_c c W⟩
  · exact ⟨246, fun N W => by kernel_rfl, enters_of Tryz.func246 (by kernel_rfl) rfl, Lib.hid fun W => by rw [show rightV k a b c m = 0 from by have e1 := ne_of_beq_false h1; have e2 := ne_of_beq_false h2; have e3 := ne_of_beq_false h3; have e4 := ne_of_beq_false h4; simp [rightV, e1, e2, e3, e4]]; exact right_0 W⟩
set_option maxHeartbeats 2000000 in
set_option maxRecDepth 100000 in
theorem pright_any (k : Int) (a : LV) (b : NV) (c : CV) (m : Mv) (w : World) :
    Calls Tryz.prog 21 #[gv k a b c m] w fun e w' => e = .returned (.int .i64 (rightV k a b c m)) ∧ Below w.heap.size w w' := by
  obtain ⟨t, r, hp⟩ := partIs k a b c m
  have HP := Lib.hid (ppart_any k a b c m t r hp)
  obtain ⟨f, hm, hen, HF⟩ := its_right hp
  have HB := Lib.hid (gbox_below 35 k a b c m w)
  have HK := Lib.hid (gbox_new 35 k a b c m w)
  generalize rightV k a b c m = v at *
  clear hp
  generalize hw0 : gbox 35 k a b c m w = W0 at *
  have hw1 : w.alloc (.cells #[.int .i64 k, .int .i64 a.F, .int .i64 a.R, .string a.H, .slice a.A a.n a.ca, .int .i64 b.F, .int .i64 b.L, .int .i64 b.R, .string b.H, .slice b.A b.n b.ca, .slice b.C b.m b.cb, .int .i64 c.F, .int .i64 c.N, .string c.D, .int .i64 m.p, .int .i64 m.pg, .int .i64 m.r, .int .i64 m.l, .int .i64 m.n] 35) = W0 := hw0
  clear hw0
  go_enter Tryz.func21, Tryz.ntmps21
  go_wp2_with (refine load_wanted Tryz.underlying35 rfl Tryz.sizeG (by rfl) (.tmp 1) rfl w.heap.size rfl HK.out ?_)
  refine (HP.out _).mono ?_
  rintro e V ⟨rfl, hb⟩
  replace HB := Lib.hid (HB.out.trans' hb)
  clear hb HK hw1
  have hm2 := fun N => hm N V
  have hen2 : ∀ args w, (callFunc f args).run Tryz.prog w = .ok (.enter f args) w := hen
  go_wp2_with fail
  refine (HF.out _).mono ?_
  rintro e U ⟨rfl, hb⟩
  replace HB := Lib.hid (HB.out.trans' hb)
  go_wp2_with fail
  go_ret
  exact ⟨rfl, HB.out⟩
end Go.Proofs.YtpeghilfldpgfaaGreatDoor
namespace Go.Proofs.YtpeghilfldpgfaaGreatDoor
open Go.RowKit
set_option linter.unusedVariables false
set_option linter.unusedSimpArgs false
set_option maxHeartbeats 4000000 in
set_option maxRecDepth 100000 in
theorem pgdec_any (s : ByteArray) (w : World) (hg : L10.Glo w) (hs : s.size ≤ 1000000) :
    Calls Tryz.prog 17 #[.string s] w fun e w' => DecG s w.heap.size e w' ∧ Below w.heap.size w w' := by
  have hb0 := gbox_below 35 0 LV0 NV0 CV0 Mv0 w
  have HK := Lib.hid (gbox_new 35 0 LV0 NV0 CV0 Mv0 w)
  have HB := Lib.hid hb0
  have HG := Lib.hid (hg.on hb0)
  have HR := Lib.hid (fun W (h : L10.Glo W) => pread_any s W h hs)
  clear hb0 hg hs
  generalize hw0 : gbox 35 0 LV0 NV0 CV0 Mv0 w = W0 at *
  have hw1 : w.alloc (.cells #[.int .i64 0, .int .i64 0, .int .i64 0, .string ⟨#[]⟩, .slice none 0 0, .int .i64 0, .int .i64 0, .int .i64 0, .string ⟨#[]⟩, .slice none 0 0, .slice none 0 0, .int .i64 0, .int .i64 0, .string ⟨#[]⟩, .int .i64 0, .int .i64 0, .int .i64 0, .int .i64 0, .int .i64 0] 35) = W0 := hw0
  clear hw0
  go_enter Tryz.func17, Tryz.ntmps17
  go_wp2_with fail
  refine (HR.out _ HG.out).mono ?_
  rintro e V ⟨hd, hb⟩
  have HLT := Lib.hid HK.out.lt
  replace HB := Lib.hid (HB.out.trans' hb)
  replace HK := Lib.hid (HK.out.below hb)
  clear hb HR HG hw1
  rcases hd with ⟨a, l, hd, rfl, hl, ho⟩ | ⟨b, n, hd, rfl, hl, ho, ho2⟩ | ⟨F, N, D, hd, rfl⟩ | ⟨x, hd, rfl⟩ | ⟨t, v, hd, rfl⟩
  · have HS := Lib.hid hd
    have HL := Lib.hid hl
    have HO : Hid (∀ p, a.A = some p → w.heap.size < p.block) := Lib.hid (fun p hp => Nat.lt_of_lt_of_le HLT.out (ho p hp))
    clear hl ho
    clear hd
    go_wp2_with fail
    refine (pwhole_l a _).mono ?_
    rintro e U ⟨rfl, hb⟩
    replace HB := Lib.hid (HB.out.trans' hb)
    replace HK := Lib.hid (HK.out.below hb)
    replace HL := Lib.hid (HL.out.on hb)
    clear hb
    go_wp2_with (with_reducible refine store_page Tryz.sizeG rfl _ _ rfl w.heap.size 2 a NV0 CV0 Mv0 rfl rfl HK.out ?_)
    have HKF := Lib.hid (setG_box HK.out 2 a NV0 CV0 Mv0)
    have HBF := Lib.hid (setG_below HB.out (Nat.le_refl _) 2 a NV0 CV0 Mv0)
    exact bodyPost_ret (v := .tuple #[gv 2 a NV0 CV0 Mv0, .int .i64 0]) (results_two Tryz.results17 rfl (load_pageP HKF.out)) rfl ⟨.inl ⟨2, a, NV0, CV0, Mv0, _, HS.out, rfl, ⟨rfl, HL.out.stored (fun p hp => Nat.ne_of_gt (HO.out p hp)) 2 a NV0 CV0 Mv0, hasN0 _, rfl, rfl⟩, own_n0 (fun p hp => Nat.le_of_lt (HO.out p hp))⟩, HBF.out⟩
  · have HS := Lib.hid hd
    have HL := Lib.hid hl
    have HO : Hid (∀ p, b.A = some p → w.heap.size < p.block) := Lib.hid (fun p hp => Nat.lt_of_lt_of_le HLT.out (ho p hp))
    have HO2 : Hid (∀ p, b.C = some p → w.heap.size < p.block) := Lib.hid (fun p hp => Nat.lt_of_lt_of_le HLT.out (ho2 p hp))
    clear hl ho ho2
    clear hd
    go_wp2_with fail
    refine (pwhole_n b _).mono ?_
    rintro e U ⟨rfl, hb⟩
    replace HB := Lib.hid (HB.out.trans' hb)
    replace HK := Lib.hid (HK.out.below hb)
    replace HL := Lib.hid (HL.out.on hb)
    clear hb
    go_wp2_with (with_reducible refine store_page Tryz.sizeG rfl _ _ rfl w.heap.size 3 LV0 b CV0 Mv0 rfl rfl HK.out ?_)
    have HKF := Lib.hid (setG_box HK.out 3 LV0 b CV0 Mv0)
    have HBF := Lib.hid (setG_below HB.out (Nat.le_refl _) 3 LV0 b CV0 Mv0)
    exact bodyPost_ret (v := .tuple #[gv 3 LV0 b CV0 Mv0, .int .i64 0]) (results_two Tryz.results17 rfl (load_pageP HKF.out)) rfl ⟨.inl ⟨3, LV0, b, CV0, Mv0, _, HS.out, rfl, ⟨rfl, hasL0 _, HL.out.stored (fun p hp => Nat.ne_of_gt (HO.out p hp)) (fun p hp => Nat.ne_of_gt (HO2.out p hp)) 3 LV0 b CV0 Mv0, rfl, rfl⟩, own_l0 (fun p hp => Nat.le_of_lt (HO.out p hp)) (fun p hp => Nat.le_of_lt (HO2.out p hp))⟩, HBF.out⟩
  · have HS := Lib.hid hd
    clear hd
    go_wp2_with fail
    refine (pwhole_c F N D _).mono ?_
    rintro e U ⟨rfl, hb⟩
    replace HB := Lib.hid (HB.out.trans' hb)
    replace HK := Lib.hid (HK.out.below hb)
    clear hb
    go_wp2_with (with_reducible refine store_page Tryz.sizeG rfl _ _ rfl w.heap.size 4 LV0 NV0 ⟨F, N, D⟩ Mv0 rfl rfl HK.out ?_)
    have HKF := Lib.hid (setG_box HK.out 4 LV0 NV0 ⟨F, N, D⟩ Mv0)
    have HBF := Lib.hid (setG_below HB.out (Nat.le_refl _) 4 LV0 NV0 ⟨F, N, D⟩ Mv0)
    exact bodyPost_ret (v := .tuple #[gv 4 LV0 NV0 ⟨F, N, D⟩ Mv0, .int .i64 0]) (results_two Tryz.results17 rfl (load_pageP HKF.out)) rfl ⟨.inl ⟨4, LV0, NV0, ⟨F, N, D⟩, Mv0, _, HS.out, rfl, ⟨rfl, hasL0 _, hasN0 _, rfl, rfl⟩, own_n0 (fun p hp => by cases hp)⟩, HBF.out⟩
  · have HS := Lib.hid hd
    clear hd
    go_wp2_with fail
    refine (pwhole_m x _).mono ?_
    rintro e U ⟨rfl, hb⟩
    replace HB := Lib.hid (HB.out.trans' hb)
    replace HK := Lib.hid (HK.out.below hb)
    clear hb
    go_wp2_with (with_reducible refine store_page Tryz.sizeG rfl _ _ rfl w.heap.size 1 LV0 NV0 CV0 x rfl rfl HK.out ?_)
    have HKF := Lib.hid (setG_box HK.out 1 LV0 NV0 CV0 x)
    have HBF := Lib.hid (setG_below HB.out (Nat.le_refl _) 1 LV0 NV0 CV0 x)
    exact bodyPost_ret (v := .tuple #[gv 1 LV0 NV0 CV0 x, .int .i64 0]) (results_two Tryz.results17 rfl (load_pageP HKF.out)) rfl ⟨.inl ⟨1, LV0, NV0, CV0, x, _, HS.out, rfl, ⟨rfl, hasL0 _, hasN0 _, rfl, rfl⟩, own_n0 (fun p hp => by cases hp)⟩, HBF.out⟩
  · go_wp2_with (with_reducible refine store_page Tryz.sizeG rfl _ _ rfl w.heap.size 0 LV0 NV0 CV0 Mv0 rfl rfl HK.out ?_)
    have HKF := Lib.hid (setG_box HK.out 0 LV0 NV0 CV0 Mv0)
    have HBF := Lib.hid (setG_below HB.out (Nat.le_refl _) 0 LV0 NV0 CV0 Mv0)
    exact bodyPost_ret (v := .tuple #[gv 0 LV0 NV0 CV0 Mv0, .int .i64 3]) (results_two Tryz.results17 rfl (load_pageP HKF.out)) rfl ⟨.inr ⟨hd, rfl⟩, HBF.out⟩
end Go.Proofs.YtpeghilfldpgfaaGreatDoor
namespace Go.Proofs.YtpeghilfldpgfaaGreatDoor
open Go.RowKit
set_option linter.unusedVariables false
set_option linter.unusedSimpArgs false
set_option maxHeartbeats 4000000 in
set_option maxRecDepth 100000 in
theorem pat_out (A : Option Addr) (l : List ByteArray) (ca : Nat) (i : Int) (w : World) (h : ¬ (0 ≤ i ∧ i < l.length)) :
    Calls Tryz.prog 10 #[.slice A l.length ca, .int .i64 i] w fun e w' => AtG l i w.heap.size e w' ∧ Below w.heap.size w w' := by
  have hb0 := gbox_below 35 0 LV0 NV0 CV0 Mv0 w
  have HK := Lib.hid (gbox_new 35 0 LV0 NV0 CV0 Mv0 w)
  have HB := Lib.hid hb0
  have HD := Lib.hid (GP.at_arg h)
  have hlen : Hid (l.length = l.length) := Lib.hid rfl
  obtain ⟨n, hn⟩ : ∃ n, l.length = n := ⟨_, rfl⟩
  rw [hn] at h
  rw [hn]
  clear hb0 hn
  rcases (show i < 0 ∨ (0 ≤ i ∧ (n : Int) ≤ i) by omega) with h1 | ⟨h1, h2⟩
  · have d1 : decide (i < 0) = true := decide_eq_true h1
    clear h
    go_enter Tryz.func10, Tryz.ntmps10
    go_wp2_with (with_reducible refine store_page Tryz.sizeG rfl _ _ rfl w.heap.size 0 LV0 NV0 CV0 Mv0 rfl rfl HK.out ?_)
    have HKF := Lib.hid (setG_box HK.out 0 LV0 NV0 CV0 Mv0)
    have HBF := Lib.hid (setG_below HB.out (Nat.le_refl _) 0 LV0 NV0 CV0 Mv0)
    exact bodyPost_ret (v := .tuple #[gv 0 LV0 NV0 CV0 Mv0, .int .i64 4]) (results_two Tryz.results10 rfl (load_pageP HKF.out)) rfl ⟨.inr ⟨4, HD.out, .inr rfl, rfl⟩, HBF.out⟩
  · have d1 : decide (i < 0) = false := decide_eq_false (by omega)
    have d2 : decide ((n : Int) ≤ i) = true := decide_eq_true h2
    clear h
    go_enter Tryz.func10, Tryz.ntmps10
    go_wp2_with (with_reducible refine store_page Tryz.sizeG rfl _ _ rfl w.heap.size 0 LV0 NV0 CV0 Mv0 rfl rfl HK.out ?_)
    have HKF := Lib.hid (setG_box HK.out 0 LV0 NV0 CV0 Mv0)
    have HBF := Lib.hid (setG_below HB.out (Nat.le_refl _) 0 LV0 NV0 CV0 Mv0)
    exact bodyPost_ret (v := .tuple #[gv 0 LV0 NV0 CV0 Mv0, .int .i64 4]) (results_two Tryz.results10 rfl (load_pageP HKF.out)) rfl ⟨.inr ⟨4, HD.out, .inr rfl, rfl⟩, HBF.out⟩
theorem load_wantedP {ops : Array Oper} {rest : List Oper} {o : Oper} {q : Act} {w : World} {Q : Exit → Act → World → Prop} (x : Operand) (ho : o.op = .load 35 x)
    (g : Nat) (hx : q.eval x = .pointer (some ⟨g, 0, none⟩)) {t : TypeId} {k : Int} {a : LV} {b : NV} {c : CV} {m : Mv} (hg : Gx t g k a b c m w) (hw : Region.wanted o (yielded ops q.tmps) = true)
    (h : wpList Tryz.prog ops Q rest (q.put o.dst (gv k a b c m)) w) : wpList Tryz.prog ops Q (o :: rest) q w := load_wanted Tryz.underlying35 rfl Tryz.sizeG hw x ho g hx hg h
set_option maxHeartbeats 4000000 in
set_option maxRecDepth 100000 in
theorem pat_in (A : Option Addr) (l : List ByteArray) (ca : Nat) (i : Nat) (w : World) (hg : L10.Glo w) (ha : L5.Lies w w.heap.size A l) (hi : i < l.length) (hs : ∀ s ∈ l, s.size ≤ 1000000) :
    Calls Tryz.prog 10 #[.slice A l.length ca, .int .i64 i] w fun e w' => AtG l i w.heap.size e w' ∧ Below w.heap.size w w' := by
  obtain ⟨s, hsi⟩ : ∃ s, l[i]? = some s := ⟨_, List.getElem?_eq_getElem hi⟩
  obtain ⟨p, rfl, hpb, hpc⟩ := ha i s hsi
  have hss : s.size ≤ 1000000 := hs s (List.mem_of_getElem? hsi)
  have hb0 := gbox_below 35 0 LV0 NV0 CV0 Mv0 w
  have HK := Lib.hid (gbox_new 35 0 LV0 NV0 CV0 Mv0 w)
  have HB := Lib.hid hb0
  have HG := Lib.hid (hg.on hb0)
  have hc0 : (gbox 35 0 LV0 NV0 CV0 Mv0 w).cell? (p.add i) = some (.string s) := (hb0.cell (by rw [L5.addr_block]; exact hpb)).trans hpc
  have HR := Lib.hid (fun W (h : L10.Glo W) => pgdec_any s W h hss)
  have HS := Lib.hid (fun k a b c m W => pself_any k a b c m W)
  have HAN := Lib.hid (@GP.at_none l i s hsi)
  have HAM := Lib.hid (fun x => @GP.at_moved l i s x hsi)
  have HAO := Lib.hid (fun x => @GP.at_ok l i s x hsi)
  obtain ⟨n, hn⟩ : ∃ n, l.length = n := ⟨_, rfl⟩
  rw [hn] at hi ⊢
  have d1 : decide ((i : Int) < 0) = false := decide_eq_false (by omega)
  have d2 : decide ((n : Int) ≤ i) = false := decide_eq_false (by omega)
  have q1 : (0 : Int) ≤ i := by omega
  have q2 : (i : Int) < n := by omega
  clear hb0 hg ha hs hss hsi hpb hpc hn hi
  generalize hw0 : gbox 35 0 LV0 NV0 CV0 Mv0 w = W0 at *
  have hw1 : w.alloc (.cells #[.int .i64 0, .int .i64 0, .int .i64 0, .string ⟨#[]⟩, .slice none 0 0, .int .i64 0, .int .i64 0, .int .i64 0, .string ⟨#[]⟩, .slice none 0 0, .slice none 0 0, .int .i64 0, .int .i64 0, .string ⟨#[]⟩, .int .i64 0, .int .i64 0, .int .i64 0, .int .i64 0, .int .i64 0] 35) = W0 := hw0
  clear hw0
  go_enter Tryz.func10, Tryz.ntmps10
  go_wp2_with fail
  refine (HR.out _ HG.out).mono ?_
  rintro e V ⟨hd, hb⟩
  clear hc0 q1 q2 hw1
  rcases hd with ⟨k, a, b, c, m, x, hx, rfl, hG, hO⟩ | ⟨hx, rfl⟩
  · have hba := gbox_below 35 k a b c m V
    have HX := Lib.hid (gbox_new 35 k a b c m V)
    have HLT : Hid (w.heap.size < W0.heap.size) := Lib.hid HK.out.lt
    replace HB := Lib.hid (HB.out.trans' (hb.trans' hba))
    replace HK := Lib.hid (HK.out.below (hb.trans' hba))
    have HGG := Lib.hid (hG.on hba)
    have HO := Lib.hid hO
    have HBV : Hid (W0.heap.size ≤ W0.heap.size) := Lib.hid (Nat.le_refl _)
    have hself := selfV_of hG
    obtain ⟨v, hv⟩ : ∃ v, selfV k a b c = v := ⟨_, rfl⟩
    have HSV : Hid (GP.self x = v) := Lib.hid (hself.symm.trans hv)
    have HSS : Hid (∀ W, Calls Tryz.prog 19 #[gv k a b c m] W fun e w' => e = .returned (.int .i64 v) ∧ Below W.heap.size W w') := Lib.hid (fun W => by have h := HS.out k a b c m W; rw [hv] at h; exact h)
    have HDX := Lib.hid hx
    have hld := load_pageP HX.out
    clear hb hba hG hO hself hv hx HS HR HG
    go_wp2_with (first | (with_reducible refine store_page Tryz.sizeG rfl _ _ rfl V.heap.size k a b c m rfl rfl (gbox_zero 35 V) ?_; rw [setG_alloc]; generalize gbox 35 k a b c m V = V1 at *) | (refine load_wantedP (.tmp 6) rfl V.heap.size rfl HX.out (by rfl) ?_))
    clear hld
    refine (HSS.out _).mono ?_
    rintro e w2 ⟨rfl, hb⟩
    replace HB := Lib.hid (HB.out.trans' hb)
    replace HK := Lib.hid (HK.out.below hb)
    replace HX := Lib.hid (HX.out.below hb)
    replace HGG := Lib.hid (HGG.out.on hb)
    clear hb
    generalize V.heap.size = gx at *
    by_cases hvi : v = i
    · have hz : (v != (i : Int)) = false := by simp [hvi]
      have HOK := Lib.hid (HAO.out x HDX.out (HSV.out.trans hvi))
      clear hvi
      go_wp2_with (first | (refine load_wantedP (.tmp 6) rfl gx rfl HX.out (by rfl) ?_) | (with_reducible refine store_page Tryz.sizeG rfl _ _ rfl w.heap.size k a b c m rfl rfl HK.out ?_))
      have HKF := Lib.hid (setG_box HK.out k a b c m)
      have HBF := Lib.hid (setG_below HB.out (Nat.le_refl _) k a b c m)
      exact bodyPost_ret (v := .tuple #[gv k a b c m, .int .i64 0]) (results_two Tryz.results10 rfl (load_pageP HKF.out)) rfl ⟨.inl ⟨k, a, b, c, m, x, HOK.out, rfl, HGG.out.stored HO.out (Nat.lt_of_lt_of_le HLT.out HBV.out) k a b c m, HO.out.lt (Nat.le_trans (Nat.le_of_lt HLT.out) HBV.out)⟩, HBF.out⟩
    · have hz : (v != (i : Int)) = true := by simpa using hvi
      have HNO := Lib.hid (HAM.out x HDX.out (fun h => hvi (HSV.out.symm.trans h)))
      clear hvi
      go_wp2_with (with_reducible refine store_page Tryz.sizeG rfl _ _ rfl w.heap.size 0 LV0 NV0 CV0 Mv0 rfl rfl HK.out ?_)
      have HKF := Lib.hid (setG_box HK.out 0 LV0 NV0 CV0 Mv0)
      have HBF := Lib.hid (setG_below HB.out (Nat.le_refl _) 0 LV0 NV0 CV0 Mv0)
      exact bodyPost_ret (v := .tuple #[gv 0 LV0 NV0 CV0 Mv0, .int .i64 3]) (results_two Tryz.results10 rfl (load_pageP HKF.out)) rfl ⟨.inr ⟨3, HNO.out, .inl rfl, rfl⟩, HBF.out⟩
  · have hba := gbox_below 35 0 LV0 NV0 CV0 Mv0 V
    replace HB := Lib.hid (HB.out.trans' (hb.trans' hba))
    replace HK := Lib.hid (HK.out.below (hb.trans' hba))
    have HNO := Lib.hid (HAN.out hx)
    clear hb hba hx HS HR HG
    go_wp2_with (first | (with_reducible refine store_page Tryz.sizeG rfl _ _ rfl V.heap.size 0 LV0 NV0 CV0 Mv0 rfl rfl (gbox_zero 35 V) ?_; rw [setG_alloc]; generalize gbox 35 0 LV0 NV0 CV0 Mv0 V = V1 at *) | (with_reducible refine store_page Tryz.sizeG rfl _ _ rfl w.heap.size 0 LV0 NV0 CV0 Mv0 rfl rfl HK.out ?_))
    have HKF := Lib.hid (setG_box HK.out 0 LV0 NV0 CV0 Mv0)
    have HBF := Lib.hid (setG_below HB.out (Nat.le_refl _) 0 LV0 NV0 CV0 Mv0)
    exact bodyPost_ret (v := .tuple #[gv 0 LV0 NV0 CV0 Mv0, .int .i64 3]) (results_two Tryz.results10 rfl (load_pageP HKF.out)) rfl ⟨.inr ⟨3, HNO.out, .inl rfl, rfl⟩, HBF.out⟩
end Go.Proofs.YtpeghilfldpgfaaGreatDoor
namespace Go.Proofs.YtpeghilfldpgfaaGreatDoor.L5
open Go.RowKit
set_option linter.unusedVariables false
set_option linter.unusedSimpArgs false
def cutTo (l : List ByteArray) (k : Nat) : List ByteArray := (l.take k).map cutS
theorem cutTo_snoc (l : List ByteArray) (k : Nat) (s : ByteArray) (h : l[k]? = some s) : cutTo l (k + 1) = cutTo l k ++ [cutS s] := by
  have : l.take (k + 1) = l.take k ++ [s] := by rw [List.take_add_one, h]; rfl
  rw [cutTo, this]
  simp [cutTo]
set_option maxHeartbeats 1000000 in
set_option maxRecDepth 100000 in
theorem cutO_any (A : Option Addr) (l : List ByteArray) (ca : Nat) (w : World) (ha : Lies w w.heap.size A l) (hl : l.length ≤ maxLen) (hs : ∀ s ∈ l, s.size ≤ maxLen) :
    Calls Tryz.prog 71 #[.slice A l.length ca] w fun e w' => ∃ g cap, e = .returned (.slice (some ⟨g, 0, none⟩) (cutL l).length cap) ∧ (cutL l).length ≤ cap ∧ Lies w' w'.heap.size (some ⟨g, 0, none⟩) (cutL l) ∧ Below w.heap.size w w' ∧ Owns w' w.heap.size (.slice (some ⟨g, 0, none⟩) (cutL l).length cap) (cutL l).length (cutL l) := by
  obtain ⟨i0, hi, hz0, hz1, hz2⟩ := info_parts Tryz.infoStr
  unfold maxLen at hl hs
  have HA := Lib.hid ha
  have HS := Lib.hid hs
  have HLC := Lib.hid (cutL_length l)
  obtain ⟨n, hn⟩ : ∃ n, n = l.length := ⟨_, rfl⟩
  have HN := Lib.hid hn
  rw [← hn]
  rw [← hn] at hl
  clear ha hn hs
  go_enter Tryz.func71, Tryz.ntmps71
  go_wp2_with fail
  go_loopw [3, 4] (fun ov iv wr => ∃ (k g cap : Nat), k ≤ n ∧ k ≤ 30 ∧ iv = .int .i64 k ∧ ov = .slice (some ⟨g, 0, none⟩) k cap ∧ Hid (Owns wr w.heap.size (.slice (some ⟨g, 0, none⟩) k cap) k (cutTo l k)) ∧ k ≤ cap ∧ Below w.heap.size w wr) (fun _ iv _ => 30 - (intOf iv).toNat)
  case atStart =>
    exact ⟨0, w.heap.size, 0, by omega, by omega, rfl, rfl, Lib.hid (own_empty w _), by omega, below_alloc _ _⟩
  case round =>
    obtain ⟨k, g, cap, hk, hk30, rfl, rfl, HO, hcap, hbw⟩ := hrel
    by_cases hlt : k < n ∧ k < 30
    · obtain ⟨h1, h2⟩ := hlt
      obtain ⟨s, hc⟩ : ∃ c, l[k]? = some c := ⟨_, List.getElem?_eq_getElem (by have := HN.out; omega)⟩
      obtain ⟨a, rfl, hab, x0⟩ := (HA.out.below hbw) k s hc
      have hsz := HS.out s (List.mem_of_getElem? hc)
      have HC := Lib.hid (cutTo_snoc l k s hc)
      obtain ⟨m, hm, hm6, hms, hmm, HE⟩ : ∃ m : Nat, min (s.size : Int) 60 = m ∧ m ≤ 60 ∧ m ≤ s.size ∧ min m s.size = m ∧ Hid (cutS s = s.extract 0 m) := ⟨min s.size 60, by omega, by omega, by omega, by omega, Lib.hid rfl⟩
      rw [HE.out] at HC
      have d1 : decide ((k : Int) < n) = true := by simp; omega
      have d2 : decide ((k : Int) < 30) = true := by simp; omega
      have hbs := hbw.size
      have y0 : wr.drew.cell? (a.add k) = some (.string s) := x0
      have HKB : Hid (∀ W, Below w.heap.size (wr.drew.alloc (.cells #[.string (s.extract 0 m)] 9)) W → W.cell? (a.add k) = some (.string s)) := Lib.hid (fun W hW => by
        have h1 : Below w.heap.size wr.drew W := ((Below.refl _ wr.drew).alloc hbs _).trans hW
        exact (h1.cell (by rw [addr_block]; exact hab)).trans y0)
      have y1 := HKB.out _ (Below.refl _ _)
      clear hc hab
      go_wp2_with fail
      go_region_held3 (fun W => W.cell? (a.add k) = some (.string s)) (first | assumption | exact x0 | exact y0 | exact y1 | exact HKB.out _ (own_apart (HO.out.drew.alloc _) (by assumption) (Nat.le_refl _) (by simp; omega)))
        (first
          | (refine step_append_lies _ (by rfl) _ _ _ (by rfl) w.heap.size 9 i0 (.string ⟨#[]⟩) 1 16 Tryz.underlying22 hi hz0 hz1 hz2 rfl (by decide) (.slice (some ⟨g, 0, none⟩) k cap) k _ (by rfl) (HO.out.drew.alloc _) ⟨wr.heap.size, 0, none⟩ 1 1 [.string (s.extract 0 m)] (by rfl) (by rfl) (World.news_of_block (cs := #[.string (s.extract 0 m)]) (t := 9) (fr := (0, 0)) (heap_alloc_new wr.drew _)) (str_one _) (by omega) (by unfold maxLen; omega) (by omega) (by simp; omega) (wr.heap.size + 1) (by simp) ?_; intro g' cap' w1 hown' hgrow hat hlt1)
          | fail "no arm")
      clear hat hlt1
      have hcap' := own_cap hown'
      have hb3 : Below w.heap.size w w1 := (hbw.drew.trans' (below_alloc wr.drew (.cells #[.string (s.extract 0 m)] 9))).trans (own_apart (HO.out.drew.alloc _) hgrow (Nat.le_refl _) (by simp; omega))
      go_wp2_with fail
      go_roundw
      case rel => exact ⟨k + 1, g', cap', by omega, by omega, by simp, rfl, Lib.hid (by rw [HC.out, Owns, strCells_snoc]; exact hown'), by omega, hb3⟩
      case measure => simp [intOf]; omega
    · have hkn : Hid (cutTo l k = cutL l) := Lib.hid (by
        have h1 := HN.out
        have h2 : l.take k = l.take 30 := by
          by_cases h3 : k = 30
          · rw [h3]
          · rw [List.take_of_length_le (by omega), List.take_of_length_le (by omega)]
        rw [cutTo, cutL, h2])
      have hlen : Hid (k = (cutL l).length) := Lib.hid (by have h1 := HN.out; rw [HLC.out]; omega)
      have HL : Hid (Lies wr wr.heap.size (some ⟨g, 0, none⟩) (cutL l)) := Lib.hid (by
        have := HO.out
        rw [hkn.out] at this
        exact lies_own this hlen.out)
      have HOW : Hid (Owns wr w.heap.size (.slice (some ⟨g, 0, none⟩) (cutL l).length cap) (cutL l).length (cutL l)) := Lib.hid (by
        have := HO.out
        rw [hkn.out] at this
        rwa [hlen.out] at this)
      by_cases h1 : k < n
      · have d1 : decide ((k : Int) < n) = true := by simp; omega
        have d2 : decide ((k : Int) < 30) = false := by simp; omega
        clear hlt
        go_wp2_with fail
        go_ret
        exact ⟨g, cap, by rw [← hlen.out]; try rfl, by rw [← hlen.out]; exact hcap, HL.out, hbw, HOW.out⟩
      · have d1 : decide ((k : Int) < n) = false := by simp; omega
        clear hlt
        go_wp2_with fail
        go_ret
        exact ⟨g, cap, by rw [← hlen.out]; try rfl, by rw [← hlen.out]; exact hcap, HL.out, hbw, HOW.out⟩
end Go.Proofs.YtpeghilfldpgfaaGreatDoor.L5
namespace Go.Proofs.YtpeghilfldpgfaaGreatDoor.L11
open Go.RowKit IP
set_option linter.unusedVariables false
set_option linter.unusedSimpArgs false
def WN (ti tt : TypeId) (F L R : Int) (H : ByteArray) (A : Option Addr) (n ca : Nat) (C : Option Addr) (m cb : Nat) (w : World) : World := (nbox ti F L R H A n ca C m cb w).alloc (.cells #[.int .i64 0, .int .i64 0, .int .i64 0, .string ⟨#[]⟩, .slice none 0 0, .slice none 0 0] tt)
theorem WN_size (ti tt : TypeId) (F L R : Int) (H : ByteArray) (A : Option Addr) (n ca : Nat) (C : Option Addr) (m cb : Nat) (w : World) : (WN ti tt F L R H A n ca C m cb w).heap.size = w.heap.size + 1 + 1 := by simp [WN, nbox]
theorem WN_boxes (ti tt : TypeId) (F L R : Int) (H : ByteArray) (A : Option Addr) (n ca : Nat) (C : Option Addr) (m cb : Nat) (w : World) :
    NBx ti w.heap.size F L R H A n ca C m cb (WN ti tt F L R H A n ca C m cb w) ∧ NBx tt (w.heap.size + 1) 0 0 0 ⟨#[]⟩ none 0 0 none 0 0 (WN ti tt F L R H A n ca C m cb w) ∧ Below w.heap.size w (WN ti tt F L R H A n ca C m cb w) := by
  have h1 := nbox_new ti F L R H A n ca C m cb w
  have h2 := nbox_new tt 0 0 0 ⟨#[]⟩ none 0 0 none 0 0 (nbox ti F L R H A n ca C m cb w)
  rw [nbox_size] at h2
  exact ⟨h1.below (L5.below_alloc _ _), h2, (nbox_below _ _ _ _ _ _ _ _ _ _ _ _).trans' (L5.below_alloc _ _)⟩
end Go.Proofs.YtpeghilfldpgfaaGreatDoor.L11
