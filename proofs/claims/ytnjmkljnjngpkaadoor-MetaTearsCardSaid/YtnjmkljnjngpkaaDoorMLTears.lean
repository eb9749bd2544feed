/-
  The walk of MetaTears.
-/
import Derived.Test.YtnjmkljnjngpkaaDoorMFixed
import Derived.Deep.RegionHeld3
namespace Go.Proofs.YtnjmkljnjngpkaaDoor
open Go.RowKit MP
set_option linter.unusedVariables false
set_option linter.unusedSimpArgs false

def FitS (a : ByteArray) : Prop := a.size ≤ 100000
def WfI (i : Int) : Prop := (Lit.int .i64 i).wf = true
/-- Two numbers in a box. -/
def Nx (g : Nat) (i j : Int) (w : World) : Prop := w.heap[g]? = some (.cells #[.int .i64 i, .int .i64 j] 51 (0, 0))
theorem Nx.cells {g : Nat} {i j : Int} {w : World} (k : Nx g i j w) : w.cell? ⟨g, 0, none⟩ = some (.int .i64 i) ∧ w.cell? ⟨g, 1, none⟩ = some (.int .i64 j) := by
  unfold Nx at k
  refine ⟨?_, ?_⟩ <;> simp [World.cell?, k]
theorem Nx.lt {g : Nat} {i j : Int} {w : World} (k : Nx g i j w) : g < w.heap.size := (Array.getElem?_eq_some_iff.1 k).1
theorem Nx.below {g : Nat} {i j : Int} {w w' : World} (k : Nx g i j w) (b : Below w.heap.size w w') : Nx g i j w' := (b.block g k.lt).trans k
theorem heldT {c : Prop} {f : FuncId} {TT : ByteArray → ByteArray → Int → ByteArray} {a b : ByteArray} {i : Int} {W0 W : World} (t : Hid (∀ a b i W, FitS a → FitS b → WfI i → Calls Tryd.prog f #[.string a, .string b, .int .i64 i] W fun e w' => e = .returned (.string (TT a b i)) ∧ Below W.heap.size W w')) (ha : FitS a) (hb : FitS b) (hi : WfI i) (l : Hid (Below W0.heap.size W0 W) ∧ c) : Calls Tryd.prog f #[.string a, .string b, .int .i64 i] W fun e w' => e = .returned (.string (TT a b i)) ∧ Below W0.heap.size W0 w' :=
  (t.out a b i W ha hb hi).mono fun e w' ⟨h1, h2⟩ => ⟨h1, l.1.out.trans' h2⟩

set_option maxHeartbeats 4000000 in
set_option maxRecDepth 100000 in
theorem metaTears_any (hfx : Fixes) (s t : ByteArray) (i j : Int) (w : World) (hg : L7.Sizes w) (hs : s.size ≤ maxLen) (ht : t.size ≤ maxLen) (hi : (Lit.int .i64 i).wf = true) (hj : (Lit.int .i64 j).wf = true) :
    Calls Tryd.prog 7 #[.string s, .string t, .agg #[.int .i64 i, .int .i64 j]] w fun e w' => e = .returned (.bool true) ∧ Below w.heap.size w w' := by
  have hb0 := L5.below_alloc w (.cells #[.int .i64 i, .int .i64 j] 51)
  have HB := Lib.hid hb0
  have HN : Hid (Nx w.heap.size i j (w.alloc (.cells #[.int .i64 i, .int .i64 j] 51))) := Lib.hid (heap_alloc_new _ _)
  have HG0 := Lib.hid hg
  have HG := Lib.hid (hg.below hg.lt hb0)
  have HFX : Hid (L7.Tells 18 #[] (.bool true)) := Lib.hid hfx
  obtain ⟨k, hk1, hk2, hk3, hk4⟩ : ∃ k : Nat, min (min (s.size : Int) (t.size : Int)) 300 = k ∧ k ≤ s.size ∧ k ≤ t.size ∧ k ≤ 300 := ⟨min (min s.size t.size) 300, by omega, by omega, by omega, by omega⟩
  obtain ⟨S, hS⟩ : ∃ S, s.extract 0 k = S := ⟨_, rfl⟩
  obtain ⟨T, hT⟩ : ∃ T, t.extract 0 k = T := ⟨_, rfl⟩
  have sS : S.size = k := by rw [← hS, ByteArray.size_extract]; omega
  have sT : T.size = k := by rw [← hT, ByteArray.size_extract]; omega
  have hsz : S.size = T.size := sS.trans sT.symm
  obtain ⟨X, hX⟩ : ∃ X : ByteArray, T ++ ⟨#[120]⟩ = X := ⟨_, rfl⟩
  have sX : X.size = k + 1 := by rw [← hX, ByteArray.size_append, sT]; rfl
  obtain ⟨A, hA⟩ : ∃ A, tear S T i = A := ⟨_, rfl⟩
  have sA : A.size = k := by rw [← hA, tear_size hsz, sT]
  obtain ⟨n, hn⟩ : ∃ n, min i j = n := ⟨_, rfl⟩
  obtain ⟨Q, hQ⟩ : ∃ Q, tear S T n = Q := ⟨_, rfl⟩
  have e1 : tear A T j = Q := by rw [← hA, tear_twice hsz, hn, hQ]
  have e2 : tear S S i = S := tear_self S i
  have e3 : tear S A i = A := by rw [← hA]; exact tear_on hsz
  have e4 : tear S X i = ⟨#[]⟩ := tear_unlike (by omega)
  have fS : FitS S := by unfold FitS; omega
  have fT : FitS T := by unfold FitS; omega
  have fA : FitS A := by unfold FitS; omega
  have fX : FitS X := by unfold FitS; omega
  have wi : WfI i := hi
  have wj : WfI j := hj
  have wn : WfI n := by
    rcases (show n = i ∨ n = j by omega) with h | h
    · rw [h]; exact wi
    · rw [h]; exact wj
  have HT : Hid (∀ a b i W, FitS a → FitS b → WfI i → Calls Tryd.prog 16 #[.string a, .string b, .int .i64 i] W fun e w' => e = .returned (.string (tear a b i)) ∧ Below W.heap.size W w') := Lib.hid (fun a b i W ha hb hi => tear_any a b i W ha (by unfold FitS at hb; unfold maxLen; omega) hi)
  have z : ¬ 9223372036854775807 < T.size + 1 := by omega
  have z2 : ¬ 9223372036854775807 < T.size + (⟨#[120]⟩ : ByteArray).size := by show ¬ _ < T.size + 1; omega
  have q0 : (0 : Int) ≤ k := by omega
  have q1 : (k : Int) ≤ s.size := by omega
  have q2 : (k : Int) ≤ t.size := by omega
  have ak : ((A.size : Int) == (k : Int)) = true := by simp; omega
  have hmin3 : ∀ (ts : Array TypeId) (u : TypeId) (W : World), (Builtin.min_ ts u #[.int .i64 (s.size : Int), .int .i64 (t.size : Int), .int .i64 300]).run Tryd.prog W = .ok (.int .i64 (k : Int)) W := fun ts u W => by
    rw [run_min_int3]
    congr 2
    split <;> split <;> omega
  clear hk1 hk2 hk3 hk4 sS sT sX hsz sA hs ht hi hj hfx hg hb0
  generalize tear = TT at *
  obtain ⟨n0, n1⟩ := HN.out.cells
  go_enter Tryd.func7, Tryd.ntmps7
  go_wp2_with fail
  refine (HT.out _ _ _ _ fS fT wi).mono ?_
  rintro e V ⟨rfl, hb⟩
  clear n0 n1
  replace HB := Lib.hid (HB.out.trans' hb)
  replace HG := Lib.hid (HG0.out.below HG0.out.lt HB.out)
  replace HN := Lib.hid (HN.out.below hb)
  clear hb
  have HSA : Hid (∀ W, Below V.heap.size V W → (fun W => Hid (Below V.heap.size V W) ∧ W.cell? ⟨w.heap.size, 0, none⟩ = some (.int .i64 i) ∧ W.cell? ⟨w.heap.size, 1, none⟩ = some (.int .i64 j)) W) := Lib.hid (fun W hb => ⟨Lib.hid hb, (HN.out.below hb).cells⟩)
  have hSA := HSA.out _ (Below.refl _ _)
  have hSd := HSA.out _ (L5.below_drewN (Below.refl _ V) 1)
  rw [hA]
  go_wp2_with fail
  go_region_held3 (fun W => Hid (Below V.heap.size V W) ∧ W.cell? ⟨w.heap.size, 0, none⟩ = some (.int .i64 i) ∧ W.cell? ⟨w.heap.size, 1, none⟩ = some (.int .i64 j)) (first | assumption | exact hSd)
    (first
      | (go_at_call 16; refine (heldT HT (by assumption) (by assumption) (by assumption) (by assumption)).mono ?_; rintro e V5 ⟨rfl, hb⟩; have hSn := HSA.out _ hb)
      | (go_at_call 18; refine (L7.Tells.held HFX HG (by assumption)).mono ?_; rintro e V5 ⟨rfl, hb⟩; have hSn := HSA.out _ hb)
      | fail "no arm")
  all_goals (go_wp2_with fail)
  all_goals (go_ret; exact ⟨rfl, HB.out.trans' hb⟩)
theorem metaTears_walk (s t : ByteArray) (i j : Int) (w : World) (hg : L7.Sizes w) (hs : s.size ≤ maxLen) (ht : t.size ≤ maxLen) (hi : (Lit.int .i64 i).wf = true) (hj : (Lit.int .i64 j).wf = true) :
    Calls Tryd.prog 7 #[.string s, .string t, .agg #[.int .i64 i, .int .i64 j]] w fun e w' => e = .returned (.bool true) ∧ Below w.heap.size w w' := metaTears_any fixed_any s t i j w hg hs ht hi hj
end Go.Proofs.YtnjmkljnjngpkaaDoor
