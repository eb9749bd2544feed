/-
  The walk of the document's Parts.
-/
import Derived.Test.YtahkigabapdleaaDoorCPages
import Derived.Deep.AppendLies
import Derived.Laws.OwnMore
namespace Go.Proofs.YtahkigabapdleaaDoor
open Go.RowKit CP
set_option linter.unusedVariables false
set_option linter.unusedSimpArgs false

/-- The cells of the first parts. -/
def ptCells (v : ByteArray) (r k : Nat) : List Value := L5.strCells ((List.range k).map (CP.part v r))
theorem ptCells_snoc (v : ByteArray) (r k : Nat) : ptCells v r (k + 1) = ptCells v r k ++ [.string (CP.part v r k)] := by
  unfold ptCells
  rw [List.range_succ, List.map_append, List.map_cons, List.map_nil, L5.strCells_snoc]
theorem ptCells_all (v : ByteArray) (r : Nat) : ptCells v r (pages v.size r) = L5.strCells (cuts v r) := rfl
set_option maxHeartbeats 2000000 in
set_option maxRecDepth 100000 in
theorem rparts_any (v : ByteArray) (p r : Nat) (w : World) (hp : L7.mayBe p = true) (hr : p = r + 16) (hv : v.size ≤ 1000000) :
    Calls Tryd.prog 21 #[.string v, .int .i64 p] w fun e w' => ∃ G cap, e = .returned (.slice G (pages v.size r) cap) ∧ L5.Lies w' w'.heap.size G (cuts v r) ∧ Below w.heap.size w w' := by
  obtain ⟨i0, hi0, hz0, hz1, hz2⟩ := info_parts L5.Tryd.infoStr
  have hp2 := mayBe_le hp
  have HLT : Hid (∀ i, i < pages v.size r ↔ i * r < v.size) := Lib.hid (fun i => pages_lt (by omega))
  have HFEW : Hid (pages v.size r ≤ v.size) := Lib.hid (pages_few (by omega))
  have HRb : Hid (112 ≤ r ∧ r ≤ 1008 ∧ p = r + 16) := Lib.hid (by omega)
  have HV : Hid (v.size ≤ 1000000) := Lib.hid hv
  clear hp hp2 hr hv
  go_enter Tryd.func21, Tryd.ntmps21
  go_wp2_with fail
  go_loopw [5, 6] (fun ov av wr => ∃ (k a g cap : Nat), k ≤ pages v.size r ∧ Hid (a = k * r) ∧ av = .int .i64 a ∧ ov = .slice (some ⟨g, 0, none⟩) k cap ∧ Hid (w.heap.size ≤ g) ∧ Hid (wr.ownsRow w.heap.size 9 1 (.slice (some ⟨g, 0, none⟩) k cap) k (ptCells v r k)) ∧ Hid (Below w.heap.size w wr)) (fun _ av _ => v.size - (intOf av).toNat)
  case atStart => exact ⟨0, 0, w.heap.size, 0, by omega, Lib.hid (by simp), rfl, rfl, Lib.hid (Nat.le_refl _), Lib.hid (L5.own_empty w _), Lib.hid (L5.below_alloc _ _)⟩
  case round =>
    obtain ⟨k, a, g, cap, hk, HA, rfl, rfl, HG, HO, HB⟩ := hrel
    by_cases hlt : a < v.size
    · have d1 : decide ((a : Int) < (v.size : Int)) = true := decide_eq_true (by omega)
      have d2 : decide (a < v.size) = true := decide_eq_true hlt
      have hkl : k < pages v.size r := (HLT.out k).2 (by rw [← HA.out]; exact hlt)
      have hv := HV.out
      have hrb := HRb.out
      have hfew := HFEW.out
      obtain ⟨m, hm1, hm2, hm3, hm4⟩ : ∃ m : Nat, min ((a : Int) + (r : Int)) (v.size : Int) = m ∧ m = min (a + r) v.size ∧ a ≤ m ∧ m ≤ v.size := ⟨min (a + r) v.size, by omega, rfl, by omega, by omega⟩
      have HPART : Hid (CP.part v r k = v.extract a m) := Lib.hid (by unfold CP.part; rw [← HA.out, hm2])
      have hw1 : IntKind.i64.wrap ((a : Int) + (p : Int)) = (a : Int) + (p : Int) := IntWalk.i64_in _ (by omega)
      have hw2 : IntKind.i64.wrap ((a : Int) + (p : Int) - 16) = (a : Int) + (r : Int) := (IntWalk.i64_in _ (by omega)).trans (by omega)
      have q1 : (0 : Int) ≤ a := by omega
      have q2 : (a : Int) ≤ m := by omega
      have q3 : (m : Int) ≤ v.size := by omega
      have hk6 : k ≤ 1000000 := by omega
      have hown := HO.out
      have hbs := HB.out.size
      clear hm2 hm3 hm4 hfew hrb hv hk
      go_wp2_with (at_builtin; refine wpList_append_lies _ rfl _ _ 42 rfl w.heap.size 9 i0 (.string ⟨#[]⟩) 1 16 Tryd.underlying42 hi0 hz0 hz1 hz2 rfl (by decide) (.slice (some ⟨g, 0, none⟩) k cap) k _ rfl (hown.alloc _) ⟨wr.heap.size, 0, none⟩ 1 1 [.string (v.extract a m)] rfl rfl (World.news_of_block (cs := #[.string (v.extract a m)]) (t := 9) (fr := (0, 0)) (heap_alloc_new wr _)) (L5.str_one _) (by omega) (by unfold maxLen; omega) (by omega) (by simp; omega) (wr.heap.size + 1) (by simp) ?_; intro g' cap' w1 hown1 hgrow hat hlt1)
      have hg' : w.heap.size ≤ g' := by rcases hat with h | h; (have := HG.out; simp [Value.ownBlock] at h; omega); omega
      have hb' : Below w.heap.size w w1 := (HB.out.alloc hbs _).grown hgrow (by simp; omega) (fun j e => by have := HG.out; simp [Value.ownBlock] at e; omega)
      have HO1 : Hid (w1.ownsRow w.heap.size 9 1 (.slice (some ⟨g', 0, none⟩) (k + 1) cap') (k + 1) (ptCells v r (k + 1))) := Lib.hid (by rw [ptCells_snoc, HPART.out]; exact hown1)
      have HB1 := Lib.hid hb'
      have HG1 := Lib.hid hg'
      clear hat hgrow hlt1 hown1 hown hbs hb' hg'
      go_wp2_with fail
      go_roundw
      case rel => exact ⟨k + 1, a + r, g', cap', by omega, Lib.hid (by rw [HA.out, Nat.succ_mul]), by first | rfl | simp, rfl, HG1, HO1, HB1⟩
      case measure => simp [intOf]; have := HRb.out; omega
    · have d1 : decide ((a : Int) < (v.size : Int)) = false := decide_eq_false (by omega)
      have d2 : decide (a < v.size) = false := decide_eq_false hlt
      obtain rfl : k = pages v.size r := by
        rcases Nat.lt_or_ge k (pages v.size r) with h | h
        · exact absurd (by rw [HA.out]; exact (HLT.out k).1 h) hlt
        · omega
      clear hk
      have HLS : Hid (L5.Lies wr wr.heap.size (some ⟨g, 0, none⟩) (cuts v r)) := Lib.hid (L5.lies_own HO.out (by rw [cuts_length]))
      go_wp2_with fail
      go_ret
      exact ⟨some ⟨g, 0, none⟩, cap, rfl, HLS.out, HB.out⟩
end Go.Proofs.YtahkigabapdleaaDoor
