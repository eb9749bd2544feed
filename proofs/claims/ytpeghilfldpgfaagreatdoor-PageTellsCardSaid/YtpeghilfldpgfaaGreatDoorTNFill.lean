import Derived.Test.YtpeghilfldpgfaaGreatDoorT09
set_option linter.unusedVariables false
set_option linter.unusedSimpArgs false
set_option maxHeartbeats 8000000
set_option maxRecDepth 100000
namespace Go.Proofs.YtpeghilfldpgfaaGreatDoor.L10
open Go.RowKit NP
def It0 : It := ⟨⟨#[]⟩, false, ⟨#[]⟩, 0, 0⟩
theorem fives_set : ∀ (l : List It) (k : Nat) (x : It), k < l.length → (((((fives l).set (k * 5) (.string x.k)).set (k * 5 + 1) (.bool x.o)).set (k * 5 + 2) (.string x.s)).set (k * 5 + 3) (.int .i64 x.l)).set (k * 5 + 4) (.int .i64 x.p) = fives (l.set k x)
 | [], k, x, h => by simp at h
 | y :: l, 0, x, h => by simp [fives, five]
 | y :: l, k + 1, x, h => by
  have ih := fives_set l k x (by simpa using h)
  have e : ∀ (z : It) (m : List It), fives (z :: m) = five z ++ fives m := fun z m => by simp [fives]
  have hs : ∀ (j : Nat) (v : Value) (xs : List Value), (five y ++ xs).set ((k + 1) * 5 + j) v = five y ++ xs.set (k * 5 + j) v := fun j v xs => by
   rw [List.set_append_right _ _ (by simp [five]; omega)]
   congr 2
   simp [five]; omega
  have h0 := hs 0; simp only [Nat.add_zero] at h0; rw [e, h0, hs, hs, hs, hs, ih, ← e]; rfl
theorem made_blank5 (z : Array Value) (hz : z = (five It0).toArray) (m : Nat) : (madeCells z (m * 5)).toList = fives (List.replicate m It0) := by
 subst hz; apply List.ext_getElem?; intro j; by_cases hj : j < m * 5
 ·have h1 : (List.replicate m It0)[j / 5]? = some It0 := by rw [List.getElem?_replicate, if_pos (by omega)]
  obtain ⟨v, hv⟩ : ∃ v, (five It0)[j % 5]? = some v := ⟨_, List.getElem?_eq_getElem (by simp [five]; omega)⟩; have h2 := fives_get (List.replicate m It0) (j / 5) (j % 5) It0 v h1 hv; rw [show j / 5 * 5 + j % 5 = j by omega] at h2; rw [h2]; have h3 : (five It0).length = 5 := rfl; simp only [madeCells, Array.toList_map, Array.toList_range, List.getElem?_map, List.getElem?_range hj, Option.map_some]
  congr 1
  simp only [List.size_toArray, h3]; rw [List.getElem?_eq_some_iff] at hv; obtain ⟨hlt, hv⟩ := hv; rw [getElem!_pos _ _ (by simpa using hlt)]
  simpa using hv
 ·rw [List.getElem?_eq_none (by simp [madeCells]; omega), List.getElem?_eq_none (by rw [fives_length, List.length_replicate]; omega)]
theorem Tryz.infoItem : (Tryz.prog.info? 127).map (fun i => (i.zero, i.size, i.bytes)) = some (some (.agg #[.string ⟨#[]⟩, .bool false, .string ⟨#[]⟩, .int .i64 0, .int .i64 0]), 5, 56) := by kernel_rfl
theorem stored5 {w : World} {base e g n cap : Nat} {xs : List It} (h : w.ownsRow base e 5 (.slice (some ⟨g, 0, none⟩) n cap) n (fives xs)) (k : Nat) (x : It) (hk : k < xs.length) :
  (((((w.setCell ⟨g, k * 5, none⟩ (.string x.k)).setCell ⟨g, k * 5 + 1, none⟩ (.bool x.o)).setCell ⟨g, k * 5 + 2, none⟩ (.string x.s)).setCell ⟨g, k * 5 + 3, none⟩ (.int .i64 x.l)).setCell ⟨g, k * 5 + 4, none⟩ (.int .i64 x.p)).ownsRow base e 5 (.slice (some ⟨g, 0, none⟩) n cap) n (fives (xs.set k x)) := by
 have h1 := (((((h.stored (k * 5) (.string x.k)).1.stored (k * 5 + 1) (.bool x.o)).1.stored (k * 5 + 2) (.string x.s)).1.stored (k * 5 + 3) (.int .i64 x.l)).1.stored (k * 5 + 4) (.int .i64 x.p)).1; rwa [fives_set xs k x hk] at h1
theorem told_ok' (part : ByteArray) (w : World) : Calls Tryz.prog 85 #[.string part, .int .i64 0] w fun e w' => e = .returned .nilIface ∧ w = w' := by
 go_enter Tryz.func85, Tryz.ntmps85; go_wp2_with fail; go_ret; exact ⟨rfl, rfl⟩
theorem told_bad' (part : ByteArray) (e : Int) (w : World) (he : e ≠ 0) : Calls Tryz.prog 85 #[.string part, .int .i64 e] w fun r w' => r = .returned (errV part e) ∧ w = w' := by
 have hz : (e == 0) = false := beq_eq_false_iff_ne.2 he; go_enter Tryz.func85, Tryz.ntmps85; go_wp2_with fail; go_ret; exact ⟨rfl, rfl⟩
theorem read1_any (k : Nat) (s c T S : ByteArray) (O : Bool) (L P er : Int) (X : Value) (g : Nat) (w : World) (hc : w.cell? ⟨g, 0, none⟩ = some (.string c)) (hg : g < w.heap.size) (hcs : c.size ≤ 1000000) (hT : T.size ≤ 1000000)
  (hv : ∀ W, Calls Tryz.prog 90 #[.string s] W fun e w' => e = .returned (.tuple #[.string T, L9.vv O S L P, .int .i64 er]) ∧ Below W.heap.size W w')
  (ht : ∀ W, Calls Tryz.prog 85 #[.string ⟨#[99, 101, 108, 108]⟩, .int .i64 er] W fun e w' => e = .returned X ∧ W = w') :
  Calls Tryz.prog 89 #[.int .i64 k, .string s, .pointer (some ⟨g, 0, none⟩)] w fun e w' => e = .returned (.tuple #[iv (c ++ T) O S L P, X]) ∧ Below w.heap.size w w' := by
 have HG := zj hv; have HTO := zj ht
 have h9 : ¬ 9223372036854775807 < c.size + T.size := by omega
 have h9' : ¬ (9223372036854775807 : Int) < (c.size : Int) + (T.size : Int) := by omega
 have hb0 := L5.below_alloc w (.cells #[.string ⟨#[]⟩, .bool false, .string ⟨#[]⟩, .int .i64 0, .int .i64 0] 127); have HI := zj (IBx.new 127 ⟨#[]⟩ false ⟨#[]⟩ 0 0 w); have HC0 : Hid ((w.alloc (.cells #[.string ⟨#[]⟩, .bool false, .string ⟨#[]⟩, .int .i64 0, .int .i64 0] 127)).cell? ⟨g, 0, none⟩ = some (.string c)) := zj ((hb0.cell (p := ⟨g, 0, none⟩) hg).trans hc); have HGL : Hid (g < (w.alloc (.cells #[.string ⟨#[]⟩, .bool false, .string ⟨#[]⟩, .int .i64 0, .int .i64 0] 127)).heap.size) := zj (Nat.lt_of_lt_of_le hg hb0.size); have HB0 := zj hb0; have HW1 : Hid ((w.alloc (.cells #[.string ⟨#[]⟩, .bool false, .string ⟨#[]⟩, .int .i64 0, .int .i64 0] 127)).heap.size = w.heap.size + 1) := zj (by simp); generalize hCT : c ++ T = CT at *; clear hv ht hc hg hb0; go_enter Tryz.func89, Tryz.ntmps89; go_wp2_with fail; refine (HG.out _).mono ?_; rintro e w2 ⟨rfl, hb2⟩; have hb3 := hb2.trans' (L5.below_alloc w2 (.cells #[.bool O, .string S, .int .i64 L, .int .i64 P] 125)); have hc3 := (hb3.cell (p := ⟨g, 0, none⟩) HGL.out).trans HC0.out; have HI3 := zj (HI.out.below hb3); have HB3 := zj (HB0.out.trans' hb3); have HV3 := zj (L9.Bx.new 125 O S L P w2)
 have hlt : w.heap.size < w2.heap.size := by have h1 := hb2.size; have h2 := HW1.out; omega
 clear hb2 hb3; obtain ⟨v0, v1, v2, v3⟩ := HV3.out.cells; obtain ⟨x0, x1, x2, x3, x4⟩ := HI3.out.cells; obtain ⟨f0, f1, f2, f3, f4⟩ := HI3.out.free; go_wp2_with fail; generalize w2.alloc (.cells #[.bool O, .string S, .int .i64 L, .int .i64 P] 125) = W3 at *; generalize w2.heap.size = q at *
 go_region_with (go_at_call 85; refine (HTO.out _).mono ?_; rintro e V ⟨rfl, rfl⟩)
 all_goals
  go_wp2_with fail; obtain ⟨r0, r1, r2, r3, r4⟩ := (setI_box HI3.out CT O S L P).cells; unfold setI at r0 r1 r2 r3 r4; refine bodyPost_ret (v := .tuple #[iv CT O S L P, X]) (by simp [results, Tryz.results89, go_sem, r0, r1, r2, r3, r4]) rfl ⟨rfl, ?_⟩
  first | exact setI_below HB3.out (Nat.le_refl _) CT O S L P | exact (setI_below HB3.out (Nat.le_refl _) CT O S L P).drew
end Go.Proofs.YtpeghilfldpgfaaGreatDoor.L10
