/-
  The walk of MetaFields. Written by wip/gen_mlaws.py.
-/
import Derived.Test.YtnjmkljnjngpkaaDoorMFixed
import Derived.Test.YtnjmkljnjngpkaaDoorMDDec
import Derived.Deep.RegionHeld3
namespace Go.Proofs.YtnjmkljnjngpkaaDoor
open Go.RowKit MP
set_option linter.unusedVariables false
set_option linter.unusedSimpArgs false

/-- What stands in a meta's body. -/
theorem body_facts {P G R L C : Int} (h : May ⟨P, G, R, L, C⟩) {B : ByteArray} (hB : B = ⟨(body ⟨P, G, R, L, C⟩).toArray⟩) : ∃ n : Nat, B.size = n + 18 ∧ P = n + 34 ∧ n ≤ 990 ∧
    B.extract 0 5 = ⟨#[119, 105, 116, 104, 121]⟩ ∧ B.extract 17 (n + 17) = rep 0 n ∧ B.data[n + 17]? = some 87 ∧ num B 5 = P ∧ num B 9 = G ∧ num B 13 = C := by
  have hp := mayBe_le h.1
  simp only at hp
  obtain ⟨n, hn⟩ := Int.eq_ofNat_of_zero_le (show 0 ≤ P - 34 by omega)
  have hl := body_length ⟨P, G, R, L, C⟩ (by simp only; omega)
  simp only at hl
  have ht := told_body h
  rw [← hB] at ht
  have hbl : B.data.toList = body ⟨P, G, R, L, C⟩ := by rw [hB]
  have hb2 : body ⟨P, G, R, L, C⟩ = front ⟨P, G, R, L, C⟩ ++ (List.replicate n 0 ++ [87]) := by
    unfold body
    rw [List.append_assoc]
    simp only
    rw [show P.toNat - 34 = n by omega]
  have hf := front_length ⟨P, G, R, L, C⟩
  have hsz : B.size = n + 18 := by
    rw [hB, L7.sizeOf, hl]
    omega
  refine ⟨n, hsz, by omega, by omega, ?_, ?_, ?_, congrArg Mt.p ht, congrArg Mt.pg ht, congrArg Mt.n ht⟩
  · apply ByteArray.ext
    apply Array.toList_inj.1
    rw [Lib.extract_data, hbl]
    rfl
  · apply ByteArray.ext
    apply Array.toList_inj.1
    rw [Lib.extract_data, hbl, hb2, drop_app hf, show n + 17 - 17 = n by omega, take_app (by simp)]
    rfl
  · rw [← Array.getElem?_toList, hbl, hb2, List.getElem?_append_right (by omega), hf, List.getElem?_append_right (by simp)]
    simp
set_option maxHeartbeats 4000000 in
set_option maxRecDepth 100000 in
theorem metaFields_any (hfx : Fixes) (P G R L C : Int) (w : World) (hg : L7.Sizes w) :
    Calls Tryd.prog 6 #[mv P G R L C] w fun e w' => e = .returned (.bool true) ∧ Below w.heap.size w w' := by
  have hb0 := mbox_below 23 P G R L C w
  have HB := Lib.hid hb0
  have HC := Lib.hid (mbox_new 23 P G R L C w)
  have HG0 := Lib.hid hg
  have HG := Lib.hid (hg.below hg.lt hb0)
  have HFX : Hid (L7.Tells 18 #[] (.bool true)) := Lib.hid hfx
  simp only [mbox] at HB HC HG
  clear hb0 hfx hg
  obtain ⟨c0, c1, c2, c3, c4⟩ := HC.out.cells
  by_cases hm : May ⟨P, G, R, L, C⟩
  · obtain ⟨S, he, hSp⟩ : ∃ S, enc ⟨P, G, R, L, C⟩ = (S, 0) ∧ S = ⟨(page ⟨P, G, R, L, C⟩).toArray⟩ := ⟨_, enc_good hm, rfl⟩
    have hsz := enc_size he
    have hp := mayBe_le hm.1
    simp only at hsz hp
    have HE := tEnc P G R L C he
    have d1 : decide ((S.size : Int) < 128) = false := decide_eq_false (by omega)
    obtain ⟨B, hB⟩ : ∃ B : ByteArray, B = ⟨(body ⟨P, G, R, L, C⟩).toArray⟩ := ⟨_, rfl⟩
    have hop := page_open hm
    rw [← hSp, ← hB] at hop
    have HO : Hid (L7.Tells 20 #[.string S] (.tuple #[.agg #[.int .i64 1, .int .i64 L, .int .i64 0, .int .i64 R, .int .i64 0], .string B, .int .i64 0])) := Lib.hid fun W hW => by
      have h := L7.refOpen_any S W hW
      rw [L7.opnV, hop] at h
      exact h
    obtain ⟨n, hn1, hn2, hn3, hx1, hx2, hx3, hp5, hp9, hp13⟩ := body_facts hm hB
    have R5 : Hid (∀ W, Calls Tryd.prog 21 #[.string B, .int .i64 5] W fun e w' => e = .returned (.tuple #[.int .u32 P, .int .i64 0]) ∧ W = w') := Lib.hid (fun W => by rw [← hp5]; exact L7.rread_any B 5 W (by omega) (by omega) (by unfold maxLen; omega))
    have R9 : Hid (∀ W, Calls Tryd.prog 21 #[.string B, .int .i64 9] W fun e w' => e = .returned (.tuple #[.int .u32 G, .int .i64 0]) ∧ W = w') := Lib.hid (fun W => by rw [← hp9]; exact L7.rread_any B 9 W (by omega) (by omega) (by unfold maxLen; omega))
    have R13 : Hid (∀ W, Calls Tryd.prog 21 #[.string B, .int .i64 13] W fun e w' => e = .returned (.tuple #[.int .u32 C, .int .i64 0]) ∧ W = w') := Lib.hid (fun W => by rw [← hp13]; exact L7.rread_any B 13 W (by omega) (by omega) (by unfold maxLen; omega))
    have HR := tRep 0 n (by omega)
    have hR2 : Hid (L7.Tells 19 #[.int .u8 0, .int .i64 n] (.string (rep 0 n))) := HR
    obtain ⟨e1, he1⟩ : ∃ e1, n + 17 = e1 := ⟨_, rfl⟩
    rw [he1] at hx2 hx3
    have q5 : e1 < B.size := by omega
    have hB87 : B[e1]'q5 = 87 := getE_of hx3 q5
    have hg4 : 0 ≤ G ∧ G ≤ 4096 ∧ 0 ≤ C ∧ C ≤ 2147483647 := by
      obtain ⟨_, h2, h3, h4, h5, h6, h7, h8, h9⟩ := hm
      simp only at h2 h3 h8 h9
      omega
    have X0 : Hid (((B.size : Int) != P - 16) = false) := Lib.hid (by simp; omega)
    have W1 : Hid (IntKind.i64.wrap (P - 16) = P - 16) := Lib.hid (IntWalk.i64_in _ (by omega))
    have W2 : Hid (IntKind.i64.wrap P = P ∧ IntKind.i64.wrap G = G ∧ IntKind.i64.wrap C = C) := Lib.hid ⟨IntWalk.i64_in _ (by omega), IntWalk.i64_in _ (by omega), IntWalk.i64_in _ (by omega)⟩
    have W3 : Hid (IntKind.i64.wrap ((B.size : Int) - 1) = (e1 : Int)) := Lib.hid (by rw [IntWalk.i64_in _ (by omega)]; omega)
    have W4 : Hid (IntKind.i64.wrap ((B.size : Int) - 18) = (n : Int)) := Lib.hid (by rw [IntWalk.i64_in _ (by omega)]; omega)
    have Q1 : Hid (e1 < B.size) := Lib.hid (by omega)
    have Q2 : Hid (17 ≤ e1) := Lib.hid (by omega)
    have Q3 : Hid (5 ≤ B.size) := Lib.hid (by omega)
    clear hn1 hn2 hn3 hx3 hp5 hp9 hp13 hsz hp hm he hSp hB hop hg4 he1 HR
    generalize rep 0 n = Z at *
    go_enter Tryd.func6, Tryd.ntmps6
    go_wp2_with fail
    refine (HE.out _ HG.out).mono ?_
    rintro e V ⟨rfl, hb⟩
    replace HB := Lib.hid (HB.out.trans' hb)
    replace HG := Lib.hid (HG0.out.below HG0.out.lt HB.out)
    replace HC := Lib.hid (HC.out.below hb)
    clear hb
    clear c0 c1 c2 c3 c4
    go_wp2_with fail
    refine (HO.out _ HG.out).mono ?_
    rintro e V ⟨rfl, hb⟩
    have HH := Lib.hid (show L7.Bx 45 V.heap.size ⟨1, L, 0, R, 0⟩ (V.alloc (.cells #[.int .i64 1, .int .i64 L, .int .i64 0, .int .i64 R, .int .i64 0] 45)) from heap_alloc_new _ _)
    have hb := hb.trans' (L5.below_alloc V (.cells #[.int .i64 1, .int .i64 L, .int .i64 0, .int .i64 R, .int .i64 0] 45))
    replace HB := Lib.hid (HB.out.trans' hb)
    replace HG := Lib.hid (HG0.out.below HG0.out.lt HB.out)
    replace HC := Lib.hid (HC.out.below hb)
    clear hb
    obtain ⟨y0, y1, y2, y3, y4⟩ := HH.out.cells
    go_wp2_with fail
    clear y0 y1 y2 y3 y4
    generalize V.alloc (.cells #[.int .i64 1, .int .i64 L, .int .i64 0, .int .i64 R, .int .i64 0] 45) = W5 at *
    generalize V.heap.size = gh at *
    refine (R5.out _).mono ?_
    rintro e V1 ⟨rfl, rfl⟩
    go_wp2_with fail
    refine (R9.out _).mono ?_
    rintro e V1 ⟨rfl, rfl⟩
    go_wp2_with fail
    refine (R13.out _).mono ?_
    rintro e V1 ⟨rfl, rfl⟩
    have w1 := W1.out
    have x0 := X0.out
    obtain ⟨y0, y1, y2, y3, y4⟩ := HH.out.cells
    obtain ⟨c0, c1, c2, c3, c4⟩ := HC.out.cells
    clear R5 R9 R13
    go_wp2_with fail
    clear y0 y1 y2 y3 y4 c0 c1 c2 c3 c4 x0 w1 W1 X0
    have HSA : Hid (∀ V, Below W5.heap.size W5 V → (fun V => Hid (Below W5.heap.size W5 V) ∧ V.cell? ⟨w.heap.size, 0, none⟩ = some (.int .i64 P) ∧ V.cell? ⟨w.heap.size, 1, none⟩ = some (.int .i64 G) ∧ V.cell? ⟨w.heap.size, 4, none⟩ = some (.int .i64 C)) V) := Lib.hid (fun V hb => ⟨Lib.hid hb, (HC.out.below hb).cells.1, (HC.out.below hb).cells.2.1, (HC.out.below hb).cells.2.2.2.2⟩)
    have hSA := HSA.out _ (Below.refl _ _)
    have hSd := HSA.out _ (L5.below_drewN (Below.refl _ W5) 1)
    obtain ⟨w2, w2', w2''⟩ := W2.out
    have w3 := W3.out
    have w4 := W4.out
    have q1 : (e1 : Int) ≤ B.size := by have := Q1.out; omega
    have q1' : (e1 : Int) < B.size := by have := Q1.out; omega
    have q2 : (17 : Int) ≤ e1 := by have := Q2.out; omega
    have q3 : (5 : Int) ≤ B.size := by have := Q3.out; omega
    have q4 : (0 : Int) ≤ e1 := by omega
    go_wp2_with fail
    go_region_held3 (fun V => Hid (Below W5.heap.size W5 V) ∧ V.cell? ⟨w.heap.size, 0, none⟩ = some (.int .i64 P) ∧ V.cell? ⟨w.heap.size, 1, none⟩ = some (.int .i64 G) ∧ V.cell? ⟨w.heap.size, 4, none⟩ = some (.int .i64 C)) (first | assumption | exact hSd)
      (first
        | (go_at_call 19; refine (L7.Tells.held hR2 HG (by assumption)).mono ?_; rintro e V5 ⟨rfl, hb⟩; have hSn := HSA.out _ hb)
        | (go_at_call 18; refine (L7.Tells.held HFX HG (by assumption)).mono ?_; rintro e V5 ⟨rfl, hb⟩; have hSn := HSA.out _ hb)
        | fail "no arm")
    go_wp2_with fail
    go_ret
    exact ⟨rfl, HB.out.trans' hb⟩
  · have HE := tEnc P G R L C (enc_form hm)
    clear hm
    go_enter Tryd.func6, Tryd.ntmps6
    go_wp2_with fail
    refine (HE.out _ HG.out).mono ?_
    rintro e V ⟨rfl, hb⟩
    replace HB := Lib.hid (HB.out.trans' hb)
    replace HG := Lib.hid (HG0.out.below HG0.out.lt HB.out)
    clear hb
    clear c0 c1 c2 c3 c4
    go_wp2_with fail
    refine (HFX.out _ HG.out).mono ?_
    rintro e V ⟨rfl, hb⟩
    replace HB := Lib.hid (HB.out.trans' hb)
    replace HG := Lib.hid (HG0.out.below HG0.out.lt HB.out)
    clear hb
    go_wp2_with fail
    go_ret
    exact ⟨rfl, HB.out⟩
theorem metaFields_walk (P G R L C : Int) (w : World) (hg : L7.Sizes w) (h0 : (Lit.int .i64 P).wf = true) (h1 : (Lit.int .i64 G).wf = true) (h2 : (Lit.int .i64 R).wf = true) (h3 : (Lit.int .i64 L).wf = true) (h4 : (Lit.int .i64 C).wf = true) :
    Calls Tryd.prog 6 #[mv P G R L C] w fun e w' => e = .returned (.bool true) ∧ Below w.heap.size w w' := metaFields_any fixed_any P G R L C w hg
end Go.Proofs.YtnjmkljnjngpkaaDoor
