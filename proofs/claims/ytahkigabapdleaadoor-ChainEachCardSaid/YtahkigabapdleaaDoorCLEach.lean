/-
  The walk of ChainEach. Written by wip/gen_cleach.py.
-/
import Derived.Test.YtahkigabapdleaaDoorCFixed
namespace Go.Proofs.YtahkigabapdleaaDoor
open Go.RowKit CP
set_option linter.unusedVariables false
set_option linter.unusedSimpArgs false

theorem w64e (x : Int) (h1 : -4611686018427387904 ≤ x) (h2 : x ≤ 4611686018427387904) : wrap64 x = x := IntWalk.wrap64_in _ (by omega)
/-- One thing of each may not be. -/
theorem each_not {f : Nat} {N : Int} {z p : Nat} (hm : May f N z p) : ¬ May 0 N z p ∧ ¬ May 4096 N z p ∧ ¬ May f (-1) z p ∧ ¬ May f f z p ∧ ¬ May f N 0 p ∧ ¬ May f N (p - 15) p ∧ ¬ May f ((f % 4095 + 1 : Nat) : Int) (p - 17) p := by
  have hp := mayBe_le hm.1
  refine ⟨fun h => ?_, fun h => ?_, fun h => ?_, fun h => ?_, fun h => ?_, fun h => ?_, fun h => ?_⟩
  · have := h.2.1.1
    omega
  · have := h.2.1.2.1
    omega
  · have := h.2.1.2.2.1
    omega
  · exact h.2.1.2.2.2.2 rfl
  · have := h.2.2.1
    omega
  · have := h.2.2.2.1
    omega
  · rcases h.2.2.2.2 with h2 | h2
    · generalize f % 4095 = y at h2
      omega
    · omega
theorem add_row (g n : Nat) : (⟨g, 0, none⟩ : Addr).add n = ⟨g, n, none⟩ := by
  unfold Addr.add
  split
  · simp_all
  · simp
theorem cell_of_row3 {w : World} {g : Nat} {cs : Array Value} {t : TypeId} {k j : Nat} {v : Value} (h : w.heap[g]? = some (.cells cs t (0, 0))) (hv : cs[k * 3 + j]? = some v) : w.cell? ⟨((⟨g, 0, none⟩ : Addr).add (k * 3)).block, ((⟨g, 0, none⟩ : Addr).add (k * 3)).off + j, none⟩ = some v := by
  have e : (⟨((⟨g, 0, none⟩ : Addr).add (k * 3)).block, ((⟨g, 0, none⟩ : Addr).add (k * 3)).off + j, none⟩ : Addr) = ⟨g, k * 3 + j, none⟩ := by rw [add_row]
  rw [e]
  simp [World.cell?, h, hv]
theorem cell_of_row0 {w : World} {g : Nat} {cs : Array Value} {t : TypeId} {k : Nat} {v : Value} (h : w.heap[g]? = some (.cells cs t (0, 0))) (hv : cs[k * 3]? = some v) : w.cell? ((⟨g, 0, none⟩ : Addr).add (k * 3)) = some v := by
  have e : (⟨g, 0, none⟩ : Addr).add (k * 3) = ⟨g, k * 3, none⟩ := add_row g (k * 3)
  rw [e]
  simp [World.cell?, h, hv]

set_option maxHeartbeats 4000000 in
set_option maxRecDepth 100000 in
theorem chainEach_any (hfx : Fixes) (F N : Int) (D : ByteArray) (p : Int) (w : World) (hg : L7.Sizes w) :
    Calls Tryd.prog 7 #[cv F N D, .int .i64 p] w fun e w' => e = .returned (.bool true) ∧ Below w.heap.size w w' := by
  have hb0 := cbox_below 23 F N D w
  have HB0 := Lib.hid hb0
  have HK0 := Lib.hid (cbox_new 23 F N D w)
  have HFX : Hid (L7.Tells 18 #[] (.bool true)) := Lib.hid hfx
  have HG0 := Lib.hid hg
  have HC := Lib.hid (fun W => cut_any F N D W)
  have hE := cutD_size D
  generalize cutD D = E at *
  simp only [cbox] at HB0 HK0
  clear hb0 hfx
  obtain ⟨S, c, he⟩ : ∃ S c, enc F N E p = (S, c) := ⟨_, _, rfl⟩
  have HE := tEnc F N E p he
  have hcs := enc_cases F N E p
  rw [he] at hcs
  obtain ⟨c0, c1, c2⟩ := HK0.out.cells
  by_cases hmay : May F N E.size p
  · have HM := tMay F N E p (decide_eq_true hmay)
    have hp := mayBe_le hmay.1
    have hmb := hmay.1
    have hF := hmay.2.1
    unfold NumOk at hF
    obtain ⟨f, rfl⟩ := Int.eq_ofNat_of_zero_le (show 0 ≤ F by omega)
    obtain ⟨q, rfl⟩ := Int.eq_ofNat_of_zero_le (show 0 ≤ p by omega)
    have HSR : Hid (∀ W, Calls Tryd.prog 17 #[.int .i64 q] W fun e w' => e = .returned (.bool true) ∧ W = w') := Lib.hid (fun W => by have h := L7.sizeRef_any q W; rw [show decide ((q : Int) = 128 ∨ (q : Int) = 256 ∨ (q : Int) = 512 ∨ (q : Int) = 1024) = true from hmb] at h; exact h)
    obtain ⟨n0, n1, n2, n3, n4, n5, n6⟩ := each_not hmay
    have EA : ∀ (F' N' : Int) (D' : ByteArray), ¬ May F' N' D'.size q → Hid (L7.Tells 10 #[cv F' N' D', .int .i64 q] (.tuple #[.string ⟨#[]⟩, .int .i64 3])) ∧ Hid (L7.Tells 15 #[cv F' N' D', .int .i64 q] (.bool false)) := fun F' N' D' h => ⟨tEnc F' N' D' q (enc_form hmb h), tMay F' N' D' q (decide_eq_false h)⟩
    have E0 := Lib.hid (EA 0 N E n0)
    have E1 := Lib.hid (EA 4096 N E n1)
    have E2 := Lib.hid (EA f (-1) E n2)
    have E3 := Lib.hid (EA f f E n3)
    have E4 := Lib.hid (EA f N ⟨#[]⟩ n4)
    have E5 := Lib.hid (EA f N (rep 1 (q - 15)) (by rw [rep_size]; exact n5))
    have E6 := Lib.hid (EA f (((f % 4095 : Nat) : Int) + 1) (rep 1 (q - 17)) (by rw [rep_size]; exact n6))
    obtain ⟨z5, hz5⟩ : ∃ z, q - 15 = z := ⟨_, rfl⟩
    obtain ⟨z7, hz7⟩ : ∃ z, q - 17 = z := ⟨_, rfl⟩
    obtain ⟨f0, hf0⟩ : ∃ z, f % 4095 = z := ⟨_, rfl⟩
    rw [hz5] at E5
    rw [hz7, hf0] at E6
    have R1 : Hid (L7.Tells 24 #[.int .u8 1, .int .i64 z5] (.string (rep 1 z5))) := tRep 1 z5 (by omega)
    have R2 : Hid (L7.Tells 24 #[.int .u8 1, .int .i64 z7] (.string (rep 1 z7))) := tRep 1 z7 (by omega)
    generalize rep 1 z5 = R5 at *
    generalize rep 1 z7 = R7 at *
    have ht1 : (f : Int).tmod 4095 = (f0 : Int) := by rw [← hf0]; exact (Int.ofNat_tmod f 4095).symm
    have ht2 : (f : Int) % 4095 = (f0 : Int) := by rw [← hf0]; exact (Int.natCast_emod f 4095).symm
    have hf3 : f0 ≤ 4095 := by rw [← hf0]; exact Nat.le_of_lt (Nat.mod_lt _ (by decide))
    have HTT := Lib.hid (And.intro ht1 ht2)
    clear ht1 ht2 hf0
    have g1 : wrap64 ((f0 : Int) + 1) = (f0 : Int) + 1 := w64e _ (by omega) (by omega)
    have G1 := Lib.hid g1
    clear g1
    have g2 : wrap64 ((q : Int) - 15) = (z5 : Int) := (w64e _ (by omega) (by omega)).trans (by omega)
    have G2 := Lib.hid g2
    clear g2
    have g3 : wrap64 ((q : Int) - 17) = (z7 : Int) := (w64e _ (by omega) (by omega)).trans (by omega)
    clear hf3 hz5 hz7 n0 n1 n2 n3 n4 n5 n6 EA hF hp hmb hmay hcs he HE hE hg
    have g1 := G1.out
    have g2 := G2.out
    obtain ⟨ht1, ht2⟩ := HTT.out
    clear G1 G2 HTT
    go_enter Tryd.func7, Tryd.ntmps7
    go_wp2_with fail
    refine (HC.out _).mono ?_
    rintro e V ⟨rfl, hb⟩
    clear c0 c1 c2
    have HK1 := Lib.hid (HK0.out.below hb)
    have HB1 := Lib.hid (HB0.out.trans' hb)
    obtain ⟨c0, c1, c2⟩ := HK1.out.cells
    obtain ⟨f0, f1, f2⟩ := HK1.out.free
    have HX := Lib.hid (setC_box HK1.out f N E)
    have HB := Lib.hid (setC_below HB1.out (Nat.le_refl _) f N E)
    have HG := Lib.hid (HG0.out.below HG0.out.lt HB.out)
    unfold setC at HX HB HG
    obtain ⟨r0, r1, r2⟩ := HX.out.cells
    clear hb HK1 HB1
    go_wp2_with fail
    clear c0 c1 c2 f0 f1 f2 r0 r1 r2
    generalize ((V.setCell ⟨w.heap.size, 0, none⟩ (.int .i64 f)).setCell ⟨w.heap.size, 1, none⟩ (.int .i64 N)).setCell ⟨w.heap.size, 2, none⟩ (.string E) = W2 at *
    obtain ⟨c0, c1, c2⟩ := HX.out.cells
    go_wp2_with fail
    refine (HM.out _ HG.out).mono ?_
    rintro e V ⟨rfl, hb⟩
    replace HB := Lib.hid (HB.out.trans' hb)
    replace HG := Lib.hid (HG0.out.below HG0.out.lt HB.out)
    replace HX := Lib.hid (HX.out.below hb)
    clear hb
    clear c0 c1 c2
    obtain ⟨c0, c1, c2⟩ := HX.out.cells
    have hba := L5.below_alloc V (.cells #[.int .i64 0, .int .i64 N, .string E, .int .i64 4096, .int .i64 N, .string E, .int .i64 f, .int .i64 (-1), .string E, .int .i64 f, .int .i64 f, .string E, .int .i64 f, .int .i64 N, .string ⟨#[]⟩, .int .i64 f, .int .i64 N, .string E, .int .i64 f, .int .i64 N, .string E] 23)
    have HBA := Lib.hid (HB.out.trans' hba)
    have HGA := Lib.hid (HG0.out.below HG0.out.lt HBA.out)
    have HXA := Lib.hid (HX.out.below hba)
    have BL : Hid ((V.alloc (.cells #[.int .i64 0, .int .i64 N, .string E, .int .i64 4096, .int .i64 N, .string E, .int .i64 f, .int .i64 (-1), .string E, .int .i64 f, .int .i64 f, .string E, .int .i64 f, .int .i64 N, .string ⟨#[]⟩, .int .i64 f, .int .i64 N, .string E, .int .i64 f, .int .i64 N, .string E] 23)).heap[V.heap.size]? = some (.cells #[.int .i64 0, .int .i64 N, .string E, .int .i64 4096, .int .i64 N, .string E, .int .i64 f, .int .i64 (-1), .string E, .int .i64 f, .int .i64 f, .string E, .int .i64 f, .int .i64 N, .string ⟨#[]⟩, .int .i64 f, .int .i64 N, .string E, .int .i64 f, .int .i64 N, .string E] 23 (0, 0))) := Lib.hid (heap_alloc_new _ _)
    have HLT : Hid (w.heap.size < V.heap.size) := Lib.hid HX.out.lt
    obtain ⟨d0, d1, d2⟩ := (HX.out.below (L5.below_alloc V (.cells #[.int .i64 0, .int .i64 N, .string E, .int .i64 4096, .int .i64 N, .string E, .int .i64 f, .int .i64 (-1), .string E, .int .i64 f, .int .i64 N, .string E, .int .i64 f, .int .i64 N, .string E, .int .i64 f, .int .i64 N, .string E, .int .i64 f, .int .i64 N, .string E] 23))).cells
    clear hba
    go_wp2_with fail
    have HGL : Hid (w.heap.size ≤ V.heap.size) := Lib.hid (Nat.le_of_lt HLT.out)
    have HNE : Hid (w.heap.size ≠ V.heap.size) := Lib.hid (Nat.ne_of_lt HLT.out)
    have HLA : Hid (V.heap.size < (V.alloc (.cells #[.int .i64 0, .int .i64 N, .string E, .int .i64 4096, .int .i64 N, .string E, .int .i64 f, .int .i64 (-1), .string E, .int .i64 f, .int .i64 f, .string E, .int .i64 f, .int .i64 N, .string ⟨#[]⟩, .int .i64 f, .int .i64 N, .string E, .int .i64 f, .int .i64 N, .string E] 23)).heap.size) := Lib.hid (by simp)
    generalize V.alloc (.cells #[.int .i64 0, .int .i64 N, .string E, .int .i64 4096, .int .i64 N, .string E, .int .i64 f, .int .i64 (-1), .string E, .int .i64 f, .int .i64 f, .string E, .int .i64 f, .int .i64 N, .string ⟨#[]⟩, .int .i64 f, .int .i64 N, .string E, .int .i64 f, .int .i64 N, .string E] 23) = V1 at *
    generalize V.heap.size = g at *
    clear d0 d1 d2 c0 c1 c2 HB HG HX
    refine (R1.out _ HGA.out).mono ?_
    rintro e V2 ⟨rfl, hb⟩
    have HB2 := Lib.hid (HBA.out.trans' hb)
    have HX2 := Lib.hid (HXA.out.below hb)
    have BL2 : Hid (V2.heap[g]? = some (.cells #[.int .i64 0, .int .i64 N, .string E, .int .i64 4096, .int .i64 N, .string E, .int .i64 f, .int .i64 (-1), .string E, .int .i64 f, .int .i64 f, .string E, .int .i64 f, .int .i64 N, .string ⟨#[]⟩, .int .i64 f, .int .i64 N, .string E, .int .i64 f, .int .i64 N, .string E] 23 (0, 0))) := Lib.hid ((hb.block g HLA.out).trans BL.out)
    clear hb BL HBA HXA HGA HLA
    have k1 : V2.cell? ⟨g, 17, none⟩ = some (.string E) := by simp [World.cell?, BL2.out]
    have k2 : V2.frozen? ⟨g, 17, none⟩ = false := by simp [World.frozen?, BL2.out]
    have BL3 : Hid ((V2.setCell ⟨g, 17, none⟩ (.string R5)).heap[g]? = some (.cells #[.int .i64 0, .int .i64 N, .string E, .int .i64 4096, .int .i64 N, .string E, .int .i64 f, .int .i64 (-1), .string E, .int .i64 f, .int .i64 f, .string E, .int .i64 f, .int .i64 N, .string ⟨#[]⟩, .int .i64 f, .int .i64 N, .string R5, .int .i64 f, .int .i64 N, .string E] 23 (0, 0))) := Lib.hid (heap_setCell_same V2 g 17 _ _ (.string R5) BL2.out)
    have HB3 := Lib.hid (HB2.out.setCell (p := ⟨g, 17, none⟩) HGL.out (.string R5))
    have HX3 := Lib.hid (HX2.out.other (q := g) (o := 17) HNE.out (.string R5))
    have HG3 := Lib.hid (HG0.out.below HG0.out.lt HB3.out)
    clear HB2 HX2 BL2
    go_wp2_with fail
    clear k1 k2
    generalize V2.setCell ⟨g, 17, none⟩ (.string R5) = V3 at *
    have HLA : Hid (g < V3.heap.size) := Lib.hid (Array.getElem?_eq_some_iff.1 BL3.out).1
    refine (R2.out _ HG3.out).mono ?_
    rintro e V4 ⟨rfl, hb⟩
    have HB4 := Lib.hid (HB3.out.trans' hb)
    have HX4 := Lib.hid (HX3.out.below hb)
    have BL4 : Hid (V4.heap[g]? = some (.cells #[.int .i64 0, .int .i64 N, .string E, .int .i64 4096, .int .i64 N, .string E, .int .i64 f, .int .i64 (-1), .string E, .int .i64 f, .int .i64 f, .string E, .int .i64 f, .int .i64 N, .string ⟨#[]⟩, .int .i64 f, .int .i64 N, .string R5, .int .i64 f, .int .i64 N, .string E] 23 (0, 0))) := Lib.hid ((hb.block g HLA.out).trans BL3.out)
    clear hb BL3 HB3 HX3 HG3 HLA
    have k1 : V4.cell? ⟨g, 20, none⟩ = some (.string E) := by simp [World.cell?, BL4.out]
    have k2 : V4.frozen? ⟨g, 20, none⟩ = false := by simp [World.frozen?, BL4.out]
    have BL5 : Hid ((V4.setCell ⟨g, 20, none⟩ (.string R7)).heap[g]? = some (.cells #[.int .i64 0, .int .i64 N, .string E, .int .i64 4096, .int .i64 N, .string E, .int .i64 f, .int .i64 (-1), .string E, .int .i64 f, .int .i64 f, .string E, .int .i64 f, .int .i64 N, .string ⟨#[]⟩, .int .i64 f, .int .i64 N, .string R5, .int .i64 f, .int .i64 N, .string R7] 23 (0, 0))) := Lib.hid (heap_setCell_same V4 g 20 _ _ (.string R7) BL4.out)
    have HB5 := Lib.hid (HB4.out.setCell (p := ⟨g, 20, none⟩) HGL.out (.string R7))
    have HX5 := Lib.hid (HX4.out.other (q := g) (o := 20) HNE.out (.string R7))
    have k3 : (V4.setCell ⟨g, 20, none⟩ (.string R7)).cell? ⟨g, 19, none⟩ = some (.int .i64 N) := by simp only [World.cell?, BL5.out]; rfl
    have k4 : (V4.setCell ⟨g, 20, none⟩ (.string R7)).frozen? ⟨g, 19, none⟩ = false := by simp only [World.frozen?, BL5.out]; rfl
    obtain ⟨c0, c1, c2⟩ := HX5.out.cells
    have BL6 : Hid (((V4.setCell ⟨g, 20, none⟩ (.string R7)).setCell ⟨g, 19, none⟩ (.int .i64 ((f0 : Int) + 1))).heap[g]? = some (.cells #[.int .i64 0, .int .i64 N, .string E, .int .i64 4096, .int .i64 N, .string E, .int .i64 f, .int .i64 (-1), .string E, .int .i64 f, .int .i64 f, .string E, .int .i64 f, .int .i64 N, .string ⟨#[]⟩, .int .i64 f, .int .i64 N, .string R5, .int .i64 f, .int .i64 ((f0 : Int) + 1), .string R7] 23 (0, 0))) := Lib.hid (heap_setCell_same _ g 19 _ _ (.int .i64 ((f0 : Int) + 1)) BL5.out)
    have HB6 := Lib.hid (HB5.out.setCell (p := ⟨g, 19, none⟩) HGL.out (.int .i64 ((f0 : Int) + 1)))
    have HG6 := Lib.hid (HG0.out.below HG0.out.lt HB6.out)
    clear HB4 HX4 BL4 BL5 HB5 HX5
    go_wp2_with fail
    clear k1 k2 k3 k4 c0 c1 c2
    generalize (V4.setCell ⟨g, 20, none⟩ (.string R7)).setCell ⟨g, 19, none⟩ (.int .i64 ((f0 : Int) + 1)) = W6 at *
    have HALL : Hid (∀ k, k < 7 → ∃ (Fk Nk : Int) (Dk : ByteArray), (∀ W, Below W6.heap.size W6 W → W.cell? ((⟨g, 0, none⟩ : Addr).add (k * 3)) = some (.int .i64 Fk) ∧ W.cell? ⟨((⟨g, 0, none⟩ : Addr).add (k * 3)).block, ((⟨g, 0, none⟩ : Addr).add (k * 3)).off + 1, none⟩ = some (.int .i64 Nk) ∧ W.cell? ⟨((⟨g, 0, none⟩ : Addr).add (k * 3)).block, ((⟨g, 0, none⟩ : Addr).add (k * 3)).off + 2, none⟩ = some (.string Dk)) ∧ Hid (L7.Tells 10 #[cv Fk Nk Dk, .int .i64 q] (.tuple #[.string ⟨#[]⟩, .int .i64 3])) ∧ Hid (L7.Tells 15 #[cv Fk Nk Dk, .int .i64 q] (.bool false))) := Lib.hid (fun k hk => by
      have hl := (Array.getElem?_eq_some_iff.1 BL6.out).1
      have hw := fun W (h : Below W6.heap.size W6 W) => (h.block g hl).trans BL6.out
      rcases (show k = 0 ∨ k = 1 ∨ k = 2 ∨ k = 3 ∨ k = 4 ∨ k = 5 ∨ k = 6 by omega) with rfl | rfl | rfl | rfl | rfl | rfl | rfl
      · exact ⟨_, _, _, fun W h => ⟨cell_of_row0 (k := 0) (hw W h) rfl, cell_of_row3 (k := 0) (j := 1) (hw W h) rfl, cell_of_row3 (k := 0) (j := 2) (hw W h) rfl⟩, E0.out.1, E0.out.2⟩
      · exact ⟨_, _, _, fun W h => ⟨cell_of_row0 (k := 1) (hw W h) rfl, cell_of_row3 (k := 1) (j := 1) (hw W h) rfl, cell_of_row3 (k := 1) (j := 2) (hw W h) rfl⟩, E1.out.1, E1.out.2⟩
      · exact ⟨_, _, _, fun W h => ⟨cell_of_row0 (k := 2) (hw W h) rfl, cell_of_row3 (k := 2) (j := 1) (hw W h) rfl, cell_of_row3 (k := 2) (j := 2) (hw W h) rfl⟩, E2.out.1, E2.out.2⟩
      · exact ⟨_, _, _, fun W h => ⟨cell_of_row0 (k := 3) (hw W h) rfl, cell_of_row3 (k := 3) (j := 1) (hw W h) rfl, cell_of_row3 (k := 3) (j := 2) (hw W h) rfl⟩, E3.out.1, E3.out.2⟩
      · exact ⟨_, _, _, fun W h => ⟨cell_of_row0 (k := 4) (hw W h) rfl, cell_of_row3 (k := 4) (j := 1) (hw W h) rfl, cell_of_row3 (k := 4) (j := 2) (hw W h) rfl⟩, E4.out.1, E4.out.2⟩
      · exact ⟨_, _, _, fun W h => ⟨cell_of_row0 (k := 5) (hw W h) rfl, cell_of_row3 (k := 5) (j := 1) (hw W h) rfl, cell_of_row3 (k := 5) (j := 2) (hw W h) rfl⟩, E5.out.1, E5.out.2⟩
      · exact ⟨_, _, _, fun W h => ⟨cell_of_row0 (k := 6) (hw W h) rfl, cell_of_row3 (k := 6) (j := 1) (hw W h) rfl, cell_of_row3 (k := 6) (j := 2) (hw W h) rfl⟩, E6.out.1, E6.out.2⟩)
    obtain ⟨a, ha⟩ : ∃ a : Addr, (⟨g, 0, none⟩ : Addr) = a := ⟨_, rfl⟩
    rw [ha] at HALL ⊢
    clear ha E0 E1 E2 E3 E4 E5 E6 R1 R2 HM HC g1 g2 g3 ht1 ht2 BL6 HGL HNE HLT HB0 HK0
    go_wp2_with fail
    go_loopw [8] (fun iv wr => ∃ k : Nat, k ≤ 7 ∧ iv = .int .i64 k ∧ Hid (Below W6.heap.size W6 wr)) (fun iv _ => 7 - (intOf iv).toNat)
    case atStart => exact ⟨0, by omega, rfl, Lib.hid (Below.refl _ _)⟩
    case round =>
      obtain ⟨k, hk, rfl, HBk⟩ := hrel
      by_cases hlt : k < 7
      · obtain ⟨Fk, Nk, Dk, hcl, hE, hM⟩ := HALL.out k hlt
        obtain ⟨y0, y1, y2⟩ := hcl wr HBk.out
        have HCL := Lib.hid hcl
        have d1 : decide ((k : Int) < 7) = true := decide_eq_true (by omega)
        have d2 : decide (k < 7) = true := decide_eq_true hlt
        have d3 : (0 : Int) ≤ k := by omega
        have d4 : (k : Int) < 7 := by omega
        clear hcl
        go_wp2_with fail
        refine (L7.Tells.at hE HG6 HBk.out).mono ?_
        rintro e Va ⟨rfl, hb⟩
        have HBa := Lib.hid hb
        clear hb y0 y1 y2
        obtain ⟨y0, y1, y2⟩ := HCL.out Va HBa.out
        go_wp2_with fail
        refine (L7.Tells.at hM HG6 HBa.out).mono ?_
        rintro e Vb ⟨rfl, hb⟩
        have HBb := Lib.hid hb
        clear hb y0 y1 y2
        go_wp2_with fail
        go_roundw
        case rel => exact ⟨k + 1, by omega, by go_num, HBb⟩
        case measure => simp [intOf]; omega
      · obtain rfl : k = 7 := by omega
        go_wp2_with fail
        refine (HSR.out _).mono ?_
        rintro e Va ⟨rfl, rfl⟩
        go_wp2_with fail
        refine (L7.Tells.at HFX HG6 HBk.out).mono ?_
        rintro e Vb ⟨rfl, hb⟩
        have HBb := Lib.hid hb
        clear hb
        go_wp2_with fail
        go_ret
        exact ⟨rfl, HB6.out.trans' HBb.out⟩
  · obtain ⟨hc1, hc2⟩ : (c == 0) = false ∧ (c != 0) = true := by
      rcases hcs with ⟨_, h1, h2⟩ | ⟨_, h1, h2⟩ | ⟨_, h1, h2⟩
      · have := congrArg Prod.snd h2
        simp only at this
        subst this
        exact ⟨rfl, rfl⟩
      · have := congrArg Prod.snd h2
        simp only at this
        subst this
        exact ⟨rfl, rfl⟩
      · exact absurd h1 hmay
    have HM := tMay F N E p (decide_eq_false hmay)
    clear hmay he hcs hE hg
    go_enter Tryd.func7, Tryd.ntmps7
    go_wp2_with fail
    refine (HC.out _).mono ?_
    rintro e V ⟨rfl, hb⟩
    clear c0 c1 c2
    have HK1 := Lib.hid (HK0.out.below hb)
    have HB1 := Lib.hid (HB0.out.trans' hb)
    obtain ⟨c0, c1, c2⟩ := HK1.out.cells
    obtain ⟨f0, f1, f2⟩ := HK1.out.free
    have HX := Lib.hid (setC_box HK1.out F N E)
    have HB := Lib.hid (setC_below HB1.out (Nat.le_refl _) F N E)
    have HG := Lib.hid (HG0.out.below HG0.out.lt HB.out)
    unfold setC at HX HB HG
    obtain ⟨r0, r1, r2⟩ := HX.out.cells
    clear hb HK1 HB1
    go_wp2_with fail
    clear c0 c1 c2 f0 f1 f2 r0 r1 r2
    generalize ((V.setCell ⟨w.heap.size, 0, none⟩ (.int .i64 F)).setCell ⟨w.heap.size, 1, none⟩ (.int .i64 N)).setCell ⟨w.heap.size, 2, none⟩ (.string E) = W2 at *
    obtain ⟨c0, c1, c2⟩ := HX.out.cells
    go_wp2_with fail
    refine (HM.out _ HG.out).mono ?_
    rintro e V ⟨rfl, hb⟩
    replace HB := Lib.hid (HB.out.trans' hb)
    replace HG := Lib.hid (HG0.out.below HG0.out.lt HB.out)
    replace HX := Lib.hid (HX.out.below hb)
    clear hb
    clear c0 c1 c2
    obtain ⟨c0, c1, c2⟩ := HX.out.cells
    go_wp2_with fail
    refine (HE.out _ HG.out).mono ?_
    rintro e V ⟨rfl, hb⟩
    replace HB := Lib.hid (HB.out.trans' hb)
    replace HG := Lib.hid (HG0.out.below HG0.out.lt HB.out)
    replace HX := Lib.hid (HX.out.below hb)
    clear hb
    clear c0 c1 c2
    go_wp2_with fail
    refine (HFX.out _ HG.out).mono ?_
    rintro e V ⟨rfl, hb⟩
    replace HB := Lib.hid (HB.out.trans' hb)
    replace HG := Lib.hid (HG0.out.below HG0.out.lt HB.out)
    replace HX := Lib.hid (HX.out.below hb)
    clear hb
    go_wp2_with fail
    go_ret
    exact ⟨rfl, HB.out⟩
theorem chainEach_walk (F N : Int) (D : ByteArray) (p : Int) (w : World) (hg : L7.Sizes w) (hF : (Lit.int .i64 F).wf = true) (hN : (Lit.int .i64 N).wf = true) (hD : D.size ≤ maxLen) (hp : (Lit.int .i64 p).wf = true) :
    Calls Tryd.prog 7 #[cv F N D, .int .i64 p] w fun e w' => e = .returned (.bool true) ∧ Below w.heap.size w w' := chainEach_any fixed_any F N D p w hg
end Go.Proofs.YtahkigabapdleaaDoor
