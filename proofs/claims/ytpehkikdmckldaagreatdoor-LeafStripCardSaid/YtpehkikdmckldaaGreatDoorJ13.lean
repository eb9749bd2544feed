/-
  A head's box.
  Walks of the program's sealable, sealed, Seal.
  Walks of the program's read, of strings.Clone.
  The walk of strings.Clone.
  The walk of the program's Open.
  What Seal, Open and Right tell, as contracts in one form; what the document fixes.
  The walk of leaf.Encode.
  The walks of text.Get and the document's Text.
-/
import Derived.Test.YtpehkikdmckldaaGreatDoorJ12
import Derived.Test.YtpehkikdmckldaaGreatDoorJ10
import Derived.Test.YtpehkikdmckldaaGreatDoorShelf
import Derived.Lib.Repeat
import Derived.Lib.BitFns
import Derived.Laws.BitsAllLaws
import Derived.Test.YtpehkikdmckldaaGreatDoorJ11
import Derived.Lib.Walk
import Derived.Lib.BufferWrite
import Derived.Lib.UnsafeStr
import Derived.Laws.MakeOwn
import Derived.Laws.Cover1
import Derived.Deep.RegionWith
import Derived.Test.YtpehkikdmckldaaGreatDoorJ05
import Derived.Test.YtpehkikdmckldaaGreatDoorJ06
import Derived.IntWalk
import Derived.OwnWalk
namespace Go.Proofs.YtpehkikdmckldaaGreatDoor.L7
open Go.RowKit
set_option linter.unusedVariables false

theorem le4_size (v : Nat) : (⟨(Lib.leBytes 4 v).toArray⟩ : ByteArray).size = 4 := by simp [ByteArray.size, Lib.leBytes_length]
/-- A head's box. -/
def Bx (t : TypeId) (g : Nat) (h : HP.H) (w : World) : Prop := w.heap[g]? = some (.cells #[.int .i64 h.k, .int .i64 h.l, .int .i64 h.c, .int .i64 h.r, .int .i64 h.s] t (0, 0))
theorem Bx.cells {t : TypeId} {g : Nat} {h : HP.H} {w : World} (k : Bx t g h w) : w.cell? ⟨g, 0, none⟩ = some (.int .i64 h.k) ∧ w.cell? ⟨g, 1, none⟩ = some (.int .i64 h.l) ∧ w.cell? ⟨g, 2, none⟩ = some (.int .i64 h.c) ∧ w.cell? ⟨g, 3, none⟩ = some (.int .i64 h.r) ∧ w.cell? ⟨g, 4, none⟩ = some (.int .i64 h.s) := by
  unfold Bx at k
  refine ⟨?_, ?_, ?_, ?_, ?_⟩ <;> simp [World.cell?, k]
theorem Bx.lt {t : TypeId} {g : Nat} {h : HP.H} {w : World} (k : Bx t g h w) : g < w.heap.size := (Array.getElem?_eq_some_iff.1 k).1
theorem Bx.below {t : TypeId} {g : Nat} {h : HP.H} {w w' : World} (k : Bx t g h w) (b : Below w.heap.size w w') : Bx t g h w' := (b.block g k.lt).trans k
/-- What a region holds of a head's box. -/
def HasBx (t : TypeId) (g : Nat) (h : HP.H) (w : World) : Prop := Hid (Bx t g h w) ∧ w.cell? ⟨g, 0, none⟩ = some (.int .i64 h.k) ∧ w.cell? ⟨g, 1, none⟩ = some (.int .i64 h.l) ∧ w.cell? ⟨g, 2, none⟩ = some (.int .i64 h.c) ∧ w.cell? ⟨g, 3, none⟩ = some (.int .i64 h.r) ∧ w.cell? ⟨g, 4, none⟩ = some (.int .i64 h.s)
theorem hasBx {t : TypeId} {g : Nat} {h : HP.H} {w : World} (k : Bx t g h w) : HasBx t g h w := ⟨Lib.hid k, k.cells⟩
theorem HasBx.below {t : TypeId} {g : Nat} {h : HP.H} {w w' : World} (k : HasBx t g h w) (b : Below w.heap.size w w') : HasBx t g h w' := hasBx (k.1.out.below b)
theorem HasBx.alloc {t : TypeId} {g : Nat} {h : HP.H} {w : World} (k : HasBx t g h w) (o : Obj) : HasBx t g h (w.alloc o) := k.below ((Below.refl _ w).alloc (Nat.le_refl _) _)
/-- A head is stored into its box. -/
def set5 (w : World) (g : Nat) (h : HP.H) : World := ((((w.setCell ⟨g, 0, none⟩ (.int .i64 h.k)).setCell ⟨g, 1, none⟩ (.int .i64 h.l)).setCell ⟨g, 2, none⟩ (.int .i64 h.c)).setCell ⟨g, 3, none⟩ (.int .i64 h.r)).setCell ⟨g, 4, none⟩ (.int .i64 h.s)
theorem set5_box {t : TypeId} {w : World} {g : Nat} {h : HP.H} (k : Bx t g h w) (h' : HP.H) : Bx t g h' (set5 w g h') := by
  unfold Bx at *
  unfold set5
  have h0 := heap_setCell_same w g 0 _ _ (.int .i64 h'.k) k
  have h1 := heap_setCell_same _ g 1 _ _ (.int .i64 h'.l) h0
  have h2 := heap_setCell_same _ g 2 _ _ (.int .i64 h'.c) h1
  have h3 := heap_setCell_same _ g 3 _ _ (.int .i64 h'.r) h2
  have h4 := heap_setCell_same _ g 4 _ _ (.int .i64 h'.s) h3
  exact h4
theorem set5_other {w : World} {g q : Nat} (h : q ≠ g) (h' : HP.H) : (set5 w g h').heap[q]? = w.heap[q]? := by
  unfold set5
  have hh : ∀ (W : World) (o : Nat) (v : Value), (W.setCell ⟨g, o, none⟩ v).heap[q]? = W.heap[q]? := fun W o v => Below.heap_setCell W ⟨g, o, none⟩ v q (fun e' => h (by first | exact e' | exact e'.symm))
  rw [hh, hh, hh, hh, hh]
theorem set5_below {w W : World} {g : Nat} (h : Below w.heap.size w W) (hg : w.heap.size ≤ g) (h' : HP.H) : Below w.heap.size w (set5 W g h') :=
  ((((h.setCell hg _).setCell hg _).setCell hg _).setCell hg _).setCell hg _
theorem Bx.set5 {t : TypeId} {w : World} {g q : Nat} {h : HP.H} (k : Bx t q h w) (hq : q ≠ g) (h' : HP.H) : Bx t q h (Go.Proofs.YtpehkikdmckldaaGreatDoor.L7.set5 w g h') := by
  unfold Bx at *
  rw [set5_other hq]
  exact k
theorem Bx.frozen {t : TypeId} {g : Nat} {h : HP.H} {w : World} (k : Bx t g h w) : w.frozen? ⟨g, 0, none⟩ = false ∧ w.frozen? ⟨g, 1, none⟩ = false ∧ w.frozen? ⟨g, 2, none⟩ = false ∧ w.frozen? ⟨g, 3, none⟩ = false ∧ w.frozen? ⟨g, 4, none⟩ = false := by
  unfold Bx at k
  refine ⟨?_, ?_, ?_, ?_, ?_⟩ <;> simp [World.frozen?, k]
end Go.Proofs.YtpehkikdmckldaaGreatDoor.L7

namespace Go.Proofs.YtpehkikdmckldaaGreatDoor.L7
open Go.RowKit
set_option linter.unusedVariables false
set_option linter.unusedSimpArgs false

theorem Sizes.kept {w w' : World} (h : Sizes w) (k : Below w.heap.size w w') : Sizes w' := h.below h.lt k
theorem Sizes.alloc {w : World} (h : Sizes w) (o : Obj) : Sizes (w.alloc o) := h.kept (below_alloc w o)

/-- What sealable answers. -/
def Why (h : HP.H) (b : ByteArray) (p : Int) (v : Value) : Prop :=
  (mayBe p = false ∧ ∃ a, v = fa a (er 4)) ∨ (mayBe p = true ∧ HP.right h = false ∧ ∃ a c, v = fa a (fa c (er 3))) ∨ (mayBe p = true ∧ HP.right h = true ∧ p - 16 < (b.size : Int) ∧ ∃ a, v = fa a (er 8)) ∨ (mayBe p = true ∧ HP.right h = true ∧ ¬ p - 16 < (b.size : Int) ∧ v = .nilIface)

set_option maxHeartbeats 2000000 in
set_option maxRecDepth 100000 in
theorem sealable_any (h : HP.H) (b : ByteArray) (p : Int) (w : World) (hs : Sizes w) (hp : (Lit.int .i64 p).wf = true) (hb : b.size ≤ maxLen) :
    Calls Tryz.prog 64 #[hv h, .string b, .int .i64 p] w fun e w' => ∃ v, e = .returned v ∧ Below w.heap.size w w' ∧ Why h b p v := by
  have hpb := bounds_i64 hp
  unfold maxLen at hb
  have HZ : ∀ W, Sizes W → Calls Tryz.prog 32 #[.int .i64 p] W fun e w' => e = .returned (.bool (mayBe p)) ∧ W = w' := fun W hW => size_any p W hW
  have HF := Lib.hid (fields_any h)
  have HW := Lib.hid (within_any h)
  obtain ⟨bo, hbo⟩ : ∃ bo : Obj, bo = .cells #[.int .i64 h.k, .int .i64 h.l, .int .i64 h.c, .int .i64 h.r, .int .i64 h.s] 78 := ⟨_, rfl⟩
  have hs1 : Sizes (w.alloc (.cells #[.int .i64 h.k, .int .i64 h.l, .int .i64 h.c, .int .i64 h.r, .int .i64 h.s] 78)) := hs.alloc _
  have HB0 := Lib.hid (below_alloc w (.cells #[.int .i64 h.k, .int .i64 h.l, .int .i64 h.c, .int .i64 h.r, .int .i64 h.s] 78))
  clear hbo
  cases hm : mayBe p with
  | false =>
    have HZ2 := Lib.hid (HZ _ hs1)
    rw [hm] at HZ2
    have HM := Lib.hid hm
    clear HZ hm hs hs1 hp
    unfold hv
    go_enter Tryz.func64, Tryz.ntmps64
    go_wp2_with fail
    refine HZ2.out.mono ?_
    rintro e w1 ⟨rfl, rfl⟩
    go_wp2_with fail
    go_ret
    exact ⟨_, rfl, HB0.out, .inl ⟨HM.out, _, rfl⟩⟩
  | true =>
    have hpb2 := HP.mayBe_bd hm
    have HZ2 := Lib.hid (HZ _ hs1)
    rw [hm] at HZ2
    have HM := Lib.hid hm
    clear HZ hm hs hs1 hp
    obtain ⟨q, hq⟩ : ∃ q, HP.right h = q := ⟨_, rfl⟩
    rw [hq] at HW
    have HQ := Lib.hid hq
    clear hq
    unfold hv at *
    go_enter Tryz.func64, Tryz.ntmps64
    go_wp2_with fail
    refine HZ2.out.mono ?_
    rintro e w1 ⟨rfl, rfl⟩
    go_wp2_with fail
    refine (HF.out _).mono ?_
    rintro e w1 ⟨a, rfl, hL, hb1⟩
    have HB1 := Lib.hid (HB0.out.trans' hb1)
    clear hb1
    go_wp2_with fail
    refine (HW.out a _ hL).mono ?_
    rintro e w2 ⟨v, rfl, hb2, hv2⟩
    have HB2 := Lib.hid (HB1.out.trans' hb2)
    clear hb2 hL
    rcases hv2 with ⟨rfl, rfl⟩ | ⟨rfl, nm, rfl⟩
    · by_cases hbig : p - 16 < (b.size : Int)
      · have HG := Lib.hid hbig
        go_wp2_with fail
        go_ret
        exact ⟨_, rfl, HB2.out, .inr (.inr (.inl ⟨HM.out, HQ.out, HG.out, _, rfl⟩))⟩
      · have HG := Lib.hid hbig
        go_wp2_with fail
        go_ret
        exact ⟨_, rfl, HB2.out, .inr (.inr (.inr ⟨HM.out, HQ.out, Int.not_lt.2 HG.out, rfl⟩))⟩
    · unfold fa
      go_wp2_with fail
      go_ret
      exact ⟨_, rfl, HB2.out, .inr (.inl ⟨HM.out, HQ.out, _, nm, rfl⟩)⟩

theorem zeros_repeat (m : Nat) : Lib.repeatL [0] m = List.replicate m 0 := by
  have h := Lib.repeatL_replicate 0 1 m
  rw [Nat.mul_one] at h
  exact h
theorem repeat_zeros (n : Nat) (w : World) (hn : n ≤ 100000) :
    Calls Tryz.prog 104 #[.string ⟨#[0]⟩, .int .i64 n] w fun e w' => e = .returned (.string ⟨(List.replicate n (0 : UInt8)).toArray⟩) ∧ Below w.heap.size w w' := by
  refine (Tryz.strings_Repeat ⟨#[0]⟩ n w (by omega) (by show 1 * n ≤ _; omega)).mono fun e w' ⟨he, hw⟩ => ⟨?_, hw⟩
  rw [he, show (⟨#[0]⟩ : ByteArray).data.toList = [0] from rfl, zeros_repeat]

set_option maxHeartbeats 2000000 in
set_option maxRecDepth 100000 in
theorem sealed_any (h : HP.H) (b : ByteArray) (p : Nat) (w : World) (hr : HP.Ok h) (hb : b.size + 16 ≤ p) (hp : p ≤ 1024) :
    Calls Tryz.prog 66 #[hv h, .string b, .int .i64 p] w fun e w' => e = .returned (.string ⟨(HP.page (HP.front h) (HP.rest b.data.toList p)).toArray⟩) ∧ Below w.heap.size w w' := by
  have HFi := Lib.hid (fields_any h)
  have HLa := Lib.hid (laid_any h hr)
  obtain ⟨F, hF⟩ : ∃ F : ByteArray, ⟨(HP.front h).toArray⟩ = F := ⟨_, rfl⟩
  rw [hF] at HLa
  have sF : F.size = 12 := by rw [← hF]; simp [ByteArray.size, HP.front_length]
  obtain ⟨n, hn⟩ : ∃ n : Nat, n = p - 16 - b.size := ⟨_, rfl⟩
  have hn2 : (p : Int) - 16 - b.size = n := by omega
  obtain ⟨Z, hZ⟩ : ∃ Z : ByteArray, Z = ⟨(List.replicate n (0 : UInt8)).toArray⟩ := ⟨_, rfl⟩
  have HZ : Hid (∀ W, Calls Tryz.prog 104 #[.string ⟨#[0]⟩, .int .i64 n] W fun e w' => e = .returned (.string Z) ∧ Below W.heap.size W w') := Lib.hid (fun W => by have h := repeat_zeros n W (by omega); rw [hZ]; exact h)
  obtain ⟨R, hR⟩ : ∃ R, b ++ Z = R := ⟨_, rfl⟩
  have hRd : R = ⟨(HP.rest b.data.toList p).toArray⟩ := by
    rw [← hR, hZ]
    apply ByteArray.ext
    simp [HP.rest, hn]
  have sZ : Z.size = n := by rw [hZ]; simp [ByteArray.size]
  have sR : R.size = p - 16 := by rw [← hR, ByteArray.size_append]; omega
  obtain ⟨O, hO⟩ : ∃ O : ByteArray, O = ⟨(Lib.leBytes 4 0).toArray⟩ := ⟨_, rfl⟩
  have HO : Hid (∀ W, Calls Tryz.prog 96 #[.int .u32 0] W fun e w' => e = .returned (.string O) ∧ Below W.heap.size W w') := Lib.hid (fun W => by have h := four_any 0 W (by omega) (by omega); rw [hO]; exact h)
  have sO : O.size = 4 := by rw [hO, le4_size]
  obtain ⟨X, hX⟩ : ∃ X, F ++ O = X := ⟨_, rfl⟩
  have sX : X.size = 16 := by rw [← hX, ByteArray.size_append]; omega
  obtain ⟨Y, hY⟩ : ∃ Y, X ++ R = Y := ⟨_, rfl⟩
  have sY : Y.size = p := by rw [← hY, ByteArray.size_append]; omega
  obtain ⟨v, hv_⟩ : ∃ v : Nat, v = HP.crc (HP.front h) (HP.rest b.data.toList p) := ⟨_, rfl⟩
  have hvl : v < 4294967296 := by rw [hv_]; exact HP.crc_lt _ _
  have HSum : Hid (∀ W, Calls Tryz.prog 105 #[.string Y] W fun e w' => e = .returned (.int .u32 v) ∧ Below W.heap.size W w') := Lib.hid (fun W => by
    have h := table_any Y W (by unfold maxLen; omega)
    have e : SP.sum Y.data.toList = v := by
      rw [hv_, ← hY, ← hX, hRd, ← hF, hO]
      simp [HP.crc, Lib.leBytes]
    rwa [e] at h)
  obtain ⟨C, hC⟩ : ∃ C : ByteArray, C = ⟨(Lib.leBytes 4 v).toArray⟩ := ⟨_, rfl⟩
  have sC : C.size = 4 := by rw [hC, le4_size]
  have HC : Hid (∀ W, Calls Tryz.prog 96 #[.int .u32 (v : Int)] W fun e w' => e = .returned (.string C) ∧ Below W.heap.size W w') := Lib.hid (fun W => by have h := four_any (v : Int) W (by omega) (by omega); rw [hC]; exact h)
  obtain ⟨G, hG⟩ : ∃ G, F ++ C = G := ⟨_, rfl⟩
  have sG : G.size = 16 := by rw [← hG, ByteArray.size_append]; omega
  obtain ⟨E, hE⟩ : ∃ E, G ++ R = E := ⟨_, rfl⟩
  have hEd : E = ⟨(HP.page (HP.front h) (HP.rest b.data.toList p)).toArray⟩ := by
    rw [← hE, ← hG, hRd, hC, ← hF, hv_]
    apply ByteArray.ext
    simp [HP.page]
  rw [← hEd]
  have a3 : ¬ 9223372036854775807 < b.size + Z.size := by omega
  have a4 : ¬ 9223372036854775807 < F.size + O.size := by omega
  have a5 : ¬ 9223372036854775807 < X.size + R.size := by omega
  have a6 : ¬ 9223372036854775807 < F.size + C.size := by omega
  have a7 : ¬ 9223372036854775807 < G.size + R.size := by omega
  have hw1 : IntKind.i64.wrap ((p : Int) - 16) = (p : Int) - 16 := IntWalk.i64_in _ (by omega)
  have hw2 : IntKind.i64.wrap ((p : Int) - 16 - b.size) = n := by rw [hn2]; exact IntWalk.i64_in _ (by omega)
  have HB0 := Lib.hid (below_alloc w (.cells #[.int .i64 h.k, .int .i64 h.l, .int .i64 h.c, .int .i64 h.r, .int .i64 h.s] 78))
  clear hF hn hZ hRd sZ sR hO sO sX sY hv_ hvl hC sC sG hEd
  unfold hv at *
  go_enter Tryz.func66, Tryz.ntmps66
  go_wp2_with fail
  refine (HFi.out _).mono ?_
  rintro e w1 ⟨a, rfl, hL, hb1⟩
  have HB1 := Lib.hid (HB0.out.trans' hb1)
  clear hb1
  go_wp2_with fail
  refine (HLa.out a _ hL).mono ?_
  rintro e w2 ⟨rfl, hb2⟩
  have HB2 := Lib.hid (HB1.out.trans' hb2)
  clear hb2 hL
  go_wp2_with fail
  refine (HZ.out _).mono ?_
  rintro e w3 ⟨rfl, hb3⟩
  have HB3 := Lib.hid (HB2.out.trans' hb3)
  clear hb3
  go_wp2_with fail
  refine (HO.out _).mono ?_
  rintro e w4 ⟨rfl, hb4⟩
  have HB4 := Lib.hid (HB3.out.trans' hb4)
  clear hb4
  go_wp2_with fail
  refine (HSum.out _).mono ?_
  rintro e w5 ⟨rfl, hb5⟩
  have HB5 := Lib.hid (HB4.out.trans' hb5)
  clear hb5
  go_wp2_with fail
  refine (HC.out _).mono ?_
  rintro e w6 ⟨rfl, hb6⟩
  have HB6 := Lib.hid (HB5.out.trans' hb6)
  clear hb6
  go_wp2_with fail
  go_ret
  exact ⟨rfl, HB6.out⟩

theorem jx0 : ∀ W : World, (Instr.index 118 (.agg #[.int .i64 4, .int .i64 3, .int .i64 8]) (.int .i64 0)).run Tryz.prog W = .ok (.int .i64 4) W := fun W => by kernel_rfl
theorem jx1 : ∀ W : World, (Instr.index 118 (.agg #[.int .i64 4, .int .i64 3, .int .i64 8]) (.int .i64 1)).run Tryz.prog W = .ok (.int .i64 3) W := fun W => by kernel_rfl
theorem jx2 : ∀ W : World, (Instr.index 118 (.agg #[.int .i64 4, .int .i64 3, .int .i64 8]) (.int .i64 2)).run Tryz.prog W = .ok (.int .i64 8) W := fun W => by kernel_rfl

set_option maxHeartbeats 4000000 in
set_option maxRecDepth 100000 in
theorem seal_any (h : HP.H) (b : ByteArray) (p : Int) (w : World) (hs : Sizes w) (hp : (Lit.int .i64 p).wf = true) (hb : b.size ≤ maxLen) :
    Calls Tryz.prog 35 #[hv h, .string b, .int .i64 p] w fun e w' => e = .returned (.tuple #[.string (HP.sea h b p).1, .int .i64 (HP.sea h b p).2]) ∧ Below w.heap.size w w' := by
  have HB0 := Lib.hid (below_alloc w (.cells #[.int .i64 h.k, .int .i64 h.l, .int .i64 h.c, .int .i64 h.r, .int .i64 h.s] 78))
  have HSE := Lib.hid (sealable_any h b p _ (hs.alloc (.cells #[.int .i64 h.k, .int .i64 h.l, .int .i64 h.c, .int .i64 h.r, .int .i64 h.s] 78)) hp hb)
  have hbx := heap_alloc_new w (.cells #[.int .i64 h.k, .int .i64 h.l, .int .i64 h.c, .int .i64 h.r, .int .i64 h.s] 78)
  obtain ⟨x0, x1, x2, x3, x4⟩ := Bx.cells (h := h) (t := 78) hbx
  have HBX : Hid (Bx 78 w.heap.size h (w.alloc (.cells #[.int .i64 h.k, .int .i64 h.l, .int .i64 h.c, .int .i64 h.r, .int .i64 h.s] 78))) := Lib.hid hbx
  obtain ⟨S1, hS1⟩ : ∃ x, (HP.sea h b p).1 = x := ⟨_, rfl⟩
  obtain ⟨e1, he1⟩ : ∃ x, (HP.sea h b p).2 = x := ⟨_, rfl⟩
  have HSe : Hid (HP.sea h b p = (S1, e1)) := Lib.hid (by rw [← hS1, ← he1])
  rw [hS1, he1]
  clear hS1 he1
  have jx0 := jx0
  have jx1 := jx1
  have jx2 := jx2
  clear hs hp hbx
  unfold hv at *
  generalize hw0 : w.alloc (.cells #[.int .i64 h.k, .int .i64 h.l, .int .i64 h.c, .int .i64 h.r, .int .i64 h.s] 78) = W0 at *
  go_enter Tryz.func35, Tryz.ntmps35
  go_wp2_with fail
  refine HSE.out.mono ?_
  rintro e w1 ⟨v, rfl, hb1, hwhy⟩
  have hbx1 := HBX.out.below hb1
  have HB1 := Lib.hid (HB0.out.trans' hb1)
  clear hb1 x0 x1 x2 x3 x4 HSE
  rcases hwhy with ⟨hm, a, rfl⟩ | ⟨hm, hr, a, c, rfl⟩ | ⟨hm, hr, hg, a, rfl⟩ | ⟨hm, hr, hg, rfl⟩
  · obtain ⟨rfl, rfl⟩ := Prod.mk.inj (HSe.out.symm.trans (HP.seal_arg h b hm))
    have HI := Lib.hid (Is_fa1 a 4)
    clear hm hbx1
    unfold er at *
    go_wp2_with fail
    refine wp_loop_rounds 4 ?_
    rw [rounds_succ]
    go_wp2_with fail
    refine (HI.out _ _).mono ?_
    rintro e w2 ⟨rfl, hb2⟩
    have HB2 := Lib.hid (HB1.out.trans' hb2)
    clear hb2
    go_wp2_with fail
    go_ret2
    exact ⟨rfl, HB2.out⟩
  · obtain ⟨rfl, rfl⟩ := Prod.mk.inj (HSe.out.symm.trans (HP.seal_form b hm hr))
    have HI := Lib.hid (Is_fa2 a c 3)
    clear hm hr hbx1
    unfold er at *
    go_wp2_with fail
    refine wp_loop_rounds 4 ?_
    rw [rounds_succ]
    go_wp2_with fail
    refine (HI.out _ _).mono ?_
    rintro e w2 ⟨rfl, hb2⟩
    have HB2 := Lib.hid (HB1.out.trans' hb2)
    clear hb2
    go_wp2_with fail
    rw [rounds_succ]
    go_wp2_with fail
    refine (HI.out _ _).mono ?_
    rintro e w3 ⟨rfl, hb3⟩
    have HB3 := Lib.hid (HB2.out.trans' hb3)
    clear hb3
    go_wp2_with fail
    go_ret2
    exact ⟨rfl, HB3.out⟩
  · obtain ⟨rfl, rfl⟩ := Prod.mk.inj (HSe.out.symm.trans (HP.seal_big hm hr hg))
    have HI := Lib.hid (Is_fa1 a 8)
    clear hm hr hg hbx1
    unfold er at *
    go_wp2_with fail
    refine wp_loop_rounds 4 ?_
    rw [rounds_succ]
    go_wp2_with fail
    refine (HI.out _ _).mono ?_
    rintro e w2 ⟨rfl, hb2⟩
    have HB2 := Lib.hid (HB1.out.trans' hb2)
    clear hb2
    go_wp2_with fail
    rw [rounds_succ]
    go_wp2_with fail
    refine (HI.out _ _).mono ?_
    rintro e w3 ⟨rfl, hb3⟩
    have HB3 := Lib.hid (HB2.out.trans' hb3)
    clear hb3
    go_wp2_with fail
    rw [rounds_succ]
    go_wp2_with fail
    refine (HI.out _ _).mono ?_
    rintro e w4 ⟨rfl, hb4⟩
    have HB4 := Lib.hid (HB3.out.trans' hb4)
    clear hb4
    go_wp2_with fail
    go_ret2
    exact ⟨rfl, HB4.out⟩
  · obtain ⟨hS, rfl⟩ := Prod.mk.inj (HSe.out.symm.trans (HP.seal_good hm hr hg))
    have hpb := HP.mayBe_bd hm
    obtain ⟨q, rfl⟩ := Int.eq_ofNat_of_zero_le (show 0 ≤ p by omega)
    have HSD := Lib.hid (fun W => sealed_any h b q W (HP.right_iff.1 hr) (by omega) (by omega))
    unfold hv at HSD
    rw [Int.toNat_natCast] at hS
    rw [← hS] at HSD
    clear hS
    have HI := Lib.hid Is_nil
    obtain ⟨x0, x1, x2, x3, x4⟩ := hbx1.cells
    clear hm hr hg hbx1 hpb
    unfold er at *
    go_wp2_with fail
    refine wp_loop_rounds 4 ?_
    rw [rounds_succ]
    go_wp2_with fail
    refine (HI.out _ _).mono ?_
    rintro e w2 ⟨rfl, rfl⟩
    go_wp2_with fail
    rw [rounds_succ]
    go_wp2_with fail
    refine (HI.out _ _).mono ?_
    rintro e w3 ⟨rfl, rfl⟩
    go_wp2_with fail
    rw [rounds_succ]
    go_wp2_with fail
    refine (HI.out _ _).mono ?_
    rintro e w4 ⟨rfl, rfl⟩
    go_wp2_with fail
    rw [rounds_succ]
    go_wp2_with fail
    refine (HSD.out _).mono ?_
    rintro e w5 ⟨rfl, hb5⟩
    have HB5 := Lib.hid (HB1.out.trans' hb5)
    clear hb5
    go_wp2_with fail
    go_ret2
    exact ⟨rfl, HB5.out⟩
end Go.Proofs.YtpehkikdmckldaaGreatDoor.L7

namespace Go.Proofs.YtpehkikdmckldaaGreatDoor.L7
open Go.RowKit
set_option linter.unusedVariables false
set_option linter.unusedSimpArgs false

theorem mask32 (v : Nat) (h : v < 4294967296) : bits .and .u32 (v : Int) 255 = ((v % 256 : Nat) : Int) := by
  have e := u32_and_nat v 255 h (by omega)
  rw [show (255 : Int) = ((255 : Nat) : Int) from rfl, e, show (255 : Nat) = 2 ^ 8 - 1 from rfl, Nat.and_two_pow_sub_one_eq_mod]
theorem headOf_num (s : List UInt8) (hs : 12 ≤ s.length) : HP.headOf s = ⟨((Lib.leNat (s.take 4) % 256 : Nat) : Int), ((Lib.leNat (s.take 4) / 256 % 256 : Nat) : Int), ((Lib.leNat (s.take 4) / 65536 : Nat) : Int), ((Lib.leNat ((s.drop 4).take 4) : Nat) : Int), ((Lib.leNat ((s.drop 8).take 4) : Nat) : Int)⟩ := by
  obtain ⟨a, b, c, d, t, rfl⟩ : ∃ a b c d t, s = a :: b :: c :: d :: t := by
    match s, hs with
    | a :: b :: c :: d :: t, _ => exact ⟨a, b, c, d, t, rfl⟩
  have e0 : Lib.leNat ((a :: b :: c :: d :: t).take 4) = a.toNat + 256 * (b.toNat + 256 * (c.toNat + 256 * d.toNat)) := by
    simp [Lib.leNat]
  have ha := a.toNat_lt
  have hb := b.toNat_lt
  have hc := c.toNat_lt
  have hd := d.toNat_lt
  unfold HP.headOf
  rw [e0]
  simp only [List.getD_cons_zero, List.getD_cons_succ]
  congr 1 <;> omega

set_option maxHeartbeats 2000000 in
set_option maxRecDepth 100000 in
theorem headRead_any (s : ByteArray) (w : World) (h1 : 128 ≤ s.size) (h2 : s.size ≤ 1024) :
    Calls Tryz.prog 108 #[.string s] w fun e w' => e = .returned (hv (HP.headOf s.data.toList)) ∧ Below w.heap.size w w' := by
  rw [headOf_num s.data.toList (by simp; omega)]
  have HR0 := Lib.hid (fun W => read_any s 0 W (by omega) (by omega) (by unfold maxLen; omega))
  have HR4 := Lib.hid (fun W => read_any s 4 W (by omega) (by omega) (by unfold maxLen; omega))
  have HR8 := Lib.hid (fun W => read_any s 8 W (by omega) (by omega) (by unfold maxLen; omega))
  rw [show ((0 : Int)).toNat = 0 from rfl, List.drop_zero] at HR0
  rw [show ((4 : Int)).toNat = 4 from rfl] at HR4
  rw [show ((8 : Int)).toNat = 8 from rfl] at HR8
  have b0 : Lib.leNat (s.data.toList.take 4) < 4294967296 := Nat.lt_of_lt_of_le (WP.leNat_lt _) (by rw [show (4294967296 : Nat) = 256 ^ 4 from rfl]; exact Nat.pow_le_pow_right (by omega) (by simp; omega))
  have b4 : Lib.leNat ((s.data.toList.drop 4).take 4) < 4294967296 := Nat.lt_of_lt_of_le (WP.leNat_lt _) (by rw [show (4294967296 : Nat) = 256 ^ 4 from rfl]; exact Nat.pow_le_pow_right (by omega) (by simp; omega))
  have b8 : Lib.leNat ((s.data.toList.drop 8).take 4) < 4294967296 := Nat.lt_of_lt_of_le (WP.leNat_lt _) (by rw [show (4294967296 : Nat) = 256 ^ 4 from rfl]; exact Nat.pow_le_pow_right (by omega) (by simp; omega))
  generalize Lib.leNat (s.data.toList.take 4) = n at *
  generalize Lib.leNat ((s.data.toList.drop 4).take 4) = r at *
  generalize Lib.leNat ((s.data.toList.drop 8).take 4) = f at *
  have m0 : bits .and .u32 (n : Int) 255 = (n : Int) % 256 := by rw [mask32 n b0]; omega
  have m1 : bits .and .u32 ((n : Int) / 256) 255 = (n : Int) / 256 % 256 := by
    have e := mask32 (n / 256) (by omega)
    rw [show ((n / 256 : Nat) : Int) = (n : Int) / 256 by omega] at e
    rw [e]
    omega
  have m2 : bits .and .u32 ((n : Int) / 256 % 4294967296) 255 = (n : Int) / 256 % 256 := by
    rw [Int.emod_eq_of_lt (by omega) (by omega)]; exact m1
  unfold hv
  go_enter Tryz.func108, Tryz.ntmps108
  go_wp2_with fail
  refine (HR0.out _).mono ?_
  rintro e w1 ⟨rfl, rfl⟩
  go_wp2_with fail
  refine (HR4.out _).mono ?_
  rintro e w1 ⟨rfl, rfl⟩
  go_wp2_with fail
  refine (HR8.out _).mono ?_
  rintro e w1 ⟨rfl, rfl⟩
  go_wp2_with fail
  refine bodyPost_ret (v := .agg #[.int .i64 ((n : Int) % 256), .int .i64 ((n : Int) / 256 % 256), .int .i64 ((n : Int) / 65536), .int .i64 r, .int .i64 f]) (by simp [results, Tryz.results108, go_sem]) rfl ⟨?_, ?_⟩
  · rw [show ((n % 256 : Nat) : Int) = (n : Int) % 256 by omega, show ((n / 256 % 256 : Nat) : Int) = (n : Int) / 256 % 256 by omega, show ((n / 65536 : Nat) : Int) = (n : Int) / 65536 by omega]
  · exact below_alloc _ _
end Go.Proofs.YtpehkikdmckldaaGreatDoor.L7

namespace Go.Proofs.YtpehkikdmckldaaGreatDoor.L7
open Go.RowKit
set_option linter.unusedVariables false
set_option linter.unusedSimpArgs false

/-- A text's bytes. -/
abbrev B (s : ByteArray) : List UInt8 := s.data.toList
theorem b_size (s : ByteArray) : (B s).length = s.size := by simp [B]
/-- The cells of a text's bytes. -/
def txt (s : ByteArray) : Array Value := (Lib.byteCells (B s)).toArray
theorem txt_size (s : ByteArray) : (txt s).size = s.size := by simp [txt, Lib.byteCells_length]

set_option maxHeartbeats 2000000 in
set_option maxRecDepth 100000 in
theorem litClone_any (s : ByteArray) (w : World) (hs : s.size ≤ 1000000) :
    Calls Tryz.prog 88 #[.string s] w fun e w' => e = .returned (.string s) ∧ Below w.heap.size w w' := by
  by_cases h0 : s.size = 0
  · obtain rfl : s = ⟨#[]⟩ := ByteArray.ext (Array.eq_empty_of_size_eq_zero h0)
    go_enter Tryz.func88, Tryz.ntmps88
    go_wp2
    go_ret
    exact ⟨rfl, Below.refl _ _⟩
  · obtain ⟨i0, hi, hz0, hz1, hz2⟩ := info_parts Tryz.infoByte
    have hsz : (Tryz.prog.info? 5).map (·.size) = some 1 := by rw [hi]; simp [hz1]
    have hcells : Tryz.prog.cellsOf 5 = 1 := by simp [Program.cellsOf, hi, hz1]
    obtain ⟨Z, hZ⟩ : ∃ Z, Z = madeCells (Value.int .u8 0).cells (((s.size : Nat) : Int).toNat * i0.size) := ⟨_, rfl⟩
    have hZs : Z.size = s.size := by rw [hZ, size_madeCells, hz1]; simp
    -- the bytes are made,
    have mk : ∀ W : World, (Instr.makeSlice 103 (.int .i64 (s.size : Int)) (.int .i64 (s.size : Int))).run Tryz.prog W = .ok (.slice (some ⟨W.heap.size, 0, none⟩) s.size s.size) (W.alloc (.cells Z 5)) := fun W => by
      have h := run_make (P := Tryz.prog) W 103 5 i0 (.int .u8 0) Tryz.underlying103 hi hz0 .i64 .i64 (s.size : Int) (s.size : Int) (by omega) (by omega) (by rw [hz2]; omega) (by omega)
      rw [← hZ] at h
      simpa using h
    clear hZ
    -- become the text's,
    have heap1 := heap_alloc_new w (.cells Z 5)
    have cp := Lib.run_copy_row_string (P := Tryz.prog) (w.alloc (.cells Z 5)) 103 9 3 5 w.heap.size 0 s.size s.size s Z 5 Tryz.underlying103 hsz heap1 (Nat.le_refl _) (by omega)
    rw [show (Z.toList.take 0 ++ Lib.byteCells s.data.toList ++ Z.toList.drop (0 + s.size)).toArray = txt s by
      rw [List.take_zero, List.nil_append, List.drop_of_length_le (by simp; omega), List.append_nil]; rfl] at cp
    have heap2 : ((w.alloc (.cells Z 5)).setRow w.heap.size (txt s)).heap[w.heap.size]? = some (.cells (txt s) 5 (0, 0)) := setRow_heap _ _ Z _ 5 (0, 0) heap1
    have hb2 : Below w.heap.size w ((w.alloc (.cells Z 5)).setRow w.heap.size (txt s)) := (below_alloc w _).trans ⟨rfl, rfl, rfl, by simp, fun k hk => setRow_other _ _ _ _ (by omega)⟩
    have hne : B s ≠ [] := fun e => h0 (by rw [← b_size, e]; rfl)
    generalize (w.alloc (.cells Z 5)).setRow w.heap.size (txt s) = w2 at *
    -- and are the answer.
    have us := Lib.run_unsafeString_row (P := Tryz.prog) w2 190 3 9 5 Tryz.underlying190 hcells w.heap.size (txt s).size (by unfold World.shape?; rw [heap2]) (B s) hne (by rw [b_size, txt_size]; exact Nat.le_refl _) (by rw [b_size]; omega)
      (fun j x hx => Lib.cells_of_row heap2 (txt s).size j _ (by rw [List.take_of_length_le (by rw [Array.length_toList]; exact Nat.le_refl _)]; simp [txt, Lib.byteCells, hx]))
    rw [b_size] at us
    have hfz := Lib.below_freeze hb2 (p := ⟨w.heap.size, 0, none⟩) (Nat.le_refl _) s.size
    go_enter Tryz.func88, Tryz.ntmps88
    go_wp2
    go_ret
    exact ⟨rfl, hfz⟩

theorem clone_any (s : ByteArray) (w : World) (hs : s.size ≤ 1000000) :
    Calls Tryz.prog 44 #[.string s] w fun e w' => e = .returned (.string s) ∧ Below w.heap.size w w' := by
  go_enter Tryz.func44, Tryz.ntmps44
  go_wp2_with fail
  refine (litClone_any s _ hs).mono ?_
  rintro e w1 ⟨rfl, hb1⟩
  go_wp2_with fail
  go_ret
  exact ⟨rfl, hb1⟩
end Go.Proofs.YtpehkikdmckldaaGreatDoor.L7

namespace Go.Proofs.YtpehkikdmckldaaGreatDoor.L7
open Go.RowKit
set_option linter.unusedVariables false
set_option linter.unusedSimpArgs false

/-- A box of zeros. -/
def Zx (t : TypeId) (g : Nat) (w : World) : Prop := w.heap[g]? = some (.cells #[.int .i64 0, .int .i64 0, .int .i64 0, .int .i64 0, .int .i64 0] t (0, 0))
theorem Zx.bx {t : TypeId} {g : Nat} {w : World} (k : Zx t g w) : Bx t g HP.H0 w := k
theorem Zx.lt {t : TypeId} {g : Nat} {w : World} (k : Zx t g w) : g < w.heap.size := (Array.getElem?_eq_some_iff.1 k).1
theorem Zx.below {t : TypeId} {g : Nat} {w w' : World} (k : Zx t g w) (b : Below w.heap.size w w') : Zx t g w' := (b.block g k.lt).trans k
theorem zx_after {V V' : World} {t : TypeId} (k : Below (V.alloc (.cells #[.int .i64 0, .int .i64 0, .int .i64 0, .int .i64 0, .int .i64 0] t)).heap.size (V.alloc (.cells #[.int .i64 0, .int .i64 0, .int .i64 0, .int .i64 0, .int .i64 0] t)) V') : Zx t V.heap.size V' := (k.block _ (by simp)).trans (heap_alloc_new V _)
theorem Zx.cells {t : TypeId} {g : Nat} {w : World} (k : Zx t g w) : w.cell? ⟨g, 0, none⟩ = some (.int .i64 0) ∧ w.cell? ⟨g, 1, none⟩ = some (.int .i64 0) ∧ w.cell? ⟨g, 2, none⟩ = some (.int .i64 0) ∧ w.cell? ⟨g, 3, none⟩ = some (.int .i64 0) ∧ w.cell? ⟨g, 4, none⟩ = some (.int .i64 0) := k.bx.cells
theorem Zx.frozen {t : TypeId} {g : Nat} {w : World} (k : Zx t g w) : w.frozen? ⟨g, 0, none⟩ = false ∧ w.frozen? ⟨g, 1, none⟩ = false ∧ w.frozen? ⟨g, 2, none⟩ = false ∧ w.frozen? ⟨g, 3, none⟩ = false ∧ w.frozen? ⟨g, 4, none⟩ = false := k.bx.frozen
/-- What is sealed of a page's head and body: the page, or not. -/
theorem sea_open (s : ByteArray) (hm : mayBe s.size = true) :
    (HP.sea (HP.headOf s.data.toList) (s.extract 16 s.size) s.size = (s, 0) ∧ HP.opn s = (HP.headOf s.data.toList, s.extract 16 s.size, 0)) ∨
    (HP.sea (HP.headOf s.data.toList) (s.extract 16 s.size) s.size = (⟨#[]⟩, 3) ∧ HP.opn s = (HP.H0, ⟨#[]⟩, 3)) ∨
    (∃ U : ByteArray, U ≠ s ∧ HP.sea (HP.headOf s.data.toList) (s.extract 16 s.size) s.size = (U, 0) ∧ HP.opn s = (HP.H0, ⟨#[]⟩, 3)) := by
  have hpb := HP.mayBe_bd hm
  have hl : 16 ≤ s.data.toList.length := by simp; omega
  have hT : (s.extract 16 s.size).data.toList = s.data.toList.drop 16 := by
    rw [Lib.extract_data]
    exact List.take_of_length_le (by simp)
  have hTs : (s.extract 16 s.size).size = s.size - 16 := by simp
  have hrest : HP.rest (s.data.toList.drop 16) s.size = s.data.toList.drop 16 := by
    unfold HP.rest
    rw [List.length_drop, show s.size - 16 - (s.data.toList.length - 16) = 0 by simp]
    simp
  cases hr : HP.right (HP.headOf s.data.toList) with
  | false =>
    refine .inr (.inl ⟨HP.seal_form _ hm hr, HP.opn_bad fun h => ?_⟩)
    have := HP.right_iff.2 h.2.1
    rw [hr] at this
    cases this
  | true =>
    have hsea := HP.seal_good (h := HP.headOf s.data.toList) (b := s.extract 16 s.size) hm hr (by rw [hTs]; omega)
    rw [hT, Int.toNat_natCast, hrest] at hsea
    by_cases hg : HP.good s.data.toList
    · refine .inl ⟨?_, HP.opn_good hm hg⟩
      rw [hsea, HP.page_of_good _ hl hg]
    · refine .inr (.inr ⟨_, fun e => hg ?_, hsea, HP.opn_bad fun h => hg h.2⟩)
      refine (HP.good_iff _ hl).2 ⟨HP.right_iff.1 hr, ?_⟩
      have := congrArg (fun x : ByteArray => x.data.toList) e
      simpa using this
/-- What Open answers. -/
def opnV (s : ByteArray) : Value := .tuple #[hv (HP.opn s).1, .string (HP.opn s).2.1, .int .i64 (HP.opn s).2.2]

set_option maxHeartbeats 4000000 in
set_option maxRecDepth 100000 in
theorem open_any (s : ByteArray) (w : World) (hs : Sizes w) (hln : s.size ≤ maxLen) :
    Calls Tryz.prog 74 #[.string s] w fun e w' => e = .returned (opnV s) ∧ Below w.heap.size w w' := by
  unfold maxLen at hln
  have HZ := fun W (hW : Sizes W) => size_any (s.size : Int) W hW
  obtain ⟨ro, hro⟩ : ∃ ro : Obj, ro = .cells #[.int .i64 0, .int .i64 0, .int .i64 0, .int .i64 0, .int .i64 0] 78 := ⟨_, rfl⟩
  have hs1 : Sizes (w.alloc (.cells #[.int .i64 0, .int .i64 0, .int .i64 0, .int .i64 0, .int .i64 0] 78)) := hs.alloc _
  have HB0 := Lib.hid (below_alloc w (.cells #[.int .i64 0, .int .i64 0, .int .i64 0, .int .i64 0, .int .i64 0] 78))
  clear hro
  have HZ2 := Lib.hid (HZ _ hs1)
  clear HZ
  cases hm : mayBe s.size with
  | false =>
    have hv0 : opnV s = .tuple #[.agg #[.int .i64 0, .int .i64 0, .int .i64 0, .int .i64 0, .int .i64 0], .string ⟨#[]⟩, .int .i64 3] := by
      unfold opnV
      rw [HP.opn_bad (s := s) (by rw [hm]; simp)]
      rfl
    rw [hv0]
    rw [hm] at HZ2
    clear hm hs hs1 hv0
    go_enter Tryz.func74, Tryz.ntmps74
    go_wp2_with fail
    refine HZ2.out.mono ?_
    rintro e w1 ⟨rfl, rfl⟩
    go_wp2_with fail
    refine bodyPost_ret (v := .tuple #[.agg #[.int .i64 0, .int .i64 0, .int .i64 0, .int .i64 0, .int .i64 0], .string ⟨#[]⟩, .int .i64 3]) (by simp [results, Tryz.results74, go_sem]) rfl ⟨rfl, HB0.out⟩
  | true =>
    have hpb := HP.mayBe_bd hm
    have HR := Lib.hid (fun W => headRead_any s W (by omega) (by omega))
    have hsl : (0 : Int) ≤ 16 ∧ (16 : Int) ≤ s.size := by omega
    obtain ⟨T, hT⟩ : ∃ T, s.extract 16 s.size = T := ⟨_, rfl⟩
    have sT : T.size = s.size - 16 := by rw [← hT]; simp
    have HC := Lib.hid (fun W => clone_any T W (by omega))
    obtain ⟨hd, hhd⟩ : ∃ hd, HP.headOf s.data.toList = hd := ⟨_, rfl⟩
    rw [hhd] at HR
    obtain ⟨hk, hl, hc, hr, hs5⟩ := hd
    unfold hv at HR
    rw [hm] at HZ2
    have HS1 := Lib.hid hs1
    have HM := Lib.hid hm
    have HT := Lib.hid hT
    have HHD := Lib.hid hhd
    have HRX := Lib.hid (show Zx 78 w.heap.size (w.alloc (.cells #[.int .i64 0, .int .i64 0, .int .i64 0, .int .i64 0, .int .i64 0] 78)) from heap_alloc_new _ _)
    have HLT := Lib.hid (show w.heap.size < (w.alloc (.cells #[.int .i64 0, .int .i64 0, .int .i64 0, .int .i64 0, .int .i64 0] 78)).heap.size by simp)
    have HSE := Lib.hid (fun W (hW : Sizes W) => seal_any ⟨hk, hl, hc, hr, hs5⟩ T s.size W hW (by simp [Lit.wf, IntKind.min, IntKind.max, IntKind.signed, IntKind.bits]; omega) (by unfold maxLen; omega))
    have HCASE := Lib.hid (sea_open s hm)
    rw [hhd, hT] at HCASE
    clear hm hs hs1 hhd
    unfold hv at HSE
    generalize hw0 : w.alloc (.cells #[.int .i64 0, .int .i64 0, .int .i64 0, .int .i64 0, .int .i64 0] 78) = W0 at *
    have HW0 := Lib.hid hw0
    go_enter Tryz.func74, Tryz.ntmps74
    go_wp2_with fail
    clear hw0
    refine HZ2.out.mono ?_
    rintro e w1 ⟨rfl, rfl⟩
    go_wp2_with fail
    go_region_with (first
      | (go_at_call 108; refine (HR.out _).mono ?_; rintro e V2 ⟨rfl, hb2⟩; (try have k2 := Lib.hid (show Zx 78 W0.heap.size V2 from zx_after (below_of_drew hb2))); have HB2 := Lib.hid (below_of_drew hb2); clear hb2)
      | (go_at_call 44; refine (HC.out _).mono ?_; rintro e V3 ⟨rfl, hb3⟩; (try have k3 := Lib.hid (show Zx 78 V2.heap.size V3 from zx_after hb3)); (try have k3 := Lib.hid (k2.out.below hb3)); have HB3 := Lib.hid hb3; clear hb3; (try obtain ⟨y0, y1, y2, y3, y4⟩ := k3.out.cells); (try obtain ⟨z0, z1, z2, z3, z4⟩ := k3.out.frozen)))
    -- each order
    · have hA : Bx 78 (V3.heap.size) ⟨hk, hl, hc, hr, hs5⟩ (V3.alloc (.cells #[.int .i64 hk, .int .i64 hl, .int .i64 hc, .int .i64 hr, .int .i64 hs5] 78)) ∧ Below W0.heap.size W0 (V3.alloc (.cells #[.int .i64 hk, .int .i64 hl, .int .i64 hc, .int .i64 hr, .int .i64 hs5] 78)) ∧ W0.heap.size ≤ V3.heap.size := ⟨heap_alloc_new _ _, (HB2.out.trans' HB3.out).trans' (below_alloc _ _), Nat.le_trans HB2.out.size HB3.out.size⟩
      generalize V3.alloc (.cells #[.int .i64 hk, .int .i64 hl, .int .i64 hc, .int .i64 hr, .int .i64 hs5] 78) = W4 at *
      generalize V3.heap.size = g at *
      obtain ⟨hbx, hb4, hg4⟩ := hA
      have HB4 := Lib.hid (HB0.out.trans' hb4)
      have HZX := Lib.hid (HRX.out.below hb4)
      have HS4 := Lib.hid (HS1.out.kept hb4)
      clear HB0 HRX HS1 hg4
      obtain ⟨x0, x1, x2, x3, x4⟩ := hbx.cells
      have HBX := Lib.hid hbx
      simp only at x0 x1 x2 x3 x4
      clear hbx hb4
      go_wp2_with fail
      refine (HSE.out _ HS4.out).mono ?_
      rintro e W5 ⟨rfl, hb5⟩
      have HB5 := Lib.hid (HB4.out.trans' hb5)
      have HZ5 := Lib.hid (HZX.out.below hb5)
      obtain ⟨v0, v1, v2, v3, v4⟩ := HZ5.out.cells
      obtain ⟨f0, f1, f2, f3, f4⟩ := HZ5.out.frozen
      obtain ⟨c0, c1, c2, c3, c4⟩ := (HBX.out.below hb5).cells
      simp only at c0 c1 c2 c3 c4
      clear hb5 x0 x1 x2 x3 x4
      rcases HCASE.out with ⟨hse, hop⟩ | ⟨hse, hop⟩ | ⟨U, hU, hse, hop⟩
      · rw [hse]
        have HO := Lib.hid hop
        clear hse hop
        simp only
        go_wp2_with fail
        obtain ⟨r0, r1, r2, r3, r4⟩ := (set5_box HZ5.out.bx ⟨hk, hl, hc, hr, hs5⟩).cells
        unfold set5 at r0 r1 r2 r3 r4
        simp only [HP.H0] at r0 r1 r2 r3 r4
        refine bodyPost_ret (v := .tuple #[.agg #[.int .i64 hk, .int .i64 hl, .int .i64 hc, .int .i64 hr, .int .i64 hs5], .string T, .int .i64 0]) (by simp [results, Tryz.results74, go_sem, r0, r1, r2, r3, r4]) rfl ⟨?_, ?_⟩
        · unfold opnV
          rw [HO.out]
          rfl
        · exact set5_below HB5.out (Nat.le_refl _) ⟨hk, hl, hc, hr, hs5⟩
      · rw [hse]
        have HO := Lib.hid hop
        clear hse hop
        simp only
        go_wp2_with fail
        obtain ⟨r0, r1, r2, r3, r4⟩ := (set5_box HZ5.out.bx HP.H0).cells
        unfold set5 at r0 r1 r2 r3 r4
        simp only [HP.H0] at r0 r1 r2 r3 r4
        refine bodyPost_ret (v := .tuple #[.agg #[.int .i64 0, .int .i64 0, .int .i64 0, .int .i64 0, .int .i64 0], .string ⟨#[]⟩, .int .i64 3]) (by simp [results, Tryz.results74, go_sem, r0, r1, r2, r3, r4]) rfl ⟨?_, ?_⟩
        · unfold opnV
          rw [HO.out]
          rfl
        · exact set5_below HB5.out (Nat.le_refl _) HP.H0
      · rw [hse]
        have HO := Lib.hid hop
        have hne : (U.toList == s.toList) = false := by
          rw [Lib.toList_data, Lib.toList_data]
          exact beq_eq_false_iff_ne.2 fun e => hU (ByteArray.ext (Array.toList_inj.1 e))
        clear hse hop
        simp only
        go_wp2_with fail
        obtain ⟨r0, r1, r2, r3, r4⟩ := (set5_box HZ5.out.bx HP.H0).cells
        unfold set5 at r0 r1 r2 r3 r4
        simp only [HP.H0] at r0 r1 r2 r3 r4
        refine bodyPost_ret (v := .tuple #[.agg #[.int .i64 0, .int .i64 0, .int .i64 0, .int .i64 0, .int .i64 0], .string ⟨#[]⟩, .int .i64 3]) (by simp [results, Tryz.results74, go_sem, r0, r1, r2, r3, r4]) rfl ⟨?_, ?_⟩
        · unfold opnV
          rw [HO.out]
          rfl
        · exact set5_below HB5.out (Nat.le_refl _) HP.H0
    · have hA : Bx 78 (V2.heap.size) ⟨hk, hl, hc, hr, hs5⟩ (((((V3.setCell ⟨V2.heap.size, 0, none⟩ (.int .i64 hk)).setCell ⟨V2.heap.size, 1, none⟩ (.int .i64 hl)).setCell ⟨V2.heap.size, 2, none⟩ (.int .i64 hc)).setCell ⟨V2.heap.size, 3, none⟩ (.int .i64 hr)).setCell ⟨V2.heap.size, 4, none⟩ (.int .i64 hs5)) ∧ Below W0.heap.size W0 (((((V3.setCell ⟨V2.heap.size, 0, none⟩ (.int .i64 hk)).setCell ⟨V2.heap.size, 1, none⟩ (.int .i64 hl)).setCell ⟨V2.heap.size, 2, none⟩ (.int .i64 hc)).setCell ⟨V2.heap.size, 3, none⟩ (.int .i64 hr)).setCell ⟨V2.heap.size, 4, none⟩ (.int .i64 hs5)) ∧ W0.heap.size ≤ V2.heap.size := ⟨set5_box k3.out.bx ⟨hk, hl, hc, hr, hs5⟩, set5_below ((HB2.out.trans' (below_alloc _ _)).trans' HB3.out) HB2.out.size ⟨hk, hl, hc, hr, hs5⟩, HB2.out.size⟩
      generalize ((((V3.setCell ⟨V2.heap.size, 0, none⟩ (.int .i64 hk)).setCell ⟨V2.heap.size, 1, none⟩ (.int .i64 hl)).setCell ⟨V2.heap.size, 2, none⟩ (.int .i64 hc)).setCell ⟨V2.heap.size, 3, none⟩ (.int .i64 hr)).setCell ⟨V2.heap.size, 4, none⟩ (.int .i64 hs5) = W4 at *
      generalize V2.heap.size = g at *
      obtain ⟨hbx, hb4, hg4⟩ := hA
      have HB4 := Lib.hid (HB0.out.trans' hb4)
      have HZX := Lib.hid (HRX.out.below hb4)
      have HS4 := Lib.hid (HS1.out.kept hb4)
      clear HB0 HRX HS1 hg4
      obtain ⟨x0, x1, x2, x3, x4⟩ := hbx.cells
      have HBX := Lib.hid hbx
      simp only at x0 x1 x2 x3 x4
      clear hbx hb4
      go_wp2_with fail
      refine (HSE.out _ HS4.out).mono ?_
      rintro e W5 ⟨rfl, hb5⟩
      have HB5 := Lib.hid (HB4.out.trans' hb5)
      have HZ5 := Lib.hid (HZX.out.below hb5)
      obtain ⟨v0, v1, v2, v3, v4⟩ := HZ5.out.cells
      obtain ⟨f0, f1, f2, f3, f4⟩ := HZ5.out.frozen
      obtain ⟨c0, c1, c2, c3, c4⟩ := (HBX.out.below hb5).cells
      simp only at c0 c1 c2 c3 c4
      clear hb5 x0 x1 x2 x3 x4
      rcases HCASE.out with ⟨hse, hop⟩ | ⟨hse, hop⟩ | ⟨U, hU, hse, hop⟩
      · rw [hse]
        have HO := Lib.hid hop
        clear hse hop
        simp only
        go_wp2_with fail
        obtain ⟨r0, r1, r2, r3, r4⟩ := (set5_box HZ5.out.bx ⟨hk, hl, hc, hr, hs5⟩).cells
        unfold set5 at r0 r1 r2 r3 r4
        simp only [HP.H0] at r0 r1 r2 r3 r4
        refine bodyPost_ret (v := .tuple #[.agg #[.int .i64 hk, .int .i64 hl, .int .i64 hc, .int .i64 hr, .int .i64 hs5], .string T, .int .i64 0]) (by simp [results, Tryz.results74, go_sem, r0, r1, r2, r3, r4]) rfl ⟨?_, ?_⟩
        · unfold opnV
          rw [HO.out]
          rfl
        · exact set5_below HB5.out (Nat.le_refl _) ⟨hk, hl, hc, hr, hs5⟩
      · rw [hse]
        have HO := Lib.hid hop
        clear hse hop
        simp only
        go_wp2_with fail
        obtain ⟨r0, r1, r2, r3, r4⟩ := (set5_box HZ5.out.bx HP.H0).cells
        unfold set5 at r0 r1 r2 r3 r4
        simp only [HP.H0] at r0 r1 r2 r3 r4
        refine bodyPost_ret (v := .tuple #[.agg #[.int .i64 0, .int .i64 0, .int .i64 0, .int .i64 0, .int .i64 0], .string ⟨#[]⟩, .int .i64 3]) (by simp [results, Tryz.results74, go_sem, r0, r1, r2, r3, r4]) rfl ⟨?_, ?_⟩
        · unfold opnV
          rw [HO.out]
          rfl
        · exact set5_below HB5.out (Nat.le_refl _) HP.H0
      · rw [hse]
        have HO := Lib.hid hop
        have hne : (U.toList == s.toList) = false := by
          rw [Lib.toList_data, Lib.toList_data]
          exact beq_eq_false_iff_ne.2 fun e => hU (ByteArray.ext (Array.toList_inj.1 e))
        clear hse hop
        simp only
        go_wp2_with fail
        obtain ⟨r0, r1, r2, r3, r4⟩ := (set5_box HZ5.out.bx HP.H0).cells
        unfold set5 at r0 r1 r2 r3 r4
        simp only [HP.H0] at r0 r1 r2 r3 r4
        refine bodyPost_ret (v := .tuple #[.agg #[.int .i64 0, .int .i64 0, .int .i64 0, .int .i64 0, .int .i64 0], .string ⟨#[]⟩, .int .i64 3]) (by simp [results, Tryz.results74, go_sem, r0, r1, r2, r3, r4]) rfl ⟨?_, ?_⟩
        · unfold opnV
          rw [HO.out]
          rfl
        · exact set5_below HB5.out (Nat.le_refl _) HP.H0
    · have hA : Bx 78 (W0.heap.size) ⟨hk, hl, hc, hr, hs5⟩ (((((V3.setCell ⟨W0.heap.size, 0, none⟩ (.int .i64 hk)).setCell ⟨W0.heap.size, 1, none⟩ (.int .i64 hl)).setCell ⟨W0.heap.size, 2, none⟩ (.int .i64 hc)).setCell ⟨W0.heap.size, 3, none⟩ (.int .i64 hr)).setCell ⟨W0.heap.size, 4, none⟩ (.int .i64 hs5)) ∧ Below W0.heap.size W0 (((((V3.setCell ⟨W0.heap.size, 0, none⟩ (.int .i64 hk)).setCell ⟨W0.heap.size, 1, none⟩ (.int .i64 hl)).setCell ⟨W0.heap.size, 2, none⟩ (.int .i64 hc)).setCell ⟨W0.heap.size, 3, none⟩ (.int .i64 hr)).setCell ⟨W0.heap.size, 4, none⟩ (.int .i64 hs5)) ∧ W0.heap.size ≤ W0.heap.size := ⟨set5_box k3.out.bx ⟨hk, hl, hc, hr, hs5⟩, set5_below (((below_alloc _ _).trans' HB2.out).trans' HB3.out) (Nat.le_refl _) ⟨hk, hl, hc, hr, hs5⟩, Nat.le_refl _⟩
      generalize ((((V3.setCell ⟨W0.heap.size, 0, none⟩ (.int .i64 hk)).setCell ⟨W0.heap.size, 1, none⟩ (.int .i64 hl)).setCell ⟨W0.heap.size, 2, none⟩ (.int .i64 hc)).setCell ⟨W0.heap.size, 3, none⟩ (.int .i64 hr)).setCell ⟨W0.heap.size, 4, none⟩ (.int .i64 hs5) = W4 at *
      obtain ⟨hbx, hb4, hg4⟩ := hA
      have HB4 := Lib.hid (HB0.out.trans' hb4)
      have HZX := Lib.hid (HRX.out.below hb4)
      have HS4 := Lib.hid (HS1.out.kept hb4)
      clear HB0 HRX HS1 hg4
      obtain ⟨x0, x1, x2, x3, x4⟩ := hbx.cells
      have HBX := Lib.hid hbx
      simp only at x0 x1 x2 x3 x4
      clear hbx hb4
      go_wp2_with fail
      refine (HSE.out _ HS4.out).mono ?_
      rintro e W5 ⟨rfl, hb5⟩
      have HB5 := Lib.hid (HB4.out.trans' hb5)
      have HZ5 := Lib.hid (HZX.out.below hb5)
      obtain ⟨v0, v1, v2, v3, v4⟩ := HZ5.out.cells
      obtain ⟨f0, f1, f2, f3, f4⟩ := HZ5.out.frozen
      obtain ⟨c0, c1, c2, c3, c4⟩ := (HBX.out.below hb5).cells
      simp only at c0 c1 c2 c3 c4
      clear hb5 x0 x1 x2 x3 x4
      rcases HCASE.out with ⟨hse, hop⟩ | ⟨hse, hop⟩ | ⟨U, hU, hse, hop⟩
      · rw [hse]
        have HO := Lib.hid hop
        clear hse hop
        simp only
        go_wp2_with fail
        obtain ⟨r0, r1, r2, r3, r4⟩ := (set5_box HZ5.out.bx ⟨hk, hl, hc, hr, hs5⟩).cells
        unfold set5 at r0 r1 r2 r3 r4
        simp only [HP.H0] at r0 r1 r2 r3 r4
        refine bodyPost_ret (v := .tuple #[.agg #[.int .i64 hk, .int .i64 hl, .int .i64 hc, .int .i64 hr, .int .i64 hs5], .string T, .int .i64 0]) (by simp [results, Tryz.results74, go_sem, r0, r1, r2, r3, r4]) rfl ⟨?_, ?_⟩
        · unfold opnV
          rw [HO.out]
          rfl
        · exact set5_below HB5.out (Nat.le_refl _) ⟨hk, hl, hc, hr, hs5⟩
      · rw [hse]
        have HO := Lib.hid hop
        clear hse hop
        simp only
        go_wp2_with fail
        obtain ⟨r0, r1, r2, r3, r4⟩ := (set5_box HZ5.out.bx HP.H0).cells
        unfold set5 at r0 r1 r2 r3 r4
        simp only [HP.H0] at r0 r1 r2 r3 r4
        refine bodyPost_ret (v := .tuple #[.agg #[.int .i64 0, .int .i64 0, .int .i64 0, .int .i64 0, .int .i64 0], .string ⟨#[]⟩, .int .i64 3]) (by simp [results, Tryz.results74, go_sem, r0, r1, r2, r3, r4]) rfl ⟨?_, ?_⟩
        · unfold opnV
          rw [HO.out]
          rfl
        · exact set5_below HB5.out (Nat.le_refl _) HP.H0
      · rw [hse]
        have HO := Lib.hid hop
        have hne : (U.toList == s.toList) = false := by
          rw [Lib.toList_data, Lib.toList_data]
          exact beq_eq_false_iff_ne.2 fun e => hU (ByteArray.ext (Array.toList_inj.1 e))
        clear hse hop
        simp only
        go_wp2_with fail
        obtain ⟨r0, r1, r2, r3, r4⟩ := (set5_box HZ5.out.bx HP.H0).cells
        unfold set5 at r0 r1 r2 r3 r4
        simp only [HP.H0] at r0 r1 r2 r3 r4
        refine bodyPost_ret (v := .tuple #[.agg #[.int .i64 0, .int .i64 0, .int .i64 0, .int .i64 0, .int .i64 0], .string ⟨#[]⟩, .int .i64 3]) (by simp [results, Tryz.results74, go_sem, r0, r1, r2, r3, r4]) rfl ⟨?_, ?_⟩
        · unfold opnV
          rw [HO.out]
          rfl
        · exact set5_below HB5.out (Nat.le_refl _) HP.H0
end Go.Proofs.YtpehkikdmckldaaGreatDoor.L7

namespace Go.Proofs.YtpehkikdmckldaaGreatDoor.L7
open Go.RowKit
set_option linter.unusedVariables false
set_option linter.unusedSimpArgs false

/-- A call tells a value in every world that has the sizes. -/
def Tells (f : FuncId) (args : Array Value) (v : Value) : Prop := ∀ W, Sizes W → Calls Tryz.prog f args W fun e w' => e = .returned v ∧ Below W.heap.size W w'
theorem Tells.at {f : FuncId} {args : Array Value} {v : Value} {W0 W : World} (t : Hid (Tells f args v)) (s : Hid (Sizes W0)) (b : Below W0.heap.size W0 W) : Calls Tryz.prog f args W fun e w' => e = .returned v ∧ Below W0.heap.size W0 w' :=
  (t.out W (s.out.kept b)).mono fun e w' ⟨h1, h2⟩ => ⟨h1, b.trans' h2⟩
theorem Tells.held {c : Prop} {f : FuncId} {args : Array Value} {v : Value} {W0 W : World} (t : Hid (Tells f args v)) (s : Hid (Sizes W0)) (b : Hid (Below W0.heap.size W0 W) ∧ c) : Calls Tryz.prog f args W fun e w' => e = .returned v ∧ Below W0.heap.size W0 w' := Tells.at t s b.1.out
def seaV (h : HP.H) (b : ByteArray) (p : Int) : Value := .tuple #[.string (HP.sea h b p).1, .int .i64 (HP.sea h b p).2]
theorem tSeal (h : HP.H) (b : ByteArray) (p : Int) (hp : (Lit.int .i64 p).wf = true) (hb : b.size ≤ maxLen) : Hid (Tells 35 #[hv h, .string b, .int .i64 p] (seaV h b p)) := Lib.hid fun W hW => seal_any h b p W hW hp hb
theorem tOpen (s : ByteArray) (hs : s.size ≤ maxLen) : Hid (Tells 74 #[.string s] (opnV s)) := Lib.hid fun W hW => open_any s W hW hs
theorem Tells.as {f : FuncId} {args : Array Value} {v v' : Value} (t : Hid (Tells f args v)) (h : v = v') : Hid (Tells f args v') := h ▸ t

theorem toBytes (l : List UInt8) : (⟨l.toArray⟩ : ByteArray).data.toList = l := rfl
theorem sizeOf (l : List UInt8) : (⟨l.toArray⟩ : ByteArray).size = l.length := by simp [ByteArray.size]
theorem opened {L R : List UInt8} {h : HP.H} (hm : mayBe L.length = true) (hg : HP.good L) (hh : HP.headOf L = h) (hd : L.drop 16 = R) : HP.opn ⟨L.toArray⟩ = (h, ⟨R.toArray⟩, 0) := by
  have hs := sizeOf L
  have e : (⟨L.toArray⟩ : ByteArray).extract 16 L.length = ⟨R.toArray⟩ := by
    apply ByteArray.ext
    apply Array.toList_inj.1
    rw [Lib.extract_data, toBytes, hd, List.take_of_length_le (by rw [← hd, List.length_drop]; exact Nat.le_refl _)]
  have hx := HP.opn_good (s := ⟨L.toArray⟩) (by rw [hs]; exact hm) hg
  rw [hx, hs, e, toBytes, hh]
theorem page_size (h : HP.H) (b : ByteArray) (p : Nat) (hb : b.size + 16 ≤ p) : (HP.page (HP.front h) (HP.rest b.data.toList p)).length = p := by
  have hbl : b.data.toList.length = b.size := by simp
  rw [HP.page_length, HP.front_length, HP.rest_length _ _ (by omega)]
  omega
/-- A page is opened as it was sealed. -/
theorem page_opened {h : HP.H} {b : ByteArray} {p : Nat} (hm : mayBe p = true) (hr : HP.Ok h) (hb : b.size + 16 ≤ p) :
    HP.opn ⟨(HP.page (HP.front h) (HP.rest b.data.toList p)).toArray⟩ = (h, ⟨(HP.rest b.data.toList p).toArray⟩, 0) :=
  opened (by rw [page_size h b p hb]; exact hm) (HP.good_page h _ hr) (HP.headOf_page h _ hr) (HP.page_drop _ _ (HP.front_length h))

end Go.Proofs.YtpehkikdmckldaaGreatDoor.L7

namespace Go.Proofs.YtpehkikdmckldaaGreatDoor
open Go.RowKit NP
set_option linter.unusedVariables false
set_option linter.unusedSimpArgs false

def encV (l : Lf) (p : Int) : Value := .tuple #[.string (enc l p).1, .int .i64 (enc l p).2]
theorem packV_ok {F R : Int} {H : ByteArray} {l : List It} {p : Nat} (hp : p ≤ 1024) (h16 : 16 ≤ p) (hs : size ⟨F, R, H, l⟩ ≤ p - 16) : L8.packV ((p : Int) - 16) (fixedS H l) (cellsS l) = .tuple #[.string ⟨(body ⟨F, R, H, l⟩ p).toArray⟩, .int .i64 0] := by
  unfold L8.packV
  rw [if_neg (by omega), if_neg (by rw [size_eq F R]; omega)]
  unfold L8.packS body
  rw [cellsS_list, ← fixedS_list F R H l]
  simp only [Int.ofNat_eq_natCast, show ((p : Int) - 16).toNat = p - 16 by omega]
theorem packV_big {F R : Int} {H : ByteArray} {l : List It} {p : Nat} (hp : p ≤ 1024) (h16 : 16 ≤ p) (hs : ¬ size ⟨F, R, H, l⟩ ≤ p - 16) : L8.packV ((p : Int) - 16) (fixedS H l) (cellsS l) = .tuple #[.string ⟨#[]⟩, .int .i64 8] := by
  unfold L8.packV
  rw [if_neg (by omega), if_pos (by rw [size_eq F R]; omega)]
theorem seal_ok {l : Lf} {p : Nat} (h : May l p) (hs : (size l : Int) ≤ (p : Int) - 16) : L7.seaV (hd l) ⟨(body l p).toArray⟩ p = .tuple #[.string ⟨(page l p).toArray⟩, .int .i64 0] := by
  obtain ⟨hok, hn⟩ := h.fits hs
  have hp := mayBe_le h.1
  have hbl : (body l p).length = p - 16 := body_length (by omega)
  have hsz : (⟨(body l p).toArray⟩ : ByteArray).size = p - 16 := by
    show (body l p).toArray.size = _
    rw [List.size_toArray, hbl]
  have hg := L7.HP.seal_good (h := hd l) (b := ⟨(body l p).toArray⟩) (p := p) h.1 (L7.HP.right_iff.2 hok) (by rw [hsz]; omega)
  have e1 : (⟨(body l p).toArray⟩ : ByteArray).data.toList = body l p := rfl
  have e2 : L7.HP.rest (body l p) p = body l p := by
    unfold L7.HP.rest
    rw [hbl, Nat.sub_self]
    simp
  unfold L7.seaV
  rw [hg, e1, Int.toNat_natCast, e2]
  rfl
theorem enc_size {l : Lf} {p : Int} (h : May l p) (hs : (size l : Int) ≤ p - 16) : (⟨(page l p.toNat).toArray⟩ : ByteArray).size = p.toNat := by
  have hp := mayBe_le h.1
  show (page l p.toNat).toArray.size = _
  rw [List.size_toArray, page_length (by omega) (by omega)]

set_option maxHeartbeats 2000000 in
set_option maxRecDepth 100000 in
theorem enc_any (F R : Int) (H : ByteArray) (A : Option Addr) (l : List It) (ca : Nat) (p : Int) (w : World) (hs : L7.Sizes w) (ha : Lies5 w w.heap.size A l) (hl : l.length ≤ 1000) (hh : H.size ≤ maxLen) :
    Calls Tryz.prog 10 #[lv F R H A l.length ca, .int .i64 p] w fun e w' => e = .returned (encV ⟨F, R, H, l⟩ p) ∧ Below w.heap.size w w' := by
  have hb0 := lbox_below 24 F R H A l.length ca w
  have HB0 := Lib.hid hb0
  have HS0 := Lib.hid (hs.below hs.lt hb0)
  have HA := Lib.hid (ha.on hb0)
  have HK := Lib.hid (lbox_new 24 F R H A l.length ca w)
  have HSZ := Lib.hid (fun W (h : L7.Sizes W) => L7.size_any p W h)
  have HM := Lib.hid (fun W (h : L7.Sizes W) (h2 : Lies5 W W.heap.size A l) => may_any F R H A l ca p W h h2 (by omega) hh)
  obtain ⟨r, HR⟩ : ∃ r, Hid (r = encV ⟨F, R, H, l⟩ p) := ⟨_, Lib.hid rfl⟩
  rw [← HR.out]
  have hcases := enc_cases ⟨F, R, H, l⟩ p
  obtain ⟨n, hn⟩ : ∃ n, n = l.length := ⟨_, rfl⟩
  have HN := Lib.hid hn
  rw [← hn] at HM HK HB0 HS0 HA
  rw [← hn]
  rcases hcases with ⟨hm, he⟩ | ⟨hm, hmay, he⟩ | ⟨hmay, hbig, he⟩ | ⟨hmay, hfit, he⟩
  · have HX : Hid (r = .tuple #[.string ⟨#[]⟩, .int .i64 4]) := Lib.hid (by rw [HR.out, encV, he])
    rw [hm] at HSZ
    clear hm he hn ha hs hl hh hb0 HM
    go_enter Tryz.func10, Tryz.ntmps10
    go_wp2_with fail
    refine (HSZ.out _ HS0.out).mono ?_
    rintro e w2 ⟨rfl, rfl⟩
    go_wp2_with fail
    go_ret2
    exact ⟨by rw [HX.out] <;> rfl, HB0.out⟩
  · have HX : Hid (r = .tuple #[.string ⟨#[]⟩, .int .i64 3]) := Lib.hid (by rw [HR.out, encV, he])
    rw [hm] at HSZ
    rw [decide_eq_false hmay] at HM
    clear hm hmay he hn ha hs hl hh hb0
    go_enter Tryz.func10, Tryz.ntmps10
    go_wp2_with fail
    refine (HSZ.out _ HS0.out).mono ?_
    rintro e w2 ⟨rfl, rfl⟩
    go_wp2_with fail
    refine (HM.out _ HS0.out HA.out).mono ?_
    rintro e w2 ⟨rfl, hb2⟩
    go_wp2_with fail
    go_ret2
    exact ⟨by rw [HX.out] <;> rfl, HB0.out.trans' hb2⟩
  · have hp := mayBe_le hmay.1
    obtain ⟨q, rfl⟩ : ∃ q : Nat, p = q := Int.eq_ofNat_of_zero_le (by omega)
    have HX : Hid (r = .tuple #[.string ⟨#[]⟩, .int .i64 8]) := Lib.hid (by rw [HR.out, encV, he])
    rw [hmay.1] at HSZ
    rw [decide_eq_true hmay] at HM
    have hf := May.fit hmay (by omega)
    have HP := Lib.hid (fun W (h : Lies5 W W.heap.size A l) => parts_any F R H A l ca W h hf)
    have HK8 := Lib.hid (fun G W (h : L5.Lies W W.heap.size G (cellsS l)) => L8.pack_any ((q : Int) - 16) (fixedS H l) G (cellsS l) l.length W h (by rw [cellsS_length]; omega) (by have := fixedS_size hf; omega) (fun s hs => by have := cellsS_size hf s hs; omega))
    rw [packV_big (F := F) (R := R) (by omega) (by omega) (by omega), cellsS_length] at HK8
    rw [← hn] at HP HK8
    have hw : IntKind.i64.wrap ((q : Int) - 16) = (q : Int) - 16 := IntWalk.i64_in _ (by omega)
    clear hmay he hn ha hs hl hh hb0 hbig hf hp
    go_enter Tryz.func10, Tryz.ntmps10
    go_wp2_with fail
    refine (HSZ.out _ HS0.out).mono ?_
    rintro e w2 ⟨rfl, rfl⟩
    go_wp2_with fail
    refine (HM.out _ HS0.out HA.out).mono ?_
    rintro e w2 ⟨rfl, hb2⟩
    obtain ⟨c0, c1, c2, c3⟩ := (HK.out.below hb2).cells
    go_wp2_with fail
    refine (HP.out _ (HA.out.on hb2)).mono ?_
    rintro e w3 ⟨G, rfl, HL, hb3⟩
    go_wp2_with fail
    refine (HK8.out G _ HL).mono ?_
    rintro e w4 ⟨rfl, hb4⟩
    go_wp2_with fail
    go_ret2
    exact ⟨by rw [HX.out] <;> rfl, ((HB0.out.trans' hb2).trans' hb3).trans' hb4⟩
  · have hp := mayBe_le hmay.1
    obtain ⟨q, rfl⟩ : ∃ q : Nat, p = q := Int.eq_ofNat_of_zero_le (by omega)
    have HX : Hid (r = .tuple #[.string ⟨(page ⟨F, R, H, l⟩ q).toArray⟩, .int .i64 0]) := Lib.hid (by rw [HR.out, encV, he, Int.toNat_natCast])
    rw [hmay.1] at HSZ
    rw [decide_eq_true hmay] at HM
    have hf := May.fit hmay (by omega)
    have HP := Lib.hid (fun W (h : Lies5 W W.heap.size A l) => parts_any F R H A l ca W h hf)
    have HK8 := Lib.hid (fun G W (h : L5.Lies W W.heap.size G (cellsS l)) => L8.pack_any ((q : Int) - 16) (fixedS H l) G (cellsS l) l.length W h (by rw [cellsS_length]; omega) (by have := fixedS_size hf; omega) (fun s hs => by have := cellsS_size hf s hs; omega))
    rw [packV_ok (F := F) (R := R) (by omega) (by omega) (by omega), cellsS_length] at HK8
    have hbl : (body ⟨F, R, H, l⟩ q).length = q - 16 := body_length (by omega)
    have HSE := Lib.hid (fun W (h : L7.Sizes W) => L7.seal_any (hd ⟨F, R, H, l⟩) ⟨(body ⟨F, R, H, l⟩ q).toArray⟩ q W h (by simp [Lit.wf, IntKind.min, IntKind.max, IntKind.signed, IntKind.bits]; omega) (by show (body ⟨F, R, H, l⟩ q).toArray.size ≤ maxLen; rw [List.size_toArray, hbl]; unfold maxLen; omega))
    have hsv := seal_ok hmay (by omega)
    unfold L7.seaV at hsv
    rw [hsv] at HSE
    rw [show L7.hv (hd ⟨F, R, H, l⟩) = .agg #[.int .i64 2, .int .i64 0, .int .i64 n, .int .i64 R, .int .i64 F] by rw [hn]; rfl] at HSE
    rw [← hn] at HP HK8
    have hw : IntKind.i64.wrap ((q : Int) - 16) = (q : Int) - 16 := IntWalk.i64_in _ (by omega)
    generalize (⟨(page ⟨F, R, H, l⟩ q).toArray⟩ : ByteArray) = PG at *
    generalize (⟨(body ⟨F, R, H, l⟩ q).toArray⟩ : ByteArray) = BD at *
    clear hmay he hn ha hs hl hh hb0 hfit hf hp hbl hsv
    go_enter Tryz.func10, Tryz.ntmps10
    go_wp2_with fail
    refine (HSZ.out _ HS0.out).mono ?_
    rintro e w2 ⟨rfl, rfl⟩
    go_wp2_with fail
    refine (HM.out _ HS0.out HA.out).mono ?_
    rintro e w2 ⟨rfl, hb2⟩
    obtain ⟨c0, c1, c2, c3⟩ := (HK.out.below hb2).cells
    go_wp2_with fail
    refine (HP.out _ (HA.out.on hb2)).mono ?_
    rintro e w3 ⟨G, rfl, HL, hb3⟩
    go_wp2_with fail
    refine (HK8.out G _ HL).mono ?_
    rintro e w4 ⟨rfl, hb4⟩
    have hb14 := (hb2.trans' hb3).trans' hb4
    have HS4 := Lib.hid (HS0.out.below HS0.out.lt hb14)
    clear c0 c1 c2 c3
    obtain ⟨c0, c1, c2, c3⟩ := (HK.out.below hb14).cells
    go_wp2_with fail
    refine (HSE.out _ HS4.out).mono ?_
    rintro e w5 ⟨rfl, hb5⟩
    go_wp2_with fail
    go_ret2
    exact ⟨by rw [HX.out] <;> rfl, (HB0.out.trans' hb14).trans' hb5⟩
end Go.Proofs.YtpehkikdmckldaaGreatDoor

namespace Go.Proofs.YtpehkikdmckldaaGreatDoor
open Go.RowKit NP
set_option linter.unusedVariables false
set_option linter.unusedSimpArgs false

/-- What a number tells of the text behind it. -/
theorem gt_case (s : ByteArray) (i : Nat) : ∃ m tq er, L9.WP.get s.data.toList i = (m, tq, er) ∧
    (((er = 7 ∨ er = 3) ∧ m = 0 ∧ tq = 0 ∧ L9.VP.gtext s.data.toList i = none) ∨ (er = 0 ∧ tq ≤ s.size ∧ s.size - tq < m ∧ m ≤ 18446744073709551615 ∧ L9.VP.gtext s.data.toList i = none) ∨
      (er = 0 ∧ tq + m ≤ s.size ∧ L9.VP.gtext s.data.toList i = some ((s.extract tq (tq + m)).data.toList, tq + m))) := by
  have hl : s.data.toList.length = s.size := by simp
  rcases L9.WP.get_spec s.data.toList i with e | e | ⟨n, tq, e, h1, h2, h3, h4⟩
  · refine ⟨0, 0, 7, e, .inl ⟨.inl rfl, rfl, rfl, ?_⟩⟩
    unfold L9.VP.gtext
    rw [e]
    rfl
  · refine ⟨0, 0, 3, e, .inl ⟨.inr rfl, rfl, rfl, ?_⟩⟩
    unfold L9.VP.gtext
    rw [e]
    rfl
  · rw [hl] at h2
    by_cases hm : n ≤ s.size - tq
    · refine ⟨n, tq, 0, e, .inr (.inr ⟨rfl, by omega, ?_⟩)⟩
      unfold L9.VP.gtext
      simp only [e, hl]
      rw [if_pos ⟨trivial, hm⟩, Lib.extract_data, Nat.add_sub_cancel_left]
    · refine ⟨n, tq, 0, e, .inr (.inl ⟨rfl, h2, by omega, h4, ?_⟩)⟩
      unfold L9.VP.gtext
      simp only [e, hl]
      rw [if_neg (fun h => hm h.2)]

/-- What text.Get answers. -/
def GotText (g : Option (List UInt8 × Nat)) (e : Ending) : Prop :=
  (g = none ∧ ∃ x : Int, x ≠ 0 ∧ e = .returned (.tuple #[.string ⟨#[]⟩, .int .i64 0, .int .i64 x])) ∨ ∃ (T : ByteArray) (j : Nat), g = some (T.data.toList, j) ∧ e = .returned (.tuple #[.string T, .int .i64 j, .int .i64 0])

set_option maxHeartbeats 1000000 in
set_option maxRecDepth 100000 in
theorem textGet_any (s : ByteArray) (i : Nat) (w : World) (hi : i ≤ s.size) (hs : s.size ≤ 1000000) :
    Calls Tryz.prog 75 #[.string s, .int .i64 i] w fun e w' => GotText (L9.VP.gtext s.data.toList i) e ∧ Below w.heap.size w w' := by
  obtain ⟨m, tq, er, hg, hc⟩ := gt_case s i
  have HG := Lib.hid (fun W => L9.get_any s (i : Int) W (by omega) (by omega) (by unfold maxLen; omega))
  rw [Int.toNat_natCast] at HG
  simp only [hg] at HG
  clear hg
  rcases hc with ⟨her, rfl, rfl, hn⟩ | ⟨rfl, h1, h2, h3, hn⟩ | ⟨rfl, h1, hn⟩
  · rw [hn]
    have hz : ((er : Int) != 0) = true := by rcases her with rfl | rfl <;> rfl
    have hz2 : ((er : Int) == 0) = false := by rcases her with rfl | rfl <;> rfl
    have HNZ : Hid ((er : Int) ≠ 0) := Lib.hid (by rcases her with rfl | rfl <;> decide)
    clear her hn hi
    go_enter Tryz.func75, Tryz.ntmps75
    go_wp2_with fail
    refine (HG.out _).mono ?_
    rintro e w2 ⟨rfl, hb2⟩
    go_wp2_with fail
    go_ret3
    exact ⟨.inl ⟨rfl, er, HNZ.out, rfl⟩, hb2⟩
  · rw [hn]
    obtain ⟨d, hd⟩ : ∃ d, d = s.size - tq := ⟨_, rfl⟩
    have he : (s.size : Int) - (tq : Int) = (d : Int) := by omega
    have w1 : IntKind.i64.wrap (d : Int) = d := IntWalk.i64_in _ (by omega)
    have w2 : IntKind.u64.wrap (d : Int) = d := by rw [IntKind.wrap_u64]; omega
    have d1 : decide (d < m) = true := decide_eq_true (by omega)
    have d2 : decide ((d : Int) < (m : Int)) = true := decide_eq_true (by omega)
    clear hn hi hd h1 h2 h3
    go_enter Tryz.func75, Tryz.ntmps75
    go_wp2_with fail
    refine (HG.out _).mono ?_
    rintro e w2 ⟨rfl, hb2⟩
    go_wp2_with fail
    go_ret3
    exact ⟨.inl ⟨rfl, 7, by decide, rfl⟩, hb2⟩
  · rw [hn]
    obtain ⟨d, hd⟩ : ∃ d, d = s.size - tq := ⟨_, rfl⟩
    obtain ⟨j, hj⟩ : ∃ j, j = tq + m := ⟨_, rfl⟩
    have he : (s.size : Int) - (tq : Int) = (d : Int) := by omega
    have he2 : (tq : Int) + (m : Int) = (j : Int) := by omega
    have w1 : IntKind.i64.wrap (d : Int) = d := IntWalk.i64_in _ (by omega)
    have w2 : IntKind.u64.wrap (d : Int) = d := by rw [IntKind.wrap_u64]; omega
    have w3 : IntKind.i64.wrap (m : Int) = m := IntWalk.i64_in _ (by omega)
    have w4 : IntKind.i64.wrap (j : Int) = j := IntWalk.i64_in _ (by omega)
    have d1 : decide (d < m) = false := decide_eq_false (by omega)
    have d2 : decide ((d : Int) < (m : Int)) = false := decide_eq_false (by omega)
    have hj1 : tq ≤ j := by omega
    have hj2 : j ≤ s.size := by omega
    rw [← hj]
    have hts : (s.extract tq j).size ≤ 1000000 := by simp; omega
    have HC := Lib.hid (fun W => L5.clone_any (s.extract tq j) W hts)
    obtain ⟨T, hT⟩ : ∃ T, T = s.extract tq j := ⟨_, rfl⟩
    rw [← hT] at HC ⊢
    have HT := Lib.hid hT
    clear hn hi hd hj h1 hts
    have hT2 := hT.symm
    clear hT
    go_enter Tryz.func75, Tryz.ntmps75
    go_wp2_with fail
    refine (HG.out _).mono ?_
    rintro e w2 ⟨rfl, hb2⟩
    go_wp2_with fail
    refine (HC.out _).mono ?_
    rintro e w3 ⟨rfl, hb3⟩
    go_wp2_with fail
    go_ret3
    exact ⟨.inr ⟨T, j, rfl, rfl⟩, hb2.trans' hb3⟩

def TextV (g : Option (List UInt8 × Nat)) (e : Ending) : Prop :=
  (g = none ∧ e = .returned (.tuple #[.string ⟨#[]⟩, .int .i64 (-1)])) ∨ ∃ (T : ByteArray) (j : Nat), g = some (T.data.toList, j) ∧ e = .returned (.tuple #[.string T, .int .i64 j])
theorem rtext_neg (s : ByteArray) (i : Int) (w : World) (hi : i < 0) :
    Calls Tryz.prog 29 #[.string s, .int .i64 i] w fun e w' => e = .returned (.tuple #[.string ⟨#[]⟩, .int .i64 (-1)]) ∧ Below w.heap.size w w' := by
  go_enter Tryz.func29, Tryz.ntmps29
  go_wp2_with fail
  go_ret2
  exact ⟨rfl, Below.refl _ _⟩
set_option maxHeartbeats 1000000 in
set_option maxRecDepth 100000 in
theorem rtext_any (s : ByteArray) (i : Nat) (w : World) (hi : i ≤ s.size) (hs : s.size ≤ 1000000) :
    Calls Tryz.prog 29 #[.string s, .int .i64 i] w fun e w' => TextV (L9.VP.gtext s.data.toList i) e ∧ Below w.heap.size w w' := by
  obtain ⟨m, tq, er, hg, hc⟩ := gt_case s i
  have HG := Lib.hid (fun W => L9.rget_any s (i : Int) W (by omega) (by omega) (by omega))
  rw [Int.toNat_natCast] at HG
  simp only [hg] at HG
  clear hg
  rcases hc with ⟨her, rfl, rfl, hn⟩ | ⟨rfl, h1, h2, h3, hn⟩ | ⟨rfl, h1, hn⟩
  · rw [hn]
    have hz : ((er : Int) != 0) = true := by rcases her with rfl | rfl <;> rfl
    have hz2 : ((er : Int) == 0) = false := by rcases her with rfl | rfl <;> rfl
    clear her hn hi
    go_enter Tryz.func29, Tryz.ntmps29
    go_wp2_with fail
    refine (HG.out _).mono ?_
    rintro e w2 ⟨rfl, hb2⟩
    go_wp2_with fail
    go_ret2
    exact ⟨.inl ⟨rfl, rfl⟩, hb2⟩
  · rw [hn]
    obtain ⟨d, hd⟩ : ∃ d, d = s.size - tq := ⟨_, rfl⟩
    have he : (s.size : Int) - (tq : Int) = (d : Int) := by omega
    have w1 : IntKind.i64.wrap (d : Int) = d := IntWalk.i64_in _ (by omega)
    have w2 : IntKind.u64.wrap (d : Int) = d := by rw [IntKind.wrap_u64]; omega
    have d1 : decide (d < m) = true := decide_eq_true (by omega)
    have d2 : decide ((d : Int) < (m : Int)) = true := decide_eq_true (by omega)
    clear hn hi hd h1 h2 h3
    go_enter Tryz.func29, Tryz.ntmps29
    go_wp2_with fail
    refine (HG.out _).mono ?_
    rintro e w2 ⟨rfl, hb2⟩
    go_wp2_with fail
    go_ret2
    exact ⟨.inl ⟨rfl, rfl⟩, hb2⟩
  · rw [hn]
    obtain ⟨d, hd⟩ : ∃ d, d = s.size - tq := ⟨_, rfl⟩
    obtain ⟨j, hj⟩ : ∃ j, j = tq + m := ⟨_, rfl⟩
    have he : (s.size : Int) - (tq : Int) = (d : Int) := by omega
    have he2 : (tq : Int) + (m : Int) = (j : Int) := by omega
    have w1 : IntKind.i64.wrap (d : Int) = d := IntWalk.i64_in _ (by omega)
    have w2 : IntKind.u64.wrap (d : Int) = d := by rw [IntKind.wrap_u64]; omega
    have w3 : IntKind.i64.wrap (m : Int) = m := IntWalk.i64_in _ (by omega)
    have w4 : IntKind.i64.wrap (j : Int) = j := IntWalk.i64_in _ (by omega)
    have d1 : decide (d < m) = false := decide_eq_false (by omega)
    have d2 : decide ((d : Int) < (m : Int)) = false := decide_eq_false (by omega)
    have hj1 : tq ≤ j := by omega
    have hj2 : j ≤ s.size := by omega
    rw [← hj]
    obtain ⟨T, hT⟩ : ∃ T, s.extract tq j = T := ⟨_, rfl⟩
    rw [hT]
    clear hn hi hd hj h1
    go_enter Tryz.func29, Tryz.ntmps29
    go_wp2_with fail
    refine (HG.out _).mono ?_
    rintro e w2 ⟨rfl, hb2⟩
    go_wp2_with fail
    go_ret2
    exact ⟨.inr ⟨T, j, rfl, rfl⟩, hb2⟩
end Go.Proofs.YtpehkikdmckldaaGreatDoor
