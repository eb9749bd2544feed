import Derived.Test.YtpeghilfldpgfaaGreatDoorQ04
import Derived.Laws.CopyOwn
import Derived.IntWalk
namespace Go.Proofs.YtpeghilfldpgfaaGreatDoor.L9
open Go.RowKit
set_option linter.unusedVariables false
set_option linter.unusedSimpArgs false
theorem right_over (S : ByteArray) (L P : Int) : VP.Right (pv true S L P) ↔ S = ⟨#[]⟩ ∧ 1 ≤ L ∧ L ≤ 4096 ∧ 1 ≤ P ∧ P ≤ 4095 := by
  constructor
  · rintro (⟨_, h1, h2⟩ | ⟨h, _⟩)
    · exact ⟨ByteArray.ext (Array.toList_inj.1 h1), h2⟩
    · cases h
  · rintro ⟨rfl, h2⟩
    exact .inl ⟨rfl, rfl, h2⟩
theorem right_text (S : ByteArray) (L P : Int) : VP.Right (pv false S L P) ↔ S.size ≤ 256 ∧ L = 0 ∧ P = 0 := by
  constructor
  · rintro (⟨h, _⟩ | ⟨_, h⟩)
    · cases h
    · exact h
  · exact fun h => .inr ⟨rfl, h⟩
theorem empty_eq (S : ByteArray) : (S.toList == []) = decide (S = ⟨#[]⟩) := by
  rw [Lib.toList_data]
  by_cases h : S = ⟨#[]⟩
  · subst h; rfl
  · rw [decide_eq_false h]
    exact beq_eq_false_iff_ne.2 fun e => h (ByteArray.ext (Array.toList_inj.1 e))
end Go.Proofs.YtpeghilfldpgfaaGreatDoor.L9
namespace Go.Proofs.YtpeghilfldpgfaaGreatDoor.L9
open Go.RowKit
set_option linter.unusedVariables false
set_option linter.unusedSimpArgs false
def cellS (t : ByteArray) (v : VP.V) : ByteArray := ⟨(VP.cellV t.data.toList v).toArray⟩
def putVV (t : ByteArray) (v : VP.V) : Value := if VP.OkV t.data.toList v then .tuple #[.string (cellS t v), .int .i64 0] else .tuple #[.string ⟨#[]⟩, .int .i64 3]
def kidS (k : Nat) (t : ByteArray) : ByteArray := ⟨(VP.cellK k t.data.toList).toArray⟩
def putKV (k : Int) (t : ByteArray) : Value := if VP.OkK k t.data.toList then .tuple #[.string (kidS k.toNat t), .int .i64 0] else .tuple #[.string ⟨#[]⟩, .int .i64 3]
theorem bytes_size (l : List UInt8) : (⟨l.toArray⟩ : ByteArray).size = l.length := by simp [ByteArray.size]
theorem wput_size (n : Nat) (h : n ≤ 18446744073709551615) : (⟨(WP.put n).toArray⟩ : ByteArray).size ≤ 9 := by
  obtain ⟨_, _, _, _, _, h1⟩ := WP.put_form n h
  have := WP.size_bd n
  rw [bytes_size]
  omega
theorem four_size (n : Nat) : (⟨(Lib.leBytes 4 n).toArray⟩ : ByteArray).size = 4 := by rw [bytes_size, Lib.leBytes_length]
def textS (t : ByteArray) : ByteArray := ⟨(VP.text t.data.toList).toArray⟩
theorem textS_eq (t : ByteArray) (n : Nat) (h : t.size = n) : (⟨(WP.put n).toArray⟩ : ByteArray) ++ t = textS t := by
  subst h
  apply ByteArray.ext
  simp [textS, VP.text]
theorem cellS_over (t : ByteArray) (S : ByteArray) (l p : Nat) : textS t ++ ⟨#[1]⟩ ++ ⟨(WP.put l).toArray⟩ ++ ⟨(Lib.leBytes 4 p).toArray⟩ = cellS t (pv true S l p) := by
  apply ByteArray.ext
  simp [textS, cellS, VP.cellV, VP.tail, pv]
theorem textS_size (t : ByteArray) (h : t.size ≤ 1000000) : (textS t).size ≤ 9 + t.size := by
  have h1 := textS_eq t _ rfl
  have h2 := wput_size t.size (by omega)
  rw [← h1, ByteArray.size_append]
  omega
theorem vbox_keep (t : TypeId) (g : Nat) (O : Bool) (S : ByteArray) (L P : Int) : Hid (∀ W W' : World, Below W.heap.size W W' → (Hid (Bx t g O S L P W) ∧ W.cell? ⟨g, 0, none⟩ = some (.bool O) ∧ W.cell? ⟨g, 1, none⟩ = some (.string S) ∧ W.cell? ⟨g, 2, none⟩ = some (.int .i64 L) ∧ W.cell? ⟨g, 3, none⟩ = some (.int .i64 P)) → Hid (Bx t g O S L P W') ∧ W'.cell? ⟨g, 0, none⟩ = some (.bool O) ∧ W'.cell? ⟨g, 1, none⟩ = some (.string S) ∧ W'.cell? ⟨g, 2, none⟩ = some (.int .i64 L) ∧ W'.cell? ⟨g, 3, none⟩ = some (.int .i64 P)) :=
  Lib.hid fun W W' hb h => HasBx.below (t := t) (g := g) (O := O) (S := S) (L := L) (P := P) h hb
end Go.Proofs.YtpeghilfldpgfaaGreatDoor.L9
namespace Go.Proofs.YtpeghilfldpgfaaGreatDoor.L9
open Go.RowKit
set_option linter.unusedVariables false
set_option linter.unusedSimpArgs false
theorem extract_list (s : ByteArray) (i n : Nat) : (⟨((s.data.toList.drop i).take n).toArray⟩ : ByteArray) = s.extract i (i + n) := by
  apply ByteArray.ext
  apply Array.toList_inj.1
  have h := Lib.extract_data s i (i + n)
  rw [h]
  simp
end Go.Proofs.YtpeghilfldpgfaaGreatDoor.L9
namespace Go.Proofs.YtpeghilfldpgfaaGreatDoor.L8
open Go.Proofs.YtpeghilfldpgfaaGreatDoor.L5
open Go.RowKit
set_option linter.unusedVariables false
set_option linter.unusedSimpArgs false
def Writ (w : World) (g : Nat) (L : List UInt8) (a : Nat) : Prop :=
  w.heap[g]? = some (.cells (byteCells L).toArray 5 (0, 0)) ∧ w.heap[g + 1]? = some (.cells #[.slice (some ⟨g, 0, none⟩) L.length L.length] 86 (0, 0)) ∧ w.heap[g + 2]? = some (.cells #[.int .i64 a] 3 (0, 0))
def tellL (L : List UInt8) (a c : Nat) : List UInt8 := (L.set a (LP.u8 (c % 256))).set (a + 1) (LP.u8 (c / 256))
theorem tellL_length (L : List UInt8) (a c : Nat) : (tellL L a c).length = L.length := by simp [tellL]
theorem byteCells_set (L : List UInt8) (i : Nat) (b : UInt8) : (byteCells L).toArray.setIfInBounds i (.int .u8 b.toNat) = (byteCells (L.set i b)).toArray := by
  simp [byteCells, List.map_set]
theorem byteCells_get (L : List UInt8) (i : Nat) (h : i < L.length) : (byteCells L).toArray[i]? = some (.int .u8 (L[i].toNat : Nat)) := by simp [byteCells, h]
theorem writ_set {w : World} {g x i : Nat} {L : List UInt8} {b : UInt8} (h : Writ w g L x) : Writ (w.setCell ⟨g, i, none⟩ (.int .u8 b.toNat)) g (L.set i b) x := by
  obtain ⟨h1, h2, h3⟩ := h
  refine ⟨?_, ?_, ?_⟩
  · rw [← byteCells_set]; exact heap_setCell_same _ _ _ _ _ _ h1
  · rw [List.length_set]; exact (heap_setCell_other _ _ _ _ (by simp)).trans h2
  · exact (heap_setCell_other _ _ _ _ (by simp)).trans h3
theorem writ_at {w : World} {g a x : Nat} {L : List UInt8} {n : Int} (h : Writ w g L x) (hn : n = a) : Writ (w.setCell ⟨g + 2, 0, none⟩ (.int .i64 n)) g L a := by
  subst hn
  obtain ⟨h1, h2, h3⟩ := h
  exact ⟨(heap_setCell_other _ _ _ _ (by simp)).trans h1, (heap_setCell_other _ _ _ _ (by simp)).trans h2, one_setCell h3⟩
theorem grown_setCell (w : World) (a : Addr) (u : Value) : w.grownBy (w.setCell a u) (some a.block) :=
  ⟨rfl, rfl, rfl, by simp, fun j _ hj => heap_setCell_other _ _ _ _ (fun e => hj (by rw [e]))⟩
set_option maxHeartbeats 1000000 in
set_option maxRecDepth 100000 in
theorem tell_any (g a c : Nat) (L : List UInt8) (w : World) (h : Hid (Writ w g L (a + 2))) (ha : a + 2 ≤ L.length) (hL : L.length ≤ 65535) (hc : c < 65536) :
    Calls Tryz.prog 175 #[.int .i64 c, .pointer (some ⟨g + 2, 0, none⟩), .pointer (some ⟨g + 1, 0, none⟩)] w fun e w' => e = .returned (.tuple #[]) ∧ Hid (Writ w' g (tellL L a c) a) ∧ Below g w w' := by
  have a1 := cell_of_one h.out.2.2
  have f1 := free_of_one h.out.2.2
  have q1 : IntKind.i64.wrap (((a + 2 : Nat) : Int) - 2) = a := by rw [show ((a + 2 : Nat) : Int) - 2 = a by omega]; exact IntWalk.i64_in _ (by omega)
  have hw2 := Lib.hid (writ_at (n := (a : Int)) h.out rfl)
  have hb := Below.setCell (Below.refl g w) (p := ⟨g + 2, 0, none⟩) (by simp) (.int .i64 (a : Int))
  have HB := Lib.hid hb
  obtain ⟨lo, hlo⟩ : ∃ b : UInt8, b = LP.u8 (c % 256) := ⟨_, rfl⟩
  obtain ⟨hi, hhi⟩ : ∃ b : UInt8, b = LP.u8 (c / 256) := ⟨_, rfl⟩
  have HT : Hid (tellL L a c = (L.set a lo).set (a + 1) hi) := Lib.hid (by rw [hlo, hhi]; rfl)
  have elo : lo.toNat = c % 256 := by rw [hlo]; exact LP.u8_lt _ (by omega)
  have ehi : hi.toNat = c / 256 := by rw [hhi]; exact LP.u8_lt _ (by omega)
  have q2 : IntKind.u8.wrap (c : Int) = (lo.toNat : Int) := by rw [elo]; simp [IntKind.wrap, IntKind.signed, IntKind.bits]
  have q3 : IntKind.u8.wrap ((c : Int) / 256) = (hi.toNat : Int) := by rw [ehi]; simp [IntKind.wrap, IntKind.signed, IntKind.bits]; omega
  have q4 : (c : Int) % 256 = (lo.toNat : Int) := by omega
  have q5 : (c : Int) / 256 = (hi.toNat : Int) := by omega
  have q6 : (hi.toNat : Int) % 256 = hi.toNat := by omega
  rw [HT.out]
  clear hlo hhi HT elo ehi hb h
  go_enter Tryz.func175, Tryz.ntmps175
  go_wp2_with fail
  generalize w.setCell ⟨g + 2, 0, none⟩ (.int .i64 (a : Int)) = v at *
  have b1 := cell_of_one hw2.out.2.1
  have b2 := cell_of_one hw2.out.2.2
  have c1 : v.cell? ⟨g, a, none⟩ = some (.int .u8 (L[a].toNat : Nat)) := by rw [cell_of_row _ _ a _ _ _ hw2.out.1]; exact byteCells_get L a (by omega)
  have c2 : v.cell? ⟨g, a + 1, none⟩ = some (.int .u8 (L[a + 1].toNat : Nat)) := by rw [cell_of_row _ _ (a + 1) _ _ _ hw2.out.1]; exact byteCells_get L (a + 1) (by omega)
  have g1 := frozen_of_row _ _ a _ _ hw2.out.1
  have g2 := frozen_of_row _ _ (a + 1) _ _ hw2.out.1
  have r1 : IntKind.i64.wrap ((a : Int) + 1) = (a : Int) + 1 := IntWalk.i64_in _ (by omega)
  have r2 : ((a : Int) + 1).toNat = a + 1 := by omega
  have r3 : (0 : Int) ≤ (a : Int) + 1 := by omega
  have r4 : (a : Int) + 1 < L.length := by omega
  have r5 : (a : Int) < L.length := by omega
  have r6 : (0 : Int) ≤ (a : Int) := by omega
  clear a1 f1
  go_region
  all_goals
    go_wp2_with fail
    go_end0
    exact ⟨rfl, Lib.hid (writ_set (writ_set hw2.out)), ((HB.out.setCell (p := ⟨g, a, none⟩) (Nat.le_refl _) _).setCell (p := ⟨g, a + 1, none⟩) (Nat.le_refl _) _).drew⟩
theorem or_join (a b : Nat) (ha : a < 256) (hb : b < 256) : bits .or .i64 (a : Int) ((b : Int) * 256) = ((a + 256 * b : Nat) : Int) := by
  have h1 : (BitVec.ofInt 64 (a : Int)).toNat = a := by
    rw [BitVec.ofInt_natCast, BitVec.toNat_ofNat]; exact Nat.mod_eq_of_lt (by omega)
  have h2 : (BitVec.ofInt 64 ((256 * b : Nat) : Int)).toNat = 256 * b := by
    rw [BitVec.ofInt_natCast, BitVec.toNat_ofNat]; exact Nat.mod_eq_of_lt (by omega)
  have e : (b : Int) * 256 = ((256 * b : Nat) : Int) := by omega
  rw [e]
  show IntKind.i64.wrap ((BitVec.ofInt 64 (a : Int) ||| BitVec.ofInt 64 ((256 * b : Nat) : Int)).toNat : Int) = _
  rw [BitVec.toNat_or, h1, h2, Nat.or_comm, nat_join 8 (256 * b) a (by omega) (by omega), Nat.add_comm]
  exact IntWalk.i64_in _ (by omega)
def Rd (w : World) (g : Nat) (L : List UInt8) (cap a : Nat) : Prop :=
  g + 2 < w.heap.size ∧ (∀ j c, L[j]? = some c → w.cell? ⟨g, j, none⟩ = some (.int .u8 (c.toNat : Nat))) ∧ w.heap[g + 1]? = some (.cells #[.slice (some ⟨g, 0, none⟩) L.length cap] 86 (0, 0)) ∧ w.heap[g + 2]? = some (.cells #[.int .i64 a] 3 (0, 0))
theorem rd_at {w : World} {g a x cap : Nat} {L : List UInt8} {n : Int} (h : Rd w g L cap x) (hn : n = a) : Rd (w.setCell ⟨g + 2, 0, none⟩ (.int .i64 n)) g L cap a := by
  subst hn
  obtain ⟨h0, h1, h2, h3⟩ := h
  exact ⟨by simpa using h0, fun j c hj => (World.cell?_of_block (heap_setCell_other _ _ _ _ (by simp))).trans (h1 j c hj), (heap_setCell_other _ _ _ _ (by simp)).trans h2, one_setCell h3⟩
theorem rd_drew {w : World} {g a cap : Nat} {L : List UInt8} (h : Rd w g L cap a) (n : Nat) : Rd (w.drewN n) g L cap a := h
theorem rd_grown {w w' : World} {g a cap : Nat} {L : List UInt8} {row : Option Nat} (h : Rd w g L cap a) (hg : w.grownBy w' row) (hr : ∀ k, row = some k → g + 2 < k) : Rd w' g L cap a := by
  obtain ⟨hs, h1, h2, h3⟩ := h
  have no : ∀ j, j ≤ g + 2 → some j ≠ row := fun j hj e => by have := hr j e.symm; omega
  exact ⟨Nat.lt_of_lt_of_le hs hg.size, fun j c hj => (World.cell?_of_block (hg.block _ (by show g < _; omega) (no _ (by show g ≤ _; omega)))).trans (h1 j c hj), (hg.block _ (by omega) (no _ (by omega))).trans h2, (hg.block _ (by omega) (no _ (by omega))).trans h3⟩
def num2 (L : List UInt8) (a : Nat) : Nat := (L.getD a 0).toNat + 256 * (L.getD (a + 1) 0).toNat
set_option maxHeartbeats 1000000 in
set_option maxRecDepth 100000 in
theorem next_any (g a cap : Nat) (L : List UInt8) (w : World) (h : Hid (Rd w g L cap (a + 2))) (ha : a + 2 ≤ L.length) (hL : L.length ≤ 65535) :
    Calls Tryz.prog 208 #[.pointer (some ⟨g + 2, 0, none⟩), .pointer (some ⟨g + 1, 0, none⟩)] w fun e w' => e = .returned (.int .i64 (num2 L a : Nat)) ∧ Hid (Rd w' g L cap a) ∧ Below g w w' ∧ w.grownBy w' (some (g + 2)) := by
  have a1 := cell_of_one h.out.2.2.2
  have f1 := free_of_one h.out.2.2.2
  have q1 : IntKind.i64.wrap (((a + 2 : Nat) : Int) - 2) = a := by rw [show ((a + 2 : Nat) : Int) - 2 = a by omega]; exact IntWalk.i64_in _ (by omega)
  have hw2 := Lib.hid (rd_at (n := (a : Int)) h.out rfl)
  have hb := Below.setCell (Below.refl g w) (p := ⟨g + 2, 0, none⟩) (by simp) (.int .i64 (a : Int))
  have HB := Lib.hid hb
  have HGR := Lib.hid (grown_setCell w ⟨g + 2, 0, none⟩ (.int .i64 (a : Int)))
  obtain ⟨lo, hlo⟩ : ∃ b : UInt8, b = L[a] := ⟨_, rfl⟩
  obtain ⟨hi, hhi⟩ : ∃ b : UInt8, b = L[a + 1] := ⟨_, rfl⟩
  have HT : Hid (num2 L a = lo.toNat + 256 * hi.toNat) := Lib.hid (by unfold num2; rw [hlo, hhi]; simp only [List.getD_eq_getElem?_getD]; rw [List.getElem?_eq_getElem (by omega), List.getElem?_eq_getElem (by omega)]; rfl)
  have l0 : lo.toNat < 256 := lo.toNat_lt
  have l1 : hi.toNat < 256 := hi.toNat_lt
  have q3 : IntKind.i64.wrap (lo.toNat : Int) = lo.toNat := IntWalk.i64_in _ (by omega)
  have q4 : IntKind.i64.wrap (hi.toNat : Int) = hi.toNat := IntWalk.i64_in _ (by omega)
  have q5 : IntKind.i64.wrap ((hi.toNat : Int) * 256) = (hi.toNat : Int) * 256 := IntWalk.i64_in _ (by omega)
  rw [HT.out]
  clear hb h
  go_enter Tryz.func208, Tryz.ntmps208
  go_wp2_with fail
  generalize w.setCell ⟨g + 2, 0, none⟩ (.int .i64 (a : Int)) = v at *
  have b1 := cell_of_one hw2.out.2.2.1
  have b2 := cell_of_one hw2.out.2.2.2
  have c1 : v.cell? ⟨g, a, none⟩ = some (.int .u8 (lo.toNat : Nat)) := by rw [hlo]; exact hw2.out.2.1 a _ (List.getElem?_eq_getElem (by omega))
  have c2 : v.cell? ⟨g, a + 1, none⟩ = some (.int .u8 (hi.toNat : Nat)) := by rw [hhi]; exact hw2.out.2.1 (a + 1) _ (List.getElem?_eq_getElem (by omega))
  have r1 : IntKind.i64.wrap ((a : Int) + 1) = (a : Int) + 1 := IntWalk.i64_in _ (by omega)
  have r2 : ((a : Int) + 1).toNat = a + 1 := by omega
  have r3 : (0 : Int) ≤ (a : Int) + 1 := by omega
  have r4 : (a : Int) + 1 < L.length := by omega
  have r5 : (a : Int) < L.length := by omega
  have r6 : (0 : Int) ≤ (a : Int) := by omega
  clear a1 f1 hlo hhi
  go_quiet (fail)
  go_wp2_with fail
  go_ret
  exact ⟨by rw [← or_join lo.toNat hi.toNat l0 l1]; rfl, Lib.hid (rd_drew hw2.out nq), below_drewN HB.out nq, ⟨HGR.out.os, HGR.out.tape, HGR.out.output, HGR.out.size, HGR.out.block⟩⟩
theorem writ_new {w : World} {g : Nat} {L : List UInt8} (h : w.heap[g]? = some (.cells (byteCells L).toArray 5 (0, 0))) (hg : w.heap.size = g + 1) :
    Hid (Writ ((w.alloc (.cells #[.slice (some ⟨g, 0, none⟩) L.length L.length] 86)).alloc (.cells #[.int .i64 L.length] 3)) g L L.length) ∧ Below g w ((w.alloc (.cells #[.slice (some ⟨g, 0, none⟩) L.length L.length] 86)).alloc (.cells #[.int .i64 L.length] 3)) := by
  have b1 := below_alloc w (.cells #[.slice (some ⟨g, 0, none⟩) L.length L.length] 86)
  have n1 := heap_alloc_new w (.cells #[.slice (some ⟨g, 0, none⟩) L.length L.length] 86)
  have s1 : (w.alloc (.cells #[.slice (some ⟨g, 0, none⟩) L.length L.length] 86)).heap.size = g + 2 := by simp; omega
  generalize w.alloc (.cells #[.slice (some ⟨g, 0, none⟩) L.length L.length] 86) = v at *
  have b2 := below_alloc v (.cells #[.int .i64 L.length] 3)
  have n2 := heap_alloc_new v (.cells #[.int .i64 L.length] 3)
  rw [s1] at n2
  rw [hg] at n1
  exact ⟨Lib.hid ⟨(b2.block _ (by omega)).trans ((b1.block _ (by omega)).trans h), (b2.block _ (by omega)).trans n1, n2⟩, (b1.trans' b2).mono (by omega)⟩
theorem writer_any (g : Nat) (L : List UInt8) (w : World) (h : w.heap[g]? = some (.cells (byteCells L).toArray 5 (0, 0))) (hg : w.heap.size = g + 1) :
    Calls Tryz.prog 121 #[.slice (some ⟨g, 0, none⟩) L.length L.length] w fun e w' => e = .returned (.func (.func 175) #[] #[.pointer (some ⟨g + 2, 0, none⟩), .pointer (some ⟨g + 1, 0, none⟩)]) ∧ Hid (Writ w' g L L.length) ∧ Below g w w' := by
  have hmf : ∀ (fn : Fn) (first cap : Array Value) (w : World), (Instr.makeFunc fn first cap).run Tryz.prog w = .ok (.func fn first cap) w := fun _ _ _ _ => rfl
  go_enter Tryz.func121, Tryz.ntmps121
  go_wp2_with fail
  go_ret
  exact ⟨rfl, writ_new h hg⟩
theorem rd_new {w : World} {g cap : Nat} {L : List UInt8} (h : ∀ j c, L[j]? = some c → w.cell? ⟨g, j, none⟩ = some (.int .u8 (c.toNat : Nat))) (hg : w.heap.size = g + 1) :
    Hid (Rd ((w.alloc (.cells #[.slice (some ⟨g, 0, none⟩) L.length cap] 86)).alloc (.cells #[.int .i64 L.length] 3)) g L cap L.length) ∧ Below w.heap.size w ((w.alloc (.cells #[.slice (some ⟨g, 0, none⟩) L.length cap] 86)).alloc (.cells #[.int .i64 L.length] 3)) := by
  have b1 := below_alloc w (.cells #[.slice (some ⟨g, 0, none⟩) L.length cap] 86)
  have n1 := heap_alloc_new w (.cells #[.slice (some ⟨g, 0, none⟩) L.length cap] 86)
  have s1 : (w.alloc (.cells #[.slice (some ⟨g, 0, none⟩) L.length cap] 86)).heap.size = g + 2 := by simp; omega
  generalize w.alloc (.cells #[.slice (some ⟨g, 0, none⟩) L.length cap] 86) = v at *
  have b2 := below_alloc v (.cells #[.int .i64 L.length] 3)
  have n2 := heap_alloc_new v (.cells #[.int .i64 L.length] 3)
  rw [s1] at n2
  rw [hg] at n1
  exact ⟨Lib.hid ⟨by simp; omega, fun j c hj => (b2.cell (by show g < _; omega)).trans ((b1.cell (by show g < _; omega)).trans (h j c hj)), (b2.block _ (by omega)).trans n1, n2⟩, b1.trans' b2⟩
theorem reader_any (g cap : Nat) (L : List UInt8) (w : World) (h : ∀ j c, L[j]? = some c → w.cell? ⟨g, j, none⟩ = some (.int .u8 (c.toNat : Nat))) (hg : w.heap.size = g + 1) :
    Calls Tryz.prog 191 #[.slice (some ⟨g, 0, none⟩) L.length cap] w fun e w' => e = .returned (.func (.func 208) #[] #[.pointer (some ⟨g + 2, 0, none⟩), .pointer (some ⟨g + 1, 0, none⟩)]) ∧ Hid (Rd w' g L cap L.length) ∧ Below w.heap.size w w' := by
  have hmf : ∀ (fn : Fn) (first cap : Array Value) (w : World), (Instr.makeFunc fn first cap).run Tryz.prog w = .ok (.func fn first cap) w := fun _ _ _ _ => rfl
  have HN := Lib.hid (rd_new (cap := cap) h hg)
  clear h
  go_enter Tryz.func191, Tryz.ntmps191
  go_wp2_with fail
  go_ret
  exact ⟨rfl, HN.out⟩
end Go.Proofs.YtpeghilfldpgfaaGreatDoor.L8
namespace Go.Proofs.YtpeghilfldpgfaaGreatDoor.L8
open Go.Proofs.YtpeghilfldpgfaaGreatDoor.L5
open Go.RowKit
set_option linter.unusedVariables false
set_option linter.unusedSimpArgs false
def packS (room : Nat) (f : ByteArray) (l : List ByteArray) : ByteArray := ⟨(LP.pack room (B f) (Bs l)).toArray⟩
def packV (room : Int) (f : ByteArray) (l : List ByteArray) : Value :=
  if room < 0 ∨ 65535 < room then .tuple #[.string ⟨#[]⟩, .int .i64 4] else if room < (LP.need f.size (Bs l) : Nat) then .tuple #[.string ⟨#[]⟩, .int .i64 8] else .tuple #[.string (packS room.toNat f l), .int .i64 0]
def endL : Nat → List (List UInt8) → List UInt8
  | _, [] => []
  | a, c :: l => endL (a + c.length) l ++ LP.two a
theorem endL_snoc : ∀ (l : List (List UInt8)) (a : Nat) (c : List UInt8), endL a (l ++ [c]) = LP.two (a + LP.sum l) ++ endL a l
  | [], a, c => by simp [endL, LP.sum]
  | d :: l, a, c => by
    simp only [List.cons_append, endL, endL_snoc l, LP.sum, List.append_assoc]
    rw [Nat.add_assoc]
theorem endL_dir : ∀ (l : List (List UInt8)) (a : Nat), LP.two (a + LP.sum l) ++ endL a l = LP.dir a l
  | [], a => by simp [endL, LP.sum, LP.dir]
  | d :: l, a => by
    simp only [endL, LP.sum, LP.dir, ← endL_dir l, List.append_assoc]
    rw [Nat.add_assoc]
theorem endL_length : ∀ (l : List (List UInt8)) (a : Nat), (endL a l).length = 2 * l.length
  | [], a => rfl
  | d :: l, a => by simp only [endL, List.length_append, endL_length l, LP.two_length, List.length_cons]; omega
end Go.Proofs.YtpeghilfldpgfaaGreatDoor.L8
namespace Go.Proofs.YtpeghilfldpgfaaGreatDoor.L8
open Go.Proofs.YtpeghilfldpgfaaGreatDoor.L5
open Go.RowKit
set_option linter.unusedVariables false
set_option linter.unusedSimpArgs false
theorem rep_add (a b : Nat) (x : UInt8) : List.replicate (a + b) x = List.replicate a x ++ List.replicate b x := by simp
def packL (room : Nat) (F : List UInt8) (cs : List (List UInt8)) : List UInt8 := F ++ cs.flatten ++ List.replicate (room - (F.length + LP.sum cs + 2 * cs.length)) 0 ++ endL F.length cs
theorem packL_length (room : Nat) (F : List UInt8) (cs : List (List UInt8)) (h : F.length + LP.sum cs + 2 * cs.length ≤ room) : (packL room F cs).length = room := by
  have := endL_length cs F.length
  have := LP.flatten_length cs
  simp only [packL, List.length_append, List.length_replicate]
  omega
theorem tellL_at (X E : List UInt8) (n c : Nat) : tellL (X ++ List.replicate (n + 2) 0 ++ E) (X.length + n) c = X ++ List.replicate n 0 ++ (LP.two c ++ E) := by
  have e : X ++ List.replicate (n + 2) (0 : UInt8) ++ E = (X ++ List.replicate n 0) ++ (0 :: 0 :: E) := by
    rw [rep_add]
    simp [List.replicate]
  have hl : (X ++ List.replicate n (0 : UInt8)).length = X.length + n := by simp
  unfold tellL
  rw [e, List.set_append_right _ _ (by omega), hl, Nat.sub_self, List.set_cons_zero, List.set_append_right _ _ (by omega), hl, show X.length + n + 1 - (X.length + n) = 1 by omega]
  simp [LP.two]
theorem packL_tell (room : Nat) (F : List UInt8) (cs : List (List UInt8)) (h : F.length + LP.sum cs + 2 * cs.length + 2 ≤ room) :
    tellL (packL room F cs) (room - 2 * cs.length - 2) (F.length + LP.sum cs) = F ++ cs.flatten ++ List.replicate (room - (F.length + LP.sum cs + 2 * cs.length) - 2) 0 ++ (LP.two (F.length + LP.sum cs) ++ endL F.length cs) := by
  obtain ⟨n, hn⟩ : ∃ n, room = F.length + LP.sum cs + 2 * cs.length + 2 + n := ⟨room - (F.length + LP.sum cs + 2 * cs.length + 2), by omega⟩
  have h1 := tellL_at (F ++ cs.flatten) (endL F.length cs) n (F.length + LP.sum cs)
  have hl : (F ++ cs.flatten).length = F.length + LP.sum cs := by rw [List.length_append, LP.flatten_length]
  rw [hl] at h1
  unfold packL
  rw [show room - (F.length + LP.sum cs + 2 * cs.length) = n + 2 by omega, show room - 2 * cs.length - 2 = F.length + LP.sum cs + n by omega, h1, show n + 2 - 2 = n by omega]
theorem packL_copy (room : Nat) (F : List UInt8) (cs : List (List UInt8)) (c T : List UInt8) (h : F.length + LP.sum cs + 2 * cs.length + 2 + c.length ≤ room) (hT : T = F ++ cs.flatten ++ List.replicate (room - (F.length + LP.sum cs + 2 * cs.length) - 2) 0 ++ (LP.two (F.length + LP.sum cs) ++ endL F.length cs)) :
    T.take (F.length + LP.sum cs) ++ c ++ T.drop (F.length + LP.sum cs + c.length) = packL room F (cs ++ [c]) := by
  obtain ⟨n, hn⟩ : ∃ n, room = F.length + LP.sum cs + 2 * cs.length + 2 + c.length + n := ⟨room - (F.length + LP.sum cs + 2 * cs.length + 2 + c.length), by omega⟩
  have hl : (F ++ cs.flatten).length = F.length + LP.sum cs := by rw [List.length_append, LP.flatten_length]
  subst hT
  unfold packL
  rw [endL_snoc, LP.sum_append, show LP.sum [c] = c.length by simp [LP.sum], List.length_append, List.length_singleton, List.flatten_append, show [c].flatten = c by simp,
    show room - (F.length + LP.sum cs + 2 * cs.length) - 2 = c.length + n by omega, show room - (F.length + (LP.sum cs + c.length) + 2 * (cs.length + 1)) = n by omega, rep_add]
  rw [show F ++ cs.flatten ++ (List.replicate c.length (0 : UInt8) ++ List.replicate n 0) ++ (LP.two (F.length + LP.sum cs) ++ endL F.length cs) = (F ++ cs.flatten) ++ (List.replicate c.length (0 : UInt8) ++ (List.replicate n 0 ++ (LP.two (F.length + LP.sum cs) ++ endL F.length cs))) by simp only [List.append_assoc]]
  rw [← hl, List.take_left, ← List.drop_drop, List.drop_left, List.drop_left' (by simp)]
  simp only [List.append_assoc]
theorem packL_none (room : Nat) (F : List UInt8) : (List.replicate room (0 : UInt8)).take 0 ++ F ++ (List.replicate room (0 : UInt8)).drop (0 + F.length) = packL room F [] := by
  simp [packL, endL, LP.sum]
theorem packL_all (room : Nat) (F : List UInt8) (cs : List (List UInt8)) (h : LP.need F.length cs ≤ room) : tellL (packL room F cs) (room - 2 * cs.length - 2) (F.length + LP.sum cs) = LP.pack room F cs := by
  unfold LP.need at h
  rw [packL_tell room F cs (by omega)]
  unfold LP.pack LP.need
  rw [endL_dir, show room - (F.length + LP.sum cs + 2 * cs.length) - 2 = room - (F.length + 2 + LP.sum cs + 2 * cs.length) by omega]
theorem conv_row {P : Program} {w : World} {t e s : TypeId} {g : Nat} {l : List UInt8} {o : TypeId} (ht : P.underlying t = some (.slice e)) (he : P.underlying e = some (.int .u8)) (hs : P.underlying s = some .string)
    (h : w.heap[g]? = some (.cells (byteCells l).toArray o (0, 0))) (cap : Nat) : (convert t s (.slice (some ⟨g, 0, none⟩) l.length cap)).run P w = .ok (.string ⟨l.toArray⟩) w := by
  refine run_convert_bytes_back w t s e _ cap l ht he hs (fun j hj => ?_)
  rw [addr_at, cell_of_row _ _ j _ _ _ h, byteCells_get l j hj]
end Go.Proofs.YtpeghilfldpgfaaGreatDoor.L8
namespace Go.Proofs.YtpeghilfldpgfaaGreatDoor.L8
open Go.Proofs.YtpeghilfldpgfaaGreatDoor.L5
open Go.RowKit
set_option linter.unusedVariables false
set_option linter.unusedSimpArgs false
theorem made_zero (m : Nat) (i : Nat) (hi : i = 1) : madeCells (Value.int .u8 0).cells (((m : Nat) : Int).toNat * i) = (byteCells (List.replicate m 0)).toArray := by
  subst hi
  apply Array.toList_inj.1
  apply List.ext_getElem
  · simp [madeCells, byteCells]
  · intro i h1 h2
    simp [madeCells, Value.cells, Nat.mod_one, byteCells]
theorem writ_row {w : World} {g a : Nat} {L M : List UInt8} (h : Writ w g L a) (hl : M.length = L.length) : Writ (w.setRow g (byteCells M).toArray) g M a := by
  obtain ⟨h1, h2, h3⟩ := h
  refine ⟨setRow_heap w g _ _ _ _ h1, ?_, ?_⟩
  · rw [hl]; exact (setRow_other w g _ _ (by omega)).trans h2
  · exact (setRow_other w g _ _ (by omega)).trans h3
set_option maxRecDepth 100000 in
theorem copy_run {w : World} {g a o n : Nat} {L : List UInt8} {s : ByteArray} (h : Writ w g L a) (hle : s.size ≤ n) (hfit : o + s.size ≤ L.length) (cap : Nat) :
    (Builtin.copy_ #[86, 9] 3 #[.slice (some ⟨g, o, none⟩) n cap, .string s]).run Tryz.prog w = .ok (goInt s.size) (w.setRow g (byteCells (L.take o ++ B s ++ L.drop (o + s.size))).toArray) := by
  obtain ⟨i0, hi, hz0, hz1, hz2⟩ := info_parts Tryz.infoByte
  have hsz : (Tryz.prog.info? 5).map (·.size) = some 1 := by rw [hi]; simp [hz1]
  have cp := Lib.run_copy_row_string (P := Tryz.prog) w 86 9 3 5 g o n cap s _ 5 Tryz.underlying86 hsz h.1 hle (by simpa [byteCells] using hfit)
  rw [cp]
  congr 3
  simp [byteCells, Lib.byteCells, B]
set_option maxHeartbeats 2000000 in
set_option maxRecDepth 100000 in
theorem pack_any (room : Int) (f : ByteArray) (A : Option Addr) (l : List ByteArray) (ca : Nat) (w : World) (ha : Lies w w.heap.size A l) (hl : l.length ≤ 1000000) (hf : f.size ≤ 1000000) (hs : ∀ s ∈ l, s.size ≤ 65535) :
    Calls Tryz.prog 67 #[.int .i64 room, .string f, .slice A l.length ca] w fun e w' => e = .returned (packV room f l) ∧ Below w.heap.size w w' := by
  have HSZ := Lib.hid (size_any f A l ca w ha hl hf hs)
  by_cases h1 : room < 0
  · have hv : packV room f l = .tuple #[.string ⟨#[]⟩, .int .i64 4] := by unfold packV; rw [if_pos (.inl h1)]
    rw [hv]
    clear hv
    go_enter Tryz.func67, Tryz.ntmps67
    go_wp2_with fail
    go_ret2
    exact ⟨rfl, Below.refl _ _⟩
  by_cases h2 : 65535 < room
  · have hv : packV room f l = .tuple #[.string ⟨#[]⟩, .int .i64 4] := by unfold packV; rw [if_pos (.inr h2)]
    rw [hv]
    clear hv
    go_enter Tryz.func67, Tryz.ntmps67
    go_wp2_with fail
    go_ret2
    exact ⟨rfl, Below.refl _ _⟩
  by_cases h3 : room < (LP.need f.size (Bs l) : Nat)
  · have hv : packV room f l = .tuple #[.string ⟨#[]⟩, .int .i64 8] := by unfold packV; rw [if_neg (by omega), if_pos h3]
    rw [hv]
    clear hv
    generalize LP.need f.size (Bs l) = q at *
    go_enter Tryz.func67, Tryz.ntmps67
    go_wp2_with fail
    refine HSZ.out.mono ?_
    rintro e w1 ⟨rfl, rfl⟩
    go_wp2_with fail
    go_ret2
    exact ⟨rfl, Below.refl _ _⟩
  obtain ⟨m, rfl⟩ := Int.eq_ofNat_of_zero_le (show 0 ≤ room by omega)
  have hv : packV m f l = .tuple #[.string (packS m f l), .int .i64 0] := by unfold packV; rw [if_neg (by omega), if_neg h3, Int.toNat_natCast]
  rw [hv]
  clear hv
  obtain ⟨P, hP⟩ : ∃ P, packS m f l = P := ⟨_, rfl⟩
  have HP := Lib.hid hP
  rw [hP]
  have HA := Lib.hid ha
  obtain ⟨n, hn⟩ : ∃ n, n = l.length := ⟨_, rfl⟩
  have HN := Lib.hid hn
  have HNEED : Hid (LP.need f.size (Bs l) ≤ m) := Lib.hid (by omega)
  have HQ : Hid (∀ k, f.size + LP.sum (Bs (l.take k)) + 2 * n + 2 ≤ m) := Lib.hid (fun k => by
    have h5 := HNEED.out
    unfold LP.need at h5
    rw [bs_length, ← hn] at h5
    have h6 : Bs (l.take k) = (Bs l).take k := by simp [Bs]
    have h7 := LP.sum_take_le (Bs l) k
    rw [h6]
    omega)
  rw [← hn] at HSZ hl ⊢
  obtain ⟨q, hq⟩ : ∃ q, LP.need f.size (Bs l) = q := ⟨_, rfl⟩
  rw [hq] at HSZ h3
  have hd1 : decide (m < q) = false := decide_eq_false (by omega)
  have hd2 : decide ((m : Int) < (q : Int)) = false := decide_eq_false (by omega)
  obtain ⟨i0, hi, hz0, hz1, hz2⟩ := info_parts Tryz.infoByte
  have mk : ∀ W : World, (Instr.makeSlice 86 (.int .i64 (m : Int)) (.int .i64 (m : Int))).run Tryz.prog W = .ok (.slice (some ⟨W.heap.size, 0, none⟩) m m) (W.alloc (.cells (byteCells (List.replicate m 0)).toArray 5)) := fun W => by
    have h := run_make (P := Tryz.prog) W 86 5 i0 (.int .u8 0) Tryz.underlying86 hi hz0 .i64 .i64 (m : Int) (m : Int) (by omega) (by omega) (by rw [hz2]; omega) (by omega)
    rw [made_zero m _ hz1] at h
    simpa using h
  have HWR : Hid (Calls Tryz.prog 121 #[.slice (some ⟨w.heap.size, 0, none⟩) m m] (w.alloc (.cells (byteCells (List.replicate m 0)).toArray 5)) fun e w' => e = .returned (.func (.func 175) #[] #[.pointer (some ⟨w.heap.size + 2, 0, none⟩), .pointer (some ⟨w.heap.size + 1, 0, none⟩)]) ∧ Hid (Writ w' w.heap.size (List.replicate m 0) m) ∧ Below w.heap.size w w') := Lib.hid (by
    have h := writer_any w.heap.size (List.replicate m 0) (w.alloc (.cells (byteCells (List.replicate m 0)).toArray 5)) (heap_alloc_new _ _) (by simp)
    rw [List.length_replicate] at h
    exact h.mono fun e w' ⟨h1, h2, h3⟩ => ⟨h1, h2, (below_alloc w _).trans h3⟩)
  have hq0 := HQ.out 0
  clear ha hs hn hP hq hi hz0 hz1 hz2
  go_enter Tryz.func67, Tryz.ntmps67
  go_wp2_with fail
  refine HSZ.out.mono ?_
  rintro e w1 ⟨rfl, rfl⟩
  go_wp2_with fail
  refine HWR.out.mono ?_
  rintro e w1 ⟨rfl, hW1, hb1⟩
  have cp := copy_run hW1.out (o := 0) (n := m) (s := f) (by omega) (by simp; omega) m
  rw [← b_size f, packL_none m (B f), b_size f] at cp
  have HW2 := Lib.hid (writ_row hW1.out (M := packL m (B f) []) (by rw [packL_length _ _ _ (by simp [LP.sum, b_size]; omega), List.length_replicate]))
  have hb2 := below_setRow hb1 (Nat.le_refl _) (byteCells (packL m (B f) [])).toArray
  generalize w1.setRow w.heap.size (byteCells (packL m (B f) [])).toArray = w2 at *
  clear mk hW1 hb1 HWR
  go_wp2_with fail
  clear cp
  go_loopw [10, 12, 33] (fun ev cv iv wr => ∃ k : Nat, k ≤ n ∧ iv = .int .i64 k ∧ ev = .int .i64 (f.size + LP.sum (Bs (l.take k)) : Nat) ∧ Hid (Writ wr w.heap.size (packL m (B f) (Bs (l.take k))) (m - 2 * k)) ∧ Below w.heap.size w wr) (fun _ _ iv _ => n - (intOf iv).toNat)
  case atStart => exact ⟨0, Nat.zero_le _, rfl, by simp [Bs, LP.sum], HW2, hb2⟩
  case round =>
    obtain ⟨k, hk, rfl, rfl, HW, hbw⟩ := hrel
    have hz := HQ.out k
    have hlt2 : (l.take k).length = k := by rw [List.length_take, ← HN.out]; omega
    obtain ⟨e, he⟩ : ∃ e, f.size + LP.sum (Bs (l.take k)) = e := ⟨_, rfl⟩
    rw [he] at hz ⊢
    obtain ⟨a, ha⟩ : ∃ a, a = m - 2 * k - 2 := ⟨_, rfl⟩
    rw [show m - 2 * k = a + 2 by omega] at HW
    have hml : (packL m (B f) (Bs (l.take k))).length = m := packL_length _ _ _ (by rw [b_size, bs_length, hlt2]; omega)
    have HTL := Lib.hid (tell_any w.heap.size a e _ wr HW (by rw [hml]; omega) (by omega) (by omega))
    by_cases hlt : k < n
    · obtain ⟨c, hc⟩ : ∃ c, l[k]? = some c := ⟨_, List.getElem?_eq_getElem (by have := HN.out; omega)⟩
      have hz2 := HQ.out (k + 1)
      have hst := sum_take l k c hc
      rw [hst] at hz2
      have HE2 : Hid (f.size + LP.sum (Bs (l.take (k + 1))) = e + c.size) := Lib.hid (by rw [hst, ← he]; omega)
      have HTC : Hid ((tellL (packL m (B f) (Bs (l.take k))) a e).take e ++ B c ++ (tellL (packL m (B f) (Bs (l.take k))) a e).drop (e + c.size) = packL m (B f) (Bs (l.take (k + 1)))) := Lib.hid (by
        have h1 : (B f).length + LP.sum (Bs (l.take k)) = e := by rw [b_size]; exact he
        have h2 : (Bs (l.take k)).length = k := by rw [bs_length, hlt2]
        have h3 := packL_tell m (B f) (Bs (l.take k)) (by rw [h1, h2]; omega)
        rw [h1, h2, ← ha] at h3
        have h4 := packL_copy m (B f) (Bs (l.take k)) (B c) (tellL (packL m (B f) (Bs (l.take k))) a e) (by rw [h1, h2, b_size]; omega) (by rw [h3, h1, h2])
        rw [h1, b_size] at h4
        rw [bs_snoc l k c hc]
        exact h4)
      have hml2 : (packL m (B f) (Bs (l.take (k + 1)))).length = m := by
        rw [← HTC.out]
        simp only [List.length_append, List.length_take, List.length_drop, tellL_length, hml, b_size]
        omega
      obtain ⟨A0, rfl, hab, hcell⟩ := (HA.out.below hbw) k c hc
      have HCL : Hid (∀ V, Below w.heap.size wr V → V.cell? (A0.add k) = some (.string c)) := Lib.hid (fun V hb => (hb.cell (by rw [addr_block]; exact hab)).trans hcell)
      have hml3 := tellL_length (packL m (B f) (Bs (l.take k))) a e
      rw [hml] at hml3
      obtain ⟨T, hT⟩ : ∃ T, tellL (packL m (B f) (Bs (l.take k))) a e = T := ⟨_, rfl⟩
      rw [hT] at HTL HTC hml3
      have hle : e ≤ m := by omega
      have hec : e + c.size ≤ m := by omega
      clear hT hc hst he hlt2 hab hml HW hz2
      go_wp2_with fail
      refine HTL.out.mono ?_
      rintro r w1 ⟨rfl, hW1, hb1⟩
      have hcell := HCL.out _ hb1
      have cp := copy_run hW1.out (o := e) (n := m - e) (s := c) (by omega) (by rw [hml3]; omega) (m - e)
      rw [HTC.out] at cp
      have HW2 := Lib.hid (writ_row hW1.out (M := packL m (B f) (Bs (l.take (k + 1)))) (by rw [hml2, hml3]))
      have hb2 := below_setRow (hbw.trans hb1) (Nat.le_refl _) (byteCells (packL m (B f) (Bs (l.take (k + 1))))).toArray
      generalize w1.setRow w.heap.size (byteCells (packL m (B f) (Bs (l.take (k + 1))))).toArray = w2 at *
      have hsum : IntKind.i64.wrap ((e : Int) + c.size) = (e : Int) + c.size := IntWalk.i64_in _ (by omega)
      clear hW1 hb1
      go_wp2_with fail
      go_roundw
      case rel => exact ⟨k + 1, by omega, by go_num, by rw [HE2.out]; go_num, by rw [show m - 2 * (k + 1) = a by omega]; exact HW2, hb2⟩
      case measure => simp [intOf]; omega
    · obtain rfl : k = n := by omega
      have HTC : Hid (tellL (packL m (B f) (Bs (l.take k))) a e = (LP.pack m (B f) (Bs l))) := Lib.hid (by
        have h1 : (B f).length + LP.sum (Bs (l.take k)) = e := by rw [b_size]; exact he
        have h2 : (Bs (l.take k)).length = k := by rw [bs_length, hlt2]
        have h3 := packL_all m (B f) (Bs (l.take k)) (by unfold LP.need; rw [h2]; omega)
        rw [h1, h2, ← ha] at h3
        rw [HN.out, List.take_length] at h3 ⊢
        exact h3)
      have hml3 : (LP.pack m (B f) (Bs l)).length = m := by rw [← HTC.out, tellL_length, hml]
      rw [HTC.out] at HTL
      have hPP : (⟨(LP.pack m (B f) (Bs l)).toArray⟩ : ByteArray) = P := HP.out
      generalize LP.pack m (B f) (Bs l) = T at *
      clear he hlt2 hml HW
      go_wp2_with fail
      refine HTL.out.mono ?_
      rintro r w1 ⟨rfl, hW1, hb1⟩
      have cv := conv_row (P := Tryz.prog) (t := 86) (e := 5) (s := 9) Tryz.underlying86 Tryz.underlying5 Tryz.underlying9 hW1.out.1 m
      rw [hml3, hPP] at cv
      go_wp2_with fail
      go_ret2
      exact ⟨rfl, hbw.trans hb1⟩
end Go.Proofs.YtpeghilfldpgfaaGreatDoor.L8
namespace Go.Proofs.YtpeghilfldpgfaaGreatDoor.L8
open Go.Proofs.YtpeghilfldpgfaaGreatDoor.L5
open Go.RowKit
set_option linter.unusedVariables false
set_option linter.unusedSimpArgs false
def cutB (b : ByteArray) (i : Nat) : ByteArray := b.extract (LP.at_ (B b) i) (LP.at_ (B b) (i + 1))
def cellsB (b : ByteArray) (n : Nat) : List ByteArray := (List.range n).map (cutB b)
theorem cellsB_length (b : ByteArray) (n : Nat) : (cellsB b n).length = n := by simp [cellsB]
theorem cellsB_succ (b : ByteArray) (n : Nat) : cellsB b (n + 1) = cellsB b n ++ [cutB b n] := by simp [cellsB, List.range_succ]
theorem bs_cellsB (b : ByteArray) (n : Nat) : Bs (cellsB b n) = LP.cells (B b) n := by
  simp only [Bs, cellsB, LP.cells, List.map_map]
  congr 1
  funext i
  exact b_extract b _ _
theorem cellsB_size (b : ByteArray) (n : Nat) : ∀ s ∈ cellsB b n, s.size ≤ b.size := fun s hs => by
  obtain ⟨i, _, rfl⟩ := List.mem_map.1 hs
  simp only [cutB, ByteArray.size_extract]
  omega
theorem good_at {b : List UInt8} {k n : Nat} (hb : b.length < 65536) (h : LP.good b k n) (i : Nat) (hi : i < n) : LP.at_ b i ≤ LP.at_ b (i + 1) ∧ LP.at_ b (i + 1) ≤ b.length := by
  obtain ⟨h1, h2, h3⟩ := h
  have hk : (b.take k).length = k := by rw [List.length_take]; omega
  have hn : (LP.cells b n).length = n := LP.cells_length b n
  have e1 := LP.at_pack b.length (b.take k) (LP.cells b n) hb (by rw [hk]; exact h2) i (by omega)
  have e2 := LP.at_pack b.length (b.take k) (LP.cells b n) hb (by rw [hk]; exact h2) (i + 1) (by omega)
  rw [h3, hk] at e1 e2
  have h4 := LP.sum_take_succ (LP.cells b n) i (by omega)
  have h5 := LP.sum_take_le (LP.cells b n) (i + 1)
  unfold LP.need at h2
  unfold LP.place at e1 e2
  omega
theorem good_few {b : List UInt8} {k n : Nat} (h : LP.good b k n) : k + 2 + 2 * n ≤ b.length := by
  have h2 := h.2.1
  unfold LP.need at h2
  rw [LP.cells_length] at h2
  omega
theorem unpack_end (b : ByteArray) (k n : Nat) (hb : b.size ≤ 65535) (hk : k ≤ b.size) :
    (LP.good (B b) k n ∧ packV b.size (b.extract 0 k) (cellsB b n) = .tuple #[.string b, .int .i64 0]) ∨
    (¬ LP.good (B b) k n ∧ packV b.size (b.extract 0 k) (cellsB b n) = .tuple #[.string ⟨#[]⟩, .int .i64 8]) ∨
    (¬ LP.good (B b) k n ∧ ∃ P : ByteArray, P ≠ b ∧ packV b.size (b.extract 0 k) (cellsB b n) = .tuple #[.string P, .int .i64 0]) := by
  have hf : B (b.extract 0 k) = (B b).take k := by rw [b_extract]; simp
  have hfs : (b.extract 0 k).size = k := by simp; omega
  have hbl : (B b).length = b.size := b_size b
  unfold packV packS
  rw [if_neg (by omega), hfs, bs_cellsB, hf, Int.toNat_natCast]
  by_cases h1 : (b.size : Int) < (LP.need k (LP.cells (B b) n) : Nat)
  · right; left
    refine ⟨fun h => ?_, by rw [if_pos h1]⟩
    have := h.2.1
    omega
  · rw [if_neg h1]
    by_cases h2 : LP.pack b.size ((B b).take k) (LP.cells (B b) n) = B b
    · left
      refine ⟨⟨by omega, by omega, by rw [hbl]; exact h2⟩, ?_⟩
      rw [h2]
    · right; right
      refine ⟨fun h => h2 (by have := h.2.2; rwa [hbl] at this), _, fun e => h2 ?_, rfl⟩
      have e3 := congrArg B e
      simpa [B] using e3
def Unp (b : ByteArray) (k n : Int) (w : World) (e : Ending) (w' : World) : Prop :=
  ((k < 0 ∨ n < 0 ∨ 65535 < b.size) ∧ e = .returned (.tuple #[.slice none 0 0, .int .i64 4])) ∨
  (¬ (k < 0 ∨ n < 0 ∨ 65535 < b.size) ∧ ¬ LP.good (B b) k.toNat n.toNat ∧ e = .returned (.tuple #[.slice none 0 0, .int .i64 3])) ∨
  (¬ (k < 0 ∨ n < 0 ∨ 65535 < b.size) ∧ LP.good (B b) k.toNat n.toNat ∧ ∃ g cap, e = .returned (.tuple #[.slice (some ⟨g, 0, none⟩) n.toNat cap, .int .i64 0]) ∧ w.heap.size ≤ g ∧ n.toNat ≤ cap ∧ Lies w' w'.heap.size (some ⟨g, 0, none⟩) (cellsB b n.toNat))
end Go.Proofs.YtpeghilfldpgfaaGreatDoor.L8
namespace Go.Proofs.YtpeghilfldpgfaaGreatDoor.L12
open Go.RowKit CP
set_option linter.unusedVariables false
set_option linter.unusedSimpArgs false
theorem quiet_of_eq {P : Program} {f : FuncId} {args : Array Value} {w : World} {n : Nat} {v : Value}
    (h : Calls P f args (w.drewN n) fun e w' => e = .returned v ∧ w.drewN n = w') : Calls P f args (w.drewN n) fun e w'' => e = .returned v ∧ ∃ m, w'' = w.drewN m :=
  h.mono fun _ _ ⟨he, hm⟩ => ⟨he, n, hm.symm⟩
theorem room_any (p : Int) (w : World) (hp : 128 ≤ p ∧ p ≤ 1024) : Calls Tryz.prog 179 #[.int .i64 p] w fun e w' => e = .returned (.int .i64 (p - 16)) ∧ w = w' := by
  have hw : IntKind.i64.wrap (p - 16) = p - 16 := IntWalk.i64_in _ (by omega)
  clear hp
  go_enter Tryz.func179, Tryz.ntmps179
  go_wp2_with fail
  go_ret
  exact ⟨rfl, rfl⟩
theorem rsize_any (F N : Int) (D : ByteArray) (p : Int) (w : World) (hs : L7.Sizes w) : Calls Tryz.prog 127 #[cv F N D, .int .i64 p] w fun e w' => e = .returned (.bool (L7.mayBe p)) ∧ Below w.heap.size w w' := by
  have hb := cbox_below 31 F N D w
  have HB := Lib.hid hb
  have HS := Lib.hid (L7.size_any p _ (hs.below hs.lt hb))
  generalize L7.mayBe p = b at *
  clear hb hs
  go_enter Tryz.func127, Tryz.ntmps127
  go_wp2_with fail
  refine HS.out.mono ?_
  rintro e w2 ⟨rfl, rfl⟩
  go_wp2_with fail
  go_ret
  exact ⟨rfl, HB.out⟩
set_option maxHeartbeats 1000000 in
theorem rnumbers_any (F N : Int) (D : ByteArray) (p : Int) (w : World) : Calls Tryz.prog 128 #[cv F N D, .int .i64 p] w fun e w' => e = .returned (.bool (decide (NumOk F N))) ∧ Below w.heap.size w w' := by
  have HB := Lib.hid (cbox_below 31 F N D w)
  rcases (show NumOk F N ∨ F < 1 ∨ (1 ≤ F ∧ 4095 < F) ∨ (1 ≤ F ∧ F ≤ 4095 ∧ N < 0) ∨ (1 ≤ F ∧ F ≤ 4095 ∧ 0 ≤ N ∧ 4095 < N) ∨ (1 ≤ F ∧ F ≤ 4095 ∧ 0 ≤ N ∧ N ≤ 4095 ∧ N = F) by unfold NumOk; omega) with h | h | h | h | h | h
  · rw [decide_eq_true h]
    unfold NumOk at h
    have d1 : decide (1 ≤ F) = true := decide_eq_true (by omega)
    have d2 : decide (F ≤ 4095) = true := decide_eq_true (by omega)
    have d3 : decide (0 ≤ N) = true := decide_eq_true (by omega)
    have d4 : decide (N ≤ 4095) = true := decide_eq_true (by omega)
    have d5 : (N != F) = true := by simp; omega
    clear h
    go_enter Tryz.func128, Tryz.ntmps128
    go_wp2_with fail
    go_ret
    exact ⟨rfl, HB.out⟩
  · rw [decide_eq_false (show ¬ NumOk F N by unfold NumOk; omega)]
    have d1 : decide (1 ≤ F) = false := decide_eq_false (by omega)
    clear h
    go_enter Tryz.func128, Tryz.ntmps128
    go_wp2_with fail
    go_ret
    exact ⟨rfl, HB.out⟩
  · rw [decide_eq_false (show ¬ NumOk F N by unfold NumOk; omega)]
    have d1 : decide (1 ≤ F) = true := decide_eq_true (by omega)
    have d2 : decide (F ≤ 4095) = false := decide_eq_false (by omega)
    clear h
    go_enter Tryz.func128, Tryz.ntmps128
    go_wp2_with fail
    go_ret
    exact ⟨rfl, HB.out⟩
  · rw [decide_eq_false (show ¬ NumOk F N by unfold NumOk; omega)]
    have d1 : decide (1 ≤ F) = true := decide_eq_true (by omega)
    have d2 : decide (F ≤ 4095) = true := decide_eq_true (by omega)
    have d3 : decide (0 ≤ N) = false := decide_eq_false (by omega)
    clear h
    go_enter Tryz.func128, Tryz.ntmps128
    go_wp2_with fail
    go_ret
    exact ⟨rfl, HB.out⟩
  · rw [decide_eq_false (show ¬ NumOk F N by unfold NumOk; omega)]
    have d1 : decide (1 ≤ F) = true := decide_eq_true (by omega)
    have d2 : decide (F ≤ 4095) = true := decide_eq_true (by omega)
    have d3 : decide (0 ≤ N) = true := decide_eq_true (by omega)
    have d4 : decide (N ≤ 4095) = false := decide_eq_false (by omega)
    clear h
    go_enter Tryz.func128, Tryz.ntmps128
    go_wp2_with fail
    go_ret
    exact ⟨rfl, HB.out⟩
  · rw [decide_eq_false (show ¬ NumOk F N by unfold NumOk; omega)]
    have d1 : decide (1 ≤ F) = true := decide_eq_true (by omega)
    have d2 : decide (F ≤ 4095) = true := decide_eq_true (by omega)
    have d3 : decide (0 ≤ N) = true := decide_eq_true (by omega)
    have d4 : decide (N ≤ 4095) = true := decide_eq_true (by omega)
    have d5 : (N != F) = false := by simp; omega
    clear h
    go_enter Tryz.func128, Tryz.ntmps128
    go_wp2_with fail
    go_ret
    exact ⟨rfl, HB.out⟩
set_option maxHeartbeats 2000000 in
theorem rdata_any (F N : Int) (D : ByteArray) (p : Int) (w : World) (hp : 128 ≤ p ∧ p ≤ 1024) : Calls Tryz.prog 129 #[cv F N D, .int .i64 p] w fun e w' => e = .returned (.bool (decide (DataOk N D.size p))) ∧ Below w.heap.size w w' := by
  have HB := Lib.hid (cbox_below 31 F N D w)
  have HBD : ∀ W, Below w.heap.size w W → ∀ n, Below w.heap.size w (W.drewN n) := fun W h n => L5.below_drewN h n
  have HR := Lib.hid (fun W => room_any p W hp)
  obtain ⟨r, HRS⟩ : ∃ r, Hid (r = decide (DataOk N D.size p)) := ⟨_, Lib.hid rfl⟩
  obtain ⟨c0, c1, c2⟩ := (cbox_new 31 F N D w).cells
  rw [← HRS.out]
  by_cases h0 : N = 0
  · subst h0
    by_cases h1 : 1 ≤ D.size
    · have d1 : decide ((1 : Int) ≤ (D.size : Int)) = true := decide_eq_true (by omega)
      have HX : Hid (r = decide ((D.size : Int) ≤ p - 16)) := Lib.hid (by rw [HRS.out]; unfold DataOk; exact decide_eq_decide.2 ⟨fun h => h.2.1, fun h => ⟨h1, h, .inl rfl⟩⟩)
      clear h1 hp
      go_enter Tryz.func129, Tryz.ntmps129
      go_wp2_with fail
      go_quiet ((go_at_call 179; exact quiet_of_eq (HR.out _)))
      go_wp2_with fail
      go_ret
      exact ⟨by rw [HX.out] <;> rfl, HBD _ HB.out _⟩
    · have d1 : decide ((1 : Int) ≤ (D.size : Int)) = false := decide_eq_false (by omega)
      have HX : Hid (r = false) := Lib.hid (by rw [HRS.out]; exact decide_eq_false (fun h => h1 h.1))
      clear h1 hp
      go_enter Tryz.func129, Tryz.ntmps129
      go_wp2_with fail
      go_quiet ((go_at_call 179; exact quiet_of_eq (HR.out _)))
      go_wp2_with fail
      go_ret
      exact ⟨by rw [HX.out] <;> rfl, HBD _ HB.out _⟩
  · have d0 : (N != 0) = true := by simpa using h0
    by_cases h1 : p - 16 ≤ (D.size : Int)
    · have d1 : decide (p - 16 ≤ (D.size : Int)) = true := decide_eq_true (by omega)
      have HX : Hid (r = decide ((D.size : Int) ≤ p - 16)) := Lib.hid (by rw [HRS.out]; unfold DataOk; exact decide_eq_decide.2 ⟨fun h => h.2.1, fun h => ⟨by omega, h, .inr (by omega)⟩⟩)
      clear h1 hp h0
      go_enter Tryz.func129, Tryz.ntmps129
      go_wp2_with fail
      refine (HR.out _).mono ?_
      rintro e w2 ⟨rfl, rfl⟩
      go_wp2_with fail
      go_quiet ((go_at_call 179; exact quiet_of_eq (HR.out _)))
      go_wp2_with fail
      go_ret
      exact ⟨by rw [HX.out] <;> rfl, HBD _ HB.out _⟩
    · have d1 : decide (p - 16 ≤ (D.size : Int)) = false := decide_eq_false (by omega)
      have HX : Hid (r = false) := Lib.hid (by rw [HRS.out]; exact decide_eq_false (fun h => by unfold DataOk at h; omega))
      clear h1 hp h0
      go_enter Tryz.func129, Tryz.ntmps129
      go_wp2_with fail
      refine (HR.out _).mono ?_
      rintro e w2 ⟨rfl, rfl⟩
      go_wp2_with fail
      go_quiet ((go_at_call 179; exact quiet_of_eq (HR.out _)))
      go_wp2_with fail
      go_ret
      exact ⟨by rw [HX.out] <;> rfl, HBD _ HB.out _⟩
end Go.Proofs.YtpeghilfldpgfaaGreatDoor.L12
namespace Go.Proofs.YtpeghilfldpgfaaGreatDoor.L13
open Go.RowKit
set_option linter.unusedVariables false
set_option linter.unusedSimpArgs false
theorem eqM (P G R L C P' G' R' L' C' : Int) (W : World) : (binOp .eql 33 (mv P G R L C) (mv P' G' R' L' C')).run Tryz.prog W = .ok (.bool (P == P' && G == G' && R == R' && L == L' && C == C')) W := by
  rw [run_eql_struct]
  simp [go_sem, Tryz.underlying33]
  by_cases h1 : P = P'
  · by_cases h2 : G = G'
    · by_cases h3 : R = R'
      · by_cases h4 : L = L'
        · by_cases h5 : C = C'
          · simp [h1, h2, h3, h4, h5]
          · simp [h1, h2, h3, h4, h5]
        · simp [h1, h2, h3, h4]
      · simp [h1, h2, h3]
    · simp [h1, h2]
  · simp [h1]
end Go.Proofs.YtpeghilfldpgfaaGreatDoor.L13
