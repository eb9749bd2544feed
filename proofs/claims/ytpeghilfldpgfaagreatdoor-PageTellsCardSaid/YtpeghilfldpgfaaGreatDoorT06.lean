import Derived.Test.YtpeghilfldpgfaaGreatDoorT05
import Derived.IntWalk
set_option linter.unusedVariables false
set_option linter.unusedSimpArgs false
set_option maxHeartbeats 8000000
set_option maxRecDepth 100000
namespace Go.Proofs.YtpeghilfldpgfaaGreatDoor.L8
open Go.Proofs.YtpeghilfldpgfaaGreatDoor.L5
open Go.RowKit
theorem made_zero (m : Nat) (i : Nat) (hi : i = 1) : madeCells (Value.int .u8 0).cells (((m : Nat) : Int).toNat * i) = (byteCells (List.replicate m 0)).toArray := by
 subst hi; apply Array.toList_inj.1; apply List.ext_getElem
 ·simp [madeCells, byteCells]
 ·intro i h1 h2
  simp [madeCells, Value.cells, Nat.mod_one, byteCells]
theorem writ_row {w : World} {g a : Nat} {L M : List UInt8} (h : Writ w g L a) (hl : M.length = L.length) : Writ (w.setRow g (byteCells M).toArray) g M a := by
 obtain ⟨h1, h2, h3⟩ := h; refine ⟨setRow_heap w g _ _ _ _ h1, ?_, ?_⟩
 ·rw [hl]; exact (setRow_other w g _ _ (by omega)).trans h2
 ·exact (setRow_other w g _ _ (by omega)).trans h3
theorem copy_run {w : World} {g a o n : Nat} {L : List UInt8} {s : ByteArray} (h : Writ w g L a) (hle : s.size ≤ n) (hfit : o + s.size ≤ L.length) (cap : Nat) :
  (Builtin.copy_ #[86, 9] 3 #[.slice (some ⟨g, o, none⟩) n cap, .string s]).run Tryz.prog w = .ok (goInt s.size) (w.setRow g (byteCells (L.take o ++ B s ++ L.drop (o + s.size))).toArray) := by
 obtain ⟨i0, hi, hz0, hz1, hz2⟩ := info_parts Tryz.infoByte
 have hsz : (Tryz.prog.info? 5).map (·.size) = some 1 := by rw [hi]; simp [hz1]
 have cp := Lib.run_copy_row_string (P := Tryz.prog) w 86 9 3 5 g o n cap s _ 5 Tryz.underlying86 hsz h.1 hle (by simpa [byteCells] using hfit); rw [cp]
 congr 3
 simp [byteCells, Lib.byteCells, B]
theorem pack_any (room : Int) (f : ByteArray) (A : Option Addr) (l : List ByteArray) (ca : Nat) (w : World) (ha : Lies w w.heap.size A l) (hl : l.length ≤ 1000000) (hf : f.size ≤ 1000000) (hs : ∀ s ∈ l, s.size ≤ 65535) :
  Calls Tryz.prog 67 #[.int .i64 room, .string f, .slice A l.length ca] w fun e w' => e = .returned (packV room f l) ∧ Below w.heap.size w w' := by
 have HSZ := zj (size_any f A l ca w ha hl hf hs); by_cases h1 : room < 0
 ·have hv : packV room f l = .tuple #[.string ⟨#[]⟩, .int .i64 4] := by unfold packV; rw [if_pos (.inl h1)]
  rw [hv]; clear hv; go_enter Tryz.func67, Tryz.ntmps67; go_wp2_with fail
  go_ret2
  exact ⟨rfl, Below.refl _ _⟩
 by_cases h2 : 65535 < room
 ·have hv : packV room f l = .tuple #[.string ⟨#[]⟩, .int .i64 4] := by unfold packV; rw [if_pos (.inr h2)]
  rw [hv]; clear hv; go_enter Tryz.func67, Tryz.ntmps67; go_wp2_with fail
  go_ret2
  exact ⟨rfl, Below.refl _ _⟩
 by_cases h3 : room < (LP.need f.size (Bs l) : Nat)
 ·have hv : packV room f l = .tuple #[.string ⟨#[]⟩, .int .i64 8] := by unfold packV; rw [if_neg (by omega), if_pos h3]
  rw [hv]; clear hv; generalize LP.need f.size (Bs l) = q at *; go_enter Tryz.func67, Tryz.ntmps67; go_wp2_with fail; refine HSZ.out.mono ?_; rintro e w1 ⟨rfl, rfl⟩; go_wp2_with fail
  go_ret2
  exact ⟨rfl, Below.refl _ _⟩
 obtain ⟨m, rfl⟩ := Int.eq_ofNat_of_zero_le (show 0 ≤ room by omega)
 have hv : packV m f l = .tuple #[.string (packS m f l), .int .i64 0] := by unfold packV; rw [if_neg (by omega), if_neg h3, Int.toNat_natCast]
 rw [hv]; clear hv; obtain ⟨P, hP⟩ : ∃ P, packS m f l = P := ⟨_, rfl⟩; have HP := zj hP; rw [hP]; have HA := zj ha; obtain ⟨n, hn⟩ : ∃ n, n = l.length := ⟨_, rfl⟩; have HN := zj hn; have HNEED : Hid (LP.need f.size (Bs l) ≤ m) := zj (by omega)
 have HQ : Hid (∀ k, f.size + LP.sum (Bs (l.take k)) + 2 * n + 2 ≤ m) := zj (fun k => by
  have h5 := HNEED.out; unfold LP.need at h5; rw [bs_length, ← hn] at h5
  have h6 : Bs (l.take k) = (Bs l).take k := by simp [Bs]
  have h7 := LP.sum_take_le (Bs l) k; rw [h6]
  omega)
 rw [← hn] at HSZ hl ⊢; obtain ⟨q, hq⟩ : ∃ q, LP.need f.size (Bs l) = q := ⟨_, rfl⟩; rw [hq] at HSZ h3; have hd1 : decide (m < q) = false := dF (by omega); have hd2 : decide ((m : Int) < (q : Int)) = false := dF (by omega); obtain ⟨i0, hi, hz0, hz1, hz2⟩ := info_parts Tryz.infoByte
 have mk : ∀ W : World, (Instr.makeSlice 86 (.int .i64 (m : Int)) (.int .i64 (m : Int))).run Tryz.prog W = .ok (.slice (some ⟨W.heap.size, 0, none⟩) m m) (W.alloc (.cells (byteCells (List.replicate m 0)).toArray 5)) := fun W => by
  have h := run_make (P := Tryz.prog) W 86 5 i0 (.int .u8 0) Tryz.underlying86 hi hz0 .i64 .i64 (m : Int) (m : Int) (by omega) (by omega) (by rw [hz2]; omega) (by omega); rw [made_zero m _ hz1] at h
  simpa using h
 have HWR : Hid (Calls Tryz.prog 121 #[.slice (some ⟨w.heap.size, 0, none⟩) m m] (w.alloc (.cells (byteCells (List.replicate m 0)).toArray 5)) fun e w' => e = .returned (.func (.func 175) #[] #[.pointer (some ⟨w.heap.size + 2, 0, none⟩), .pointer (some ⟨w.heap.size + 1, 0, none⟩)]) ∧ Hid (Writ w' w.heap.size (List.replicate m 0) m) ∧ Below w.heap.size w w') := zj (by
  have h := writer_any w.heap.size (List.replicate m 0) (w.alloc (.cells (byteCells (List.replicate m 0)).toArray 5)) (heap_alloc_new _ _) (by simp); rw [List.length_replicate] at h
  exact h.mono fun e w' ⟨h1, h2, h3⟩ => ⟨h1, h2, (below_alloc w _).trans h3⟩)
 have hq0 := HQ.out 0; clear ha hs hn hP hq hi hz0 hz1 hz2; go_enter Tryz.func67, Tryz.ntmps67; go_wp2_with fail; refine HSZ.out.mono ?_; rintro e w1 ⟨rfl, rfl⟩; go_wp2_with fail; refine HWR.out.mono ?_; rintro e w1 ⟨rfl, hW1, hb1⟩; have cp := copy_run hW1.out (o := 0) (n := m) (s := f) (by omega) (by simp; omega) m; rw [← b_size f, packL_none m (B f), b_size f] at cp; have HW2 := zj (writ_row hW1.out (M := packL m (B f) []) (by rw [packL_length _ _ _ (by simp [LP.sum, b_size]; omega), List.length_replicate])); have hb2 := below_setRow hb1 (Nat.le_refl _) (byteCells (packL m (B f) [])).toArray; generalize w1.setRow w.heap.size (byteCells (packL m (B f) [])).toArray = w2 at *; clear mk hW1 hb1 HWR; go_wp2_with fail; clear cp
 go_loopw [10, 12, 33] (fun ev cv iv wr => ∃ k : Nat, k ≤ n ∧ iv = .int .i64 k ∧ ev = .int .i64 (f.size + LP.sum (Bs (l.take k)) : Nat) ∧ Hid (Writ wr w.heap.size (packL m (B f) (Bs (l.take k))) (m - 2 * k)) ∧ Below w.heap.size w wr) (fun _ _ iv _ => n - (intOf iv).toNat)
 case atStart => exact ⟨0, Nat.zero_le _, rfl, by simp [Bs, LP.sum], HW2, hb2⟩
 case round =>
  obtain ⟨k, hk, rfl, rfl, HW, hbw⟩ := hrel; have hz := HQ.out k
  have hlt2 : (l.take k).length = k := by rw [List.length_take, ← HN.out]; omega
  obtain ⟨e, he⟩ : ∃ e, f.size + LP.sum (Bs (l.take k)) = e := ⟨_, rfl⟩; rw [he] at hz ⊢; obtain ⟨a, ha⟩ : ∃ a, a = m - 2 * k - 2 := ⟨_, rfl⟩; rw [show m - 2 * k = a + 2 by omega] at HW; have hml : (packL m (B f) (Bs (l.take k))).length = m := packL_length _ _ _ (by rw [b_size, bs_length, hlt2]; omega); have HTL := zj (tell_any w.heap.size a e _ wr HW (by rw [hml]; omega) (by omega) (by omega)); by_cases hlt : k < n
  ·obtain ⟨c, hc⟩ : ∃ c, l[k]? = some c := ⟨_, List.getElem?_eq_getElem (by have := HN.out; omega)⟩
   have hz2 := HQ.out (k + 1); have hst := sum_take l k c hc; rw [hst] at hz2; have HE2 : Hid (f.size + LP.sum (Bs (l.take (k + 1))) = e + c.size) := zj (by rw [hst, ← he]; omega)
   have HTC : Hid ((tellL (packL m (B f) (Bs (l.take k))) a e).take e ++ B c ++ (tellL (packL m (B f) (Bs (l.take k))) a e).drop (e + c.size) = packL m (B f) (Bs (l.take (k + 1)))) := zj (by
    have h1 : (B f).length + LP.sum (Bs (l.take k)) = e := by rw [b_size]; exact he
    have h2 : (Bs (l.take k)).length = k := by rw [bs_length, hlt2]
    have h3 := packL_tell m (B f) (Bs (l.take k)) (by rw [h1, h2]; omega); rw [h1, h2, ← ha] at h3; have h4 := packL_copy m (B f) (Bs (l.take k)) (B c) (tellL (packL m (B f) (Bs (l.take k))) a e) (by rw [h1, h2, b_size]; omega) (by rw [h3, h1, h2]); rw [h1, b_size] at h4; rw [bs_snoc l k c hc]
    exact h4)
   have hml2 : (packL m (B f) (Bs (l.take (k + 1)))).length = m := by
    rw [← HTC.out]; simp only [List.length_append, List.length_take, List.length_drop, tellL_length, hml, b_size]; omega
   obtain ⟨A0, rfl, hab, hcell⟩ := (HA.out.below hbw) k c hc; have HCL : Hid (∀ V, Below w.heap.size wr V → V.cell? (A0.add k) = some (.string c)) := zj (fun V hb => (hb.cell (by rw [addr_block]; exact hab)).trans hcell); have hml3 := tellL_length (packL m (B f) (Bs (l.take k))) a e; rw [hml] at hml3; obtain ⟨T, hT⟩ : ∃ T, tellL (packL m (B f) (Bs (l.take k))) a e = T := ⟨_, rfl⟩; rw [hT] at HTL HTC hml3
   have hle : e ≤ m := by omega
   have hec : e + c.size ≤ m := by omega
   clear hT hc hst he hlt2 hab hml HW hz2; go_wp2_with fail; refine HTL.out.mono ?_; rintro r w1 ⟨rfl, hW1, hb1⟩; have hcell := HCL.out _ hb1; have cp := copy_run hW1.out (o := e) (n := m - e) (s := c) (by omega) (by rw [hml3]; omega) (m - e); rw [HTC.out] at cp; have HW2 := zj (writ_row hW1.out (M := packL m (B f) (Bs (l.take (k + 1)))) (by rw [hml2, hml3])); have hb2 := below_setRow (hbw.trans hb1) (Nat.le_refl _) (byteCells (packL m (B f) (Bs (l.take (k + 1))))).toArray; generalize w1.setRow w.heap.size (byteCells (packL m (B f) (Bs (l.take (k + 1))))).toArray = w2 at *; have hsum : IntKind.i64.wrap ((e : Int) + c.size) = (e : Int) + c.size := IntWalk.i64_in _ (by omega); clear hW1 hb1; go_wp2_with fail
   go_roundw
   case rel => exact ⟨k + 1, by omega, by go_num, by rw [HE2.out]; go_num, by rw [show m - 2 * (k + 1) = a by omega]; exact HW2, hb2⟩
   case measure => simp [intOf]; omega
  ·obtain rfl : k = n := by omega
   have HTC : Hid (tellL (packL m (B f) (Bs (l.take k))) a e = (LP.pack m (B f) (Bs l))) := zj (by
    have h1 : (B f).length + LP.sum (Bs (l.take k)) = e := by rw [b_size]; exact he
    have h2 : (Bs (l.take k)).length = k := by rw [bs_length, hlt2]
    have h3 := packL_all m (B f) (Bs (l.take k)) (by unfold LP.need; rw [h2]; omega); rw [h1, h2, ← ha] at h3; rw [HN.out, List.take_length] at h3 ⊢
    exact h3)
   have hml3 : (LP.pack m (B f) (Bs l)).length = m := by rw [← HTC.out, tellL_length, hml]
   rw [HTC.out] at HTL; have hPP : (⟨(LP.pack m (B f) (Bs l)).toArray⟩ : ByteArray) = P := HP.out; generalize LP.pack m (B f) (Bs l) = T at *; clear he hlt2 hml HW; go_wp2_with fail; refine HTL.out.mono ?_; rintro r w1 ⟨rfl, hW1, hb1⟩; have cv := conv_row (P := Tryz.prog) (t := 86) (e := 5) (s := 9) Tryz.underlying86 Tryz.underlying5 Tryz.underlying9 hW1.out.1 m; rw [hml3, hPP] at cv; go_wp2_with fail
   go_ret2
   exact ⟨rfl, hbw.trans hb1⟩
def cutB (b : ByteArray) (i : Nat) : ByteArray := b.extract (LP.at_ (B b) i) (LP.at_ (B b) (i + 1))
def cellsB (b : ByteArray) (n : Nat) : List ByteArray := (List.range n).map (cutB b)
theorem cellsB_length (b : ByteArray) (n : Nat) : (cellsB b n).length = n := by simp [cellsB]
theorem cellsB_succ (b : ByteArray) (n : Nat) : cellsB b (n + 1) = cellsB b n ++ [cutB b n] := by simp [cellsB, List.range_succ]
theorem bs_cellsB (b : ByteArray) (n : Nat) : Bs (cellsB b n) = LP.cells (B b) n := by
 simp only [Bs, cellsB, LP.cells, List.map_map]
 congr 1
 funext i
 exact b_extract b _ _
theorem cellsB_size (b : ByteArray) (n : Nat) : ∀ s ∈ cellsB b n, s.size ≤ b.size := fun s hs => by
 obtain ⟨i, _, rfl⟩ := List.mem_map.1 hs; simp only [cutB, ByteArray.size_extract]; omega
theorem good_at {b : List UInt8} {k n : Nat} (hb : b.length < 65536) (h : LP.good b k n) (i : Nat) (hi : i < n) : LP.at_ b i ≤ LP.at_ b (i + 1) ∧ LP.at_ b (i + 1) ≤ b.length := by
 obtain ⟨h1, h2, h3⟩ := h
 have hk : (b.take k).length = k := by rw [List.length_take]; omega
 have hn : (LP.cells b n).length = n := LP.cells_length b n; have e1 := LP.at_pack b.length (b.take k) (LP.cells b n) hb (by rw [hk]; exact h2) i (by omega); have e2 := LP.at_pack b.length (b.take k) (LP.cells b n) hb (by rw [hk]; exact h2) (i + 1) (by omega); rw [h3, hk] at e1 e2; have h4 := LP.sum_take_succ (LP.cells b n) i (by omega); have h5 := LP.sum_take_le (LP.cells b n) (i + 1); unfold LP.need at h2; unfold LP.place at e1 e2; omega
theorem good_few {b : List UInt8} {k n : Nat} (h : LP.good b k n) : k + 2 + 2 * n ≤ b.length := by
 have h2 := h.2.1; unfold LP.need at h2; rw [LP.cells_length] at h2; omega
theorem unpack_end (b : ByteArray) (k n : Nat) (hb : b.size ≤ 65535) (hk : k ≤ b.size) :
  (LP.good (B b) k n ∧ packV b.size (b.extract 0 k) (cellsB b n) = .tuple #[.string b, .int .i64 0]) ∨
  (¬ LP.good (B b) k n ∧ packV b.size (b.extract 0 k) (cellsB b n) = .tuple #[.string ⟨#[]⟩, .int .i64 8]) ∨
  (¬ LP.good (B b) k n ∧ ∃ P : ByteArray, P ≠ b ∧ packV b.size (b.extract 0 k) (cellsB b n) = .tuple #[.string P, .int .i64 0]) := by
 have hf : B (b.extract 0 k) = (B b).take k := by rw [b_extract]; simp
 have hfs : (b.extract 0 k).size = k := by simp; omega
 have hbl : (B b).length = b.size := b_size b; unfold packV packS; rw [if_neg (by omega), hfs, bs_cellsB, hf, Int.toNat_natCast]; by_cases h1 : (b.size : Int) < (LP.need k (LP.cells (B b) n) : Nat)
 ·right; left
  refine ⟨fun h => ?_, by rw [if_pos h1]⟩; have := h.2.1; omega
 ·rw [if_neg h1]
  by_cases h2 : LP.pack b.size ((B b).take k) (LP.cells (B b) n) = B b
  ·left
   refine ⟨⟨by omega, by omega, by rw [hbl]; exact h2⟩, ?_⟩; rw [h2]
  ·right; right
   refine ⟨fun h => h2 (by have := h.2.2; rwa [hbl] at this), _, fun e => h2 ?_, rfl⟩; have e3 := congrArg B e
   simpa [B] using e3
def Unp (b : ByteArray) (k n : Int) (w : World) (e : Ending) (w' : World) : Prop :=
 ((k < 0 ∨ n < 0 ∨ 65535 < b.size) ∧ e = .returned (.tuple #[.slice none 0 0, .int .i64 4])) ∨
 (¬ (k < 0 ∨ n < 0 ∨ 65535 < b.size) ∧ ¬ LP.good (B b) k.toNat n.toNat ∧ e = .returned (.tuple #[.slice none 0 0, .int .i64 3])) ∨
 (¬ (k < 0 ∨ n < 0 ∨ 65535 < b.size) ∧ LP.good (B b) k.toNat n.toNat ∧ ∃ g cap, e = .returned (.tuple #[.slice (some ⟨g, 0, none⟩) n.toNat cap, .int .i64 0]) ∧ w.heap.size ≤ g ∧ n.toNat ≤ cap ∧ Lies w' w'.heap.size (some ⟨g, 0, none⟩) (cellsB b n.toNat))
theorem own_block {w : World} {base e n g cap : Nat} {xs : List Value} (h : w.ownsRow base e 1 (.slice (some ⟨g, 0, none⟩) n cap) n xs) (hn : 0 < n) : base ≤ g := by
 rcases h.2 with ⟨_, h0⟩ | ⟨g', c, cur, e, hb, _⟩
 ·omega
 ·simp only [Value.slice.injEq, Option.some.injEq, Addr.mk.injEq] at e
  omega
theorem unpack8_any (b : ByteArray) (kf n : Int) (w : World) (hk : (Lit.int .i64 kf).wf = true) (hn : (Lit.int .i64 n).wf = true) (hb : b.size ≤ maxLen) :
  Calls Tryz.prog 77 #[.string b, .int .i64 kf, .int .i64 n] w fun e w' => Unp b kf n w e w' ∧ Below w.heap.size w w' := by
 unfold maxLen at hb; by_cases a1 : kf < 0
 ·have HU := zj (fun e w' (h : e = .returned (.tuple #[.slice none 0 0, .int .i64 4])) => (.inl ⟨.inl a1, h⟩ : Unp b kf n w e w'))
  clear hk hn; go_enter Tryz.func77, Tryz.ntmps77; go_wp2_with fail
  go_ret2
  exact ⟨HU.out _ _ rfl, Below.refl _ _⟩
 by_cases a2 : n < 0
 ·have HU := zj (fun e w' (h : e = .returned (.tuple #[.slice none 0 0, .int .i64 4])) => (.inl ⟨.inr (.inl a2), h⟩ : Unp b kf n w e w'))
  clear hk hn; go_enter Tryz.func77, Tryz.ntmps77; go_wp2_with fail
  go_ret2
  exact ⟨HU.out _ _ rfl, Below.refl _ _⟩
 by_cases a3 : 65535 < b.size
 ·have HU := zj (fun e w' (h : e = .returned (.tuple #[.slice none 0 0, .int .i64 4])) => (.inl ⟨.inr (.inr a3), h⟩ : Unp b kf n w e w'))
  have d1 : decide (65535 < b.size) = true := dT a3; have d2 : decide ((65535 : Int) < (b.size : Int)) = true := dT (by omega); clear hk hn; go_enter Tryz.func77, Tryz.ntmps77; go_wp2_with fail
  go_ret2
  exact ⟨HU.out _ _ rfl, Below.refl _ _⟩
 obtain ⟨k, rfl⟩ := Int.eq_ofNat_of_zero_le (show 0 ≤ kf by omega); obtain ⟨n, rfl⟩ := Int.eq_ofNat_of_zero_le (show 0 ≤ n by omega)
 have hno : ¬ ((k : Int) < 0 ∨ (n : Int) < 0 ∨ 65535 < b.size) := by omega
 have HBAD : Hid (¬ LP.good (B b) k n → ∀ e w', e = .returned (.tuple #[.slice none 0 0, .int .i64 3]) → Unp b k n w e w') := zj (fun hg e w' h => .inr (.inl ⟨hno, hg, h⟩)); have HOK : Hid (LP.good (B b) k n → ∀ w' g cap, w.heap.size ≤ g → n ≤ cap → Lies w' w'.heap.size (some ⟨g, 0, none⟩) (cellsB b n) → Unp b k n w (.returned (.tuple #[.slice (some ⟨g, 0, none⟩) n cap, .int .i64 0])) w') := zj (fun hg w' g cap h1 h2 h3 => .inr (.inr ⟨hno, hg, g, cap, rfl, h1, h2, h3⟩)); have hbl : (B b).length = b.size := b_size b; have d1 : decide (65535 < b.size) = false := dF a3; have d2 : decide ((65535 : Int) < (b.size : Int)) = false := dF (by omega); clear hno hk hn; by_cases c1 : b.size < k
 ·have HB2 := zj (HBAD.out (fun h => by have := h.1; omega))
  have d3 : decide (b.size < k) = true := dT c1; have d4 : decide ((b.size : Int) < (k : Int)) = true := dT (by omega); clear HBAD HOK hbl; go_enter Tryz.func77, Tryz.ntmps77; go_wp2_with fail
  go_ret2
  exact ⟨HB2.out _ _ rfl, Below.refl _ _⟩
 have d3 : decide (b.size < k) = false := dF c1; have d4 : decide ((b.size : Int) < (k : Int)) = false := dF (by omega); by_cases c2 : b.size / 2 ≤ n
 ·have HB2 := zj (HBAD.out (fun h => by have := good_few h; omega))
  have d5 : decide (b.size / 2 ≤ n) = true := dT c2; have d6 : decide ((b.size : Int) / 2 ≤ (n : Int)) = true := dT (by omega); clear HBAD HOK hbl; go_enter Tryz.func77, Tryz.ntmps77; go_wp2_with fail
  go_ret2
  exact ⟨HB2.out _ _ rfl, Below.refl _ _⟩
 have d5 : decide (b.size / 2 ≤ n) = false := dF c2; have d6 : decide ((b.size : Int) / 2 ≤ (n : Int)) = false := dF (by omega); obtain ⟨i0, hi, hz0, hz1, hz2⟩ := info_parts Tryz.infoStr; go_enter Tryz.func77, Tryz.ntmps77; go_wp2_with fail
 go_loopw [8, 9] (fun ov iv wr => ∃ (i g cap : Nat), i ≤ n ∧ iv = .int .i64 i ∧ ov = .slice (some ⟨g, 0, none⟩) i cap ∧ Hid (Owns wr w.heap.size (.slice (some ⟨g, 0, none⟩) i cap) i (cellsB b i)) ∧ w.heap.size ≤ g ∧ i ≤ cap ∧ Below w.heap.size w wr) (fun _ iv _ => n - (intOf iv).toNat)
 case atStart => exact ⟨0, w.heap.size, 0, by omega, rfl, rfl, zj (own_empty w _), Nat.le_refl _, by omega, below_alloc _ _⟩
 case round =>
  obtain ⟨i, g, cap, hin, rfl, rfl, HO, hg, hcap, hbw⟩ := hrel; have hbs := hbw.size; by_cases hlt : i < n
  ·obtain ⟨p, hp⟩ : ∃ p, LP.at_ (B b) i = p := ⟨_, rfl⟩
   obtain ⟨q, hq⟩ : ∃ q, LP.at_ (B b) (i + 1) = q := ⟨_, rfl⟩; have HA1 := zj (fun W => at_any b i W (by omega) (by omega)); have HA2 := zj (fun W => at_any b (i + 1) W (by omega) (by omega)); rw [hp] at HA1; rw [hq] at HA2; have HW1 : IntKind.i64.wrap ((i : Int) + 1) = (i : Int) + 1 := IntWalk.i64_in _ (by omega)
   have e1 : (((i + 1 : Nat)) : Int) = (i : Int) + 1 := by omega
   rw [e1] at HA2
   have hB : (B b).length < 65536 := by omega
   by_cases hpq : p ≤ q ∧ q ≤ b.size
   ·obtain ⟨c, hc⟩ : ∃ c, b.extract p q = c := ⟨_, rfl⟩
    have HC := zj (show cellsB b (i + 1) = cellsB b i ++ [c] by rw [cellsB_succ, cutB, hp, hq, hc]); have d7 : decide (q < p) = false := dF (by omega); have d8 : decide ((q : Int) < (p : Int)) = false := dF (by omega); have d9 : decide (b.size < q) = false := dF (by omega); have d10 : decide ((b.size : Int) < (q : Int)) = false := dF (by omega)
    have j1 : (0 : Int) ≤ (p : Int) ∧ (p : Int) ≤ (q : Int) ∧ (q : Int) ≤ (b.size : Int) := by omega
    have j2 : p ≤ q := hpq.1; have j3 : q ≤ b.size := hpq.2; clear hp hq hpq hB; go_wp2_with fail; refine (HA1.out _).mono ?_; rintro e w1 ⟨rfl, hb1⟩; go_wp2_with fail; refine (HA2.out _).mono ?_; rintro e w2 ⟨rfl, hb2⟩; have hO2 := own_below (own_below HO.out hb1) hb2; have hbw2 := (hbw.trans' hb1).trans' hb2; have hbs2 := hbw2.size
    go_wp2_with (first
     | (at_builtin; refine wpList_append_lies _ rfl _ _ 22 rfl w.heap.size 9 i0 (.string ⟨#[]⟩) 1 16 Tryz.underlying22 hi hz0 hz1 hz2 rfl (by decide) (.slice (some ⟨g, 0, none⟩) i cap) i _ rfl (hO2.alloc _) ⟨w2.heap.size, 0, none⟩ 1 1 [.string c] rfl rfl (World.news_of_block (cs := #[.string c]) (t := 9) (fr := (0, 0)) (heap_alloc_new w2 _)) (by simp [Value.oneCell']) (by omega) (by unfold maxLen; omega) (by omega) (by simp; omega) (w2.heap.size + 1) (by simp) ?_; intro g' cap' w3 hown1 hgrow hat hlt1))
    have hg' : w.heap.size ≤ g' := own_block hown1 (by omega); have hcap' := own_cap hown1; have hb3 : Below w.heap.size w w3 := (hbw2.trans' (below_alloc w2 (.cells #[.string c] 9))).trans (own_apart (hO2.alloc _) hgrow (Nat.le_refl _) (by simp; omega)); clear hat hlt1
    go_roundw
    case rel => exact ⟨i + 1, g', cap', by omega, by go_num, rfl, zj (by rw [HC.out, Owns, strCells_snoc]; exact hown1), hg', hcap', hb3⟩
    case measure => simp [intOf]; omega
   ·have HB2 := zj (HBAD.out (fun h => by
     have := good_at hB h i hlt; rw [hp, hq, hbl] at this
     exact hpq this))
    clear hp hq HBAD HOK hB; by_cases h7 : q < p
    ·have d7 : decide (q < p) = true := dT h7
     have d8 : decide ((q : Int) < (p : Int)) = true := dT (by omega); clear hpq; go_wp2_with fail; refine (HA1.out _).mono ?_; rintro e w1 ⟨rfl, hb1⟩; go_wp2_with fail; refine (HA2.out _).mono ?_; rintro e w2 ⟨rfl, hb2⟩; go_wp2_with fail
     go_ret2
     exact ⟨HB2.out _ _ rfl, (hbw.trans' hb1).trans' hb2⟩
    ·have d7 : decide (q < p) = false := dF h7
     have d8 : decide ((q : Int) < (p : Int)) = false := dF (by omega); have d9 : decide (b.size < q) = true := dT (by omega); have d10 : decide ((b.size : Int) < (q : Int)) = true := dT (by omega); clear hpq; go_wp2_with fail; refine (HA1.out _).mono ?_; rintro e w1 ⟨rfl, hb1⟩; go_wp2_with fail; refine (HA2.out _).mono ?_; rintro e w2 ⟨rfl, hb2⟩; go_wp2_with fail
     go_ret2
     exact ⟨HB2.out _ _ rfl, (hbw.trans' hb1).trans' hb2⟩
  ·obtain rfl : i = n := by omega
   have hlen := cellsB_length b i; have HL := lies_own HO.out hlen.symm; obtain ⟨f, hf⟩ : ∃ f, b.extract 0 k = f := ⟨_, rfl⟩
   have sf : f.size = k := by rw [← hf]; simp; omega
   have HPK := zj (by have h := pack8_any (b.size : Int) f (some ⟨g, 0, none⟩) (cellsB b i) cap wr HL (by rw [hlen]; omega) (by omega) (fun s hs => Nat.le_trans (cellsB_size b i s hs) (by omega)); rw [hlen] at h; exact h); have hend := unpack_end b k i (by omega) (by omega); rw [hf] at hend; have HLL := zj HL; have d11 : decide ((i : Int) < (i : Int)) = false := dF (by omega)
   have j1 : (0 : Int) ≤ (k : Int) ∧ (k : Int) ≤ (b.size : Int) := by omega
   have j2 : k ≤ b.size := by omega
   have hss : (b.toList == b.toList) = true := beq_self_eq_true _; rcases hend with ⟨hgd, hv⟩ | ⟨hgd, hv⟩ | ⟨hgd, P, hne, hv⟩
   ·rw [hv] at HPK
    have HO2 := zj (HOK.out hgd); clear hv hgd HBAD HOK hlen HL sf; go_wp2_with fail; refine HPK.out.mono ?_; rintro e w1 ⟨rfl, hb1⟩; go_wp2_with fail
    go_ret2
    exact ⟨HO2.out _ _ _ hg hcap (HLL.out.on hb1), hbw.trans' hb1⟩
   ·rw [hv] at HPK
    have HB2 := zj (HBAD.out hgd); clear hv hgd HBAD HOK hlen HL sf; go_wp2_with fail; refine HPK.out.mono ?_; rintro e w1 ⟨rfl, hb1⟩; go_wp2_with fail
    go_ret2
    exact ⟨HB2.out _ _ rfl, hbw.trans' hb1⟩
   ·rw [hv] at HPK
    have HB2 := zj (HBAD.out hgd)
    have hneq : (P.toList == b.toList) = false := by
     rw [Lib.toList_data, Lib.toList_data]; exact beq_eq_false_iff_ne.2 fun e => hne (ByteArray.ext (Array.toList_inj.1 e))
    clear hv hgd HBAD HOK hlen HL sf hne; go_wp2_with fail; refine HPK.out.mono ?_; rintro e w1 ⟨rfl, hb1⟩; go_wp2_with fail
    go_ret2
    exact ⟨HB2.out _ _ rfl, hbw.trans' hb1⟩
theorem num2_at (b : List UInt8) (i : Nat) (h : 2 * i + 2 ≤ b.length) : num2 b (b.length - 2 * i - 2) = LP.at_ b i := by
 unfold num2 LP.at_; rw [show b.length - 2 * i - 2 + 1 = b.length - 2 * i - 1 by omega]
def cutTo8 (b : ByteArray) (n k : Nat) : List Value := strCells (cellsB b k) ++ List.replicate (n - k) (.string ⟨#[]⟩)
theorem cutTo8_zero (b : ByteArray) (n : Nat) : cutTo8 b n 0 = List.replicate n (.string ⟨#[]⟩) := by simp [cutTo8, strCells, cellsB]
theorem cutTo8_full (b : ByteArray) (n : Nat) : cutTo8 b n n = strCells (cellsB b n) := by simp [cutTo8]
theorem cutTo8_set (b : ByteArray) (n k : Nat) (h : k < n) : (cutTo8 b n k).set k (.string (cutB b k)) = cutTo8 b n (k + 1) := by
 have hlen : (strCells (cellsB b k)).length = k := by rw [strCells_length, cellsB_length]
 rw [cutTo8, List.set_append_right _ _ (by omega), hlen, Nat.sub_self, cutTo8, cellsB_succ, show n - k = (n - (k + 1)) + 1 by omega, List.replicate_succ, List.set_cons_zero]; simp [strCells]
theorem cutTo8_at (b : ByteArray) (n k : Nat) (h : k < n) : (cutTo8 b n k)[k]? = some (.string ⟨#[]⟩) := by
 have hlen : (strCells (cellsB b k)).length = k := by rw [strCells_length, cellsB_length]
 rw [cutTo8, List.getElem?_append_right (by omega), hlen, Nat.sub_self, List.getElem?_replicate, if_pos (by omega)]
theorem made_blank (m : Nat) : (madeCells (Value.string ⟨#[]⟩).cells (m * 1)).toList = List.replicate m (.string ⟨#[]⟩) := by
 apply List.ext_getElem
 ·simp [madeCells]
 ·intro i h1 h2
  simp [madeCells, Value.cells, Nat.mod_one]
theorem conv_part {P : Program} {w : World} {t e s : TypeId} {g : Nat} {b : ByteArray} (ht : P.underlying t = some (.slice e)) (he : P.underlying e = some (.int .u8)) (hs : P.underlying s = some .string)
  (h : ∀ j c, (B b)[j]? = some c → w.cell? ⟨g, j, none⟩ = some (.int .u8 (c.toNat : Nat))) (p q : Nat) (hpq : p ≤ q) (hq : q ≤ b.size) (cap : Nat) : (convert t s (.slice (some ⟨g, p, none⟩) (q - p) cap)).run P w = .ok (.string (b.extract p q)) w := by
 have hl : (((B b).drop p).take (q - p)).length = q - p := by rw [List.length_take, List.length_drop, b_size]; omega
 have h1 := run_convert_bytes_back (P := P) w t s e ⟨g, p, none⟩ cap (((B b).drop p).take (q - p)) ht he hs (fun j hj => by
  rw [hl] at hj
  have h2 : (⟨g, p, none⟩ : Addr).add j = ⟨g, p + j, none⟩ := by
   unfold Addr.add
   by_cases h3 : j = 0 <;> simp [h3]
  rw [h2, h (p + j) _ (List.getElem?_eq_getElem (by rw [b_size]; omega))]
  simp)
 rw [hl] at h1; rw [h1]
 congr 2
 rw [← b_extract]
theorem cut8_any (b : ByteArray) (g n cap : Nat) (w : World) (h : ∀ j c, (B b)[j]? = some c → w.cell? ⟨g, j, none⟩ = some (.int .u8 (c.toNat : Nat))) (hg : w.heap.size = g + 1) (hb : b.size ≤ 65535) (hcap : b.size ≤ cap) (hn : 2 * n + 2 ≤ b.size) :
  Calls Tryz.prog 149 #[.slice (some ⟨g, 0, none⟩) b.size cap, .int .i64 n] w fun e w' =>
   ((¬ (∀ i, i < n → LP.at_ (B b) i ≤ LP.at_ (B b) (i + 1) ∧ LP.at_ (B b) (i + 1) ≤ b.size) ∧ e = .returned (.tuple #[.slice none 0 0, .bool false])) ∨
    ((∀ i, i < n → LP.at_ (B b) i ≤ LP.at_ (B b) (i + 1) ∧ LP.at_ (B b) (i + 1) ≤ b.size) ∧ ∃ r, g < r ∧ e = .returned (.tuple #[.slice (some ⟨r, 0, none⟩) n n, .bool true]) ∧ Lies w' w'.heap.size (some ⟨r, 0, none⟩) (cellsB b n))) ∧ Below g w w' := by
 obtain ⟨i0, hi, hz0, hz1, hz2⟩ := info_parts Tryz.infoStr; have hbl : (B b).length = b.size := b_size b; have HRD := zj (by have h := reader_any g cap (B b) w h hg; rw [hbl] at h; exact h)
 have HNX : Hid (∀ (i : Nat) (W : World), 2 * i + 2 ≤ b.size → Hid (Rd W g (B b) cap (b.size - 2 * i)) → Calls Tryz.prog 208 #[.pointer (some ⟨g + 2, 0, none⟩), .pointer (some ⟨g + 1, 0, none⟩)] W fun e w' => e = .returned (.int .i64 (LP.at_ (B b) i : Nat)) ∧ Hid (Rd w' g (B b) cap (b.size - 2 * (i + 1))) ∧ Below g W w' ∧ W.grownBy w' (some (g + 2))) := zj (fun i W h1 h2 => by
  have h3 := next_any g (b.size - 2 * i - 2) cap (B b) W (by rw [show b.size - 2 * i - 2 + 2 = b.size - 2 * i by omega]; exact h2) (by omega) (by omega); rw [← hbl, num2_at (B b) i (by omega), hbl] at h3; rw [show b.size - 2 * (i + 1) = b.size - 2 * i - 2 by omega]
  exact h3)
 have HBAD : Hid (∀ i, i < n → ¬ (LP.at_ (B b) i ≤ LP.at_ (B b) (i + 1) ∧ LP.at_ (B b) (i + 1) ≤ b.size) → ¬ (∀ i, i < n → LP.at_ (B b) i ≤ LP.at_ (B b) (i + 1) ∧ LP.at_ (B b) (i + 1) ≤ b.size)) := zj (fun i h1 h2 h3 => h2 (h3 i h1)); obtain ⟨Ok, hOk⟩ : ∃ p : Prop, p = (∀ i, i < n → LP.at_ (B b) i ≤ LP.at_ (B b) (i + 1) ∧ LP.at_ (B b) (i + 1) ≤ b.size) := ⟨_, rfl⟩; have HOK := zj (show (∀ i, i < n → LP.at_ (B b) i ≤ LP.at_ (B b) (i + 1) ∧ LP.at_ (B b) (i + 1) ≤ b.size) → Ok from fun h => by rw [hOk]; exact h); rw [← hOk] at HBAD ⊢; clear hOk h; go_enter Tryz.func149, Tryz.ntmps149; go_wp2_with fail; refine HRD.out.mono ?_; rintro e w1 ⟨rfl, hW1, hb1⟩; clear HRD; go_wp2_with (at_make; refine wpList_make_full _ rfl _ _ 22 rfl w1.heap.size 9 i0 (.string ⟨#[]⟩) 1 Tryz.underlying22 hi hz0 hz1 _ _ _ _ n rfl rfl rfl rfl (by rw [hz2]; omega) (by unfold maxLen; omega) (Nat.le_refl _) ?_; intro w2 hown2 hg2); have hs1 := hW1.out.1; have hb1 := hb1.mono (show g ≤ w.heap.size by omega); have hb2 : Below g w w2 := hb1.grown hg2 (by omega) (by simp); have hW2 := zj (rd_grown hW1.out hg2 (by simp)); rw [made_blank, ← cutTo8_zero b] at hown2; have HO2 := zj hown2; obtain ⟨r, hr⟩ : ∃ r, r = w1.heap.size := ⟨_, rfl⟩; rw [← hr] at HO2 hs1 ⊢; clear hown2 hg2 hW1 hb1 hr; have h0 := HNX.out 0 w2 (by omega) hW2; have H0 := zj h0; go_wp2_with fail; refine H0.out.mono ?_; rintro e w3 ⟨rfl, hW3, hb3, hg3⟩; have HO3 := zj (HO2.out.kept hg3 (.inr (by simp [Value.ownBlock]; omega))); have hb3' := hb2.trans hb3; clear h0 H0 hb2 hb3 hg3 HO2 hW2; go_wp2_with fail
 go_loopw [8, 19] (fun fv iv wr => ∃ k : Nat, k ≤ n ∧ iv = .int .i64 k ∧ fv = .int .i64 (LP.at_ (B b) k : Nat) ∧ Hid (∀ i, i < k → LP.at_ (B b) i ≤ LP.at_ (B b) (i + 1) ∧ LP.at_ (B b) (i + 1) ≤ b.size) ∧ Hid (Rd wr g (B b) cap (b.size - 2 * (k + 1))) ∧ Hid (wr.ownsRow r 9 1 (.slice (some ⟨r, 0, none⟩) n n) n (cutTo8 b n k)) ∧ Below g w wr) (fun _ iv _ => n - (intOf iv).toNat)
 case atStart => exact ⟨0, Nat.zero_le _, rfl, rfl, zj (fun i hi => by omega), hW3, HO3, hb3'⟩
 case round =>
  obtain ⟨k, hk, rfl, rfl, HR, HW, HO, hbw⟩ := hrel; by_cases hlt : k < n
  ·have HX := zj (HNX.out (k + 1) wr (by omega) HW)
   obtain ⟨p, hp⟩ : ∃ p, LP.at_ (B b) k = p := ⟨_, rfl⟩; obtain ⟨q, hq⟩ : ∃ q, LP.at_ (B b) (k + 1) = q := ⟨_, rfl⟩; by_cases hpq : p ≤ q ∧ q ≤ b.size
   ·obtain ⟨c, hc⟩ : ∃ c, b.extract p q = c := ⟨_, rfl⟩
    have HC := zj (show cutB b k = c by rw [cutB, hp, hq, hc])
    have HR2 : Hid (∀ i, i < k + 1 → LP.at_ (B b) i ≤ LP.at_ (B b) (i + 1) ∧ LP.at_ (B b) (i + 1) ≤ b.size) := zj (fun i hi => by
     by_cases h1 : i = k
     ·subst h1; rw [hp, hq]; exact hpq
     ·exact HR.out i (by omega))
    have HQ := zj hq
    have hce : Hid (q = p → c = ⟨#[]⟩) := zj (fun e => by
     subst e; rw [← hc]
     exact b_inj (by rw [b_extract]; simp))
    have HCV := zj (fun (W : World) (h : ∀ j c, (B b)[j]? = some c → W.cell? ⟨g, j, none⟩ = some (.int .u8 (c.toNat : Nat))) (cap : Nat) => conv_part (P := Tryz.prog) (t := 86) (e := 5) (s := 9) Tryz.underlying86 Tryz.underlying5 Tryz.underlying9 h p q hpq.1 hpq.2 cap); rw [hc] at HCV; rw [hq] at HX; rw [hp]; have d7 : decide (q < p) = false := dF (by omega); have d8 : decide ((q : Int) < (p : Int)) = false := dF (by omega); have d9 : decide (b.size < q) = false := dF (by omega); have d10 : decide ((b.size : Int) < (q : Int)) = false := dF (by omega)
    have j1 : (0 : Int) ≤ (p : Int) ∧ (p : Int) ≤ (q : Int) ∧ (q : Int) ≤ (cap : Int) := by omega
    have j2 : p ≤ q := hpq.1
    have j3 : q ≤ cap := by omega
    clear hp hq hpq hc; go_wp2_with fail; refine HX.out.mono ?_; rintro e w4 ⟨rfl, hW4, hb4, hg4⟩; have HO4 := zj (HO.out.kept hg4 (.inr (by simp [Value.ownBlock]; omega)))
    have hcell : w4.cell? ⟨r, k, none⟩ = some (.string ⟨#[]⟩) := by
     rw [HO4.out.cellAt k (by omega), cutTo8_at b n k hlt]
    have hfr := HO4.out.frozenAt k; have cv := fun cap => HCV.out w4 hW4.out.2.1 cap; have hbw4 := hbw.trans hb4
    have cv0 : q = p → (convert 86 9 (.slice (some ⟨g, 0, none⟩) 0 0)).run Tryz.prog w4 = .ok (.string c) w4 := fun e => by
     have h1 := run_convert_bytes_back (P := Tryz.prog) w4 86 9 5 ⟨g, 0, none⟩ 0 [] Tryz.underlying86 Tryz.underlying5 Tryz.underlying9 (fun j hj => by simp at hj); rw [hce.out e]; exact h1
    clear hb4 hg4; have HEND : Hid (Rd (w4.setCell ⟨r, k, none⟩ (.string c)) g (B b) cap (b.size - 2 * (k + 1 + 1))) := zj (rd_grown hW4.out (grown_setCell w4 ⟨r, k, none⟩ (.string c)) (by simp; omega))
    have HOE : Hid ((w4.setCell ⟨r, k, none⟩ (.string c)).ownsRow r 9 1 (.slice (some ⟨r, 0, none⟩) n n) n (cutTo8 b n (k + 1))) := zj (by
     have h := (HO4.out.stored k (.string c)).1
     rwa [← HC.out, cutTo8_set b n k hlt, HC.out] at h)
    have hbE : Below g w (w4.setCell ⟨r, k, none⟩ (.string c)) := hbw4.setCell (by show g ≤ r; omega) _; by_cases hqp : q = p
    ·have cv1 := cv0 hqp
     clear cv cv0; subst hqp; go_wp2_with fail
     go_roundw
     case rel => exact ⟨k + 1, by omega, by go_num, by rw [HQ.out], HR2, HEND, HOE, hbE⟩
     case measure => simp [intOf]; omega
    ·clear cv0
     go_wp2_with fail
     go_roundw
     case rel => exact ⟨k + 1, by omega, by go_num, by rw [HQ.out], HR2, HEND, HOE, hbE⟩
     case measure => simp [intOf]; omega
   ·have HB2 := HBAD.out k hlt (by rw [hp, hq]; exact hpq)
    rw [hq] at HX; rw [hp]; clear hp hq; by_cases h7 : q < p
    ·have d7 : decide (q < p) = true := dT h7
     have d8 : decide ((q : Int) < (p : Int)) = true := dT (by omega); clear hpq; go_wp2_with fail; refine HX.out.mono ?_; rintro e w4 ⟨rfl, hW4, hb4, hg4⟩; go_wp2_with fail
     go_ret2
     exact ⟨.inl ⟨HB2, rfl⟩, hbw.trans hb4⟩
    ·have d7 : decide (q < p) = false := dF h7
     have d8 : decide ((q : Int) < (p : Int)) = false := dF (by omega); have d9 : decide (b.size < q) = true := dT (by omega); have d10 : decide ((b.size : Int) < (q : Int)) = true := dT (by omega); clear hpq; go_wp2_with fail; refine HX.out.mono ?_; rintro e w4 ⟨rfl, hW4, hb4, hg4⟩; go_wp2_with fail
     go_ret2
     exact ⟨.inl ⟨HB2, rfl⟩, hbw.trans hb4⟩
  ·obtain rfl : k = n := by omega
   have HL := zj (show Lies wr wr.heap.size (some ⟨r, 0, none⟩) (cellsB b k) from by
    have h := HO.out; rw [cutTo8_full] at h
    exact lies_own h (cellsB_length b k).symm)
   have HT := HOK.out HR.out; go_wp2_with fail
   go_ret2
   exact ⟨.inr ⟨HT, r, by omega, rfl, HL.out⟩, hbw⟩
theorem conv_to (s : ByteArray) (w : World) : ∃ cap w', (convert 9 86 (.string s)).run Tryz.prog w = .ok (.slice (some ⟨w.heap.size, 0, none⟩) s.size cap) w' ∧ (∀ j c, (B s)[j]? = some c → w'.cell? ⟨w.heap.size, j, none⟩ = some (.int .u8 (c.toNat : Nat))) ∧ s.size ≤ cap ∧ w'.heap.size = w.heap.size + 1 ∧ Below w.heap.size w w' := by
 refine ⟨_, _, run_bytes_of_string (P := Tryz.prog) w 9 86 5 s Tryz.underlying9 Tryz.underlying86 Tryz.underlying5, fun j c hj => ?_, grownCap_ge w _ _ _, by simp, ?_⟩
 ·have hlt : j < s.data.size := by have := (List.getElem?_eq_some_iff.1 hj).1; simpa [B] using this
  have h := World.cell?_alloc_mark w.drew (bytesRow s (grownCap w s.size 0 5)) 5 ((bytesRow s (grownCap w s.size 0 5)).size, (bytesRow s (grownCap w s.size 0 5)).size + 1) j; rw [bytesRow_at s _ j hlt] at h
  have e : s.data[j] = c := by
   have := (List.getElem?_eq_some_iff.1 hj).2
   simpa [B] using this
  rw [e] at h; exact h
 ·exact (Below.refl _ w).drew.alloc (Nat.le_refl _) _
theorem unpack_any (b : ByteArray) (kf n : Int) (w : World) (hk : (Lit.int .i64 kf).wf = true) (hn : (Lit.int .i64 n).wf = true) (hb : b.size ≤ maxLen) :
  Calls Tryz.prog 87 #[.string b, .int .i64 kf, .int .i64 n] w fun e w' => Unp b kf n w e w' ∧ Below w.heap.size w w' := by
 unfold maxLen at hb; by_cases a1 : kf < 0
 ·have HU := zj (fun e w' (h : e = .returned (.tuple #[.slice none 0 0, .int .i64 4])) => (.inl ⟨.inl a1, h⟩ : Unp b kf n w e w'))
  clear hk hn; go_enter Tryz.func87, Tryz.ntmps87; go_wp2_with fail
  go_ret2
  exact ⟨HU.out _ _ rfl, Below.refl _ _⟩
 by_cases a2 : n < 0
 ·have HU := zj (fun e w' (h : e = .returned (.tuple #[.slice none 0 0, .int .i64 4])) => (.inl ⟨.inr (.inl a2), h⟩ : Unp b kf n w e w'))
  clear hk hn; go_enter Tryz.func87, Tryz.ntmps87; go_wp2_with fail
  go_ret2
  exact ⟨HU.out _ _ rfl, Below.refl _ _⟩
 by_cases a3 : 65535 < b.size
 ·have HU := zj (fun e w' (h : e = .returned (.tuple #[.slice none 0 0, .int .i64 4])) => (.inl ⟨.inr (.inr a3), h⟩ : Unp b kf n w e w'))
  have d1 : decide (65535 < b.size) = true := dT a3; have d2 : decide ((65535 : Int) < (b.size : Int)) = true := dT (by omega); clear hk hn; go_enter Tryz.func87, Tryz.ntmps87; go_wp2_with fail
  go_ret2
  exact ⟨HU.out _ _ rfl, Below.refl _ _⟩
 obtain ⟨k, rfl⟩ := Int.eq_ofNat_of_zero_le (show 0 ≤ kf by omega); obtain ⟨n, rfl⟩ := Int.eq_ofNat_of_zero_le (show 0 ≤ n by omega)
 have hno : ¬ ((k : Int) < 0 ∨ (n : Int) < 0 ∨ 65535 < b.size) := by omega
 have HBAD : Hid (¬ LP.good (B b) k n → ∀ e w', e = .returned (.tuple #[.slice none 0 0, .int .i64 3]) → Unp b k n w e w') := zj (fun hg e w' h => .inr (.inl ⟨hno, hg, h⟩)); have HOK : Hid (LP.good (B b) k n → ∀ w' g cap, w.heap.size ≤ g → n ≤ cap → Lies w' w'.heap.size (some ⟨g, 0, none⟩) (cellsB b n) → Unp b k n w (.returned (.tuple #[.slice (some ⟨g, 0, none⟩) n cap, .int .i64 0])) w') := zj (fun hg w' g cap h1 h2 h3 => .inr (.inr ⟨hno, hg, g, cap, rfl, h1, h2, h3⟩)); have hbl : (B b).length = b.size := b_size b; have d1 : decide (65535 < b.size) = false := dF a3; have d2 : decide ((65535 : Int) < (b.size : Int)) = false := dF (by omega); clear hno hk hn; by_cases c1 : b.size < k
 ·have HB2 := zj (HBAD.out (fun h => by have := h.1; omega))
  have d3 : decide (b.size < k) = true := dT c1; have d4 : decide ((b.size : Int) < (k : Int)) = true := dT (by omega); clear HBAD HOK hbl; go_enter Tryz.func87, Tryz.ntmps87; go_wp2_with fail
  go_ret2
  exact ⟨HB2.out _ _ rfl, Below.refl _ _⟩
 have d3 : decide (b.size < k) = false := dF c1; have d4 : decide ((b.size : Int) < (k : Int)) = false := dF (by omega); by_cases c2 : b.size / 2 ≤ n
 ·have HB2 := zj (HBAD.out (fun h => by have := good_few h; omega))
  have d5 : decide (b.size / 2 ≤ n) = true := dT c2; have d6 : decide ((b.size : Int) / 2 ≤ (n : Int)) = true := dT (by omega); clear HBAD HOK hbl; go_enter Tryz.func87, Tryz.ntmps87; go_wp2_with fail
  go_ret2
  exact ⟨HB2.out _ _ rfl, Below.refl _ _⟩
 have d5 : decide (b.size / 2 ≤ n) = false := dF c2; have d6 : decide ((b.size : Int) / 2 ≤ (n : Int)) = false := dF (by omega); obtain ⟨cap, w1, cv, hby, hcap, hsz, hb1⟩ := conv_to b w; have HCUT := zj (cut8_any b w.heap.size n cap w1 hby hsz (by omega) hcap (by omega)); clear hby hsz hcap; go_enter Tryz.func87, Tryz.ntmps87; go_wp2_with fail; refine HCUT.out.mono ?_; rintro e w2 ⟨hcase, hb2⟩; have hbw := hb1.trans hb2; clear HCUT cv hb1 hb2; rcases hcase with ⟨hbad, rfl⟩ | ⟨hok, r, hr, rfl, HL⟩
 ·have HB2 := zj (HBAD.out (fun h => hbad (fun i hi => by
   have := good_at (by omega) h i hi
   rwa [hbl] at this)))
  clear hbad HBAD HOK; go_wp2_with fail
  go_ret2
  exact ⟨HB2.out _ _ rfl, hbw⟩
 ·have hlen := cellsB_length b n
  obtain ⟨f, hf⟩ : ∃ f, b.extract 0 k = f := ⟨_, rfl⟩
  have sf : f.size = k := by rw [← hf]; simp; omega
  have HPK := zj (by have h := pack_any (b.size : Int) f (some ⟨r, 0, none⟩) (cellsB b n) n w2 HL (by rw [hlen]; omega) (by omega) (fun s hs => Nat.le_trans (cellsB_size b n s hs) (by omega)); rw [hlen] at h; exact h); have hend := unpack_end b k n (by omega) (by omega); rw [hf] at hend; have HLL := zj HL
  have j1 : (0 : Int) ≤ (k : Int) ∧ (k : Int) ≤ (b.size : Int) := by omega
  have j2 : k ≤ b.size := by omega
  have hss : (b.toList == b.toList) = true := beq_self_eq_true _
  have hss2 : (b.toList != b.toList) = false := by simp
  clear hok; rcases hend with ⟨hgd, hv⟩ | ⟨hgd, hv⟩ | ⟨hgd, P, hne, hv⟩
  ·rw [hv] at HPK
   have HO2 := zj (HOK.out hgd); clear hv hgd HBAD HOK hlen HL sf; go_wp2_with fail; refine HPK.out.mono ?_; rintro e w1 ⟨rfl, hb1⟩; go_wp2_with fail
   go_ret2
   exact ⟨HO2.out _ _ _ (by omega) (Nat.le_refl _) (HLL.out.on hb1), hbw.trans' hb1⟩
  ·rw [hv] at HPK
   have HB2 := zj (HBAD.out hgd); clear hv hgd HBAD HOK hlen HL sf; go_wp2_with fail; refine HPK.out.mono ?_; rintro e w1 ⟨rfl, hb1⟩; go_wp2_with fail
   go_ret2
   exact ⟨HB2.out _ _ rfl, hbw.trans' hb1⟩
  ·rw [hv] at HPK
   have HB2 := zj (HBAD.out hgd)
   have hneq : (P.toList == b.toList) = false := by
    rw [Lib.toList_data, Lib.toList_data]; exact beq_eq_false_iff_ne.2 fun e => hne (ByteArray.ext (Array.toList_inj.1 e))
   have hneq2 : (P.toList != b.toList) = true := by simp [bne, hneq]
   clear hv hgd HBAD HOK hlen HL sf hne; go_wp2_with fail; refine HPK.out.mono ?_; rintro e w1 ⟨rfl, hb1⟩; go_wp2_with fail
   go_ret2
   exact ⟨HB2.out _ _ rfl, hbw.trans' hb1⟩
end Go.Proofs.YtpeghilfldpgfaaGreatDoor.L8
namespace Go.Proofs.YtpeghilfldpgfaaGreatDoor.L5
open Go.RowKit
theorem al_self (x : List UInt8) (l : List (List UInt8)) : EP.al x (x :: l) = EP.al x l := by simp [EP.al, EP.com_self]
theorem rspan_none (A : Option Addr) (ca : Nat) (w : World) :
  Calls Tryz.prog 207 #[.slice A 0 ca] w fun e w' => e = .returned (.int .i64 0) ∧ Below w.heap.size w w' := by
 go_enter Tryz.func207, Tryz.ntmps207; go_wp2_with fail
 go_loopw [3] (fun nv wr => nv = .int .i64 0 ∧ Below w.heap.size w wr) (fun nv _ => 0)
 case atStart => exact ⟨rfl, Below.refl _ _⟩
 case round =>
  obtain ⟨rfl, hbw⟩ := hrel; go_wp2_with fail; go_ret; exact ⟨rfl, hbw⟩
theorem rspan_some (a : Addr) (s0 : ByteArray) (l : List ByteArray) (ca : Nat) (w : World) (ha : Lies w w.heap.size (some a) l) (h0 : l[0]? = some s0) (hl : l.length ≤ 1000) (hs : ∀ s ∈ l, s.size ≤ 1000) :
  Calls Tryz.prog 207 #[.slice (some a) l.length ca] w fun e w' => e = .returned (.int .i64 (sp l)) ∧ Below w.heap.size w w' := by
 have HA := zj ha; have HS := zj hs; have H0 := zj h0; have hs0 := hs s0 (List.mem_of_getElem? h0); obtain ⟨p, hp⟩ : ∃ p, p = sp l := ⟨_, rfl⟩; have HP := zj hp
 have HAL : Hid (∀ m, m ≤ p ↔ m ≤ EP.al (B s0) (Bs l)) := zj (fun m => by
  cases l with
  | nil => simp at h0
  | cons s r =>
   have e : s = s0 := by simpa using h0
   subst e; rw [hp, show EP.al (B s) (Bs (s :: r)) = EP.al (B s) (Bs r) from al_self _ _]
   exact Iff.rfl)
 have HLE : Hid (p ≤ s0.size) := zj (by rw [hp]; exact sp_le l s0 (List.mem_of_getElem? h0)); obtain ⟨n, hn⟩ : ∃ n, n = l.length := ⟨_, rfl⟩
 have hn0 : 0 < n := by have := (List.getElem?_eq_some_iff.1 h0).1; omega
 have HN := zj hn; rw [← hn, ← hp]; rw [← hn] at hl
 have hn0' : (0 : Int) < n := by omega
 clear ha hs hp h0 hn; go_enter Tryz.func207, Tryz.ntmps207; go_wp2_with fail
 go_loopw [3] (fun nv wr => ∃ k : Nat, nv = .int .i64 k ∧ k ≤ s0.size ∧ Hid (k ≤ p) ∧ Below w.heap.size w wr) (fun nv _ => s0.size - (intOf nv).toNat)
 case atStart => exact ⟨0, rfl, by omega, zj (by omega), Below.refl _ _⟩
 case round =>
  obtain ⟨k, rfl, hks, HK, hbw⟩ := hrel
  have hk0 : (0 : Int) ≤ k := by omega
  obtain ⟨_, e, hab, x0⟩ := (HA.out.below hbw) 0 s0 H0.out; obtain rfl := Option.some.inj e; rw [addr_zero] at x0; clear hab; by_cases hlt : k < s0.size
  ·have d1 : decide ((k : Int) < s0.size) = true := by simp; omega
   go_wp2_with fail; clear x0
   go_loopw [4] (fun iv wq => ∃ i : Nat, iv = .int .i64 i ∧ i ≤ n ∧ Hid (k + 1 ≤ EP.al (B s0) (Bs (l.take i))) ∧ Below w.heap.size w wq) (fun iv _ => n - (intOf iv).toNat)
   case atStart => exact ⟨0, rfl, by omega, zj (by simp [EP.al, Bs, b_size]; omega), hbw⟩
   case round =>
    obtain ⟨i, rfl, hi, HI, hbq⟩ := hrel
    have hi0 : (0 : Int) ≤ i := by omega
    by_cases hin : i < n
    ·obtain ⟨t, hc⟩ : ∃ c, l[i]? = some c := ⟨_, List.getElem?_eq_getElem (by have := HN.out; omega)⟩
     obtain ⟨_, e, hab, x0⟩ := (HA.out.below hbq) i t hc; obtain rfl := Option.some.inj e; obtain ⟨_, e, hab', y0⟩ := (HA.out.below hbq) 0 s0 H0.out; obtain rfl := Option.some.inj e; rw [addr_zero] at y0; have htz := HS.out t (List.mem_of_getElem? hc); have HC := zj hc
     have HPC : Hid (p ≤ EP.com (B s0) (B t)) := zj (by
      have h1 := (HAL.out p).1 (Nat.le_refl _)
      exact Nat.le_trans h1 (EP.al_com _ _ _ (bs_mem (List.mem_of_getElem? hc))))
     have HKC : Hid (k ≤ EP.com (B s0) (B t)) := zj (by have := HK.out; have := HPC.out; omega); clear hc hab hab'
     have hin' : (i : Int) < n := by omega
     by_cases hkt : k < t.size
     ·have d2 : decide ((t.size : Int) ≤ k) = false := by simp; omega
      have HE : Hid (k < EP.com (B s0) (B t) ↔ t[k] = s0[k]) := zj (by
       rw [EP.com_next _ _ _ HKC.out, b_get s0 k hlt, b_get t k hkt]
       simp [eq_comm])
      by_cases he : t[k] = s0[k]
      ·have d3 : ((t[k].toNat : Int) != (s0[k].toNat : Int)) = false := by rw [he]; simp
       have HI' : Hid (k + 1 ≤ EP.al (B s0) (Bs (l.take (i + 1)))) := zj (by
        rw [bs_snoc l i t HC.out, EP.al_snoc]; have := HI.out; have := HE.out.2 he
        omega)
       clear he HE HI; go_wp2_with fail
       go_quiet (fail)
       go_wp2_with fail
       go_roundw
       case rel => exact ⟨i + 1, by simp, by omega, HI', below_drewN hbq _⟩
       case measure => simp [intOf]; omega
      ·have d3 : ((t[k].toNat : Int) != (s0[k].toNat : Int)) = true := by
        rw [bne_iff_ne]; intro e; exact he (UInt8.toNat_inj.1 (by omega))
       have HV : Hid (k = p) := zj (Nat.le_antisymm HK.out (Nat.le_trans HPC.out (Nat.not_lt.1 fun h => he (HE.out.1 h)))); clear he HE HI; go_wp2_with fail
       go_quiet (fail)
       go_wp2_with fail; go_ret; exact ⟨congrArg (fun z : Nat => Ending.returned (Value.int IntKind.i64 (z : Int))) HV.out, below_drewN hbq _⟩
     ·have d2 : decide ((t.size : Int) ≤ k) = true := by simp; omega
      have HV : Hid (k = p) := zj (by
       have h1 := EP.com_right (B s0) (B t); rw [b_size] at h1; have := HK.out; have := HPC.out
       omega)
      clear HI; go_wp2_with fail
      go_quiet (fail)
      go_wp2_with fail; go_ret; exact ⟨congrArg (fun z : Nat => Ending.returned (Value.int IntKind.i64 (z : Int))) HV.out, below_drewN hbq _⟩
    ·obtain rfl : i = n := by omega
     have HK' : Hid (k + 1 ≤ p) := zj (by
      have h1 := HI.out; rw [List.take_of_length_le (by have := HN.out; omega)] at h1
      exact (HAL.out _).2 h1)
     clear HI; go_wp2_with fail
     go_roundw
     case rel => exact ⟨k + 1, by simp, by omega, HK', hbq⟩
     case measure => simp [intOf]; omega
  ·have d1 : decide ((k : Int) < s0.size) = false := by simp; omega
   have HV : Hid (k = p) := zj (by have := HK.out; have := HLE.out; omega); go_wp2_with fail; go_ret; exact ⟨congrArg (fun z : Nat => Ending.returned (Value.int IntKind.i64 (z : Int))) HV.out, hbw⟩
theorem rspan_any (A : Option Addr) (l : List ByteArray) (ca : Nat) (w : World) (ha : Lies w w.heap.size A l) (hl : l.length ≤ 1000) (hs : ∀ s ∈ l, s.size ≤ 1000) :
  Calls Tryz.prog 207 #[.slice A l.length ca] w fun e w' => e = .returned (.int .i64 (sp l)) ∧ Below w.heap.size w w' := by
 cases l with
 | nil => exact rspan_none A ca w
 | cons s l =>
  obtain ⟨a, rfl, _, _⟩ := ha 0 s rfl; exact rspan_some a s (s :: l) ca w ha rfl hl hs
theorem rstrip_any (A : Option Addr) (l : List ByteArray) (ca : Nat) (w : World) (ha : Lies w w.heap.size A l) (hl : l.length ≤ 1000) (hs : ∀ s ∈ l, s.size ≤ 1000) :
  Calls Tryz.prog 187 #[.slice A l.length ca] w fun e w' => ∃ G cap, e = .returned (.tuple #[.string (headS l), .slice G l.length cap]) ∧ Lies w' w'.heap.size G (bares l) ∧ Below w.heap.size w w' := by
 obtain ⟨i0, hi, hz0, hz1, hz2⟩ := info_parts Tryz.infoStr; have HA := zj ha; have HS := zj hs; have HSP := zj (rspan_any A l ca w ha hl hs); have HLE : Hid (∀ s ∈ l, sp l ≤ s.size) := zj (fun s h => sp_le l s h); have HB : Hid (bares l = l.map (bare (sp l))) := zj rfl
 have HH : Hid (∀ s ∈ l, s.extract 0 (sp l) = headS l) := zj (fun s h => by
  cases l with
  | nil => simp at h
  | cons t r => exact b_inj (by rw [headS, b_head, b_head]; exact EP.span_take _ _ _ (bs_mem h) (bs_mem (by simp))))
 have HN0 : Hid (l.length = 0 → headS l = ⟨#[]⟩) := zj (fun h => by
  rw [List.eq_nil_of_length_eq_zero h]
  rfl)
 generalize sp l = p at *; generalize headS l = hd at *; obtain ⟨n, hn⟩ : ∃ n, n = l.length := ⟨_, rfl⟩; have HN := zj hn; rw [← hn]; rw [← hn] at hl HSP HN0; clear ha hs hn; go_enter Tryz.func187, Tryz.ntmps187; go_wp2_with fail; refine HSP.out.mono ?_; rintro e w1 ⟨rfl, hb1⟩; clear HSP; go_wp2_with fail
 go_loopw [5, 6, 7] (fun ov sv iv wr => ∃ (k g cap : Nat) (X : ByteArray), k ≤ n ∧ iv = .int .i64 k ∧ ov = .slice (some ⟨g, 0, none⟩) k cap ∧ sv = .string X ∧ Hid ((k = 0 → X = ⟨#[]⟩) ∧ (0 < k → X = hd)) ∧ Hid (Owns wr w1.heap.size (.slice (some ⟨g, 0, none⟩) k cap) k ((l.take k).map (bare p))) ∧ Below w1.heap.size w1 wr) (fun _ _ iv _ => n - (intOf iv).toNat)
 case atStart =>
  exact ⟨0, w1.heap.size, 0, ⟨#[]⟩, by omega, rfl, rfl, rfl, zj ⟨fun _ => rfl, fun h => by omega⟩, zj (own_empty w1 _), below_alloc _ _⟩
 case round =>
  obtain ⟨k, g, cap, X, hk, rfl, rfl, rfl, HX, HO, hbr⟩ := hrel; have hbw := hb1.trans' hbr; by_cases hlt : k < n
  ·obtain ⟨s, hc⟩ : ∃ c, l[k]? = some c := ⟨_, List.getElem?_eq_getElem (by have := HN.out; omega)⟩
   obtain ⟨a, rfl, hab, x0⟩ := (HA.out.below hbw) k s hc; have hsz := HS.out s (List.mem_of_getElem? hc); have hps := HLE.out s (List.mem_of_getElem? hc); have HE := zj (HH.out s (List.mem_of_getElem? hc))
   have HC : Hid ((l.take (k + 1)).map (bare p) = (l.take k).map (bare p) ++ [s.extract p s.size]) := zj (by
    have : l.take (k + 1) = l.take k ++ [s] := by rw [List.take_add_one, hc]; rfl
    rw [this]
    simp [bare])
   have hbs := hbr.size; have hbs1 := hb1.size; have HKB : Hid (∀ W, Below w1.heap.size wr W → W.cell? (a.add k) = some (.string s)) := zj (fun W hW => (hW.cell (by rw [addr_block]; omega)).trans x0); clear hc hab; go_wp2_with (at_builtin; refine wpList_append_lies _ rfl _ _ 22 rfl w1.heap.size 9 i0 (.string ⟨#[]⟩) 1 16 Tryz.underlying22 hi hz0 hz1 hz2 rfl (by decide) (.slice (some ⟨g, 0, none⟩) k cap) k _ rfl (HO.out.alloc _) ⟨wr.heap.size, 0, none⟩ 1 1 [.string (s.extract p s.size)] rfl rfl (World.news_of_block (cs := #[.string (s.extract p s.size)]) (t := 9) (fr := (0, 0)) (heap_alloc_new wr _)) (str_one _) (by omega) (by unfold maxLen; omega) (by omega) (by simp; omega) (wr.heap.size + 1) (by simp) ?_; intro g' cap' w2 hown' hgrow hat hlt1; have hb3 : Below w1.heap.size wr w2 := ((Below.refl _ wr).alloc hbs (.cells #[.string (s.extract p s.size)] 9)).trans (own_apart (HO.out.alloc _) hgrow (Nat.le_refl _) (by simp; omega)); have x1 := HKB.out w2 hb3; clear hat hlt1 hgrow x0); have hb4 := hbr.trans hb3
   go_roundw
   case rel => exact ⟨k + 1, g', cap', _, by omega, by simp, rfl, rfl, zj ⟨fun h => by omega, fun _ => HE.out⟩, zj (by rw [HC.out, Owns, strCells_snoc]; exact hown'), hb4⟩
   case measure => simp [intOf]; omega
  ·obtain rfl : k = n := by omega
   have HL : Hid (Lies wr wr.heap.size (some ⟨g, 0, none⟩) (bares l)) := zj (by
    have h := HO.out; rw [List.take_of_length_le (by have := HN.out; omega), ← HB.out] at h
    exact lies_own h (by rw [bares_length]; exact HN.out))
   have HXV : Hid (X = hd) := zj (by
    rcases Nat.eq_zero_or_pos k with h | h
    ·rw [HX.out.1 h, HN0.out h]
    ·exact HX.out.2 h)
   go_wp2_with fail
   go_ret2
   exact ⟨some ⟨g, 0, none⟩, cap, by rw [HXV.out]; rfl, HL.out, hbw⟩
end Go.Proofs.YtpeghilfldpgfaaGreatDoor.L5
namespace Go.Proofs.YtpeghilfldpgfaaGreatDoor.L12
open Go.RowKit CP
theorem quiet_of_eq {P : Program} {f : FuncId} {args : Array Value} {w : World} {n : Nat} {v : Value}
  (h : Calls P f args (w.drewN n) fun e w' => e = .returned v ∧ w.drewN n = w') : Calls P f args (w.drewN n) fun e w'' => e = .returned v ∧ ∃ m, w'' = w.drewN m :=
 h.mono fun _ _ ⟨he, hm⟩ => ⟨he, n, hm.symm⟩
theorem room_any (p : Int) (w : World) (hp : 128 ≤ p ∧ p ≤ 1024) : Calls Tryz.prog 179 #[.int .i64 p] w fun e w' => e = .returned (.int .i64 (p - 16)) ∧ w = w' := by
 have hw : IntKind.i64.wrap (p - 16) = p - 16 := IntWalk.i64_in _ (by omega); clear hp; go_enter Tryz.func179, Tryz.ntmps179; go_wp2_with fail; go_ret; exact ⟨rfl, rfl⟩
theorem rsize_any (F N : Int) (D : ByteArray) (p : Int) (w : World) (hs : L7.Sizes w) : Calls Tryz.prog 127 #[cv F N D, .int .i64 p] w fun e w' => e = .returned (.bool (L7.mayBe p)) ∧ Below w.heap.size w w' := by
 have hb := cbox_below 31 F N D w; have HB := zj hb; have HS := zj (L7.size_any p _ (hs.below hs.lt hb)); generalize L7.mayBe p = b at *; clear hb hs; go_enter Tryz.func127, Tryz.ntmps127; go_wp2_with fail; refine HS.out.mono ?_; rintro e w2 ⟨rfl, rfl⟩; go_wp2_with fail; go_ret; exact ⟨rfl, HB.out⟩
theorem rnumbers_any (F N : Int) (D : ByteArray) (p : Int) (w : World) : Calls Tryz.prog 128 #[cv F N D, .int .i64 p] w fun e w' => e = .returned (.bool (decide (NumOk F N))) ∧ Below w.heap.size w w' := by
 have HB := zj (cbox_below 31 F N D w); rcases (show NumOk F N ∨ F < 1 ∨ (1 ≤ F ∧ 4095 < F) ∨ (1 ≤ F ∧ F ≤ 4095 ∧ N < 0) ∨ (1 ≤ F ∧ F ≤ 4095 ∧ 0 ≤ N ∧ 4095 < N) ∨ (1 ≤ F ∧ F ≤ 4095 ∧ 0 ≤ N ∧ N ≤ 4095 ∧ N = F) by unfold NumOk; omega) with h | h | h | h | h | h
 ·rw [dT h]
  unfold NumOk at h; have d1 : decide (1 ≤ F) = true := dT (by omega); have d2 : decide (F ≤ 4095) = true := dT (by omega); have d3 : decide (0 ≤ N) = true := dT (by omega); have d4 : decide (N ≤ 4095) = true := dT (by omega)
  have d5 : (N != F) = true := by simp; omega
  clear h; go_enter Tryz.func128, Tryz.ntmps128; go_wp2_with fail; go_ret; exact ⟨rfl, HB.out⟩
 ·rw [dF (show ¬ NumOk F N by unfold NumOk; omega)]
  have d1 : decide (1 ≤ F) = false := dF (by omega); clear h; go_enter Tryz.func128, Tryz.ntmps128; go_wp2_with fail; go_ret; exact ⟨rfl, HB.out⟩
 ·rw [dF (show ¬ NumOk F N by unfold NumOk; omega)]
  have d1 : decide (1 ≤ F) = true := dT (by omega); have d2 : decide (F ≤ 4095) = false := dF (by omega); clear h; go_enter Tryz.func128, Tryz.ntmps128; go_wp2_with fail; go_ret; exact ⟨rfl, HB.out⟩
 ·rw [dF (show ¬ NumOk F N by unfold NumOk; omega)]
  have d1 : decide (1 ≤ F) = true := dT (by omega); have d2 : decide (F ≤ 4095) = true := dT (by omega); have d3 : decide (0 ≤ N) = false := dF (by omega); clear h; go_enter Tryz.func128, Tryz.ntmps128; go_wp2_with fail; go_ret; exact ⟨rfl, HB.out⟩
 ·rw [dF (show ¬ NumOk F N by unfold NumOk; omega)]
  have d1 : decide (1 ≤ F) = true := dT (by omega); have d2 : decide (F ≤ 4095) = true := dT (by omega); have d3 : decide (0 ≤ N) = true := dT (by omega); have d4 : decide (N ≤ 4095) = false := dF (by omega); clear h; go_enter Tryz.func128, Tryz.ntmps128; go_wp2_with fail; go_ret; exact ⟨rfl, HB.out⟩
 ·rw [dF (show ¬ NumOk F N by unfold NumOk; omega)]
  have d1 : decide (1 ≤ F) = true := dT (by omega); have d2 : decide (F ≤ 4095) = true := dT (by omega); have d3 : decide (0 ≤ N) = true := dT (by omega); have d4 : decide (N ≤ 4095) = true := dT (by omega)
  have d5 : (N != F) = false := by simp; omega
  clear h; go_enter Tryz.func128, Tryz.ntmps128; go_wp2_with fail; go_ret; exact ⟨rfl, HB.out⟩
theorem rdata_any (F N : Int) (D : ByteArray) (p : Int) (w : World) (hp : 128 ≤ p ∧ p ≤ 1024) : Calls Tryz.prog 129 #[cv F N D, .int .i64 p] w fun e w' => e = .returned (.bool (decide (DataOk N D.size p))) ∧ Below w.heap.size w w' := by
 have HB := zj (cbox_below 31 F N D w); have HBD : ∀ W, Below w.heap.size w W → ∀ n, Below w.heap.size w (W.drewN n) := fun W h n => L5.below_drewN h n; have HR := zj (fun W => room_any p W hp); obtain ⟨r, HRS⟩ : ∃ r, Hid (r = decide (DataOk N D.size p)) := ⟨_, zj rfl⟩; obtain ⟨c0, c1, c2⟩ := (cbox_new 31 F N D w).cells; rw [← HRS.out]; by_cases h0 : N = 0
 ·subst h0
  by_cases h1 : 1 ≤ D.size
  ·have d1 : decide ((1 : Int) ≤ (D.size : Int)) = true := dT (by omega)
   have HX : Hid (r = decide ((D.size : Int) ≤ p - 16)) := zj (by rw [HRS.out]; unfold DataOk; exact decide_eq_decide.2 ⟨fun h => h.2.1, fun h => ⟨h1, h, .inl rfl⟩⟩); clear h1 hp; go_enter Tryz.func129, Tryz.ntmps129; go_wp2_with fail
   go_quiet ((go_at_call 179; exact quiet_of_eq (HR.out _)))
   go_wp2_with fail; go_ret
   exact ⟨by rw [HX.out] <;> rfl, HBD _ HB.out _⟩
  ·have d1 : decide ((1 : Int) ≤ (D.size : Int)) = false := dF (by omega)
   have HX : Hid (r = false) := zj (by rw [HRS.out]; exact dF (fun h => h1 h.1)); clear h1 hp; go_enter Tryz.func129, Tryz.ntmps129; go_wp2_with fail
   go_quiet ((go_at_call 179; exact quiet_of_eq (HR.out _)))
   go_wp2_with fail; go_ret
   exact ⟨by rw [HX.out] <;> rfl, HBD _ HB.out _⟩
 ·have d0 : (N != 0) = true := by simpa using h0
  by_cases h1 : p - 16 ≤ (D.size : Int)
  ·have d1 : decide (p - 16 ≤ (D.size : Int)) = true := dT (by omega)
   have HX : Hid (r = decide ((D.size : Int) ≤ p - 16)) := zj (by rw [HRS.out]; unfold DataOk; exact decide_eq_decide.2 ⟨fun h => h.2.1, fun h => ⟨by omega, h, .inr (by omega)⟩⟩); clear h1 hp h0; go_enter Tryz.func129, Tryz.ntmps129; go_wp2_with fail; refine (HR.out _).mono ?_; rintro e w2 ⟨rfl, rfl⟩; go_wp2_with fail
   go_quiet ((go_at_call 179; exact quiet_of_eq (HR.out _)))
   go_wp2_with fail; go_ret
   exact ⟨by rw [HX.out] <;> rfl, HBD _ HB.out _⟩
  ·have d1 : decide (p - 16 ≤ (D.size : Int)) = false := dF (by omega)
   have HX : Hid (r = false) := zj (by rw [HRS.out]; exact dF (fun h => by unfold DataOk at h; omega)); clear h1 hp h0; go_enter Tryz.func129, Tryz.ntmps129; go_wp2_with fail; refine (HR.out _).mono ?_; rintro e w2 ⟨rfl, rfl⟩; go_wp2_with fail
   go_quiet ((go_at_call 179; exact quiet_of_eq (HR.out _)))
   go_wp2_with fail; go_ret
   exact ⟨by rw [HX.out] <;> rfl, HBD _ HB.out _⟩
end Go.Proofs.YtpeghilfldpgfaaGreatDoor.L12
namespace Go.Proofs.YtpeghilfldpgfaaGreatDoor.L13
open Go.RowKit
theorem eqM (P G R L C P' G' R' L' C' : Int) (W : World) : (binOp .eql 33 (mv P G R L C) (mv P' G' R' L' C')).run Tryz.prog W = .ok (.bool (P == P' && G == G' && R == R' && L == L' && C == C')) W := by
 rw [run_eql_struct]; simp [go_sem, Tryz.underlying33]; by_cases h1 : P = P'
 ·by_cases h2 : G = G'
  ·by_cases h3 : R = R'
   ·by_cases h4 : L = L'
    ·by_cases h5 : C = C'
     ·simp [h1, h2, h3, h4, h5]
     ·simp [h1, h2, h3, h4, h5]
    ·simp [h1, h2, h3, h4]
   ·simp [h1, h2, h3]
  ·simp [h1, h2]
 ·simp [h1]
end Go.Proofs.YtpeghilfldpgfaaGreatDoor.L13
