/-
  The walk of slot.Pack.
-/
import Derived.Test.YtbkjmcnichpmjaaPPack
namespace Go.Proofs.Ytbkjmcnichpmjaa
open Go.RowKit
set_option linter.unusedVariables false
set_option linter.unusedSimpArgs false

theorem made_zero (m : Nat) (i : Nat) (hi : i = 1) : madeCells (Value.int .u8 0).cells (((m : Nat) : Int).toNat * i) = (byteCells (List.replicate m 0)).toArray := by
  subst hi
  apply Array.toList_inj.1
  apply List.ext_getElem
  · simp [madeCells, byteCells]
  · intro i h1 h2
    simp [madeCells, Value.cells, Nat.mod_one, byteCells]

theorem writ_row {w : World} {g a : Nat} {L M : List UInt8} (h : Writ w g L a) (hl : M.length = L.length) : Writ (w.setRow g (byteCells M).toArray) g M a := by
  obtain ⟨h1, h2, h3⟩ := h
  refine ⟨setRow_heap w g _ _ _ _ h1, ?_, ?_⟩
  · rw [hl]; exact (setRow_other w g _ _ (by omega)).trans h2
  · exact (setRow_other w g _ _ (by omega)).trans h3
/-- A text is copied into a body. -/
theorem copy_run {w : World} {g a o n : Nat} {L : List UInt8} {s : ByteArray} (h : Writ w g L a) (hle : s.size ≤ n) (hfit : o + s.size ≤ L.length) (cap : Nat) :
    (Builtin.copy_ #[41, 9] 3 #[.slice (some ⟨g, o, none⟩) n cap, .string s]).run Try.prog w = .ok (goInt s.size) (w.setRow g (byteCells (L.take o ++ B s ++ L.drop (o + s.size))).toArray) := by
  obtain ⟨i0, hi, hz0, hz1, hz2⟩ := info_parts Try.infoByte
  have hsz : (Try.prog.info? 5).map (·.size) = some 1 := by rw [hi]; simp [hz1]
  have cp := Lib.run_copy_row_string (P := Try.prog) w 41 9 3 5 g o n cap s _ 5 Try.underlying41 hsz h.1 hle (by simpa [byteCells] using hfit)
  rw [cp]
  congr 3
  simp [byteCells, Lib.byteCells, B]

set_option maxHeartbeats 2000000 in
set_option maxRecDepth 100000 in
theorem pack_any (room : Int) (f : ByteArray) (A : Option Addr) (l : List ByteArray) (ca : Nat) (w : World) (ha : Lies w w.heap.size A l) (hl : l.length ≤ 1000000) (hf : f.size ≤ 1000000) (hs : ∀ s ∈ l, s.size ≤ 65535) :
    Calls Try.prog 9 #[.int .i64 room, .string f, .slice A l.length ca] w fun e w' => e = .returned (packV room f l) ∧ Below w.heap.size w w' := by
  have HSZ := Lib.hid (size_any f A l ca w ha hl hf hs)
  by_cases h1 : room < 0
  · have hv : packV room f l = .tuple #[.string ⟨#[]⟩, .int .i64 4] := by unfold packV; rw [if_pos (.inl h1)]
    rw [hv]
    clear hv
    go_enter Try.func9, Try.ntmps9
    go_wp2_with fail
    go_ret2
    exact ⟨rfl, Below.refl _ _⟩
  by_cases h2 : 65535 < room
  · have hv : packV room f l = .tuple #[.string ⟨#[]⟩, .int .i64 4] := by unfold packV; rw [if_pos (.inr h2)]
    rw [hv]
    clear hv
    go_enter Try.func9, Try.ntmps9
    go_wp2_with fail
    go_ret2
    exact ⟨rfl, Below.refl _ _⟩
  by_cases h3 : room < (LP.need f.size (Bs l) : Nat)
  · have hv : packV room f l = .tuple #[.string ⟨#[]⟩, .int .i64 8] := by unfold packV; rw [if_neg (by omega), if_pos h3]
    rw [hv]
    clear hv
    generalize LP.need f.size (Bs l) = q at *
    go_enter Try.func9, Try.ntmps9
    go_wp2_with fail
    refine HSZ.out.mono ?_
    rintro e w1 ⟨rfl, rfl⟩
    go_wp2_with fail
    go_ret2
    exact ⟨rfl, Below.refl _ _⟩
  obtain ⟨m, rfl⟩ := Int.eq_ofNat_of_zero_le (show 0 ≤ room by omega)
  have hv : packV m f l = .tuple #[.string (packS m f l), .int .i64 0] := by unfold packV; rw [if_neg (by omega), if_neg h3, Int.toNat_natCast]
  rw [hv]
  clear hv
  obtain ⟨P, hP⟩ : ∃ P, packS m f l = P := ⟨_, rfl⟩
  have HP := Lib.hid hP
  rw [hP]
  have HA := Lib.hid ha
  obtain ⟨n, hn⟩ : ∃ n, n = l.length := ⟨_, rfl⟩
  have HN := Lib.hid hn
  have HNEED : Hid (LP.need f.size (Bs l) ≤ m) := Lib.hid (by omega)
  have HQ : Hid (∀ k, f.size + LP.sum (Bs (l.take k)) + 2 * n + 2 ≤ m) := Lib.hid (fun k => by
    have h5 := HNEED.out
    unfold LP.need at h5
    rw [bs_length, ← hn] at h5
    have h6 : Bs (l.take k) = (Bs l).take k := by simp [Bs]
    have h7 := LP.sum_take_le (Bs l) k
    rw [h6]
    omega)
  rw [← hn] at HSZ hl ⊢
  obtain ⟨q, hq⟩ : ∃ q, LP.need f.size (Bs l) = q := ⟨_, rfl⟩
  rw [hq] at HSZ h3
  have hd1 : decide (m < q) = false := decide_eq_false (by omega)
  have hd2 : decide ((m : Int) < (q : Int)) = false := decide_eq_false (by omega)
  obtain ⟨i0, hi, hz0, hz1, hz2⟩ := info_parts Try.infoByte
  have mk : ∀ W : World, (Instr.makeSlice 41 (.int .i64 (m : Int)) (.int .i64 (m : Int))).run Try.prog W = .ok (.slice (some ⟨W.heap.size, 0, none⟩) m m) (W.alloc (.cells (byteCells (List.replicate m 0)).toArray 5)) := fun W => by
    have h := run_make (P := Try.prog) W 41 5 i0 (.int .u8 0) Try.underlying41 hi hz0 .i64 .i64 (m : Int) (m : Int) (by omega) (by omega) (by rw [hz2]; omega) (by omega)
    rw [made_zero m _ hz1] at h
    simpa using h
  have HWR : Hid (Calls Try.prog 17 #[.slice (some ⟨w.heap.size, 0, none⟩) m m] (w.alloc (.cells (byteCells (List.replicate m 0)).toArray 5)) fun e w' => e = .returned (.func (.func 22) #[] #[.pointer (some ⟨w.heap.size + 2, 0, none⟩), .pointer (some ⟨w.heap.size + 1, 0, none⟩)]) ∧ Hid (Writ w' w.heap.size (List.replicate m 0) m) ∧ Below w.heap.size w w') := Lib.hid (by
    have h := writer_any w.heap.size (List.replicate m 0) (w.alloc (.cells (byteCells (List.replicate m 0)).toArray 5)) (heap_alloc_new _ _) (by simp)
    rw [List.length_replicate] at h
    exact h.mono fun e w' ⟨h1, h2, h3⟩ => ⟨h1, h2, (below_alloc w _).trans h3⟩)
  have hq0 := HQ.out 0
  clear ha hs hn hP hq hi hz0 hz1 hz2
  go_enter Try.func9, Try.ntmps9
  go_wp2_with fail
  refine HSZ.out.mono ?_
  rintro e w1 ⟨rfl, rfl⟩
  go_wp2_with fail
  refine HWR.out.mono ?_
  rintro e w1 ⟨rfl, hW1, hb1⟩
  have cp := copy_run hW1.out (o := 0) (n := m) (s := f) (by omega) (by simp; omega) m
  rw [← b_size f, packL_none m (B f), b_size f] at cp
  have HW2 := Lib.hid (writ_row hW1.out (M := packL m (B f) []) (by rw [packL_length _ _ _ (by simp [LP.sum, b_size]; omega), List.length_replicate]))
  have hb2 := below_setRow hb1 (Nat.le_refl _) (byteCells (packL m (B f) [])).toArray
  generalize w1.setRow w.heap.size (byteCells (packL m (B f) [])).toArray = w2 at *
  clear mk hW1 hb1 HWR
  go_wp2_with fail
  clear cp
  go_loopw [10, 12, 33] (fun ev cv iv wr => ∃ k : Nat, k ≤ n ∧ iv = .int .i64 k ∧ ev = .int .i64 (f.size + LP.sum (Bs (l.take k)) : Nat) ∧ Hid (Writ wr w.heap.size (packL m (B f) (Bs (l.take k))) (m - 2 * k)) ∧ Below w.heap.size w wr) (fun _ _ iv _ => n - (intOf iv).toNat)
  case atStart => exact ⟨0, Nat.zero_le _, rfl, by simp [Bs, LP.sum], HW2, hb2⟩
  case round =>
    obtain ⟨k, hk, rfl, rfl, HW, hbw⟩ := hrel
    have hz := HQ.out k
    have hlt2 : (l.take k).length = k := by rw [List.length_take, ← HN.out]; omega
    obtain ⟨e, he⟩ : ∃ e, f.size + LP.sum (Bs (l.take k)) = e := ⟨_, rfl⟩
    rw [he] at hz ⊢
    obtain ⟨a, ha⟩ : ∃ a, a = m - 2 * k - 2 := ⟨_, rfl⟩
    rw [show m - 2 * k = a + 2 by omega] at HW
    have hml : (packL m (B f) (Bs (l.take k))).length = m := packL_length _ _ _ (by rw [b_size, bs_length, hlt2]; omega)
    have HTL := Lib.hid (tell_any w.heap.size a e _ wr HW (by rw [hml]; omega) (by omega) (by omega))
    by_cases hlt : k < n
    · obtain ⟨c, hc⟩ : ∃ c, l[k]? = some c := ⟨_, List.getElem?_eq_getElem (by have := HN.out; omega)⟩
      have hz2 := HQ.out (k + 1)
      have hst := sum_take l k c hc
      rw [hst] at hz2
      have HE2 : Hid (f.size + LP.sum (Bs (l.take (k + 1))) = e + c.size) := Lib.hid (by rw [hst, ← he]; omega)
      have HTC : Hid ((tellL (packL m (B f) (Bs (l.take k))) a e).take e ++ B c ++ (tellL (packL m (B f) (Bs (l.take k))) a e).drop (e + c.size) = packL m (B f) (Bs (l.take (k + 1)))) := Lib.hid (by
        have h1 : (B f).length + LP.sum (Bs (l.take k)) = e := by rw [b_size]; exact he
        have h2 : (Bs (l.take k)).length = k := by rw [bs_length, hlt2]
        have h3 := packL_tell m (B f) (Bs (l.take k)) (by rw [h1, h2]; omega)
        rw [h1, h2, ← ha] at h3
        have h4 := packL_copy m (B f) (Bs (l.take k)) (B c) (tellL (packL m (B f) (Bs (l.take k))) a e) (by rw [h1, h2, b_size]; omega) (by rw [h3, h1, h2])
        rw [h1, b_size] at h4
        rw [bs_snoc l k c hc]
        exact h4)
      have hml2 : (packL m (B f) (Bs (l.take (k + 1)))).length = m := by
        rw [← HTC.out]
        simp only [List.length_append, List.length_take, List.length_drop, tellL_length, hml, b_size]
        omega
      obtain ⟨A0, rfl, hab, hcell⟩ := (HA.out.below hbw) k c hc
      have HCL : Hid (∀ V, Below w.heap.size wr V → V.cell? (A0.add k) = some (.string c)) := Lib.hid (fun V hb => (hb.cell (by rw [addr_block]; exact hab)).trans hcell)
      have hml3 := tellL_length (packL m (B f) (Bs (l.take k))) a e
      rw [hml] at hml3
      obtain ⟨T, hT⟩ : ∃ T, tellL (packL m (B f) (Bs (l.take k))) a e = T := ⟨_, rfl⟩
      rw [hT] at HTL HTC hml3
      have hle : e ≤ m := by omega
      have hec : e + c.size ≤ m := by omega
      clear hT hc hst he hlt2 hab hml HW hz2
      go_wp2_with fail
      refine HTL.out.mono ?_
      rintro r w1 ⟨rfl, hW1, hb1⟩
      have hcell := HCL.out _ hb1
      have cp := copy_run hW1.out (o := e) (n := m - e) (s := c) (by omega) (by rw [hml3]; omega) (m - e)
      rw [HTC.out] at cp
      have HW2 := Lib.hid (writ_row hW1.out (M := packL m (B f) (Bs (l.take (k + 1)))) (by rw [hml2, hml3]))
      have hb2 := below_setRow (hbw.trans hb1) (Nat.le_refl _) (byteCells (packL m (B f) (Bs (l.take (k + 1))))).toArray
      generalize w1.setRow w.heap.size (byteCells (packL m (B f) (Bs (l.take (k + 1))))).toArray = w2 at *
      have hsum : IntKind.i64.wrap ((e : Int) + c.size) = (e : Int) + c.size := IntWalk.i64_in _ (by omega)
      clear hW1 hb1
      go_wp2_with fail
      go_roundw
      case rel => exact ⟨k + 1, by omega, by go_num, by rw [HE2.out]; go_num, by rw [show m - 2 * (k + 1) = a by omega]; exact HW2, hb2⟩
      case measure => simp [intOf]; omega
    · obtain rfl : k = n := by omega
      have HTC : Hid (tellL (packL m (B f) (Bs (l.take k))) a e = (LP.pack m (B f) (Bs l))) := Lib.hid (by
        have h1 : (B f).length + LP.sum (Bs (l.take k)) = e := by rw [b_size]; exact he
        have h2 : (Bs (l.take k)).length = k := by rw [bs_length, hlt2]
        have h3 := packL_all m (B f) (Bs (l.take k)) (by unfold LP.need; rw [h2]; omega)
        rw [h1, h2, ← ha] at h3
        rw [HN.out, List.take_length] at h3 ⊢
        exact h3)
      have hml3 : (LP.pack m (B f) (Bs l)).length = m := by rw [← HTC.out, tellL_length, hml]
      rw [HTC.out] at HTL
      have hPP : (⟨(LP.pack m (B f) (Bs l)).toArray⟩ : ByteArray) = P := HP.out
      generalize LP.pack m (B f) (Bs l) = T at *
      clear he hlt2 hml HW
      go_wp2_with fail
      refine HTL.out.mono ?_
      rintro r w1 ⟨rfl, hW1, hb1⟩
      have cv := conv_row (P := Try.prog) (t := 41) (e := 5) (s := 9) Try.underlying41 Try.underlying5 Try.underlying9 hW1.out.1 m
      rw [hml3, hPP] at cv
      go_wp2_with fail
      go_ret2
      exact ⟨rfl, hbw.trans hb1⟩
end Go.Proofs.Ytbkjmcnichpmjaa
