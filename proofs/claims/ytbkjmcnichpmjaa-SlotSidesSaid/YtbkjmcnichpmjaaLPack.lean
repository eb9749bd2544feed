/-
  The walk of the document's Pack.
-/
import Derived.Test.YtbkjmcnichpmjaaLRef
namespace Go.Proofs.Ytbkjmcnichpmjaa
open Go.RowKit
set_option linter.unusedVariables false
set_option linter.unusedSimpArgs false

/-- What Pack answers. -/
def packS (room : Nat) (f : ByteArray) (l : List ByteArray) : ByteArray := ⟨(LP.pack room (B f) (Bs l)).toArray⟩
def packV (room : Int) (f : ByteArray) (l : List ByteArray) : Value :=
  if room < 0 ∨ 65535 < room then .tuple #[.string ⟨#[]⟩, .int .i64 4] else if room < (LP.need f.size (Bs l) : Nat) then .tuple #[.string ⟨#[]⟩, .int .i64 8] else .tuple #[.string (packS room.toNat f l), .int .i64 0]
/-- The text behind k cells, and the directory of k of them. -/
def headS (f : ByteArray) (l : List ByteArray) (k : Nat) : ByteArray := ⟨(B f ++ (Bs (l.take k)).flatten).toArray⟩
def endL : Nat → List (List UInt8) → List UInt8
  | _, [] => []
  | a, c :: l => endL (a + c.length) l ++ LP.two a
theorem endL_snoc : ∀ (l : List (List UInt8)) (a : Nat) (c : List UInt8), endL a (l ++ [c]) = LP.two (a + LP.sum l) ++ endL a l
  | [], a, c => by simp [endL, LP.sum]
  | d :: l, a, c => by
    simp only [List.cons_append, endL, endL_snoc l, LP.sum, List.append_assoc]
    rw [Nat.add_assoc]
theorem endL_dir : ∀ (l : List (List UInt8)) (a : Nat), LP.two (a + LP.sum l) ++ endL a l = LP.dir a l
  | [], a => by simp [endL, LP.sum, LP.dir]
  | d :: l, a => by
    simp only [endL, LP.sum, LP.dir, ← endL_dir l, List.append_assoc]
    rw [Nat.add_assoc]
theorem endL_length : ∀ (l : List (List UInt8)) (a : Nat), (endL a l).length = 2 * l.length
  | [], a => rfl
  | d :: l, a => by simp only [endL, List.length_append, endL_length l, LP.two_length, List.length_cons]; omega
def endS (f : ByteArray) (l : List ByteArray) (k : Nat) : ByteArray := ⟨(endL f.size (Bs (l.take k))).toArray⟩
theorem sizeOf (l : List UInt8) : (⟨l.toArray⟩ : ByteArray).size = l.length := by simp [ByteArray.size]
theorem headS_size (f : ByteArray) (l : List ByteArray) (k : Nat) : (headS f l k).size = f.size + LP.sum (Bs (l.take k)) := by
  unfold headS
  rw [sizeOf, List.length_append, LP.flatten_length, b_size]
theorem endS_size (f : ByteArray) (l : List ByteArray) (k : Nat) : (endS f l k).size = 2 * (l.take k).length := by
  simp only [endS, ByteArray.size, List.size_toArray, endL_length, bs_length]
theorem headS_next (f : ByteArray) (l : List ByteArray) (k : Nat) (c : ByteArray) (h : l[k]? = some c) : headS f l k ++ c = headS f l (k + 1) := by
  unfold headS
  rw [bs_snoc l k c h]
  apply ByteArray.ext
  simp
theorem endS_next (f : ByteArray) (l : List ByteArray) (k : Nat) (c : ByteArray) (h : l[k]? = some c) : (⟨(LP.two (headS f l k).size).toArray⟩ : ByteArray) ++ endS f l k = endS f l (k + 1) := by
  rw [headS_size]
  unfold endS
  rw [bs_snoc l k c h, endL_snoc]
  apply ByteArray.ext
  simp
theorem pack_text (f : ByteArray) (l : List ByteArray) (n room : Nat) (hn : n = l.length) : headS f l n ++ ⟨(List.replicate (room - LP.need f.size (Bs l)) (0 : UInt8)).toArray⟩ ++ ((⟨(LP.two (headS f l n).size).toArray⟩ : ByteArray) ++ endS f l n) = packS room f l := by
  subst hn
  rw [headS_size]
  unfold headS endS packS LP.pack
  rw [List.take_length, ← b_size f, ← endL_dir]
  apply ByteArray.ext
  simp

set_option maxHeartbeats 2000000 in
set_option maxRecDepth 100000 in
theorem pack8_any (room : Int) (f : ByteArray) (A : Option Addr) (l : List ByteArray) (ca : Nat) (w : World) (ha : Lies w w.heap.size A l) (hl : l.length ≤ 1000000) (hf : f.size ≤ 1000000) (hs : ∀ s ∈ l, s.size ≤ 65535) :
    Calls Try.prog 10 #[.int .i64 room, .string f, .slice A l.length ca] w fun e w' => e = .returned (packV room f l) ∧ Below w.heap.size w w' := by
  have HSZ := Lib.hid (size8_any f A l ca w ha hl hf hs)
  by_cases h1 : room < 0
  · have hv : packV room f l = .tuple #[.string ⟨#[]⟩, .int .i64 4] := by unfold packV; rw [if_pos (.inl h1)]
    rw [hv]
    clear hv
    go_enter Try.func10, Try.ntmps10
    go_wp2_with fail
    go_ret2
    exact ⟨rfl, Below.refl _ _⟩
  by_cases h2 : 65535 < room
  · have hv : packV room f l = .tuple #[.string ⟨#[]⟩, .int .i64 4] := by unfold packV; rw [if_pos (.inr h2)]
    rw [hv]
    clear hv
    go_enter Try.func10, Try.ntmps10
    go_wp2_with fail
    go_ret2
    exact ⟨rfl, Below.refl _ _⟩
  by_cases h3 : room < (LP.need f.size (Bs l) : Nat)
  · have hv : packV room f l = .tuple #[.string ⟨#[]⟩, .int .i64 8] := by unfold packV; rw [if_neg (by omega), if_pos h3]
    rw [hv]
    clear hv
    generalize LP.need f.size (Bs l) = q at *
    go_enter Try.func10, Try.ntmps10
    go_wp2_with fail
    refine HSZ.out.mono ?_
    rintro e w1 ⟨rfl, rfl⟩
    go_wp2_with fail
    go_ret2
    exact ⟨rfl, Below.refl _ _⟩
  obtain ⟨m, rfl⟩ := Int.eq_ofNat_of_zero_le (show 0 ≤ room by omega)
  have hv : packV m f l = .tuple #[.string (packS m f l), .int .i64 0] := by unfold packV; rw [if_neg (by omega), if_neg h3, Int.toNat_natCast]
  rw [hv]
  clear hv
  obtain ⟨P, hP⟩ : ∃ P, packS m f l = P := ⟨_, rfl⟩
  have HP := Lib.hid hP
  rw [hP]
  have HA := Lib.hid ha
  obtain ⟨n, hn⟩ : ∃ n, n = l.length := ⟨_, rfl⟩
  have HN := Lib.hid hn
  have HNEED : Hid (LP.need f.size (Bs l) ≤ m) := Lib.hid (by omega)
  have HQ : Hid (∀ k, f.size + LP.sum (Bs (l.take k)) + 2 * n + 2 ≤ m) := Lib.hid (fun k => by
    have h5 := HNEED.out
    unfold LP.need at h5
    rw [bs_length, ← hn] at h5
    have h6 : Bs (l.take k) = (Bs l).take k := by simp [Bs]
    have h7 := LP.sum_take_le (Bs l) k
    rw [h6]
    omega)
  rw [← hn] at HSZ hl ⊢
  obtain ⟨q, hq⟩ : ∃ q, LP.need f.size (Bs l) = q := ⟨_, rfl⟩
  rw [hq] at HSZ h3
  have HQ2 := Lib.hid hq
  have hd1 : decide (m < q) = false := decide_eq_false (by omega)
  have hd2 : decide ((m : Int) < (q : Int)) = false := decide_eq_false (by omega)
  clear ha hs hn hP hq
  go_enter Try.func10, Try.ntmps10
  go_wp2_with fail
  refine HSZ.out.mono ?_
  rintro e w1 ⟨rfl, rfl⟩
  go_wp2_with fail
  go_loopw [8, 9, 10] (fun sv ev iv wr => ∃ k : Nat, k ≤ n ∧ iv = .int .i64 k ∧ sv = .string (headS f l k) ∧ ev = .string (endS f l k) ∧ Below w.heap.size w wr) (fun _ _ iv _ => n - (intOf iv).toNat)
  case atStart =>
    refine ⟨0, Nat.zero_le _, rfl, ?_, ?_, Below.refl _ _⟩
    · simp [headS, Bs]
    · simp [endS, Bs, endL]
  case round =>
    obtain ⟨k, hk, rfl, rfl, rfl, hbw⟩ := hrel
    have hz := HQ.out k
    have hH := headS_size f l k
    have hE := endS_size f l k
    have hlt2 : (l.take k).length = k := by rw [List.length_take, ← HN.out]; omega
    rw [hlt2] at hE
    have HTW := Lib.hid (fun W => two_any (headS f l k).size W (by omega))
    obtain ⟨D, hD⟩ : ∃ D : ByteArray, ⟨(LP.two (headS f l k).size).toArray⟩ = D := ⟨_, rfl⟩
    have sD : D.size = 2 := by rw [← hD, sizeOf]; rfl
    rw [hD] at HTW
    by_cases hlt : k < n
    · obtain ⟨c, hc⟩ : ∃ c, l[k]? = some c := ⟨_, List.getElem?_eq_getElem (by have := HN.out; omega)⟩
      have hz2 := HQ.out (k + 1)
      rw [sum_take l k c hc] at hz2
      have HH := Lib.hid (headS_next f l k c hc)
      have HE := Lib.hid (endS_next f l k c hc)
      rw [hD] at HE
      clear hD
      obtain ⟨a, rfl, hab, hcell⟩ := (HA.out.below hbw) k c hc
      clear hc hlt2
      obtain ⟨H, hHH⟩ : ∃ H, headS f l k = H := ⟨_, rfl⟩
      obtain ⟨E, hEE⟩ : ∃ E, endS f l k = E := ⟨_, rfl⟩
      rw [hHH] at HTW HH hH ⊢
      rw [hEE] at HE hE ⊢
      have b1 : ¬ 9223372036854775807 < D.size + E.size := by omega
      have b2 : ¬ 9223372036854775807 < H.size + c.size := by omega
      obtain ⟨E', hE'⟩ : ∃ E', D ++ E = E' := ⟨_, rfl⟩
      obtain ⟨H', hH'⟩ : ∃ H', H ++ c = H' := ⟨_, rfl⟩
      rw [hE'] at HE
      rw [hH'] at HH
      have HCL : Hid (∀ V, Below wr.heap.size wr V → V.cell? (a.add k) = some (.string c)) := Lib.hid (fun V hb => (hb.cell (by rw [addr_block]; exact Nat.lt_of_lt_of_le hab hbw.size)).trans hcell)
      clear hHH hEE hH hE sD hz hz2 hab hcell
      go_wp2_with fail
      refine (HTW.out _).mono ?_
      rintro e w1 ⟨rfl, hb1⟩
      have hcell := HCL.out _ hb1
      go_wp2_with fail
      go_roundw
      case rel => exact ⟨k + 1, by omega, by go_num, by rw [HH.out], by rw [HE.out], hbw.trans' hb1⟩
      case measure => simp [intOf]; omega
    · obtain rfl : k = n := by omega
      have HPT := Lib.hid (pack_text f l k m HN.out)
      rw [HQ2.out, HP.out, hD] at HPT
      have hqe : q = f.size + 2 + LP.sum (Bs (l.take k)) + 2 * k := by
        rw [← HQ2.out, HN.out, List.take_length]
        unfold LP.need
        rw [bs_length]
      obtain ⟨z, hzz⟩ : ∃ z : Nat, z = m - q := ⟨_, rfl⟩
      rw [← hzz] at HPT
      have HRZ := Lib.hid (fun W => repeat0_any z W (by omega))
      obtain ⟨Z, hZ⟩ : ∃ Z : ByteArray, ⟨(List.replicate z (0 : UInt8)).toArray⟩ = Z := ⟨_, rfl⟩
      rw [hZ] at HRZ HPT
      have sZ : Z.size = z := by rw [← hZ, sizeOf]; simp
      clear hD hZ hlt2
      obtain ⟨H, hHH⟩ : ∃ H, headS f l k = H := ⟨_, rfl⟩
      obtain ⟨E, hEE⟩ : ∃ E, endS f l k = E := ⟨_, rfl⟩
      rw [hHH] at HTW hH HPT ⊢
      rw [hEE] at hE HPT ⊢
      obtain ⟨E', hE'⟩ : ∃ E', D ++ E = E' := ⟨_, rfl⟩
      have sE' : E'.size = 2 + 2 * k := by rw [← hE', ByteArray.size_append]; omega
      obtain ⟨J, hJ⟩ : ∃ J, H ++ Z = J := ⟨_, rfl⟩
      have sJ : J.size = H.size + z := by rw [← hJ, ByteArray.size_append, sZ]
      rw [hE', hJ] at HPT
      have b1 : ¬ 9223372036854775807 < D.size + E.size := by omega
      have b2 : ¬ 9223372036854775807 < H.size + Z.size := by omega
      have b3 : ¬ 9223372036854775807 < J.size + E'.size := by omega
      have q1 : IntKind.i64.wrap ((m : Int) - H.size) = (m : Int) - H.size := IntWalk.i64_in _ (by omega)
      have q2 : IntKind.i64.wrap ((m : Int) - H.size - E'.size) = z := by rw [show (m : Int) - H.size - E'.size = z by omega]; exact IntWalk.i64_in _ (by omega)
      have q3 : (m : Int) - H.size - E'.size = z := by omega
      have q4 : IntKind.i64.wrap (z : Int) = z := IntWalk.i64_in _ (by omega)
      clear hHH hEE hH hE sD hz sE' sJ sZ hzz hqe h3
      go_wp2_with fail
      refine (HTW.out _).mono ?_
      rintro e w1 ⟨rfl, hb1⟩
      go_wp2_with fail
      refine (HRZ.out _).mono ?_
      rintro e w2 ⟨rfl, hb2⟩
      have HPE := HPT.out
      go_wp2_with fail
      go_ret2
      exact ⟨rfl, (hbw.trans' hb1).trans' hb2⟩
end Go.Proofs.Ytbkjmcnichpmjaa
