/-
  The document's PutKid, and a text at a place.
-/
import Derived.Test.YtppnchjmbeinkaaVDocP
namespace Go.Proofs.Ytppnchjmbeinkaa
open Go.RowKit
set_option linter.unusedVariables false
set_option linter.unusedSimpArgs false

theorem kidS_eq (k : Nat) (t : ByteArray) : (⟨(Lib.leBytes 4 k).toArray⟩ : ByteArray) ++ ⟨(WP.put t.size).toArray⟩ ++ t = kidS k t := by
  apply ByteArray.ext
  simp [kidS, VP.cellK, VP.text]
set_option maxHeartbeats 1000000 in
set_option maxRecDepth 100000 in
theorem rputk_any (k : Int) (t : ByteArray) (w : World) (ht : t.size ≤ 1000000) :
    Calls Try.prog 14 #[.int .i64 k, .string t] w fun e w' => e = .returned (putKV k t) ∧ Below w.heap.size w w' := by
  have hts : t.data.toList.length = t.size := by simp
  by_cases h1 : k < 1
  · have e : putKV k t = .tuple #[.string ⟨#[]⟩, .int .i64 3] := if_neg (fun h => by have := h.1; omega)
    rw [e]
    clear hts
    have d1 : decide (k < 1) = true := decide_eq_true h1
    go_enter Try.func14, Try.ntmps14
    go_wp2_with fail
    go_ret2
    exact ⟨rfl, Below.refl _ _⟩
  have d1 : decide (k < 1) = false := decide_eq_false h1
  by_cases h2 : 4095 < k
  · have e : putKV k t = .tuple #[.string ⟨#[]⟩, .int .i64 3] := if_neg (fun h => by have := h.2.1; omega)
    rw [e]
    clear hts
    have d2 : decide (4095 < k) = true := decide_eq_true h2
    go_enter Try.func14, Try.ntmps14
    go_wp2_with fail
    go_ret2
    exact ⟨rfl, Below.refl _ _⟩
  have d2 : decide (4095 < k) = false := decide_eq_false h2
  by_cases h3 : 128 < t.size
  · have e : putKV k t = .tuple #[.string ⟨#[]⟩, .int .i64 3] := if_neg (fun h => by have := h.2.2; omega)
    rw [e]
    clear hts
    have d3 : decide (128 < t.size) = true := decide_eq_true h3
    have d4 : decide ((128 : Int) < t.size) = true := decide_eq_true (by omega)
    go_enter Try.func14, Try.ntmps14
    go_wp2_with fail
    go_ret2
    exact ⟨rfl, Below.refl _ _⟩
  have d3 : decide (128 < t.size) = false := decide_eq_false h3
  have d4 : decide ((128 : Int) < t.size) = false := decide_eq_false (by omega)
  obtain ⟨k, rfl⟩ := Int.eq_ofNat_of_zero_le (show 0 ≤ k by omega)
  have e : putKV k t = .tuple #[.string (kidS k t), .int .i64 0] := if_pos ⟨by omega, by omega, by omega⟩
  rw [e]
  clear hts e
  have HPF := Lib.hid (fun W => rfour_any (k : Int) W (by omega) (by omega))
  have HPT := Lib.hid (fun W => rput_any (t.size : Int) W (by omega) (by omega))
  have hDs := wput_size t.size (by omega)
  have hGs := four_size k
  rw [Int.toNat_natCast] at HPF HPT
  have HC := kidS_eq k t
  obtain ⟨D, hD⟩ : ∃ D : ByteArray, ⟨(WP.put t.size).toArray⟩ = D := ⟨_, rfl⟩
  obtain ⟨G, hG⟩ : ∃ G : ByteArray, ⟨(Lib.leBytes 4 k).toArray⟩ = G := ⟨_, rfl⟩
  rw [hD] at HPT hDs HC
  rw [hG] at HPF hGs HC
  rw [← HC]
  have a1 : IntKind.u64.wrap (t.size : Int) = t.size := Int.emod_eq_of_lt (by omega) (by show (t.size : Int) < 18446744073709551616; omega)
  have a3 : IntKind.u32.wrap (k : Int) = k := Int.emod_eq_of_lt (by omega) (by show (k : Int) < 4294967296; omega)
  have z1 : (G ++ D).size = G.size + D.size := ByteArray.size_append
  obtain ⟨Y, hY⟩ : ∃ Y, G ++ D = Y := ⟨_, rfl⟩
  rw [hY] at z1 ⊢
  have b2 : ¬ 9223372036854775807 < G.size + D.size := by omega
  have b3 : ¬ 9223372036854775807 < Y.size + t.size := by omega
  clear hD hG HC hDs hGs z1
  go_enter Try.func14, Try.ntmps14
  go_wp2_with fail
  refine (HPF.out _).mono ?_
  rintro e w1 ⟨rfl, hb1⟩
  go_wp2_with fail
  refine (HPT.out _).mono ?_
  rintro e w2 ⟨rfl, hb2⟩
  go_wp2_with fail
  go_ret2
  exact ⟨rfl, hb1.trans' hb2⟩

/-- A text with its length ahead, or that there is none. -/
def gotT : Option (List UInt8 × Nat) → Value
  | none => .tuple #[.string ⟨#[]⟩, .int .i64 (-1)]
  | some x => .tuple #[.string ⟨x.1.toArray⟩, .int .i64 (x.2 : Nat)]
theorem extract_list (s : ByteArray) (i n : Nat) : (⟨((s.data.toList.drop i).take n).toArray⟩ : ByteArray) = s.extract i (i + n) := by
  apply ByteArray.ext
  apply Array.toList_inj.1
  have h := Lib.extract_data s i (i + n)
  rw [h]
  simp
set_option maxHeartbeats 1000000 in
set_option maxRecDepth 100000 in
theorem rtext_any (s : ByteArray) (i : Nat) (w : World) (hi : i ≤ s.size) (hs : s.size ≤ 1000000) :
    Calls Try.prog 31 #[.string s, .int .i64 i] w fun e w' => e = .returned (gotT (VP.gtext s.data.toList i)) ∧ Below w.heap.size w w' := by
  have HG := Lib.hid (rget_any s (i : Int) w (by omega) (by omega) hs)
  rw [Int.toNat_natCast] at HG
  have hts : s.data.toList.length = s.size := by simp
  obtain ⟨n, to, er, hg⟩ : ∃ n to er, WP.get s.data.toList i = (n, to, er) := ⟨_, _, _, rfl⟩
  have hsp := WP.get_spec s.data.toList i
  rw [hg] at HG hsp
  simp only at HG
  have bad : er ≠ 0 ∨ s.size - to < n → VP.gtext s.data.toList i = none := fun h => by
    unfold VP.gtext
    rw [hg]
    simp only
    rw [if_neg]
    rintro ⟨h1, h2⟩
    rw [hts] at h2
    omega
  rcases hsp with h | h | ⟨n', to', h, h1, h2, _, h4⟩
  · simp only [Prod.mk.injEq] at h
    obtain ⟨rfl, rfl, rfl⟩ := h
    rw [bad (by omega)]
    clear bad hg hts
    go_enter Try.func31, Try.ntmps31
    go_wp2_with fail
    refine HG.out.mono ?_
    rintro e w1 ⟨rfl, hb1⟩
    go_wp2_with fail
    go_ret2
    exact ⟨rfl, hb1⟩
  · simp only [Prod.mk.injEq] at h
    obtain ⟨rfl, rfl, rfl⟩ := h
    rw [bad (by omega)]
    clear bad hg hts
    go_enter Try.func31, Try.ntmps31
    go_wp2_with fail
    refine HG.out.mono ?_
    rintro e w1 ⟨rfl, hb1⟩
    go_wp2_with fail
    go_ret2
    exact ⟨rfl, hb1⟩
  · simp only [Prod.mk.injEq] at h
    obtain ⟨rfl, rfl, rfl⟩ := h
    rw [hts] at h2
    have q1 : IntKind.i64.wrap ((s.size : Int) - to) = (s.size : Int) - to := IntWalk.i64_in _ (by omega)
    have q2 : IntKind.u64.wrap ((s.size : Int) - to) = (s.size : Int) - to := Int.emod_eq_of_lt (by omega) (by show (s.size : Int) - to < 18446744073709551616; omega)
    by_cases h5 : s.size - to < n
    · rw [bad (by omega)]
      have d1 : decide ((s.size : Int) - to < n) = true := decide_eq_true (by omega)
      clear bad hg hts
      go_enter Try.func31, Try.ntmps31
      go_wp2_with fail
      refine HG.out.mono ?_
      rintro e w1 ⟨rfl, hb1⟩
      go_wp2_with fail
      go_ret2
      exact ⟨rfl, hb1⟩
    · have hok : VP.gtext s.data.toList i = some ((s.data.toList.drop to).take n, to + n) := by
        unfold VP.gtext
        rw [hg]
        simp only
        rw [if_pos ⟨trivial, by rw [hts]; omega⟩]
      rw [hok]
      have he := extract_list s to n
      rw [gotT, he]
      have d1 : decide ((s.size : Int) - to < n) = false := decide_eq_false (by omega)
      have q3 : IntKind.i64.wrap (n : Int) = n := IntWalk.i64_in _ (by omega)
      have q4 : IntKind.i64.wrap ((to : Int) + n) = ((to + n : Nat) : Int) := by rw [show ((to : Int) + n) = ((to + n : Nat) : Int) by omega]; exact IntWalk.i64_in _ (by omega)
      have q5 : ((to : Int) + n) = ((to + n : Nat) : Int) := by omega
      obtain ⟨z, hz⟩ : ∃ z, to + n = z := ⟨_, rfl⟩
      rw [hz] at q4 q5 ⊢
      have j1 : (0 : Int) ≤ to := by omega
      have j2 : (to : Int) ≤ z := by omega
      have j3 : (z : Int) ≤ s.size := by omega
      have j4 : to ≤ z := by omega
      have j5 : z ≤ s.size := by omega
      clear bad hg hts hok he hz
      go_enter Try.func31, Try.ntmps31
      go_wp2_with fail
      refine HG.out.mono ?_
      rintro e w1 ⟨rfl, hb1⟩
      go_wp2_with fail
      go_ret2
      exact ⟨rfl, hb1⟩
end Go.Proofs.Ytppnchjmbeinkaa
