/-
  Walk of the document's own answer of layer 1: Get.
  The document's Right, PutValue, PutKid.
  The document's PutValue and PutKid.
  The document's PutKid, and a text at a place.
  The document's GetValue. Written by wip/gen_vdocg.py.
  The walks of inner.rightPage, rightNumbers, rightKids.
  An append onto a row without room that is another one's; the walk of inner.highs.
  The document's GetKid.
  What package cell answers, as contracts; the document's Repeat; calls with one answer.
  The walk of strings.Clone.
  Package cell: the box of fields, and the calls that read them.
  Package cell: what a value's and a kid's cell tell.
  Package cell: what may be; numbers and texts; PutKid, GetValue, GetKid.
  An inner page under way: its box, and both of its rows, which are the call's own.
-/
import Derived.Test.YtembccehokodeaaGreatDoorJ02
import Derived.BigQuiet
import Derived.IntWalk
import Derived.Deep.QuietTactic
import Derived.ArgAppend
import Derived.Deep.RegionLaw
import Derived.Lib.MinMaxS
import Derived.Deep.AppendLies
import Derived.Laws.OwnMore
import Derived.WalkLawsBesides
import Derived.Lib.Walk
import Derived.Lib.BufferWrite
import Derived.Lib.UnsafeStr
import Derived.Laws.MakeOwn
import Derived.Laws.Cover1
namespace Go.Proofs.YtembccehokodeaaGreatDoor.L9
open Go.RowKit
set_option linter.unusedVariables false
set_option maxHeartbeats 400000 in
theorem rget_end (s : ByteArray) (i : Int) (w : World) (h1 : i = s.size) :
    Calls Tryz.prog 56 #[.string s, .int .i64 i] w fun e w' => e = .returned (.tuple #[.int .u64 0, .int .i64 0, .int .i64 7]) ∧ w = w' := by
  subst h1
  go_enter Tryz.func56, Tryz.ntmps56
  go_wp2_with fail
  go_ret3
  exact ⟨rfl, rfl⟩

set_option maxHeartbeats 400000 in
theorem rget_short (s : ByteArray) (i : Nat) (w : World) (h1 : i < s.size) (h3 : (s.size : Int) - i ≤ WP.flw s[i].toNat) (h2 : s.size ≤ 1000000) :
    Calls Tryz.prog 56 #[.string s, .int .i64 i] w fun e w' => e = .returned (.tuple #[.int .u64 0, .int .i64 0, .int .i64 7]) ∧ w = w' := by
  have hne : ((i : Int) == s.size) = false := beq_eq_false_iff_ne.2 (by omega)
  have hby := s[i].toNat_lt
  have hfl := WP.flw_le s[i].toNat (by omega)
  have hfn := WP.flw_nn s[i].toNat
  go_enter Tryz.func56, Tryz.ntmps56
  go_wp2_with fail
  refine (rfollow_any _ _ (by omega) (by omega)).mono ?_
  rintro e w' ⟨rfl, rfl⟩
  go_wp2_with fail
  go_ret3
  exact ⟨rfl, rfl⟩

theorem ret_got {X Y a b c : Int} (h : X = Y) (h2 : a = b) : Ending.returned (.tuple #[.int .u64 X, .int .i64 a, .int .i64 c]) = .returned (.tuple #[.int .u64 Y, .int .i64 b, .int .i64 c]) := by rw [h, h2]

theorem beNat_take_lt (s : ByteArray) (a k : Nat) (h : a + k ≤ s.size) : Lib.beNat ((s.data.toList.drop a).take k) < 256 ^ k := by
  have h1 := WP.beNat_lt ((s.data.toList.drop a).take k)
  have hl : ((s.data.toList.drop a).take k).length = k := by simp; omega
  rwa [hl] at h1

set_option maxHeartbeats 2000000 in
theorem rget_go (s : ByteArray) (i : Nat) (w : World) (h1 : i < s.size) (f v : Nat) (hf : (f : Int) = WP.flw s[i].toNat) (h3 : i + f < s.size) (h2 : s.size ≤ 1000000)
    (hv : v = WP.told s[i].toNat (s.extract (i + 1) (i + 1 + f)).data.toList) (hvb : v ≤ 18446744073709551615) (q : Bool) (hq : (WP.put v == (s.extract i (i + 1 + f)).toList) = q) :
    Calls Tryz.prog 56 #[.string s, .int .i64 i] w fun e w' => e = .returned (bif q then .tuple #[.int .u64 v, .int .i64 (i + 1 + f : Nat), .int .i64 0] else .tuple #[.int .u64 0, .int .i64 0, .int .i64 3]) ∧ Below w.heap.size w w' := by
  have hne : ((i : Int) == s.size) = false := beq_eq_false_iff_ne.2 (by omega)
  have hby := s[i].toNat_lt
  have hf8 := WP.flw_le s[i].toNat (by omega)
  rw [← hf] at hf8
  have HF := Lib.hid hf
  have HV : Hid (v = WP.told s[i].toNat ((s.data.toList.drop (i + 1)).take f)) := Lib.hid (by rw [hv, Lib.extract_data, show i + 1 + f - (i + 1) = f by omega])
  have HP : Hid (∀ (X : Int), X = v → ∀ W, Calls Tryz.prog 66 #[.int .u64 X] W fun e w' => e = .returned (.string ⟨(WP.put v).toArray⟩) ∧ Below W.heap.size W w') :=
    Lib.hid (fun X hX W => by
      subst hX
      have h := rput_any (v : Int) W (by omega) (by omega)
      rwa [Int.toNat_natCast] at h)
  clear hf hv
  have hlt : i + 1 + f ≤ s.size := by omega
  generalize WP.put v = pv at *
  have d0 : decide ((i : Int) < 0) = false := decide_eq_false (by omega)
  go_enter Tryz.func56, Tryz.ntmps56
  go_wp2_with fail
  refine (rfollow_any _ _ (by omega) (by omega)).mono ?_
  rintro e w' ⟨rfl, rfl⟩
  rw [← HF.out]
  have d1 : decide ((s.size : Int) < (i : Int) + 1 + f) = false := decide_eq_false (by omega)
  go_wp2_with fail
  refine (rfollow_any _ _ (by omega) (by omega)).mono ?_
  rintro e w' ⟨rfl, rfl⟩
  rw [← HF.out]
  go_wp2_with fail
  go_loop [8, 9] (fun n j => ∃ k : Nat, k ≤ f ∧ j = .int .i64 ((i : Int) + 1 + k) ∧ n = .int .u64 (Lib.beNat ((s.data.toList.drop (i + 1)).take k) : Nat)) (fun _ j => (i + 1 + f) - (intOf j).toNat)
  case atStart => exact ⟨0, Nat.zero_le _, by go_num, rfl⟩
  case round =>
    obtain ⟨k, hk, rfl, rfl⟩ := hrel
    have hlt0 := beNat_take_lt s (i + 1) k (by omega)
    by_cases hkf : k < f
    · have hp := WP.pow256 k (by omega)
      have hix : i + 1 + k < s.size := by omega
      have HB : Hid (Lib.beNat ((s.data.toList.drop (i + 1)).take (k + 1)) = Lib.beNat ((s.data.toList.drop (i + 1)).take k) * 256 + (s[i + 1 + k]'hix).toNat) :=
        Lib.hid (by rw [WP.drop_take_snoc s (i + 1) k (by omega), WP.beNat_snoc])
      have hby2 := (s[i + 1 + k]'hix).toNat_lt
      generalize Lib.beNat ((s.data.toList.drop (i + 1)).take k) = u at *
      go_wp2_with fail
      go_round
      case rel =>
        refine ⟨k + 1, by omega, by go_num, ?_⟩
        rw [HB.out]
        go_num
      case measure => simp [intOf]; omega
    · obtain rfl : k = f := by omega
      have hfe := HF.out
      unfold WP.flw at hfe
      have HVV := Lib.hid (show v = WP.told s[i].toNat ((s.data.toList.drop (i + 1)).take k) from HV.out)
      have hvi : (v : Int) ≤ 18446744073709551615 := by omega
      have q2 : (0 : Int) ≤ (i : Int) + 1 + k := by omega
      have q3 : ((i : Int) + 1 + k).toNat = i + 1 + k := by omega
      have q4 : (i : Int) + 1 + k ≤ s.size := by omega
      have q5 : (i : Int) ≤ (i : Int) + 1 + k := by omega
      rcases (show s[i].toNat < 241 ∨ (241 ≤ s[i].toNat ∧ s[i].toNat < 249) ∨ s[i].toNat = 249 ∨ 249 < s[i].toNat by omega) with h | h | h | h
      · have e := HVV.out
        rw [WP.told_1 _ _ h] at e
        have E := Lib.hid e
        clear hfe HVV HV e
        generalize Lib.beNat ((s.data.toList.drop (i + 1)).take k) = u at *
        cases q
        all_goals
          go_wp2_with fail
          go_region_held3 (fun _ => True) (trivial) ((go_at_call 66; refine (HP.out _ (by have := E.out; omega) _).mono ?_; rintro e w2 ⟨rfl, hb2⟩))
          all_goals clear q2 q3 q4 q5
          all_goals go_wp2_with fail
          all_goals go_ret3
          all_goals refine ⟨?_, below_of_drew hb2⟩
        all_goals first
          | exact rfl
          | exact ret_got (by have := E.out; omega) (by omega)
      · have e := HVV.out
        rw [WP.told_2 _ _ h.1 h.2] at e
        have E := Lib.hid e
        rw [if_neg (by omega), if_pos (by omega)] at hfe
        have hk1 : k = 1 := by omega
        have hlt1 : Lib.beNat ((s.data.toList.drop (i + 1)).take k) < 256 := by have := hlt0; rwa [show (256 : Nat) ^ k = 256 by rw [hk1]] at this
        clear hk1 hlt0
        clear hfe HVV HV e
        generalize Lib.beNat ((s.data.toList.drop (i + 1)).take k) = u at *
        cases q
        all_goals
          go_wp2_with fail
          go_region_held3 (fun _ => True) (trivial) ((go_at_call 66; refine (HP.out _ (by have := E.out; omega) _).mono ?_; rintro e w2 ⟨rfl, hb2⟩))
          all_goals clear q2 q3 q4 q5
          all_goals go_wp2_with fail
          all_goals go_ret3
          all_goals refine ⟨?_, below_of_drew hb2⟩
        all_goals first
          | exact rfl
          | exact ret_got (by have := E.out; omega) (by omega)
      · have e := HVV.out
        rw [WP.told_3 _ _ h] at e
        have E := Lib.hid e
        rw [if_neg (by omega), if_neg (by omega)] at hfe
        have hk1 : k = 2 := by omega
        have hlt1 : Lib.beNat ((s.data.toList.drop (i + 1)).take k) < 65536 := by have := hlt0; rwa [show (256 : Nat) ^ k = 65536 by rw [hk1]] at this
        clear hlt0
        have hne9 : ((s[i].toNat : Int) == 249) = true := beq_iff_eq.2 (by omega)
        have h' : 249 ≤ s[i].toNat := by omega
        clear hk1 h
        clear hfe HVV HV e
        generalize Lib.beNat ((s.data.toList.drop (i + 1)).take k) = u at *
        cases q
        all_goals
          go_wp2_with fail
          go_region_held3 (fun _ => True) (trivial) ((go_at_call 66; refine (HP.out _ (by have := E.out; omega) _).mono ?_; rintro e w2 ⟨rfl, hb2⟩))
          all_goals clear q2 q3 q4 q5
          all_goals go_wp2_with fail
          all_goals go_ret3
          all_goals refine ⟨?_, below_of_drew hb2⟩
        all_goals first
          | exact rfl
          | exact ret_got (by have := E.out; omega) (by omega)
      · have e := HVV.out
        rw [WP.told_4 _ _ h] at e
        have E := Lib.hid e
        have hne9 : ((s[i].toNat : Int) == 249) = false := beq_eq_false_iff_ne.2 (by omega)
        clear hfe HVV HV e
        generalize Lib.beNat ((s.data.toList.drop (i + 1)).take k) = u at *
        cases q
        all_goals
          go_wp2_with fail
          go_region_held3 (fun _ => True) (trivial) ((go_at_call 66; refine (HP.out _ (by have := E.out; omega) _).mono ?_; rintro e w2 ⟨rfl, hb2⟩))
          all_goals clear q2 q3 q4 q5
          all_goals go_wp2_with fail
          all_goals go_ret3
          all_goals refine ⟨?_, below_of_drew hb2⟩
        all_goals first
          | exact rfl
          | exact ret_got (by have := E.out; omega) (by omega)

theorem rget_any (s : ByteArray) (i : Int) (w : World) (h0 : 0 ≤ i) (h1 : i ≤ s.size) (h2 : s.size ≤ 1000000) :
    Calls Tryz.prog 56 #[.string s, .int .i64 i] w fun e w' => e = .returned (.tuple #[.int .u64 (WP.get s.data.toList i.toNat).1, .int .i64 (WP.get s.data.toList i.toNat).2.1, .int .i64 (WP.get s.data.toList i.toNat).2.2]) ∧ Below w.heap.size w w' := by
  obtain ⟨a, rfl⟩ := Int.eq_ofNat_of_zero_le h0
  rw [Int.toNat_natCast]
  by_cases he : a < s.size
  · have hn := WP.flw_nn s[a].toNat
    by_cases hs : (s.size : Int) - a ≤ WP.flw s[a].toNat
    · rw [WP.get_short s a he hs]
      exact (rget_short s a w he hs h2).mono fun e w' ⟨h, h'⟩ => ⟨h, h' ▸ Below.refl _ _⟩
    · obtain ⟨f, hf⟩ := Int.eq_ofNat_of_zero_le hn
      have hl : (((s.extract (a + 1) (a + 1 + f)).data.toList.length : Nat) : Int) = WP.flw s[a].toNat := by rw [Lib.extract_data]; simp; omega
      have hvb := WP.told_le s[a].toNat _ (by have := s[a].toNat_lt; omega) hl
      rw [WP.get_rest s a f he hf.symm (by omega)]
      have H := rget_go s a w he f _ hf.symm (by omega) h2 rfl hvb _ rfl
      by_cases hq : WP.put (WP.told s[a].toNat (s.extract (a + 1) (a + 1 + f)).data.toList) = (s.extract a (a + 1 + f)).toList
      · rw [if_pos hq]
        rw [beq_iff_eq.2 hq] at H
        exact H
      · rw [if_neg hq]
        rw [beq_eq_false_iff_ne.2 hq] at H
        exact H
  · rw [WP.get_end _ a (by simp; omega)]
    exact (rget_end s a w (by omega)).mono fun e w' ⟨h, h'⟩ => ⟨h, h' ▸ Below.refl _ _⟩

end Go.Proofs.YtembccehokodeaaGreatDoor.L9

namespace Go.Proofs.YtembccehokodeaaGreatDoor.L9
open Go.RowKit
set_option linter.unusedVariables false
set_option linter.unusedSimpArgs false
end Go.Proofs.YtembccehokodeaaGreatDoor.L9

namespace Go.Proofs.YtembccehokodeaaGreatDoor.L9
open Go.RowKit
set_option linter.unusedVariables false
set_option linter.unusedSimpArgs false
def kidS (k : Nat) (t : ByteArray) : ByteArray := ⟨(VP.cellK k t.data.toList).toArray⟩
def putKV (k : Int) (t : ByteArray) : Value := if VP.OkK k t.data.toList then .tuple #[.string (kidS k.toNat t), .int .i64 0] else .tuple #[.string ⟨#[]⟩, .int .i64 3]
theorem bytes_size (l : List UInt8) : (⟨l.toArray⟩ : ByteArray).size = l.length := by simp [ByteArray.size]
theorem wput_size (n : Nat) (h : n ≤ 18446744073709551615) : (⟨(WP.put n).toArray⟩ : ByteArray).size ≤ 9 := by
  obtain ⟨_, _, _, _, _, h1⟩ := WP.put_form n h
  have := WP.size_bd n
  rw [bytes_size]
  omega
theorem four_size (n : Nat) : (⟨(Lib.leBytes 4 n).toArray⟩ : ByteArray).size = 4 := by rw [bytes_size, Lib.leBytes_length]
def textS (t : ByteArray) : ByteArray := ⟨(VP.text t.data.toList).toArray⟩
theorem textS_eq (t : ByteArray) (n : Nat) (h : t.size = n) : (⟨(WP.put n).toArray⟩ : ByteArray) ++ t = textS t := by
  subst h
  apply ByteArray.ext
  simp [textS, VP.text]
theorem textS_size (t : ByteArray) (h : t.size ≤ 1000000) : (textS t).size ≤ 9 + t.size := by
  have h1 := textS_eq t _ rfl
  have h2 := wput_size t.size (by omega)
  rw [← h1, ByteArray.size_append]
  omega
end Go.Proofs.YtembccehokodeaaGreatDoor.L9

namespace Go.Proofs.YtembccehokodeaaGreatDoor.L9
open Go.RowKit
set_option linter.unusedVariables false
set_option linter.unusedSimpArgs false

theorem kidS_eq (k : Nat) (t : ByteArray) : (⟨(Lib.leBytes 4 k).toArray⟩ : ByteArray) ++ ⟨(WP.put t.size).toArray⟩ ++ t = kidS k t := by
  apply ByteArray.ext
  simp [kidS, VP.cellK, VP.text]
set_option maxHeartbeats 1000000 in
set_option maxRecDepth 100000 in
theorem rputk_any (k : Int) (t : ByteArray) (w : World) (ht : t.size ≤ 1000000) :
    Calls Tryz.prog 67 #[.int .i64 k, .string t] w fun e w' => e = .returned (putKV k t) ∧ Below w.heap.size w w' := by
  have hts : t.data.toList.length = t.size := by simp
  by_cases h1 : k < 1
  · have e : putKV k t = .tuple #[.string ⟨#[]⟩, .int .i64 3] := if_neg (fun h => by have := h.1; omega)
    rw [e]
    clear hts
    have d1 : decide (k < 1) = true := decide_eq_true h1
    go_enter Tryz.func67, Tryz.ntmps67
    go_wp2_with fail
    go_ret2
    exact ⟨rfl, Below.refl _ _⟩
  have d1 : decide (k < 1) = false := decide_eq_false h1
  by_cases h2 : 4095 < k
  · have e : putKV k t = .tuple #[.string ⟨#[]⟩, .int .i64 3] := if_neg (fun h => by have := h.2.1; omega)
    rw [e]
    clear hts
    have d2 : decide (4095 < k) = true := decide_eq_true h2
    go_enter Tryz.func67, Tryz.ntmps67
    go_wp2_with fail
    go_ret2
    exact ⟨rfl, Below.refl _ _⟩
  have d2 : decide (4095 < k) = false := decide_eq_false h2
  by_cases h3 : 128 < t.size
  · have e : putKV k t = .tuple #[.string ⟨#[]⟩, .int .i64 3] := if_neg (fun h => by have := h.2.2; omega)
    rw [e]
    clear hts
    have d3 : decide (128 < t.size) = true := decide_eq_true h3
    have d4 : decide ((128 : Int) < t.size) = true := decide_eq_true (by omega)
    go_enter Tryz.func67, Tryz.ntmps67
    go_wp2_with fail
    go_ret2
    exact ⟨rfl, Below.refl _ _⟩
  have d3 : decide (128 < t.size) = false := decide_eq_false h3
  have d4 : decide ((128 : Int) < t.size) = false := decide_eq_false (by omega)
  obtain ⟨k, rfl⟩ := Int.eq_ofNat_of_zero_le (show 0 ≤ k by omega)
  have e : putKV k t = .tuple #[.string (kidS k t), .int .i64 0] := if_pos ⟨by omega, by omega, by omega⟩
  rw [e]
  clear hts e
  have HPF := Lib.hid (fun W => rfour_any (k : Int) W (by omega) (by omega))
  have HPT := Lib.hid (fun W => rput_any (t.size : Int) W (by omega) (by omega))
  have hDs := wput_size t.size (by omega)
  have hGs := four_size k
  rw [Int.toNat_natCast] at HPF HPT
  have HC := kidS_eq k t
  obtain ⟨D, hD⟩ : ∃ D : ByteArray, ⟨(WP.put t.size).toArray⟩ = D := ⟨_, rfl⟩
  obtain ⟨G, hG⟩ : ∃ G : ByteArray, ⟨(Lib.leBytes 4 k).toArray⟩ = G := ⟨_, rfl⟩
  rw [hD] at HPT hDs HC
  rw [hG] at HPF hGs HC
  rw [← HC]
  have a1 : IntKind.u64.wrap (t.size : Int) = t.size := Int.emod_eq_of_lt (by omega) (by show (t.size : Int) < 18446744073709551616; omega)
  have a3 : IntKind.u32.wrap (k : Int) = k := Int.emod_eq_of_lt (by omega) (by show (k : Int) < 4294967296; omega)
  have z1 : (G ++ D).size = G.size + D.size := ByteArray.size_append
  obtain ⟨Y, hY⟩ : ∃ Y, G ++ D = Y := ⟨_, rfl⟩
  rw [hY] at z1 ⊢
  have b2 : ¬ 9223372036854775807 < G.size + D.size := by omega
  have b3 : ¬ 9223372036854775807 < Y.size + t.size := by omega
  clear hD hG HC hDs hGs z1
  go_enter Tryz.func67, Tryz.ntmps67
  go_wp2_with fail
  refine (HPF.out _).mono ?_
  rintro e w1 ⟨rfl, hb1⟩
  go_wp2_with fail
  refine (HPT.out _).mono ?_
  rintro e w2 ⟨rfl, hb2⟩
  go_wp2_with fail
  go_ret2
  exact ⟨rfl, hb1.trans' hb2⟩

/-- A text with its length ahead, or that there is none. -/
def gotT : Option (List UInt8 × Nat) → Value
  | none => .tuple #[.string ⟨#[]⟩, .int .i64 (-1)]
  | some x => .tuple #[.string ⟨x.1.toArray⟩, .int .i64 (x.2 : Nat)]
theorem extract_list (s : ByteArray) (i n : Nat) : (⟨((s.data.toList.drop i).take n).toArray⟩ : ByteArray) = s.extract i (i + n) := by
  apply ByteArray.ext
  apply Array.toList_inj.1
  have h := Lib.extract_data s i (i + n)
  rw [h]
  simp
set_option maxHeartbeats 1000000 in
set_option maxRecDepth 100000 in
theorem rtext_any (s : ByteArray) (i : Nat) (w : World) (hi : i ≤ s.size) (hs : s.size ≤ 1000000) :
    Calls Tryz.prog 77 #[.string s, .int .i64 i] w fun e w' => e = .returned (gotT (VP.gtext s.data.toList i)) ∧ Below w.heap.size w w' := by
  have HG := Lib.hid (rget_any s (i : Int) w (by omega) (by omega) hs)
  rw [Int.toNat_natCast] at HG
  have hts : s.data.toList.length = s.size := by simp
  obtain ⟨n, to, er, hg⟩ : ∃ n to er, WP.get s.data.toList i = (n, to, er) := ⟨_, _, _, rfl⟩
  have hsp := WP.get_spec s.data.toList i
  rw [hg] at HG hsp
  simp only at HG
  have bad : er ≠ 0 ∨ s.size - to < n → VP.gtext s.data.toList i = none := fun h => by
    unfold VP.gtext
    rw [hg]
    simp only
    rw [if_neg]
    rintro ⟨h1, h2⟩
    rw [hts] at h2
    omega
  rcases hsp with h | h | ⟨n', to', h, h1, h2, _, h4⟩
  · simp only [Prod.mk.injEq] at h
    obtain ⟨rfl, rfl, rfl⟩ := h
    rw [bad (by omega)]
    clear bad hg hts
    go_enter Tryz.func77, Tryz.ntmps77
    go_wp2_with fail
    refine HG.out.mono ?_
    rintro e w1 ⟨rfl, hb1⟩
    go_wp2_with fail
    go_ret2
    exact ⟨rfl, hb1⟩
  · simp only [Prod.mk.injEq] at h
    obtain ⟨rfl, rfl, rfl⟩ := h
    rw [bad (by omega)]
    clear bad hg hts
    go_enter Tryz.func77, Tryz.ntmps77
    go_wp2_with fail
    refine HG.out.mono ?_
    rintro e w1 ⟨rfl, hb1⟩
    go_wp2_with fail
    go_ret2
    exact ⟨rfl, hb1⟩
  · simp only [Prod.mk.injEq] at h
    obtain ⟨rfl, rfl, rfl⟩ := h
    rw [hts] at h2
    have q1 : IntKind.i64.wrap ((s.size : Int) - to) = (s.size : Int) - to := IntWalk.i64_in _ (by omega)
    have q2 : IntKind.u64.wrap ((s.size : Int) - to) = (s.size : Int) - to := Int.emod_eq_of_lt (by omega) (by show (s.size : Int) - to < 18446744073709551616; omega)
    by_cases h5 : s.size - to < n
    · rw [bad (by omega)]
      have d1 : decide ((s.size : Int) - to < n) = true := decide_eq_true (by omega)
      clear bad hg hts
      go_enter Tryz.func77, Tryz.ntmps77
      go_wp2_with fail
      refine HG.out.mono ?_
      rintro e w1 ⟨rfl, hb1⟩
      go_wp2_with fail
      go_ret2
      exact ⟨rfl, hb1⟩
    · have hok : VP.gtext s.data.toList i = some ((s.data.toList.drop to).take n, to + n) := by
        unfold VP.gtext
        rw [hg]
        simp only
        rw [if_pos ⟨trivial, by rw [hts]; omega⟩]
      rw [hok]
      have he := extract_list s to n
      rw [gotT, he]
      have d1 : decide ((s.size : Int) - to < n) = false := decide_eq_false (by omega)
      have q3 : IntKind.i64.wrap (n : Int) = n := IntWalk.i64_in _ (by omega)
      have q4 : IntKind.i64.wrap ((to : Int) + n) = ((to + n : Nat) : Int) := by rw [show ((to : Int) + n) = ((to + n : Nat) : Int) by omega]; exact IntWalk.i64_in _ (by omega)
      have q5 : ((to : Int) + n) = ((to + n : Nat) : Int) := by omega
      obtain ⟨z, hz⟩ : ∃ z, to + n = z := ⟨_, rfl⟩
      rw [hz] at q4 q5 ⊢
      have j1 : (0 : Int) ≤ to := by omega
      have j2 : (to : Int) ≤ z := by omega
      have j3 : (z : Int) ≤ s.size := by omega
      have j4 : to ≤ z := by omega
      have j5 : z ≤ s.size := by omega
      clear bad hg hts hok he hz
      go_enter Tryz.func77, Tryz.ntmps77
      go_wp2_with fail
      refine HG.out.mono ?_
      rintro e w1 ⟨rfl, hb1⟩
      go_wp2_with fail
      go_ret2
      exact ⟨rfl, hb1⟩
end Go.Proofs.YtembccehokodeaaGreatDoor.L9

namespace Go.Proofs.YtembccehokodeaaGreatDoor.L9
open Go.RowKit
set_option linter.unusedVariables false
set_option linter.unusedSimpArgs false
theorem gtext_some {l t : List UInt8} {i k : Nat} (h : VP.gtext l i = some (t, k)) : k ≤ l.length ∧ t.length ≤ l.length := by
  unfold VP.gtext at h
  simp only at h
  split at h
  · rename_i h1
    simp only [Option.some.injEq, Prod.mk.injEq] at h
    obtain ⟨rfl, rfl⟩ := h
    have hsp := WP.get_spec l i
    refine ⟨?_, by simp; omega⟩
    rcases hsp with e | e | ⟨n, to, e, h2, h3, _⟩
    · rw [e] at h1; simp at h1
    · rw [e] at h1; simp at h1
    · rw [e] at h1 ⊢
      simp only at h1 ⊢
      omega
  · simp at h
theorem listS (l : List UInt8) : ∃ T : ByteArray, l = T.data.toList := ⟨⟨l.toArray⟩, by simp⟩

end Go.Proofs.YtembccehokodeaaGreatDoor.L9

namespace Go.Proofs.YtembccehokodeaaGreatDoor
open Go.RowKit IP
set_option linter.unusedVariables false
set_option linter.unusedSimpArgs false

theorem npage_any (k : Int) (w : World) :
    Calls Tryz.prog 78 #[.int .i64 k] w fun e w' => e = .returned (.bool (decide (KidOk k))) ∧ w = w' := by
  rcases (show k < 1 ∨ (1 ≤ k ∧ k ≤ 4095) ∨ (1 ≤ k ∧ 4095 < k) by omega) with h | h | h
  · have e : decide (KidOk k) = false := decide_eq_false (by unfold KidOk; omega)
    have d1 : decide (1 ≤ k) = false := decide_eq_false (by omega)
    rw [e]
    clear h e
    go_enter Tryz.func78, Tryz.ntmps78
    go_wp2_with fail
    go_ret
    exact ⟨rfl, rfl⟩
  · have e : decide (KidOk k) = true := decide_eq_true h
    have d1 : decide (1 ≤ k) = true := decide_eq_true (by omega)
    have d2 : decide (k ≤ 4095) = true := decide_eq_true (by omega)
    rw [e]
    clear h e
    go_enter Tryz.func78, Tryz.ntmps78
    go_wp2_with fail
    go_ret
    exact ⟨rfl, rfl⟩
  · have e : decide (KidOk k) = false := decide_eq_false (by unfold KidOk; omega)
    have d1 : decide (1 ≤ k) = true := decide_eq_true (by omega)
    have d2 : decide (k ≤ 4095) = false := decide_eq_false (by omega)
    rw [e]
    clear h e
    go_enter Tryz.func78, Tryz.ntmps78
    go_wp2_with fail
    go_ret
    exact ⟨rfl, rfl⟩

def NumOk' (F L R : Int) : Prop := 1 ≤ F ∧ F ≤ 4095 ∧ 1 ≤ L ∧ L ≤ 255 ∧ 0 ≤ R ∧ R ≤ 4095 ∧ R ≠ F
instance (F L R : Int) : Decidable (NumOk' F L R) := by unfold NumOk'; infer_instance
set_option maxHeartbeats 2000000 in
theorem nums_any (F L R : Int) (H : ByteArray) (A : Option Addr) (n ca : Nat) (C : Option Addr) (m cb : Nat) (w : World) :
    Calls Tryz.prog 43 #[nv F L R H A n ca C m cb] w fun e w' => e = .returned (.bool (decide (NumOk' F L R))) ∧ Below w.heap.size w w' := by
  have HPF := Lib.hid (fun W => npage_any F W)
  have HPR := Lib.hid (fun W => npage_any R W)
  have hb := nbox_below 25 F L R H A n ca C m cb w
  by_cases h1 : KidOk F
  · rw [decide_eq_true h1] at HPF
    by_cases h2 : 1 ≤ L
    · have d1 : decide (1 ≤ L) = true := decide_eq_true h2
      by_cases h3 : L ≤ 255
      · have d2 : decide (L ≤ 255) = true := decide_eq_true h3
        by_cases h4 : R = 0
        · have e : decide (NumOk' F L R) = true := decide_eq_true (by unfold NumOk'; unfold KidOk at h1; omega)
          have d4 : (R != F) = true := by unfold KidOk at h1; simp; omega
          rw [e]
          subst h4
          clear h1 h2 h3 e HPR
          go_enter Tryz.func43, Tryz.ntmps43
          go_wp2_with fail
          refine (HPF.out _).mono ?_
          rintro e w2 ⟨rfl, rfl⟩
          go_wp2_with fail
          go_ret
          exact ⟨rfl, hb⟩
        · have d3 : (R == 0) = false := beq_eq_false_iff_ne.2 h4
          by_cases h5 : KidOk R
          · rw [decide_eq_true h5] at HPR
            have e : (R != F) = decide (NumOk' F L R) := by
              unfold KidOk at h1 h5
              by_cases hq : R = F
              · rw [decide_eq_false (by unfold NumOk'; omega)]; simp [hq]
              · rw [decide_eq_true (by unfold NumOk'; omega)]; simp [hq]
            generalize decide (NumOk' F L R) = q at *
            clear h1 h2 h3 h4 h5
            go_enter Tryz.func43, Tryz.ntmps43
            go_wp2_with fail
            refine (HPF.out _).mono ?_
            rintro e w2 ⟨rfl, rfl⟩
            go_wp2_with fail
            refine (HPR.out _).mono ?_
            rintro e w2 ⟨rfl, rfl⟩
            go_wp2_with fail
            go_ret
            exact ⟨rfl, hb⟩
          · rw [decide_eq_false h5] at HPR
            have e : decide (NumOk' F L R) = false := decide_eq_false (by unfold NumOk'; unfold KidOk at h5; omega)
            rw [e]
            clear h1 h2 h3 h4 h5 e
            go_enter Tryz.func43, Tryz.ntmps43
            go_wp2_with fail
            refine (HPF.out _).mono ?_
            rintro e w2 ⟨rfl, rfl⟩
            go_wp2_with fail
            refine (HPR.out _).mono ?_
            rintro e w2 ⟨rfl, rfl⟩
            go_wp2_with fail
            go_ret
            exact ⟨rfl, hb⟩
      · have d2 : decide (L ≤ 255) = false := decide_eq_false h3
        have e : decide (NumOk' F L R) = false := decide_eq_false (by unfold NumOk'; omega)
        rw [e]
        clear h1 h2 h3 e HPR
        go_enter Tryz.func43, Tryz.ntmps43
        go_wp2_with fail
        refine (HPF.out _).mono ?_
        rintro e w2 ⟨rfl, rfl⟩
        go_wp2_with fail
        go_ret
        exact ⟨rfl, hb⟩
    · have d1 : decide (1 ≤ L) = false := decide_eq_false h2
      have e : decide (NumOk' F L R) = false := decide_eq_false (by unfold NumOk'; omega)
      rw [e]
      clear h1 h2 e HPR
      go_enter Tryz.func43, Tryz.ntmps43
      go_wp2_with fail
      refine (HPF.out _).mono ?_
      rintro e w2 ⟨rfl, rfl⟩
      go_wp2_with fail
      go_ret
      exact ⟨rfl, hb⟩
  · rw [decide_eq_false h1] at HPF
    have e : decide (NumOk' F L R) = false := decide_eq_false (by unfold NumOk'; unfold KidOk at h1; omega)
    rw [e]
    clear h1 e HPR
    go_enter Tryz.func43, Tryz.ntmps43
    go_wp2_with fail
    refine (HPF.out _).mono ?_
    rintro e w2 ⟨rfl, rfl⟩
    go_wp2_with fail
    go_ret
    exact ⟨rfl, hb⟩

def KidsOk' (ks : List Int) (m : Nat) : Prop := ks.length = m + 1 ∧ ∀ k ∈ ks, KidOk k
instance (ks : List Int) (m : Nat) : Decidable (KidsOk' ks m) := by unfold KidsOk'; infer_instance
theorem all_nextK {l : List Int} {k : Nat} {x : Int} (hc : l[k]? = some x) (h : ∀ y ∈ l.take k, KidOk y) (hx : KidOk x) : ∀ y ∈ l.take (k + 1), KidOk y := by
  rw [List.take_add_one, hc]
  intro y hy
  rcases List.mem_append.1 hy with hy | hy
  · exact h y hy
  · obtain rfl := List.mem_singleton.1 hy
    exact hx
set_option maxHeartbeats 1000000 in
set_option maxRecDepth 100000 in
theorem kids_any (F L R : Int) (H : ByteArray) (A : Option Addr) (n ca : Nat) (C : Option Addr) (m cb : Nat) (ks : List Int) (w : World) (ha : LiesN w w.heap.size A ks) (hn : ks.length = n) (hl : n ≤ 1000000) (hm : m ≤ 1000000) :
    Calls Tryz.prog 44 #[nv F L R H A n ca C m cb] w fun e w' => e = .returned (.bool (decide (KidsOk' ks m))) ∧ Below w.heap.size w w' := by
  have hb := nbox_below 25 F L R H A n ca C m cb w
  have HB := Lib.hid hb
  have HK := Lib.hid (nbox_new 25 F L R H A n ca C m cb w)
  have HA := Lib.hid (ha.below' hb (Nat.le_refl _))
  have HN := Lib.hid hn
  obtain ⟨r, HR⟩ : ∃ r, Hid (r = decide (KidsOk' ks m)) := ⟨_, Lib.hid rfl⟩
  rw [← HR.out]
  have HPG := Lib.hid (fun k W => npage_any k W)
  clear ha hn hb
  go_enter Tryz.func44, Tryz.ntmps44
  go_wp2_with fail
  go_loopw [8] (fun iv wr => ∃ k : Nat, k ≤ n ∧ iv = .int .i64 k ∧ Hid (∀ x ∈ ks.take k, KidOk x) ∧ Hid (wr = nbox 25 F L R H A n ca C m cb w)) (fun iv _ => n - (intOf iv).toNat)
  case atStart => exact ⟨0, by omega, rfl, Lib.hid (by simp), Lib.hid rfl⟩
  case round =>
    obtain ⟨k, hk, rfl, HX, HW⟩ := hrel
    obtain ⟨c0, c1, c2, c3, c4, c5⟩ := HK.out.cells
    rw [← HW.out] at c4 c5
    by_cases hlt : k < n
    · obtain ⟨x, hc⟩ : ∃ c, ks[k]? = some c := ⟨_, List.getElem?_eq_getElem (by have := HN.out; omega)⟩
      obtain ⟨a, rfl, hab, x0⟩ := HA.out k x hc
      rw [← HW.out] at x0
      have h0 : (0 : Int) ≤ k := by omega
      have hkn : (k : Int) < n := by omega
      have HP := Lib.hid (fun W => HPG.out x W)
      by_cases hx : KidOk x
      · rw [decide_eq_true hx] at HP
        have HX2 := Lib.hid (all_nextK hc HX.out hx)
        clear hc hab hx c0 c1 c2 c3 c4 c5
        go_wp2_with fail
        refine (HP.out _).mono ?_
        rintro e w2 ⟨rfl, rfl⟩
        go_wp2_with fail
        go_roundw
        case rel => exact ⟨k + 1, by omega, by simp, HX2, HW⟩
        case measure => simp [intOf]; omega
      · rw [decide_eq_false hx] at HP
        have HF : Hid (r = false) := Lib.hid (by rw [HR.out]; exact decide_eq_false (fun h => hx (h.2 x (List.mem_of_getElem? hc))))
        clear hc hab hx c0 c1 c2 c3 c4 c5
        go_wp2_with fail
        refine (HP.out _).mono ?_
        rintro e w2 ⟨rfl, rfl⟩
        go_wp2_with fail
        go_ret
        exact ⟨by rw [HF.out]; rfl, by rw [HW.out]; exact HB.out⟩
    · have hlt' : ¬ (k : Int) < n := by omega
      have HF : Hid (((n : Int) == (m : Int) + 1) = r) := Lib.hid (by
        have h := HX.out
        rw [List.take_of_length_le (by have := HN.out; omega)] at h
        rw [HR.out]
        by_cases hq : n = m + 1
        · rw [decide_eq_true ⟨HN.out.trans hq, h⟩]
          simp [hq]
        · rw [decide_eq_false (fun h => hq (HN.out.symm.trans h.1))]
          simp; omega)
      have hw : IntKind.i64.wrap ((m : Int) + 1) = (m : Int) + 1 := IntWalk.i64_in _ (by omega)
      clear hk
      go_wp2_with fail
      go_ret
      exact ⟨by first | (rw [HF.out] <;> rfl) | (rw [← HF.out]; rfl), by rw [HW.out]; exact HB.out⟩
end Go.Proofs.YtembccehokodeaaGreatDoor

namespace Go.Proofs.YtembccehokodeaaGreatDoor
open Go.RowKit IP
set_option linter.unusedVariables false
set_option linter.unusedSimpArgs false

theorem own_less {w : World} {base base' size n : Nat} {e : TypeId} {v : Value} {xs : List Value} (h : w.ownsRow base e size v n xs) (hb : base' ≤ base) : w.ownsRow base' e size v n xs :=
  ⟨h.1, h.2.imp id fun ⟨g, cap, cur, e1, hg, r⟩ => ⟨g, cap, cur, e1, Nat.le_trans hb hg, r⟩⟩
theorem run_append_full {P : Program} (w : World) (t ty e : TypeId) (i : TypeInfo) (z : Value) (bytes : Nat) (ht : P.underlying t = some (.slice e)) (hi : P.info? e = some i) (hz : i.zero = some z)
    (hsize : i.size = 1) (hby : i.bytes = bytes) (hzs : z.cells.size = 1) (A : Option Addr) (n : Nat) (olds : List Value) (hA : A = none → n = 0) (hlo : olds.length = n) (holds : ∀ a, A = some a → ∀ j u, olds[j]? = some u → w.cell? (a.add j) = some u)
    (ad : Addr) (m c : Nat) (news : List Value) (hl : news.length = m) (hnews : ∀ j u, news[j]? = some u → w.cell? (ad.add j) = some u) (h1 : ∀ u ∈ news, u.oneCell' = true)
    (hm : 0 < m) (h63 : n + m ≤ maxLen) (hbytes : (n + m) * bytes ≤ 140737488355328) :
    ∃ g cap w', (Builtin.append_ #[t, t] ty #[.slice A n n, .slice (some ad) m c]).run P w = .ok (.slice (some ⟨g, 0, none⟩) (n + m) cap) w' ∧
      w'.ownsRow w.heap.size e 1 (.slice (some ⟨g, 0, none⟩) (n + m) cap) (n + m) (olds ++ news) ∧ w.grownBy w' none := by
  cases A with
  | none =>
    obtain rfl := hA rfl
    obtain rfl := List.eq_nil_of_length_eq_zero hlo
    obtain ⟨g, cap, w', hr, h2, h3, _⟩ := run_append_lies (P := P) (w := w) t ty w.heap.size e i z 1 bytes ht hi hz hsize hby hzs (by omega) (.slice none 0 0) 0 [] ⟨by simp, .inl ⟨rfl, rfl⟩⟩ ad m c news (by omega) hnews h1 hm h63 hbytes (Nat.le_refl _) w.heap.size rfl
    exact ⟨g, cap, w', hr, h2, h3⟩
  | some a =>
    obtain ⟨v', w', hr, h2, h3⟩ := run_append_arg_grows (P := P) w t ty e i z 1 bytes ht hi hz hsize hby hzs (by omega) a n n olds (by omega) (holds a rfl) ad m c news (by omega) hnews (by omega) h63 hbytes
    obtain ⟨g, cap, rfl, _, _⟩ := h2.form (by omega)
    exact ⟨g, cap, w', hr, h2, h3⟩
theorem step_append_full {P : Program} (w : World) {ops : Array Oper} {o : Oper} {a : Act} {K : Act → World → Prop} {Q : Exit → Act → World → Prop} {E : Prop} (hgd : o.guard = none) (s x : Operand) (t : TypeId)
    (ho : o.op = .call { callee := .builtin .append, args := #[s, x], argTypes := #[t, t] })
    (e : TypeId) (i : TypeInfo) (z : Value) (bytes : Nat) (ht : P.underlying t = some (.slice e)) (hi : P.info? e = some i) (hz : i.zero = some z)
    (hsize : i.size = 1) (hby : i.bytes = bytes) (hzs : z.cells.size = 1) (A : Option Addr) (n : Nat) (olds : List Value) (hs : a.eval s = .slice A n n) (hA : A = none → n = 0) (hlo : olds.length = n) (holds : ∀ a, A = some a → ∀ j u, olds[j]? = some u → w.cell? (a.add j) = some u)
    (ad : Addr) (m c : Nat) (news : List Value) (hx : a.eval x = .slice (some ad) m c) (hl : news.length = m) (hnews : ∀ j u, news[j]? = some u → w.cell? (ad.add j) = some u) (h1 : ∀ u ∈ news, u.oneCell' = true)
    (hm : 0 < m) (h63 : n + m ≤ maxLen) (hbytes : (n + m) * bytes ≤ 140737488355328)
    (h : ∀ g cap w', w'.ownsRow w.heap.size e 1 (.slice (some ⟨g, 0, none⟩) (n + m) cap) (n + m) (olds ++ news) → w.grownBy w' none → K (a.put o.dst (.slice (some ⟨g, 0, none⟩) (n + m) cap)) w') :
    if Region.wanted o (yielded ops a.tmps) = true then Oper.wp P o a w K Q else E := by
  have hw : Region.wanted o (yielded ops a.tmps) = true := by simp [Region.wanted, hgd]
  rw [if_pos hw]
  obtain ⟨g, cap, w', hr, h2, h3⟩ := run_append_full (P := P) w t o.type e i z bytes ht hi hz hsize hby hzs A n olds hA hlo holds ad m c news hl hnews h1 hm h63 hbytes
  unfold Oper.wp execOp
  simp only [ho, resolve, invoke, builtin, Sem.run_bind, Sem.run_pure, Result.andThen_ok, List.map_toArray, List.map_cons, List.map_nil, hs, hx, hr]
  exact h g cap w' h2 h3

set_option maxHeartbeats 1000000 in
set_option maxRecDepth 100000 in
theorem highs_any (F L R : Int) (H : ByteArray) (A : Option Addr) (n ca : Nat) (C : Option Addr) (m cb : Nat) (ss : List ByteArray) (w : World) (hc : L5.Lies w w.heap.size C ss) (hC : C = none → m = 0) (hn : n = m + 1) (hm : ss.length = m) (hcb : m ≤ cb) (hl : m ≤ 1000000) :
    Calls Tryz.prog 80 #[nv F L R H A n ca C m cb] w fun e w' => ∃ g cap, e = .returned (.slice (some ⟨g, 0, none⟩) n cap) ∧ w'.ownsRow w.heap.size 9 1 (.slice (some ⟨g, 0, none⟩) n cap) n (L5.strCells (ss ++ [H])) ∧ Below w.heap.size w w' := by
  obtain ⟨i0, hi, hz0, hz1, hz2⟩ := info_parts L5.Tryz.infoStr
  have hb := nbox_below 25 F L R H A n ca C m cb w
  have HB := Lib.hid hb
  have HK := Lib.hid (nbox_new 25 F L R H A n ca C m cb w)
  have HC := Lib.hid (lies_below' hc hb (Nat.le_refl _))
  have HCN := Lib.hid hC
  have HM := Lib.hid hm
  have w1 : IntKind.i64.wrap ((n : Int) - 1) = m := (IntWalk.i64_in _ (by omega)).trans (by omega)
  have mn : min (m : Int) (m : Int) = m := by omega
  have hz : ((n : Int) == 0) = false := beq_eq_false_iff_ne.2 (by omega)
  have h0 : (0 : Int) ≤ m := by omega
  have hcb' : (m : Int) ≤ cb := by omega
  have HNM := Lib.hid hn
  clear hc hC hm hb hn
  go_enter Tryz.func80, Tryz.ntmps80
  obtain ⟨c0, c1, c2, c3, c4, c5⟩ := HK.out.cells
  have HS : Hid (∀ V, Below (w.heap.size + 1) (nbox 25 F L R H A n ca C m cb w) V → (V.cell? ⟨w.heap.size, 3, none⟩ = some (.string H) ∧ V.cell? ⟨w.heap.size, 5, none⟩ = some (.slice C m cb))) := Lib.hid (fun V hb => ⟨(hb.cell (p := ⟨w.heap.size, 3, none⟩) (Nat.lt_succ_self _)).trans HK.out.cells.2.2.2.1, (hb.cell (p := ⟨w.heap.size, 5, none⟩) (Nat.lt_succ_self _)).trans HK.out.cells.2.2.2.2.2⟩)
  have HZ : Hid ((nbox 25 F L R H A n ca C m cb w).heap.size = w.heap.size + 1) := Lib.hid (nbox_size _ _ _ _ _ _ _ _ _ _ _ _)
  have hS0 := HS.out _ (Below.refl _ _)
  have hS1 := HS.out _ (L5.below_drewN (Below.refl _ _) 1)
  have hBA : Below (w.heap.size + 1) (nbox 25 F L R H A n ca C m cb w) ((nbox 25 F L R H A n ca C m cb w).drew.alloc (.cells #[.string H] 9)) := by
    have h := L5.below_alloc (nbox 25 F L R H A n ca C m cb w).drew (.cells #[.string H] 9)
    rw [show (nbox 25 F L R H A n ca C m cb w).drew.heap.size = w.heap.size + 1 from HZ.out] at h
    exact (L5.below_drewN (Below.refl _ _) 1).trans h
  have hblk : ((nbox 25 F L R H A n ca C m cb w).drew.alloc (.cells #[.string H] 9)).heap[w.heap.size + 1]? = some (.cells #[.string H] 9 (0, 0)) := by
    have h := heap_alloc_new (nbox 25 F L R H A n ca C m cb w).drew (.cells #[.string H] 9)
    rwa [show (nbox 25 F L R H A n ca C m cb w).drew.heap.size = w.heap.size + 1 from HZ.out] at h
  have HOL : Hid (∀ V, Below (w.heap.size + 1) (nbox 25 F L R H A n ca C m cb w) V → ∀ a, C = some a → ∀ j u, (L5.strCells ss)[j]? = some u → V.cell? (a.add j) = some u) := Lib.hid (fun V hV a ha j u hu => by
    unfold L5.strCells at hu
    rw [List.getElem?_map] at hu
    obtain ⟨s, hs, rfl⟩ := Option.map_eq_some_iff.1 hu
    obtain ⟨a', e, hb, hx⟩ := HC.out j s hs
    obtain rfl := Option.some.inj (ha.symm.trans e)
    exact (hV.cell (by rw [L5.addr_block]; omega)).trans hx)
  have HBA := Lib.hid hBA
  have HBK := Lib.hid hblk
  have HSZ : Hid (((nbox 25 F L R H A n ca C m cb w).drew.alloc (.cells #[.string H] 9)).heap.size = w.heap.size + 2) := Lib.hid (by simp)
  have HBG : Hid (∀ W', ((nbox 25 F L R H A n ca C m cb w).drew.alloc (.cells #[.string H] 9)).grownBy W' none → Below (w.heap.size + 1) (nbox 25 F L R H A n ca C m cb w) W') := Lib.hid (fun W' hg => by
    have h : Below ((nbox 25 F L R H A n ca C m cb w).drew.alloc (.cells #[.string H] 9)).heap.size ((nbox 25 F L R H A n ca C m cb w).drew.alloc (.cells #[.string H] 9)) W' := (Below.refl _ _).grown hg (Nat.le_refl _) (by simp)
    exact HBA.out.trans (h.mono (by rw [HSZ.out]; omega)))
  clear hBA hblk
  have hSA := HS.out ((nbox 25 F L R H A n ca C m cb w).drew.alloc (.cells #[.string H] 9)) HBA.out
  go_wp2_with fail
  go_region_held3 (fun V => V.cell? ⟨w.heap.size, 3, none⟩ = some (.string H) ∧ V.cell? ⟨w.heap.size, 5, none⟩ = some (.slice C m cb))
    (first | assumption)
    (first
      | (refine step_append_full _ (by rfl) _ _ _ (by rfl) 9 i0 (.string ⟨#[]⟩) 16 Tryz.underlying23 hi hz0 hz1 hz2 rfl C m (L5.strCells ss) (by rfl) HCN.out (by rw [L5.strCells_length, HM.out]) (HOL.out _ HBA.out) ⟨w.heap.size + 1, 0, none⟩ 1 1 [.string H] (by first | rfl | (simp; done)) rfl (World.news_of_block (cs := #[.string H]) (t := 9) (fr := (0, 0)) HBK.out) (L5.str_one _) (by omega) (by unfold maxLen; omega) (by omega) ?_; intro g' cap' w1 hown' hgrow; have hbG := HBG.out _ hgrow; have hSG := HS.out _ hbG)
      | fail "no arm")
  go_wp2_with fail
  go_ret
  have hown2 := own_less hown' (show w.heap.size ≤ _ by simp only [World.size_alloc, World.drew]; first | omega | (simp; omega) | simp)
  have e1 : L5.strCells ss ++ [Value.string H] = L5.strCells (ss ++ [H]) := by simp [L5.strCells]
  rw [e1] at hown2
  obtain rfl := HNM.out
  exact ⟨g', cap', rfl, hown2, HB.out.trans (hbG.mono (by omega))⟩
end Go.Proofs.YtembccehokodeaaGreatDoor

namespace Go.Proofs.YtembccehokodeaaGreatDoor.L9
open Go.RowKit
set_option linter.unusedVariables false
set_option linter.unusedSimpArgs false

/-- What GetKid answers. -/
def gotK : Option (Nat × List UInt8) → Value
  | none => .tuple #[.int .i64 0, .string ⟨#[]⟩, .int .i64 3]
  | some x => .tuple #[.int .i64 (x.1 : Nat), .string ⟨x.2.toArray⟩, .int .i64 0]
theorem getK_of {l t : List UInt8} {k : Nat} (h : VP.parseK l = some (k, t)) : VP.getK l = if VP.OkK k t ∧ VP.cellK k t = l then some (k, t) else none := by unfold VP.getK; rw [h]
theorem getK_of_none {l : List UInt8} (h : VP.parseK l = none) : VP.getK l = none := by unfold VP.getK; rw [h]
theorem putKV_form (k : Int) (t : ByteArray) : ∃ (P : ByteArray) (e : Int), putKV k t = .tuple #[.string P, .int .i64 e] := by
  unfold putKV
  split
  · exact ⟨_, _, rfl⟩
  · exact ⟨_, _, rfl⟩

set_option maxHeartbeats 2000000 in
set_option maxRecDepth 100000 in
theorem rgetk_any (s : ByteArray) (w : World) (hs : s.size ≤ 1000000) :
    Calls Tryz.prog 42 #[.string s] w fun e w' => e = .returned (gotK (VP.getK s.data.toList)) ∧ Below w.heap.size w w' := by
  have hts : s.data.toList.length = s.size := by simp
  by_cases h4 : 4 ≤ s.size
  · have HRD := Lib.hid (fun W => rread_any s 0 W (by omega) (by omega) (by unfold maxLen; omega))
    simp only [show (0 : Int).toNat = 0 from rfl, List.drop_zero] at HRD
    have hle4 := WP.leNat_four s.data.toList
    obtain ⟨pg, hpg⟩ : ∃ p, Lib.leNat (s.data.toList.take 4) = p := ⟨_, rfl⟩
    rw [hpg] at HRD hle4
    by_cases hp : 4095 < pg
    · have hv : VP.getK s.data.toList = none := getK_of_none (by unfold VP.parseK; rw [hpg, if_neg fun h => by omega])
      rw [hv]
      have d2 : decide ((4095 : Int) < pg) = true := decide_eq_true (by omega)
      have d3 : decide (4095 < pg) = true := decide_eq_true hp
      clear hv hpg hts
      go_enter Tryz.func42, Tryz.ntmps42
      go_wp2_with fail
      refine (HRD.out _).mono ?_
      rintro e w1 ⟨rfl, rfl⟩
      go_wp2_with fail
      go_ret3
      exact ⟨rfl, Below.refl _ _⟩
    have d2 : decide ((4095 : Int) < pg) = false := decide_eq_false (by omega)
    have d3 : decide (4095 < pg) = false := decide_eq_false hp
    have q8 : IntKind.i64.wrap (pg : Int) = pg := IntWalk.i64_in _ (by omega)
    have HT := Lib.hid (fun W => rtext_any s 4 W h4 hs)
    cases hg : VP.gtext s.data.toList 4 with
    | none =>
      have hp1 : VP.parseK s.data.toList = none := by
        unfold VP.parseK
        rw [hpg, if_pos ⟨by omega, by omega⟩]
        simp only [hg]
      rw [hg] at HT
      simp only [gotT, show ((4 : Nat) : Int) = 4 from rfl] at HT
      rw [getK_of_none hp1]
      obtain ⟨P, er, hpk⟩ := putKV_form pg ⟨#[]⟩
      have HPK := Lib.hid (fun W => rputk_any pg ⟨#[]⟩ W (by decide))
      rw [hpk] at HPK
      clear hp1 hg hpg hpk hts
      go_enter Tryz.func42, Tryz.ntmps42
      go_wp2_with fail
      refine (HRD.out _).mono ?_
      rintro e w1 ⟨rfl, rfl⟩
      go_wp2_with fail
      refine (HT.out _).mono ?_
      rintro e w1 ⟨rfl, hb1⟩
      go_wp2_with fail
      refine (HPK.out _).mono ?_
      rintro e w2 ⟨rfl, hb2⟩
      go_wp2_with fail
      go_ret3
      exact ⟨rfl, hb1.trans' hb2⟩
    | some x =>
      obtain ⟨t, i⟩ := x
      obtain ⟨hi, htl⟩ := gtext_some hg
      rw [hts] at hi htl
      obtain ⟨T, rfl⟩ := listS t
      have hTs : T.size ≤ s.size := by simpa using htl
      have hTe : (⟨T.data.toList.toArray⟩ : ByteArray) = T := ByteArray.ext (by simp)
      have hp1 : VP.parseK s.data.toList = some (pg, T.data.toList) := by
        unfold VP.parseK
        rw [hpg, if_pos ⟨by omega, by omega⟩]
        simp only [hg]
      rw [hg] at HT
      simp only [gotT, show ((4 : Nat) : Int) = 4 from rfl] at HT
      rw [hTe] at HT
      have HPK := Lib.hid (fun W => rputk_any pg T W (by omega))
      have d4 : decide ((i : Int) < 0) = false := decide_eq_false (by omega)
      by_cases hOk : VP.OkK (pg : Int) T.data.toList
      · have e1 : putKV pg T = .tuple #[.string (kidS pg T), .int .i64 0] := if_pos hOk
        rw [e1] at HPK
        by_cases hcs : kidS pg T = s
        · have hv : VP.getK s.data.toList = some (pg, T.data.toList) := by
            rw [getK_of hp1, if_pos ⟨hOk, by rw [← hcs]; rfl⟩]
          rw [hv]
          rw [hcs] at HPK
          simp only [gotK]
          rw [hTe]
          have q2 : (s.toList == s.toList) = true := beq_self_eq_true _
          have q3 : (s.toList != s.toList) = false := by simp
          clear hv hcs e1 hOk hp1 hg hpg hts hTe htl
          go_enter Tryz.func42, Tryz.ntmps42
          go_wp2_with fail
          refine (HRD.out _).mono ?_
          rintro e w1 ⟨rfl, rfl⟩
          go_wp2_with fail
          refine (HT.out _).mono ?_
          rintro e w1 ⟨rfl, hb1⟩
          go_wp2_with fail
          refine (HPK.out _).mono ?_
          rintro e w2 ⟨rfl, hb2⟩
          go_wp2_with fail
          go_ret3
          exact ⟨rfl, hb1.trans' hb2⟩
        · have hv : VP.getK s.data.toList = none := by
            rw [getK_of hp1, if_neg]
            rintro ⟨_, h⟩
            exact hcs (ByteArray.ext (Array.toList_inj.1 h))
          rw [hv]
          obtain ⟨C, hC⟩ : ∃ C, kidS pg T = C := ⟨_, rfl⟩
          rw [hC] at HPK hcs
          have q2 : (C.toList == s.toList) = false := by
            rw [Lib.toList_data, Lib.toList_data]
            exact beq_eq_false_iff_ne.2 fun e => hcs (ByteArray.ext (Array.toList_inj.1 e))
          have q3 : (C.toList != s.toList) = true := by rw [bne, q2]; rfl
          clear hv hcs e1 hOk hp1 hg hpg hts hTe htl hC
          go_enter Tryz.func42, Tryz.ntmps42
          go_wp2_with fail
          refine (HRD.out _).mono ?_
          rintro e w1 ⟨rfl, rfl⟩
          go_wp2_with fail
          refine (HT.out _).mono ?_
          rintro e w1 ⟨rfl, hb1⟩
          go_wp2_with fail
          refine (HPK.out _).mono ?_
          rintro e w2 ⟨rfl, hb2⟩
          go_wp2_with fail
          go_ret3
          exact ⟨rfl, hb1.trans' hb2⟩
      · have e1 : putKV pg T = .tuple #[.string ⟨#[]⟩, .int .i64 3] := if_neg hOk
        rw [e1] at HPK
        have hv : VP.getK s.data.toList = none := by
          rw [getK_of hp1, if_neg fun h => hOk h.1]
        rw [hv]
        clear hv e1 hOk hp1 hg hpg hts hTe htl
        go_enter Tryz.func42, Tryz.ntmps42
        go_wp2_with fail
        refine (HRD.out _).mono ?_
        rintro e w1 ⟨rfl, rfl⟩
        go_wp2_with fail
        refine (HT.out _).mono ?_
        rintro e w1 ⟨rfl, hb1⟩
        go_wp2_with fail
        refine (HPK.out _).mono ?_
        rintro e w2 ⟨rfl, hb2⟩
        go_wp2_with fail
        go_ret3
        exact ⟨rfl, hb1.trans' hb2⟩
  · have hv : VP.getK s.data.toList = none := getK_of_none (by unfold VP.parseK; rw [if_neg fun h => by omega])
    rw [hv]
    have HRD := Lib.hid (fun W => rread_short s 0 W (by omega) (by omega) (by omega) hs)
    clear hv hts
    go_enter Tryz.func42, Tryz.ntmps42
    go_wp2_with fail
    refine (HRD.out _).mono ?_
    rintro e w1 ⟨rfl, rfl⟩
    go_wp2_with fail
    go_ret3
    exact ⟨rfl, Below.refl _ _⟩
end Go.Proofs.YtembccehokodeaaGreatDoor.L9

namespace Go.Proofs.YtembccehokodeaaGreatDoor.L9
open Go.RowKit
set_option linter.unusedVariables false
set_option linter.unusedSimpArgs false

/-- Calls of one function at given arguments, with one answer, in any world. -/
def Tells (f : Nat) (args : Array Value) (v : Value) : Prop := ∀ W, Calls Tryz.prog f args W fun e w' => e = .returned v ∧ Below W.heap.size W w'
theorem Tells.at {f : Nat} {args : Array Value} {v : Value} (h : Tells f args v) {B W : World} (hb : Below B.heap.size B W) : Calls Tryz.prog f args W fun e w' => e = .returned v ∧ Below B.heap.size B w' :=
  (h W).mono fun e w' ⟨h1, h2⟩ => ⟨h1, hb.trans' h2⟩
theorem below_drewN {c : Nat} {w v : World} (h : Below c w v) (n : Nat) : Below c w (v.drewN n) := ⟨h.os, h.tape, h.output, h.size, h.block⟩

theorem Tryz.infoByte : (Tryz.prog.info? 5).map (fun i => (i.zero, i.size, i.bytes)) = some (some (.int .u8 0), 1, 1) := by kernel_rfl
end Go.Proofs.YtembccehokodeaaGreatDoor.L9

namespace Go.Proofs.YtembccehokodeaaGreatDoor.L9
open Go.RowKit
set_option linter.unusedVariables false
set_option linter.unusedSimpArgs false

/-- A text's bytes. -/
abbrev B (s : ByteArray) : List UInt8 := s.data.toList
theorem b_size (s : ByteArray) : (B s).length = s.size := by simp [B]
/-- The cells of a text's bytes. -/
def txt (s : ByteArray) : Array Value := (Lib.byteCells (B s)).toArray
theorem txt_size (s : ByteArray) : (txt s).size = s.size := by simp [txt, Lib.byteCells_length]

set_option maxHeartbeats 2000000 in
set_option maxRecDepth 100000 in
theorem litClone_any (s : ByteArray) (w : World) (hs : s.size ≤ 1000000) :
    Calls Tryz.prog 81 #[.string s] w fun e w' => e = .returned (.string s) ∧ Below w.heap.size w w' := by
  by_cases h0 : s.size = 0
  · obtain rfl : s = ⟨#[]⟩ := ByteArray.ext (Array.eq_empty_of_size_eq_zero h0)
    go_enter Tryz.func81, Tryz.ntmps81
    go_wp2
    go_ret
    exact ⟨rfl, Below.refl _ _⟩
  · obtain ⟨i0, hi, hz0, hz1, hz2⟩ := info_parts Tryz.infoByte
    have hsz : (Tryz.prog.info? 5).map (·.size) = some 1 := by rw [hi]; simp [hz1]
    have hcells : Tryz.prog.cellsOf 5 = 1 := by simp [Program.cellsOf, hi, hz1]
    obtain ⟨Z, hZ⟩ : ∃ Z, Z = madeCells (Value.int .u8 0).cells (((s.size : Nat) : Int).toNat * i0.size) := ⟨_, rfl⟩
    have hZs : Z.size = s.size := by rw [hZ, size_madeCells, hz1]; simp
    -- the bytes are made,
    have mk : ∀ W : World, (Instr.makeSlice 94 (.int .i64 (s.size : Int)) (.int .i64 (s.size : Int))).run Tryz.prog W = .ok (.slice (some ⟨W.heap.size, 0, none⟩) s.size s.size) (W.alloc (.cells Z 5)) := fun W => by
      have h := run_make (P := Tryz.prog) W 94 5 i0 (.int .u8 0) Tryz.underlying94 hi hz0 .i64 .i64 (s.size : Int) (s.size : Int) (by omega) (by omega) (by rw [hz2]; omega) (by omega)
      rw [← hZ] at h
      simpa using h
    clear hZ
    -- become the text's,
    have heap1 := heap_alloc_new w (.cells Z 5)
    have cp := Lib.run_copy_row_string (P := Tryz.prog) (w.alloc (.cells Z 5)) 94 9 3 5 w.heap.size 0 s.size s.size s Z 5 Tryz.underlying94 hsz heap1 (Nat.le_refl _) (by omega)
    rw [show (Z.toList.take 0 ++ Lib.byteCells s.data.toList ++ Z.toList.drop (0 + s.size)).toArray = txt s by
      rw [List.take_zero, List.nil_append, List.drop_of_length_le (by simp; omega), List.append_nil]; rfl] at cp
    have heap2 : ((w.alloc (.cells Z 5)).setRow w.heap.size (txt s)).heap[w.heap.size]? = some (.cells (txt s) 5 (0, 0)) := setRow_heap _ _ Z _ 5 (0, 0) heap1
    have hb2 : Below w.heap.size w ((w.alloc (.cells Z 5)).setRow w.heap.size (txt s)) := (below_alloc w _).trans ⟨rfl, rfl, rfl, by simp, fun k hk => setRow_other _ _ _ _ (by omega)⟩
    have hne : B s ≠ [] := fun e => h0 (by rw [← b_size, e]; rfl)
    generalize (w.alloc (.cells Z 5)).setRow w.heap.size (txt s) = w2 at *
    -- and are the answer.
    have us := Lib.run_unsafeString_row (P := Tryz.prog) w2 144 3 9 5 Tryz.underlying144 hcells w.heap.size (txt s).size (by unfold World.shape?; rw [heap2]) (B s) hne (by rw [b_size, txt_size]; exact Nat.le_refl _) (by rw [b_size]; omega)
      (fun j x hx => Lib.cells_of_row heap2 (txt s).size j _ (by rw [List.take_of_length_le (by rw [Array.length_toList]; exact Nat.le_refl _)]; simp [txt, Lib.byteCells, hx]))
    rw [b_size] at us
    have hfz := Lib.below_freeze hb2 (p := ⟨w.heap.size, 0, none⟩) (Nat.le_refl _) s.size
    go_enter Tryz.func81, Tryz.ntmps81
    go_wp2
    go_ret
    exact ⟨rfl, hfz⟩

theorem clone_any (s : ByteArray) (w : World) (hs : s.size ≤ 1000000) :
    Calls Tryz.prog 52 #[.string s] w fun e w' => e = .returned (.string s) ∧ Below w.heap.size w w' := by
  go_enter Tryz.func52, Tryz.ntmps52
  go_wp2_with fail
  refine (litClone_any s _ hs).mono ?_
  rintro e w1 ⟨rfl, hb1⟩
  go_wp2_with fail
  go_ret
  exact ⟨rfl, hb1⟩
end Go.Proofs.YtembccehokodeaaGreatDoor.L9

namespace Go.Proofs.YtembccehokodeaaGreatDoor.L9
open Go.RowKit
set_option linter.unusedVariables false
set_option linter.unusedSimpArgs false

/-- A box that begins with fields: a text, a place, and whether it is bad. -/
def FB (t : TypeId) (g : Nat) (s : ByteArray) (i : Nat) (b : Bool) (R : List Value) (w : World) : Prop := w.heap[g]? = some (.cells (.string s :: .int .i64 i :: .bool b :: R).toArray t (0, 0))
section
variable {t : TypeId} {g : Nat} {s : ByteArray} {i : Nat} {b : Bool} {R : List Value} {w w' : World}
theorem FB.cells (k : FB t g s i b R w) : w.cell? ⟨g, 0, none⟩ = some (.string s) ∧ w.cell? ⟨g, 1, none⟩ = some (.int .i64 i) ∧ w.cell? ⟨g, 2, none⟩ = some (.bool b) := by
  unfold FB at k
  refine ⟨?_, ?_, ?_⟩ <;> simp [World.cell?, k]
theorem FB.free (k : FB t g s i b R w) (j : Nat) : w.frozen? ⟨g, j, none⟩ = false := by
  unfold FB at k
  simp [World.frozen?, k]
theorem FB.lt (k : FB t g s i b R w) : g < w.heap.size := (Array.getElem?_eq_some_iff.1 k).1
theorem FB.below (k : FB t g s i b R w) (h : Below w.heap.size w w') : FB t g s i b R w' := (h.block g k.lt).trans k
theorem FB.setAt (k : FB t g s i b R w) (j : Nat) : FB t g s j b R (w.setCell ⟨g, 1, none⟩ (.int .i64 j)) := by
  have h := heap_setCell_same w g 1 _ _ (.int .i64 j) k
  unfold FB
  simpa using h
theorem FB.setBad (k : FB t g s i b R w) : FB t g s i true R (w.setCell ⟨g, 2, none⟩ (.bool true)) := by
  have h := heap_setCell_same w g 2 _ _ (.bool true) k
  unfold FB
  simpa using h
theorem FB.base (k : FB t g s i b R w) (h : Below w.heap.size w w') : Below g w w' := h.mono (Nat.le_of_lt k.lt)
theorem fbKeep (t : TypeId) (g : Nat) (s : ByteArray) (i : Nat) (b : Bool) (R : List Value) : Hid (∀ W W' : World, Below W.heap.size W W' → (Hid (FB t g s i b R W) ∧ W.cell? ⟨g, 0, none⟩ = some (.string s) ∧ W.cell? ⟨g, 1, none⟩ = some (.int .i64 i)) → Hid (FB t g s i b R W') ∧ W'.cell? ⟨g, 0, none⟩ = some (.string s) ∧ W'.cell? ⟨g, 1, none⟩ = some (.int .i64 i)) :=
  Lib.hid fun W W' hb h => ⟨Lib.hid (h.1.out.below hb), (h.1.out.below hb).cells.1, (h.1.out.below hb).cells.2.1⟩
end

set_option maxHeartbeats 1000000 in
set_option maxRecDepth 100000 in
theorem number_any (t : TypeId) (g : Nat) (s : ByteArray) (i : Nat) (b : Bool) (R : List Value) (w : World) (k : Hid (FB t g s i b R w)) (hi : i ≤ s.size) (hs : s.size ≤ 1000000) (n j : Nat) (c : Bool) (hn : VP.numF s.data.toList i b = (n, j, c)) :
    Calls Tryz.prog 133 #[.pointer (some ⟨g, 0, none⟩)] w fun e w' => e = .returned (.int .i64 n) ∧ Hid (FB t g s j c R w') ∧ Below g w w' := by
  have HG := Lib.hid (fun W => get_any s (i : Int) W (by omega) (by omega) (by unfold maxLen; omega))
  rw [Int.toNat_natCast] at HG
  have hsp := WP.get_spec s.data.toList i
  have hKeep := fbKeep t g s i b R
  obtain ⟨c0, c1, c2⟩ := k.out.cells
  have hS0 : Hid (FB t g s i b R w) ∧ w.cell? ⟨g, 0, none⟩ = some (.string s) ∧ w.cell? ⟨g, 1, none⟩ = some (.int .i64 i) := ⟨k, c0, c1⟩
  unfold VP.numF at hn
  obtain ⟨m, to, er, hg⟩ := VP.triple (WP.get s.data.toList i)
  simp only [hg] at HG hsp hn
  have hcase : (((er = 7 ∨ er = 3) ∧ m = 0 ∧ to = 0) ∧ n = 0 ∧ j = i ∧ c = true) ∨ (er = 0 ∧ 4096 < m ∧ m ≤ 18446744073709551615 ∧ n = 0 ∧ j = i ∧ c = true) ∨ (er = 0 ∧ m ≤ 4096 ∧ n = m ∧ j = to ∧ c = b) := by
    have hm : m ≤ 18446744073709551615 := by
      rcases hsp with e | e | ⟨_, _, e, _, _, _, h⟩ <;> (simp only [Prod.mk.injEq] at e; omega)
    split at hn
    · rename_i h
      simp only [Prod.mk.injEq] at hn
      exact .inr (.inr ⟨h.1, h.2, hn.1.symm, hn.2.1.symm, hn.2.2.symm⟩)
    · rename_i h
      simp only [Prod.mk.injEq] at hn
      by_cases h0 : er = 0
      · exact .inr (.inl ⟨h0, Nat.lt_of_not_le fun h1 => h ⟨h0, h1⟩, hm, hn.1.symm, hn.2.1.symm, hn.2.2.symm⟩)
      · refine .inl ⟨?_, hn.1.symm, hn.2.1.symm, hn.2.2.symm⟩
        rcases hsp with e | e | ⟨_, _, e, _⟩ <;> (simp only [Prod.mk.injEq] at e; omega)
  clear hsp hn hg
  go_enter Tryz.func133, Tryz.ntmps133
  go_wp2_with fail
  go_region_held3 (fun Z => Hid (FB t g s i b R Z) ∧ Z.cell? ⟨g, 0, none⟩ = some (.string s) ∧ Z.cell? ⟨g, 1, none⟩ = some (.int .i64 i))
    (first | assumption | exact hS0 | exact hKeep.out _ _ (by assumption) (by assumption))
    (first
      | (go_at_call 100; refine (HG.out _).mono ?_; rintro e w1 ⟨rfl, hb1⟩)
      | fail "no arm")
  have hb := below_of_drew hb1
  have K1 := Lib.hid (k.out.below hb)
  have HB := Lib.hid (k.out.base hb)
  obtain ⟨d0, d1, d2⟩ := K1.out.cells
  have f1 := K1.out.free 1
  have f2 := K1.out.free 2
  clear hb hb1 hS0 hKeep HG c0 c1 c2 hi hs k
  rcases hcase with ⟨⟨rfl | rfl, rfl, rfl⟩, rfl, rfl, rfl⟩ | ⟨rfl, h1, h2, rfl, rfl, rfl⟩ | ⟨rfl, h1, rfl, rfl, rfl⟩
  · go_wp2_with fail
    go_ret
    exact ⟨rfl, Lib.hid K1.out.setBad, HB.out.setCell (p := ⟨g, 2, none⟩) (Nat.le_refl _) _⟩
  · go_wp2_with fail
    go_ret
    exact ⟨rfl, Lib.hid K1.out.setBad, HB.out.setCell (p := ⟨g, 2, none⟩) (Nat.le_refl _) _⟩
  · have d3 : decide (((m : Nat) : Int) > 4096) = true := decide_eq_true (by omega)
    have d4 : decide ((4096 : Int) < (m : Nat)) = true := decide_eq_true (by omega)
    clear h1 h2
    go_wp2_with fail
    go_ret
    exact ⟨rfl, Lib.hid K1.out.setBad, HB.out.setCell (p := ⟨g, 2, none⟩) (Nat.le_refl _) _⟩
  · have d4 : decide ((4096 : Int) < (n : Nat)) = false := decide_eq_false (by omega)
    have q : IntKind.i64.wrap (n : Int) = n := IntWalk.i64_in _ (by omega)
    clear h1
    go_wp2_with fail
    go_ret
    exact ⟨rfl, Lib.hid (K1.out.setAt j), HB.out.setCell (p := ⟨g, 1, none⟩) (Nat.le_refl _) _⟩

set_option maxHeartbeats 1000000 in
set_option maxRecDepth 100000 in
theorem four_of (t : TypeId) (g : Nat) (s : ByteArray) (i : Nat) (b : Bool) (R : List Value) (w : World) (k : Hid (FB t g s i b R w)) (hi : i ≤ s.size) (hs : s.size ≤ 1000000) (n j : Nat) (c : Bool) (hn : VP.fourF s.data.toList i b = (n, j, c)) :
    Calls Tryz.prog 121 #[.pointer (some ⟨g, 0, none⟩)] w fun e w' => e = .returned (.int .i64 n) ∧ Hid (FB t g s j c R w') ∧ Below g w w' := by
  have hKeep := fbKeep t g s i b R
  obtain ⟨c0, c1, c2⟩ := k.out.cells
  have f1 := k.out.free 1
  have f2 := k.out.free 2
  have hts : s.data.toList.length = s.size := by simp
  unfold VP.fourF at hn
  rw [hts] at hn
  have HB := Lib.hid (Below.refl g w)
  by_cases h : i + 4 ≤ s.size
  · rw [if_pos h] at hn
    have HG := Lib.hid (fun W => read_any s (i : Int) W (by omega) (by omega) (by unfold maxLen; omega))
    rw [Int.toNat_natCast] at HG
    have hle := WP.leNat_four (s.data.toList.drop i)
    generalize Lib.leNat ((s.data.toList.drop i).take 4) = m at *
    simp only [Prod.mk.injEq] at hn
    obtain ⟨rfl, hj, rfl⟩ := hn
    have q1 : IntKind.i64.wrap ((i : Int) + 4) = j := by rw [show (i : Int) + 4 = j by omega]; exact IntWalk.i64_in _ (by omega)
    have q2 : IntKind.i64.wrap (m : Int) = m := IntWalk.i64_in _ (by omega)
    clear h hts hi hs hle hj
    go_enter Tryz.func121, Tryz.ntmps121
    go_wp2_with fail
    go_quiet ((go_at_call 117; exact quiet_of_eq (HG.out _)))
    go_wp2_with fail
    go_ret
    exact ⟨rfl, Lib.hid (k.out.setAt j), (below_drewN HB.out nq).setCell (p := ⟨g, 1, none⟩) (Nat.le_refl _) _⟩
  · rw [if_neg h] at hn
    have HG := Lib.hid (fun W => read_short s (i : Int) W (by omega) (by omega) (by omega))
    simp only [Prod.mk.injEq] at hn
    obtain ⟨rfl, rfl, rfl⟩ := hn
    clear h hts hi hs
    go_enter Tryz.func121, Tryz.ntmps121
    go_wp2_with fail
    go_quiet ((go_at_call 117; exact quiet_of_eq (HG.out _)))
    go_wp2_with fail
    go_ret
    exact ⟨rfl, Lib.hid k.out.setBad, (below_drewN HB.out nq).setCell (p := ⟨g, 2, none⟩) (Nat.le_refl _) _⟩

set_option maxHeartbeats 1000000 in
set_option maxRecDepth 100000 in
theorem take_any (t : TypeId) (g : Nat) (s : ByteArray) (i : Nat) (b : Bool) (R : List Value) (w : World) (k : Hid (FB t g s i b R w)) (n : Nat) (hi : i ≤ s.size) (hs : s.size ≤ 1000000) (hn4 : n ≤ 4096) (T : List UInt8) (j : Nat) (c : Bool) (hn : VP.takeF s.data.toList i b n = (T, j, c)) :
    Calls Tryz.prog 132 #[.pointer (some ⟨g, 0, none⟩), .int .i64 n] w fun e w' => e = .returned (.string ⟨T.toArray⟩) ∧ Hid (FB t g s j c R w') ∧ Below g w w' := by
  obtain ⟨c0, c1, c2⟩ := k.out.cells
  have f1 := k.out.free 1
  have f2 := k.out.free 2
  have hts : s.data.toList.length = s.size := by simp
  unfold VP.takeF at hn
  rw [hts] at hn
  have HB := Lib.hid (Below.refl g w)
  obtain ⟨r, hr⟩ : ∃ r, s.size - i = r := ⟨_, rfl⟩
  have q0 : IntKind.i64.wrap ((s.size : Int) - i) = r := by rw [show (s.size : Int) - i = r by omega]; exact IntWalk.i64_in _ (by omega)
  by_cases h : i + n ≤ s.size
  · rw [if_pos h] at hn
    simp only [Prod.mk.injEq] at hn
    obtain ⟨rfl, hj, rfl⟩ := hn
    have q1 : IntKind.i64.wrap ((i : Int) + n) = j := by rw [show (i : Int) + n = j by omega]; exact IntWalk.i64_in _ (by omega)
    have d1 : decide ((r : Int) < n) = false := decide_eq_false (by omega)
    have d2 : decide (r < n) = false := decide_eq_false (by omega)
    have he := extract_list s i n
    rw [hj] at he
    rw [he]
    have j1 : (0 : Int) ≤ i := by omega
    have j2 : (i : Int) ≤ j := by omega
    have j3 : (j : Int) ≤ s.size := by omega
    have j4 : i ≤ j := by omega
    have j5 : j ≤ s.size := by omega
    have HC := Lib.hid (fun W => clone_any (s.extract i j) W (by simp; omega))
    have hKeep := fbKeep t g s j b R
    clear h hts he hj hr hs hn4 hi
    go_enter Tryz.func132, Tryz.ntmps132
    go_wp2_with fail
    go_quiet (fail)
    go_wp2_with fail
    have K1 : Hid (FB t g s j b R ((w.drewN nq).setCell ⟨g, 1, none⟩ (.int .i64 j))) := Lib.hid (FB.setAt (w := w.drewN nq) k.out j)
    have HB1 := Lib.hid ((below_drewN HB.out nq).setCell (p := ⟨g, 1, none⟩) (Nat.le_refl _) (.int .i64 j))
    generalize (w.drewN nq).setCell ⟨g, 1, none⟩ (.int .i64 j) = w1 at *
    obtain ⟨e0, e1, e2⟩ := K1.out.cells
    have hS0 : Hid (FB t g s j b R w1) ∧ w1.cell? ⟨g, 0, none⟩ = some (.string s) ∧ w1.cell? ⟨g, 1, none⟩ = some (.int .i64 j) := ⟨K1, e0, e1⟩
    clear c0 c1 c2 f1 f2 k HB
    go_region_held3 (fun Z => Hid (FB t g s j b R Z) ∧ Z.cell? ⟨g, 0, none⟩ = some (.string s) ∧ Z.cell? ⟨g, 1, none⟩ = some (.int .i64 j))
      (first | assumption | exact hS0 | exact hKeep.out _ _ (by assumption) (by assumption))
      (first
        | (go_at_call 52; refine (HC.out _).mono ?_; rintro e w2 ⟨rfl, hb2⟩)
        | fail "no arm")
    have hb := below_of_drew hb2
    go_wp2_with fail
    go_ret
    exact ⟨rfl, Lib.hid (K1.out.below hb), HB1.out.trans (K1.out.base hb)⟩
  · rw [if_neg h] at hn
    simp only [Prod.mk.injEq] at hn
    obtain ⟨rfl, rfl, rfl⟩ := hn
    have d1 : decide ((r : Int) < n) = true := decide_eq_true (by omega)
    have d2 : decide (r < n) = true := decide_eq_true (by omega)
    clear h hts hr hs hn4 hi
    go_enter Tryz.func132, Tryz.ntmps132
    go_wp2_with fail
    go_quiet (fail)
    go_wp2_with fail
    go_ret
    exact ⟨rfl, Lib.hid k.out.setBad, (below_drewN HB.out nq).setCell (p := ⟨g, 2, none⟩) (Nat.le_refl _) _⟩

theorem tripleL (x : List UInt8 × Nat × Bool) : ∃ a b c, x = (a, b, c) := ⟨_, _, _, rfl⟩
set_option maxHeartbeats 1000000 in
set_option maxRecDepth 100000 in
theorem text_of (t : TypeId) (g : Nat) (s : ByteArray) (i : Nat) (b : Bool) (R : List Value) (w : World) (k : Hid (FB t g s i b R w)) (hi : i ≤ s.size) (hs : s.size ≤ 1000000) (T : List UInt8) (j : Nat) (c : Bool) (hn : VP.textF s.data.toList i b = (T, j, c)) :
    Calls Tryz.prog 122 #[.pointer (some ⟨g, 0, none⟩)] w fun e w' => e = .returned (.string ⟨T.toArray⟩) ∧ Hid (FB t g s j c R w') ∧ Below g w w' := by
  have hts : s.data.toList.length = s.size := by simp
  unfold VP.textF at hn
  have hb := VP.num_at (l := s.data.toList) (b := b) (by rw [hts]; exact hi)
  obtain ⟨n, j1, c1, e1⟩ := VP.triple (VP.numF s.data.toList i b)
  rw [e1] at hn hb
  simp only at hn hb
  rw [hts] at hb
  have HN := Lib.hid (number_any t g s i b R w k hi hs n j1 c1 e1)
  have HT := Lib.hid (fun W (k : Hid (FB t g s j1 c1 R W)) => take_any t g s j1 c1 R W k n hb.1 hs hb.2.1 T j c hn)
  clear hn hb e1 hts hi hs k
  go_enter Tryz.func122, Tryz.ntmps122
  go_wp2_with fail
  refine HN.out.mono ?_
  rintro e w1 ⟨rfl, k1, hb1⟩
  go_wp2_with fail
  refine (HT.out _ k1).mono ?_
  rintro e w2 ⟨rfl, k2, hb2⟩
  go_wp2_with fail
  go_ret
  exact ⟨rfl, k2, hb1.trans hb2⟩

set_option maxHeartbeats 1000000 in
set_option maxRecDepth 100000 in
theorem whole_any (t : TypeId) (g : Nat) (s : ByteArray) (i : Nat) (b : Bool) (R : List Value) (w : World) (k : Hid (FB t g s i b R w)) (hi : i ≤ s.size) (hs : s.size ≤ 1000000) :
    Calls Tryz.prog 103 #[.pointer (some ⟨g, 0, none⟩)] w fun e w' => e = .returned (.bool (decide ((i, b) = (s.data.toList.length, false)))) ∧ Hid (FB t g s i b R w') ∧ Below g w w' := by
  have hts : s.data.toList.length = s.size := by simp
  obtain ⟨c0, c1, c2⟩ := k.out.cells
  have HB := Lib.hid (Below.refl g w)
  rw [hts]
  clear hts
  cases b with
  | true =>
    have e : decide ((i, true) = (s.size, false)) = false := decide_eq_false (by simp)
    rw [e]
    clear e hi hs
    go_enter Tryz.func103, Tryz.ntmps103
    go_wp2_with fail
    go_quiet (fail)
    go_wp2_with fail
    go_ret
    exact ⟨rfl, k, below_drewN HB.out nq⟩
  | false =>
    have e : decide ((i, false) = (s.size, false)) = ((i : Int) == s.size) := by
      by_cases h : i = s.size
      · rw [decide_eq_true (by rw [h]), h]; simp
      · rw [decide_eq_false (by simp [h])]; exact (beq_eq_false_iff_ne.2 (by omega)).symm
    rw [e]
    clear e hi hs
    go_enter Tryz.func103, Tryz.ntmps103
    go_wp2_with fail
    go_quiet (fail)
    go_wp2_with fail
    go_ret
    exact ⟨rfl, k, below_drewN HB.out nq⟩
end Go.Proofs.YtembccehokodeaaGreatDoor.L9

namespace Go.Proofs.YtembccehokodeaaGreatDoor.L9
open Go.RowKit
set_option linter.unusedVariables false
set_option linter.unusedSimpArgs false

section
variable {t : TypeId} {g : Nat} {s : ByteArray} {i : Nat} {b : Bool} {R : List Value} {w w' : World}
theorem FB.cellR (k : FB t g s i b R w) (m : Nat) : w.cell? ⟨g, m + 3, none⟩ = R[m]? := by
  unfold FB at k
  simp [World.cell?, k]
theorem FB.setR (k : FB t g s i b R w) (m : Nat) (v : Value) : FB t g s i b (R.set m v) (w.setCell ⟨g, m + 3, none⟩ v) := by
  have h := heap_setCell_same w g (m + 3) _ _ v k
  unfold FB
  simpa using h
end
/-- What stands behind the fields of a kid's cell. -/
abbrev kr (K : Int) (T : ByteArray) : List Value := [.int .i64 K, .string T]
theorem FB.cells2 {t : TypeId} {g : Nat} {s : ByteArray} {i : Nat} {b : Bool} {w : World} {T : ByteArray} {K : Int} (k : FB t g s i b (kr K T) w) :
    w.cell? ⟨g, 3, none⟩ = some (.int .i64 K) ∧ w.cell? ⟨g, 4, none⟩ = some (.string T) :=
  ⟨k.cellR 0, k.cellR 1⟩
set_option maxHeartbeats 2000000 in
set_option maxRecDepth 100000 in
theorem kread_any (t : TypeId) (g : Nat) (s : ByteArray) (w : World) (k : Hid (FB t g s 0 false (kr 0 ⟨#[]⟩) w)) (hs : s.size ≤ 1000000) (K : Nat) (T : List UInt8) (j : Nat) (c : Bool) (hn : VP.readK s.data.toList = ((K, T), j, c)) :
    Calls Tryz.prog 102 #[.pointer (some ⟨g, 0, none⟩)] w fun e w' => e = .returned (.tuple #[]) ∧ Hid (FB t g s j c (kr K ⟨T.toArray⟩) w') ∧ Below g w w' := by
  have hts : s.data.toList.length = s.size := by simp
  unfold VP.readK at hn
  have b1 := VP.four_at (l := s.data.toList) (i := 0) (b := false) (Nat.zero_le _)
  obtain ⟨n, i1, c1, e1⟩ := VP.triple (VP.fourF s.data.toList 0 false)
  simp only [e1] at hn b1
  obtain ⟨T1, i2, c2, e2⟩ := tripleL (VP.textF s.data.toList i1 c1)
  simp only [e2, Prod.mk.injEq] at hn
  obtain ⟨⟨rfl, rfl⟩, rfl, rfl⟩ := hn
  rw [hts] at b1
  have HT := Lib.hid (four_of t g s 0 false (kr 0 ⟨#[]⟩) w k (Nat.zero_le _) hs n i1 c1 e1)
  have HM := Lib.hid (fun R W (k : Hid (FB t g s i1 c1 R W)) => text_of t g s i1 c1 R W k b1 hs T1 i2 c2 e2)
  clear e1 e2 b1 hts k hs
  go_enter Tryz.func102, Tryz.ntmps102
  go_wp2_with fail
  refine HT.out.mono ?_
  rintro e w1 ⟨rfl, k1, hb1⟩
  have x3 := k1.out.cells2.1
  have f3 := k1.out.free 3
  have HB1 := Lib.hid (hb1.setCell (p := ⟨g, 3, none⟩) (Nat.le_refl _) (.int .i64 n))
  have K1 : Hid (FB t g s i1 c1 (kr n ⟨#[]⟩) (w1.setCell ⟨g, 3, none⟩ (.int .i64 n))) := Lib.hid (k1.out.setR 0 _)
  clear hb1 k1
  go_wp2_with fail
  generalize w1.setCell ⟨g, 3, none⟩ (.int .i64 n) = v1 at *
  refine (HM.out _ _ K1).mono ?_
  rintro e w2 ⟨rfl, k2, hb2⟩
  have x4 := k2.out.cells2.2
  have f4 := k2.out.free 4
  have HB2 := Lib.hid ((HB1.out.trans hb2).setCell (p := ⟨g, 4, none⟩) (Nat.le_refl _) (.string ⟨T1.toArray⟩))
  clear hb2 HB1 K1
  go_wp2_with fail
  go_end0
  exact ⟨rfl, Lib.hid (k2.out.setR 1 (.string ⟨T1.toArray⟩)), HB2.out⟩
end Go.Proofs.YtembccehokodeaaGreatDoor.L9

namespace Go.Proofs.YtembccehokodeaaGreatDoor.L9
open Go.RowKit
set_option linter.unusedVariables false
set_option linter.unusedSimpArgs false

theorem suffix_any (t : ByteArray) (w : World) :
    Calls Tryz.prog 85 #[.string t] w fun e w' => e = .returned (.bool (decide (t.size ≤ 128))) ∧ w = w' := by
  have e : decide (t.size ≤ 128) = decide ((t.size : Int) ≤ 128) := by
    by_cases h : t.size ≤ 128
    · rw [decide_eq_true h, decide_eq_true (by omega)]
    · rw [decide_eq_false h, decide_eq_false (by omega)]
  rw [e]
  clear e
  go_enter Tryz.func85, Tryz.ntmps85
  go_wp2_with fail
  go_ret
  exact ⟨rfl, rfl⟩
theorem page_any (k : Int) (w : World) :
    Calls Tryz.prog 84 #[.int .i64 k] w fun e w' => e = .returned (.bool (decide (1 ≤ k ∧ k ≤ 4095))) ∧ w = w' := by
  rcases (show k < 1 ∨ (1 ≤ k ∧ k ≤ 4095) ∨ (1 ≤ k ∧ 4095 < k) by omega) with h | h | h
  · have e : decide (1 ≤ k ∧ k ≤ 4095) = false := decide_eq_false (by omega)
    have d1 : decide (1 ≤ k) = false := decide_eq_false (by omega)
    rw [e]
    go_enter Tryz.func84, Tryz.ntmps84
    go_wp2_with fail
    go_ret
    exact ⟨rfl, rfl⟩
  · have e : decide (1 ≤ k ∧ k ≤ 4095) = true := decide_eq_true h
    have d1 : decide (1 ≤ k) = true := decide_eq_true (by omega)
    have d2 : decide (k ≤ 4095) = true := decide_eq_true (by omega)
    rw [e]
    clear h e
    go_enter Tryz.func84, Tryz.ntmps84
    go_wp2_with fail
    go_ret
    exact ⟨rfl, rfl⟩
  · have e : decide (1 ≤ k ∧ k ≤ 4095) = false := decide_eq_false (by omega)
    have d1 : decide (1 ≤ k) = true := decide_eq_true (by omega)
    have d2 : decide (k ≤ 4095) = false := decide_eq_false (by omega)
    rw [e]
    clear h e
    go_enter Tryz.func84, Tryz.ntmps84
    go_wp2_with fail
    go_ret
    exact ⟨rfl, rfl⟩
theorem numberOf_any (n : Nat) (w : World) (h : n ≤ 1000000) :
    Calls Tryz.prog 105 #[.int .i64 n] w fun e w' => e = .returned (.string ⟨(WP.put n).toArray⟩) ∧ Below w.heap.size w w' := by
  have HP := Lib.hid (put_any (n : Int) w (by omega) (by omega))
  rw [Int.toNat_natCast] at HP
  have a1 : IntKind.u64.wrap (n : Int) = n := Int.emod_eq_of_lt (by omega) (by show (n : Int) < 18446744073709551616; omega)
  clear h
  go_enter Tryz.func105, Tryz.ntmps105
  go_wp2_with fail
  refine HP.out.mono ?_
  rintro e w1 ⟨rfl, hb1⟩
  go_wp2_with fail
  go_ret
  exact ⟨rfl, hb1⟩
theorem textOf_any (t : ByteArray) (w : World) (h : t.size ≤ 1000000) :
    Calls Tryz.prog 87 #[.string t] w fun e w' => e = .returned (.string (textS t)) ∧ Below w.heap.size w w' := by
  have HP := Lib.hid (numberOf_any t.size w h)
  have hE := wput_size t.size (by omega)
  have hC := textS_eq t t.size rfl
  obtain ⟨E, hEe⟩ : ∃ E : ByteArray, ⟨(WP.put t.size).toArray⟩ = E := ⟨_, rfl⟩
  rw [hEe] at HP hE hC
  rw [← hC]
  have b1 : ¬ 9223372036854775807 < E.size + t.size := by omega
  clear h hE hC hEe
  go_enter Tryz.func87, Tryz.ntmps87
  go_wp2_with fail
  refine HP.out.mono ?_
  rintro e w1 ⟨rfl, hb1⟩
  go_wp2_with fail
  go_ret
  exact ⟨rfl, hb1⟩

theorem kidS_two (k : Nat) (t : ByteArray) : (⟨(Lib.leBytes 4 k).toArray⟩ : ByteArray) ++ textS t = kidS k t := by
  apply ByteArray.ext
  simp [kidS, VP.cellK, textS]
set_option maxHeartbeats 1000000 in
set_option maxRecDepth 100000 in
theorem putk_any (k : Int) (t : ByteArray) (w : World) (ht : t.size ≤ 1000000) :
    Calls Tryz.prog 58 #[.int .i64 k, .string t] w fun e w' => e = .returned (putKV k t) ∧ Below w.heap.size w w' := by
  have hts : t.data.toList.length = t.size := by simp
  have HP := Lib.hid (fun W => page_any k W)
  have HS := Lib.hid (fun W => suffix_any t W)
  by_cases h1 : 1 ≤ k ∧ k ≤ 4095
  · rw [decide_eq_true h1] at HP
    by_cases h2 : t.size ≤ 128
    · rw [decide_eq_true h2] at HS
      obtain ⟨k, rfl⟩ := Int.eq_ofNat_of_zero_le (show 0 ≤ k by omega)
      have e : putKV k t = .tuple #[.string (kidS k t), .int .i64 0] := if_pos ⟨h1.1, h1.2, by omega⟩
      rw [e]
      have HPF := Lib.hid (fun W => four_any (k : Int) W (by omega) (by omega))
      have HPT := Lib.hid (fun W => textOf_any t W ht)
      have hts2 := textS_size t ht
      have hGs := four_size k
      rw [Int.toNat_natCast] at HPF
      have HC := kidS_two k t
      obtain ⟨G, hG⟩ : ∃ G : ByteArray, ⟨(Lib.leBytes 4 k).toArray⟩ = G := ⟨_, rfl⟩
      rw [hG] at HPF hGs HC
      rw [← HC]
      generalize textS t = X at *
      have a3 : IntKind.u32.wrap (k : Int) = k := Int.emod_eq_of_lt (by omega) (by show (k : Int) < 4294967296; omega)
      have b2 : ¬ 9223372036854775807 < G.size + X.size := by omega
      clear hG HC hGs hts e h1 h2 hts2
      go_enter Tryz.func58, Tryz.ntmps58
      go_wp2_with fail
      refine (HP.out _).mono ?_
      rintro e w1 ⟨rfl, rfl⟩
      go_wp2_with fail
      refine (HS.out _).mono ?_
      rintro e w1 ⟨rfl, rfl⟩
      go_wp2_with fail
      refine (HPF.out _).mono ?_
      rintro e w1 ⟨rfl, hb1⟩
      go_wp2_with fail
      refine (HPT.out _).mono ?_
      rintro e w2 ⟨rfl, hb2⟩
      go_wp2_with fail
      go_ret2
      exact ⟨rfl, hb1.trans' hb2⟩
    · rw [decide_eq_false h2] at HS
      have e : putKV k t = .tuple #[.string ⟨#[]⟩, .int .i64 3] := if_neg (fun h => by have := h.2.2; omega)
      rw [e]
      clear e hts h1 h2
      go_enter Tryz.func58, Tryz.ntmps58
      go_wp2_with fail
      refine (HP.out _).mono ?_
      rintro e w1 ⟨rfl, rfl⟩
      go_wp2_with fail
      refine (HS.out _).mono ?_
      rintro e w1 ⟨rfl, rfl⟩
      go_wp2_with fail
      go_ret2
      exact ⟨rfl, Below.refl _ _⟩
  · rw [decide_eq_false h1] at HP
    have e : putKV k t = .tuple #[.string ⟨#[]⟩, .int .i64 3] := if_neg (fun h => h1 ⟨h.1, h.2.1⟩)
    rw [e]
    clear e hts h1
    go_enter Tryz.func58, Tryz.ntmps58
    go_wp2_with fail
    refine (HP.out _).mono ?_
    rintro e w1 ⟨rfl, rfl⟩
    go_wp2_with fail
    go_ret2
    exact ⟨rfl, Below.refl _ _⟩
end Go.Proofs.YtembccehokodeaaGreatDoor.L9

namespace Go.Proofs.YtembccehokodeaaGreatDoor
open Go.RowKit IP
set_option linter.unusedVariables false
set_option linter.unusedSimpArgs false

theorem Tryz.infoNum : (Tryz.prog.info? 3).map (fun i => (i.zero, i.size, i.bytes)) = some (some (.int .i64 0), 1, 8) := by kernel_rfl
theorem own1_block {w : World} {base e n g : Nat} {v : Value} {xs : List Value} (h : w.ownsRow base e 1 v n xs) (hv : v.ownBlock = some g) : base ≤ g ∧ ∃ cur fz, w.heap[g]? = some (.cells cur e fz) := by
  rcases h.2 with ⟨rfl, _⟩ | ⟨g', cap, cur, rfl, hg', hb, _⟩
  · simp [Value.ownBlock] at hv
  · simp [Value.ownBlock] at hv
    subst hv
    exact ⟨hg', _, _, hb⟩
theorem own1_parts {w : World} {b1 b2 e1 e2 n1 n2 : Nat} {v1 v2 : Value} {xs1 xs2 : List Value} (h1 : w.ownsRow b1 e1 1 v1 n1 xs1) (h2 : w.ownsRow b2 e2 1 v2 n2 xs2) (he : e1 ≠ e2) : v1.ownBlock = none ∨ v1.ownBlock ≠ v2.ownBlock := by
  cases hv1 : v1.ownBlock with
  | none => exact .inl rfl
  | some g =>
    refine .inr fun h => he ?_
    obtain ⟨_, c1, f1, hb1⟩ := own1_block h1 hv1
    obtain ⟨_, c2, f2, hb2⟩ := own1_block h2 h.symm
    rw [hb1] at hb2
    injection hb2 with e
    injection e
theorem own1_set {w : World} {base e n q o : Nat} {v : Value} {xs : List Value} {u : Value} (h : w.ownsRow base e 1 v n xs) (hq : q < base) : (w.setCell ⟨q, o, none⟩ u).ownsRow base e 1 v n xs := by
  refine h.kept (row := some q) ⟨rfl, rfl, rfl, by simp, fun i hi hr => Below.heap_setCell w ⟨q, o, none⟩ u i (fun e => hr (by simp [e]))⟩ ?_
  cases hv : v.ownBlock with
  | none => exact .inl rfl
  | some x => exact .inr (by have := (own1_block h hv).1; simp; omega)
/-- An inner page whose rows the call owns. -/
structure NRows (t : TypeId) (q : Nat) (F L R : Int) (H : ByteArray) (A : Option Addr) (k ca : Nat) (C : Option Addr) (j cb : Nat) (ks : List Int) (ss : List ByteArray) (w : World) : Prop where
  box : NBx t q F L R H A k ca C j cb w
  kown : w.ownsRow (q + 1) 3 1 (.slice A k ca) k (numCells ks)
  sown : w.ownsRow (q + 1) 9 1 (.slice C j cb) j (L5.strCells ss)
section
variable {t : TypeId} {q : Nat} {F L R : Int} {H : ByteArray} {A : Option Addr} {k ca : Nat} {C : Option Addr} {j cb : Nat} {ks : List Int} {ss : List ByteArray} {w w' w3 : World}
theorem NRows.below (h : NRows t q F L R H A k ca C j cb ks ss w) (b : Below w.heap.size w w') : NRows t q F L R H A k ca C j cb ks ss w' := ⟨h.box.below b, L5.own_below h.kown b, L5.own_below h.sown b⟩
theorem NRows.ofNew (hw : w.heap.size = q) : NRows t q F L R H none 0 0 none 0 0 [] [] (nbox t F L R H none 0 0 none 0 0 w) := by
  subst hw
  exact ⟨nbox_new _ _ _ _ _ _ _ _ _ _ _ _, World.ownsRow_nil _ _ _ _, World.ownsRow_nil _ _ _ _⟩
theorem NRows.klen (h : NRows t q F L R H A k ca C j cb ks ss w) : ks.length = k := by
  have := h.kown.1
  rw [numCells_length] at this
  omega
theorem NRows.slen (h : NRows t q F L R H A k ca C j cb ks ss w) : ss.length = j := by
  have := h.sown.1
  rw [L5.strCells_length] at this
  omega
/-- What both rows lie as. -/
theorem NRows.rows (h : NRows t q F L R H A k ca C j cb ks ss w) : Rows2 w A k ca C j cb ks ss :=
  ⟨liesN_own h.kown h.klen.symm, L5.lies_own h.sown h.slen.symm, h.klen, h.slen, L5.own_cap h.kown, L5.own_cap h.sown⟩
theorem NRows.kne (h : NRows t q F L R H A k ca C j cb ks ss w) : ∀ a, A = some a → q < a.block := fun a ha => by
  subst ha
  exact (own1_block h.kown (g := a.block) rfl).1
theorem NRows.sne (h : NRows t q F L R H A k ca C j cb ks ss w) : ∀ a, C = some a → q < a.block := fun a ha => by
  subst ha
  exact (own1_block h.sown (g := a.block) rfl).1
/-- The box behind an append onto the kids. -/
theorem NRows.growK (h : NRows t q F L R H A k ca C j cb ks ss w) {o : Obj} (hg : (w.alloc o).grownBy w3 (Value.slice A k ca).ownBlock) : NBx t q F L R H A k ca C j cb w3 ∧ w3.ownsRow (q + 1) 9 1 (.slice C j cb) j (L5.strCells ss) ∧ Below q w w3 := by
  have hb := L5.below_alloc w o
  have hq := h.box.lt
  have h2 := h.below hb
  refine ⟨(hg.block q h2.box.lt (fun e => ?_)).trans h2.box, h2.sown.kept hg (own1_parts h2.sown h2.kown (by decide)), (hb.mono (by omega)).trans (L5.own_apart h2.kown hg (by omega) (by have := h2.box.lt; omega))⟩
  have := (own1_block h.kown e.symm).1
  omega
theorem NRows.growS (h : NRows t q F L R H A k ca C j cb ks ss w) {o : Obj} (hg : (w.alloc o).grownBy w3 (Value.slice C j cb).ownBlock) : NBx t q F L R H A k ca C j cb w3 ∧ w3.ownsRow (q + 1) 3 1 (.slice A k ca) k (numCells ks) ∧ Below q w w3 := by
  have hb := L5.below_alloc w o
  have hq := h.box.lt
  have h2 := h.below hb
  refine ⟨(hg.block q h2.box.lt (fun e => ?_)).trans h2.box, h2.kown.kept hg (own1_parts h2.kown h2.sown (by decide)), (hb.mono (by omega)).trans (L5.own_apart h2.sown hg (by omega) (by have := h2.box.lt; omega))⟩
  have := (own1_block h.sown e.symm).1
  omega
/-- A kid more, laid into the box. -/
theorem NRows.pushK (h : NRows t q F L R H A k ca C j cb ks ss w) {o : Obj} {g cap : Nat} {x : Int} (hg : (w.alloc o).grownBy w3 (Value.slice A k ca).ownBlock) (ho : w3.ownsRow (q + 1) 3 1 (.slice (some ⟨g, 0, none⟩) (k + 1) cap) (k + 1) (numCells ks ++ [.int .i64 x])) :
    NRows t q F L R H (some ⟨g, 0, none⟩) (k + 1) cap C j cb (ks ++ [x]) ss (w3.setCell ⟨q, 4, none⟩ (.slice (some ⟨g, 0, none⟩) (k + 1) cap)) ∧ Below q w (w3.setCell ⟨q, 4, none⟩ (.slice (some ⟨g, 0, none⟩) (k + 1) cap)) := by
  obtain ⟨h1, h2, h3⟩ := h.growK hg
  refine ⟨⟨h1.set4 _ _ _, ?_, own1_set h2 (Nat.lt_succ_self _)⟩, h3.setCell (p := ⟨q, 4, none⟩) (Nat.le_refl _) _⟩
  rw [numCells_snoc]
  exact own1_set ho (Nat.lt_succ_self _)
theorem NRows.pushS (h : NRows t q F L R H A k ca C j cb ks ss w) {o : Obj} {g cap : Nat} {x : ByteArray} (hg : (w.alloc o).grownBy w3 (Value.slice C j cb).ownBlock) (ho : w3.ownsRow (q + 1) 9 1 (.slice (some ⟨g, 0, none⟩) (j + 1) cap) (j + 1) (L5.strCells ss ++ [.string x])) :
    NRows t q F L R H A k ca (some ⟨g, 0, none⟩) (j + 1) cap ks (ss ++ [x]) (w3.setCell ⟨q, 5, none⟩ (.slice (some ⟨g, 0, none⟩) (j + 1) cap)) ∧ Below q w (w3.setCell ⟨q, 5, none⟩ (.slice (some ⟨g, 0, none⟩) (j + 1) cap)) := by
  obtain ⟨h1, h2, h3⟩ := h.growS hg
  refine ⟨⟨h1.set5 _ _ _, own1_set h2 (Nat.lt_succ_self _), ?_⟩, h3.setCell (p := ⟨q, 5, none⟩) (Nat.le_refl _) _⟩
  rw [L5.strCells_snoc]
  exact own1_set ho (Nat.lt_succ_self _)
/-- Stored into another box, both rows lie as they did. -/
theorem Rows2.stored {g : Nat} (h : Rows2 w A k ca C j cb ks ss) (hA : ∀ a, A = some a → a.block ≠ g) (hC : ∀ a, C = some a → a.block ≠ g) (F' L' R' : Int) (H' : ByteArray) (A' : Option Addr) (k' ca' : Nat) (C' : Option Addr) (j' cb' : Nat) : Rows2 (setN w g F' L' R' H' A' k' ca' C' j' cb') A k ca C j cb ks ss :=
  ⟨by rw [setN_size]; exact h.kids.apart hA (fun q hq => setN_other hq _ _ _ _ _ _ _ _ _ _), by rw [setN_size]; exact lies_apart h.seps hC (fun q hq => setN_other hq _ _ _ _ _ _ _ _ _ _), h.nk, h.nm, h.ck, h.cm⟩
end
end Go.Proofs.YtembccehokodeaaGreatDoor
