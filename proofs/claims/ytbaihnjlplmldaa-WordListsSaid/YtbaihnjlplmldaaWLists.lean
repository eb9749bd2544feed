/-
  The walk of the law WordLists.
-/
import Derived.Test.YtbaihnjlplmldaaWLaws
import Derived.Test.YtbaihnjlplmldaaWMath
import Derived.Deep.QuietTactic
import Derived.BigQuiet
namespace Go.Proofs.Ytbaihnjlplmldaa
open Go.RowKit
set_option linter.unusedVariables false

/-- what the two texts are to each other, by the sign -/
def Sign (c : Int) (S T : ByteArray) : Prop :=
  (c = 0 ∧ S = T) ∨ (c = -1 ∧ WP.Parts S.data.toList T.data.toList) ∨ (c = 1 ∧ WP.Parts T.data.toList S.data.toList)

theorem parts_append {x y : List UInt8} (h : WP.Parts x y) (u v : List UInt8) : WP.Parts (x ++ u) (y ++ v) := by
  obtain ⟨p, c, d, x', y', rfl, rfl, hcd⟩ := h
  exact ⟨p, c, d, x' ++ u, y' ++ v, by simp, by simp, hcd⟩
theorem parts_ahead {x y : List UInt8} (h : WP.Parts x y) (u : List UInt8) : WP.Parts (u ++ x) (u ++ y) := by
  obtain ⟨p, c, d, x', y', rfl, rfl, hcd⟩ := h
  exact ⟨u ++ p, c, d, x', y', by simp, by simp, hcd⟩

theorem sign_step (a b : Int) (ha0 : 0 ≤ a) (ha1 : a ≤ 18446744073709551615) (hb0 : 0 ≤ b) (hb1 : b ≤ 18446744073709551615) (c : Int) (S T : ByteArray) (h : Sign c S T) :
    Sign (if c = 0 then (if a < b then -1 else if b < a then 1 else 0) else c) (S ++ ⟨(WP.put a.toNat).toArray⟩) (T ++ ⟨(WP.put b.toNat).toArray⟩) := by
  rcases h with ⟨rfl, rfl⟩ | ⟨rfl, h⟩ | ⟨rfl, h⟩
  · rw [if_pos rfl]
    split
    · have := WP.put_parts a.toNat b.toNat (by omega) (by omega)
      exact .inr (.inl ⟨rfl, by simpa using parts_ahead this S.data.toList⟩)
    split
    · have := WP.put_parts b.toNat a.toNat (by omega) (by omega)
      exact .inr (.inr ⟨rfl, by simpa using parts_ahead this S.data.toList⟩)
    · obtain rfl : a = b := by omega
      exact .inl ⟨rfl, rfl⟩
  · rw [if_neg (by omega)]
    exact .inr (.inl ⟨rfl, by simpa using parts_append h _ _⟩)
  · rw [if_neg (by omega)]
    exact .inr (.inr ⟨rfl, by simpa using parts_append h _ _⟩)

theorem sign_end {c : Int} {S T : ByteArray} (h : Sign c S T) : Op.bytesLess S.toList T.toList = decide (c < 0) ∧ (S.toList == T.toList) = (c == 0) := by
  rcases h with ⟨rfl, rfl⟩ | ⟨rfl, h⟩ | ⟨rfl, h⟩
  · rw [WP.less_irrefl]; simp
  · rw [Lib.toList_data, Lib.toList_data, h.less'.1, beq_eq_false_iff_ne.2 h.ne]; decide
  · rw [Lib.toList_data, Lib.toList_data, h.less'.2, beq_eq_false_iff_ne.2 h.ne.symm]; decide

theorem min_three {P : Program} {w : World} (ts : Array TypeId) (t : TypeId) (k k' k'' : IntKind) (x y z : Int) : (Builtin.min_ ts t #[.int k x, .int k' y, .int k'' z]).run P w = .ok (.int k (min (min x y) z)) w := by
  rw [run_min_int3]
  have : (if z < (if y < x then y else x) then z else (if y < x then y else x)) = min (min x y) z := by split <;> split <;> omega
  rw [this]
attribute [local go_sem high] min_three

theorem cell_block {w : World} {p : Addr} {v : Value} (h : w.cell? p = some v) : p.block < w.heap.size := by
  rcases Nat.lt_or_ge p.block w.heap.size with h1 | h1
  · exact h1
  · simp [World.cell?, Array.getElem?_eq_none h1] at h

theorem row_at {w : World} {a : Option Addr} {len cap k : Nat} {zs : List Int} (h : IsRow .u64 w a len cap zs) (hk : k < len) :
    ∃ (x : Addr) (v : Int), a = some x ∧ w.cell? (x.add k) = some (.int .u64 v) ∧ 0 ≤ v ∧ v ≤ 18446744073709551615 ∧ len ≤ maxLen := by
  rcases h with ⟨_, h, _, _⟩ | ⟨x, hx, hl, hm, hz, hc, hw⟩
  · omega
  · refine ⟨x, zs.getD k 0, hx, hc k (by omega), ?_⟩
    have := u64_bd (hw (zs.getD k 0) (by simp [show k < zs.length by omega]))
    exact ⟨this.1, this.2, by omega⟩

set_option maxHeartbeats 1000000 in
theorem wordLists_walk (a0 : Option Addr) (len0 cap0 : Nat) (z0 : List Int) (a1 : Option Addr) (len1 cap1 : Nat) (z1 : List Int) (w : World) (w0 : IsRow .u64 w a0 len0 cap0 z0) (w1 : IsRow .u64 w a1 len1 cap1 z1) :
    Calls Try.prog 9 #[.slice a0 len0 cap0, .slice a1 len1 cap1] w fun e w' => e = .returned (.bool true) ∧ Below w.heap.size w w' := by
  obtain ⟨n, hn, hn8, hn0, hn1⟩ : ∃ n : Nat, min (min (len0 : Int) len1) 8 = n ∧ n ≤ 8 ∧ n ≤ len0 ∧ n ≤ len1 := ⟨min (min len0 len1) 8, by omega, by omega, by omega, by omega⟩
  go_enter Try.func9, Try.ntmps9
  go_wp2_with fail
  go_loopw [6, 7, 8, 9] (fun s t c i wr => ∃ (k : Nat) (S T : ByteArray) (q : Int), k ≤ n ∧ i = .int .i64 k ∧ s = .string S ∧ t = .string T ∧ c = .int .i64 q ∧ Sign q S T ∧ S.size ≤ 9 * k ∧ T.size ≤ 9 * k ∧ Below w.heap.size w wr) (fun _ _ _ i _ => n - (intOf i).toNat)
  case atStart => exact ⟨0, _, _, 0, Nat.zero_le _, rfl, rfl, rfl, rfl, .inl ⟨rfl, rfl⟩, Nat.le_refl _, Nat.le_refl _, Below.refl _ _⟩
  case round =>
    obtain ⟨k, S, T, q, hk, rfl, rfl, rfl, rfl, hs, hS, hT, hb⟩ := hrel
    by_cases hlt : k < n
    · obtain ⟨x, u, rfl, hcx, hu0, hu1, hxl⟩ := row_at w0 (show k < len0 by omega)
      obtain ⟨y, v, rfl, hcy, hv0, hv1, hyl⟩ := row_at w1 (show k < len1 by omega)
      have hbx := cell_block hcx
      have hby := cell_block hcy
      have hx1 : wr.cell? (x.add k) = some (.int .u64 u) := (hb.cell hbx).trans hcx
      have hpu : (⟨(WP.put u.toNat).toArray⟩ : ByteArray).size ≤ 9 := by
        obtain ⟨_, _, _, _, _, hl⟩ := WP.put_form u.toNat (by omega)
        have := WP.size_bd u.toNat
        simp [ByteArray.size]; omega
      have hpv : (⟨(WP.put v.toNat).toArray⟩ : ByteArray).size ≤ 9 := by
        obtain ⟨_, _, _, _, _, hl⟩ := WP.put_form v.toNat (by omega)
        have := WP.size_bd v.toNat
        simp [ByteArray.size]; omega
      have HS := Lib.hid (sign_step u v hu0 hu1 hv0 hv1 q S T hs)
      have HPu := Lib.hid (fun W => put_any u W hu0 hu1)
      have HPv := Lib.hid (fun W => put_any v W hv0 hv1)
      clear hs w0 w1
      generalize (⟨(WP.put u.toNat).toArray⟩ : ByteArray) = P at *
      generalize (⟨(WP.put v.toNat).toArray⟩ : ByteArray) = Q at *
      go_wp2_with fail
      refine (HPu.out _).mono ?_
      rintro e w1 ⟨rfl, hb1⟩
      have hb01 := hb.trans' hb1
      have hy1 : w1.cell? (y.add k) = some (.int .u64 v) := (hb01.cell hby).trans hcy
      go_wp2_with fail
      refine (HPv.out _).mono ?_
      rintro e w2 ⟨rfl, hb2⟩
      have hb02 := hb01.trans' hb2
      have hx2 : w2.cell? (x.add k) = some (.int .u64 u) := (hb02.cell hbx).trans hcx
      have hy2 : w2.cell? (y.add k) = some (.int .u64 v) := (hb02.cell hby).trans hcy
      go_wp2_with fail
      have i1 : (k : Int) < len0 := by omega
      have i2 : (k : Int) < len1 := by omega
      have i3 : (0 : Int) ≤ k := by omega
      clear hb01 hb1 hb2 hb hx1 hy1 hcx hcy hn HPu HPv
      have z1 : (S ++ P).size ≤ 9 * (k + 1) := by rw [ByteArray.size_append]; omega
      have z2 : (T ++ Q).size ≤ 9 * (k + 1) := by rw [ByteArray.size_append]; omega
      by_cases hq : q = 0
      · subst hq
        rcases (show u < v ∨ u = v ∨ v < u by omega) with h | h | h
        · have g1 : (u != v) = true := bne_iff_ne.2 (by omega)
          have HS' : Hid (Sign (-1) (S ++ P) (T ++ Q)) := Lib.hid (by have := HS.out; rwa [if_pos rfl, if_pos h] at this)
          clear HS
          go_quiet (fail)
          go_wp2_with fail
          go_quiet (fail)
          go_wp2_with fail
          go_roundw
          case rel => exact ⟨k + 1, S ++ P, T ++ Q, -1, by omega, by go_num, rfl, rfl, rfl, HS'.out, z1, z2, by first | exact below_drewN hb02 _ | exact below_drewN (below_drewN hb02 _) _⟩
          case measure => simp [intOf]; omega
        · subst h
          have g1 : (u != u) = false := by simp
          have HS' : Hid (Sign 0 (S ++ P) (T ++ Q)) := Lib.hid (by have := HS.out; rwa [if_pos rfl, if_neg (by omega), if_neg (by omega)] at this)
          clear HS
          go_quiet (fail)
          go_wp2_with fail
          go_roundw
          case rel => exact ⟨k + 1, S ++ P, T ++ Q, 0, by omega, by go_num, rfl, rfl, rfl, HS'.out, z1, z2, by first | exact below_drewN hb02 _ | exact below_drewN (below_drewN hb02 _) _⟩
          case measure => simp [intOf]; omega
        · have g1 : (u != v) = true := bne_iff_ne.2 (by omega)
          have g2 : decide (u < v) = false := decide_eq_false (by omega)
          have HS' : Hid (Sign 1 (S ++ P) (T ++ Q)) := Lib.hid (by have := HS.out; rwa [if_pos rfl, if_neg (by omega), if_pos h] at this)
          clear HS
          go_quiet (fail)
          go_wp2_with fail
          go_quiet (fail)
          go_wp2_with fail
          go_roundw
          case rel => exact ⟨k + 1, S ++ P, T ++ Q, 1, by omega, by go_num, rfl, rfl, rfl, HS'.out, z1, z2, by first | exact below_drewN hb02 _ | exact below_drewN (below_drewN hb02 _) _⟩
          case measure => simp [intOf]; omega
      · have g0 : (q == 0) = false := beq_eq_false_iff_ne.2 hq
        have HS' : Hid (Sign q (S ++ P) (T ++ Q)) := Lib.hid (by have := HS.out; rwa [if_neg hq] at this)
        clear HS hq
        go_quiet (fail)
        go_wp2_with fail
        go_roundw
        case rel => exact ⟨k + 1, S ++ P, T ++ Q, q, by omega, by go_num, rfl, rfl, rfl, HS'.out, z1, z2, by first | exact below_drewN hb02 _ | exact below_drewN (below_drewN hb02 _) _⟩
        case measure => simp [intOf]; omega
    · obtain ⟨f1, f2⟩ := sign_end hs
      clear w0 w1
      go_wp2_with fail
      refine (fixed_any _).mono ?_
      rintro e w4 ⟨rfl, hb4⟩
      go_wp2_with fail
      go_ret
      exact ⟨rfl, hb.trans' hb4⟩

end Go.Proofs.Ytbaihnjlplmldaa
