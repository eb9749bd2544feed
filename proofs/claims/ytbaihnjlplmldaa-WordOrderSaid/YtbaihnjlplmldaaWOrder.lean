/-
  The walk of the law WordOrder.
-/
import Derived.Test.YtbaihnjlplmldaaWLaws
import Derived.Test.YtbaihnjlplmldaaWMath
import Derived.Deep.RegionHeld3
import Derived.Deep.QuietTactic
import Derived.BigQuiet
namespace Go.Proofs.Ytbaihnjlplmldaa
open Go.RowKit
set_option linter.unusedVariables false

theorem eqb {x y : List UInt8} (h : x ≠ y) : (x == y) = false := beq_eq_false_iff_ne.2 h

/-- what the bytes of two numbers are to each other, in the walk's own words -/
structure Cmp (a b : Int) (P Q : ByteArray) : Prop where
  less : Op.bytesLess P.toList Q.toList = decide (a < b)
  behind : ∀ u v : ByteArray, a ≠ b → Op.bytesLess (P ++ u).toList (Q ++ v).toList = decide (a < b)
  same : a = b → P = Q
  first : a ≠ b → P.size ≤ Q.size → ((Q.extract 0 P.size).toList == P.toList) = false
  second : a ≠ b → Q.size ≤ P.size → ((P.extract 0 Q.size).toList == Q.toList) = false

theorem cmp_put (a b : Int) (ha0 : 0 ≤ a) (ha1 : a ≤ 18446744073709551615) (hb0 : 0 ≤ b) (hb1 : b ≤ 18446744073709551615) : Cmp a b ⟨(WP.put a.toNat).toArray⟩ ⟨(WP.put b.toNat).toArray⟩ := by
  rcases (show a < b ∨ a = b ∨ b < a by omega) with h | h | h
  · have hp := WP.put_parts a.toNat b.toNat (by omega) (by omega)
    refine ⟨?_, fun u v _ => ?_, fun e => by omega, fun _ _ => ?_, fun _ _ => ?_⟩
    · rw [decide_eq_true h, Lib.toList_data, Lib.toList_data]; exact hp.less'.1
    · rw [decide_eq_true h, Lib.toList_data, Lib.toList_data]; simpa using (hp.less u.data.toList v.data.toList).1
    · rw [Lib.extract_toList, Lib.toList_data]; exact eqb (by simpa using (hp.takes _).1)
    · rw [Lib.extract_toList, Lib.toList_data]; exact eqb (by simpa using (hp.takes _).2)
  · subst h
    refine ⟨?_, fun u v h => absurd rfl h, fun _ => rfl, fun h => absurd rfl h, fun h => absurd rfl h⟩
    rw [WP.less_irrefl]; simp
  · have hp := WP.put_parts b.toNat a.toNat (by omega) (by omega)
    have hd : decide (a < b) = false := decide_eq_false (by omega)
    refine ⟨?_, fun u v _ => ?_, fun e => by omega, fun _ _ => ?_, fun _ _ => ?_⟩
    · rw [hd, Lib.toList_data, Lib.toList_data]; exact hp.less'.2
    · rw [hd, Lib.toList_data, Lib.toList_data]; simpa using (hp.less v.data.toList u.data.toList).2
    · rw [Lib.extract_toList, Lib.toList_data]; exact eqb (by simpa using (hp.takes _).2)
    · rw [Lib.extract_toList, Lib.toList_data]; exact eqb (by simpa using (hp.takes _).1)

set_option maxHeartbeats 1000000 in
theorem wordOrder_walk (a b : Int) (s t : ByteArray) (w : World) (wa : (Lit.int .u64 a).wf = true) (wb : (Lit.int .u64 b).wf = true) (ws : s.size ≤ maxLen) (wt : t.size ≤ maxLen) :
    Calls Try.prog 4 #[.int .u64 a, .int .u64 b, .agg #[.string s, .string t]] w fun e w' => e = .returned (.bool true) ∧ Below w.heap.size w w' := by
  obtain ⟨ha0, ha1⟩ := u64_bd wa
  obtain ⟨hb0, hb1⟩ := u64_bd wb
  unfold maxLen at ws wt
  clear wa wb
  have HC := cmp_put a b ha0 ha1 hb0 hb1
  have h9a : (⟨(WP.put a.toNat).toArray⟩ : ByteArray).size ≤ 9 := by
    obtain ⟨_, _, _, _, _, hl⟩ := WP.put_form a.toNat (by omega)
    have := WP.size_bd a.toNat
    simp [ByteArray.size]; omega
  have h9b : (⟨(WP.put b.toNat).toArray⟩ : ByteArray).size ≤ 9 := by
    obtain ⟨_, _, _, _, _, hl⟩ := WP.put_form b.toNat (by omega)
    have := WP.size_bd b.toNat
    simp [ByteArray.size]; omega
  have HPa := Lib.hid (fun W => put_any a W ha0 ha1)
  have HPb := Lib.hid (fun W => put_any b W hb0 hb1)
  generalize (⟨(WP.put a.toNat).toArray⟩ : ByteArray) = P at *
  generalize (⟨(WP.put b.toNat).toArray⟩ : ByteArray) = Q at *
  go_enter Try.func4, Try.ntmps4
  go_wp2_with fail
  generalize hW : World.alloc w _ = W0
  have hbW : Below w.heap.size w W0 := hW ▸ (Below.refl _ w).alloc (Nat.le_refl _) _
  have hsz : w.heap.size < W0.heap.size := by rw [← hW]; simp
  have hc0 : W0.cell? ⟨w.heap.size, 0, none⟩ = some (.string s) := by rw [← hW, cell_of_row _ _ 0 _ _ _ (heap_alloc_new _ _)]; rfl
  have hc1 : W0.cell? ⟨w.heap.size, 1, none⟩ = some (.string t) := by rw [← hW, cell_of_row _ _ 1 _ _ _ (heap_alloc_new _ _)]; rfl
  clear hW
  refine (HPa.out _).mono ?_
  rintro e w1 ⟨rfl, hb1⟩
  go_wp2_with fail
  refine (HPb.out _).mono ?_
  rintro e w2 ⟨rfl, hb2⟩
  have hz1 := hb1.size
  have hd0 : w2.cell? ⟨w.heap.size, 0, none⟩ = some (.string s) := (hb2.cell (p := ⟨w.heap.size, 0, none⟩) (Nat.lt_of_lt_of_le hsz hz1)).trans ((hb1.cell (p := ⟨w.heap.size, 0, none⟩) hsz).trans hc0)
  have hd1 : w2.cell? ⟨w.heap.size, 1, none⟩ = some (.string t) := (hb2.cell (p := ⟨w.heap.size, 1, none⟩) (Nat.lt_of_lt_of_le hsz hz1)).trans ((hb1.cell (p := ⟨w.heap.size, 1, none⟩) hsz).trans hc1)
  clear hc0 hc1
  obtain ⟨m, hm, hm20, hms, hm2, hts⟩ := cut_min s 20 (by omega)
  obtain ⟨m', hm', hm20', hms', hm2', hts'⟩ := cut_min t 20 (by omega)
  go_wp2_with fail
  go_quiet (fail)
  clear hm hm' hm2 hm2' hts hts' hd0 hd1
  have hbelow : Below w.heap.size w (w2.drewN nq) := below_drewN (hbW.trans' (hb1.trans' hb2)) nq
  have hlen1 : (s.extract 0 m).size ≤ 20 := by simp; omega
  have hlen2 : (t.extract 0 m').size ≤ 20 := by simp; omega
  generalize s.extract 0 m = x at *
  generalize t.extract 0 m' = y at *
  generalize w2.drewN nq = W3 at *
  clear hb1 hb2 hbW hsz hz1 hms hms' hm20 hm20'
  rcases (show a < b ∨ a = b ∨ b < a by omega) with h | h | h
  · have f1 : Op.bytesLess P.toList Q.toList = true := by rw [HC.less]; exact decide_eq_true h
    have f2 : Op.bytesLess (P ++ x).toList (Q ++ y).toList = true := by rw [HC.behind x y (by omega)]; exact decide_eq_true h
    have f3 := HC.first (by omega)
    have f4 := HC.second (by omega)
    have f5 : (a == b) = false := beq_eq_false_iff_ne.2 (by omega)
    clear HC HPa HPb
    go_wp2_with fail
    all_goals
      refine (fixed_any _).mono ?_
      rintro e w4 ⟨rfl, hb4⟩
      go_wp2_with fail
      go_ret
      exact ⟨rfl, hbelow.trans' hb4⟩
  · subst h
    obtain rfl := HC.same rfl
    have f1 : Op.bytesLess P.toList P.toList = false := by rw [HC.less]; simp
    clear HC HPa HPb
    go_wp2_with fail
    all_goals
      refine (fixed_any _).mono ?_
      rintro e w4 ⟨rfl, hb4⟩
      go_wp2_with fail
      go_ret
      exact ⟨rfl, hbelow.trans' hb4⟩
  · have f1 : Op.bytesLess P.toList Q.toList = false := by rw [HC.less]; exact decide_eq_false (by omega)
    have f2 : Op.bytesLess (P ++ x).toList (Q ++ y).toList = false := by rw [HC.behind x y (by omega)]; exact decide_eq_false (by omega)
    have f3 := HC.first (by omega)
    have f4 := HC.second (by omega)
    have f5 : (a == b) = false := beq_eq_false_iff_ne.2 (by omega)
    have f6 : decide (a < b) = false := decide_eq_false (by omega)
    clear HC HPa HPb
    go_wp2_with fail
    all_goals
      refine (fixed_any _).mono ?_
      rintro e w4 ⟨rfl, hb4⟩
      go_wp2_with fail
      go_ret
      exact ⟨rfl, hbelow.trans' hb4⟩

end Go.Proofs.Ytbaihnjlplmldaa
