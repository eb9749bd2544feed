/-
  The walk of the law WordTells.
-/
import Derived.Test.YtbaihnjlplmldaaWRef3
namespace Go.Proofs.Ytbaihnjlplmldaa
open Go.RowKit
set_option linter.unusedVariables false

theorem both_get (t : ByteArray) (a : Int) (h : t.size ≤ 60) : ∃ g1 g2 g3 : Int,
    (∀ W, Calls Try.prog 10 #[.string t, .int .i64 a] W fun e w' => e = .returned (.tuple #[.int .u64 g1, .int .i64 g2, .int .i64 g3]) ∧ Below W.heap.size W w') ∧
    (∀ W, Calls Try.prog 11 #[.string t, .int .i64 a] W fun e w' => e = .returned (.tuple #[.int .u64 g1, .int .i64 g2, .int .i64 g3]) ∧ Below W.heap.size W w') := by
  by_cases hr : a < 0 ∨ (t.size : Int) < a
  · exact ⟨0, 0, 4, fun W => (get_arg t a W hr).mono fun e w' ⟨h, h'⟩ => ⟨h, h' ▸ Below.refl _ _⟩, fun W => (rget_arg t a W hr).mono fun e w' ⟨h, h'⟩ => ⟨h, h' ▸ Below.refl _ _⟩⟩
  · exact ⟨_, _, _, fun W => get_any t a W (by omega) (by omega) (by unfold maxLen; omega), fun W => rget_any t a W (by omega) (by omega) (by omega)⟩

theorem both_read (t : ByteArray) (a : Int) (h : t.size ≤ 60) : ∃ g1 g2 : Int,
    (∀ W, Calls Try.prog 12 #[.string t, .int .i64 a] W fun e w' => e = .returned (.tuple #[.int .u32 g1, .int .i64 g2]) ∧ W = w') ∧
    (∀ W, Calls Try.prog 13 #[.string t, .int .i64 a] W fun e w' => e = .returned (.tuple #[.int .u32 g1, .int .i64 g2]) ∧ W = w') := by
  by_cases hr : a < 0 ∨ (t.size : Int) < a
  · exact ⟨0, 4, fun W => read_arg t a W hr (by unfold maxLen; omega), fun W => rread_arg t a W hr⟩
  · by_cases h4 : a + 4 ≤ t.size
    · exact ⟨_, _, fun W => read_any t a W (by omega) h4 (by unfold maxLen; omega), fun W => rread_any t a W (by omega) h4 (by unfold maxLen; omega)⟩
    · exact ⟨0, 7, fun W => read_short t a W (by omega) (by omega) (by omega), fun W => rread_short t a W (by omega) (by omega) (by omega) (by omega)⟩

set_option maxHeartbeats 2000000 in
theorem wordTells_walk (n : Int) (s : ByteArray) (a : Int) (w : World) (wn : (Lit.int .u64 n).wf = true) (ws : s.size ≤ maxLen) (wa : (Lit.int .i64 a).wf = true) :
    Calls Try.prog 3 #[.int .u64 n, .string s, .int .i64 a] w fun e w' => e = .returned (.bool true) ∧ Below w.heap.size w w' := by
  obtain ⟨hn0, hn1⟩ := u64_bd wn
  obtain ⟨ha0, ha1⟩ := i64_bd wa
  unfold maxLen at ws
  clear wn wa
  obtain ⟨m, hm, hm60, hms, hm2, hts⟩ := cut_min s 60 (by omega)
  have HTS := Lib.hid hts
  clear hts
  go_enter Try.func3, Try.ntmps3
  go_wp2_with fail
  clear hm hm2
  generalize s.extract 0 m = t at *
  obtain rfl := HTS.out
  clear HTS
  obtain ⟨g1, g2, g3, hg, hg'⟩ := both_get t a (by omega)
  obtain ⟨r1, r2, hr, hr'⟩ := both_read t a (by omega)
  obtain ⟨P, HPd⟩ : ∃ P : ByteArray, Hid (P = ⟨(WP.put n.toNat).toArray⟩) := ⟨_, Lib.hid rfl⟩
  have HPS : Hid (P.size = WP.size n.toNat) := Lib.hid (by
    obtain ⟨_, _, _, _, _, hl⟩ := WP.put_form n.toNat (by omega)
    rw [HPd.out]; simpa [ByteArray.size] using hl)
  have HPut : Hid (∀ W, Calls Try.prog 14 #[.int .u64 n] W fun e w' => e = .returned (.string P) ∧ Below W.heap.size W w') := Lib.hid (by
    intro W; rw [HPd.out]; exact put_any n W (by omega) (by omega))
  have HPut' : Hid (∀ W, Calls Try.prog 15 #[.int .u64 n] W fun e w' => e = .returned (.string P) ∧ Below W.heap.size W w') := Lib.hid (by
    intro W; rw [HPd.out]; exact rput_any n W (by omega) (by omega))
  have HSize : Hid (∀ W, Calls Try.prog 16 #[.int .u64 n] W fun e w' => e = .returned (.int .i64 P.size) ∧ W = w') := Lib.hid (by
    intro W; rw [HPS.out]; exact size_any n W (by omega) (by omega))
  have HG := Lib.hid hg
  have HG' := Lib.hid hg'
  have HR := Lib.hid hr
  have HR' := Lib.hid hr'
  clear hg hg' hr hr'
  refine (HG.out _).mono ?_
  rintro e w1 ⟨rfl, hb1⟩
  go_wp2_with fail
  refine (HG'.out _).mono ?_
  rintro e w2 ⟨rfl, hb2⟩
  go_wp2_with fail
  refine (HR.out _).mono ?_
  rintro e w' ⟨rfl, rfl⟩
  go_wp2_with fail
  refine (HR'.out _).mono ?_
  rintro e w' ⟨rfl, rfl⟩
  go_wp2_with fail
  refine (HPut.out _).mono ?_
  rintro e w3 ⟨rfl, hb3⟩
  go_wp2_with fail
  refine (HPut'.out _).mono ?_
  rintro e w4 ⟨rfl, hb4⟩
  go_wp2_with fail
  refine (HSize.out _).mono ?_
  rintro e w' ⟨rfl, rfl⟩
  go_wp2_with fail
  refine (HPut'.out _).mono ?_
  rintro e w5 ⟨rfl, hb5⟩
  go_wp2_with fail
  refine (four_any _ _ (by omega) (by omega)).mono ?_
  rintro e w6 ⟨rfl, hb6⟩
  go_wp2_with fail
  refine (rfour_any _ _ (by omega) (by omega)).mono ?_
  rintro e w7 ⟨rfl, hb7⟩
  go_wp2_with fail
  refine (fixed_any _).mono ?_
  rintro e w8 ⟨rfl, hb8⟩
  go_wp2_with fail
  go_ret
  exact ⟨rfl, hb1.trans' (hb2.trans' (hb3.trans' (hb4.trans' (hb5.trans' (hb6.trans' (hb7.trans' hb8))))))⟩

end Go.Proofs.Ytbaihnjlplmldaa
