/-
  The walk of the law WordBack.
-/
import Derived.Test.YtbaihnjlplmldaaWLaws
import Derived.Test.YtbaihnjlplmldaaWMath
import Derived.Deep.RegionHeld3
namespace Go.Proofs.Ytbaihnjlplmldaa
open Go.RowKit
set_option linter.unusedVariables false

set_option maxHeartbeats 1000000 in
theorem wordBack_walk (n : Int) (s t : ByteArray) (w : World) (wn : (Lit.int .u64 n).wf = true) (ws : s.size ≤ maxLen) (wt : t.size ≤ maxLen) :
    Calls Try.prog 5 #[.int .u64 n, .string s, .string t] w fun e w' => e = .returned (.bool true) ∧ Below w.heap.size w w' := by
  obtain ⟨hn0, hn1⟩ := u64_bd wn
  unfold maxLen at ws wt
  clear wn
  obtain ⟨v, rfl⟩ := Int.eq_ofNat_of_zero_le hn0
  obtain ⟨m, hm, hm20, hms, hm2, hts⟩ := cut_min s 20 (by omega)
  obtain ⟨m', hm', hm20', hms', hm2', hts'⟩ := cut_min t 20 (by omega)
  have HTS := Lib.hid hts
  have HTS' := Lib.hid hts'
  clear hts hts'
  obtain ⟨P, HP⟩ : ∃ P : ByteArray, Hid (P = ⟨(WP.put v).toArray⟩) := ⟨_, Lib.hid rfl⟩
  obtain ⟨b, r, hpf, hf, ht, hlen⟩ := WP.put_form v (by omega)
  have hsz := WP.size_bd v
  have HPS : Hid (P.size = WP.size v) := Lib.hid (by rw [HP.out]; simpa [ByteArray.size] using hlen)
  clear hpf hf ht hlen b r
  have hp1 : 1 ≤ P.size := by rw [HPS.out]; exact hsz.1
  have hp9 : P.size ≤ 9 := by rw [HPS.out]; exact hsz.2
  have hp1' : (1 : Int) ≤ P.size := by omega
  have HPut : Hid (∀ W, Calls Try.prog 14 #[.int .u64 v] W fun e w' => e = .returned (.string P) ∧ Below W.heap.size W w') := Lib.hid (by
    intro W
    rw [HP.out]
    have h := put_any (v : Int) W (by omega) (by omega)
    rwa [Int.toNat_natCast] at h)
  have HSize : Hid (∀ W, Calls Try.prog 16 #[.int .u64 v] W fun e w' => e = .returned (.int .i64 P.size) ∧ W = w') := Lib.hid (by
    intro W
    rw [HPS.out]
    have h := size_any (v : Int) W (by omega) (by omega)
    rwa [Int.toNat_natCast] at h)
  go_enter Try.func5, Try.ntmps5
  go_wp2_with fail
  clear hm hm2 hm' hm2'
  generalize s.extract 0 m = x at *
  generalize t.extract 0 m' = y at *
  obtain rfl := HTS.out
  obtain rfl := HTS'.out
  refine (HPut.out _).mono ?_
  rintro e w1 ⟨rfl, hb1⟩
  go_wp2_with fail
  refine (HSize.out _).mono ?_
  rintro e w' ⟨rfl, rfl⟩
  go_wp2_with fail
  have hg1 := get_any (x ++ P ++ y) x.size w1 (by omega) (by simp only [ByteArray.size_append]; omega) (by unfold maxLen; simp only [ByteArray.size_append]; omega)
  rw [Int.toNat_natCast, show (x ++ P ++ y).data.toList = x.data.toList ++ WP.put v ++ y.data.toList by rw [HP.out]; simp, show x.size = x.data.toList.length by simp, WP.get_put _ _ v (by omega), show x.data.toList.length = x.size by simp, show (WP.put v).length = P.size by rw [HP.out]; simp [ByteArray.size]] at hg1
  refine hg1.mono ?_
  clear hg1
  rintro e w2 ⟨rfl, hb2⟩
  go_wp2_with fail
  have hg2 := get_any (x ++ P.extract 0 (P.size - 1)) x.size w2 (by omega) (by simp only [ByteArray.size_append]; omega) (by unfold maxLen; simp only [ByteArray.size_append, ByteArray.size_extract]; omega)
  rw [Int.toNat_natCast, show (x ++ P.extract 0 (P.size - 1)).data.toList = x.data.toList ++ (WP.put v).take ((WP.put v).length - 1) by rw [ByteArray.data_append, Array.toList_append, Lib.extract_data, HP.out]; simp [ByteArray.size], show x.size = x.data.toList.length by simp, WP.get_cut _ v (by omega)] at hg2
  refine hg2.mono ?_
  clear hg2
  rintro e w3 ⟨rfl, hb3⟩
  go_wp2_with fail
  refine (fixed_any _).mono ?_
  rintro e w4 ⟨rfl, hb4⟩
  go_wp2_with fail
  go_ret
  exact ⟨rfl, hb1.trans' (hb2.trans' (hb3.trans' hb4))⟩

end Go.Proofs.Ytbaihnjlplmldaa
