/-
  The walk of the law SumTells.
-/
import Derived.Test.YtepefmgdkkecaaaSRef
namespace Go.Proofs.Ytepefmgdkkecaaa
open Go.RowKit
set_option linter.unusedVariables false

set_option maxHeartbeats 1000000 in
theorem sumTells_walk (s : ByteArray) (c n : Int) (w : World) (ws : s.size ≤ maxLen) (wc : (Lit.int .u32 c).wf = true) (wn : (Lit.int .i64 n).wf = true) :
    Calls Try.prog 3 #[.string s, .int .u32 c, .int .i64 n] w fun e w' => e = .returned (.bool true) ∧ Below w.heap.size w w' := by
  obtain ⟨c, rfl, hc⟩ := u32_nat wc
  unfold maxLen at ws
  clear wc wn
  obtain ⟨m, hm, hm4, hms, hm2, hts⟩ := cut_min s 400 (by omega)
  have HTS := Lib.hid hts
  clear hts
  go_enter Try.func3, Try.ntmps3
  go_wp2_with fail
  clear hm hm2
  generalize s.extract 0 m = t at *
  obtain rfl := HTS.out
  have htl : t.size ≤ maxLen := by unfold maxLen; omega
  refine (refSum_any t _ htl).mono ?_
  rintro e w1 ⟨rfl, rfl⟩
  go_wp2_with fail
  generalize min n 2000 = k at *
  refine (bits_any t _ htl).mono ?_
  rintro e w2 ⟨rfl, hb2⟩
  go_wp2_with fail
  refine (table_any t _ htl).mono ?_
  rintro e w3 ⟨rfl, hb3⟩
  go_wp2_with fail
  refine (more_any c t _ hc htl).mono ?_
  rintro e w4 ⟨rfl, hb4⟩
  go_wp2_with fail
  refine (refMore_any c t _ hc htl).mono ?_
  rintro e w5 ⟨rfl, rfl⟩
  go_wp2_with fail
  refine (join_any (SP.sum t.data.toList) c k _ (SP.sum_lt _) hc).mono ?_
  rintro e w6 ⟨rfl, hb6⟩
  go_wp2_with fail
  refine (refJoin_any (SP.sum t.data.toList) c k _ (SP.sum_lt _) hc).mono ?_
  rintro e w7 ⟨rfl, rfl⟩
  go_wp2_with fail
  refine (fixed_any _).mono ?_
  rintro e w8 ⟨rfl, hb8⟩
  go_wp2_with fail
  go_ret
  exact ⟨rfl, (((hb2.trans' hb3).trans' hb4).trans' hb6).trans' hb8⟩

end Go.Proofs.Ytepefmgdkkecaaa
