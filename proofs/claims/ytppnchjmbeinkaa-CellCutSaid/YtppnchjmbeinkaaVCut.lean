/-
  The laws' Cut and Ref.
-/
import Derived.Test.YtppnchjmbeinkaaVFixed
namespace Go.Proofs.Ytppnchjmbeinkaa
open Go.RowKit
set_option linter.unusedVariables false
set_option linter.unusedSimpArgs false

def cutV (S : ByteArray) : ByteArray := S.extract 0 (min S.size 300)
theorem cutV_size (S : ByteArray) : (cutV S).size ≤ 300 := by simp [cutV]; omega
set_option maxHeartbeats 1000000 in
theorem vcut_any (O : Bool) (S : ByteArray) (L P : Int) (w : World) (hs : S.size ≤ maxLen) :
    Calls Try.prog 9 #[vv O S L P] w fun e w' => e = .returned (vv O (cutV S) L P) ∧ Below w.heap.size w w' := by
  unfold maxLen at hs
  obtain ⟨m, hm, hm6, hms, hmm, hfs⟩ := cut_min S 300 (by omega)
  have hc : cutV S = S.extract 0 m := by
    unfold cutV
    rw [show min S.size 300 = m by omega]
  rw [hc]
  clear hc hfs
  go_enter Try.func9, Try.ntmps9
  go_wp2_with fail
  refine bodyPost_ret (v := vv O (S.extract 0 m) L P) (by simp [results, Try.results9, go_sem]) rfl ⟨rfl, (below_alloc _ _).trans' (below_alloc _ _)⟩
set_option maxHeartbeats 1000000 in
theorem vref_any (O : Bool) (S : ByteArray) (L P : Int) (w : World) :
    Calls Try.prog 12 #[vv O S L P] w fun e w' => e = .returned (vv O S L P) ∧ Below w.heap.size w w' := by
  go_enter Try.func12, Try.ntmps12
  go_wp2_with fail
  refine bodyPost_ret (v := vv O S L P) (by simp [results, Try.results12, go_sem]) rfl ⟨rfl, (below_alloc _ _).trans' (below_alloc _ _)⟩
end Go.Proofs.Ytppnchjmbeinkaa
