/-
  What strings.ReplaceAll makes of a text's bytes 0; nothing of the program.
-/
import Derived.Test.YtdcijbclafpkmaaDoorCPlain
import Derived.Lib.Replace
import Derived.Lib.SplitLaws
namespace Go.Proofs.YtdcijbclafpkmaaDoor
namespace CP
theorem index_skip (b : UInt8) (r : List UInt8) (i : Nat) (hb : b ≠ 0) (h : Lib.index r [0] = i) : Lib.index (b :: r) [0] = (i + 1 : Nat) := by
  have hb' : ¬ (0 = b) := fun e => hb e.symm
  simp [Lib.index, h, hb']
  try omega
theorem replaceK_esc (s : List UInt8) : Lib.replaceK [0] [0, 255] (Lib.count s [0]) s = esc s := by
  induction s with
  | nil => rfl
  | cons b r ih =>
    by_cases hb : b = 0
    · subst hb
      rw [Lib.count_cons_eq, Nat.add_comm, Lib.replaceK_hit _ _ _ _ 0 (by simp [Lib.index]), esc_zero, ← ih]
      simp
    · rw [Lib.count_cons_ne _ _ _ hb, esc_other _ _ hb, ← ih]
      cases hk : Lib.count r [0] with
      | zero => rfl
      | succ k =>
        obtain ⟨i, hi⟩ := Lib.index_of_count (s := r) (old := [0]) (by omega)
        rw [Lib.replaceK_hit _ _ k r i hi, Lib.replaceK_hit _ _ k (b :: r) (i + 1) (index_skip b r i hb hi)]
        simp
theorem replaceAll_esc (s : List UInt8) : Lib.replaceAll s [0] [0, 255] = esc s := by
  unfold Lib.replaceAll Lib.replace
  rw [if_neg (by decide), show Lib.replaceNum s [0] (-1) = Lib.count s [0] by unfold Lib.replaceNum; rw [if_pos (by omega)]]
  exact replaceK_esc s
end CP
end Go.Proofs.YtdcijbclafpkmaaDoor
