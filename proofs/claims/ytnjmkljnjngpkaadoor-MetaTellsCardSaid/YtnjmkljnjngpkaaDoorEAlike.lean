/-
  Walks of sep.alike, sep.Common, sep.Span.
-/
import Derived.Test.YtnjmkljnjngpkaaDoorERow
import Derived.Deep.QuietTactic
import Derived.BigQuiet
import Derived.Deep.RegionHeld3
namespace Go.Proofs.YtnjmkljnjngpkaaDoor.L5
open Go.RowKit
set_option linter.unusedVariables false
set_option linter.unusedSimpArgs false
/-- The slice behind the first text, as the walk spells it. -/
abbrev behind (a : Addr) (ca : Nat) : Option Addr := if ca = 1 then some a else some { block := a.block, off := a.off + 1 }
theorem Lies.behind {w : World} {b ca : Nat} {s : ByteArray} {a : Addr} {l : List ByteArray} (h : Lies w b (some a) (s :: l)) (hc : l.length + 1 ≤ ca) : Lies w b (behind a ca) l := by
  by_cases h1 : ca = 1
  · have h0 : l = [] := List.eq_nil_of_length_eq_zero (by omega)
    subst h0
    exact Lies.nil _ _ _
  · rw [Go.Proofs.YtnjmkljnjngpkaaDoor.L5.behind, if_neg h1]
    exact h.tail

end Go.Proofs.YtnjmkljnjngpkaaDoor.L5
