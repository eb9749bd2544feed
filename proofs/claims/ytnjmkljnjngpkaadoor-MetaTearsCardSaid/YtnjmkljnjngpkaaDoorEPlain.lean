/-
  Plain facts about what texts have in common at their beginnings, and about their order; nothing of the program.
-/
import Derived.Sort.Walk0
namespace Go.Proofs.YtnjmkljnjngpkaaDoor.L5
namespace EP
set_option linter.unusedVariables false
/- The order. -/
end EP
end Go.Proofs.YtnjmkljnjngpkaaDoor.L5
