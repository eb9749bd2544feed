/-
  What all layers share.
-/
import Derived.Test.YtnjmkljnjngpkaaDoorChecked
import Derived.Below
import Derived.ProofKit
namespace Go.Proofs.YtnjmkljnjngpkaaDoor
open Go.RowKit
theorem _root_.Go.RowKit.Below.trans' {w a b : World} (h : Below w.heap.size w a) (k : Below a.heap.size a b) : Below w.heap.size w b := h.trans (k.mono h.size)
end Go.Proofs.YtnjmkljnjngpkaaDoor
