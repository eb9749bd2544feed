/-
  Plain mathematics of package sum: bytes of which at most four, one behind the other, are other ones.
-/
import Derived.Test.YtnjmkljnjngpkaaDoorSPlain
namespace Go.Proofs.YtnjmkljnjngpkaaDoor.L7.SP
end Go.Proofs.YtnjmkljnjngpkaaDoor.L7.SP
