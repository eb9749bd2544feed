/-
  Plain mathematics of package sum: bytes of which at most four, one behind the other, are other ones.
-/
import Derived.Test.YtahkigabapdleaaDoorSPlain
namespace Go.Proofs.YtahkigabapdleaaDoor.L7.SP
end Go.Proofs.YtahkigabapdleaaDoor.L7.SP
