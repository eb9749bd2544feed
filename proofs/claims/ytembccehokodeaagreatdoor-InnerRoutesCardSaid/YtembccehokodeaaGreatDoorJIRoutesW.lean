/-
  The walk of InnerRoutes, with the laws' own fixed answers.
-/
import Derived.Test.YtembccehokodeaaGreatDoorJIFixed
import Derived.Test.YtembccehokodeaaGreatDoorJIRoutes
import Derived.Test.YtembccehokodeaaGreatDoorJFrameArr
namespace Go.Proofs.YtembccehokodeaaGreatDoor
open Go.RowKit IP
theorem innerRoutes_walk (F L R : Int) (H : ByteArray) (A : Option Addr) (n ca : Nat) (C : Option Addr) (m cb : Nat) (ks : List Int) (ss : List ByteArray) (p : Int) (s0 y0 : ByteArray) (w : World) (hg : L7.Sizes w) (hr : Rows2 w A n ca C m cb ks ss) (hn : n ≤ maxLen) (hca : ca ≤ maxLen) (hm : m ≤ maxLen) (hH : H.size ≤ maxLen) (hs : ∀ s ∈ ss, s.size ≤ maxLen) (_hp : (Lit.int .i64 p).wf = true) (hss : s0.size ≤ maxLen) (hys : y0.size ≤ maxLen) :
    Calls Tryz.prog 5 #[nv F L R H A n ca C m cb, .int .i64 p, .agg #[.string s0, .string y0]] w fun e w' => e = .returned (.bool true) ∧ Below w.heap.size w w' := innerRoutes_any fixed_any F L R H A n ca C m cb ks ss p s0 y0 w hg hr hn hca hm hH hs hss hys
end Go.Proofs.YtembccehokodeaaGreatDoor
