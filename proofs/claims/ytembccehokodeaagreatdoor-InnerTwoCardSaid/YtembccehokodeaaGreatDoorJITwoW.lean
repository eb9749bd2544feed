/-
  The walk of InnerTwo, with the laws' own fixed answers.
-/
import Derived.Test.YtembccehokodeaaGreatDoorJIFixed
import Derived.Test.YtembccehokodeaaGreatDoorJIOne
namespace Go.Proofs.YtembccehokodeaaGreatDoor
open Go.RowKit IP
theorem innerTwo_walk (F L R : Int) (H : ByteArray) (A : Option Addr) (n ca : Nat) (C : Option Addr) (m cb : Nat) (ks : List Int) (ss : List ByteArray) (p : Int) (w : World) (hg : L7.Sizes w) (hr : Rows2 w A n ca C m cb ks ss) (hn : n ≤ maxLen) (hca : ca ≤ maxLen) (hm : m ≤ maxLen) (hH : H.size ≤ maxLen) (hs : ∀ s ∈ ss, s.size ≤ maxLen) (_hp : (Lit.int .i64 p).wf = true) :
    Calls Tryz.prog 6 #[nv F L R H A n ca C m cb, .int .i64 p] w fun e w' => e = .returned (.bool true) ∧ Below w.heap.size w w' := innerTwo_any fixed_any F L R H A n ca C m cb ks ss p w hg hr hn hca hm hH hs 
end Go.Proofs.YtembccehokodeaaGreatDoor
