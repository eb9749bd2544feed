/-
  The walk of InnerBack, with the laws' own fixed answers.
-/
import Derived.Test.YtembccehokodeaaGreatDoorJIFixed
import Derived.Test.YtembccehokodeaaGreatDoorJIBack
namespace Go.Proofs.YtembccehokodeaaGreatDoor
open Go.RowKit IP
theorem innerBack_walk (F L R : Int) (H : ByteArray) (A : Option Addr) (n ca : Nat) (C : Option Addr) (m cb : Nat) (ks : List Int) (ss : List ByteArray) (p : Int) (s : ByteArray) (w : World) (hg : L7.Sizes w) (hr : Rows2 w A n ca C m cb ks ss) (hn : n ≤ maxLen) (hca : ca ≤ maxLen) (hm : m ≤ maxLen) (hH : H.size ≤ maxLen) (hs : ∀ s ∈ ss, s.size ≤ maxLen) (_hp : (Lit.int .i64 p).wf = true) (hss : s.size ≤ maxLen) :
    Calls Tryz.prog 4 #[nv F L R H A n ca C m cb, .int .i64 p, .string s] w fun e w' => e = .returned (.bool true) ∧ Below w.heap.size w w' := innerBack_any fixed_any F L R H A n ca C m cb ks ss p s w hg hr hn hca hm hH hs hss
end Go.Proofs.YtembccehokodeaaGreatDoor
