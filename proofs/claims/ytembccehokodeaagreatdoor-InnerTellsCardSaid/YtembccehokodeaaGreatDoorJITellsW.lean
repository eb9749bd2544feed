/-
  The walk of InnerTells, with the laws' own fixed answers.
-/
import Derived.Test.YtembccehokodeaaGreatDoorJIFixed
import Derived.Test.YtembccehokodeaaGreatDoorJITells
namespace Go.Proofs.YtembccehokodeaaGreatDoor
open Go.RowKit IP
theorem innerTells_walk (F L R : Int) (H : ByteArray) (A : Option Addr) (n ca : Nat) (C : Option Addr) (m cb : Nat) (ks : List Int) (ss : List ByteArray) (p : Int) (s k : ByteArray) (i : Int) (w : World) (hg : L7.Sizes w) (hr : Rows2 w A n ca C m cb ks ss) (hn : n ≤ maxLen) (hca : ca ≤ maxLen) (hm : m ≤ maxLen) (hH : H.size ≤ maxLen) (hs : ∀ s ∈ ss, s.size ≤ maxLen) (hp : (Lit.int .i64 p).wf = true) (hss : s.size ≤ maxLen) (hk : k.size ≤ maxLen) (hi : (Lit.int .i64 i).wf = true) :
    Calls Tryz.prog 3 #[nv F L R H A n ca C m cb, .int .i64 p, .agg #[.string s, .string k, .int .i64 i]] w fun e w' => e = .returned (.bool true) ∧ Below w.heap.size w w' := innerTells_any fixed_any F L R H A n ca C m cb ks ss p s k i w hg hr hn hca hm hH hs hss hk hp hi
end Go.Proofs.YtembccehokodeaaGreatDoor
