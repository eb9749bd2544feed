/-
  The walk of InnerEach, with the laws' own fixed answers.
-/
import Derived.Test.YtembccehokodeaaGreatDoorJIFixed
import Derived.Test.YtembccehokodeaaGreatDoorJIEachY
import Derived.Test.YtembccehokodeaaGreatDoorJIEachN
namespace Go.Proofs.YtembccehokodeaaGreatDoor
open Go.RowKit IP
theorem innerEach_walk (F L R : Int) (H : ByteArray) (A : Option Addr) (n ca : Nat) (C : Option Addr) (m cb : Nat) (ks : List Int) (ss : List ByteArray) (p : Int) (nn : Int) (w : World) (hg : L7.Sizes w) (hr : Rows2 w A n ca C m cb ks ss) (hn : n ≤ maxLen) (hca : ca ≤ maxLen) (hm : m ≤ maxLen) (hH : H.size ≤ maxLen) (hs : ∀ s ∈ ss, s.size ≤ maxLen) (_ : (Lit.int .i64 p).wf = true) (hnn : (Lit.int .u8 nn).wf = true) :
    Calls Tryz.prog 8 #[nv F L R H A n ca C m cb, .int .i64 p, .int .u8 nn] w fun e w' => e = .returned (.bool true) ∧ Below w.heap.size w w' := by
  by_cases h : May ⟨F, L, R, cutH H, ks.take 30, cutSs ss⟩ p
  · exact innerEach_yes fixed_any F L R H A n ca C m cb ks ss p nn w hg hr hn hca hm hH hs hnn h
  · exact innerEach_no fixed_any F L R H A n ca C m cb ks ss p nn w hg hr hn hca hm hH hs h
end Go.Proofs.YtembccehokodeaaGreatDoor
