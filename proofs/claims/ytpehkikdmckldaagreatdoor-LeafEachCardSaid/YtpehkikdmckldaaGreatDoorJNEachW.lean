/-
  The walk of LeafEach, with the laws' own fixed answers.
-/
import Derived.Test.YtpehkikdmckldaaGreatDoorJNWalks
import Derived.Test.YtpehkikdmckldaaGreatDoorJNEachY
import Derived.Test.YtpehkikdmckldaaGreatDoorJNEachN
namespace Go.Proofs.YtpehkikdmckldaaGreatDoor
open Go.RowKit NP
theorem leafEach_walk (F R : Int) (H : ByteArray) (A : Option Addr) (l : List It) (ca : Nat) (p : Int) (nn : Int) (w : World) (hg : Glo w) (hH : H.size ≤ maxLen) (ha : Lies5 w w.heap.size A l) (hs : ∀ x ∈ l, x.k.size ≤ maxLen ∧ x.s.size ≤ maxLen) (hl : l.length ≤ maxLen) (hp : (Lit.int .i64 p).wf = true) (hnn : (Lit.int .u8 nn).wf = true) :
    Calls Tryz.prog 8 #[lv F R H A l.length ca, .int .i64 p, .int .u8 nn] w fun e w' => e = .returned (.bool true) ∧ Below w.heap.size w w' := by
  by_cases hm : May ⟨F, R, cutH H, cut20 l⟩ p
  · exact leafEach_yes fixes F R H A l ca p nn w hg hH ha hs hl hp hnn hm
  · exact leafEach_no fixes F R H A l ca p nn w hg hH ha hs hl hp hnn hm
end Go.Proofs.YtpehkikdmckldaaGreatDoor
