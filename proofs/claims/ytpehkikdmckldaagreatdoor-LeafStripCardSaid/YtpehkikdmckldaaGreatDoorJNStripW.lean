/-
  The walk of LeafStrip, with the laws' own fixed answers.
-/
import Derived.Test.YtpehkikdmckldaaGreatDoorJNWalks
import Derived.Test.YtpehkikdmckldaaGreatDoorJNStrip
namespace Go.Proofs.YtpehkikdmckldaaGreatDoor
open Go.RowKit NP
theorem leafStrip_walk (F R : Int) (H : ByteArray) (A : Option Addr) (l : List It) (ca : Nat) (p : Int) (w : World) (hg : Glo w) (hH : H.size ≤ maxLen) (ha : Lies5 w w.heap.size A l) (hs : ∀ x ∈ l, x.k.size ≤ maxLen ∧ x.s.size ≤ maxLen) (hl : l.length ≤ maxLen) (_hp : (Lit.int .i64 p).wf = true) :
    Calls Tryz.prog 7 #[lv F R H A l.length ca, .int .i64 p] w fun e w' => e = .returned (.bool true) ∧ Below w.heap.size w w' := leafStrip_any fixes F R H A l ca p w hg hH ha hs hl
end Go.Proofs.YtpehkikdmckldaaGreatDoor
