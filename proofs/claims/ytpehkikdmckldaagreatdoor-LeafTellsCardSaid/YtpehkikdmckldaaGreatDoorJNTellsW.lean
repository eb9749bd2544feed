/-
  The walk of LeafTells, with the laws' own fixed answers.
-/
import Derived.Test.YtpehkikdmckldaaGreatDoorJNWalks
import Derived.Test.YtpehkikdmckldaaGreatDoorJNTellsT
import Derived.Test.YtpehkikdmckldaaGreatDoorJNTellsN
namespace Go.Proofs.YtpehkikdmckldaaGreatDoor
open Go.RowKit NP
theorem leafTells_walk (F R : Int) (H : ByteArray) (A : Option Addr) (l : List It) (ca : Nat) (p : Int) (s key : ByteArray) (w : World) (hg : Glo w) (hH : H.size ≤ maxLen) (ha : Lies5 w w.heap.size A l) (hs : ∀ x ∈ l, x.k.size ≤ maxLen ∧ x.s.size ≤ maxLen) (hl : l.length ≤ maxLen) (hp : (Lit.int .i64 p).wf = true) (hss : s.size ≤ maxLen) (_hk : key.size ≤ maxLen) :
    Calls Tryz.prog 3 #[lv F R H A l.length ca, .int .i64 p, .agg #[.string s, .string key]] w fun e w' => e = .returned (.bool true) ∧ Below w.heap.size w w' := by
  by_cases hm : May ⟨F, R, cutH H, cut20 l⟩ p
  · exact leafTells_yes fixes F R H A l ca p s key w hg hH ha hs hl hp hss hm
  · exact leafTells_no fixes F R H A l ca p s key w hg hH ha hs hl hp hss hm
end Go.Proofs.YtpehkikdmckldaaGreatDoor
