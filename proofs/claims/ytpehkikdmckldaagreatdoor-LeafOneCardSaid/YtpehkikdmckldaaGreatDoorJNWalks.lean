/-
  The walks of LeafOne, LeafBack, LeafRise, with the laws' own fixed answers.
-/
import Derived.Test.YtpehkikdmckldaaGreatDoorJNFixed
import Derived.Test.YtpehkikdmckldaaGreatDoorJNOne
import Derived.Test.YtpehkikdmckldaaGreatDoorJNBack
import Derived.Test.YtpehkikdmckldaaGreatDoorJNRise
namespace Go.Proofs.YtpehkikdmckldaaGreatDoor
open Go.RowKit NP
theorem fixes : Fixes := fun W h => fixed_any W h
theorem leafOne_walk (F R : Int) (H : ByteArray) (A : Option Addr) (l : List It) (ca : Nat) (p : Int) (w : World) (hg : Glo w) (hH : H.size ≤ maxLen) (ha : Lies5 w w.heap.size A l) (hs : ∀ x ∈ l, x.k.size ≤ maxLen ∧ x.s.size ≤ maxLen) (hl : l.length ≤ maxLen) (_hp : (Lit.int .i64 p).wf = true) :
    Calls Tryz.prog 5 #[lv F R H A l.length ca, .int .i64 p] w fun e w' => e = .returned (.bool true) ∧ Below w.heap.size w w' := leafOne_any fixes F R H A l ca p w hg hH ha hs hl
theorem leafBack_walk (F R : Int) (H : ByteArray) (A : Option Addr) (l : List It) (ca : Nat) (p : Int) (s : ByteArray) (w : World) (hg : Glo w) (hH : H.size ≤ maxLen) (ha : Lies5 w w.heap.size A l) (hs : ∀ x ∈ l, x.k.size ≤ maxLen ∧ x.s.size ≤ maxLen) (hl : l.length ≤ maxLen) (_hp : (Lit.int .i64 p).wf = true) (hss : s.size ≤ maxLen) :
    Calls Tryz.prog 4 #[lv F R H A l.length ca, .int .i64 p, .string s] w fun e w' => e = .returned (.bool true) ∧ Below w.heap.size w w' := leafBack_any fixes F R H A l ca p s w hg hH ha hs hl hss
theorem leafRise_walk (s key : ByteArray) (w : World) (hg : Glo w) (hs : s.size ≤ maxLen) (_hk : key.size ≤ maxLen) :
    Calls Tryz.prog 6 #[.string s, .string key] w fun e w' => e = .returned (.bool true) ∧ Below w.heap.size w w' := leafRise_any fixes s key w hg hs
end Go.Proofs.YtpehkikdmckldaaGreatDoor
