/-
  NARROWER THAN 'FOR EVERY INPUT', by the rows' own cells (each row's printed sentence says how): HeadTells: laid · HeadBack: laid · HeadBurst: laid · HeadFields: laid · HeadSides: laid · HeadSpare: laid.
  DERIVED. THE GIVEN ROWS OF THIS SEAT. 6 by the template 'for every input the law returns true; each argument reads behind the call as it read before'; 0 by the template 'total and deterministic' (their statements: YtklmmkcbogcbaaaDoorTotals.lean).
  GIVEN WITH THE SEED: the statements are not yours to turn. If you find one false, say at which input.
  Laid BY PROGRAM, IN A SANDBOX (cutbox-rows.mjs): the forced cells as the released guide's own fill.sh prints them over the translation 6dab4b46e07aa4d0… (all of the seat's roots in one cut). By AI agents, Wed Nov 11 2026. No macro, syntax, notation, axiom, sorry.
-/
import Derived.Test.YtklmmkcbogcbaaaDoorChecked
import GoSem.Claim
import GoSem.ClaimJoined
import GoSem.ClaimMapViews
import Derived.JoinedTies
import Derived.KernelRfl
namespace Go.Proofs.YtklmmkcbogcbaaaDoor
/- THE CELL 'sum', in the pinned program and in every row, IS THE sha256 OF THE DUMP (.gsa) THAT YtklmmkcbogcbaaaDoorProg.lean LOADS. Nothing in Lean hashes anything: it is a label: what it is worth is what the hold of that sum in a sandbox is worth. -/
noncomputable def Tryd.pinned : Pinned := { name := "ytklmmkcbogcbaaadoor", sum := "6dab4b46e07aa4d0a75301b95ec3933db8fb4531be8552a4ef9fb24aeaae0940", checked := Tryd.checked }
namespace Rows
def none {H : Type} : Left H := { results := [], args := [] }

/- WHAT THE LISTED PACKAGE-LEVEL VARIABLES READ AS WHEN THE CALL BEGINS. Each datum BY PROGRAM (the guide's laid-datum.mjs) off the statement by which the dump's own 'gosem.cut.vars' lays the variable. In a bare row this is a premise. The card (YtklmmkcbogcbaaaDoorCards.lean) ties it to the program's text. -/
def laid_withy_disk_sizes {H : Type} : DataW H := .agg [.lit (.int .i64 128), .lit (.int .i64 256), .lit (.int .i64 512), .lit (.int .i64 1024)]

/-- 'withylaw07.HeadTells': WHATEVER THE INPUT: true; the input reads as it did. -/
def headTellsSpec : ChangeSpec := { name := "headTells", fn := fun _ => fun
  | [d1, d2, d3] => { results := [.lit (.bool true)], args := [d1, d2, d3] }
  | _ => none }
def headTellsRow : OpenClaim := { program := "ytklmmkcbogcbaaadoor", sum := "6dab4b46e07aa4d0a75301b95ec3933db8fb4531be8552a4ef9fb24aeaae0940", func := "withy/withylaw07.HeadTells", spec := "headTells", inPlace := ["internal/reflectlite.TypeOf", "internal/abi.NoEscape", "internal/bytealg.MakeNoZero"], unfollowed := true, recurses := true, named := ["withy/disk.sizes"], apart := false, laid := [("withy/disk.sizes", laid_withy_disk_sizes)] }
def HeadTellsSaid : Prop := headTellsRow.holds Tryd.pinned (OpenSpec.ofChange headTellsSpec)

/-- ITS FALSE NEIGHBOUR: 'it returns false'. Refute it at one input. -/
def headTellsWrong : ChangeSpec := { name := "headTells", fn := fun _ => fun
  | [d1, d2, d3] => { results := [.lit (.bool false)], args := [d1, d2, d3] }
  | _ => none }
def HeadTellsWrongFalsely : Prop := headTellsRow.holds Tryd.pinned (OpenSpec.ofChange headTellsWrong)

/-- 'withylaw07.HeadBack': WHATEVER THE INPUT: true; the input reads as it did. -/
def headBackSpec : ChangeSpec := { name := "headBack", fn := fun _ => fun
  | [d1, d2, d3] => { results := [.lit (.bool true)], args := [d1, d2, d3] }
  | _ => none }
def headBackRow : OpenClaim := { program := "ytklmmkcbogcbaaadoor", sum := "6dab4b46e07aa4d0a75301b95ec3933db8fb4531be8552a4ef9fb24aeaae0940", func := "withy/withylaw07.HeadBack", spec := "headBack", inPlace := ["internal/reflectlite.TypeOf", "internal/abi.NoEscape", "internal/bytealg.MakeNoZero"], unfollowed := true, recurses := true, named := ["withy/disk.sizes"], apart := false, laid := [("withy/disk.sizes", laid_withy_disk_sizes)] }
def HeadBackSaid : Prop := headBackRow.holds Tryd.pinned (OpenSpec.ofChange headBackSpec)

/-- ITS FALSE NEIGHBOUR: 'it returns false'. Refute it at one input. -/
def headBackWrong : ChangeSpec := { name := "headBack", fn := fun _ => fun
  | [d1, d2, d3] => { results := [.lit (.bool false)], args := [d1, d2, d3] }
  | _ => none }
def HeadBackWrongFalsely : Prop := headBackRow.holds Tryd.pinned (OpenSpec.ofChange headBackWrong)

/-- 'withylaw07.HeadBurst': WHATEVER THE INPUT: true; the input reads as it did. -/
def headBurstSpec : ChangeSpec := { name := "headBurst", fn := fun _ => fun
  | [d1, d2, d3] => { results := [.lit (.bool true)], args := [d1, d2, d3] }
  | _ => none }
def headBurstRow : OpenClaim := { program := "ytklmmkcbogcbaaadoor", sum := "6dab4b46e07aa4d0a75301b95ec3933db8fb4531be8552a4ef9fb24aeaae0940", func := "withy/withylaw07.HeadBurst", spec := "headBurst", inPlace := ["internal/reflectlite.TypeOf", "internal/abi.NoEscape", "internal/bytealg.MakeNoZero"], unfollowed := true, recurses := true, named := ["withy/disk.sizes"], apart := false, laid := [("withy/disk.sizes", laid_withy_disk_sizes)] }
def HeadBurstSaid : Prop := headBurstRow.holds Tryd.pinned (OpenSpec.ofChange headBurstSpec)

/-- ITS FALSE NEIGHBOUR: 'it returns false'. Refute it at one input. -/
def headBurstWrong : ChangeSpec := { name := "headBurst", fn := fun _ => fun
  | [d1, d2, d3] => { results := [.lit (.bool false)], args := [d1, d2, d3] }
  | _ => none }
def HeadBurstWrongFalsely : Prop := headBurstRow.holds Tryd.pinned (OpenSpec.ofChange headBurstWrong)

/-- 'withylaw07.HeadFields': WHATEVER THE INPUT: true; the input reads as it did. -/
def headFieldsSpec : ChangeSpec := { name := "headFields", fn := fun _ => fun
  | [d1, d2] => { results := [.lit (.bool true)], args := [d1, d2] }
  | _ => none }
def headFieldsRow : OpenClaim := { program := "ytklmmkcbogcbaaadoor", sum := "6dab4b46e07aa4d0a75301b95ec3933db8fb4531be8552a4ef9fb24aeaae0940", func := "withy/withylaw07.HeadFields", spec := "headFields", inPlace := ["internal/reflectlite.TypeOf", "internal/abi.NoEscape", "internal/bytealg.MakeNoZero"], unfollowed := true, recurses := true, named := ["withy/disk.sizes"], apart := false, laid := [("withy/disk.sizes", laid_withy_disk_sizes)] }
def HeadFieldsSaid : Prop := headFieldsRow.holds Tryd.pinned (OpenSpec.ofChange headFieldsSpec)

/-- ITS FALSE NEIGHBOUR: 'it returns false'. Refute it at one input. -/
def headFieldsWrong : ChangeSpec := { name := "headFields", fn := fun _ => fun
  | [d1, d2] => { results := [.lit (.bool false)], args := [d1, d2] }
  | _ => none }
def HeadFieldsWrongFalsely : Prop := headFieldsRow.holds Tryd.pinned (OpenSpec.ofChange headFieldsWrong)

/-- 'withylaw07.HeadSides': WHATEVER THE INPUT: true; the input reads as it did. -/
def headSidesSpec : ChangeSpec := { name := "headSides", fn := fun _ => fun
  | [d1, d2, d3] => { results := [.lit (.bool true)], args := [d1, d2, d3] }
  | _ => none }
def headSidesRow : OpenClaim := { program := "ytklmmkcbogcbaaadoor", sum := "6dab4b46e07aa4d0a75301b95ec3933db8fb4531be8552a4ef9fb24aeaae0940", func := "withy/withylaw07.HeadSides", spec := "headSides", inPlace := ["internal/reflectlite.TypeOf", "internal/abi.NoEscape", "internal/bytealg.MakeNoZero"], unfollowed := true, recurses := true, named := ["withy/disk.sizes"], apart := false, laid := [("withy/disk.sizes", laid_withy_disk_sizes)] }
def HeadSidesSaid : Prop := headSidesRow.holds Tryd.pinned (OpenSpec.ofChange headSidesSpec)

/-- ITS FALSE NEIGHBOUR: 'it returns false'. Refute it at one input. -/
def headSidesWrong : ChangeSpec := { name := "headSides", fn := fun _ => fun
  | [d1, d2, d3] => { results := [.lit (.bool false)], args := [d1, d2, d3] }
  | _ => none }
def HeadSidesWrongFalsely : Prop := headSidesRow.holds Tryd.pinned (OpenSpec.ofChange headSidesWrong)

/-- 'withylaw07.HeadSpare': WHATEVER THE INPUT: true; the input reads as it did. -/
def headSpareSpec : ChangeSpec := { name := "headSpare", fn := fun _ => fun
  | [d1, d2, d3] => { results := [.lit (.bool true)], args := [d1, d2, d3] }
  | _ => none }
def headSpareRow : OpenClaim := { program := "ytklmmkcbogcbaaadoor", sum := "6dab4b46e07aa4d0a75301b95ec3933db8fb4531be8552a4ef9fb24aeaae0940", func := "withy/withylaw07.HeadSpare", spec := "headSpare", inPlace := ["internal/reflectlite.TypeOf", "internal/abi.NoEscape", "internal/bytealg.MakeNoZero"], unfollowed := true, recurses := true, named := ["withy/disk.sizes"], apart := false, laid := [("withy/disk.sizes", laid_withy_disk_sizes)] }
def HeadSpareSaid : Prop := headSpareRow.holds Tryd.pinned (OpenSpec.ofChange headSpareSpec)

/-- ITS FALSE NEIGHBOUR: 'it returns false'. Refute it at one input. -/
def headSpareWrong : ChangeSpec := { name := "headSpare", fn := fun _ => fun
  | [d1, d2, d3] => { results := [.lit (.bool false)], args := [d1, d2, d3] }
  | _ => none }
def HeadSpareWrongFalsely : Prop := headSpareRow.holds Tryd.pinned (OpenSpec.ofChange headSpareWrong)

/- THE SECOND FORM. 'bulk': how many values and letters a reading holds, each counted each time it is reached (what is shared counts as often as it is met; a slice's spare places count too). A statement '..UptoSaid' is the law's where the arguments, and the package variables that the reading takes, are together of bulk at most 1048576: NARROWER than '..Said'. Prove '..Said' where nothing that the law and all that it calls make is longer than what came in: it says more and counts as full. Else prove '..UptoSaid'. A law counts once. -/
mutual
def uptoBulk {H : Type} : DataW H → Nat
  | .lit (.string bytes) => bytes.length + 1
  | .lit _ => 1
  | .nil => 1
  | .ptr d => uptoBulk d + 1
  | .slice elems spare => uptoBulkAll elems + uptoBulkAll spare + 1
  | .agg parts => uptoBulkAll parts + 1
  | .iface _ d => uptoBulk d + 1
  | .map entries => uptoBulkEntries entries + 1
  | .held _ => 1
def uptoBulkAll {H : Type} : List (DataW H) → Nat
  | [] => 0
  | d :: r => uptoBulk d + uptoBulkAll r
def uptoBulkEntries {H : Type} : List (Lit × DataW H) → Nat
  | [] => 0
  | x :: r => uptoBulkEntry x + uptoBulkEntries r
def uptoBulkEntry {H : Type} : Lit × DataW H → Nat
  | (.string bytes, d) => bytes.length + uptoBulk d + 1
  | (_, d) => uptoBulk d + 1
 end
def uptoSmall : (H : Type) → List (DataW H) → Bool := fun _ ds => decide (uptoBulkAll ds ≤ 1048576)
def OpenSpec.upto (s : _root_.Go.ChangeSpec) : _root_.Go.OpenSpec := { _root_.Go.OpenSpec.ofChange s with cond := some uptoSmall }

/-- 'withylaw07.HeadTells', WHERE WHAT IT READS IS OF BULK AT MOST 1048576: true; the input reads as it did. -/
def headTellsUptoRow : OpenClaim := { program := "ytklmmkcbogcbaaadoor", sum := "6dab4b46e07aa4d0a75301b95ec3933db8fb4531be8552a4ef9fb24aeaae0940", func := "withy/withylaw07.HeadTells", spec := "headTells", inPlace := ["internal/reflectlite.TypeOf", "internal/abi.NoEscape", "internal/bytealg.MakeNoZero"], unfollowed := true, recurses := true, named := ["withy/disk.sizes"], apart := false, laid := [("withy/disk.sizes", laid_withy_disk_sizes)], narrowed := true }
def HeadTellsUptoSaid : Prop := headTellsUptoRow.holds Tryd.pinned (OpenSpec.upto headTellsSpec)

/-- 'withylaw07.HeadBack', WHERE WHAT IT READS IS OF BULK AT MOST 1048576: true; the input reads as it did. -/
def headBackUptoRow : OpenClaim := { program := "ytklmmkcbogcbaaadoor", sum := "6dab4b46e07aa4d0a75301b95ec3933db8fb4531be8552a4ef9fb24aeaae0940", func := "withy/withylaw07.HeadBack", spec := "headBack", inPlace := ["internal/reflectlite.TypeOf", "internal/abi.NoEscape", "internal/bytealg.MakeNoZero"], unfollowed := true, recurses := true, named := ["withy/disk.sizes"], apart := false, laid := [("withy/disk.sizes", laid_withy_disk_sizes)], narrowed := true }
def HeadBackUptoSaid : Prop := headBackUptoRow.holds Tryd.pinned (OpenSpec.upto headBackSpec)

/-- 'withylaw07.HeadBurst', WHERE WHAT IT READS IS OF BULK AT MOST 1048576: true; the input reads as it did. -/
def headBurstUptoRow : OpenClaim := { program := "ytklmmkcbogcbaaadoor", sum := "6dab4b46e07aa4d0a75301b95ec3933db8fb4531be8552a4ef9fb24aeaae0940", func := "withy/withylaw07.HeadBurst", spec := "headBurst", inPlace := ["internal/reflectlite.TypeOf", "internal/abi.NoEscape", "internal/bytealg.MakeNoZero"], unfollowed := true, recurses := true, named := ["withy/disk.sizes"], apart := false, laid := [("withy/disk.sizes", laid_withy_disk_sizes)], narrowed := true }
def HeadBurstUptoSaid : Prop := headBurstUptoRow.holds Tryd.pinned (OpenSpec.upto headBurstSpec)

/-- 'withylaw07.HeadFields', WHERE WHAT IT READS IS OF BULK AT MOST 1048576: true; the input reads as it did. -/
def headFieldsUptoRow : OpenClaim := { program := "ytklmmkcbogcbaaadoor", sum := "6dab4b46e07aa4d0a75301b95ec3933db8fb4531be8552a4ef9fb24aeaae0940", func := "withy/withylaw07.HeadFields", spec := "headFields", inPlace := ["internal/reflectlite.TypeOf", "internal/abi.NoEscape", "internal/bytealg.MakeNoZero"], unfollowed := true, recurses := true, named := ["withy/disk.sizes"], apart := false, laid := [("withy/disk.sizes", laid_withy_disk_sizes)], narrowed := true }
def HeadFieldsUptoSaid : Prop := headFieldsUptoRow.holds Tryd.pinned (OpenSpec.upto headFieldsSpec)

/-- 'withylaw07.HeadSides', WHERE WHAT IT READS IS OF BULK AT MOST 1048576: true; the input reads as it did. -/
def headSidesUptoRow : OpenClaim := { program := "ytklmmkcbogcbaaadoor", sum := "6dab4b46e07aa4d0a75301b95ec3933db8fb4531be8552a4ef9fb24aeaae0940", func := "withy/withylaw07.HeadSides", spec := "headSides", inPlace := ["internal/reflectlite.TypeOf", "internal/abi.NoEscape", "internal/bytealg.MakeNoZero"], unfollowed := true, recurses := true, named := ["withy/disk.sizes"], apart := false, laid := [("withy/disk.sizes", laid_withy_disk_sizes)], narrowed := true }
def HeadSidesUptoSaid : Prop := headSidesUptoRow.holds Tryd.pinned (OpenSpec.upto headSidesSpec)

/-- 'withylaw07.HeadSpare', WHERE WHAT IT READS IS OF BULK AT MOST 1048576: true; the input reads as it did. -/
def headSpareUptoRow : OpenClaim := { program := "ytklmmkcbogcbaaadoor", sum := "6dab4b46e07aa4d0a75301b95ec3933db8fb4531be8552a4ef9fb24aeaae0940", func := "withy/withylaw07.HeadSpare", spec := "headSpare", inPlace := ["internal/reflectlite.TypeOf", "internal/abi.NoEscape", "internal/bytealg.MakeNoZero"], unfollowed := true, recurses := true, named := ["withy/disk.sizes"], apart := false, laid := [("withy/disk.sizes", laid_withy_disk_sizes)], narrowed := true }
def HeadSpareUptoSaid : Prop := headSpareUptoRow.holds Tryd.pinned (OpenSpec.upto headSpareSpec)

end Rows
end Go.Proofs.YtklmmkcbogcbaaaDoor
