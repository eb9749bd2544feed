/-
  NARROWER THAN 'FOR EVERY INPUT', by the rows' own cells (each row's printed sentence says how): InnerTells: laid · InnerBack: laid · InnerRoutes: laid · InnerTwo: laid · InnerStrip: laid · InnerEach: laid.
  DERIVED. THE GIVEN ROWS OF THIS SEAT. 6 by the template 'for every input the law returns true; each argument reads behind the call as it read before'; 0 by the template 'total and deterministic' (their statements: YtembccehokodeaaGreatDoorTotals.lean).
  GIVEN WITH THE SEED: the statements are not yours to turn. If you find one false, say at which input.
  Laid BY PROGRAM, IN A SANDBOX (cutbox-rows.mjs): the forced cells as the released guide's own fill.sh prints them over the translation 9352ae71f1866b48… (all of the seat's roots in one cut). By AI agents, Wed Nov 11 2026. No macro, syntax, notation, axiom, sorry.
-/
import Derived.Test.YtembccehokodeaaGreatDoorChecked
import GoSem.Claim
import GoSem.ClaimJoined
import GoSem.ClaimMapViews
import Derived.JoinedTies
import Derived.KernelRfl
namespace Go.Proofs.YtembccehokodeaaGreatDoor
/- THE CELL 'sum', in the pinned program and in every row, IS THE sha256 OF THE DUMP (.gsa) THAT YtembccehokodeaaGreatDoorProg.lean LOADS. Nothing in Lean hashes anything: it is a label: what it is worth is what the hold of that sum in a sandbox is worth. -/
noncomputable def Tryz.pinned : Pinned := { name := "ytembccehokodeaagreatdoor", sum := "9352ae71f1866b48c7244fec74f13477b186fc0a49518ee4a151bf5e26d1bf0c", checked := Tryz.checked }
namespace Rows
def none {H : Type} : Left H := { results := [], args := [] }

/- WHAT THE LISTED PACKAGE-LEVEL VARIABLES READ AS WHEN THE CALL BEGINS. Each datum BY PROGRAM (the guide's laid-datum.mjs) off the statement by which the dump's own 'gosem.cut.vars' lays the variable. In a bare row this is a premise. The card (YtembccehokodeaaGreatDoorCards.lean) ties it to the program's text. -/
def laid_withy_disk_sizes {H : Type} : DataW H := .agg [.lit (.int .i64 128), .lit (.int .i64 256), .lit (.int .i64 512), .lit (.int .i64 1024)]

/-- 'withylaw11.InnerTells': WHATEVER THE INPUT: true; the input reads as it did. -/
def innerTellsSpec : ChangeSpec := { name := "innerTells", fn := fun _ => fun
  | [d1, d2, d3] => { results := [.lit (.bool true)], args := [d1, d2, d3] }
  | _ => none }
def innerTellsRow : OpenClaim := { program := "ytembccehokodeaagreatdoor", sum := "9352ae71f1866b48c7244fec74f13477b186fc0a49518ee4a151bf5e26d1bf0c", func := "withy/withylaw11.InnerTells", spec := "innerTells", inPlace := ["internal/reflectlite.TypeOf", "internal/abi.NoEscape", "internal/bytealg.MakeNoZero"], unfollowed := true, recurses := true, named := ["withy/disk.sizes"], apart := false, laid := [("withy/disk.sizes", laid_withy_disk_sizes)] }
def InnerTellsSaid : Prop := innerTellsRow.holds Tryz.pinned (OpenSpec.ofChange innerTellsSpec)

/-- ITS FALSE NEIGHBOUR: 'it returns false'. Refute it at one input. -/
def innerTellsWrong : ChangeSpec := { name := "innerTells", fn := fun _ => fun
  | [d1, d2, d3] => { results := [.lit (.bool false)], args := [d1, d2, d3] }
  | _ => none }
def InnerTellsWrongFalsely : Prop := innerTellsRow.holds Tryz.pinned (OpenSpec.ofChange innerTellsWrong)

/-- 'withylaw11.InnerBack': WHATEVER THE INPUT: true; the input reads as it did. -/
def innerBackSpec : ChangeSpec := { name := "innerBack", fn := fun _ => fun
  | [d1, d2, d3] => { results := [.lit (.bool true)], args := [d1, d2, d3] }
  | _ => none }
def innerBackRow : OpenClaim := { program := "ytembccehokodeaagreatdoor", sum := "9352ae71f1866b48c7244fec74f13477b186fc0a49518ee4a151bf5e26d1bf0c", func := "withy/withylaw11.InnerBack", spec := "innerBack", inPlace := ["internal/reflectlite.TypeOf", "internal/abi.NoEscape", "internal/bytealg.MakeNoZero"], unfollowed := true, recurses := true, named := ["withy/disk.sizes"], apart := false, laid := [("withy/disk.sizes", laid_withy_disk_sizes)] }
def InnerBackSaid : Prop := innerBackRow.holds Tryz.pinned (OpenSpec.ofChange innerBackSpec)

/-- ITS FALSE NEIGHBOUR: 'it returns false'. Refute it at one input. -/
def innerBackWrong : ChangeSpec := { name := "innerBack", fn := fun _ => fun
  | [d1, d2, d3] => { results := [.lit (.bool false)], args := [d1, d2, d3] }
  | _ => none }
def InnerBackWrongFalsely : Prop := innerBackRow.holds Tryz.pinned (OpenSpec.ofChange innerBackWrong)

/-- 'withylaw11.InnerRoutes': WHATEVER THE INPUT: true; the input reads as it did. -/
def innerRoutesSpec : ChangeSpec := { name := "innerRoutes", fn := fun _ => fun
  | [d1, d2, d3] => { results := [.lit (.bool true)], args := [d1, d2, d3] }
  | _ => none }
def innerRoutesRow : OpenClaim := { program := "ytembccehokodeaagreatdoor", sum := "9352ae71f1866b48c7244fec74f13477b186fc0a49518ee4a151bf5e26d1bf0c", func := "withy/withylaw11.InnerRoutes", spec := "innerRoutes", inPlace := ["internal/reflectlite.TypeOf", "internal/abi.NoEscape", "internal/bytealg.MakeNoZero"], unfollowed := true, recurses := true, named := ["withy/disk.sizes"], apart := false, laid := [("withy/disk.sizes", laid_withy_disk_sizes)] }
def InnerRoutesSaid : Prop := innerRoutesRow.holds Tryz.pinned (OpenSpec.ofChange innerRoutesSpec)

/-- ITS FALSE NEIGHBOUR: 'it returns false'. Refute it at one input. -/
def innerRoutesWrong : ChangeSpec := { name := "innerRoutes", fn := fun _ => fun
  | [d1, d2, d3] => { results := [.lit (.bool false)], args := [d1, d2, d3] }
  | _ => none }
def InnerRoutesWrongFalsely : Prop := innerRoutesRow.holds Tryz.pinned (OpenSpec.ofChange innerRoutesWrong)

/-- 'withylaw11.InnerTwo': WHATEVER THE INPUT: true; the input reads as it did. -/
def innerTwoSpec : ChangeSpec := { name := "innerTwo", fn := fun _ => fun
  | [d1, d2] => { results := [.lit (.bool true)], args := [d1, d2] }
  | _ => none }
def innerTwoRow : OpenClaim := { program := "ytembccehokodeaagreatdoor", sum := "9352ae71f1866b48c7244fec74f13477b186fc0a49518ee4a151bf5e26d1bf0c", func := "withy/withylaw11.InnerTwo", spec := "innerTwo", inPlace := ["internal/reflectlite.TypeOf", "internal/abi.NoEscape", "internal/bytealg.MakeNoZero"], unfollowed := true, recurses := true, named := ["withy/disk.sizes"], apart := false, laid := [("withy/disk.sizes", laid_withy_disk_sizes)] }
def InnerTwoSaid : Prop := innerTwoRow.holds Tryz.pinned (OpenSpec.ofChange innerTwoSpec)

/-- ITS FALSE NEIGHBOUR: 'it returns false'. Refute it at one input. -/
def innerTwoWrong : ChangeSpec := { name := "innerTwo", fn := fun _ => fun
  | [d1, d2] => { results := [.lit (.bool false)], args := [d1, d2] }
  | _ => none }
def InnerTwoWrongFalsely : Prop := innerTwoRow.holds Tryz.pinned (OpenSpec.ofChange innerTwoWrong)

/-- 'withylaw11.InnerStrip': WHATEVER THE INPUT: true; the input reads as it did. -/
def innerStripSpec : ChangeSpec := { name := "innerStrip", fn := fun _ => fun
  | [d1, d2] => { results := [.lit (.bool true)], args := [d1, d2] }
  | _ => none }
def innerStripRow : OpenClaim := { program := "ytembccehokodeaagreatdoor", sum := "9352ae71f1866b48c7244fec74f13477b186fc0a49518ee4a151bf5e26d1bf0c", func := "withy/withylaw11.InnerStrip", spec := "innerStrip", inPlace := ["internal/reflectlite.TypeOf", "internal/abi.NoEscape", "internal/bytealg.MakeNoZero"], unfollowed := true, recurses := true, named := ["withy/disk.sizes"], apart := false, laid := [("withy/disk.sizes", laid_withy_disk_sizes)] }
def InnerStripSaid : Prop := innerStripRow.holds Tryz.pinned (OpenSpec.ofChange innerStripSpec)

/-- ITS FALSE NEIGHBOUR: 'it returns false'. Refute it at one input. -/
def innerStripWrong : ChangeSpec := { name := "innerStrip", fn := fun _ => fun
  | [d1, d2] => { results := [.lit (.bool false)], args := [d1, d2] }
  | _ => none }
def InnerStripWrongFalsely : Prop := innerStripRow.holds Tryz.pinned (OpenSpec.ofChange innerStripWrong)

/-- 'withylaw11.InnerEach': WHATEVER THE INPUT: true; the input reads as it did. -/
def innerEachSpec : ChangeSpec := { name := "innerEach", fn := fun _ => fun
  | [d1, d2, d3] => { results := [.lit (.bool true)], args := [d1, d2, d3] }
  | _ => none }
def innerEachRow : OpenClaim := { program := "ytembccehokodeaagreatdoor", sum := "9352ae71f1866b48c7244fec74f13477b186fc0a49518ee4a151bf5e26d1bf0c", func := "withy/withylaw11.InnerEach", spec := "innerEach", inPlace := ["internal/reflectlite.TypeOf", "internal/abi.NoEscape", "internal/bytealg.MakeNoZero"], unfollowed := true, recurses := true, named := ["withy/disk.sizes"], apart := false, laid := [("withy/disk.sizes", laid_withy_disk_sizes)] }
def InnerEachSaid : Prop := innerEachRow.holds Tryz.pinned (OpenSpec.ofChange innerEachSpec)

/-- ITS FALSE NEIGHBOUR: 'it returns false'. Refute it at one input. -/
def innerEachWrong : ChangeSpec := { name := "innerEach", fn := fun _ => fun
  | [d1, d2, d3] => { results := [.lit (.bool false)], args := [d1, d2, d3] }
  | _ => none }
def InnerEachWrongFalsely : Prop := innerEachRow.holds Tryz.pinned (OpenSpec.ofChange innerEachWrong)

/- THE SECOND FORM. 'bulk': how many values and letters a reading holds, each counted each time it is reached (what is shared counts as often as it is met; a slice's spare places count too). A statement '..UptoSaid' is the law's where the arguments, and the package variables that the reading takes, are together of bulk at most 1048576: NARROWER than '..Said'. Prove '..Said' where nothing that the law and all that it calls make is longer than what came in: it says more and counts as full. Else prove '..UptoSaid'. A law counts once. -/
mutual
def uptoBulk {H : Type} : DataW H → Nat
  | .lit (.string bytes) => bytes.length + 1
  | .lit _ => 1
  | .nil => 1
  | .ptr d => uptoBulk d + 1
  | .slice elems spare => uptoBulkAll elems + uptoBulkAll spare + 1
  | .agg parts => uptoBulkAll parts + 1
  | .iface _ d => uptoBulk d + 1
  | .map entries => uptoBulkEntries entries + 1
  | .held _ => 1
def uptoBulkAll {H : Type} : List (DataW H) → Nat
  | [] => 0
  | d :: r => uptoBulk d + uptoBulkAll r
def uptoBulkEntries {H : Type} : List (Lit × DataW H) → Nat
  | [] => 0
  | x :: r => uptoBulkEntry x + uptoBulkEntries r
def uptoBulkEntry {H : Type} : Lit × DataW H → Nat
  | (.string bytes, d) => bytes.length + uptoBulk d + 1
  | (_, d) => uptoBulk d + 1
 end
def uptoSmall : (H : Type) → List (DataW H) → Bool := fun _ ds => decide (uptoBulkAll ds ≤ 1048576)
def OpenSpec.upto (s : _root_.Go.ChangeSpec) : _root_.Go.OpenSpec := { _root_.Go.OpenSpec.ofChange s with cond := some uptoSmall }

/-- 'withylaw11.InnerTells', WHERE WHAT IT READS IS OF BULK AT MOST 1048576: true; the input reads as it did. -/
def innerTellsUptoRow : OpenClaim := { program := "ytembccehokodeaagreatdoor", sum := "9352ae71f1866b48c7244fec74f13477b186fc0a49518ee4a151bf5e26d1bf0c", func := "withy/withylaw11.InnerTells", spec := "innerTells", inPlace := ["internal/reflectlite.TypeOf", "internal/abi.NoEscape", "internal/bytealg.MakeNoZero"], unfollowed := true, recurses := true, named := ["withy/disk.sizes"], apart := false, laid := [("withy/disk.sizes", laid_withy_disk_sizes)], narrowed := true }
def InnerTellsUptoSaid : Prop := innerTellsUptoRow.holds Tryz.pinned (OpenSpec.upto innerTellsSpec)

/-- 'withylaw11.InnerBack', WHERE WHAT IT READS IS OF BULK AT MOST 1048576: true; the input reads as it did. -/
def innerBackUptoRow : OpenClaim := { program := "ytembccehokodeaagreatdoor", sum := "9352ae71f1866b48c7244fec74f13477b186fc0a49518ee4a151bf5e26d1bf0c", func := "withy/withylaw11.InnerBack", spec := "innerBack", inPlace := ["internal/reflectlite.TypeOf", "internal/abi.NoEscape", "internal/bytealg.MakeNoZero"], unfollowed := true, recurses := true, named := ["withy/disk.sizes"], apart := false, laid := [("withy/disk.sizes", laid_withy_disk_sizes)], narrowed := true }
def InnerBackUptoSaid : Prop := innerBackUptoRow.holds Tryz.pinned (OpenSpec.upto innerBackSpec)

/-- 'withylaw11.InnerRoutes', WHERE WHAT IT READS IS OF BULK AT MOST 1048576: true; the input reads as it did. -/
def innerRoutesUptoRow : OpenClaim := { program := "ytembccehokodeaagreatdoor", sum := "9352ae71f1866b48c7244fec74f13477b186fc0a49518ee4a151bf5e26d1bf0c", func := "withy/withylaw11.InnerRoutes", spec := "innerRoutes", inPlace := ["internal/reflectlite.TypeOf", "internal/abi.NoEscape", "internal/bytealg.MakeNoZero"], unfollowed := true, recurses := true, named := ["withy/disk.sizes"], apart := false, laid := [("withy/disk.sizes", laid_withy_disk_sizes)], narrowed := true }
def InnerRoutesUptoSaid : Prop := innerRoutesUptoRow.holds Tryz.pinned (OpenSpec.upto innerRoutesSpec)

/-- 'withylaw11.InnerTwo', WHERE WHAT IT READS IS OF BULK AT MOST 1048576: true; the input reads as it did. -/
def innerTwoUptoRow : OpenClaim := { program := "ytembccehokodeaagreatdoor", sum := "9352ae71f1866b48c7244fec74f13477b186fc0a49518ee4a151bf5e26d1bf0c", func := "withy/withylaw11.InnerTwo", spec := "innerTwo", inPlace := ["internal/reflectlite.TypeOf", "internal/abi.NoEscape", "internal/bytealg.MakeNoZero"], unfollowed := true, recurses := true, named := ["withy/disk.sizes"], apart := false, laid := [("withy/disk.sizes", laid_withy_disk_sizes)], narrowed := true }
def InnerTwoUptoSaid : Prop := innerTwoUptoRow.holds Tryz.pinned (OpenSpec.upto innerTwoSpec)

/-- 'withylaw11.InnerStrip', WHERE WHAT IT READS IS OF BULK AT MOST 1048576: true; the input reads as it did. -/
def innerStripUptoRow : OpenClaim := { program := "ytembccehokodeaagreatdoor", sum := "9352ae71f1866b48c7244fec74f13477b186fc0a49518ee4a151bf5e26d1bf0c", func := "withy/withylaw11.InnerStrip", spec := "innerStrip", inPlace := ["internal/reflectlite.TypeOf", "internal/abi.NoEscape", "internal/bytealg.MakeNoZero"], unfollowed := true, recurses := true, named := ["withy/disk.sizes"], apart := false, laid := [("withy/disk.sizes", laid_withy_disk_sizes)], narrowed := true }
def InnerStripUptoSaid : Prop := innerStripUptoRow.holds Tryz.pinned (OpenSpec.upto innerStripSpec)

/-- 'withylaw11.InnerEach', WHERE WHAT IT READS IS OF BULK AT MOST 1048576: true; the input reads as it did. -/
def innerEachUptoRow : OpenClaim := { program := "ytembccehokodeaagreatdoor", sum := "9352ae71f1866b48c7244fec74f13477b186fc0a49518ee4a151bf5e26d1bf0c", func := "withy/withylaw11.InnerEach", spec := "innerEach", inPlace := ["internal/reflectlite.TypeOf", "internal/abi.NoEscape", "internal/bytealg.MakeNoZero"], unfollowed := true, recurses := true, named := ["withy/disk.sizes"], apart := false, laid := [("withy/disk.sizes", laid_withy_disk_sizes)], narrowed := true }
def InnerEachUptoSaid : Prop := innerEachUptoRow.holds Tryz.pinned (OpenSpec.upto innerEachSpec)

end Rows
end Go.Proofs.YtembccehokodeaaGreatDoor
