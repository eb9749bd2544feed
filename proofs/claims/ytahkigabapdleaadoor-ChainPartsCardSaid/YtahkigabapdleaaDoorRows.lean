/-
  NARROWER THAN 'FOR EVERY INPUT', by the rows' own cells (each row's printed sentence says how): ChainTells: laid · ChainBack: laid · ChainParts: laid · ChainPages: laid · ChainEach: laid · ChainLast: laid.
  DERIVED. THE GIVEN ROWS OF THIS SEAT. 6 by the template 'for every input the law returns true; each argument reads behind the call as it read before'; 0 by the template 'total and deterministic' (their statements: YtahkigabapdleaaDoorTotals.lean).
  GIVEN WITH THE SEED: the statements are not yours to turn. If you find one false, say at which input.
  Laid BY PROGRAM, IN A SANDBOX (cutbox-rows.mjs): the forced cells as the released guide's own fill.sh prints them over the translation 03a97a3336a1caf9… (all of the seat's roots in one cut). By AI agents, Wed Nov 11 2026. No macro, syntax, notation, axiom, sorry.
-/
import Derived.Test.YtahkigabapdleaaDoorChecked
import GoSem.Claim
import GoSem.ClaimJoined
import GoSem.ClaimMapViews
import Derived.JoinedTies
import Derived.KernelRfl
namespace Go.Proofs.YtahkigabapdleaaDoor
/- THE CELL 'sum', in the pinned program and in every row, IS THE sha256 OF THE DUMP (.gsa) THAT YtahkigabapdleaaDoorProg.lean LOADS. Nothing in Lean hashes anything: it is a label: what it is worth is what the hold of that sum in a sandbox is worth. -/
noncomputable def Tryd.pinned : Pinned := { name := "ytahkigabapdleaadoor", sum := "03a97a3336a1caf971cbc67dc503d077ed3108b3c2ff11b114a91b682d3a9a3f", checked := Tryd.checked }
namespace Rows
def none {H : Type} : Left H := { results := [], args := [] }

/- WHAT THE LISTED PACKAGE-LEVEL VARIABLES READ AS WHEN THE CALL BEGINS. Each datum BY PROGRAM (the guide's laid-datum.mjs) off the statement by which the dump's own 'gosem.cut.vars' lays the variable. In a bare row this is a premise. The card (YtahkigabapdleaaDoorCards.lean) ties it to the program's text. -/
def laid_withy_disk_sizes {H : Type} : DataW H := .agg [.lit (.int .i64 128), .lit (.int .i64 256), .lit (.int .i64 512), .lit (.int .i64 1024)]

/-- 'withylaw12.ChainTells': WHATEVER THE INPUT: true; the input reads as it did. -/
def chainTellsSpec : ChangeSpec := { name := "chainTells", fn := fun _ => fun
  | [d1, d2, d3] => { results := [.lit (.bool true)], args := [d1, d2, d3] }
  | _ => none }
def chainTellsRow : OpenClaim := { program := "ytahkigabapdleaadoor", sum := "03a97a3336a1caf971cbc67dc503d077ed3108b3c2ff11b114a91b682d3a9a3f", func := "withy/withylaw12.ChainTells", spec := "chainTells", inPlace := ["internal/reflectlite.TypeOf", "internal/abi.NoEscape", "internal/bytealg.MakeNoZero"], unfollowed := true, recurses := true, named := ["withy/disk.sizes"], apart := false, laid := [("withy/disk.sizes", laid_withy_disk_sizes)] }
def ChainTellsSaid : Prop := chainTellsRow.holds Tryd.pinned (OpenSpec.ofChange chainTellsSpec)

/-- ITS FALSE NEIGHBOUR: 'it returns false'. Refute it at one input. -/
def chainTellsWrong : ChangeSpec := { name := "chainTells", fn := fun _ => fun
  | [d1, d2, d3] => { results := [.lit (.bool false)], args := [d1, d2, d3] }
  | _ => none }
def ChainTellsWrongFalsely : Prop := chainTellsRow.holds Tryd.pinned (OpenSpec.ofChange chainTellsWrong)

/-- 'withylaw12.ChainBack': WHATEVER THE INPUT: true; the input reads as it did. -/
def chainBackSpec : ChangeSpec := { name := "chainBack", fn := fun _ => fun
  | [d1, d2, d3] => { results := [.lit (.bool true)], args := [d1, d2, d3] }
  | _ => none }
def chainBackRow : OpenClaim := { program := "ytahkigabapdleaadoor", sum := "03a97a3336a1caf971cbc67dc503d077ed3108b3c2ff11b114a91b682d3a9a3f", func := "withy/withylaw12.ChainBack", spec := "chainBack", inPlace := ["internal/reflectlite.TypeOf", "internal/abi.NoEscape", "internal/bytealg.MakeNoZero"], unfollowed := true, recurses := true, named := ["withy/disk.sizes"], apart := false, laid := [("withy/disk.sizes", laid_withy_disk_sizes)] }
def ChainBackSaid : Prop := chainBackRow.holds Tryd.pinned (OpenSpec.ofChange chainBackSpec)

/-- ITS FALSE NEIGHBOUR: 'it returns false'. Refute it at one input. -/
def chainBackWrong : ChangeSpec := { name := "chainBack", fn := fun _ => fun
  | [d1, d2, d3] => { results := [.lit (.bool false)], args := [d1, d2, d3] }
  | _ => none }
def ChainBackWrongFalsely : Prop := chainBackRow.holds Tryd.pinned (OpenSpec.ofChange chainBackWrong)

/-- 'withylaw12.ChainParts': WHATEVER THE INPUT: true; the input reads as it did. -/
def chainPartsSpec : ChangeSpec := { name := "chainParts", fn := fun _ => fun
  | [d1, d2] => { results := [.lit (.bool true)], args := [d1, d2] }
  | _ => none }
def chainPartsRow : OpenClaim := { program := "ytahkigabapdleaadoor", sum := "03a97a3336a1caf971cbc67dc503d077ed3108b3c2ff11b114a91b682d3a9a3f", func := "withy/withylaw12.ChainParts", spec := "chainParts", inPlace := ["internal/reflectlite.TypeOf", "internal/abi.NoEscape", "internal/bytealg.MakeNoZero"], unfollowed := true, recurses := true, named := ["withy/disk.sizes"], apart := false, laid := [("withy/disk.sizes", laid_withy_disk_sizes)] }
def ChainPartsSaid : Prop := chainPartsRow.holds Tryd.pinned (OpenSpec.ofChange chainPartsSpec)

/-- ITS FALSE NEIGHBOUR: 'it returns false'. Refute it at one input. -/
def chainPartsWrong : ChangeSpec := { name := "chainParts", fn := fun _ => fun
  | [d1, d2] => { results := [.lit (.bool false)], args := [d1, d2] }
  | _ => none }
def ChainPartsWrongFalsely : Prop := chainPartsRow.holds Tryd.pinned (OpenSpec.ofChange chainPartsWrong)

/-- 'withylaw12.ChainPages': WHATEVER THE INPUT: true; the input reads as it did. -/
def chainPagesSpec : ChangeSpec := { name := "chainPages", fn := fun _ => fun
  | [d1, d2, d3] => { results := [.lit (.bool true)], args := [d1, d2, d3] }
  | _ => none }
def chainPagesRow : OpenClaim := { program := "ytahkigabapdleaadoor", sum := "03a97a3336a1caf971cbc67dc503d077ed3108b3c2ff11b114a91b682d3a9a3f", func := "withy/withylaw12.ChainPages", spec := "chainPages", inPlace := ["internal/reflectlite.TypeOf", "internal/abi.NoEscape", "internal/bytealg.MakeNoZero"], unfollowed := true, recurses := true, named := ["withy/disk.sizes"], apart := false, laid := [("withy/disk.sizes", laid_withy_disk_sizes)] }
def ChainPagesSaid : Prop := chainPagesRow.holds Tryd.pinned (OpenSpec.ofChange chainPagesSpec)

/-- ITS FALSE NEIGHBOUR: 'it returns false'. Refute it at one input. -/
def chainPagesWrong : ChangeSpec := { name := "chainPages", fn := fun _ => fun
  | [d1, d2, d3] => { results := [.lit (.bool false)], args := [d1, d2, d3] }
  | _ => none }
def ChainPagesWrongFalsely : Prop := chainPagesRow.holds Tryd.pinned (OpenSpec.ofChange chainPagesWrong)

/-- 'withylaw12.ChainEach': WHATEVER THE INPUT: true; the input reads as it did. -/
def chainEachSpec : ChangeSpec := { name := "chainEach", fn := fun _ => fun
  | [d1, d2] => { results := [.lit (.bool true)], args := [d1, d2] }
  | _ => none }
def chainEachRow : OpenClaim := { program := "ytahkigabapdleaadoor", sum := "03a97a3336a1caf971cbc67dc503d077ed3108b3c2ff11b114a91b682d3a9a3f", func := "withy/withylaw12.ChainEach", spec := "chainEach", inPlace := ["internal/reflectlite.TypeOf", "internal/abi.NoEscape", "internal/bytealg.MakeNoZero"], unfollowed := true, recurses := true, named := ["withy/disk.sizes"], apart := false, laid := [("withy/disk.sizes", laid_withy_disk_sizes)] }
def ChainEachSaid : Prop := chainEachRow.holds Tryd.pinned (OpenSpec.ofChange chainEachSpec)

/-- ITS FALSE NEIGHBOUR: 'it returns false'. Refute it at one input. -/
def chainEachWrong : ChangeSpec := { name := "chainEach", fn := fun _ => fun
  | [d1, d2] => { results := [.lit (.bool false)], args := [d1, d2] }
  | _ => none }
def ChainEachWrongFalsely : Prop := chainEachRow.holds Tryd.pinned (OpenSpec.ofChange chainEachWrong)

/-- 'withylaw12.ChainLast': WHATEVER THE INPUT: true; the input reads as it did. -/
def chainLastSpec : ChangeSpec := { name := "chainLast", fn := fun _ => fun
  | [d1, d2, d3] => { results := [.lit (.bool true)], args := [d1, d2, d3] }
  | _ => none }
def chainLastRow : OpenClaim := { program := "ytahkigabapdleaadoor", sum := "03a97a3336a1caf971cbc67dc503d077ed3108b3c2ff11b114a91b682d3a9a3f", func := "withy/withylaw12.ChainLast", spec := "chainLast", inPlace := ["internal/reflectlite.TypeOf", "internal/abi.NoEscape", "internal/bytealg.MakeNoZero"], unfollowed := true, recurses := true, named := ["withy/disk.sizes"], apart := false, laid := [("withy/disk.sizes", laid_withy_disk_sizes)] }
def ChainLastSaid : Prop := chainLastRow.holds Tryd.pinned (OpenSpec.ofChange chainLastSpec)

/-- ITS FALSE NEIGHBOUR: 'it returns false'. Refute it at one input. -/
def chainLastWrong : ChangeSpec := { name := "chainLast", fn := fun _ => fun
  | [d1, d2, d3] => { results := [.lit (.bool false)], args := [d1, d2, d3] }
  | _ => none }
def ChainLastWrongFalsely : Prop := chainLastRow.holds Tryd.pinned (OpenSpec.ofChange chainLastWrong)

/- THE SECOND FORM. 'bulk': how many values and letters a reading holds, each counted each time it is reached (what is shared counts as often as it is met; a slice's spare places count too). A statement '..UptoSaid' is the law's where the arguments, and the package variables that the reading takes, are together of bulk at most 1048576: NARROWER than '..Said'. Prove '..Said' where nothing that the law and all that it calls make is longer than what came in: it says more and counts as full. Else prove '..UptoSaid'. A law counts once. -/
mutual
def uptoBulk {H : Type} : DataW H → Nat
  | .lit (.string bytes) => bytes.length + 1
  | .lit _ => 1
  | .nil => 1
  | .ptr d => uptoBulk d + 1
  | .slice elems spare => uptoBulkAll elems + uptoBulkAll spare + 1
  | .agg parts => uptoBulkAll parts + 1
  | .iface _ d => uptoBulk d + 1
  | .map entries => uptoBulkEntries entries + 1
  | .held _ => 1
def uptoBulkAll {H : Type} : List (DataW H) → Nat
  | [] => 0
  | d :: r => uptoBulk d + uptoBulkAll r
def uptoBulkEntries {H : Type} : List (Lit × DataW H) → Nat
  | [] => 0
  | x :: r => uptoBulkEntry x + uptoBulkEntries r
def uptoBulkEntry {H : Type} : Lit × DataW H → Nat
  | (.string bytes, d) => bytes.length + uptoBulk d + 1
  | (_, d) => uptoBulk d + 1
 end
def uptoSmall : (H : Type) → List (DataW H) → Bool := fun _ ds => decide (uptoBulkAll ds ≤ 1048576)
def OpenSpec.upto (s : _root_.Go.ChangeSpec) : _root_.Go.OpenSpec := { _root_.Go.OpenSpec.ofChange s with cond := some uptoSmall }

/-- 'withylaw12.ChainTells', WHERE WHAT IT READS IS OF BULK AT MOST 1048576: true; the input reads as it did. -/
def chainTellsUptoRow : OpenClaim := { program := "ytahkigabapdleaadoor", sum := "03a97a3336a1caf971cbc67dc503d077ed3108b3c2ff11b114a91b682d3a9a3f", func := "withy/withylaw12.ChainTells", spec := "chainTells", inPlace := ["internal/reflectlite.TypeOf", "internal/abi.NoEscape", "internal/bytealg.MakeNoZero"], unfollowed := true, recurses := true, named := ["withy/disk.sizes"], apart := false, laid := [("withy/disk.sizes", laid_withy_disk_sizes)], narrowed := true }
def ChainTellsUptoSaid : Prop := chainTellsUptoRow.holds Tryd.pinned (OpenSpec.upto chainTellsSpec)

/-- 'withylaw12.ChainBack', WHERE WHAT IT READS IS OF BULK AT MOST 1048576: true; the input reads as it did. -/
def chainBackUptoRow : OpenClaim := { program := "ytahkigabapdleaadoor", sum := "03a97a3336a1caf971cbc67dc503d077ed3108b3c2ff11b114a91b682d3a9a3f", func := "withy/withylaw12.ChainBack", spec := "chainBack", inPlace := ["internal/reflectlite.TypeOf", "internal/abi.NoEscape", "internal/bytealg.MakeNoZero"], unfollowed := true, recurses := true, named := ["withy/disk.sizes"], apart := false, laid := [("withy/disk.sizes", laid_withy_disk_sizes)], narrowed := true }
def ChainBackUptoSaid : Prop := chainBackUptoRow.holds Tryd.pinned (OpenSpec.upto chainBackSpec)

/-- 'withylaw12.ChainParts', WHERE WHAT IT READS IS OF BULK AT MOST 1048576: true; the input reads as it did. -/
def chainPartsUptoRow : OpenClaim := { program := "ytahkigabapdleaadoor", sum := "03a97a3336a1caf971cbc67dc503d077ed3108b3c2ff11b114a91b682d3a9a3f", func := "withy/withylaw12.ChainParts", spec := "chainParts", inPlace := ["internal/reflectlite.TypeOf", "internal/abi.NoEscape", "internal/bytealg.MakeNoZero"], unfollowed := true, recurses := true, named := ["withy/disk.sizes"], apart := false, laid := [("withy/disk.sizes", laid_withy_disk_sizes)], narrowed := true }
def ChainPartsUptoSaid : Prop := chainPartsUptoRow.holds Tryd.pinned (OpenSpec.upto chainPartsSpec)

/-- 'withylaw12.ChainPages', WHERE WHAT IT READS IS OF BULK AT MOST 1048576: true; the input reads as it did. -/
def chainPagesUptoRow : OpenClaim := { program := "ytahkigabapdleaadoor", sum := "03a97a3336a1caf971cbc67dc503d077ed3108b3c2ff11b114a91b682d3a9a3f", func := "withy/withylaw12.ChainPages", spec := "chainPages", inPlace := ["internal/reflectlite.TypeOf", "internal/abi.NoEscape", "internal/bytealg.MakeNoZero"], unfollowed := true, recurses := true, named := ["withy/disk.sizes"], apart := false, laid := [("withy/disk.sizes", laid_withy_disk_sizes)], narrowed := true }
def ChainPagesUptoSaid : Prop := chainPagesUptoRow.holds Tryd.pinned (OpenSpec.upto chainPagesSpec)

/-- 'withylaw12.ChainEach', WHERE WHAT IT READS IS OF BULK AT MOST 1048576: true; the input reads as it did. -/
def chainEachUptoRow : OpenClaim := { program := "ytahkigabapdleaadoor", sum := "03a97a3336a1caf971cbc67dc503d077ed3108b3c2ff11b114a91b682d3a9a3f", func := "withy/withylaw12.ChainEach", spec := "chainEach", inPlace := ["internal/reflectlite.TypeOf", "internal/abi.NoEscape", "internal/bytealg.MakeNoZero"], unfollowed := true, recurses := true, named := ["withy/disk.sizes"], apart := false, laid := [("withy/disk.sizes", laid_withy_disk_sizes)], narrowed := true }
def ChainEachUptoSaid : Prop := chainEachUptoRow.holds Tryd.pinned (OpenSpec.upto chainEachSpec)

/-- 'withylaw12.ChainLast', WHERE WHAT IT READS IS OF BULK AT MOST 1048576: true; the input reads as it did. -/
def chainLastUptoRow : OpenClaim := { program := "ytahkigabapdleaadoor", sum := "03a97a3336a1caf971cbc67dc503d077ed3108b3c2ff11b114a91b682d3a9a3f", func := "withy/withylaw12.ChainLast", spec := "chainLast", inPlace := ["internal/reflectlite.TypeOf", "internal/abi.NoEscape", "internal/bytealg.MakeNoZero"], unfollowed := true, recurses := true, named := ["withy/disk.sizes"], apart := false, laid := [("withy/disk.sizes", laid_withy_disk_sizes)], narrowed := true }
def ChainLastUptoSaid : Prop := chainLastUptoRow.holds Tryd.pinned (OpenSpec.upto chainLastSpec)

end Rows
end Go.Proofs.YtahkigabapdleaaDoor
