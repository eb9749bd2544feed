/-
  NARROWER THAN 'FOR EVERY INPUT', by the rows' own cells (each row's printed sentence says how): MetaTells: laid · MetaBack: laid · MetaTorn: laid · MetaFields: laid · MetaTears: laid · MetaEach: laid.
  DERIVED. THE GIVEN ROWS OF THIS SEAT. 6 by the template 'for every input the law returns true; each argument reads behind the call as it read before'; 0 by the template 'total and deterministic' (their statements: YtnjmkljnjngpkaaDoorTotals.lean).
  GIVEN WITH THE SEED: the statements are not yours to turn. If you find one false, say at which input.
  Laid BY PROGRAM, IN A SANDBOX (cutbox-rows.mjs): the forced cells as the released guide's own fill.sh prints them over the translation 820edfe5ac5bb0f1… (all of the seat's roots in one cut). By AI agents, Wed Nov 11 2026. No macro, syntax, notation, axiom, sorry.
-/
import Derived.Test.YtnjmkljnjngpkaaDoorChecked
import GoSem.Claim
import GoSem.ClaimJoined
import GoSem.ClaimMapViews
import Derived.JoinedTies
import Derived.KernelRfl
namespace Go.Proofs.YtnjmkljnjngpkaaDoor
/- THE CELL 'sum', in the pinned program and in every row, IS THE sha256 OF THE DUMP (.gsa) THAT YtnjmkljnjngpkaaDoorProg.lean LOADS. Nothing in Lean hashes anything: it is a label: what it is worth is what the hold of that sum in a sandbox is worth. -/
noncomputable def Tryd.pinned : Pinned := { name := "ytnjmkljnjngpkaadoor", sum := "820edfe5ac5bb0f1884693d4b72afb0ac521a828f486c136fb3a8a0bd4bc78d3", checked := Tryd.checked }
namespace Rows
def none {H : Type} : Left H := { results := [], args := [] }

/- WHAT THE LISTED PACKAGE-LEVEL VARIABLES READ AS WHEN THE CALL BEGINS. Each datum BY PROGRAM (the guide's laid-datum.mjs) off the statement by which the dump's own 'gosem.cut.vars' lays the variable. In a bare row this is a premise. The card (YtnjmkljnjngpkaaDoorCards.lean) ties it to the program's text. -/
def laid_withy_disk_sizes {H : Type} : DataW H := .agg [.lit (.int .i64 128), .lit (.int .i64 256), .lit (.int .i64 512), .lit (.int .i64 1024)]

/-- 'withylaw13.MetaTells': WHATEVER THE INPUT: true; the input reads as it did. -/
def metaTellsSpec : ChangeSpec := { name := "metaTells", fn := fun _ => fun
  | [d1, d2, d3] => { results := [.lit (.bool true)], args := [d1, d2, d3] }
  | _ => none }
def metaTellsRow : OpenClaim := { program := "ytnjmkljnjngpkaadoor", sum := "820edfe5ac5bb0f1884693d4b72afb0ac521a828f486c136fb3a8a0bd4bc78d3", func := "withy/withylaw13.MetaTells", spec := "metaTells", inPlace := ["internal/abi.NoEscape", "internal/bytealg.MakeNoZero", "internal/reflectlite.TypeOf"], unfollowed := true, recurses := true, named := ["withy/disk.sizes"], apart := false, laid := [("withy/disk.sizes", laid_withy_disk_sizes)] }
def MetaTellsSaid : Prop := metaTellsRow.holds Tryd.pinned (OpenSpec.ofChange metaTellsSpec)

/-- ITS FALSE NEIGHBOUR: 'it returns false'. Refute it at one input. -/
def metaTellsWrong : ChangeSpec := { name := "metaTells", fn := fun _ => fun
  | [d1, d2, d3] => { results := [.lit (.bool false)], args := [d1, d2, d3] }
  | _ => none }
def MetaTellsWrongFalsely : Prop := metaTellsRow.holds Tryd.pinned (OpenSpec.ofChange metaTellsWrong)

/-- 'withylaw13.MetaBack': WHATEVER THE INPUT: true; the input reads as it did. -/
def metaBackSpec : ChangeSpec := { name := "metaBack", fn := fun _ => fun
  | [d1, d2, d3] => { results := [.lit (.bool true)], args := [d1, d2, d3] }
  | _ => none }
def metaBackRow : OpenClaim := { program := "ytnjmkljnjngpkaadoor", sum := "820edfe5ac5bb0f1884693d4b72afb0ac521a828f486c136fb3a8a0bd4bc78d3", func := "withy/withylaw13.MetaBack", spec := "metaBack", inPlace := ["internal/abi.NoEscape", "internal/bytealg.MakeNoZero", "internal/reflectlite.TypeOf"], unfollowed := true, recurses := true, named := ["withy/disk.sizes"], apart := false, laid := [("withy/disk.sizes", laid_withy_disk_sizes)] }
def MetaBackSaid : Prop := metaBackRow.holds Tryd.pinned (OpenSpec.ofChange metaBackSpec)

/-- ITS FALSE NEIGHBOUR: 'it returns false'. Refute it at one input. -/
def metaBackWrong : ChangeSpec := { name := "metaBack", fn := fun _ => fun
  | [d1, d2, d3] => { results := [.lit (.bool false)], args := [d1, d2, d3] }
  | _ => none }
def MetaBackWrongFalsely : Prop := metaBackRow.holds Tryd.pinned (OpenSpec.ofChange metaBackWrong)

/-- 'withylaw13.MetaTorn': WHATEVER THE INPUT: true; the input reads as it did. -/
def metaTornSpec : ChangeSpec := { name := "metaTorn", fn := fun _ => fun
  | [d1, d2, d3] => { results := [.lit (.bool true)], args := [d1, d2, d3] }
  | _ => none }
def metaTornRow : OpenClaim := { program := "ytnjmkljnjngpkaadoor", sum := "820edfe5ac5bb0f1884693d4b72afb0ac521a828f486c136fb3a8a0bd4bc78d3", func := "withy/withylaw13.MetaTorn", spec := "metaTorn", inPlace := ["internal/abi.NoEscape", "internal/bytealg.MakeNoZero", "internal/reflectlite.TypeOf"], unfollowed := true, recurses := true, named := ["withy/disk.sizes"], apart := false, laid := [("withy/disk.sizes", laid_withy_disk_sizes)] }
def MetaTornSaid : Prop := metaTornRow.holds Tryd.pinned (OpenSpec.ofChange metaTornSpec)

/-- ITS FALSE NEIGHBOUR: 'it returns false'. Refute it at one input. -/
def metaTornWrong : ChangeSpec := { name := "metaTorn", fn := fun _ => fun
  | [d1, d2, d3] => { results := [.lit (.bool false)], args := [d1, d2, d3] }
  | _ => none }
def MetaTornWrongFalsely : Prop := metaTornRow.holds Tryd.pinned (OpenSpec.ofChange metaTornWrong)

/-- 'withylaw13.MetaFields': WHATEVER THE INPUT: true; the input reads as it did. -/
def metaFieldsSpec : ChangeSpec := { name := "metaFields", fn := fun _ => fun
  | [d] => { results := [.lit (.bool true)], args := [d] }
  | _ => none }
def metaFieldsRow : OpenClaim := { program := "ytnjmkljnjngpkaadoor", sum := "820edfe5ac5bb0f1884693d4b72afb0ac521a828f486c136fb3a8a0bd4bc78d3", func := "withy/withylaw13.MetaFields", spec := "metaFields", inPlace := ["internal/abi.NoEscape", "internal/bytealg.MakeNoZero", "internal/reflectlite.TypeOf"], unfollowed := true, recurses := true, named := ["withy/disk.sizes"], apart := false, laid := [("withy/disk.sizes", laid_withy_disk_sizes)] }
def MetaFieldsSaid : Prop := metaFieldsRow.holds Tryd.pinned (OpenSpec.ofChange metaFieldsSpec)

/-- ITS FALSE NEIGHBOUR: 'it returns false'. Refute it at one input. -/
def metaFieldsWrong : ChangeSpec := { name := "metaFields", fn := fun _ => fun
  | [d] => { results := [.lit (.bool false)], args := [d] }
  | _ => none }
def MetaFieldsWrongFalsely : Prop := metaFieldsRow.holds Tryd.pinned (OpenSpec.ofChange metaFieldsWrong)

/-- 'withylaw13.MetaTears': WHATEVER THE INPUT: true; the input reads as it did. -/
def metaTearsSpec : ChangeSpec := { name := "metaTears", fn := fun _ => fun
  | [d1, d2, d3] => { results := [.lit (.bool true)], args := [d1, d2, d3] }
  | _ => none }
def metaTearsRow : OpenClaim := { program := "ytnjmkljnjngpkaadoor", sum := "820edfe5ac5bb0f1884693d4b72afb0ac521a828f486c136fb3a8a0bd4bc78d3", func := "withy/withylaw13.MetaTears", spec := "metaTears", inPlace := ["internal/abi.NoEscape", "internal/bytealg.MakeNoZero", "internal/reflectlite.TypeOf"], unfollowed := true, recurses := true, named := ["withy/disk.sizes"], apart := false, laid := [("withy/disk.sizes", laid_withy_disk_sizes)] }
def MetaTearsSaid : Prop := metaTearsRow.holds Tryd.pinned (OpenSpec.ofChange metaTearsSpec)

/-- ITS FALSE NEIGHBOUR: 'it returns false'. Refute it at one input. -/
def metaTearsWrong : ChangeSpec := { name := "metaTears", fn := fun _ => fun
  | [d1, d2, d3] => { results := [.lit (.bool false)], args := [d1, d2, d3] }
  | _ => none }
def MetaTearsWrongFalsely : Prop := metaTearsRow.holds Tryd.pinned (OpenSpec.ofChange metaTearsWrong)

/-- 'withylaw13.MetaEach': WHATEVER THE INPUT: true; the input reads as it did. -/
def metaEachSpec : ChangeSpec := { name := "metaEach", fn := fun _ => fun
  | [d1, d2] => { results := [.lit (.bool true)], args := [d1, d2] }
  | _ => none }
def metaEachRow : OpenClaim := { program := "ytnjmkljnjngpkaadoor", sum := "820edfe5ac5bb0f1884693d4b72afb0ac521a828f486c136fb3a8a0bd4bc78d3", func := "withy/withylaw13.MetaEach", spec := "metaEach", inPlace := ["internal/abi.NoEscape", "internal/bytealg.MakeNoZero", "internal/reflectlite.TypeOf"], unfollowed := true, recurses := true, named := ["withy/disk.sizes"], apart := false, laid := [("withy/disk.sizes", laid_withy_disk_sizes)] }
def MetaEachSaid : Prop := metaEachRow.holds Tryd.pinned (OpenSpec.ofChange metaEachSpec)

/-- ITS FALSE NEIGHBOUR: 'it returns false'. Refute it at one input. -/
def metaEachWrong : ChangeSpec := { name := "metaEach", fn := fun _ => fun
  | [d1, d2] => { results := [.lit (.bool false)], args := [d1, d2] }
  | _ => none }
def MetaEachWrongFalsely : Prop := metaEachRow.holds Tryd.pinned (OpenSpec.ofChange metaEachWrong)

/- THE SECOND FORM. 'bulk': how many values and letters a reading holds, each counted each time it is reached (what is shared counts as often as it is met; a slice's spare places count too). A statement '..UptoSaid' is the law's where the arguments, and the package variables that the reading takes, are together of bulk at most 1048576: NARROWER than '..Said'. Prove '..Said' where nothing that the law and all that it calls make is longer than what came in: it says more and counts as full. Else prove '..UptoSaid'. A law counts once. -/
mutual
def uptoBulk {H : Type} : DataW H → Nat
  | .lit (.string bytes) => bytes.length + 1
  | .lit _ => 1
  | .nil => 1
  | .ptr d => uptoBulk d + 1
  | .slice elems spare => uptoBulkAll elems + uptoBulkAll spare + 1
  | .agg parts => uptoBulkAll parts + 1
  | .iface _ d => uptoBulk d + 1
  | .map entries => uptoBulkEntries entries + 1
  | .held _ => 1
def uptoBulkAll {H : Type} : List (DataW H) → Nat
  | [] => 0
  | d :: r => uptoBulk d + uptoBulkAll r
def uptoBulkEntries {H : Type} : List (Lit × DataW H) → Nat
  | [] => 0
  | x :: r => uptoBulkEntry x + uptoBulkEntries r
def uptoBulkEntry {H : Type} : Lit × DataW H → Nat
  | (.string bytes, d) => bytes.length + uptoBulk d + 1
  | (_, d) => uptoBulk d + 1
 end
def uptoSmall : (H : Type) → List (DataW H) → Bool := fun _ ds => decide (uptoBulkAll ds ≤ 1048576)
def OpenSpec.upto (s : _root_.Go.ChangeSpec) : _root_.Go.OpenSpec := { _root_.Go.OpenSpec.ofChange s with cond := some uptoSmall }

/-- 'withylaw13.MetaTells', WHERE WHAT IT READS IS OF BULK AT MOST 1048576: true; the input reads as it did. -/
def metaTellsUptoRow : OpenClaim := { program := "ytnjmkljnjngpkaadoor", sum := "820edfe5ac5bb0f1884693d4b72afb0ac521a828f486c136fb3a8a0bd4bc78d3", func := "withy/withylaw13.MetaTells", spec := "metaTells", inPlace := ["internal/abi.NoEscape", "internal/bytealg.MakeNoZero", "internal/reflectlite.TypeOf"], unfollowed := true, recurses := true, named := ["withy/disk.sizes"], apart := false, laid := [("withy/disk.sizes", laid_withy_disk_sizes)], narrowed := true }
def MetaTellsUptoSaid : Prop := metaTellsUptoRow.holds Tryd.pinned (OpenSpec.upto metaTellsSpec)

/-- 'withylaw13.MetaBack', WHERE WHAT IT READS IS OF BULK AT MOST 1048576: true; the input reads as it did. -/
def metaBackUptoRow : OpenClaim := { program := "ytnjmkljnjngpkaadoor", sum := "820edfe5ac5bb0f1884693d4b72afb0ac521a828f486c136fb3a8a0bd4bc78d3", func := "withy/withylaw13.MetaBack", spec := "metaBack", inPlace := ["internal/abi.NoEscape", "internal/bytealg.MakeNoZero", "internal/reflectlite.TypeOf"], unfollowed := true, recurses := true, named := ["withy/disk.sizes"], apart := false, laid := [("withy/disk.sizes", laid_withy_disk_sizes)], narrowed := true }
def MetaBackUptoSaid : Prop := metaBackUptoRow.holds Tryd.pinned (OpenSpec.upto metaBackSpec)

/-- 'withylaw13.MetaTorn', WHERE WHAT IT READS IS OF BULK AT MOST 1048576: true; the input reads as it did. -/
def metaTornUptoRow : OpenClaim := { program := "ytnjmkljnjngpkaadoor", sum := "820edfe5ac5bb0f1884693d4b72afb0ac521a828f486c136fb3a8a0bd4bc78d3", func := "withy/withylaw13.MetaTorn", spec := "metaTorn", inPlace := ["internal/abi.NoEscape", "internal/bytealg.MakeNoZero", "internal/reflectlite.TypeOf"], unfollowed := true, recurses := true, named := ["withy/disk.sizes"], apart := false, laid := [("withy/disk.sizes", laid_withy_disk_sizes)], narrowed := true }
def MetaTornUptoSaid : Prop := metaTornUptoRow.holds Tryd.pinned (OpenSpec.upto metaTornSpec)

/-- 'withylaw13.MetaFields', WHERE WHAT IT READS IS OF BULK AT MOST 1048576: true; the input reads as it did. -/
def metaFieldsUptoRow : OpenClaim := { program := "ytnjmkljnjngpkaadoor", sum := "820edfe5ac5bb0f1884693d4b72afb0ac521a828f486c136fb3a8a0bd4bc78d3", func := "withy/withylaw13.MetaFields", spec := "metaFields", inPlace := ["internal/abi.NoEscape", "internal/bytealg.MakeNoZero", "internal/reflectlite.TypeOf"], unfollowed := true, recurses := true, named := ["withy/disk.sizes"], apart := false, laid := [("withy/disk.sizes", laid_withy_disk_sizes)], narrowed := true }
def MetaFieldsUptoSaid : Prop := metaFieldsUptoRow.holds Tryd.pinned (OpenSpec.upto metaFieldsSpec)

/-- 'withylaw13.MetaTears', WHERE WHAT IT READS IS OF BULK AT MOST 1048576: true; the input reads as it did. -/
def metaTearsUptoRow : OpenClaim := { program := "ytnjmkljnjngpkaadoor", sum := "820edfe5ac5bb0f1884693d4b72afb0ac521a828f486c136fb3a8a0bd4bc78d3", func := "withy/withylaw13.MetaTears", spec := "metaTears", inPlace := ["internal/abi.NoEscape", "internal/bytealg.MakeNoZero", "internal/reflectlite.TypeOf"], unfollowed := true, recurses := true, named := ["withy/disk.sizes"], apart := false, laid := [("withy/disk.sizes", laid_withy_disk_sizes)], narrowed := true }
def MetaTearsUptoSaid : Prop := metaTearsUptoRow.holds Tryd.pinned (OpenSpec.upto metaTearsSpec)

/-- 'withylaw13.MetaEach', WHERE WHAT IT READS IS OF BULK AT MOST 1048576: true; the input reads as it did. -/
def metaEachUptoRow : OpenClaim := { program := "ytnjmkljnjngpkaadoor", sum := "820edfe5ac5bb0f1884693d4b72afb0ac521a828f486c136fb3a8a0bd4bc78d3", func := "withy/withylaw13.MetaEach", spec := "metaEach", inPlace := ["internal/abi.NoEscape", "internal/bytealg.MakeNoZero", "internal/reflectlite.TypeOf"], unfollowed := true, recurses := true, named := ["withy/disk.sizes"], apart := false, laid := [("withy/disk.sizes", laid_withy_disk_sizes)], narrowed := true }
def MetaEachUptoSaid : Prop := metaEachUptoRow.holds Tryd.pinned (OpenSpec.upto metaEachSpec)

end Rows
end Go.Proofs.YtnjmkljnjngpkaaDoor
