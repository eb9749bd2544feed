/-
  No cell of these rows narrows 'for every input' (looked for: loops, veiled, ifaces, maps, wideKeys, modest, calm, conditions, laid).
  DERIVED. THE GIVEN ROWS OF THIS SEAT. 6 by the template 'for every input the law returns true; each argument reads behind the call as it read before'; 0 by the template 'total and deterministic' (their statements: YtkeobalbfngniaaTotals.lean).
  GIVEN WITH THE SEED: the statements are not yours to turn. If you find one false, say at which input.
  Laid BY PROGRAM, IN A SANDBOX (cutbox-rows.mjs): the forced cells as the released guide's own fill.sh prints them over the translation 1c1eb7eb2727c0a5… (all of the seat's roots in one cut). By AI agents, Wed Nov 11 2026. No macro, syntax, notation, axiom, sorry.
-/
import Derived.Test.YtkeobalbfngniaaChecked
import GoSem.Claim
import GoSem.ClaimJoined
import GoSem.ClaimMapViews
import Derived.JoinedTies
import Derived.KernelRfl
namespace Go.Proofs.Ytkeobalbfngniaa
/- THE CELL 'sum', in the pinned program and in every row, IS THE sha256 OF THE DUMP (.gsa) THAT YtkeobalbfngniaaProg.lean LOADS. Nothing in Lean hashes anything: it is a label: what it is worth is what the hold of that sum in a sandbox is worth. -/
noncomputable def Try.pinned : Pinned := { name := "ytkeobalbfngniaa", sum := "1c1eb7eb2727c0a532ea624a8776bc0a3bef64a2a7b62d7476d27e2da7c5e061", checked := Try.checked }
namespace Rows
def none {H : Type} : Left H := { results := [], args := [] }

/-- 'withylaw05.SepTells': WHATEVER THE INPUT: true; the input reads as it did. -/
def sepTellsSpec : ChangeSpec := { name := "sepTells", fn := fun _ => fun
  | [d1, d2, d3] => { results := [.lit (.bool true)], args := [d1, d2, d3] }
  | _ => none }
def sepTellsRow : OpenClaim := { program := "ytkeobalbfngniaa", sum := "1c1eb7eb2727c0a532ea624a8776bc0a3bef64a2a7b62d7476d27e2da7c5e061", func := "withy/withylaw05.SepTells", spec := "sepTells", apart := false }
def SepTellsSaid : Prop := sepTellsRow.holds Try.pinned (OpenSpec.ofChange sepTellsSpec)

/-- ITS FALSE NEIGHBOUR: 'it returns false'. Refute it at one input. -/
def sepTellsWrong : ChangeSpec := { name := "sepTells", fn := fun _ => fun
  | [d1, d2, d3] => { results := [.lit (.bool false)], args := [d1, d2, d3] }
  | _ => none }
def SepTellsWrongFalsely : Prop := sepTellsRow.holds Try.pinned (OpenSpec.ofChange sepTellsWrong)

/-- 'withylaw05.SepLeast': WHATEVER THE INPUT: true; the input reads as it did. -/
def sepLeastSpec : ChangeSpec := { name := "sepLeast", fn := fun _ => fun
  | [d1, d2] => { results := [.lit (.bool true)], args := [d1, d2] }
  | _ => none }
def sepLeastRow : OpenClaim := { program := "ytkeobalbfngniaa", sum := "1c1eb7eb2727c0a532ea624a8776bc0a3bef64a2a7b62d7476d27e2da7c5e061", func := "withy/withylaw05.SepLeast", spec := "sepLeast", apart := false }
def SepLeastSaid : Prop := sepLeastRow.holds Try.pinned (OpenSpec.ofChange sepLeastSpec)

/-- ITS FALSE NEIGHBOUR: 'it returns false'. Refute it at one input. -/
def sepLeastWrong : ChangeSpec := { name := "sepLeast", fn := fun _ => fun
  | [d1, d2] => { results := [.lit (.bool false)], args := [d1, d2] }
  | _ => none }
def SepLeastWrongFalsely : Prop := sepLeastRow.holds Try.pinned (OpenSpec.ofChange sepLeastWrong)

/-- 'withylaw05.SepBetween': WHATEVER THE INPUT: true; the input reads as it did. -/
def sepBetweenSpec : ChangeSpec := { name := "sepBetween", fn := fun _ => fun
  | [d1, d2, d3] => { results := [.lit (.bool true)], args := [d1, d2, d3] }
  | _ => none }
def sepBetweenRow : OpenClaim := { program := "ytkeobalbfngniaa", sum := "1c1eb7eb2727c0a532ea624a8776bc0a3bef64a2a7b62d7476d27e2da7c5e061", func := "withy/withylaw05.SepBetween", spec := "sepBetween", apart := false }
def SepBetweenSaid : Prop := sepBetweenRow.holds Try.pinned (OpenSpec.ofChange sepBetweenSpec)

/-- ITS FALSE NEIGHBOUR: 'it returns false'. Refute it at one input. -/
def sepBetweenWrong : ChangeSpec := { name := "sepBetween", fn := fun _ => fun
  | [d1, d2, d3] => { results := [.lit (.bool false)], args := [d1, d2, d3] }
  | _ => none }
def SepBetweenWrongFalsely : Prop := sepBetweenRow.holds Try.pinned (OpenSpec.ofChange sepBetweenWrong)

/-- 'withylaw05.SepStrip': WHATEVER THE INPUT: true; the input reads as it did. -/
def sepStripSpec : ChangeSpec := { name := "sepStrip", fn := fun _ => fun
  | [d] => { results := [.lit (.bool true)], args := [d] }
  | _ => none }
def sepStripRow : OpenClaim := { program := "ytkeobalbfngniaa", sum := "1c1eb7eb2727c0a532ea624a8776bc0a3bef64a2a7b62d7476d27e2da7c5e061", func := "withy/withylaw05.SepStrip", spec := "sepStrip", apart := false }
def SepStripSaid : Prop := sepStripRow.holds Try.pinned (OpenSpec.ofChange sepStripSpec)

/-- ITS FALSE NEIGHBOUR: 'it returns false'. Refute it at one input. -/
def sepStripWrong : ChangeSpec := { name := "sepStrip", fn := fun _ => fun
  | [d] => { results := [.lit (.bool false)], args := [d] }
  | _ => none }
def SepStripWrongFalsely : Prop := sepStripRow.holds Try.pinned (OpenSpec.ofChange sepStripWrong)

/-- 'withylaw05.SepSpan': WHATEVER THE INPUT: true; the input reads as it did. -/
def sepSpanSpec : ChangeSpec := { name := "sepSpan", fn := fun _ => fun
  | [d1, d2] => { results := [.lit (.bool true)], args := [d1, d2] }
  | _ => none }
def sepSpanRow : OpenClaim := { program := "ytkeobalbfngniaa", sum := "1c1eb7eb2727c0a532ea624a8776bc0a3bef64a2a7b62d7476d27e2da7c5e061", func := "withy/withylaw05.SepSpan", spec := "sepSpan", apart := false }
def SepSpanSaid : Prop := sepSpanRow.holds Try.pinned (OpenSpec.ofChange sepSpanSpec)

/-- ITS FALSE NEIGHBOUR: 'it returns false'. Refute it at one input. -/
def sepSpanWrong : ChangeSpec := { name := "sepSpan", fn := fun _ => fun
  | [d1, d2] => { results := [.lit (.bool false)], args := [d1, d2] }
  | _ => none }
def SepSpanWrongFalsely : Prop := sepSpanRow.holds Try.pinned (OpenSpec.ofChange sepSpanWrong)

/-- 'withylaw05.SepThree': WHATEVER THE INPUT: true; the input reads as it did. -/
def sepThreeSpec : ChangeSpec := { name := "sepThree", fn := fun _ => fun
  | [d] => { results := [.lit (.bool true)], args := [d] }
  | _ => none }
def sepThreeRow : OpenClaim := { program := "ytkeobalbfngniaa", sum := "1c1eb7eb2727c0a532ea624a8776bc0a3bef64a2a7b62d7476d27e2da7c5e061", func := "withy/withylaw05.SepThree", spec := "sepThree", apart := false }
def SepThreeSaid : Prop := sepThreeRow.holds Try.pinned (OpenSpec.ofChange sepThreeSpec)

/-- ITS FALSE NEIGHBOUR: 'it returns false'. Refute it at one input. -/
def sepThreeWrong : ChangeSpec := { name := "sepThree", fn := fun _ => fun
  | [d] => { results := [.lit (.bool false)], args := [d] }
  | _ => none }
def SepThreeWrongFalsely : Prop := sepThreeRow.holds Try.pinned (OpenSpec.ofChange sepThreeWrong)

/- THE SECOND FORM. 'bulk': how many values and letters a reading holds, each counted each time it is reached (what is shared counts as often as it is met; a slice's spare places count too). A statement '..UptoSaid' is the law's where the arguments, and the package variables that the reading takes, are together of bulk at most 1048576: NARROWER than '..Said'. Prove '..Said' where nothing that the law and all that it calls make is longer than what came in: it says more and counts as full. Else prove '..UptoSaid'. A law counts once. -/
mutual
def uptoBulk {H : Type} : DataW H → Nat
  | .lit (.string bytes) => bytes.length + 1
  | .lit _ => 1
  | .nil => 1
  | .ptr d => uptoBulk d + 1
  | .slice elems spare => uptoBulkAll elems + uptoBulkAll spare + 1
  | .agg parts => uptoBulkAll parts + 1
  | .iface _ d => uptoBulk d + 1
  | .map entries => uptoBulkEntries entries + 1
  | .held _ => 1
def uptoBulkAll {H : Type} : List (DataW H) → Nat
  | [] => 0
  | d :: r => uptoBulk d + uptoBulkAll r
def uptoBulkEntries {H : Type} : List (Lit × DataW H) → Nat
  | [] => 0
  | x :: r => uptoBulkEntry x + uptoBulkEntries r
def uptoBulkEntry {H : Type} : Lit × DataW H → Nat
  | (.string bytes, d) => bytes.length + uptoBulk d + 1
  | (_, d) => uptoBulk d + 1
 end
def uptoSmall : (H : Type) → List (DataW H) → Bool := fun _ ds => decide (uptoBulkAll ds ≤ 1048576)
def OpenSpec.upto (s : _root_.Go.ChangeSpec) : _root_.Go.OpenSpec := { _root_.Go.OpenSpec.ofChange s with cond := some uptoSmall }

/-- 'withylaw05.SepTells', WHERE WHAT IT READS IS OF BULK AT MOST 1048576: true; the input reads as it did. -/
def sepTellsUptoRow : OpenClaim := { program := "ytkeobalbfngniaa", sum := "1c1eb7eb2727c0a532ea624a8776bc0a3bef64a2a7b62d7476d27e2da7c5e061", func := "withy/withylaw05.SepTells", spec := "sepTells", apart := false, narrowed := true }
def SepTellsUptoSaid : Prop := sepTellsUptoRow.holds Try.pinned (OpenSpec.upto sepTellsSpec)

/-- 'withylaw05.SepLeast', WHERE WHAT IT READS IS OF BULK AT MOST 1048576: true; the input reads as it did. -/
def sepLeastUptoRow : OpenClaim := { program := "ytkeobalbfngniaa", sum := "1c1eb7eb2727c0a532ea624a8776bc0a3bef64a2a7b62d7476d27e2da7c5e061", func := "withy/withylaw05.SepLeast", spec := "sepLeast", apart := false, narrowed := true }
def SepLeastUptoSaid : Prop := sepLeastUptoRow.holds Try.pinned (OpenSpec.upto sepLeastSpec)

/-- 'withylaw05.SepBetween', WHERE WHAT IT READS IS OF BULK AT MOST 1048576: true; the input reads as it did. -/
def sepBetweenUptoRow : OpenClaim := { program := "ytkeobalbfngniaa", sum := "1c1eb7eb2727c0a532ea624a8776bc0a3bef64a2a7b62d7476d27e2da7c5e061", func := "withy/withylaw05.SepBetween", spec := "sepBetween", apart := false, narrowed := true }
def SepBetweenUptoSaid : Prop := sepBetweenUptoRow.holds Try.pinned (OpenSpec.upto sepBetweenSpec)

/-- 'withylaw05.SepStrip', WHERE WHAT IT READS IS OF BULK AT MOST 1048576: true; the input reads as it did. -/
def sepStripUptoRow : OpenClaim := { program := "ytkeobalbfngniaa", sum := "1c1eb7eb2727c0a532ea624a8776bc0a3bef64a2a7b62d7476d27e2da7c5e061", func := "withy/withylaw05.SepStrip", spec := "sepStrip", apart := false, narrowed := true }
def SepStripUptoSaid : Prop := sepStripUptoRow.holds Try.pinned (OpenSpec.upto sepStripSpec)

/-- 'withylaw05.SepSpan', WHERE WHAT IT READS IS OF BULK AT MOST 1048576: true; the input reads as it did. -/
def sepSpanUptoRow : OpenClaim := { program := "ytkeobalbfngniaa", sum := "1c1eb7eb2727c0a532ea624a8776bc0a3bef64a2a7b62d7476d27e2da7c5e061", func := "withy/withylaw05.SepSpan", spec := "sepSpan", apart := false, narrowed := true }
def SepSpanUptoSaid : Prop := sepSpanUptoRow.holds Try.pinned (OpenSpec.upto sepSpanSpec)

/-- 'withylaw05.SepThree', WHERE WHAT IT READS IS OF BULK AT MOST 1048576: true; the input reads as it did. -/
def sepThreeUptoRow : OpenClaim := { program := "ytkeobalbfngniaa", sum := "1c1eb7eb2727c0a532ea624a8776bc0a3bef64a2a7b62d7476d27e2da7c5e061", func := "withy/withylaw05.SepThree", spec := "sepThree", apart := false, narrowed := true }
def SepThreeUptoSaid : Prop := sepThreeUptoRow.holds Try.pinned (OpenSpec.upto sepThreeSpec)

end Rows
end Go.Proofs.Ytkeobalbfngniaa
