import Derived.Test.YtpeghilfldpgfaaGreatDoorChecked
import Derived.Lib.Hide
import Derived.RowKit
set_option linter.unusedVariables false
namespace Go.Proofs.YtpeghilfldpgfaaGreatDoor
theorem dF {p : Prop} [Decidable p] (h : ¬ p) : decide p = false := decide_eq_false h
theorem dT {p : Prop} [Decidable p] (h : p) : decide p = true := decide_eq_true h
theorem zj {p : Prop} (h : p) : RowKit.Hid p := Lib.hid h
theorem jA {α : Type _} (l : List α) (i : Nat) (a : α) : (l.toArray).setIfInBounds i a = (l.set i a).toArray := List.setIfInBounds_toArray ..
theorem jZ {α : Type _} (a b : α) (l : List α) : (a :: l).set 0 b = b :: l := rfl
theorem jS {α : Type _} (a b : α) (l : List α) (n : Nat) : (a :: l).set (n + 1) b = a :: l.set n b := rfl
end Go.Proofs.YtpeghilfldpgfaaGreatDoor
