/-
  What Seal, Open and Right tell, as contracts in one form; what the document fixes.
-/
import Derived.Test.YtnjmkljnjngpkaaDoorHOpen
namespace Go.Proofs.YtnjmkljnjngpkaaDoor.L7
open Go.RowKit
set_option linter.unusedVariables false
set_option linter.unusedSimpArgs false

/-- A call tells a value in every world that has the sizes. -/
def Tells (f : FuncId) (args : Array Value) (v : Value) : Prop := ∀ W, Sizes W → Calls Tryd.prog f args W fun e w' => e = .returned v ∧ Below W.heap.size W w'
theorem Tells.at {f : FuncId} {args : Array Value} {v : Value} {W0 W : World} (t : Hid (Tells f args v)) (s : Hid (Sizes W0)) (b : Below W0.heap.size W0 W) : Calls Tryd.prog f args W fun e w' => e = .returned v ∧ Below W0.heap.size W0 w' :=
  (t.out W (s.out.kept b)).mono fun e w' ⟨h1, h2⟩ => ⟨h1, b.trans' h2⟩
theorem Tells.held {c : Prop} {f : FuncId} {args : Array Value} {v : Value} {W0 W : World} (t : Hid (Tells f args v)) (s : Hid (Sizes W0)) (b : Hid (Below W0.heap.size W0 W) ∧ c) : Calls Tryd.prog f args W fun e w' => e = .returned v ∧ Below W0.heap.size W0 w' := Tells.at t s b.1.out
def seaV (h : HP.H) (b : ByteArray) (p : Int) : Value := .tuple #[.string (HP.sea h b p).1, .int .i64 (HP.sea h b p).2]
theorem tSeal (h : HP.H) (b : ByteArray) (p : Int) (hp : (Lit.int .i64 p).wf = true) (hb : b.size ≤ maxLen) : Hid (Tells 25 #[hv h, .string b, .int .i64 p] (seaV h b p)) := Lib.hid fun W hW => seal_any h b p W hW hp hb
theorem tOpen (s : ByteArray) (hs : s.size ≤ maxLen) : Hid (Tells 44 #[.string s] (opnV s)) := Lib.hid fun W hW => open_any s W hW hs
theorem Tells.as {f : FuncId} {args : Array Value} {v v' : Value} (t : Hid (Tells f args v)) (h : v = v') : Hid (Tells f args v') := h ▸ t

theorem toBytes (l : List UInt8) : (⟨l.toArray⟩ : ByteArray).data.toList = l := rfl
theorem sizeOf (l : List UInt8) : (⟨l.toArray⟩ : ByteArray).size = l.length := by simp [ByteArray.size]
theorem opened {L R : List UInt8} {h : HP.H} (hm : mayBe L.length = true) (hg : HP.good L) (hh : HP.headOf L = h) (hd : L.drop 16 = R) : HP.opn ⟨L.toArray⟩ = (h, ⟨R.toArray⟩, 0) := by
  have hs := sizeOf L
  have e : (⟨L.toArray⟩ : ByteArray).extract 16 L.length = ⟨R.toArray⟩ := by
    apply ByteArray.ext
    apply Array.toList_inj.1
    rw [Lib.extract_data, toBytes, hd, List.take_of_length_le (by rw [← hd, List.length_drop]; exact Nat.le_refl _)]
  have hx := HP.opn_good (s := ⟨L.toArray⟩) (by rw [hs]; exact hm) hg
  rw [hx, hs, e, toBytes, hh]
theorem page_size (h : HP.H) (b : ByteArray) (p : Nat) (hb : b.size + 16 ≤ p) : (HP.page (HP.front h) (HP.rest b.data.toList p)).length = p := by
  have hbl : b.data.toList.length = b.size := by simp
  rw [HP.page_length, HP.front_length, HP.rest_length _ _ (by omega)]
  omega
/-- A page is opened as it was sealed. -/
theorem page_opened {h : HP.H} {b : ByteArray} {p : Nat} (hm : mayBe p = true) (hr : HP.Ok h) (hb : b.size + 16 ≤ p) :
    HP.opn ⟨(HP.page (HP.front h) (HP.rest b.data.toList p)).toArray⟩ = (h, ⟨(HP.rest b.data.toList p).toArray⟩, 0) :=
  opened (by rw [page_size h b p hb]; exact hm) (HP.good_page h _ hr) (HP.headOf_page h _ hr) (HP.page_drop _ _ (HP.front_length h))

end Go.Proofs.YtnjmkljnjngpkaaDoor.L7
