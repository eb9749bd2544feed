/-
  What the document fixes of metas, in plain mathematics; the calls that the laws make, as contracts in one form.
-/
import Derived.Test.YtnjmkljnjngpkaaDoorMTear
import Derived.Test.YtnjmkljnjngpkaaDoorHDocS
namespace Go.Proofs.YtnjmkljnjngpkaaDoor
open Go.RowKit MP
set_option linter.unusedVariables false
set_option linter.unusedSimpArgs false

def m0 : Mt := ⟨128, 2, 1, 0, 0⟩
theorem m0_may : May m0 := of_decide_eq_true (by kernel_rfl)
theorem m0_enc : ∃ S : ByteArray, enc m0 = (S, 0) ∧ S.size = 128 ∧ S.extract 16 22 = ⟨#[119, 105, 116, 104, 121, 128]⟩ ∧ dec S = some m0 ∧ S.data[0]? = some 1 ∧ S.data[4]? = some 1 ∧ S.data[127]? = some 87 := by
  have h := enc_good m0_may
  have hs : ((⟨(page m0).toArray⟩ : ByteArray).size : Int) = 128 := enc_size h
  refine ⟨_, h, by omega, ?_, (enc_facts h).2.2, ?_, ?_, ?_⟩
  · apply ByteArray.ext
    apply Array.toList_inj.1
    rw [Lib.extract_data]
    show ((page m0).drop 16).take 6 = _
    rw [show (page m0).drop 16 = body m0 from L7.HP.page_drop _ _ (L7.HP.front_length _)]
    rfl
  · show (page m0).toArray[0]? = some 1
    rw [List.getElem?_toArray]
    kernel_rfl
  · show (page m0).toArray[4]? = some 1
    rw [List.getElem?_toArray]
    kernel_rfl
  · show (page m0).toArray[127]? = some 87
    rw [List.getElem?_toArray]
    kernel_rfl
theorem m1_form : enc ⟨128, 2, 2, 0, 0⟩ = (⟨#[]⟩, 3) := enc_form (of_decide_eq_false (by kernel_rfl))
theorem z_form : enc ⟨0, 0, 0, 0, 0⟩ = (⟨#[]⟩, 3) := enc_form (of_decide_eq_false (by kernel_rfl))

/-! ## Calls -/
theorem tEnc (P G R L C : Int) {S : ByteArray} {c : Int} (h : enc ⟨P, G, R, L, C⟩ = (S, c)) : Hid (L7.Tells 9 #[mv P G R L C] (.tuple #[.string S, .int .i64 c])) := Lib.hid fun W hW => by
  have h1 := enc_any P G R L C W hW
  rw [encV, h] at h1
  exact h1
theorem tMay (P G R L C : Int) {b : Bool} (h : decide (May ⟨P, G, R, L, C⟩) = b) : Hid (L7.Tells 14 #[mv P G R L C] (.bool b)) := Lib.hid fun W hW => by
  have h1 := may_any P G R L C W hW
  rw [h] at h1
  exact h1
theorem tDec (s : ByteArray) {v : Value} (h : decV s = v) (hs : s.size ≤ maxLen) : Hid (L7.Tells 12 #[.string s] v) := Lib.hid fun W hW => by
  have h1 := dec_any s W hW hs
  rw [h] at h1
  exact h1
theorem tRep (c : UInt8) (n : Nat) (hn : n ≤ 100000) : Hid (L7.Tells 19 #[.int .u8 c.toNat, .int .i64 n] (.string (rep c n))) := Lib.hid fun W _ => L7.refRepeat_any c n W hn
theorem tTear (a b : ByteArray) (i : Int) {T : ByteArray} (h : tear a b i = T) (ha : a.size ≤ 100000) (hb : b.size ≤ maxLen) (hi : (Lit.int .i64 i).wf = true) : Hid (L7.Tells 16 #[.string a, .string b, .int .i64 i] (.string T)) := Lib.hid fun W _ => by
  subst h
  exact tear_any a b i W ha hb hi
/-- What the laws' own fixed answers. -/
def Fixes : Prop := L7.Tells 18 #[] (.bool true)
theorem getE_of {s : ByteArray} {i : Nat} {c : UInt8} (h : s.data[i]? = some c) (hi : i < s.size) : s[i] = c := by
  have h2 := Array.getElem?_eq_some_iff.1 h
  obtain ⟨h3, h4⟩ := h2
  rw [← h4]
  rfl
end Go.Proofs.YtnjmkljnjngpkaaDoor
