/-
  What the document fixes of chain pages, in plain mathematics; the calls that the laws make, as contracts in one form.
-/
import Derived.Test.YtahkigabapdleaaDoorCParts
import Derived.Test.YtahkigabapdleaaDoorCDec
import Derived.Test.YtahkigabapdleaaDoorHDocS
namespace Go.Proofs.YtahkigabapdleaaDoor
open Go.RowKit CP
set_option linter.unusedVariables false
set_option linter.unusedSimpArgs false

def abc : ByteArray := ⟨#[97, 98, 99]⟩
def rep (c : UInt8) (n : Nat) : ByteArray := ⟨(List.replicate n c).toArray⟩
theorem rep_size (c : UInt8) (n : Nat) : (rep c n).size = n := by
  show (List.replicate n c).toArray.size = n
  rw [List.size_toArray, List.length_replicate]
theorem abc_may : May 5 0 abc.size 128 := of_decide_eq_true (by kernel_rfl)
theorem abc_enc : ∃ S : ByteArray, enc 5 0 abc 128 = (S, 0) ∧ S.size = 128 ∧ S.extract 16 20 = ⟨#[97, 98, 99, 0]⟩ ∧ dec S = some (5, 0, abc) ∧ S.data[0]? = some 4 ∧ S.data[2]? = some 3 := by
  have h := enc_good abc_may
  have hs := enc_size h
  refine ⟨_, h, by omega, ?_, (enc_facts h).2.2, ?_, ?_⟩
  · apply ByteArray.ext
    apply Array.toList_inj.1
    rw [Lib.extract_data]
    show ((page 5 0 abc 128).drop 16).take 4 = _
    rw [show (page 5 0 abc 128).drop 16 = L7.HP.rest abc.data.toList 128 from L7.HP.page_drop _ _ (L7.HP.front_length _)]
    rfl
  · show (page 5 0 abc 128).toArray[0]? = some 4
    rw [List.getElem?_toArray]
    kernel_rfl
  · show (page 5 0 abc 128).toArray[2]? = some 3
    rw [List.getElem?_toArray]
    kernel_rfl
theorem abc_arg : enc 5 0 abc 64 = (⟨#[]⟩, 4) := enc_arg (by decide)
theorem none_form : enc 5 0 ⟨#[]⟩ 128 = (⟨#[]⟩, 3) := enc_form (by decide) (of_decide_eq_false (by kernel_rfl))
theorem less_form : enc 5 6 abc 128 = (⟨#[]⟩, 3) := enc_form (by decide) (of_decide_eq_false (by kernel_rfl))
theorem full_enc : ∃ T : ByteArray, enc 5 6 (rep 7 112) 128 = (T, 0) ∧ T.size = 128 ∧ dec T = some (5, 6, rep 7 112) := by
  have hm : May 5 6 (rep 7 112).size 128 := by rw [rep_size]; exact of_decide_eq_true (by kernel_rfl)
  have h := enc_good hm
  have hs := enc_size h
  exact ⟨_, h, by omega, (enc_facts h).2.2⟩
theorem zeros_dec : dec (rep 0 128) = none := dec_bad fun h => by
  have h0 := h.1
  by_cases hg : L7.mayBe (rep 0 128).size = true ∧ L7.HP.good (rep 0 128).data.toList
  · have h1 := hg.2.1.1
    have h2 : (L7.HP.headOf (rep 0 128).data.toList).k = 0 := by kernel_rfl
    rw [h2] at h1
    exact absurd h1 (by decide)
  · rw [L7.HP.opn_bad hg] at h0
    cases h0
theorem pages_113 : pages 113 112 = 2 := by decide
theorem pages_0 : pages 0 112 = 0 := by decide

/-! ## Calls -/
theorem tEnc (F N : Int) (D : ByteArray) (p : Int) {S : ByteArray} {c : Int} (h : enc F N D p = (S, c)) : Hid (L7.Tells 10 #[cv F N D, .int .i64 p] (.tuple #[.string S, .int .i64 c])) := Lib.hid fun W hW => by
  have h1 := enc_any F N D p W hW
  rw [encV, h] at h1
  exact h1
theorem tMay (F N : Int) (D : ByteArray) (p : Int) {b : Bool} (h : decide (May F N D.size p) = b) : Hid (L7.Tells 15 #[cv F N D, .int .i64 p] (.bool b)) := Lib.hid fun W hW => by
  have h1 := may_any F N D p W hW
  rw [h] at h1
  exact h1
theorem tDec (s : ByteArray) {v : Value} (h : decV s = v) (hs : s.size ≤ maxLen) : Hid (L7.Tells 13 #[.string s] v) := Lib.hid fun W hW => by
  have h1 := dec_any s W hW hs
  rw [h] at h1
  exact h1
theorem tRep (c : UInt8) (n : Nat) (hn : n ≤ 100000) : Hid (L7.Tells 24 #[.int .u8 c.toNat, .int .i64 n] (.string (rep c n))) := Lib.hid fun W _ => L7.refRepeat_any c n W hn
theorem tPages (n : Int) (p r : Nat) (hp : L7.mayBe p = true) (hr : p = r + 16) (hn : (Lit.int .i64 n).wf = true) {k : Int} (hk : pagesI n r = k) : Hid (L7.Tells 22 #[.int .i64 n, .int .i64 p] (.int .i64 k)) := Lib.hid fun W hW => by
  refine (pages_any n p r W hp hr hn hW).mono fun e w' ⟨h1, h2⟩ => ⟨?_, ?_⟩
  · rw [h1, hk]
  · subst h2
    exact Below.refl _ _
/-- What the laws' own fixed answers. -/
def Fixes : Prop := L7.Tells 18 #[] (.bool true)
end Go.Proofs.YtahkigabapdleaaDoor
