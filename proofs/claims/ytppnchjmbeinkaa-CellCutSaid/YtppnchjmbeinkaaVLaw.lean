/-
  What the walks of the laws of layer 9 share.
-/
import Derived.Test.YtppnchjmbeinkaaVSizes
namespace Go.Proofs.Ytppnchjmbeinkaa
open Go.RowKit
set_option linter.unusedVariables false
set_option linter.unusedSimpArgs false

/-- A block of cells. -/
def Blk (g : Nat) (cs : Array Value) (t : TypeId) (w : World) : Prop := w.heap[g]? = some (.cells cs t (0, 0))
theorem Blk.below {g : Nat} {cs : Array Value} {t : TypeId} {w w' : World} (k : Blk g cs t w) (b : Below w.heap.size w w') : Blk g cs t w' := (b.block g (Array.getElem?_eq_some_iff.1 k).1).trans k
theorem Blk.cell {g : Nat} {cs : Array Value} {t : TypeId} {w : World} (k : Blk g cs t w) (i : Nat) (v : Value) (h : cs[i]? = some v) : w.cell? ⟨g, i, none⟩ = some v := by
  rw [cell_of_row _ _ i _ _ _ k]; exact h
theorem bounds_u16 {a : Int} (h : (Lit.int .u16 a).wf = true) : 0 ≤ a ∧ a < 65536 := by
  simp [Lit.wf, IntKind.min, IntKind.max, IntKind.signed, IntKind.bits] at h
  omega
theorem bounds_u8 {a : Int} (h : (Lit.int .u8 a).wf = true) : 0 ≤ a ∧ a < 256 := by
  simp [Lit.wf, IntKind.min, IntKind.max, IntKind.signed, IntKind.bits] at h
  omega
theorem put_short (n : Nat) (h : n ≤ 240) : (WP.put n).length = 1 := by rw [WP.put_1 n h, Lib.beBytes_length]
theorem bytes_inj {s t : ByteArray} (h : s.data.toList = t.data.toList) : s = t := ByteArray.ext (Array.toList_inj.1 h)
theorem cut_list (s : ByteArray) (i j : Nat) : (s.extract i j).data.toList = (s.data.toList.drop i).take (j - i) := Lib.extract_data s i j
theorem tail_bound (O : Bool) (V : ByteArray) (L P : Int) (h : VP.Right (pv O V L P)) (hV : V.size ≤ 300) : (VP.tail (pv O V L P)).length ≤ 400 := by
  cases O with
  | true =>
    obtain ⟨_, h1, h2, _, _⟩ := (right_over V L P).1 h
    have h3 := wput_size L.toNat (by omega)
    rw [bytes_size] at h3
    simp [VP.tail, pv, Lib.leBytes_length]
    omega
  | false =>
    have h3 := wput_size V.size (by omega)
    rw [bytes_size] at h3
    simp [VP.tail, pv, VP.text]
    omega
theorem list_size (t : ByteArray) : t.data.toList.length = t.size := by simp
theorem cell_bound {T V : ByteArray} {O : Bool} {L P : Int} (h : VP.OkV T.data.toList (pv O V L P)) (hV : V.size ≤ 300) : (cellS T (pv O V L P)).size ≤ 600 := by
  have h1 := tail_bound O V L P h.2 hV
  have h2 := put_short T.size (by have := h.1; rw [list_size] at this; omega)
  have h3 := h.1
  rw [list_size] at h3
  rw [cellS, bytes_size]
  simp only [VP.cellV, VP.text, List.length_append, list_size, h2]
  omega
theorem kid_bound {k : Nat} {T : ByteArray} (h : T.size ≤ 128) : (kidS k T).size ≤ 600 := by
  have h2 := put_short T.size (by omega)
  rw [kidS_size, h2]
  omega
theorem cellS_list (t : ByteArray) (v : VP.V) : (cellS t v).data.toList = VP.cellV t.data.toList v := by simp [cellS]
theorem kidS_list (k : Nat) (t : ByteArray) : (kidS k t).data.toList = VP.cellK k t.data.toList := by simp [kidS]
theorem toBA (T : ByteArray) : (⟨T.data.toList.toArray⟩ : ByteArray) = T := ByteArray.ext (by simp)
theorem got_put {T V : ByteArray} {O : Bool} {L P : Int} (h : VP.OkV T.data.toList (pv O V L P)) : gotV (VP.getV (cellS T (pv O V L P)).data.toList) = .tuple #[.string T, vv O V L P, .int .i64 0] := by
  rw [cellS_list, VP.getV_cell _ _ h]
  simp only [gotV, toBA]
theorem gotk_put {k : Nat} {T : ByteArray} (h : VP.OkK k T.data.toList) : gotK (VP.getK (kidS k T).data.toList) = .tuple #[.int .i64 k, .string T, .int .i64 0] := by
  rw [kidS_list, VP.getK_cell _ _ h]
  simp only [gotK, toBA]
theorem putV_yes {T V : ByteArray} {O : Bool} {L P : Int} (h : VP.OkV T.data.toList (pv O V L P)) : putVV T (pv O V L P) = .tuple #[.string (cellS T (pv O V L P)), .int .i64 0] := if_pos h
theorem putV_no {T V : ByteArray} {O : Bool} {L P : Int} (h : ¬ VP.OkV T.data.toList (pv O V L P)) : putVV T (pv O V L P) = .tuple #[.string ⟨#[]⟩, .int .i64 3] := if_neg h
theorem putK_yes {k : Int} {T : ByteArray} (h : VP.OkK k T.data.toList) : putKV k T = .tuple #[.string (kidS k.toNat T), .int .i64 0] := if_pos h
theorem putK_no {k : Int} {T : ByteArray} (h : ¬ VP.OkK k T.data.toList) : putKV k T = .tuple #[.string ⟨#[]⟩, .int .i64 3] := if_neg h
/-- What is got of any bytes, and what is put of that. -/
theorem got_any (s : ByteArray) : ∃ (T : ByteArray) (O : Bool) (V : ByteArray) (L P e : Int) (C : ByteArray) (f : Int), T.size ≤ 128 ∧ V.size ≤ 256 ∧ gotV (VP.getV s.data.toList) = .tuple #[.string T, vv O V L P, .int .i64 e] ∧ putVV T (pv O V L P) = .tuple #[.string C, .int .i64 f] ∧ ((e = 0 ∧ f = 0 ∧ C = s) ∨ e = 3) := by
  cases h : VP.getV s.data.toList with
  | none => exact ⟨⟨#[]⟩, false, ⟨#[]⟩, 0, 0, 3, ⟨#[0, 0, 0]⟩, 0, by decide, by decide, rfl, by kernel_rfl, .inr rfl⟩
  | some x =>
    obtain ⟨t, v⟩ := x
    obtain ⟨h1, h2⟩ := VP.getV_some h
    obtain ⟨T, rfl⟩ := listS t
    obtain ⟨O, v', L, P⟩ := v
    obtain ⟨V, rfl⟩ := listS v'
    have h3 := h1.1
    rw [list_size] at h3
    have h4 : V.size ≤ 256 := by
      rcases h1.2 with ⟨_, e, _⟩ | ⟨_, e, _⟩
      · have := congrArg List.length e
        rw [list_size] at this
        simp only [List.length_nil] at this
        omega
      · simp only [list_size] at e
        omega
    exact ⟨T, O, V, L, P, 0, s, 0, h3, h4, by simp only [gotV, toBA], by rw [show (pv O V L P) = (⟨O, V.data.toList, L, P⟩ : VP.V) from rfl, putVV, if_pos h1]; rw [show cellS T ⟨O, V.data.toList, L, P⟩ = s from bytes_inj (by rw [cellS_list]; exact h2)], .inl ⟨rfl, rfl, rfl⟩⟩
theorem gotk_any (s : ByteArray) : ∃ (k : Int) (T : ByteArray) (e : Int) (C : ByteArray) (f : Int), T.size ≤ 128 ∧ gotK (VP.getK s.data.toList) = .tuple #[.int .i64 k, .string T, .int .i64 e] ∧ putKV k T = .tuple #[.string C, .int .i64 f] ∧ ((e = 0 ∧ f = 0 ∧ C = s) ∨ e = 3) := by
  cases h : VP.getK s.data.toList with
  | none => exact ⟨0, ⟨#[]⟩, 3, ⟨#[]⟩, 3, by decide, rfl, by kernel_rfl, .inr rfl⟩
  | some x =>
    obtain ⟨k, t⟩ := x
    obtain ⟨h1, h2⟩ := VP.getK_some h
    obtain ⟨T, rfl⟩ := listS t
    have h3 := h1.2.2
    rw [list_size] at h3
    exact ⟨k, T, 0, s, 0, h3, by simp only [gotK, toBA], by rw [putKV, if_pos h1]; rw [show kidS (k : Int).toNat T = s from bytes_inj (by rw [kidS_list]; exact h2)], .inl ⟨rfl, rfl, rfl⟩⟩
/-- A value's box, and one behind it, of which nothing is changed. -/
theorem keep_two {T1 T2 : TypeId} {g : Nat} {O : Bool} {V : ByteArray} {L P : Int} {cs : Array Value} {W : World} (h1 : Bx T1 g O V L P W) (h2 : Blk (g + 1) cs T2 W) :
    Hid (∀ Z, Below W.heap.size W Z → Bx T1 g O V L P Z ∧ Blk (g + 1) cs T2 Z) := Lib.hid fun Z hb => ⟨h1.below hb, h2.below hb⟩
end Go.Proofs.Ytppnchjmbeinkaa
