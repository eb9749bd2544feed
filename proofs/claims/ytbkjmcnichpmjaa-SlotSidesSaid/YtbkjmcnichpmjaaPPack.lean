/-
  The walk of slot.Pack.
-/
import Derived.Test.YtbkjmcnichpmjaaPTell
import Derived.Test.YtbkjmcnichpmjaaLPack
import Derived.Laws.CopyOwn
import Derived.Laws.MakeOwn
import Derived.Lib.BufferWrite
namespace Go.Proofs.Ytbkjmcnichpmjaa
open Go.RowKit
set_option linter.unusedVariables false
set_option linter.unusedSimpArgs false

theorem rep_add (a b : Nat) (x : UInt8) : List.replicate (a + b) x = List.replicate a x ++ List.replicate b x := by simp
/-- Bytes under way: fixed ones, some cells, and the places of these. -/
def packL (room : Nat) (F : List UInt8) (cs : List (List UInt8)) : List UInt8 := F ++ cs.flatten ++ List.replicate (room - (F.length + LP.sum cs + 2 * cs.length)) 0 ++ endL F.length cs
theorem packL_length (room : Nat) (F : List UInt8) (cs : List (List UInt8)) (h : F.length + LP.sum cs + 2 * cs.length ≤ room) : (packL room F cs).length = room := by
  have := endL_length cs F.length
  have := LP.flatten_length cs
  simp only [packL, List.length_append, List.length_replicate]
  omega
theorem tellL_at (X E : List UInt8) (n c : Nat) : tellL (X ++ List.replicate (n + 2) 0 ++ E) (X.length + n) c = X ++ List.replicate n 0 ++ (LP.two c ++ E) := by
  have e : X ++ List.replicate (n + 2) (0 : UInt8) ++ E = (X ++ List.replicate n 0) ++ (0 :: 0 :: E) := by
    rw [rep_add]
    simp [List.replicate]
  have hl : (X ++ List.replicate n (0 : UInt8)).length = X.length + n := by simp
  unfold tellL
  rw [e, List.set_append_right _ _ (by omega), hl, Nat.sub_self, List.set_cons_zero, List.set_append_right _ _ (by omega), hl, show X.length + n + 1 - (X.length + n) = 1 by omega]
  simp [LP.two]
/-- A place is told. -/
theorem packL_tell (room : Nat) (F : List UInt8) (cs : List (List UInt8)) (h : F.length + LP.sum cs + 2 * cs.length + 2 ≤ room) :
    tellL (packL room F cs) (room - 2 * cs.length - 2) (F.length + LP.sum cs) = F ++ cs.flatten ++ List.replicate (room - (F.length + LP.sum cs + 2 * cs.length) - 2) 0 ++ (LP.two (F.length + LP.sum cs) ++ endL F.length cs) := by
  obtain ⟨n, hn⟩ : ∃ n, room = F.length + LP.sum cs + 2 * cs.length + 2 + n := ⟨room - (F.length + LP.sum cs + 2 * cs.length + 2), by omega⟩
  have h1 := tellL_at (F ++ cs.flatten) (endL F.length cs) n (F.length + LP.sum cs)
  have hl : (F ++ cs.flatten).length = F.length + LP.sum cs := by rw [List.length_append, LP.flatten_length]
  rw [hl] at h1
  unfold packL
  rw [show room - (F.length + LP.sum cs + 2 * cs.length) = n + 2 by omega, show room - 2 * cs.length - 2 = F.length + LP.sum cs + n by omega, h1, show n + 2 - 2 = n by omega]
/-- A cell is copied. -/
theorem packL_copy (room : Nat) (F : List UInt8) (cs : List (List UInt8)) (c T : List UInt8) (h : F.length + LP.sum cs + 2 * cs.length + 2 + c.length ≤ room) (hT : T = F ++ cs.flatten ++ List.replicate (room - (F.length + LP.sum cs + 2 * cs.length) - 2) 0 ++ (LP.two (F.length + LP.sum cs) ++ endL F.length cs)) :
    T.take (F.length + LP.sum cs) ++ c ++ T.drop (F.length + LP.sum cs + c.length) = packL room F (cs ++ [c]) := by
  obtain ⟨n, hn⟩ : ∃ n, room = F.length + LP.sum cs + 2 * cs.length + 2 + c.length + n := ⟨room - (F.length + LP.sum cs + 2 * cs.length + 2 + c.length), by omega⟩
  have hl : (F ++ cs.flatten).length = F.length + LP.sum cs := by rw [List.length_append, LP.flatten_length]
  subst hT
  unfold packL
  rw [endL_snoc, LP.sum_append, show LP.sum [c] = c.length by simp [LP.sum], List.length_append, List.length_singleton, List.flatten_append, show [c].flatten = c by simp,
    show room - (F.length + LP.sum cs + 2 * cs.length) - 2 = c.length + n by omega, show room - (F.length + (LP.sum cs + c.length) + 2 * (cs.length + 1)) = n by omega, rep_add]
  rw [show F ++ cs.flatten ++ (List.replicate c.length (0 : UInt8) ++ List.replicate n 0) ++ (LP.two (F.length + LP.sum cs) ++ endL F.length cs) = (F ++ cs.flatten) ++ (List.replicate c.length (0 : UInt8) ++ (List.replicate n 0 ++ (LP.two (F.length + LP.sum cs) ++ endL F.length cs))) by simp only [List.append_assoc]]
  rw [← hl, List.take_left, ← List.drop_drop, List.drop_left, List.drop_left' (by simp)]
  simp only [List.append_assoc]
theorem packL_none (room : Nat) (F : List UInt8) : (List.replicate room (0 : UInt8)).take 0 ++ F ++ (List.replicate room (0 : UInt8)).drop (0 + F.length) = packL room F [] := by
  simp [packL, endL, LP.sum]
/-- All of it. -/
theorem packL_all (room : Nat) (F : List UInt8) (cs : List (List UInt8)) (h : LP.need F.length cs ≤ room) : tellL (packL room F cs) (room - 2 * cs.length - 2) (F.length + LP.sum cs) = LP.pack room F cs := by
  unfold LP.need at h
  rw [packL_tell room F cs (by omega)]
  unfold LP.pack LP.need
  rw [endL_dir, show room - (F.length + LP.sum cs + 2 * cs.length) - 2 = room - (F.length + 2 + LP.sum cs + 2 * cs.length) by omega]

theorem conv_row {P : Program} {w : World} {t e s : TypeId} {g : Nat} {l : List UInt8} {o : TypeId} (ht : P.underlying t = some (.slice e)) (he : P.underlying e = some (.int .u8)) (hs : P.underlying s = some .string)
    (h : w.heap[g]? = some (.cells (byteCells l).toArray o (0, 0))) (cap : Nat) : (convert t s (.slice (some ⟨g, 0, none⟩) l.length cap)).run P w = .ok (.string ⟨l.toArray⟩) w := by
  refine run_convert_bytes_back w t s e _ cap l ht he hs (fun j hj => ?_)
  rw [addr_at, cell_of_row _ _ j _ _ _ h, byteCells_get l j hj]
end Go.Proofs.Ytbkjmcnichpmjaa
