/-
  The walk of slot.Size.
-/
import Derived.Test.YtbkjmcnichpmjaaLRef
namespace Go.Proofs.Ytbkjmcnichpmjaa
open Go.RowKit
set_option linter.unusedVariables false
set_option linter.unusedSimpArgs false

set_option maxHeartbeats 1000000 in
theorem size_any (f : ByteArray) (A : Option Addr) (l : List ByteArray) (ca : Nat) (w : World) (ha : Lies w w.heap.size A l) (hl : l.length ≤ 1000000) (hf : f.size ≤ 1000000) (hs : ∀ s ∈ l, s.size ≤ 65535) :
    Calls Try.prog 13 #[.string f, .slice A l.length ca] w fun e w' => e = .returned (.int .i64 (LP.need f.size (Bs l) : Nat)) ∧ w = w' := by
  have HA := Lib.hid ha
  have HS := Lib.hid hs
  obtain ⟨n, hn⟩ : ∃ n, n = l.length := ⟨_, rfl⟩
  have HN := Lib.hid hn
  rw [← hn] at hl ⊢
  clear ha hs hn
  go_enter Try.func13, Try.ntmps13
  go_wp2_with fail
  go_loop [5, 7, 17] (fun nv cv iv => ∃ k : Nat, k ≤ n ∧ iv = .int .i64 k ∧ nv = .int .i64 (f.size + 2 * (n + 1) + LP.sum (Bs (l.take k)) : Nat)) (fun _ _ iv => n - (intOf iv).toNat)
  case atStart => exact ⟨0, Nat.zero_le _, rfl, by simp [Bs, LP.sum]⟩
  case round =>
    obtain ⟨k, hk, rfl, rfl⟩ := hrel
    have hb : LP.sum (Bs (l.take k)) ≤ 65535 * n := Nat.le_trans (sum_bs _ (fun s hs => HS.out s (List.mem_of_mem_take hs))) (Nat.mul_le_mul_left _ (by rw [List.length_take]; omega))
    by_cases hlt : k < n
    · obtain ⟨c, hc⟩ : ∃ c, l[k]? = some c := ⟨_, List.getElem?_eq_getElem (by have := HN.out; omega)⟩
      obtain ⟨a, rfl, hab, hcell⟩ := HA.out k c hc
      have hcs : c.size ≤ 65535 := HS.out c (List.mem_of_getElem? hc)
      have HT := Lib.hid (sum_take l k c hc)
      clear hc hab
      generalize LP.sum (Bs (l.take k)) = q at *
      go_wp2_with fail
      go_round
      case rel => exact ⟨k + 1, by omega, by go_num, by rw [HT.out]; go_num⟩
      case measure => simp [intOf]; omega
    · obtain rfl : k = n := by omega
      have HE : Hid (f.size + 2 * (k + 1) + LP.sum (Bs (l.take k)) = LP.need f.size (Bs l)) := Lib.hid (by
        rw [HN.out, List.take_length]
        unfold LP.need
        rw [bs_length]
        omega)
      rw [HE.out]
      go_wp2_with fail
      go_ret
      exact ⟨rfl, rfl⟩
end Go.Proofs.Ytbkjmcnichpmjaa
