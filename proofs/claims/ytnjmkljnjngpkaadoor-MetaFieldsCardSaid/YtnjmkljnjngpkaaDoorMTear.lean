/-
  The walks of meta.Tear and of the document's.
-/
import Derived.Test.YtnjmkljnjngpkaaDoorMDec
import Derived.Lib.MinMaxS
import Derived.Lib.BufferWrite
namespace Go.Proofs.YtnjmkljnjngpkaaDoor
open Go.RowKit MP
set_option linter.unusedVariables false
set_option linter.unusedSimpArgs false

/-- A page that is torn, as what stands ahead and what stands behind. -/
theorem tear_cut {a b : ByteArray} {i : Int} (h : a.size = b.size) : a.extract 0 (upTo b.size i) ++ b.extract (upTo b.size i) b.size = tear a b i := by
  apply ByteArray.ext
  apply Array.toList_inj.1
  have hb : b.data.toList.length = b.size := by simp
  rw [tear_same h, ByteArray.data_append, Array.toList_append, Lib.extract_data, Lib.extract_data, List.drop_zero, Nat.sub_zero, List.take_of_length_le (l := b.data.toList.drop _) (by rw [List.length_drop, hb]; exact Nat.le_refl _)]
set_option maxHeartbeats 2000000 in
set_option maxRecDepth 100000 in
theorem tear_any (a b : ByteArray) (i : Int) (w : World) (ha : a.size ≤ 100000) (hb : b.size ≤ maxLen) (hi : (Lit.int .i64 i).wf = true) :
    Calls Tryd.prog 16 #[.string a, .string b, .int .i64 i] w fun e w' => e = .returned (.string (tear a b i)) ∧ Below w.heap.size w w' := by
  have hib := bounds_i64 hi
  by_cases h : a.size = b.size
  · have hcut := tear_cut (i := i) h
    have hts := tear_size (at' := i) h
    have hmin : min (max i 0) (a.size : Int) = (upTo b.size i : Nat) := by unfold upTo; omega
    have hle := upTo_le b.size i
    generalize upTo b.size i = m at *
    obtain ⟨A, hA⟩ : ∃ A, a.extract 0 m = A := ⟨_, rfl⟩
    obtain ⟨B, hB⟩ : ∃ B, b.extract m b.size = B := ⟨_, rfl⟩
    obtain ⟨T, hT⟩ : ∃ T, tear a b i = T := ⟨_, rfl⟩
    rw [hA, hB, hT] at hcut
    rw [hT] at hts
    rw [hT]
    have z : ¬ 9223372036854775807 < A.size + B.size := by
      have := congrArg ByteArray.size hcut
      rw [ByteArray.size_append] at this
      omega
    have q0 : (0 : Int) ≤ m := by omega
    have q1 : (m : Int) ≤ a.size := by omega
    have q2 : (m : Int) ≤ b.size := by omega
    have d : ((a.size : Int) != (b.size : Int)) = false := by simp [h]
    have HC := Lib.hid (fun W => L5.clone_any T W (by omega))
    have HSA : Hid (∀ V, Below w.heap.size w V → (fun V => Hid (Below w.heap.size w V) ∧ True) V) := Lib.hid (fun V hb => ⟨Lib.hid hb, trivial⟩)
    have hSA := HSA.out _ (Below.refl _ _)
    have hSd := HSA.out _ (L5.below_drewN (Below.refl _ w) 1)
    clear hle hts h hT hi hib
    go_enter Tryd.func16, Tryd.ntmps16
    go_wp2_with fail
    go_region_held3 (fun V => Hid (Below w.heap.size w V) ∧ True) (first | assumption | exact hSd)
      (first
        | (go_at_call 31; refine (HC.out _).mono ?_; rintro e V5 ⟨rfl, hb⟩; have hSn := HSA.out _ ((L5.below_drewN (Below.refl _ w) 1).trans' hb))
        | fail "no arm")
    go_wp2_with fail
    go_ret
    exact ⟨rfl, hSn.1.out⟩
  · rw [tear_unlike h]
    have d : ((a.size : Int) != (b.size : Int)) = true := by simp; omega
    clear hi hib
    go_enter Tryd.func16, Tryd.ntmps16
    go_wp2_with fail
    go_ret
    exact ⟨rfl, Below.refl _ _⟩
/-- Block g has these bytes at its head, and they may be written. -/
def BytesAt (g : Nat) (l : List UInt8) (w : World) : Prop := (∀ j c, l[j]? = some c → w.cell? ⟨g, j, none⟩ = some (.int .u8 (c.toNat : Nat))) ∧ (∀ j, j < l.length → w.frozen? ⟨g, j, none⟩ = false) ∧ g < w.heap.size

theorem bytesAt_set {g : Nat} {l : List UInt8} {w : World} (h : BytesAt g l w) (i : Nat) (c : UInt8) (hi : i < l.length) : BytesAt g (l.set i c) (w.setCell ⟨g, i, none⟩ (.int .u8 (c.toNat : Nat))) := by
  obtain ⟨h1, h2, h3⟩ := h
  refine ⟨fun j d hj => ?_, fun j hj => ?_, by simpa using h3⟩
  · by_cases e : i = j
    · subst e
      rw [List.getElem?_set_self hi] at hj
      simp only [Option.some.injEq] at hj
      subst hj
      obtain ⟨v, hv⟩ : ∃ v, w.cell? ⟨g, i, none⟩ = some v := ⟨_, h1 i l[i] (List.getElem?_eq_getElem hi)⟩
      exact World.cell?_setCell_same _ _ _ hv
    · rw [List.getElem?_set_ne e] at hj
      rw [World.cell?_setCell_other _ _ _ _ (fun h => e (by injection h))]
      exact h1 j d hj
  · rw [List.length_set] at hj
    have h := h2 j hj
    simpa using h
theorem bytesAt_drew {g : Nat} {l : List UInt8} {w : World} (h : BytesAt g l w) : BytesAt g l w.drew := h
theorem conv_at {g n cap : Nat} {l : List UInt8} {w : World} (h : BytesAt g l w) (hl : l.length = n) :
    (convert 63 9 (.slice (some ⟨g, 0, none⟩) n cap)).run Tryd.prog w = .ok (.string ⟨l.toArray⟩) w := by
  have hc := run_convert_bytes_back (P := Tryd.prog) w 63 9 5 ⟨g, 0, none⟩ cap l Tryd.underlying63 Tryd.underlying5 Tryd.underlying9 (fun j hj => by
    rw [L7.addr_at]
    exact h.1 j _ (List.getElem?_eq_getElem hj))
  rwa [hl] at hc
/-- '[]byte(s)'. -/
theorem conv_to (s : ByteArray) (w : World) : ∃ cap w', (convert 9 63 (.string s)).run Tryd.prog w = .ok (.slice (some ⟨w.heap.size, 0, none⟩) s.size cap) w' ∧ BytesAt w.heap.size s.data.toList w' ∧ Below w.heap.size w w' := by
  refine ⟨_, _, run_bytes_of_string (P := Tryd.prog) w 9 63 5 s Tryd.underlying9 Tryd.underlying63 Tryd.underlying5, ⟨fun j c hj => ?_, fun j hj => ?_, ?_⟩, ?_⟩
  · have hlt : j < s.data.size := by have := (List.getElem?_eq_some_iff.1 hj).1; simpa using this
    have h := World.cell?_alloc_mark w.drew (bytesRow s (grownCap w s.size 0 5)) 5 ((bytesRow s (grownCap w s.size 0 5)).size, (bytesRow s (grownCap w s.size 0 5)).size + 1) j
    rw [bytesRow_at s _ j hlt] at h
    have e : s.data[j] = c := by
      have := (List.getElem?_eq_some_iff.1 hj).2
      simpa using this
    rw [e] at h
    exact h
  · have hlt : j < s.data.size := by simpa using hj
    have h := World.frozen?_alloc_mark w.drew (bytesRow s (grownCap w s.size 0 5)) 5 (bytesRow s (grownCap w s.size 0 5)).size ((bytesRow s (grownCap w s.size 0 5)).size + 1) j
    have hsz : s.data.size ≤ (bytesRow s (grownCap w s.size 0 5)).size := by simp [bytesRow]
    rw [decide_eq_false (show ¬ (bytesRow s (grownCap w s.size 0 5)).size ≤ j by omega)] at h
    exact h
  · show w.heap.size < (w.heap.push _).size
    simp
  · exact (Below.refl _ w).drew.alloc (Nat.le_refl _) _


theorem tl_step {A B : List UInt8} {k : Nat} (hk : k < A.length) (hB : A.length = B.length) : (A.take k ++ B.drop k).set k A[k] = A.take (k + 1) ++ B.drop (k + 1) := by
  apply List.ext_getElem?
  intro j
  rw [List.getElem?_set, tl_get (by omega), tl_get (by omega)]
  by_cases h : k = j
  · subst h
    rw [if_pos rfl, if_pos (by simp; omega), if_pos (by omega), List.getElem?_eq_getElem hk]
  · rw [if_neg h]
    by_cases h2 : j < k
    · rw [if_pos h2, if_pos (by omega)]
    · rw [if_neg h2, if_neg (by omega)]
set_option maxHeartbeats 2000000 in
set_option maxRecDepth 100000 in
theorem rtear_any (a b : ByteArray) (i : Int) (w : World) (ha : a.size ≤ 100000) (hb : b.size ≤ maxLen) :
    Calls Tryd.prog 17 #[.string a, .string b, .int .i64 i] w fun e w' => e = .returned (.string (tear a b i)) ∧ Below w.heap.size w w' := by
  by_cases h : a.size = b.size
  · have d : ((a.size : Int) != (b.size : Int)) = false := by simp [h]
    obtain ⟨cap, W, hcv, hba, hbl⟩ := conv_to b w
    have HBA := Lib.hid (show BytesAt w.heap.size (a.data.toList.take 0 ++ b.data.toList.drop 0) W by simpa using hba)
    have HBL := Lib.hid hbl
    have htr := Lib.hid (tear_same (at' := i) h)
    have hT : Hid (⟨(a.data.toList.take (upTo b.size i) ++ b.data.toList.drop (upTo b.size i)).toArray⟩ = tear a b i) := Lib.hid (by unfold tear; rw [if_pos h])
    have HH := Lib.hid h
    obtain ⟨n, hn⟩ : ∃ n, b.size = n := ⟨_, rfl⟩
    have HN := Lib.hid hn
    rw [hn] at hT hcv
    have hle := upTo_le n i
    have hup : ∀ k : Nat, k ≤ upTo n i → (k < upTo n i ∧ k < n ∧ (k : Int) < i) ∨ (k = upTo n i ∧ (k < n → i ≤ k)) := fun k hk => by
      unfold upTo at *
      omega
    have HUP := Lib.hid hup
    generalize upTo n i = m at *
    clear hba hbl hup h htr hn hb
    go_enter Tryd.func17, Tryd.ntmps17
    go_wp2_with fail
    go_loopw [8] (fun iv wr => ∃ k : Nat, k ≤ m ∧ iv = .int .i64 k ∧ Hid (BytesAt w.heap.size (a.data.toList.take k ++ b.data.toList.drop k) wr) ∧ Hid (Below w.heap.size w wr)) (fun iv _ => m - (intOf iv).toNat)
    case atStart => exact ⟨0, by omega, rfl, HBA, HBL⟩
    case round =>
      obtain ⟨k, hk, rfl, HBA, HBL⟩ := hrel
      have hal : a.data.toList.length = n := by rw [listLen]; exact HH.out.trans HN.out
      have hbl2 : b.data.toList.length = n := by rw [listLen]; exact HN.out
      by_cases hkm : k < m
      · obtain ⟨hk1, hk2⟩ : k < n ∧ (k : Int) < i := by
          rcases HUP.out k hk with h | h
          · exact h.2
          · omega
        have d1 : decide ((k : Int) < n) = true := decide_eq_true (by omega)
        have d2 : decide ((k : Int) < i) = true := decide_eq_true hk2
        have hak : k < a.size := by have := HH.out; have := HN.out; omega
        have hi0 : (0 : Int) ≤ k := by omega
        have hi1 : (k : Int) < a.size := by omega
        have hi2 : (k : Int) < n := by omega
        have hcell : ∃ v, wr.cell? ⟨w.heap.size, k, none⟩ = some v := by
          obtain ⟨c, hc⟩ : ∃ c, (a.data.toList.take k ++ b.data.toList.drop k)[k]? = some c := ⟨_, List.getElem?_eq_getElem (by rw [List.length_append, List.length_take, List.length_drop]; omega)⟩
          exact ⟨_, HBA.out.1 k c hc⟩
        obtain ⟨v, hcv2⟩ := hcell
        have hfr : wr.frozen? ⟨w.heap.size, k, none⟩ = false := HBA.out.2.1 k (by rw [List.length_append, List.length_take, List.length_drop]; omega)
        have HNX : Hid (BytesAt w.heap.size (a.data.toList.take (k + 1) ++ b.data.toList.drop (k + 1)) (wr.setCell ⟨w.heap.size, k, none⟩ (.int .u8 (a[k].toNat : Nat)))) := Lib.hid (by
          have h1 := bytesAt_set HBA.out k a[k] (by rw [List.length_append, List.length_take, List.length_drop]; omega)
          have h2 := tl_step (A := a.data.toList) (B := b.data.toList) (k := k) (by omega) (by omega)
          rw [show (a.data.toList[k]'(by omega)) = a[k] from rfl] at h2
          rw [h2] at h1
          exact h1)
        have HK1 := Lib.hid (show k + 1 ≤ m by omega)
        clear hal hbl2 hk hle hk2 hk1
        go_wp2_with fail
        go_roundw
        case rel => exact ⟨k + 1, HK1.out, by go_num, HNX, Lib.hid (HBL.out.setCell (Nat.le_refl _) _)⟩
        case measure => have := HK1.out; simp [intOf]; omega
      · obtain rfl : k = m := by omega
        have hc := conv_at (cap := cap) HBA.out (n := n) (by rw [List.length_append, List.length_take, List.length_drop]; omega)
        rw [hT.out] at hc
        have HX : (decide ((k : Int) < n) = false) ∨ (decide ((k : Int) < n) = true ∧ decide ((k : Int) < i) = false) := by
          rcases HUP.out k (Nat.le_refl _) with h | h
          · omega
          · by_cases h2 : k < n
            · right; exact ⟨decide_eq_true (by omega), decide_eq_false (by have := h.2 h2; omega)⟩
            · left; exact decide_eq_false (by omega)
        clear hal hbl2 hle hk hkm
        rcases HX with d1 | ⟨d1, d2⟩
        · have d3 : decide (k < n) = false := decide_eq_false (by have := of_decide_eq_false d1; omega)
          go_wp2_with fail
          go_ret
          exact ⟨rfl, HBL.out⟩
        · have d3 : decide (k < n) = true := decide_eq_true (by have := of_decide_eq_true d1; omega)
          go_wp2_with fail
          go_ret
          exact ⟨rfl, HBL.out⟩
  · rw [tear_unlike h]
    have d : ((a.size : Int) != (b.size : Int)) = true := by simp; omega
    go_enter Tryd.func17, Tryd.ntmps17
    go_wp2_with fail
    go_ret
    exact ⟨rfl, Below.refl _ _⟩
end Go.Proofs.YtnjmkljnjngpkaaDoor
