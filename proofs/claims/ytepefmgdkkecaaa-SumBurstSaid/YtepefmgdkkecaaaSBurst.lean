/-
  The walk of the law SumBurst.
-/
import Derived.Test.YtepefmgdkkecaaaSBytes
import Derived.Test.YtepefmgdkkecaaaSBurstM
import Derived.IntWalk
namespace Go.Proofs.Ytepefmgdkkecaaa
open Go.RowKit
set_option linter.unusedVariables false

/-- Block g has these bytes at its head, and they may be written. -/
def BytesAt (g : Nat) (l : List UInt8) (w : World) : Prop := (∀ j c, l[j]? = some c → w.cell? ⟨g, j, none⟩ = some (.int .u8 (c.toNat : Nat))) ∧ (∀ j, j < l.length → w.frozen? ⟨g, j, none⟩ = false) ∧ g < w.heap.size

theorem bytesAt_set {g : Nat} {l : List UInt8} {w : World} (h : BytesAt g l w) (i : Nat) (c : UInt8) (hi : i < l.length) : BytesAt g (l.set i c) (w.setCell ⟨g, i, none⟩ (.int .u8 (c.toNat : Nat))) := by
  obtain ⟨h1, h2, h3⟩ := h
  refine ⟨fun j d hj => ?_, fun j hj => ?_, by simpa using h3⟩
  · by_cases e : i = j
    · subst e
      rw [List.getElem?_set_self hi] at hj
      simp only [Option.some.injEq] at hj
      subst hj
      obtain ⟨v, hv⟩ : ∃ v, w.cell? ⟨g, i, none⟩ = some v := ⟨_, h1 i l[i] (List.getElem?_eq_getElem hi)⟩
      exact World.cell?_setCell_same _ _ _ hv
    · rw [List.getElem?_set_ne e] at hj
      rw [World.cell?_setCell_other _ _ _ _ (fun h => e (by injection h))]
      exact h1 j d hj
  · rw [List.length_set] at hj
    have h := h2 j hj
    simpa using h
theorem bytesAt_drew {g : Nat} {l : List UInt8} {w : World} (h : BytesAt g l w) : BytesAt g l w.drew := h
theorem conv_at {g n cap : Nat} {l : List UInt8} {w : World} (h : BytesAt g l w) (hl : l.length = n) :
    (convert 31 9 (.slice (some ⟨g, 0, none⟩) n cap)).run Try.prog w = .ok (.string ⟨l.toArray⟩) w := by
  have hc := run_convert_bytes_back (P := Try.prog) w 31 9 5 ⟨g, 0, none⟩ cap l Try.underlying31 Try.underlying5 Try.underlying9 (fun j hj => by
    rw [addr_at]
    exact h.1 j _ (List.getElem?_eq_getElem hj))
  rwa [hl] at hc
/-- '[]byte(s)'. -/
theorem conv_to (s : ByteArray) (w : World) : ∃ cap w', (convert 9 31 (.string s)).run Try.prog w = .ok (.slice (some ⟨w.heap.size, 0, none⟩) s.size cap) w' ∧ BytesAt w.heap.size s.data.toList w' ∧ Below w.heap.size w w' := by
  refine ⟨_, _, run_bytes_of_string (P := Try.prog) w 9 31 5 s Try.underlying9 Try.underlying31 Try.underlying5, ⟨fun j c hj => ?_, fun j hj => ?_, ?_⟩, ?_⟩
  · have hlt : j < s.data.size := by have := (List.getElem?_eq_some_iff.1 hj).1; simpa using this
    have h := World.cell?_alloc_mark w.drew (bytesRow s (grownCap w s.size 0 5)) 5 ((bytesRow s (grownCap w s.size 0 5)).size, (bytesRow s (grownCap w s.size 0 5)).size + 1) j
    rw [bytesRow_at s _ j hlt] at h
    have e : s.data[j] = c := by
      have := (List.getElem?_eq_some_iff.1 hj).2
      simpa using this
    rw [e] at h
    exact h
  · have hlt : j < s.data.size := by simpa using hj
    have h := World.frozen?_alloc_mark w.drew (bytesRow s (grownCap w s.size 0 5)) 5 (bytesRow s (grownCap w s.size 0 5)).size ((bytesRow s (grownCap w s.size 0 5)).size + 1) j
    have hsz : s.data.size ≤ (bytesRow s (grownCap w s.size 0 5)).size := by simp [bytesRow]
    rw [decide_eq_false (show ¬ (bytesRow s (grownCap w s.size 0 5)).size ≤ j by omega)] at h
    exact h
  · show w.heap.size < (w.heap.push _).size
    simp
  · exact (Below.refl _ w).drew.alloc (Nat.le_refl _) _

def nth4 (x y z u : UInt8) (k : Nat) : UInt8 := [x, y, z, u].getD k 0
theorem four_at {w : World} {B : Nat} {x y z u : UInt8} {k : Nat} (h : w.heap[B]? = some (.cells #[.int .u8 (x.toNat : Nat), .int .u8 (y.toNat : Nat), .int .u8 (z.toNat : Nat), .int .u8 (u.toNat : Nat)] 30 (0, 0))) (hk : k < 4) : w.cell? ⟨B, k, none⟩ = some (.int .u8 ((nth4 x y z u k).toNat : Nat)) := by
  rw [cell_of_row _ _ k _ _ _ h]
  rcases (show k = 0 ∨ k = 1 ∨ k = 2 ∨ k = 3 by omega) with rfl | rfl | rfl | rfl <;> rfl

set_option maxHeartbeats 1000000 in
theorem sumBurst_walk (s : ByteArray) (a : Int) (x y z u : UInt8) (w : World) (ws : s.size ≤ maxLen) (wa : (Lit.int .u16 a).wf = true) :
    Calls Try.prog 5 #[.string s, .int .u16 a, .agg #[.int .u8 x.toNat, .int .u8 y.toNat, .int .u8 z.toNat, .int .u8 u.toNat]] w fun e w' => e = .returned (.bool true) ∧ Below w.heap.size w w' := by
  obtain ⟨ha0, ha1⟩ := bounds_u16 wa
  unfold maxLen at ws
  clear wa
  obtain ⟨m, hm, hm4, hms, hm2, hts⟩ := cut_min s 400 (by omega)
  by_cases hm0 : m = 0
  · subst hm0
    go_enter Try.func5, Try.ntmps5
    go_wp2_with fail
    refine (fixed_any _).mono ?_
    rintro e w1 ⟨rfl, hb1⟩
    go_wp2_with fail
    go_ret
    exact ⟨rfl, ((Below.refl _ w).alloc (Nat.le_refl _) _).trans' hb1⟩
  · have HTS := Lib.hid hts
    obtain ⟨cap, W2, hrun, hby, hbel⟩ := conv_to (s.extract 0 m) (w.alloc (.cells #[.int .u8 x.toNat, .int .u8 y.toNat, .int .u8 z.toNat, .int .u8 u.toNat] 30))
    rw [hts] at hrun
    have hsz1 : (w.alloc (.cells #[.int .u8 x.toNat, .int .u8 y.toNat, .int .u8 z.toNat, .int .u8 u.toNat] 30)).heap.size = w.heap.size + 1 := by simp
    rw [hsz1] at hrun hby hbel
    have HX : Hid (W2.heap[w.heap.size]? = some (.cells #[.int .u8 (x.toNat : Nat), .int .u8 (y.toNat : Nat), .int .u8 (z.toNat : Nat), .int .u8 (u.toNat : Nat)] 30 (0, 0))) := Lib.hid ((hbel.block _ (by omega)).trans (heap_alloc_new _ _))
    have HBy := Lib.hid hby
    have hb2 : Below w.heap.size w W2 := ((Below.refl _ w).alloc (Nat.le_refl _) _).trans (hbel.mono (by omega))
    obtain ⟨i, hI⟩ : ∃ i : Nat, a % (m : Int) = i := ⟨(a % (m : Int)).toNat, by have := Int.emod_nonneg a (show (m : Int) ≠ 0 by omega); omega⟩
    have hIm : i < m := by have := Int.emod_lt_of_pos a (show 0 < (m : Int) by omega); omega
    have hz1 : ((m : Int) == 0) = false := by rw [beq_eq_false_iff_ne]; omega
    have hz2 : (m : Int) ≠ 0 := by omega
    have hl : (s.extract 0 m).data.toList.length = m := by simpa using hts
    have HL := Lib.hid hl
    clear hts hbel hby hsz1 hl
    go_enter Try.func5, Try.ntmps5
    go_wp2_with fail
    rw [hI]
    clear hm hm2 hrun hI hz1 hz2
    generalize s.extract 0 m = t at *
    obtain ⟨S, HS⟩ : ∃ S : List UInt8, Hid (S = t.data.toList) := ⟨_, Lib.hid rfl⟩
    rw [← HS.out] at HL HBy
    go_loopw [9] (fun kv wr => ∃ k : Nat, k ≤ 4 ∧ i + k ≤ m ∧ kv = .int .i64 k ∧ Hid (BytesAt (w.heap.size + 1) (SP.burst S i [x, y, z, u] k) wr) ∧ Hid (wr.heap[w.heap.size]? = some (.cells #[.int .u8 (x.toNat : Nat), .int .u8 (y.toNat : Nat), .int .u8 (z.toNat : Nat), .int .u8 (u.toNat : Nat)] 30 (0, 0))) ∧ Below w.heap.size w wr) (fun kv _ => 4 - (intOf kv).toNat)
    case atStart => exact ⟨0, by omega, by omega, rfl, by rw [SP.burst_none]; exact HBy, HX, hb2⟩
    case round =>
      obtain ⟨k, hk4, hik, rfl, hB, hX, hb⟩ := hrel
      by_cases h4 : k < 4
      · by_cases hlt : i + k < m
        · have hSl : i + k < S.length := by rw [HL.out]; exact hlt
          have hbl := SP.burst_length S i [x, y, z, u] k
          have hc1 : wr.cell? ⟨w.heap.size + 1, i + k, none⟩ = some (.int .u8 (S[i + k].toNat : Nat)) := hB.out.1 _ _ (SP.burst_at S i [x, y, z, u] k hSl)
          have hf1 : wr.frozen? ⟨w.heap.size + 1, i + k, none⟩ = false := hB.out.2.1 _ (by omega)
          have hc2 := four_at hX.out h4
          have hf2 := frozen_of_row _ _ k _ _ hX.out
          have hB' := Lib.hid (bytesAt_set hB.out (i + k) (S[i + k] ^^^ [x, y, z, u].getD k 0) (by omega))
          rw [SP.burst_set S i [x, y, z, u] k hSl] at hB'
          have hx : bits .xor .u8 (S[i + k].toNat : Int) ((nth4 x y z u k).toNat : Int) = ((S[i + k] ^^^ [x, y, z, u].getD k 0).toNat : Int) := by
            rw [UInt8.toNat_xor]; exact u8_xor_nat _ _ S[i + k].toNat_lt (nth4 x y z u k).toNat_lt
          clear hbl hB
          revert hc1 hB' hx
          generalize S[i + k] ^^^ [x, y, z, u].getD k 0 = c
          generalize S[i + k] = c1
          intro hc1 hB' hx
          have q1 : IntKind.i64.wrap ((i : Int) + k) = (i : Int) + k := IntWalk.i64_in _ (by omega)
          have q2 : ((i : Int) + k).toNat = i + k := by omega
          have q3 : (0 : Int) ≤ (i : Int) + k := by omega
          have q4 : (i : Int) + k < m := by omega
          have q5 : decide ((i : Int) + k < m) = true := by simpa using q4
          have q6 : decide ((k : Int) < 4) = true := by simp; omega
          have q7 : (k : Int) < 4 := by omega
          have q8 : (0 : Int) ≤ (k : Int) := by omega
          go_wp2_with fail
          go_region
          clear q1 q2 q3 q4 q5 q6 q7 q8 hx
          go_wp2_with fail
          go_roundw
          case rel => exact ⟨k + 1, by omega, by omega, by go_num, Lib.hid (bytesAt_drew hB'.out), Lib.hid ((heap_setCell_other _ _ _ _ (by simp)).trans hX.out), (hb.setCell (by simp) _).drew⟩
          case measure => simp [intOf]; omega
        · have q5 : decide ((i : Int) + k < m) = false := by simp; omega
          have q6 : decide ((k : Int) < 4) = true := by simp; omega
          have hbl : (SP.burst S i [x, y, z, u] k).length = m := by rw [SP.burst_length, HL.out]
          have hcv := conv_at (cap := cap) hB.out hbl
          have HSum := Lib.hid (SP.burst_sum S i [x, y, z, u] k hk4)
          revert hbl hcv HSum
          generalize SP.burst S i [x, y, z, u] k = L
          intro hbl hcv HSum
          obtain ⟨T, HT⟩ : ∃ T : ByteArray, Hid (T = ⟨L.toArray⟩) := ⟨_, Lib.hid rfl⟩
          rw [← HT.out] at hcv
          have hTd : T.data.toList = L := by rw [HT.out]
          have hTs : T.size ≤ maxLen := by rw [HT.out]; unfold maxLen; simp [ByteArray.size]; omega
          have htl : t.data.toList.length = m := by rw [← HS.out]; exact HL.out
          have hts : t.size ≤ maxLen := by unfold maxLen; have h : t.data.toList.length = t.size := by simp
                                           omega
          have HA : Hid (Tells 11 #[.string T] (.int .u32 (SP.sum L : Nat))) := Lib.hid (fun W => by have h := table_any T W hTs; rwa [hTd] at h)
          have HB : Hid (Tells 11 #[.string t] (.int .u32 (SP.sum S : Nat))) := Lib.hid (fun W => by have h := table_any t W hts; rwa [← HS.out] at h)
          have HC : Hid (Tells 10 #[.string T] (.int .u32 (SP.sum L : Nat))) := Lib.hid (fun W => by have h := bits_any T W hTs; rwa [hTd] at h)
          have HD : Hid (Tells 10 #[.string t] (.int .u32 (SP.sum S : Nat))) := Lib.hid (fun W => by have h := bits_any t W hts; rwa [← HS.out] at h)
          have hdec : ∃ b : Bool, ((SP.sum L : Int) == (SP.sum S : Int)) = b ∧ (T.toList == t.toList) = b := by
            by_cases hLS : L = S
            · refine ⟨true, by rw [hLS]; simp, ?_⟩
              rw [Lib.toList_data, Lib.toList_data, hTd, ← HS.out, hLS]
              simp
            · refine ⟨false, ne_beq (fun e => hLS (HSum.out e)), ?_⟩
              rw [Lib.toList_data, Lib.toList_data, hTd, ← HS.out]
              simpa using hLS
          clear hTd htl HSum hbl
          obtain ⟨b, hd1, hd2⟩ := hdec
          generalize SP.sum L = p at *
          generalize SP.sum S = q at *
          go_wp2_with fail
          refine (HA.out _).mono ?_
          rintro e w1 ⟨rfl, hb1⟩
          clear hcv
          go_wp2_with fail
          refine (HB.out _).mono ?_
          rintro e w2 ⟨rfl, hb2'⟩
          go_wp2_with fail
          refine (HC.out _).mono ?_
          rintro e w3 ⟨rfl, hb3⟩
          go_wp2_with fail
          refine (HD.out _).mono ?_
          rintro e w4 ⟨rfl, hb4⟩
          go_wp2_with fail
          refine (fixed_any _).mono ?_
          rintro e w5 ⟨rfl, hb5⟩
          go_wp2_with fail
          go_ret
          exact ⟨rfl, ((((hb.trans' hb1).trans' hb2').trans' hb3).trans' hb4).trans' hb5⟩
      · have q6 : decide ((k : Int) < 4) = false := by simp; omega
        have hbl : (SP.burst S i [x, y, z, u] k).length = m := by rw [SP.burst_length, HL.out]
        have hcv := conv_at (cap := cap) hB.out hbl
        have HSum := Lib.hid (SP.burst_sum S i [x, y, z, u] k hk4)
        revert hbl hcv HSum
        generalize SP.burst S i [x, y, z, u] k = L
        intro hbl hcv HSum
        obtain ⟨T, HT⟩ : ∃ T : ByteArray, Hid (T = ⟨L.toArray⟩) := ⟨_, Lib.hid rfl⟩
        rw [← HT.out] at hcv
        have hTd : T.data.toList = L := by rw [HT.out]
        have hTs : T.size ≤ maxLen := by rw [HT.out]; unfold maxLen; simp [ByteArray.size]; omega
        have htl : t.data.toList.length = m := by rw [← HS.out]; exact HL.out
        have hts : t.size ≤ maxLen := by unfold maxLen; have h : t.data.toList.length = t.size := by simp
                                         omega
        have HA : Hid (Tells 11 #[.string T] (.int .u32 (SP.sum L : Nat))) := Lib.hid (fun W => by have h := table_any T W hTs; rwa [hTd] at h)
        have HB : Hid (Tells 11 #[.string t] (.int .u32 (SP.sum S : Nat))) := Lib.hid (fun W => by have h := table_any t W hts; rwa [← HS.out] at h)
        have HC : Hid (Tells 10 #[.string T] (.int .u32 (SP.sum L : Nat))) := Lib.hid (fun W => by have h := bits_any T W hTs; rwa [hTd] at h)
        have HD : Hid (Tells 10 #[.string t] (.int .u32 (SP.sum S : Nat))) := Lib.hid (fun W => by have h := bits_any t W hts; rwa [← HS.out] at h)
        have hdec : ∃ b : Bool, ((SP.sum L : Int) == (SP.sum S : Int)) = b ∧ (T.toList == t.toList) = b := by
          by_cases hLS : L = S
          · refine ⟨true, by rw [hLS]; simp, ?_⟩
            rw [Lib.toList_data, Lib.toList_data, hTd, ← HS.out, hLS]
            simp
          · refine ⟨false, ne_beq (fun e => hLS (HSum.out e)), ?_⟩
            rw [Lib.toList_data, Lib.toList_data, hTd, ← HS.out]
            simpa using hLS
        clear hTd htl HSum hbl
        obtain ⟨b, hd1, hd2⟩ := hdec
        generalize SP.sum L = p at *
        generalize SP.sum S = q at *
        go_wp2_with fail
        refine (HA.out _).mono ?_
        rintro e w1 ⟨rfl, hb1⟩
        clear hcv
        go_wp2_with fail
        refine (HB.out _).mono ?_
        rintro e w2 ⟨rfl, hb2'⟩
        go_wp2_with fail
        refine (HC.out _).mono ?_
        rintro e w3 ⟨rfl, hb3⟩
        go_wp2_with fail
        refine (HD.out _).mono ?_
        rintro e w4 ⟨rfl, hb4⟩
        go_wp2_with fail
        refine (fixed_any _).mono ?_
        rintro e w5 ⟨rfl, hb5⟩
        go_wp2_with fail
        go_ret
        exact ⟨rfl, ((((hb.trans' hb1).trans' hb2').trans' hb3).trans' hb4).trans' hb5⟩

end Go.Proofs.Ytepefmgdkkecaaa
