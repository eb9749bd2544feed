/-
  The walk of slot.cut.
-/
import Derived.Test.YtbkjmcnichpmjaaPPack
import Derived.Test.YtbkjmcnichpmjaaLUnpack
namespace Go.Proofs.Ytbkjmcnichpmjaa
open Go.RowKit
set_option linter.unusedVariables false
set_option linter.unusedSimpArgs false

theorem num2_at (b : List UInt8) (i : Nat) (h : 2 * i + 2 ≤ b.length) : num2 b (b.length - 2 * i - 2) = LP.at_ b i := by
  unfold num2 LP.at_
  rw [show b.length - 2 * i - 2 + 1 = b.length - 2 * i - 1 by omega]
/-- The row of cells, k of which are cut. -/
def cutTo8 (b : ByteArray) (n k : Nat) : List Value := strCells (cellsB b k) ++ List.replicate (n - k) (.string ⟨#[]⟩)
theorem cutTo8_zero (b : ByteArray) (n : Nat) : cutTo8 b n 0 = List.replicate n (.string ⟨#[]⟩) := by simp [cutTo8, strCells, cellsB]
theorem cutTo8_full (b : ByteArray) (n : Nat) : cutTo8 b n n = strCells (cellsB b n) := by simp [cutTo8]
theorem cutTo8_set (b : ByteArray) (n k : Nat) (h : k < n) : (cutTo8 b n k).set k (.string (cutB b k)) = cutTo8 b n (k + 1) := by
  have hlen : (strCells (cellsB b k)).length = k := by rw [strCells_length, cellsB_length]
  rw [cutTo8, List.set_append_right _ _ (by omega), hlen, Nat.sub_self, cutTo8, cellsB_succ, show n - k = (n - (k + 1)) + 1 by omega, List.replicate_succ, List.set_cons_zero]
  simp [strCells]
theorem cutTo8_at (b : ByteArray) (n k : Nat) (h : k < n) : (cutTo8 b n k)[k]? = some (.string ⟨#[]⟩) := by
  have hlen : (strCells (cellsB b k)).length = k := by rw [strCells_length, cellsB_length]
  rw [cutTo8, List.getElem?_append_right (by omega), hlen, Nat.sub_self, List.getElem?_replicate, if_pos (by omega)]
theorem made_blank (m : Nat) : (madeCells (Value.string ⟨#[]⟩).cells (m * 1)).toList = List.replicate m (.string ⟨#[]⟩) := by
  apply List.ext_getElem
  · simp [madeCells]
  · intro i h1 h2
    simp [madeCells, Value.cells, Nat.mod_one]
/-- A part of a row of bytes, as a text. -/
theorem conv_part {P : Program} {w : World} {t e s : TypeId} {g : Nat} {b : ByteArray} (ht : P.underlying t = some (.slice e)) (he : P.underlying e = some (.int .u8)) (hs : P.underlying s = some .string)
    (h : ∀ j c, (B b)[j]? = some c → w.cell? ⟨g, j, none⟩ = some (.int .u8 (c.toNat : Nat))) (p q : Nat) (hpq : p ≤ q) (hq : q ≤ b.size) (cap : Nat) : (convert t s (.slice (some ⟨g, p, none⟩) (q - p) cap)).run P w = .ok (.string (b.extract p q)) w := by
  have hl : (((B b).drop p).take (q - p)).length = q - p := by rw [List.length_take, List.length_drop, b_size]; omega
  have h1 := run_convert_bytes_back (P := P) w t s e ⟨g, p, none⟩ cap (((B b).drop p).take (q - p)) ht he hs (fun j hj => by
    rw [hl] at hj
    have h2 : (⟨g, p, none⟩ : Addr).add j = ⟨g, p + j, none⟩ := by
      unfold Addr.add
      by_cases h3 : j = 0 <;> simp [h3]
    rw [h2, h (p + j) _ (List.getElem?_eq_getElem (by rw [b_size]; omega))]
    simp)
  rw [hl] at h1
  rw [h1]
  congr 2
  rw [← b_extract]

set_option maxHeartbeats 2000000 in
set_option maxRecDepth 100000 in
theorem cut8_any (b : ByteArray) (g n cap : Nat) (w : World) (h : ∀ j c, (B b)[j]? = some c → w.cell? ⟨g, j, none⟩ = some (.int .u8 (c.toNat : Nat))) (hg : w.heap.size = g + 1) (hb : b.size ≤ 65535) (hcap : b.size ≤ cap) (hn : 2 * n + 2 ≤ b.size) :
    Calls Try.prog 20 #[.slice (some ⟨g, 0, none⟩) b.size cap, .int .i64 n] w fun e w' =>
      ((¬ (∀ i, i < n → LP.at_ (B b) i ≤ LP.at_ (B b) (i + 1) ∧ LP.at_ (B b) (i + 1) ≤ b.size) ∧ e = .returned (.tuple #[.slice none 0 0, .bool false])) ∨
        ((∀ i, i < n → LP.at_ (B b) i ≤ LP.at_ (B b) (i + 1) ∧ LP.at_ (B b) (i + 1) ≤ b.size) ∧ ∃ r, g < r ∧ e = .returned (.tuple #[.slice (some ⟨r, 0, none⟩) n n, .bool true]) ∧ Lies w' w'.heap.size (some ⟨r, 0, none⟩) (cellsB b n))) ∧ Below g w w' := by
  obtain ⟨i0, hi, hz0, hz1, hz2⟩ := info_parts Try.infoStr
  have hbl : (B b).length = b.size := b_size b
  have HRD := Lib.hid (by have h := reader_any g cap (B b) w h hg; rw [hbl] at h; exact h)
  have HNX : Hid (∀ (i : Nat) (W : World), 2 * i + 2 ≤ b.size → Hid (Rd W g (B b) cap (b.size - 2 * i)) → Calls Try.prog 24 #[.pointer (some ⟨g + 2, 0, none⟩), .pointer (some ⟨g + 1, 0, none⟩)] W fun e w' => e = .returned (.int .i64 (LP.at_ (B b) i : Nat)) ∧ Hid (Rd w' g (B b) cap (b.size - 2 * (i + 1))) ∧ Below g W w' ∧ W.grownBy w' (some (g + 2))) := Lib.hid (fun i W h1 h2 => by
    have h3 := next_any g (b.size - 2 * i - 2) cap (B b) W (by rw [show b.size - 2 * i - 2 + 2 = b.size - 2 * i by omega]; exact h2) (by omega) (by omega)
    rw [← hbl, num2_at (B b) i (by omega), hbl] at h3
    rw [show b.size - 2 * (i + 1) = b.size - 2 * i - 2 by omega]
    exact h3)
  have HBAD : Hid (∀ i, i < n → ¬ (LP.at_ (B b) i ≤ LP.at_ (B b) (i + 1) ∧ LP.at_ (B b) (i + 1) ≤ b.size) → ¬ (∀ i, i < n → LP.at_ (B b) i ≤ LP.at_ (B b) (i + 1) ∧ LP.at_ (B b) (i + 1) ≤ b.size)) := Lib.hid (fun i h1 h2 h3 => h2 (h3 i h1))
  obtain ⟨Ok, hOk⟩ : ∃ p : Prop, p = (∀ i, i < n → LP.at_ (B b) i ≤ LP.at_ (B b) (i + 1) ∧ LP.at_ (B b) (i + 1) ≤ b.size) := ⟨_, rfl⟩
  have HOK := Lib.hid (show (∀ i, i < n → LP.at_ (B b) i ≤ LP.at_ (B b) (i + 1) ∧ LP.at_ (B b) (i + 1) ≤ b.size) → Ok from fun h => by rw [hOk]; exact h)
  rw [← hOk] at HBAD ⊢
  clear hOk h
  go_enter Try.func20, Try.ntmps20
  go_wp2_with fail
  refine HRD.out.mono ?_
  rintro e w1 ⟨rfl, hW1, hb1⟩
  clear HRD
  go_wp2_with (at_make; refine wpList_make_full _ rfl _ _ 22 rfl w1.heap.size 9 i0 (.string ⟨#[]⟩) 1 Try.underlying22 hi hz0 hz1 _ _ _ _ n rfl rfl rfl rfl (by rw [hz2]; omega) (by unfold maxLen; omega) (Nat.le_refl _) ?_; intro w2 hown2 hg2)
  have hs1 := hW1.out.1
  have hb1 := hb1.mono (show g ≤ w.heap.size by omega)
  have hb2 : Below g w w2 := hb1.grown hg2 (by omega) (by simp)
  have hW2 := Lib.hid (rd_grown hW1.out hg2 (by simp))
  rw [made_blank, ← cutTo8_zero b] at hown2
  have HO2 := Lib.hid hown2
  obtain ⟨r, hr⟩ : ∃ r, r = w1.heap.size := ⟨_, rfl⟩
  rw [← hr] at HO2 hs1 ⊢
  clear hown2 hg2 hW1 hb1 hr
  have h0 := HNX.out 0 w2 (by omega) hW2
  have H0 := Lib.hid h0
  go_wp2_with fail
  refine H0.out.mono ?_
  rintro e w3 ⟨rfl, hW3, hb3, hg3⟩
  have HO3 := Lib.hid (HO2.out.kept hg3 (.inr (by simp [Value.ownBlock]; omega)))
  have hb3' := hb2.trans hb3
  clear h0 H0 hb2 hb3 hg3 HO2 hW2
  go_wp2_with fail
  go_loopw [8, 19] (fun fv iv wr => ∃ k : Nat, k ≤ n ∧ iv = .int .i64 k ∧ fv = .int .i64 (LP.at_ (B b) k : Nat) ∧ Hid (∀ i, i < k → LP.at_ (B b) i ≤ LP.at_ (B b) (i + 1) ∧ LP.at_ (B b) (i + 1) ≤ b.size) ∧ Hid (Rd wr g (B b) cap (b.size - 2 * (k + 1))) ∧ Hid (wr.ownsRow r 9 1 (.slice (some ⟨r, 0, none⟩) n n) n (cutTo8 b n k)) ∧ Below g w wr) (fun _ iv _ => n - (intOf iv).toNat)
  case atStart => exact ⟨0, Nat.zero_le _, rfl, rfl, Lib.hid (fun i hi => by omega), hW3, HO3, hb3'⟩
  case round =>
    obtain ⟨k, hk, rfl, rfl, HR, HW, HO, hbw⟩ := hrel
    by_cases hlt : k < n
    · have HX := Lib.hid (HNX.out (k + 1) wr (by omega) HW)
      obtain ⟨p, hp⟩ : ∃ p, LP.at_ (B b) k = p := ⟨_, rfl⟩
      obtain ⟨q, hq⟩ : ∃ q, LP.at_ (B b) (k + 1) = q := ⟨_, rfl⟩
      by_cases hpq : p ≤ q ∧ q ≤ b.size
      · obtain ⟨c, hc⟩ : ∃ c, b.extract p q = c := ⟨_, rfl⟩
        have HC := Lib.hid (show cutB b k = c by rw [cutB, hp, hq, hc])
        have HR2 : Hid (∀ i, i < k + 1 → LP.at_ (B b) i ≤ LP.at_ (B b) (i + 1) ∧ LP.at_ (B b) (i + 1) ≤ b.size) := Lib.hid (fun i hi => by
          by_cases h1 : i = k
          · subst h1; rw [hp, hq]; exact hpq
          · exact HR.out i (by omega))
        have HQ := Lib.hid hq
        have hce : Hid (q = p → c = ⟨#[]⟩) := Lib.hid (fun e => by
          subst e
          rw [← hc]
          exact b_inj (by rw [b_extract]; simp))
        have HCV := Lib.hid (fun (W : World) (h : ∀ j c, (B b)[j]? = some c → W.cell? ⟨g, j, none⟩ = some (.int .u8 (c.toNat : Nat))) (cap : Nat) => conv_part (P := Try.prog) (t := 41) (e := 5) (s := 9) Try.underlying41 Try.underlying5 Try.underlying9 h p q hpq.1 hpq.2 cap)
        rw [hc] at HCV
        rw [hq] at HX
        rw [hp]
        have d7 : decide (q < p) = false := decide_eq_false (by omega)
        have d8 : decide ((q : Int) < (p : Int)) = false := decide_eq_false (by omega)
        have d9 : decide (b.size < q) = false := decide_eq_false (by omega)
        have d10 : decide ((b.size : Int) < (q : Int)) = false := decide_eq_false (by omega)
        have j1 : (0 : Int) ≤ (p : Int) ∧ (p : Int) ≤ (q : Int) ∧ (q : Int) ≤ (cap : Int) := by omega
        have j2 : p ≤ q := hpq.1
        have j3 : q ≤ cap := by omega
        clear hp hq hpq hc
        go_wp2_with fail
        refine HX.out.mono ?_
        rintro e w4 ⟨rfl, hW4, hb4, hg4⟩
        have HO4 := Lib.hid (HO.out.kept hg4 (.inr (by simp [Value.ownBlock]; omega)))
        have hcell : w4.cell? ⟨r, k, none⟩ = some (.string ⟨#[]⟩) := by
          rw [HO4.out.cellAt k (by omega), cutTo8_at b n k hlt]
        have hfr := HO4.out.frozenAt k
        have cv := fun cap => HCV.out w4 hW4.out.2.1 cap
        have hbw4 := hbw.trans hb4
        have cv0 : q = p → (convert 41 9 (.slice (some ⟨g, 0, none⟩) 0 0)).run Try.prog w4 = .ok (.string c) w4 := fun e => by
          have h1 := run_convert_bytes_back (P := Try.prog) w4 41 9 5 ⟨g, 0, none⟩ 0 [] Try.underlying41 Try.underlying5 Try.underlying9 (fun j hj => by simp at hj)
          rw [hce.out e]
          exact h1
        clear hb4 hg4
        have HEND : Hid (Rd (w4.setCell ⟨r, k, none⟩ (.string c)) g (B b) cap (b.size - 2 * (k + 1 + 1))) := Lib.hid (rd_grown hW4.out (grown_setCell w4 ⟨r, k, none⟩ (.string c)) (by simp; omega))
        have HOE : Hid ((w4.setCell ⟨r, k, none⟩ (.string c)).ownsRow r 9 1 (.slice (some ⟨r, 0, none⟩) n n) n (cutTo8 b n (k + 1))) := Lib.hid (by
          have h := (HO4.out.stored k (.string c)).1
          rwa [← HC.out, cutTo8_set b n k hlt, HC.out] at h)
        have hbE : Below g w (w4.setCell ⟨r, k, none⟩ (.string c)) := hbw4.setCell (by show g ≤ r; omega) _
        by_cases hqp : q = p
        · have cv1 := cv0 hqp
          clear cv cv0
          subst hqp
          go_wp2_with fail
          go_roundw
          case rel => exact ⟨k + 1, by omega, by go_num, by rw [HQ.out], HR2, HEND, HOE, hbE⟩
          case measure => simp [intOf]; omega
        · clear cv0
          go_wp2_with fail
          go_roundw
          case rel => exact ⟨k + 1, by omega, by go_num, by rw [HQ.out], HR2, HEND, HOE, hbE⟩
          case measure => simp [intOf]; omega
      · have HB2 := HBAD.out k hlt (by rw [hp, hq]; exact hpq)
        rw [hq] at HX
        rw [hp]
        clear hp hq
        by_cases h7 : q < p
        · have d7 : decide (q < p) = true := decide_eq_true h7
          have d8 : decide ((q : Int) < (p : Int)) = true := decide_eq_true (by omega)
          clear hpq
          go_wp2_with fail
          refine HX.out.mono ?_
          rintro e w4 ⟨rfl, hW4, hb4, hg4⟩
          go_wp2_with fail
          go_ret2
          exact ⟨.inl ⟨HB2, rfl⟩, hbw.trans hb4⟩
        · have d7 : decide (q < p) = false := decide_eq_false h7
          have d8 : decide ((q : Int) < (p : Int)) = false := decide_eq_false (by omega)
          have d9 : decide (b.size < q) = true := decide_eq_true (by omega)
          have d10 : decide ((b.size : Int) < (q : Int)) = true := decide_eq_true (by omega)
          clear hpq
          go_wp2_with fail
          refine HX.out.mono ?_
          rintro e w4 ⟨rfl, hW4, hb4, hg4⟩
          go_wp2_with fail
          go_ret2
          exact ⟨.inl ⟨HB2, rfl⟩, hbw.trans hb4⟩
    · obtain rfl : k = n := by omega
      have HL := Lib.hid (show Lies wr wr.heap.size (some ⟨r, 0, none⟩) (cellsB b k) from by
        have h := HO.out
        rw [cutTo8_full] at h
        exact lies_own h (cellsB_length b k).symm)
      have HT := HOK.out HR.out
      go_wp2_with fail
      go_ret2
      exact ⟨.inr ⟨HT, r, by omega, rfl, HL.out⟩, hbw⟩
end Go.Proofs.Ytbkjmcnichpmjaa
