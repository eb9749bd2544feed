import Derived.Test.YtpeghilfldpgfaaGreatDoorQ05
namespace Go.Proofs.YtpeghilfldpgfaaGreatDoor.L8
open Go.Proofs.YtpeghilfldpgfaaGreatDoor.L5
open Go.RowKit
set_option linter.unusedVariables false
set_option linter.unusedSimpArgs false
theorem num2_at (b : List UInt8) (i : Nat) (h : 2 * i + 2 ≤ b.length) : num2 b (b.length - 2 * i - 2) = LP.at_ b i := by
  unfold num2 LP.at_
  rw [show b.length - 2 * i - 2 + 1 = b.length - 2 * i - 1 by omega]
def cutTo8 (b : ByteArray) (n k : Nat) : List Value := strCells (cellsB b k) ++ List.replicate (n - k) (.string ⟨#[]⟩)
theorem cutTo8_zero (b : ByteArray) (n : Nat) : cutTo8 b n 0 = List.replicate n (.string ⟨#[]⟩) := by simp [cutTo8, strCells, cellsB]
theorem cutTo8_full (b : ByteArray) (n : Nat) : cutTo8 b n n = strCells (cellsB b n) := by simp [cutTo8]
theorem cutTo8_set (b : ByteArray) (n k : Nat) (h : k < n) : (cutTo8 b n k).set k (.string (cutB b k)) = cutTo8 b n (k + 1) := by
  have hlen : (strCells (cellsB b k)).length = k := by rw [strCells_length, cellsB_length]
  rw [cutTo8, List.set_append_right _ _ (by omega), hlen, Nat.sub_self, cutTo8, cellsB_succ, show n - k = (n - (k + 1)) + 1 by omega, List.replicate_succ, List.set_cons_zero]
  simp [strCells]
theorem cutTo8_at (b : ByteArray) (n k : Nat) (h : k < n) : (cutTo8 b n k)[k]? = some (.string ⟨#[]⟩) := by
  have hlen : (strCells (cellsB b k)).length = k := by rw [strCells_length, cellsB_length]
  rw [cutTo8, List.getElem?_append_right (by omega), hlen, Nat.sub_self, List.getElem?_replicate, if_pos (by omega)]
theorem made_blank (m : Nat) : (madeCells (Value.string ⟨#[]⟩).cells (m * 1)).toList = List.replicate m (.string ⟨#[]⟩) := by
  apply List.ext_getElem
  · simp [madeCells]
  · intro i h1 h2
    simp [madeCells, Value.cells, Nat.mod_one]
theorem conv_part {P : Program} {w : World} {t e s : TypeId} {g : Nat} {b : ByteArray} (ht : P.underlying t = some (.slice e)) (he : P.underlying e = some (.int .u8)) (hs : P.underlying s = some .string)
    (h : ∀ j c, (B b)[j]? = some c → w.cell? ⟨g, j, none⟩ = some (.int .u8 (c.toNat : Nat))) (p q : Nat) (hpq : p ≤ q) (hq : q ≤ b.size) (cap : Nat) : (convert t s (.slice (some ⟨g, p, none⟩) (q - p) cap)).run P w = .ok (.string (b.extract p q)) w := by
  have hl : (((B b).drop p).take (q - p)).length = q - p := by rw [List.length_take, List.length_drop, b_size]; omega
  have h1 := run_convert_bytes_back (P := P) w t s e ⟨g, p, none⟩ cap (((B b).drop p).take (q - p)) ht he hs (fun j hj => by
    rw [hl] at hj
    have h2 : (⟨g, p, none⟩ : Addr).add j = ⟨g, p + j, none⟩ := by
      unfold Addr.add
      by_cases h3 : j = 0 <;> simp [h3]
    rw [h2, h (p + j) _ (List.getElem?_eq_getElem (by rw [b_size]; omega))]
    simp)
  rw [hl] at h1
  rw [h1]
  congr 2
  rw [← b_extract]
set_option maxHeartbeats 2000000 in
set_option maxRecDepth 100000 in
theorem cut8_any (b : ByteArray) (g n cap : Nat) (w : World) (h : ∀ j c, (B b)[j]? = some c → w.cell? ⟨g, j, none⟩ = some (.int .u8 (c.toNat : Nat))) (hg : w.heap.size = g + 1) (hb : b.size ≤ 65535) (hcap : b.size ≤ cap) (hn : 2 * n + 2 ≤ b.size) :
    Calls Tryz.prog 149 #[.slice (some ⟨g, 0, none⟩) b.size cap, .int .i64 n] w fun e w' =>
      ((¬ (∀ i, i < n → LP.at_ (B b) i ≤ LP.at_ (B b) (i + 1) ∧ LP.at_ (B b) (i + 1) ≤ b.size) ∧ e = .returned (.tuple #[.slice none 0 0, .bool false])) ∨
        ((∀ i, i < n → LP.at_ (B b) i ≤ LP.at_ (B b) (i + 1) ∧ LP.at_ (B b) (i + 1) ≤ b.size) ∧ ∃ r, g < r ∧ e = .returned (.tuple #[.slice (some ⟨r, 0, none⟩) n n, .bool true]) ∧ Lies w' w'.heap.size (some ⟨r, 0, none⟩) (cellsB b n))) ∧ Below g w w' := by
  obtain ⟨i0, hi, hz0, hz1, hz2⟩ := info_parts Tryz.infoStr
  have hbl : (B b).length = b.size := b_size b
  have HRD := Lib.hid (by have h := reader_any g cap (B b) w h hg; rw [hbl] at h; exact h)
  have HNX : Hid (∀ (i : Nat) (W : World), 2 * i + 2 ≤ b.size → Hid (Rd W g (B b) cap (b.size - 2 * i)) → Calls Tryz.prog 208 #[.pointer (some ⟨g + 2, 0, none⟩), .pointer (some ⟨g + 1, 0, none⟩)] W fun e w' => e = .returned (.int .i64 (LP.at_ (B b) i : Nat)) ∧ Hid (Rd w' g (B b) cap (b.size - 2 * (i + 1))) ∧ Below g W w' ∧ W.grownBy w' (some (g + 2))) := Lib.hid (fun i W h1 h2 => by
    have h3 := next_any g (b.size - 2 * i - 2) cap (B b) W (by rw [show b.size - 2 * i - 2 + 2 = b.size - 2 * i by omega]; exact h2) (by omega) (by omega)
    rw [← hbl, num2_at (B b) i (by omega), hbl] at h3
    rw [show b.size - 2 * (i + 1) = b.size - 2 * i - 2 by omega]
    exact h3)
  have HBAD : Hid (∀ i, i < n → ¬ (LP.at_ (B b) i ≤ LP.at_ (B b) (i + 1) ∧ LP.at_ (B b) (i + 1) ≤ b.size) → ¬ (∀ i, i < n → LP.at_ (B b) i ≤ LP.at_ (B b) (i + 1) ∧ LP.at_ (B b) (i + 1) ≤ b.size)) := Lib.hid (fun i h1 h2 h3 => h2 (h3 i h1))
  obtain ⟨Ok, hOk⟩ : ∃ p : Prop, p = (∀ i, i < n → LP.at_ (B b) i ≤ LP.at_ (B b) (i + 1) ∧ LP.at_ (B b) (i + 1) ≤ b.size) := ⟨_, rfl⟩
  have HOK := Lib.hid (show (∀ i, i < n → LP.at_ (B b) i ≤ LP.at_ (B b) (i + 1) ∧ LP.at_ (B b) (i + 1) ≤ b.size) → Ok from fun h => by rw [hOk]; exact h)
  rw [← hOk] at HBAD ⊢
  clear hOk h
  go_enter Tryz.func149, Tryz.ntmps149
  go_wp2_with fail
  refine HRD.out.mono ?_
  rintro e w1 ⟨rfl, hW1, hb1⟩
  clear HRD
  go_wp2_with (at_make; refine wpList_make_full _ rfl _ _ 22 rfl w1.heap.size 9 i0 (.string ⟨#[]⟩) 1 Tryz.underlying22 hi hz0 hz1 _ _ _ _ n rfl rfl rfl rfl (by rw [hz2]; omega) (by unfold maxLen; omega) (Nat.le_refl _) ?_; intro w2 hown2 hg2)
  have hs1 := hW1.out.1
  have hb1 := hb1.mono (show g ≤ w.heap.size by omega)
  have hb2 : Below g w w2 := hb1.grown hg2 (by omega) (by simp)
  have hW2 := Lib.hid (rd_grown hW1.out hg2 (by simp))
  rw [made_blank, ← cutTo8_zero b] at hown2
  have HO2 := Lib.hid hown2
  obtain ⟨r, hr⟩ : ∃ r, r = w1.heap.size := ⟨_, rfl⟩
  rw [← hr] at HO2 hs1 ⊢
  clear hown2 hg2 hW1 hb1 hr
  have h0 := HNX.out 0 w2 (by omega) hW2
  have H0 := Lib.hid h0
  go_wp2_with fail
  refine H0.out.mono ?_
  rintro e w3 ⟨rfl, hW3, hb3, hg3⟩
  have HO3 := Lib.hid (HO2.out.kept hg3 (.inr (by simp [Value.ownBlock]; omega)))
  have hb3' := hb2.trans hb3
  clear h0 H0 hb2 hb3 hg3 HO2 hW2
  go_wp2_with fail
  go_loopw [8, 19] (fun fv iv wr => ∃ k : Nat, k ≤ n ∧ iv = .int .i64 k ∧ fv = .int .i64 (LP.at_ (B b) k : Nat) ∧ Hid (∀ i, i < k → LP.at_ (B b) i ≤ LP.at_ (B b) (i + 1) ∧ LP.at_ (B b) (i + 1) ≤ b.size) ∧ Hid (Rd wr g (B b) cap (b.size - 2 * (k + 1))) ∧ Hid (wr.ownsRow r 9 1 (.slice (some ⟨r, 0, none⟩) n n) n (cutTo8 b n k)) ∧ Below g w wr) (fun _ iv _ => n - (intOf iv).toNat)
  case atStart => exact ⟨0, Nat.zero_le _, rfl, rfl, Lib.hid (fun i hi => by omega), hW3, HO3, hb3'⟩
  case round =>
    obtain ⟨k, hk, rfl, rfl, HR, HW, HO, hbw⟩ := hrel
    by_cases hlt : k < n
    · have HX := Lib.hid (HNX.out (k + 1) wr (by omega) HW)
      obtain ⟨p, hp⟩ : ∃ p, LP.at_ (B b) k = p := ⟨_, rfl⟩
      obtain ⟨q, hq⟩ : ∃ q, LP.at_ (B b) (k + 1) = q := ⟨_, rfl⟩
      by_cases hpq : p ≤ q ∧ q ≤ b.size
      · obtain ⟨c, hc⟩ : ∃ c, b.extract p q = c := ⟨_, rfl⟩
        have HC := Lib.hid (show cutB b k = c by rw [cutB, hp, hq, hc])
        have HR2 : Hid (∀ i, i < k + 1 → LP.at_ (B b) i ≤ LP.at_ (B b) (i + 1) ∧ LP.at_ (B b) (i + 1) ≤ b.size) := Lib.hid (fun i hi => by
          by_cases h1 : i = k
          · subst h1; rw [hp, hq]; exact hpq
          · exact HR.out i (by omega))
        have HQ := Lib.hid hq
        have hce : Hid (q = p → c = ⟨#[]⟩) := Lib.hid (fun e => by
          subst e
          rw [← hc]
          exact b_inj (by rw [b_extract]; simp))
        have HCV := Lib.hid (fun (W : World) (h : ∀ j c, (B b)[j]? = some c → W.cell? ⟨g, j, none⟩ = some (.int .u8 (c.toNat : Nat))) (cap : Nat) => conv_part (P := Tryz.prog) (t := 86) (e := 5) (s := 9) Tryz.underlying86 Tryz.underlying5 Tryz.underlying9 h p q hpq.1 hpq.2 cap)
        rw [hc] at HCV
        rw [hq] at HX
        rw [hp]
        have d7 : decide (q < p) = false := decide_eq_false (by omega)
        have d8 : decide ((q : Int) < (p : Int)) = false := decide_eq_false (by omega)
        have d9 : decide (b.size < q) = false := decide_eq_false (by omega)
        have d10 : decide ((b.size : Int) < (q : Int)) = false := decide_eq_false (by omega)
        have j1 : (0 : Int) ≤ (p : Int) ∧ (p : Int) ≤ (q : Int) ∧ (q : Int) ≤ (cap : Int) := by omega
        have j2 : p ≤ q := hpq.1
        have j3 : q ≤ cap := by omega
        clear hp hq hpq hc
        go_wp2_with fail
        refine HX.out.mono ?_
        rintro e w4 ⟨rfl, hW4, hb4, hg4⟩
        have HO4 := Lib.hid (HO.out.kept hg4 (.inr (by simp [Value.ownBlock]; omega)))
        have hcell : w4.cell? ⟨r, k, none⟩ = some (.string ⟨#[]⟩) := by
          rw [HO4.out.cellAt k (by omega), cutTo8_at b n k hlt]
        have hfr := HO4.out.frozenAt k
        have cv := fun cap => HCV.out w4 hW4.out.2.1 cap
        have hbw4 := hbw.trans hb4
        have cv0 : q = p → (convert 86 9 (.slice (some ⟨g, 0, none⟩) 0 0)).run Tryz.prog w4 = .ok (.string c) w4 := fun e => by
          have h1 := run_convert_bytes_back (P := Tryz.prog) w4 86 9 5 ⟨g, 0, none⟩ 0 [] Tryz.underlying86 Tryz.underlying5 Tryz.underlying9 (fun j hj => by simp at hj)
          rw [hce.out e]
          exact h1
        clear hb4 hg4
        have HEND : Hid (Rd (w4.setCell ⟨r, k, none⟩ (.string c)) g (B b) cap (b.size - 2 * (k + 1 + 1))) := Lib.hid (rd_grown hW4.out (grown_setCell w4 ⟨r, k, none⟩ (.string c)) (by simp; omega))
        have HOE : Hid ((w4.setCell ⟨r, k, none⟩ (.string c)).ownsRow r 9 1 (.slice (some ⟨r, 0, none⟩) n n) n (cutTo8 b n (k + 1))) := Lib.hid (by
          have h := (HO4.out.stored k (.string c)).1
          rwa [← HC.out, cutTo8_set b n k hlt, HC.out] at h)
        have hbE : Below g w (w4.setCell ⟨r, k, none⟩ (.string c)) := hbw4.setCell (by show g ≤ r; omega) _
        by_cases hqp : q = p
        · have cv1 := cv0 hqp
          clear cv cv0
          subst hqp
          go_wp2_with fail
          go_roundw
          case rel => exact ⟨k + 1, by omega, by go_num, by rw [HQ.out], HR2, HEND, HOE, hbE⟩
          case measure => simp [intOf]; omega
        · clear cv0
          go_wp2_with fail
          go_roundw
          case rel => exact ⟨k + 1, by omega, by go_num, by rw [HQ.out], HR2, HEND, HOE, hbE⟩
          case measure => simp [intOf]; omega
      · have HB2 := HBAD.out k hlt (by rw [hp, hq]; exact hpq)
        rw [hq] at HX
        rw [hp]
        clear hp hq
        by_cases h7 : q < p
        · have d7 : decide (q < p) = true := decide_eq_true h7
          have d8 : decide ((q : Int) < (p : Int)) = true := decide_eq_true (by omega)
          clear hpq
          go_wp2_with fail
          refine HX.out.mono ?_
          rintro e w4 ⟨rfl, hW4, hb4, hg4⟩
          go_wp2_with fail
          go_ret2
          exact ⟨.inl ⟨HB2, rfl⟩, hbw.trans hb4⟩
        · have d7 : decide (q < p) = false := decide_eq_false h7
          have d8 : decide ((q : Int) < (p : Int)) = false := decide_eq_false (by omega)
          have d9 : decide (b.size < q) = true := decide_eq_true (by omega)
          have d10 : decide ((b.size : Int) < (q : Int)) = true := decide_eq_true (by omega)
          clear hpq
          go_wp2_with fail
          refine HX.out.mono ?_
          rintro e w4 ⟨rfl, hW4, hb4, hg4⟩
          go_wp2_with fail
          go_ret2
          exact ⟨.inl ⟨HB2, rfl⟩, hbw.trans hb4⟩
    · obtain rfl : k = n := by omega
      have HL := Lib.hid (show Lies wr wr.heap.size (some ⟨r, 0, none⟩) (cellsB b k) from by
        have h := HO.out
        rw [cutTo8_full] at h
        exact lies_own h (cellsB_length b k).symm)
      have HT := HOK.out HR.out
      go_wp2_with fail
      go_ret2
      exact ⟨.inr ⟨HT, r, by omega, rfl, HL.out⟩, hbw⟩
end Go.Proofs.YtpeghilfldpgfaaGreatDoor.L8
namespace Go.Proofs.YtpeghilfldpgfaaGreatDoor.L8
open Go.Proofs.YtpeghilfldpgfaaGreatDoor.L5
open Go.RowKit
set_option linter.unusedVariables false
set_option linter.unusedSimpArgs false
theorem conv_to (s : ByteArray) (w : World) : ∃ cap w', (convert 9 86 (.string s)).run Tryz.prog w = .ok (.slice (some ⟨w.heap.size, 0, none⟩) s.size cap) w' ∧ (∀ j c, (B s)[j]? = some c → w'.cell? ⟨w.heap.size, j, none⟩ = some (.int .u8 (c.toNat : Nat))) ∧ s.size ≤ cap ∧ w'.heap.size = w.heap.size + 1 ∧ Below w.heap.size w w' := by
  refine ⟨_, _, run_bytes_of_string (P := Tryz.prog) w 9 86 5 s Tryz.underlying9 Tryz.underlying86 Tryz.underlying5, fun j c hj => ?_, grownCap_ge w _ _ _, by simp, ?_⟩
  · have hlt : j < s.data.size := by have := (List.getElem?_eq_some_iff.1 hj).1; simpa [B] using this
    have h := World.cell?_alloc_mark w.drew (bytesRow s (grownCap w s.size 0 5)) 5 ((bytesRow s (grownCap w s.size 0 5)).size, (bytesRow s (grownCap w s.size 0 5)).size + 1) j
    rw [bytesRow_at s _ j hlt] at h
    have e : s.data[j] = c := by
      have := (List.getElem?_eq_some_iff.1 hj).2
      simpa [B] using this
    rw [e] at h
    exact h
  · exact (Below.refl _ w).drew.alloc (Nat.le_refl _) _
set_option maxHeartbeats 2000000 in
set_option maxRecDepth 100000 in
theorem unpack_any (b : ByteArray) (kf n : Int) (w : World) (hk : (Lit.int .i64 kf).wf = true) (hn : (Lit.int .i64 n).wf = true) (hb : b.size ≤ maxLen) :
    Calls Tryz.prog 87 #[.string b, .int .i64 kf, .int .i64 n] w fun e w' => Unp b kf n w e w' ∧ Below w.heap.size w w' := by
  unfold maxLen at hb
  by_cases a1 : kf < 0
  · have HU := Lib.hid (fun e w' (h : e = .returned (.tuple #[.slice none 0 0, .int .i64 4])) => (.inl ⟨.inl a1, h⟩ : Unp b kf n w e w'))
    clear hk hn
    go_enter Tryz.func87, Tryz.ntmps87
    go_wp2_with fail
    go_ret2
    exact ⟨HU.out _ _ rfl, Below.refl _ _⟩
  by_cases a2 : n < 0
  · have HU := Lib.hid (fun e w' (h : e = .returned (.tuple #[.slice none 0 0, .int .i64 4])) => (.inl ⟨.inr (.inl a2), h⟩ : Unp b kf n w e w'))
    clear hk hn
    go_enter Tryz.func87, Tryz.ntmps87
    go_wp2_with fail
    go_ret2
    exact ⟨HU.out _ _ rfl, Below.refl _ _⟩
  by_cases a3 : 65535 < b.size
  · have HU := Lib.hid (fun e w' (h : e = .returned (.tuple #[.slice none 0 0, .int .i64 4])) => (.inl ⟨.inr (.inr a3), h⟩ : Unp b kf n w e w'))
    have d1 : decide (65535 < b.size) = true := decide_eq_true a3
    have d2 : decide ((65535 : Int) < (b.size : Int)) = true := decide_eq_true (by omega)
    clear hk hn
    go_enter Tryz.func87, Tryz.ntmps87
    go_wp2_with fail
    go_ret2
    exact ⟨HU.out _ _ rfl, Below.refl _ _⟩
  obtain ⟨k, rfl⟩ := Int.eq_ofNat_of_zero_le (show 0 ≤ kf by omega)
  obtain ⟨n, rfl⟩ := Int.eq_ofNat_of_zero_le (show 0 ≤ n by omega)
  have hno : ¬ ((k : Int) < 0 ∨ (n : Int) < 0 ∨ 65535 < b.size) := by omega
  have HBAD : Hid (¬ LP.good (B b) k n → ∀ e w', e = .returned (.tuple #[.slice none 0 0, .int .i64 3]) → Unp b k n w e w') := Lib.hid (fun hg e w' h => .inr (.inl ⟨hno, hg, h⟩))
  have HOK : Hid (LP.good (B b) k n → ∀ w' g cap, w.heap.size ≤ g → n ≤ cap → Lies w' w'.heap.size (some ⟨g, 0, none⟩) (cellsB b n) → Unp b k n w (.returned (.tuple #[.slice (some ⟨g, 0, none⟩) n cap, .int .i64 0])) w') := Lib.hid (fun hg w' g cap h1 h2 h3 => .inr (.inr ⟨hno, hg, g, cap, rfl, h1, h2, h3⟩))
  have hbl : (B b).length = b.size := b_size b
  have d1 : decide (65535 < b.size) = false := decide_eq_false a3
  have d2 : decide ((65535 : Int) < (b.size : Int)) = false := decide_eq_false (by omega)
  clear hno hk hn
  by_cases c1 : b.size < k
  · have HB2 := Lib.hid (HBAD.out (fun h => by have := h.1; omega))
    have d3 : decide (b.size < k) = true := decide_eq_true c1
    have d4 : decide ((b.size : Int) < (k : Int)) = true := decide_eq_true (by omega)
    clear HBAD HOK hbl
    go_enter Tryz.func87, Tryz.ntmps87
    go_wp2_with fail
    go_ret2
    exact ⟨HB2.out _ _ rfl, Below.refl _ _⟩
  have d3 : decide (b.size < k) = false := decide_eq_false c1
  have d4 : decide ((b.size : Int) < (k : Int)) = false := decide_eq_false (by omega)
  by_cases c2 : b.size / 2 ≤ n
  · have HB2 := Lib.hid (HBAD.out (fun h => by have := good_few h; omega))
    have d5 : decide (b.size / 2 ≤ n) = true := decide_eq_true c2
    have d6 : decide ((b.size : Int) / 2 ≤ (n : Int)) = true := decide_eq_true (by omega)
    clear HBAD HOK hbl
    go_enter Tryz.func87, Tryz.ntmps87
    go_wp2_with fail
    go_ret2
    exact ⟨HB2.out _ _ rfl, Below.refl _ _⟩
  have d5 : decide (b.size / 2 ≤ n) = false := decide_eq_false c2
  have d6 : decide ((b.size : Int) / 2 ≤ (n : Int)) = false := decide_eq_false (by omega)
  obtain ⟨cap, w1, cv, hby, hcap, hsz, hb1⟩ := conv_to b w
  have HCUT := Lib.hid (cut8_any b w.heap.size n cap w1 hby hsz (by omega) hcap (by omega))
  clear hby hsz hcap
  go_enter Tryz.func87, Tryz.ntmps87
  go_wp2_with fail
  refine HCUT.out.mono ?_
  rintro e w2 ⟨hcase, hb2⟩
  have hbw := hb1.trans hb2
  clear HCUT cv hb1 hb2
  rcases hcase with ⟨hbad, rfl⟩ | ⟨hok, r, hr, rfl, HL⟩
  · have HB2 := Lib.hid (HBAD.out (fun h => hbad (fun i hi => by
      have := good_at (by omega) h i hi
      rwa [hbl] at this)))
    clear hbad HBAD HOK
    go_wp2_with fail
    go_ret2
    exact ⟨HB2.out _ _ rfl, hbw⟩
  · have hlen := cellsB_length b n
    obtain ⟨f, hf⟩ : ∃ f, b.extract 0 k = f := ⟨_, rfl⟩
    have sf : f.size = k := by rw [← hf]; simp; omega
    have HPK := Lib.hid (by have h := pack_any (b.size : Int) f (some ⟨r, 0, none⟩) (cellsB b n) n w2 HL (by rw [hlen]; omega) (by omega) (fun s hs => Nat.le_trans (cellsB_size b n s hs) (by omega)); rw [hlen] at h; exact h)
    have hend := unpack_end b k n (by omega) (by omega)
    rw [hf] at hend
    have HLL := Lib.hid HL
    have j1 : (0 : Int) ≤ (k : Int) ∧ (k : Int) ≤ (b.size : Int) := by omega
    have j2 : k ≤ b.size := by omega
    have hss : (b.toList == b.toList) = true := beq_self_eq_true _
    have hss2 : (b.toList != b.toList) = false := by simp
    clear hok
    rcases hend with ⟨hgd, hv⟩ | ⟨hgd, hv⟩ | ⟨hgd, P, hne, hv⟩
    · rw [hv] at HPK
      have HO2 := Lib.hid (HOK.out hgd)
      clear hv hgd HBAD HOK hlen HL sf
      go_wp2_with fail
      refine HPK.out.mono ?_
      rintro e w1 ⟨rfl, hb1⟩
      go_wp2_with fail
      go_ret2
      exact ⟨HO2.out _ _ _ (by omega) (Nat.le_refl _) (HLL.out.on hb1), hbw.trans' hb1⟩
    · rw [hv] at HPK
      have HB2 := Lib.hid (HBAD.out hgd)
      clear hv hgd HBAD HOK hlen HL sf
      go_wp2_with fail
      refine HPK.out.mono ?_
      rintro e w1 ⟨rfl, hb1⟩
      go_wp2_with fail
      go_ret2
      exact ⟨HB2.out _ _ rfl, hbw.trans' hb1⟩
    · rw [hv] at HPK
      have HB2 := Lib.hid (HBAD.out hgd)
      have hneq : (P.toList == b.toList) = false := by
        rw [Lib.toList_data, Lib.toList_data]
        exact beq_eq_false_iff_ne.2 fun e => hne (ByteArray.ext (Array.toList_inj.1 e))
      have hneq2 : (P.toList != b.toList) = true := by simp [bne, hneq]
      clear hv hgd HBAD HOK hlen HL sf hne
      go_wp2_with fail
      refine HPK.out.mono ?_
      rintro e w1 ⟨rfl, hb1⟩
      go_wp2_with fail
      go_ret2
      exact ⟨HB2.out _ _ rfl, hbw.trans' hb1⟩
end Go.Proofs.YtpeghilfldpgfaaGreatDoor.L8
namespace Go.Proofs.YtpeghilfldpgfaaGreatDoor.L12
open Go.RowKit CP
set_option linter.unusedVariables false
set_option linter.unusedSimpArgs false
theorem ixR0 (W : World) : (Instr.index 227 (.agg #[.func (.func 127) #[] #[], .func (.func 128) #[] #[], .func (.func 129) #[] #[]]) (.int .i64 0)).run Tryz.prog W = .ok (.func (.func 127) #[] #[]) W := by kernel_rfl
theorem ixR1 (W : World) : (Instr.index 227 (.agg #[.func (.func 127) #[] #[], .func (.func 128) #[] #[], .func (.func 129) #[] #[]]) (.int .i64 1)).run Tryz.prog W = .ok (.func (.func 128) #[] #[]) W := by kernel_rfl
theorem ixR2 (W : World) : (Instr.index 227 (.agg #[.func (.func 127) #[] #[], .func (.func 128) #[] #[], .func (.func 129) #[] #[]]) (.int .i64 2)).run Tryz.prog W = .ok (.func (.func 129) #[] #[]) W := by kernel_rfl
set_option maxHeartbeats 2000000 in
set_option maxRecDepth 100000 in
theorem may_any (F N : Int) (D : ByteArray) (p : Int) (w : World) (hs : L7.Sizes w) :
    Calls Tryz.prog 72 #[cv F N D, .int .i64 p] w fun e w' => e = .returned (.bool (decide (May F N D.size p))) ∧ Below w.heap.size w w' := by
  have hb := cbox_below 31 F N D w
  have HB := Lib.hid hb
  have HK := Lib.hid (cbox_new 31 F N D w)
  have HS := Lib.hid (hs.below hs.lt hb)
  have HSZ := Lib.hid (fun W (h : L7.Sizes W) => rsize_any F N D p W h)
  have HNU := Lib.hid (fun W => rnumbers_any F N D p W)
  have HDA := Lib.hid (fun W (h : L7.mayBe p = true) => rdata_any F N D p W (mayBe_le h))
  obtain ⟨r, HRS⟩ : ∃ r, Hid (r = decide (May F N D.size p)) := ⟨_, Lib.hid rfl⟩
  rw [← HRS.out]
  have ix0 := ixR0
  have ix1 := ixR1
  have ix2 := ixR2
  clear hb hs
  go_enter Tryz.func72, Tryz.ntmps72
  go_wp2_with fail
  go_loopw [8] (fun iv wr => ∃ k : Nat, k ≤ 3 ∧ iv = .int .i64 k ∧ Hid (Cx 31 w.heap.size F N D wr) ∧ Hid (L7.Sizes wr) ∧ Hid (Below w.heap.size w wr) ∧ Hid (0 < k → L7.mayBe p = true) ∧ Hid (1 < k → NumOk F N) ∧ Hid (2 < k → DataOk N D.size p)) (fun iv _ => 3 - (intOf iv).toNat)
  case atStart => exact ⟨0, by omega, rfl, HK, HS, HB, Lib.hid (fun h => absurd h (by omega)), Lib.hid (fun h => absurd h (by omega)), Lib.hid (fun h => absurd h (by omega))⟩
  case round =>
    obtain ⟨k, hk, rfl, HK, HS, HB, H0, H1, H2⟩ := hrel
    obtain ⟨c0, c1, c2⟩ := HK.out.cells
    rcases (show k = 0 ∨ k = 1 ∨ k = 2 ∨ k = 3 by omega) with rfl | rfl | rfl | rfl
    · cases hm : L7.mayBe p with
      | true =>
        have HM := Lib.hid hm
        rw [hm] at HSZ
        clear hm
        go_wp2_with fail
        refine (HSZ.out _ HS.out).mono ?_
        rintro e w2 ⟨rfl, hb⟩
        have HK2 := Lib.hid (HK.out.below hb)
        have HB2 := Lib.hid (HB.out.trans' hb)
        have HS2 := Lib.hid (HS.out.below HS.out.lt hb)
        clear hb
        go_wp2_with fail
        go_roundw
        case rel => exact ⟨1, by omega, by go_num, HK2, HS2, HB2, Lib.hid (fun _ => trivial), Lib.hid (fun h => absurd h (by omega)), Lib.hid (fun h => absurd h (by omega))⟩
        case measure => simp [intOf]
      | false =>
        have HX : Hid (r = false) := Lib.hid (by rw [HRS.out]; exact decide_eq_false (fun h => by have := h.1; rw [hm] at this; cases this))
        rw [hm] at HSZ
        clear hm
        go_wp2_with fail
        refine (HSZ.out _ HS.out).mono ?_
        rintro e w2 ⟨rfl, hb⟩
        go_wp2_with fail
        go_ret
        exact ⟨by rw [HX.out] <;> rfl, HB.out.trans' hb⟩
    · by_cases hm : NumOk F N
      · have HM := Lib.hid hm
        rw [decide_eq_true hm] at HNU
        clear hm
        go_wp2_with fail
        refine (HNU.out _).mono ?_
        rintro e w2 ⟨rfl, hb⟩
        have HK2 := Lib.hid (HK.out.below hb)
        have HB2 := Lib.hid (HB.out.trans' hb)
        have HS2 := Lib.hid (HS.out.below HS.out.lt hb)
        clear hb
        go_wp2_with fail
        go_roundw
        case rel => exact ⟨2, by omega, by go_num, HK2, HS2, HB2, Lib.hid (fun _ => H0.out (by omega)), Lib.hid (fun _ => HM.out), Lib.hid (fun h => absurd h (by omega))⟩
        case measure => simp [intOf]
      · have HX : Hid (r = false) := Lib.hid (by rw [HRS.out]; exact decide_eq_false (fun h => hm h.2.1))
        rw [decide_eq_false hm] at HNU
        clear hm
        go_wp2_with fail
        refine (HNU.out _).mono ?_
        rintro e w2 ⟨rfl, hb⟩
        go_wp2_with fail
        go_ret
        exact ⟨by rw [HX.out] <;> rfl, HB.out.trans' hb⟩
    · by_cases hm : DataOk N D.size p
      · have HM := Lib.hid hm
        rw [decide_eq_true hm] at HDA
        clear hm
        go_wp2_with fail
        refine (HDA.out _ (H0.out (by omega))).mono ?_
        rintro e w2 ⟨rfl, hb⟩
        have HK2 := Lib.hid (HK.out.below hb)
        have HB2 := Lib.hid (HB.out.trans' hb)
        have HS2 := Lib.hid (HS.out.below HS.out.lt hb)
        clear hb
        go_wp2_with fail
        go_roundw
        case rel => exact ⟨3, by omega, by go_num, HK2, HS2, HB2, Lib.hid (fun _ => H0.out (by omega)), Lib.hid (fun _ => H1.out (by omega)), Lib.hid (fun _ => HM.out)⟩
        case measure => simp [intOf]
      · have HX : Hid (r = false) := Lib.hid (by rw [HRS.out]; exact decide_eq_false (fun h => hm h.2.2))
        rw [decide_eq_false hm] at HDA
        clear hm
        go_wp2_with fail
        refine (HDA.out _ (H0.out (by omega))).mono ?_
        rintro e w2 ⟨rfl, hb⟩
        go_wp2_with fail
        go_ret
        exact ⟨by rw [HX.out] <;> rfl, HB.out.trans' hb⟩
    · have HX : Hid (r = true) := Lib.hid (by rw [HRS.out]; exact decide_eq_true ⟨H0.out (by omega), H1.out (by omega), H2.out (by omega)⟩)
      go_wp2_with fail
      go_ret
      exact ⟨by rw [HX.out] <;> rfl, HB.out⟩
end Go.Proofs.YtpeghilfldpgfaaGreatDoor.L12
namespace Go.Proofs.YtpeghilfldpgfaaGreatDoor.L12
open Go.RowKit CP
set_option linter.unusedVariables false
set_option linter.unusedSimpArgs false
def encV (F N : Int) (D : ByteArray) (p : Int) : Value := .tuple #[.string (enc F N D p).1, .int .i64 (enc F N D p).2]
set_option maxHeartbeats 2000000 in
set_option maxRecDepth 100000 in
theorem enc_any (F N : Int) (D : ByteArray) (p : Int) (w : World) (hs : L7.Sizes w) :
    Calls Tryz.prog 36 #[cv F N D, .int .i64 p] w fun e w' => e = .returned (encV F N D p) ∧ Below w.heap.size w w' := by
  have hb0 := cbox_below 31 F N D w
  have HB0 := Lib.hid hb0
  have HS0 := Lib.hid (hs.below hs.lt hb0)
  have HK := Lib.hid (cbox_new 31 F N D w)
  have HSZ := Lib.hid (fun W (h : L7.Sizes W) => L7.size_any p W h)
  have HM := Lib.hid (fun W (h : L7.Sizes W) => may_any F N D p W h)
  obtain ⟨r, HRS⟩ : ∃ r, Hid (r = encV F N D p) := ⟨_, Lib.hid rfl⟩
  rw [← HRS.out]
  rcases enc_cases F N D p with ⟨hmb, hmay, he⟩ | ⟨hmb, hmay, he⟩ | ⟨hmb, hmay, he⟩
  · have HX : Hid (r = .tuple #[.string ⟨#[]⟩, .int .i64 4]) := Lib.hid (by rw [HRS.out, encV, he])
    rw [hmb] at HSZ
    clear hmb he hmay hs hb0 HM
    go_enter Tryz.func36, Tryz.ntmps36
    go_wp2_with fail
    refine (HSZ.out _ HS0.out).mono ?_
    rintro e w2 ⟨rfl, rfl⟩
    go_wp2_with fail
    go_ret2
    exact ⟨by rw [HX.out] <;> rfl, HB0.out⟩
  · have HX : Hid (r = .tuple #[.string ⟨#[]⟩, .int .i64 3]) := Lib.hid (by rw [HRS.out, encV, he])
    rw [hmb] at HSZ
    rw [decide_eq_false hmay] at HM
    clear hmb hmay he hs hb0
    obtain ⟨c0, c1, c2⟩ := HK.out.cells
    go_enter Tryz.func36, Tryz.ntmps36
    go_wp2_with fail
    refine (HSZ.out _ HS0.out).mono ?_
    rintro e w2 ⟨rfl, rfl⟩
    go_wp2_with fail
    refine (HM.out _ HS0.out).mono ?_
    rintro e w2 ⟨rfl, hb2⟩
    go_wp2_with fail
    go_ret2
    exact ⟨by rw [HX.out] <;> rfl, HB0.out.trans' hb2⟩
  · have hp := mayBe_le hmay.1
    have hz := hmay.2.2.2.1
    obtain ⟨q, rfl⟩ : ∃ q : Nat, p = q := Int.eq_ofNat_of_zero_le (by omega)
    have HX : Hid (r = .tuple #[.string ⟨(page F N D q).toArray⟩, .int .i64 0]) := Lib.hid (by rw [HRS.out, encV, he, Int.toNat_natCast])
    rw [hmb] at HSZ
    rw [decide_eq_true hmay] at HM
    have HSE := Lib.hid (fun W (h : L7.Sizes W) => L7.seal_any (hd F N D) D q W h (by simp [Lit.wf, IntKind.min, IntKind.max, IntKind.signed, IntKind.bits]; omega) (by unfold maxLen; omega))
    have hsv := seal_ok hmay
    rw [hsv, Int.toNat_natCast] at HSE
    rw [show L7.hv (hd F N D) = .agg #[.int .i64 4, .int .i64 0, .int .i64 D.size, .int .i64 N, .int .i64 F] by rfl] at HSE
    generalize (⟨(page F N D q).toArray⟩ : ByteArray) = PG at *
    clear hmay hmb he hs hb0 hp hsv hz
    obtain ⟨c0, c1, c2⟩ := HK.out.cells
    go_enter Tryz.func36, Tryz.ntmps36
    go_wp2_with fail
    refine (HSZ.out _ HS0.out).mono ?_
    rintro e w2 ⟨rfl, rfl⟩
    go_wp2_with fail
    refine (HM.out _ HS0.out).mono ?_
    rintro e w2 ⟨rfl, hb2⟩
    clear c0 c1 c2
    have HS2 := Lib.hid (HS0.out.below HS0.out.lt hb2)
    have HB2 := Lib.hid (HB0.out.trans' hb2)
    obtain ⟨c0, c1, c2⟩ := (HK.out.below hb2).cells
    clear hb2
    go_wp2_with fail
    refine (HSE.out _ HS2.out).mono ?_
    rintro e w5 ⟨rfl, hb5⟩
    go_wp2_with fail
    go_ret2
    exact ⟨by rw [HX.out] <;> rfl, HB2.out.trans' hb5⟩
def decV (s : ByteArray) : Value := match dec s with
  | some (F, N, D) => .tuple #[cv F N D, .int .i64 0]
  | none => .tuple #[cv0, .int .i64 3]
theorem decV_some {s : ByteArray} {F N : Int} {D : ByteArray} (h : dec s = some (F, N, D)) : decV s = .tuple #[cv F N D, .int .i64 0] := by unfold decV; rw [h]
theorem decV_none {s : ByteArray} (h : dec s = none) : decV s = .tuple #[cv0, .int .i64 3] := by unfold decV; rw [h]
end Go.Proofs.YtpeghilfldpgfaaGreatDoor.L12
namespace Go.Proofs.YtpeghilfldpgfaaGreatDoor.L12
open Go.RowKit CP
set_option linter.unusedVariables false
set_option linter.unusedSimpArgs false
theorem text_yes {a b : ByteArray} (h : a = b) : (a.toList == b.toList) = true := L5.same_yes (by rw [h])
theorem text_no {a b : ByteArray} (h : a ≠ b) : (a.toList == b.toList) = false := L5.same_no (fun e => h (ByteArray.ext (Array.toList_inj.1 e)))
theorem opn_count {s : ByteArray} (h : (L7.HP.opn s).2.2 = 0) : 0 ≤ (L7.HP.opn s).1.c := by
  by_cases hg : L7.mayBe s.size = true ∧ L7.HP.good s.data.toList
  · rw [L7.HP.opn_good hg.1 hg.2]
    exact hg.2.1.2.2.2.2.1
  · rw [L7.HP.opn_bad hg] at h
    cases h
theorem opn_size {s : ByteArray} : (L7.HP.opn s).2.1.size ≤ s.size := by
  by_cases hg : L7.mayBe s.size = true ∧ L7.HP.good s.data.toList
  · rw [L7.HP.opn_good hg.1 hg.2]
    show (s.extract 16 s.size).size ≤ _
    rw [ByteArray.size_extract]
    omega
  · rw [L7.HP.opn_bad hg]
    exact Nat.zero_le _
set_option maxHeartbeats 4000000 in
set_option maxRecDepth 100000 in
theorem dec_any (s : ByteArray) (w : World) (hz : L7.Sizes w) (hs : s.size ≤ maxLen) :
    Calls Tryz.prog 27 #[.string s] w fun e w' => e = .returned (decV s) ∧ Below w.heap.size w w' := by
  have hb0 := cbox_below 31 0 0 ⟨#[]⟩ w
  have hsz0 := cbox_size 31 0 0 ⟨#[]⟩ w
  have HB := Lib.hid hb0
  have HK := Lib.hid (cbox_new 31 0 0 ⟨#[]⟩ w)
  have HG := Lib.hid (hz.below hz.lt hb0)
  have HO := Lib.hid (L7.open_any s _ (hz.below hz.lt hb0) hs)
  have hcount := @opn_count s
  have hbs := @opn_size s
  have hbad := @dec_bad s
  have hyes := @dec_yes s
  have hno := @dec_no s
  unfold L7.opnV at HO
  generalize L7.HP.opn s = x at *
  obtain ⟨⟨k, l, c, r, f⟩, b, e⟩ := x
  simp only [L7.hv] at HO
  simp only at hcount hbs hbad hyes hno
  unfold maxLen at hs
  clear hb0 hz
  by_cases he : e = 0
  · subst he
    have hc0 := hcount rfl
    obtain ⟨n, rfl⟩ := Int.eq_ofNat_of_zero_le hc0
    by_cases hn : n ≤ b.size
    · have hd : decide ((b.size : Int) < (n : Int)) = false := decide_eq_false (by omega)
      have h0n : (0 : Int) ≤ n := by omega
      have hnb : (n : Int) ≤ b.size := by omega
      obtain ⟨D, hD⟩ : ∃ D, b.extract 0 n = D := ⟨_, rfl⟩
      rw [Int.toNat_natCast, hD] at hyes hno
      have HE := Lib.hid (fun W (h : L7.Sizes W) => enc_any f r D s.size W h)
      obtain ⟨S2, c2, he⟩ : ∃ S2 c2, enc f r D s.size = (S2, c2) := ⟨_, _, rfl⟩
      rw [encV, he] at HE
      rw [he] at hyes hno
      have HD : Hid (b.extract 0 n = D) := Lib.hid hD
      have HYES := Lib.hid (hyes ⟨rfl, by omega⟩)
      have HNO := Lib.hid (hno ⟨rfl, by omega⟩)
      clear hcount hbs hbad hyes hno he hc0 hn
      go_enter Tryz.func27, Tryz.ntmps27
      go_wp2_with fail
      refine HO.out.mono ?_
      rintro e V ⟨rfl, hb⟩
      have HBV := Lib.hid (HB.out.trans' hb)
      have HKV := Lib.hid (HK.out.below hb)
      have hbh := L5.below_alloc V (.cells #[.int .i64 k, .int .i64 l, .int .i64 n, .int .i64 r, .int .i64 f] 120)
      have HBH := Lib.hid (HBV.out.trans' hbh)
      have HKH := Lib.hid (HKV.out.below hbh)
      have HHX := Lib.hid (show L7.Bx 120 V.heap.size ⟨k, l, n, r, f⟩ (V.alloc (.cells #[.int .i64 k, .int .i64 l, .int .i64 n, .int .i64 r, .int .i64 f] 120)) from heap_alloc_new _ _)
      have HGH := Lib.hid (HG.out.below HG.out.lt (hb.trans' hbh))
      obtain ⟨y0, y1, y2, y3, y4⟩ := HHX.out.cells
      clear hb hbh
      go_wp2_with fail
      generalize V.alloc (.cells #[.int .i64 k, .int .i64 l, .int .i64 n, .int .i64 r, .int .i64 f] 120) = W1 at *
      have hb3 := cbox_below 31 0 0 ⟨#[]⟩ W1
      obtain ⟨y0, y1, y2, y3, y4⟩ := (HHX.out.below hb3).cells
      obtain ⟨x0, x1, x2⟩ := (cbox_new 31 0 0 ⟨#[]⟩ W1).cells
      obtain ⟨f0, f1, f2⟩ := (cbox_new 31 0 0 ⟨#[]⟩ W1).free
      simp only [cbox] at y0 y1 y2 y3 y4 x0 x1 x2 f0 f1 f2
      clear hb3
      go_region
      have hb4 : Below W1.heap.size W1 (W1.alloc (.cells #[.int .i64 f, .int .i64 r, .string D] 31)).drew := L5.below_drewN (L5.below_alloc W1 _) 1
      have HC : Hid (Cx 31 W1.heap.size f r D (W1.alloc (.cells #[.int .i64 f, .int .i64 r, .string D] 31)).drew) := Lib.hid (cbox_new 31 f r D W1)
      have HB2 := Lib.hid (HBH.out.trans' hb4)
      have HK2 := Lib.hid (HKH.out.below hb4)
      have HG2 := Lib.hid (HGH.out.below HGH.out.lt hb4)
      generalize (W1.alloc (.cells #[.int .i64 f, .int .i64 r, .string D] 31)).drew = W2 at *
      clear hb4 y0 y1 y2 y3 y4 x0 x1 x2 f0 f1 f2 HBH HKH HGH HHX HBV HKV HB HK HG HO
      obtain ⟨x0, x1, x2⟩ := HC.out.cells
      generalize hq1 : W1.heap.size = gc at *
      go_wp2_with fail
      refine (HE.out _ HG2.out).mono ?_
      rintro e V3 ⟨rfl, hb⟩
      have HKQ := Lib.hid (HK2.out.below hb)
      have HBQ := Lib.hid (HB2.out.trans' hb)
      clear x0 x1 x2
      obtain ⟨x0, x1, x2⟩ := (HC.out.below hb).cells
      obtain ⟨u0, u1, u2⟩ := HKQ.out.cells
      obtain ⟨f0, f1, f2⟩ := HKQ.out.free
      clear hb
      by_cases hc0 : c2 = 0
      · subst hc0
        by_cases hS : S2 = s
        · subst hS
          have hz := text_yes (rfl : S2 = S2)
          have hz2 : (S2.toList != S2.toList) = false := by simp
          have HX : Hid (decV S2 = .tuple #[cv f r D, .int .i64 0]) := Lib.hid (decV_some (HYES.out rfl))
          go_wp2_with fail
          obtain ⟨r0, r1, r2⟩ := (setC_box HKQ.out f r D).cells
          unfold setC at r0 r1 r2
          refine bodyPost_ret (v := .tuple #[cv f r D, .int .i64 0]) (by simp [results, Tryz.results27, go_sem, r0, r1, r2]) rfl ⟨by rw [HX.out], ?_⟩
          exact setC_below HBQ.out (Nat.le_refl _) f r D
        · have hz := text_no hS
          have hz2 : (S2.toList != s.toList) = true := by simp only [bne, hz]; rfl
          have HX : Hid (decV s = .tuple #[cv0, .int .i64 3]) := Lib.hid (decV_none (HNO.out (fun h => hS (congrArg Prod.fst h))))
          clear hS
          go_wp2_with fail
          obtain ⟨r0, r1, r2⟩ := (setC_box HKQ.out 0 0 ⟨#[]⟩).cells
          unfold setC at r0 r1 r2
          refine bodyPost_ret (v := .tuple #[cv0, .int .i64 3]) (by simp [results, Tryz.results27, go_sem, r0, r1, r2]) rfl ⟨by rw [HX.out], ?_⟩
          exact setC_below HBQ.out (Nat.le_refl _) 0 0 ⟨#[]⟩
      · have hcn : (c2 != 0) = true := by simpa using hc0
        have hce : (c2 == 0) = false := by simpa using hc0
        have HX : Hid (decV s = .tuple #[cv0, .int .i64 3]) := Lib.hid (decV_none (HNO.out (fun h => hc0 (congrArg Prod.snd h))))
        clear hc0
        go_wp2_with fail
        obtain ⟨r0, r1, r2⟩ := (setC_box HKQ.out 0 0 ⟨#[]⟩).cells
        unfold setC at r0 r1 r2
        refine bodyPost_ret (v := .tuple #[cv0, .int .i64 3]) (by simp [results, Tryz.results27, go_sem, r0, r1, r2]) rfl ⟨by rw [HX.out], ?_⟩
        exact setC_below HBQ.out (Nat.le_refl _) 0 0 ⟨#[]⟩
    · have hd : decide ((b.size : Int) < (n : Int)) = true := decide_eq_true (by omega)
      have hd2 : decide (b.size < n) = true := decide_eq_true (by omega)
      have HX : Hid (decV s = .tuple #[cv0, .int .i64 3]) := Lib.hid (decV_none (hbad (fun h => by have := h.2; omega)))
      clear hcount hbs hbad hyes hno hc0 hn
      go_enter Tryz.func27, Tryz.ntmps27
      go_wp2_with fail
      refine HO.out.mono ?_
      rintro e V ⟨rfl, hb⟩
      have hb := hb.trans' (L5.below_alloc V (.cells #[.int .i64 k, .int .i64 l, .int .i64 n, .int .i64 r, .int .i64 f] 120))
      have HBQ := Lib.hid (HB.out.trans' hb)
      have HKQ := Lib.hid (HK.out.below hb)
      have HHX := Lib.hid (show L7.Bx 120 V.heap.size ⟨k, l, n, r, f⟩ (V.alloc (.cells #[.int .i64 k, .int .i64 l, .int .i64 n, .int .i64 r, .int .i64 f] 120)) from heap_alloc_new _ _)
      obtain ⟨y0, y1, y2, y3, y4⟩ := HHX.out.cells
      obtain ⟨u0, u1, u2⟩ := HKQ.out.cells
      obtain ⟨f0, f1, f2⟩ := HKQ.out.free
      clear hb
      go_wp2_with fail
      obtain ⟨r0, r1, r2⟩ := (setC_box HKQ.out 0 0 ⟨#[]⟩).cells
      unfold setC at r0 r1 r2
      refine bodyPost_ret (v := .tuple #[cv0, .int .i64 3]) (by simp [results, Tryz.results27, go_sem, r0, r1, r2]) rfl ⟨by rw [HX.out], ?_⟩
      exact setC_below HBQ.out (Nat.le_refl _) 0 0 ⟨#[]⟩
  · have hcn : (e != 0) = true := by simpa using he
    have hce : (e == 0) = false := by simpa using he
    have HX : Hid (decV s = .tuple #[cv0, .int .i64 3]) := Lib.hid (decV_none (hbad (fun h => he h.1)))
    clear hcount hbs hbad hyes hno he
    go_enter Tryz.func27, Tryz.ntmps27
    go_wp2_with fail
    refine HO.out.mono ?_
    rintro e V ⟨rfl, hb⟩
    have hb := hb.trans' (L5.below_alloc V (.cells #[.int .i64 k, .int .i64 l, .int .i64 c, .int .i64 r, .int .i64 f] 120))
    have HBQ := Lib.hid (HB.out.trans' hb)
    have HKQ := Lib.hid (HK.out.below hb)
    obtain ⟨u0, u1, u2⟩ := HKQ.out.cells
    obtain ⟨f0, f1, f2⟩ := HKQ.out.free
    clear hb
    go_wp2_with fail
    obtain ⟨r0, r1, r2⟩ := (setC_box HKQ.out 0 0 ⟨#[]⟩).cells
    unfold setC at r0 r1 r2
    refine bodyPost_ret (v := .tuple #[cv0, .int .i64 3]) (by simp [results, Tryz.results27, go_sem, r0, r1, r2]) rfl ⟨by rw [HX.out], ?_⟩
    exact setC_below HBQ.out (Nat.le_refl _) 0 0 ⟨#[]⟩
end Go.Proofs.YtpeghilfldpgfaaGreatDoor.L12
namespace Go.Proofs.YtpeghilfldpgfaaGreatDoor.L12
open Go.RowKit CP
set_option linter.unusedVariables false
set_option linter.unusedSimpArgs false
def cutD (D : ByteArray) : ByteArray := D.extract 0 (min D.size 1100)
theorem cut_1100 (s : ByteArray) : ∃ m : Nat, min (s.size : Int) 1100 = m ∧ m = min s.size 1100 ∧ m ≤ s.size := ⟨min s.size 1100, by omega, rfl, by omega⟩
set_option maxHeartbeats 1000000 in
theorem cut_any (F N : Int) (D : ByteArray) (w : World) :
    Calls Tryz.prog 37 #[cv F N D] w fun e w' => e = .returned (cv F N (cutD D)) ∧ Below w.heap.size w w' := by
  obtain ⟨m, hm1, hm2, hm3⟩ := cut_1100 D
  have HX : Hid (D.extract 0 m = cutD D) := Lib.hid (by unfold cutD; rw [hm2])
  have q1 : (0 : Int) ≤ m := by omega
  have q2 : (m : Int) ≤ D.size := by omega
  have hbl : Below w.heap.size w ((cbox 31 F N D w).alloc (.cells #[.int .i64 0, .int .i64 0, .string ⟨#[]⟩] 31)) := (cbox_below 31 F N D w).trans' (L5.below_alloc _ _)
  clear hm2 hm3
  go_enter Tryz.func37, Tryz.ntmps37
  go_wp2_with fail
  refine bodyPost_ret (v := cv F N (D.extract 0 m)) (by simp [results, Tryz.results37, go_sem]) rfl ⟨by rw [HX.out], ?_⟩
  exact (cbox_below 31 F N (D.extract 0 m) w).trans' (L5.below_alloc _ _)
end Go.Proofs.YtpeghilfldpgfaaGreatDoor.L12
