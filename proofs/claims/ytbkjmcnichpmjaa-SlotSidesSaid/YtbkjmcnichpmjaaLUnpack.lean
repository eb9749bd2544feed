/-
  The walk of the document's Unpack.
-/
import Derived.Test.YtbkjmcnichpmjaaLPack
namespace Go.Proofs.Ytbkjmcnichpmjaa
open Go.RowKit
set_option linter.unusedVariables false
set_option linter.unusedSimpArgs false

def cutB (b : ByteArray) (i : Nat) : ByteArray := b.extract (LP.at_ (B b) i) (LP.at_ (B b) (i + 1))
def cellsB (b : ByteArray) (n : Nat) : List ByteArray := (List.range n).map (cutB b)
theorem cellsB_length (b : ByteArray) (n : Nat) : (cellsB b n).length = n := by simp [cellsB]
theorem cellsB_succ (b : ByteArray) (n : Nat) : cellsB b (n + 1) = cellsB b n ++ [cutB b n] := by simp [cellsB, List.range_succ]
theorem bs_cellsB (b : ByteArray) (n : Nat) : Bs (cellsB b n) = LP.cells (B b) n := by
  simp only [Bs, cellsB, LP.cells, List.map_map]
  congr 1
  funext i
  exact b_extract b _ _
theorem cellsB_size (b : ByteArray) (n : Nat) : ∀ s ∈ cellsB b n, s.size ≤ b.size := fun s hs => by
  obtain ⟨i, _, rfl⟩ := List.mem_map.1 hs
  simp only [cutB, ByteArray.size_extract]
  omega
/-- The places of a body that is one rise, and stay in it. -/
theorem good_at {b : List UInt8} {k n : Nat} (hb : b.length < 65536) (h : LP.good b k n) (i : Nat) (hi : i < n) : LP.at_ b i ≤ LP.at_ b (i + 1) ∧ LP.at_ b (i + 1) ≤ b.length := by
  obtain ⟨h1, h2, h3⟩ := h
  have hk : (b.take k).length = k := by rw [List.length_take]; omega
  have hn : (LP.cells b n).length = n := LP.cells_length b n
  have e1 := LP.at_pack b.length (b.take k) (LP.cells b n) hb (by rw [hk]; exact h2) i (by omega)
  have e2 := LP.at_pack b.length (b.take k) (LP.cells b n) hb (by rw [hk]; exact h2) (i + 1) (by omega)
  rw [h3, hk] at e1 e2
  have h4 := LP.sum_take_succ (LP.cells b n) i (by omega)
  have h5 := LP.sum_take_le (LP.cells b n) (i + 1)
  unfold LP.need at h2
  unfold LP.place at e1 e2
  omega
theorem good_few {b : List UInt8} {k n : Nat} (h : LP.good b k n) : k + 2 + 2 * n ≤ b.length := by
  have h2 := h.2.1
  unfold LP.need at h2
  rw [LP.cells_length] at h2
  omega
/-- A body is what is packed of its cells, or is none. -/
theorem unpack_end (b : ByteArray) (k n : Nat) (hb : b.size ≤ 65535) (hk : k ≤ b.size) :
    (LP.good (B b) k n ∧ packV b.size (b.extract 0 k) (cellsB b n) = .tuple #[.string b, .int .i64 0]) ∨
    (¬ LP.good (B b) k n ∧ packV b.size (b.extract 0 k) (cellsB b n) = .tuple #[.string ⟨#[]⟩, .int .i64 8]) ∨
    (¬ LP.good (B b) k n ∧ ∃ P : ByteArray, P ≠ b ∧ packV b.size (b.extract 0 k) (cellsB b n) = .tuple #[.string P, .int .i64 0]) := by
  have hf : B (b.extract 0 k) = (B b).take k := by rw [b_extract]; simp
  have hfs : (b.extract 0 k).size = k := by simp; omega
  have hbl : (B b).length = b.size := b_size b
  unfold packV packS
  rw [if_neg (by omega), hfs, bs_cellsB, hf, Int.toNat_natCast]
  by_cases h1 : (b.size : Int) < (LP.need k (LP.cells (B b) n) : Nat)
  · right; left
    refine ⟨fun h => ?_, by rw [if_pos h1]⟩
    have := h.2.1
    omega
  · rw [if_neg h1]
    by_cases h2 : LP.pack b.size ((B b).take k) (LP.cells (B b) n) = B b
    · left
      refine ⟨⟨by omega, by omega, by rw [hbl]; exact h2⟩, ?_⟩
      rw [h2]
    · right; right
      refine ⟨fun h => h2 (by have := h.2.2; rwa [hbl] at this), _, fun e => h2 ?_, rfl⟩
      have e3 := congrArg B e
      simpa [B] using e3

/-- What Unpack answers. -/
def Unp (b : ByteArray) (k n : Int) (w : World) (e : Ending) (w' : World) : Prop :=
  ((k < 0 ∨ n < 0 ∨ 65535 < b.size) ∧ e = .returned (.tuple #[.slice none 0 0, .int .i64 4])) ∨
  (¬ (k < 0 ∨ n < 0 ∨ 65535 < b.size) ∧ ¬ LP.good (B b) k.toNat n.toNat ∧ e = .returned (.tuple #[.slice none 0 0, .int .i64 3])) ∨
  (¬ (k < 0 ∨ n < 0 ∨ 65535 < b.size) ∧ LP.good (B b) k.toNat n.toNat ∧ ∃ g cap, e = .returned (.tuple #[.slice (some ⟨g, 0, none⟩) n.toNat cap, .int .i64 0]) ∧ w.heap.size ≤ g ∧ n.toNat ≤ cap ∧ Lies w' w'.heap.size (some ⟨g, 0, none⟩) (cellsB b n.toNat))
theorem own_block {w : World} {base e n g cap : Nat} {xs : List Value} (h : w.ownsRow base e 1 (.slice (some ⟨g, 0, none⟩) n cap) n xs) (hn : 0 < n) : base ≤ g := by
  rcases h.2 with ⟨_, h0⟩ | ⟨g', c, cur, e, hb, _⟩
  · omega
  · simp only [Value.slice.injEq, Option.some.injEq, Addr.mk.injEq] at e
    omega

set_option maxHeartbeats 2000000 in
set_option maxRecDepth 100000 in
theorem unpack8_any (b : ByteArray) (kf n : Int) (w : World) (hk : (Lit.int .i64 kf).wf = true) (hn : (Lit.int .i64 n).wf = true) (hb : b.size ≤ maxLen) :
    Calls Try.prog 12 #[.string b, .int .i64 kf, .int .i64 n] w fun e w' => Unp b kf n w e w' ∧ Below w.heap.size w w' := by
  unfold maxLen at hb
  by_cases a1 : kf < 0
  · have HU := Lib.hid (fun e w' (h : e = .returned (.tuple #[.slice none 0 0, .int .i64 4])) => (.inl ⟨.inl a1, h⟩ : Unp b kf n w e w'))
    clear hk hn
    go_enter Try.func12, Try.ntmps12
    go_wp2_with fail
    go_ret2
    exact ⟨HU.out _ _ rfl, Below.refl _ _⟩
  by_cases a2 : n < 0
  · have HU := Lib.hid (fun e w' (h : e = .returned (.tuple #[.slice none 0 0, .int .i64 4])) => (.inl ⟨.inr (.inl a2), h⟩ : Unp b kf n w e w'))
    clear hk hn
    go_enter Try.func12, Try.ntmps12
    go_wp2_with fail
    go_ret2
    exact ⟨HU.out _ _ rfl, Below.refl _ _⟩
  by_cases a3 : 65535 < b.size
  · have HU := Lib.hid (fun e w' (h : e = .returned (.tuple #[.slice none 0 0, .int .i64 4])) => (.inl ⟨.inr (.inr a3), h⟩ : Unp b kf n w e w'))
    have d1 : decide (65535 < b.size) = true := decide_eq_true a3
    have d2 : decide ((65535 : Int) < (b.size : Int)) = true := decide_eq_true (by omega)
    clear hk hn
    go_enter Try.func12, Try.ntmps12
    go_wp2_with fail
    go_ret2
    exact ⟨HU.out _ _ rfl, Below.refl _ _⟩
  obtain ⟨k, rfl⟩ := Int.eq_ofNat_of_zero_le (show 0 ≤ kf by omega)
  obtain ⟨n, rfl⟩ := Int.eq_ofNat_of_zero_le (show 0 ≤ n by omega)
  have hno : ¬ ((k : Int) < 0 ∨ (n : Int) < 0 ∨ 65535 < b.size) := by omega
  have HBAD : Hid (¬ LP.good (B b) k n → ∀ e w', e = .returned (.tuple #[.slice none 0 0, .int .i64 3]) → Unp b k n w e w') := Lib.hid (fun hg e w' h => .inr (.inl ⟨hno, hg, h⟩))
  have HOK : Hid (LP.good (B b) k n → ∀ w' g cap, w.heap.size ≤ g → n ≤ cap → Lies w' w'.heap.size (some ⟨g, 0, none⟩) (cellsB b n) → Unp b k n w (.returned (.tuple #[.slice (some ⟨g, 0, none⟩) n cap, .int .i64 0])) w') := Lib.hid (fun hg w' g cap h1 h2 h3 => .inr (.inr ⟨hno, hg, g, cap, rfl, h1, h2, h3⟩))
  have hbl : (B b).length = b.size := b_size b
  have d1 : decide (65535 < b.size) = false := decide_eq_false a3
  have d2 : decide ((65535 : Int) < (b.size : Int)) = false := decide_eq_false (by omega)
  clear hno hk hn
  by_cases c1 : b.size < k
  · have HB2 := Lib.hid (HBAD.out (fun h => by have := h.1; omega))
    have d3 : decide (b.size < k) = true := decide_eq_true c1
    have d4 : decide ((b.size : Int) < (k : Int)) = true := decide_eq_true (by omega)
    clear HBAD HOK hbl
    go_enter Try.func12, Try.ntmps12
    go_wp2_with fail
    go_ret2
    exact ⟨HB2.out _ _ rfl, Below.refl _ _⟩
  have d3 : decide (b.size < k) = false := decide_eq_false c1
  have d4 : decide ((b.size : Int) < (k : Int)) = false := decide_eq_false (by omega)
  by_cases c2 : b.size / 2 ≤ n
  · have HB2 := Lib.hid (HBAD.out (fun h => by have := good_few h; omega))
    have d5 : decide (b.size / 2 ≤ n) = true := decide_eq_true c2
    have d6 : decide ((b.size : Int) / 2 ≤ (n : Int)) = true := decide_eq_true (by omega)
    clear HBAD HOK hbl
    go_enter Try.func12, Try.ntmps12
    go_wp2_with fail
    go_ret2
    exact ⟨HB2.out _ _ rfl, Below.refl _ _⟩
  have d5 : decide (b.size / 2 ≤ n) = false := decide_eq_false c2
  have d6 : decide ((b.size : Int) / 2 ≤ (n : Int)) = false := decide_eq_false (by omega)
  obtain ⟨i0, hi, hz0, hz1, hz2⟩ := info_parts Try.infoStr
  go_enter Try.func12, Try.ntmps12
  go_wp2_with fail
  go_loopw [8, 9] (fun ov iv wr => ∃ (i g cap : Nat), i ≤ n ∧ iv = .int .i64 i ∧ ov = .slice (some ⟨g, 0, none⟩) i cap ∧ Hid (Owns wr w.heap.size (.slice (some ⟨g, 0, none⟩) i cap) i (cellsB b i)) ∧ w.heap.size ≤ g ∧ i ≤ cap ∧ Below w.heap.size w wr) (fun _ iv _ => n - (intOf iv).toNat)
  case atStart => exact ⟨0, w.heap.size, 0, by omega, rfl, rfl, Lib.hid (own_empty w _), Nat.le_refl _, by omega, below_alloc _ _⟩
  case round =>
    obtain ⟨i, g, cap, hin, rfl, rfl, HO, hg, hcap, hbw⟩ := hrel
    have hbs := hbw.size
    by_cases hlt : i < n
    · obtain ⟨p, hp⟩ : ∃ p, LP.at_ (B b) i = p := ⟨_, rfl⟩
      obtain ⟨q, hq⟩ : ∃ q, LP.at_ (B b) (i + 1) = q := ⟨_, rfl⟩
      have HA1 := Lib.hid (fun W => at_any b i W (by omega) (by omega))
      have HA2 := Lib.hid (fun W => at_any b (i + 1) W (by omega) (by omega))
      rw [hp] at HA1
      rw [hq] at HA2
      have HW1 : IntKind.i64.wrap ((i : Int) + 1) = (i : Int) + 1 := IntWalk.i64_in _ (by omega)
      have e1 : (((i + 1 : Nat)) : Int) = (i : Int) + 1 := by omega
      rw [e1] at HA2
      have hB : (B b).length < 65536 := by omega
      by_cases hpq : p ≤ q ∧ q ≤ b.size
      · obtain ⟨c, hc⟩ : ∃ c, b.extract p q = c := ⟨_, rfl⟩
        have HC := Lib.hid (show cellsB b (i + 1) = cellsB b i ++ [c] by rw [cellsB_succ, cutB, hp, hq, hc])
        have d7 : decide (q < p) = false := decide_eq_false (by omega)
        have d8 : decide ((q : Int) < (p : Int)) = false := decide_eq_false (by omega)
        have d9 : decide (b.size < q) = false := decide_eq_false (by omega)
        have d10 : decide ((b.size : Int) < (q : Int)) = false := decide_eq_false (by omega)
        have j1 : (0 : Int) ≤ (p : Int) ∧ (p : Int) ≤ (q : Int) ∧ (q : Int) ≤ (b.size : Int) := by omega
        have j2 : p ≤ q := hpq.1
        have j3 : q ≤ b.size := hpq.2
        clear hp hq hpq hB
        go_wp2_with fail
        refine (HA1.out _).mono ?_
        rintro e w1 ⟨rfl, hb1⟩
        go_wp2_with fail
        refine (HA2.out _).mono ?_
        rintro e w2 ⟨rfl, hb2⟩
        have hO2 := own_below (own_below HO.out hb1) hb2
        have hbw2 := (hbw.trans' hb1).trans' hb2
        have hbs2 := hbw2.size
        go_wp2_with (first
          | (at_builtin; refine wpList_append_lies _ rfl _ _ 22 rfl w.heap.size 9 i0 (.string ⟨#[]⟩) 1 16 Try.underlying22 hi hz0 hz1 hz2 rfl (by decide) (.slice (some ⟨g, 0, none⟩) i cap) i _ rfl (hO2.alloc _) ⟨w2.heap.size, 0, none⟩ 1 1 [.string c] rfl rfl (World.news_of_block (cs := #[.string c]) (t := 9) (fr := (0, 0)) (heap_alloc_new w2 _)) (by simp [Value.oneCell']) (by omega) (by unfold maxLen; omega) (by omega) (by simp; omega) (w2.heap.size + 1) (by simp) ?_; intro g' cap' w3 hown1 hgrow hat hlt1))
        have hg' : w.heap.size ≤ g' := own_block hown1 (by omega)
        have hcap' := own_cap hown1
        have hb3 : Below w.heap.size w w3 := (hbw2.trans' (below_alloc w2 (.cells #[.string c] 9))).trans (own_apart (hO2.alloc _) hgrow (Nat.le_refl _) (by simp; omega))
        clear hat hlt1
        go_roundw
        case rel => exact ⟨i + 1, g', cap', by omega, by go_num, rfl, Lib.hid (by rw [HC.out, Owns, strCells_snoc]; exact hown1), hg', hcap', hb3⟩
        case measure => simp [intOf]; omega
      · have HB2 := Lib.hid (HBAD.out (fun h => by
          have := good_at hB h i hlt
          rw [hp, hq, hbl] at this
          exact hpq this))
        clear hp hq HBAD HOK hB
        by_cases h7 : q < p
        · have d7 : decide (q < p) = true := decide_eq_true h7
          have d8 : decide ((q : Int) < (p : Int)) = true := decide_eq_true (by omega)
          clear hpq
          go_wp2_with fail
          refine (HA1.out _).mono ?_
          rintro e w1 ⟨rfl, hb1⟩
          go_wp2_with fail
          refine (HA2.out _).mono ?_
          rintro e w2 ⟨rfl, hb2⟩
          go_wp2_with fail
          go_ret2
          exact ⟨HB2.out _ _ rfl, (hbw.trans' hb1).trans' hb2⟩
        · have d7 : decide (q < p) = false := decide_eq_false h7
          have d8 : decide ((q : Int) < (p : Int)) = false := decide_eq_false (by omega)
          have d9 : decide (b.size < q) = true := decide_eq_true (by omega)
          have d10 : decide ((b.size : Int) < (q : Int)) = true := decide_eq_true (by omega)
          clear hpq
          go_wp2_with fail
          refine (HA1.out _).mono ?_
          rintro e w1 ⟨rfl, hb1⟩
          go_wp2_with fail
          refine (HA2.out _).mono ?_
          rintro e w2 ⟨rfl, hb2⟩
          go_wp2_with fail
          go_ret2
          exact ⟨HB2.out _ _ rfl, (hbw.trans' hb1).trans' hb2⟩
    · obtain rfl : i = n := by omega
      have hlen := cellsB_length b i
      have HL := lies_own HO.out hlen.symm
      obtain ⟨f, hf⟩ : ∃ f, b.extract 0 k = f := ⟨_, rfl⟩
      have sf : f.size = k := by rw [← hf]; simp; omega
      have HPK := Lib.hid (by have h := pack8_any (b.size : Int) f (some ⟨g, 0, none⟩) (cellsB b i) cap wr HL (by rw [hlen]; omega) (by omega) (fun s hs => Nat.le_trans (cellsB_size b i s hs) (by omega)); rw [hlen] at h; exact h)
      have hend := unpack_end b k i (by omega) (by omega)
      rw [hf] at hend
      have HLL := Lib.hid HL
      have d11 : decide ((i : Int) < (i : Int)) = false := decide_eq_false (by omega)
      have j1 : (0 : Int) ≤ (k : Int) ∧ (k : Int) ≤ (b.size : Int) := by omega
      have j2 : k ≤ b.size := by omega
      have hss : (b.toList == b.toList) = true := beq_self_eq_true _
      rcases hend with ⟨hgd, hv⟩ | ⟨hgd, hv⟩ | ⟨hgd, P, hne, hv⟩
      · rw [hv] at HPK
        have HO2 := Lib.hid (HOK.out hgd)
        clear hv hgd HBAD HOK hlen HL sf
        go_wp2_with fail
        refine HPK.out.mono ?_
        rintro e w1 ⟨rfl, hb1⟩
        go_wp2_with fail
        go_ret2
        exact ⟨HO2.out _ _ _ hg hcap (HLL.out.on hb1), hbw.trans' hb1⟩
      · rw [hv] at HPK
        have HB2 := Lib.hid (HBAD.out hgd)
        clear hv hgd HBAD HOK hlen HL sf
        go_wp2_with fail
        refine HPK.out.mono ?_
        rintro e w1 ⟨rfl, hb1⟩
        go_wp2_with fail
        go_ret2
        exact ⟨HB2.out _ _ rfl, hbw.trans' hb1⟩
      · rw [hv] at HPK
        have HB2 := Lib.hid (HBAD.out hgd)
        have hneq : (P.toList == b.toList) = false := by
          rw [Lib.toList_data, Lib.toList_data]
          exact beq_eq_false_iff_ne.2 fun e => hne (ByteArray.ext (Array.toList_inj.1 e))
        clear hv hgd HBAD HOK hlen HL sf hne
        go_wp2_with fail
        refine HPK.out.mono ?_
        rintro e w1 ⟨rfl, hb1⟩
        go_wp2_with fail
        go_ret2
        exact ⟨HB2.out _ _ rfl, hbw.trans' hb1⟩
end Go.Proofs.Ytbkjmcnichpmjaa
