/-
  What the walk of the law KeyMore needs: rows that are appended to rows; a key with a column more.
-/
import Derived.Test.YtdcijbclafpkmaaDoorKBack
namespace Go.Proofs.YtdcijbclafpkmaaDoor
open Go.RowKit
set_option linter.unusedVariables false
set_option linter.unusedSimpArgs false

set_option maxHeartbeats 2000000 in
set_option maxRecDepth 100000 in
theorem cut4g_any (A : Option Addr) (l : List QC) (ca : Nat) (w : World) (ha : Lies w w.heap.size A l) (hs : ∀ c ∈ l, c.s.size ≤ maxLen) (hl : l.length ≤ maxLen) :
    Calls Tryd.prog 9 #[.slice A l.length ca] w fun e w' => ∃ (g cap : Nat), e = .returned (.slice (some ⟨g, 0, none⟩) (cut8 l).length cap) ∧ w'.ownsRow w.heap.size 51 4 (.slice (some ⟨g, 0, none⟩) (cut8 l).length cap) (cut8 l).length (fours (cut8 l)) ∧ Below w.heap.size w w' := by
  unfold maxLen at hl
  obtain ⟨i0, hi, hz0, hz1, hz2⟩ := info_parts Tryd.infoQCol
  have HA := Lib.hid ha
  have HS := Lib.hid hs
  obtain ⟨n, hn⟩ : ∃ n, n = l.length := ⟨_, rfl⟩
  have HN := Lib.hid hn
  rw [← hn]
  rw [← hn] at hl
  clear ha hn hs
  go_enter Tryd.func9, Tryd.ntmps9
  go_wp2_with fail
  go_loopw [3, 4] (fun ov iv wr => ∃ (k g cap : Nat), k ≤ n ∧ k ≤ 8 ∧ iv = .int .i64 k ∧ ov = .slice (some ⟨g, 0, none⟩) k cap ∧ Hid (wr.ownsRow w.heap.size 51 4 (.slice (some ⟨g, 0, none⟩) k cap) k (fours ((l.take k).map cutQ))) ∧ Below w.heap.size w wr) (fun _ iv _ => n - (intOf iv).toNat)
  case atStart =>
    exact ⟨0, w.heap.size, 0, by omega, by omega, rfl, rfl, Lib.hid (own4_empty w _), below_alloc _ _⟩
  case round =>
    obtain ⟨k, g, cap, hk, hk8, rfl, rfl, HO, hbw⟩ := hrel
    by_cases hlt : k < n
    · by_cases h8 : k < 8
      · obtain ⟨⟨K, I, U, S⟩, hc⟩ : ∃ c, l[k]? = some c := ⟨_, List.getElem?_eq_getElem (by have := HN.out; omega)⟩
        obtain ⟨a, rfl, hab, x0, x1, x2, x3⟩ := (HA.out.below hbw).load hc
        have HC := Lib.hid (cut8_succ l k _ hc)
        have HU := Lib.hid (cutQ_any K I U S (HS.out _ (List.mem_of_getElem? hc)))
        have HQ : Hid ((cutQ ⟨K, I, U, S⟩).four = [.int .i64 K, .int .i64 I, .int .u64 U, .string (S.extract 0 (min S.size 60))]) := Lib.hid rfl
        generalize S.extract 0 (min S.size 60) = T at *
        clear hc hab
        have hbs := hbw.size
        go_wp2_with fail
        refine (HU.out wr).mono ?_
        rintro e w2 ⟨rfl, hb2⟩
        have HO2 := Lib.hid (own4_below HO.out hb2)
        have hbs2 := hb2.size
        go_wp2_with (at_builtin; refine wpList_append_own _ rfl _ _ 22 rfl w.heap.size 51 i0 (.agg #[.int .i64 0, .int .i64 0, .int .u64 0, .string ⟨#[]⟩]) 4 40 Tryd.underlying22 hi hz0 hz1 hz2 rfl (by decide) _ k _ rfl (HO2.out.alloc _) ⟨w2.heap.size, 0, none⟩ 1 1 [.int .i64 K, .int .i64 I, .int .u64 U, .string T] rfl rfl (World.news_of_block (cs := #[.int .i64 K, .int .i64 I, .int .u64 U, .string T]) (t := 51) (fr := (0, 0)) (heap_alloc_new w2 _)) (four_one K I U T) (by unfold maxLen; omega) (by omega) (by simp; omega) ?_; intro v' w1 hown' hgrow hnil)
        obtain ⟨g', cap', rfl⟩ := own4_form hown' (by omega)
        have hb3 : Below w.heap.size w w1 := ((hbw.trans' hb2).trans' (below_alloc w2 (.cells #[.int .i64 K, .int .i64 I, .int .u64 U, .string T] 51))).trans (own4_apart (HO2.out.alloc _) hgrow (Nat.le_refl _) (by simp; omega))
        go_wp2_with fail
        go_roundw
        case rel => exact ⟨k + 1, g', cap', by omega, by omega, by simp, rfl, Lib.hid (by rw [HC.out, HQ.out]; exact hown'), hb3⟩
        case measure => simp [intOf]; omega
      · have HL : Hid ((l.take k).map cutQ = cut8 l ∧ k = (cut8 l).length) := Lib.hid (by
          obtain rfl : k = 8 := by omega
          refine ⟨rfl, ?_⟩
          rw [cut8_length, ← HN.out]
          omega)
        rw [HL.out.1] at HO
        go_wp2_with fail
        go_ret
        exact ⟨g, cap, by rw [← HL.out.2]; rfl, by rw [← HL.out.2]; exact HO.out, hbw⟩
    · have hkn : k = n := by omega
      subst hkn
      have HL : Hid ((l.take k).map cutQ = cut8 l ∧ k = (cut8 l).length) := Lib.hid (by
        refine ⟨?_, by rw [cut8_length, ← HN.out]; omega⟩
        rw [cut8, List.take_of_length_le (by have := HN.out; omega), List.take_of_length_le (by have := HN.out; omega)])
      rw [HL.out.1] at HO
      go_wp2_with fail
      go_ret
      exact ⟨g, cap, by rw [← HL.out.2]; rfl, by rw [← HL.out.2]; exact HO.out, hbw⟩


theorem kcutg {A : Option Addr} {l : List QC} {ca : Nat} {W : World} (M : MaxIs W) (h : Lies W W.heap.size A l) (hs : ∀ c ∈ l, c.s.size ≤ maxLen) (hl : l.length ≤ maxLen) (m : List QC) (hm : m = cut8 l) :
    Calls Tryd.prog 9 #[.slice A l.length ca] W fun e w' => ∃ g cap : Nat, e = .returned (.slice (some ⟨g, 0, none⟩) m.length cap) ∧ m.length ≤ cap ∧ w'.ownsRow W.heap.size 51 4 (.slice (some ⟨g, 0, none⟩) m.length cap) m.length (fours m) ∧ Below W.heap.size W w' ∧ MaxIs w' := by
  subst hm
  refine (cut4g_any A l ca W h hs hl).mono fun e w' ⟨g, cap, he, ho, hb⟩ => ⟨g, cap, he, ?_, ho, hb, M.below hb⟩
  rcases ho.2 with ⟨h1, h2⟩ | ⟨g', cap', cur, h1, _, _, h2, _⟩
  · omega
  · injection h1 with _ _ h3; omega
/-- Where a row that the call owns lies, cell by cell. -/
theorem own_cells4 {w : World} {base g n cap : Nat} {xs : List Value} (h : w.ownsRow base 51 4 (.slice (some ⟨g, 0, none⟩) n cap) n xs) : ∀ j u, xs[j]? = some u → w.cell? ((⟨g, 0, none⟩ : Addr).add j) = some u := h.cells (g := g) rfl
theorem fours_cell (l : List QC) : ∀ u ∈ fours l, u.oneCell' = true := fun u hu => by
  obtain ⟨c, _, hc⟩ := List.mem_flatMap.1 hu
  simp [QC.four] at hc
  rcases hc with rfl | rfl | rfl | rfl <;> rfl
theorem cutQ_one (c : QC) (ho : CP.Ok c.col) : CP.Ok (cutQ c).col ∧ (cutQ c).s.size ≤ 60 := by
  have h := cut8_small [c] (fun d hd => by simp at hd; subst hd; exact ho)
  exact h (cutQ c) (by simp [cut8])
/-- A key with a column more: all that the law asks, of columns that may be. -/
theorem more_facts {m q : List CP.Col} {c : CP.Col} (hm : KP.All (m ++ [c])) (hq : KP.All q) :
    KP.cmp m (m ++ [c]) = -1 ∧ Op.bytesLess (KP.key m) (KP.key (m ++ [c])) = true ∧ (m <+: q ∨
      (Op.bytesLess (KP.key m) (KP.key q) = true ∧ Op.bytesLess (KP.key q) (KP.key m) = false ∧ KP.key q ≠ KP.key m ∧ Op.bytesLess (KP.key (m ++ [c])) (KP.key q) = true ∧ Op.bytesLess (KP.key q) (KP.key (m ++ [c])) = false ∧ KP.key q ≠ KP.key (m ++ [c])) ∨
      (Op.bytesLess (KP.key m) (KP.key q) = false ∧ Op.bytesLess (KP.key q) (KP.key m) = true ∧ KP.key q ≠ KP.key m ∧ Op.bytesLess (KP.key (m ++ [c])) (KP.key q) = false ∧ Op.bytesLess (KP.key q) (KP.key (m ++ [c])) = true ∧ KP.key q ≠ KP.key (m ++ [c]))) := by
  obtain ⟨h1, h2⟩ := KP.cmp_more m c hm
  refine ⟨h1, h2.less'.1, ?_⟩
  by_cases hp : m <+: q
  · exact .inl hp
  · have hs := KP.sides m c q hm hq hp
    have n1 : q ≠ m := fun e => hp (by rw [e]; exact List.prefix_refl _)
    have n2 : q ≠ m ++ [c] := fun e => hp (by rw [e]; exact List.prefix_append _ _)
    rcases KP.cmp_cases m q hm.left hq with ⟨_, e⟩ | ⟨_, _, p1⟩ | ⟨_, _, p1⟩
    · exact absurd e.symm n1
    · rcases KP.cmp_cases (m ++ [c]) q hm hq with ⟨_, e⟩ | ⟨_, _, p2⟩ | ⟨_, _, p2⟩
      · exact absurd e.symm n2
      · exact .inr (.inl ⟨p1.less'.1, p1.less'.2, p1.ne.symm, p2.less'.1, p2.less'.2, p2.ne.symm⟩)
      · rw [p1.less'.1, p2.less'.2] at hs; cases hs
    · rcases KP.cmp_cases (m ++ [c]) q hm hq with ⟨_, e⟩ | ⟨_, _, p2⟩ | ⟨_, _, p2⟩
      · exact absurd e.symm n2
      · rw [p1.less'.2, p2.less'.1] at hs; cases hs
      · exact .inr (.inr ⟨p1.less'.2, p1.less'.1, p1.ne, p2.less'.2, p2.less'.1, p2.ne⟩)
/-- Whether it begins with the columns, as the law asks. -/
theorem begins_iff (m q : List QC) (h : m.length ≤ q.length) : sameL (q.take m.length) m = true ↔ cols m <+: cols q := by
  rw [sameL_iff, cols_take, KP.take_pre, cols_length, cols_length]
  exact ⟨fun e => ⟨h, e⟩, fun e => e.2⟩
end Go.Proofs.YtdcijbclafpkmaaDoor
