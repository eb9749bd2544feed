/-
  Walk of col.getText.
-/
import Derived.Test.YtdcijbclafpkmaaDoorCGet
import Derived.Test.YtdcijbclafpkmaaDoorWRef2
import Derived.Deep.AppendLies
namespace Go.Proofs.YtdcijbclafpkmaaDoor
open Go.RowKit
set_option linter.unusedVariables false
set_option linter.unusedSimpArgs false

theorem lt_of_heap {w : World} {g : Nat} {o : Obj} (h : w.heap[g]? = some o) : g < w.heap.size := by
  rcases Nat.lt_or_ge g w.heap.size with e | e
  · exact e
  · rw [Array.getElem?_eq_none e] at h; cases h
theorem own_apart {w : World} {base n : Nat} {e : TypeId} {v : Value} {xs : List Value} (h : w.ownsRow base e 1 v n xs) (k : Nat) (hk : k < base) : some k ≠ v.ownBlock := by
  rcases h.2 with ⟨rfl, _⟩ | ⟨g, cap, cur, rfl, hg, _⟩
  · simp [Value.ownBlock]
  · simp [Value.ownBlock]; omega
theorem own_wrote {w w' : World} {base n p : Nat} {e : TypeId} {v : Value} {xs : List Value} (h : w.ownsRow base e 1 v n xs) (hw : Wrote p w w') (hp : p < base) : w'.ownsRow base e 1 v n xs := by
  obtain ⟨h1, h2⟩ := h
  refine ⟨h1, ?_⟩
  rcases h2 with h2 | ⟨g', cap', cur, hv, hg, hh, r⟩
  · exact Or.inl h2
  · exact Or.inr ⟨g', cap', cur, hv, hg, by rw [hw.block g' (lt_of_heap hh) (fun e => by cases e; omega)]; exact hh, r⟩
theorem conv_any {w : World} {base : Nat} {v : Value} {l : List UInt8} (h : w.ownsRow base 5 1 v l.length (byteCells l)) : (convert 45 9 v).run Tryd.prog w = .ok (.string ⟨l.toArray⟩) w := by
  rcases h.2 with ⟨rfl, hn⟩ | ⟨g, cap, cur, rfl, r⟩
  · obtain rfl : l = [] := List.length_eq_zero_iff.1 hn
    exact run_convert_bytes_nil w 45 5 Tryd.underlying45 Tryd.underlying5 0 0 9 Tryd.underlying9
  · exact conv_own Tryd.underlying45 Tryd.underlying5 Tryd.underlying9 h rfl
theorem one_grown {p base : Nat} {v : Value} {t : TypeId} {w w' : World} {row : Option Nat} (h : OneAt p v t w) (hg : w.grownBy w' row) (hr : ∀ k, k < base → some k ≠ row) (hp : p < base) : OneAt p v t w' := by
  unfold OneAt at *
  rw [hg.block p (lt_of_heap h) (hr p hp)]
  exact h
theorem box_grown {g base : Nat} {K I U : Int} {S : ByteArray} {w w' : World} {row : Option Nat} (h : Box g K I U S w) (hg : w.grownBy w' row) (hr : ∀ k, k < base → some k ≠ row) (hp : g < base) : Box g K I U S w' := by
  unfold Box at *
  rw [hg.block g (lt_of_heap h) (hr g hp)]
  exact h
theorem one_below {p : Nat} {v : Value} {t : TypeId} {w w' : World} (h : OneAt p v t w) (b : Below w.heap.size w w') : OneAt p v t w' := by
  unfold OneAt at *
  rw [b.block p (lt_of_heap h)]
  exact h
theorem byteCells_snoc (l : List UInt8) (b : UInt8) : byteCells (l ++ [b]) = byteCells l ++ [.int .u8 b.toNat] := by simp [byteCells]

/-- What the closure answers at a place. -/
def nb (s : ByteArray) (j : Nat) : Int := if h : j < s.size then s[j].toNat else 0
def ne (s : ByteArray) (j : Nat) : Nat := if j < s.size then j + 1 else 0
def np (s : ByteArray) (j : Nat) : Nat := if j < s.size then j + 1 else j
theorem next_any (p q : Nat) (s : ByteArray) (i : Nat) (w : World) (hp : Hid (OneAt p (.int .i64 i) 3 w)) (hq : Hid (OneAt q (.string s) 9 w)) (hpq : q ≠ p) (hs : s.size ≤ maxLen) :
    Calls Tryd.prog 67 #[.pointer (some ⟨p, 0, none⟩), .pointer (some ⟨q, 0, none⟩)] w fun e w' => e = .returned (.tuple #[.int .u8 (nb s i), .int .i64 (ne s i), .bool (decide (i < s.size))]) ∧ Hid (OneAt p (.int .i64 (np s i)) 3 w') ∧ Hid (OneAt q (.string s) 9 w') ∧ Wrote p w w' := by
  unfold nb ne np
  by_cases h : i < s.size
  · rw [dif_pos h, if_pos h, if_pos h, decide_eq_true h]
    exact next_go p q s i w hp hq hpq h hs
  · rw [dif_neg h, if_neg h, if_neg h, decide_eq_false h]
    refine (next_end p q s i w hp hq (by omega)).mono ?_
    rintro e w' ⟨rfl, rfl⟩
    exact ⟨rfl, hp, hq, Wrote.refl _ _⟩

/-- What goes down in each round. -/
def mT (s : ByteArray) (g : Nat) (ov : Value) (wr : World) : Nat := (match wr.cell? ⟨g, 0, none⟩ with | some c => 2 * (s.size + 1) - 2 * (intOf c).toNat | none => 0) + (match ov with | .bool true => 1 | _ => 0)
theorem mT_at {s : ByteArray} {g j : Nat} {t : TypeId} {wr : World} (h : OneAt g (.int .i64 (np s j)) t wr) (hj : j ≤ s.size) : mT s g (.bool (decide (j < s.size))) wr = if j < s.size then 2 * (s.size - j) + 1 else 2 := by
  unfold mT
  rw [cell_of_one h]
  unfold np
  by_cases hl : j < s.size
  · rw [if_pos hl, if_pos hl, decide_eq_true hl]; simp [intOf]; omega
  · rw [if_neg hl, if_neg hl, decide_eq_false hl]; simp [intOf]; omega
theorem glue_nil (l : List UInt8) : CP.text l = CP.glue [] 0 (CP.text l) := by
  rcases CP.text_spec l with h | h | ⟨t, n, h, _⟩
  · rw [h]; rfl
  · rw [h]; rfl
  · rw [h, CP.glue_ok]; simp
theorem getT_err (l : List UInt8) (p e : Nat) (h : CP.text l = ([], 0, e)) (he : e ≠ 0) : CP.getT l p = CP.none_ e := by
  unfold CP.getT
  rw [h, if_neg he]
theorem getT_ok (l : List UInt8) (p : Nat) (t : List UInt8) (n : Nat) (h : CP.text l = (t, n, 0)) : CP.getT l p = (⟨4, 0, 0, t⟩, p + n, 0) := by
  unfold CP.getT
  rw [h, if_pos rfl]

set_option maxHeartbeats 2000000 in
set_option maxRecDepth 100000 in
theorem getText_any (b0 : Int) (s : ByteArray) (p : Nat) (w : World) (hp : p ≤ s.size) (hs : s.size ≤ 1000000) : Calls Tryd.prog 72 #[.int .u8 b0, .string s, .int .i64 p] w fun e w' => e = .returned (gotV (CP.getT (s.data.toList.drop p) p)) ∧ Below w.heap.size w w' := by
  have hsm : s.size ≤ maxLen := by unfold maxLen; omega
  obtain ⟨i0, hi, hz0, hz1, hz2⟩ := info_parts Tryd.infoU8
  obtain ⟨r, HR⟩ : ∃ r, Hid (r = gotV (CP.getT (s.data.toList.drop p) p)) := ⟨_, Lib.hid rfl⟩
  rw [← HR.out]
  obtain ⟨a1, a2, a3, a4⟩ := reader_start w s p
  have A1 := Lib.hid a1
  have A2 := Lib.hid a2
  have A3 := Lib.hid a3
  clear a1 a2 a3
  go_enter Tryd.func72, Tryd.ntmps72
  go_wp2_with fail
  refine (reader_any s p _).mono ?_
  rintro e w1 ⟨rfl, rfl⟩
  go_wp2_with fail
  refine (next_any (w.heap.size + 2) (w.heap.size + 1) s p _ A1 A2 (by omega) hsm).mono ?_
  rintro e w2 ⟨rfl, B1, B2, hw2⟩
  have B3 := Lib.hid (A3.out.wrote hw2 (by omega))
  have B4 : Below w.heap.size w w2 := a4.trans (hw2.below (by omega) a4.size)
  clear A1 A2 A3 a4 hw2
  go_wp2_with fail
  go_loopw [9, 11, 13] (fun tv bv ov wr => ∃ (j : Nat) (t : List UInt8), p ≤ j ∧ j ≤ s.size ∧ t.length ≤ j - p ∧ Hid (CP.text (s.data.toList.drop p) = CP.glue t (j - p) (CP.text (s.data.toList.drop j))) ∧ bv = .int .u8 (nb s j) ∧ ov = .bool (decide (j < s.size)) ∧ Hid (wr.ownsRow (w.heap.size + 3) 5 1 tv t.length (byteCells t)) ∧
      Hid (OneAt (w.heap.size + 2) (.int .i64 (np s j)) 3 wr) ∧ Hid (OneAt (w.heap.size + 1) (.string s) 9 wr) ∧ Hid (Box w.heap.size 0 0 0 ⟨#[]⟩ wr) ∧ Below w.heap.size w wr) (fun _ bv ov wr => mT s (w.heap.size + 2) ov wr)
  case atStart =>
    exact ⟨p, [], by omega, by omega, by simp, Lib.hid (by rw [Nat.sub_self]; exact glue_nil _), rfl, rfl, Lib.hid ⟨rfl, .inl ⟨rfl, rfl⟩⟩, B1, B2, B3, B4⟩
  case round =>
    obtain ⟨j, t, hpj, hjs, htl, HT, rfl, rfl, HO', H1', H2', H3', hb'⟩ := hrel
    have HM := H1'
    have hls : w.heap.size + 2 < wr.heap.size := lt_of_heap H1'.out
    have hbs := hb'.size
    by_cases hlt : j < s.size
    · have e1 : nb s j = s[j].toNat := dif_pos hlt
      have e2 : np s j = j + 1 := if_pos hlt
      have HM2 : Hid (mT s (w.heap.size + 2) (.bool true) wr = 2 * (s.size - j) + 1) := Lib.hid (by have h := mT_at HM.out (by omega); rwa [decide_eq_true hlt, if_pos hlt] at h)
      have hd := WP.drop_cons s j hlt
      rw [e2] at H1'
      rw [e1, decide_eq_true hlt]
      by_cases h0 : s[j] = 0
      · rw [h0] at hd ⊢
        by_cases h1 : j + 1 < s.size
        · have hd1 := WP.drop_cons s (j + 1) h1
          have n1 : nb s (j + 1) = s[j + 1].toNat := dif_pos h1
          have n2 : np s (j + 1) = j + 1 + 1 := if_pos h1
          have n3 : ne s (j + 1) = j + 1 + 1 := if_pos h1
          rw [hd1] at hd
          clear hd1
          have HD := Lib.hid hd
          clear hd e1 e2
          generalize s[j + 1] = c1 at *
          go_wp2_with fail
          refine (next_any (w.heap.size + 2) (w.heap.size + 1) s (j + 1) wr H1' H2' (by omega) hsm).mono ?_
          rintro e w4 ⟨rfl, E1, E2, hw4⟩
          rw [n1, n3, decide_eq_true h1]
          rw [n2] at E1
          have E3 := Lib.hid (H3'.out.wrote hw4 (by omega))
          have E4 : Below w.heap.size w w4 := hb'.trans (hw4.below (by omega) hbs)
          have E5 := Lib.hid (own_wrote HO'.out hw4 (by omega))
          have E6 := hw4.size
          clear H1' H2' H3' hb' HO' hw4 n1 n2 n3
          have H3' := E3
          have hb' := E4
          have HO' := E5
          have H1' := E1
          have H2' := E2
          clear E1 E2 E3 E4 E5
          by_cases hc1 : c1 = 1
          · subst hc1
            have HV : Hid (r = gotV (⟨4, 0, 0, t⟩, j + 1 + 1, 0)) := Lib.hid (by
              rw [HR.out, getT_ok _ p t (j - p + 2) (by rw [HT.out, HD.out, CP.text_one, CP.glue_ok, List.append_nil]), show p + (j - p + 2) = j + 1 + 1 by omega])
            have hcv := conv_any HO'.out
            obtain ⟨c0, c1, c2, c3⟩ := H3'.out.cells
            obtain ⟨f0, f1, f2, f3⟩ := H3'.out.free
            go_wp2_with fail
            refine bodyPost_ret (v := gotV (⟨4, 0, 0, t⟩, j + 1 + 1, 0)) (by simp [results, Tryd.results72, go_sem, gotV, CP.none_, c0, c1, c2, c3]) rfl ⟨by rw [HV.out], below4 hb'⟩
          · by_cases hc2 : c1 = 255
            · subst hc2
              have HT' : Hid (CP.text (s.data.toList.drop p) = CP.glue (t ++ [0]) (j + 1 + 1 - p) (CP.text (s.data.toList.drop (j + 1 + 1)))) := Lib.hid (by
                rw [HT.out, HD.out, CP.text_255, CP.glue_glue, show j - p + 2 = j + 1 + 1 - p by omega])
              go_wp2_with (at_builtin; refine wpList_append_lies _ rfl _ _ 45 rfl (w.heap.size + 3) 5 i0 (.int .u8 0) 1 1 Tryd.underlying45 hi hz0 hz1 hz2 rfl (by decide) u9 t.length _ rfl (HO'.out.alloc _) ⟨w4.heap.size, 0, none⟩ 1 1 [.int .u8 0] rfl rfl (World.news_of_block (cs := #[.int .u8 0]) (t := 5) (fr := (0, 0)) (heap_alloc_new w4 _)) (by simp [Value.oneCell']) (by omega) (by unfold maxLen; omega) (by omega) (by simp; omega) (w4.heap.size + 1) (by simp) ?_; intro g' cap' w1 hown1 hgrow hat hlt1)
              have hap : ∀ k, k < w.heap.size + 3 → some k ≠ u9.ownBlock := fun k hk => own_apart HO'.out k hk
              have G1 := Lib.hid (one_grown (one_below H1'.out (below_alloc _ _)) hgrow hap (by omega))
              have G2 := Lib.hid (one_grown (one_below H2'.out (below_alloc _ _)) hgrow hap (by omega))
              have G3 := Lib.hid (box_grown (H3'.out.below (below_alloc _ _)) hgrow hap (by omega))
              have G4 : Below w.heap.size w w1 := (hb'.alloc hb'.size _).grown hgrow (by simp; omega) (fun k e => by rcases Nat.lt_or_ge k (w.heap.size + 3) with h | h; exact absurd e.symm (hap k h); omega)
              have GO := Lib.hid hown1
              clear hown1 hgrow hat hlt1 H1' H2' H3' hb' hap HO'
              go_wp2_with fail
              refine (next_any (w.heap.size + 2) (w.heap.size + 1) s (j + 1 + 1) w1 G1 G2 (by omega) hsm).mono ?_
              rintro e w3 ⟨rfl, D1, D2, hw3⟩
              have D3 := Lib.hid (G3.out.wrote hw3 (by omega))
              have D4 : Below w.heap.size w w3 := G4.trans (hw3.below (by omega) G4.size)
              have D5 := Lib.hid (own_wrote GO.out hw3 (by omega))
              clear G1 G2 G3 G4 GO hw3
              go_wp2_with fail
              go_roundw
              case rel =>
                refine ⟨j + 1 + 1, t ++ [0], by omega, by omega, by simp; omega, HT', rfl, rfl, ?_, D1, D2, D3, D4⟩
                rw [List.length_append, byteCells_snoc]
                exact D5
              case measure =>
                rw [mT_at D1.out (by omega), HM2.out]
                split <;> omega
            · have HV : Hid (r = gotV (CP.none_ 3)) := Lib.hid (by
                rw [HR.out, getT_err _ p 3 (by rw [HT.out, HD.out, CP.text_form _ _ hc1 hc2, CP.glue_err _ _ _ (by omega)]) (by omega)])
              have q1 : ((c1.toNat : Int) == 1) = false := beq_eq_false_iff_ne.2 (fun e => hc1 (UInt8.toNat_inj.1 (by show c1.toNat = 1; omega)))
              have q2 : ((c1.toNat : Int) == 255) = false := beq_eq_false_iff_ne.2 (fun e => hc2 (UInt8.toNat_inj.1 (by show c1.toNat = 255; omega)))
              clear hc1 hc2
              obtain ⟨c0, c1, c2, c3⟩ := H3'.out.cells
              obtain ⟨f0, f1, f2, f3⟩ := H3'.out.free
              go_wp2_with fail
              refine bodyPost_ret (v := gotV (CP.none_ 3)) (by simp [results, Tryd.results72, go_sem, gotV, CP.none_, c0, c1, c2, c3]) rfl ⟨by rw [HV.out], below4 hb'⟩
        · have hd1 : s.data.toList.drop (j + 1) = [] := List.drop_eq_nil_of_le (by simp; omega)
          rw [hd1] at hd
          have HV : Hid (r = gotV (CP.none_ 7)) := Lib.hid (by
            rw [HR.out, getT_err _ p 7 (by rw [HT.out, hd]; exact CP.glue_err _ _ _ (by omega)) (by omega)])
          clear hd hd1 e1 e2
          go_wp2_with fail
          refine (next_end (w.heap.size + 2) (w.heap.size + 1) s _ wr H1' H2' (by omega)).mono ?_
          rintro e w4 ⟨rfl, rfl⟩
          obtain ⟨c0, c1, c2, c3⟩ := H3'.out.cells
          obtain ⟨f0, f1, f2, f3⟩ := H3'.out.free
          go_wp2_with fail
          refine bodyPost_ret (v := gotV (CP.none_ 7)) (by simp [results, Tryd.results72, go_sem, gotV, CP.none_, c0, c1, c2, c3]) rfl ⟨by rw [HV.out], below4 hb'⟩
      · have HT' : Hid (CP.text (s.data.toList.drop p) = CP.glue (t ++ [s[j]]) (j + 1 - p) (CP.text (s.data.toList.drop (j + 1)))) := Lib.hid (by
          rw [HT.out, hd, CP.text_other _ _ h0, CP.glue_glue, show j - p + 1 = j + 1 - p by omega])
        have hc0 : ((s[j].toNat : Int) == 0) = false := beq_eq_false_iff_ne.2 (fun e => h0 (UInt8.toNat_inj.1 (by show s[j].toNat = 0; omega)))
        clear hd e1 e2 h0
        generalize s[j] = c at *
        go_wp2_with (at_builtin; refine wpList_append_lies _ rfl _ _ 45 rfl (w.heap.size + 3) 5 i0 (.int .u8 0) 1 1 Tryd.underlying45 hi hz0 hz1 hz2 rfl (by decide) u9 t.length _ rfl (HO'.out.alloc _) ⟨wr.heap.size, 0, none⟩ 1 1 [.int .u8 c.toNat] rfl rfl (World.news_of_block (cs := #[.int .u8 c.toNat]) (t := 5) (fr := (0, 0)) (heap_alloc_new wr _)) (by simp [Value.oneCell']) (by omega) (by unfold maxLen; omega) (by omega) (by simp; omega) (wr.heap.size + 1) (by simp) ?_; intro g' cap' w1 hown1 hgrow hat hlt1)
        have hap : ∀ k, k < w.heap.size + 3 → some k ≠ u9.ownBlock := fun k hk => own_apart HO'.out k hk
        have G1 := Lib.hid (one_grown (one_below H1'.out (below_alloc _ _)) hgrow hap (by omega))
        have G2 := Lib.hid (one_grown (one_below H2'.out (below_alloc _ _)) hgrow hap (by omega))
        have G3 := Lib.hid (box_grown (H3'.out.below (below_alloc _ _)) hgrow hap (by omega))
        have G4 : Below w.heap.size w w1 := (hb'.alloc hb'.size _).grown hgrow (by simp; omega) (fun k e => by rcases Nat.lt_or_ge k (w.heap.size + 3) with h | h; exact absurd e.symm (hap k h); omega)
        have GO := Lib.hid hown1
        clear hown1 hgrow hat hlt1 H1' H2' H3' hb' hap HO'
        go_wp2_with fail
        refine (next_any (w.heap.size + 2) (w.heap.size + 1) s (j + 1) w1 G1 G2 (by omega) hsm).mono ?_
        rintro e w3 ⟨rfl, D1, D2, hw3⟩
        have D3 := Lib.hid (G3.out.wrote hw3 (by omega))
        have D4 : Below w.heap.size w w3 := G4.trans (hw3.below (by omega) G4.size)
        have D5 := Lib.hid (own_wrote GO.out hw3 (by omega))
        clear G1 G2 G3 G4 GO hw3
        go_wp2_with fail
        go_roundw
        case rel =>
          refine ⟨j + 1, t ++ [c], by omega, by omega, by simp; omega, HT', rfl, rfl, ?_, D1, D2, D3, D4⟩
          rw [List.length_append, byteCells_snoc]
          exact D5
        case measure =>
          rw [mT_at D1.out (by omega), HM2.out]
          split <;> omega
    · have hd : s.data.toList.drop j = [] := List.drop_eq_nil_of_le (by simp; omega)
      have HV : Hid (r = gotV (CP.none_ 7)) := Lib.hid (by
        rw [HR.out, getT_err _ p 7 (by rw [HT.out, hd]; exact CP.glue_err _ _ _ (by omega)) (by omega)])
      have e1 : nb s j = 0 := dif_neg hlt
      rw [e1, decide_eq_false hlt]
      clear hd e1
      obtain ⟨c0, c1, c2, c3⟩ := H3'.out.cells
      obtain ⟨f0, f1, f2, f3⟩ := H3'.out.free
      go_wp2_with fail
      refine bodyPost_ret (v := gotV (CP.none_ 7)) (by simp [results, Tryd.results72, go_sem, gotV, CP.none_, c0, c1, c2, c3]) rfl ⟨by rw [HV.out], below4 hb'⟩
end Go.Proofs.YtdcijbclafpkmaaDoor
