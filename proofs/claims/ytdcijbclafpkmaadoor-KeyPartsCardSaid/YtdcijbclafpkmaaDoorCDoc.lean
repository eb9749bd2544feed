/-
  Walks of the document's own functions of layer 3: sign, Compare, text.
-/
import Derived.Test.YtdcijbclafpkmaaDoorCRef
import Derived.Test.YtdcijbclafpkmaaDoorCCmp
import Derived.Test.YtdcijbclafpkmaaDoorCGetT
namespace Go.Proofs.YtdcijbclafpkmaaDoor
open Go.RowKit
set_option linter.unusedVariables false
set_option linter.unusedSimpArgs false

/-- A box that holds a column of the document's. -/
def RBox (g : Nat) (K I U : Int) (S : ByteArray) (w : World) : Prop := w.heap[g]? = some (.cells #[.int .i64 K, .int .i64 I, .int .u64 U, .string S] 55 (0, 0))
theorem RBox.below {g : Nat} {K I U : Int} {S : ByteArray} {w w' : World} (h : RBox g K I U S w) (b : Below w.heap.size w w') : RBox g K I U S w' := by
  unfold RBox at *
  rw [b.block g (lt_of_heap h)]
  exact h
theorem RBox.new (K I U : Int) (S : ByteArray) (w : World) : RBox w.heap.size K I U S (w.alloc (.cells #[.int .i64 K, .int .i64 I, .int .u64 U, .string S] 55)) := heap_alloc_new _ _
theorem RBox.cells {g : Nat} {K I U : Int} {S : ByteArray} {w : World} (h : RBox g K I U S w) : Cells g K I U S w := by
  unfold RBox at h
  refine ⟨?_, ?_, ?_, ?_⟩ <;> simp [World.cell?, h]
theorem RBox.free {g : Nat} {K I U : Int} {S : ByteArray} {w : World} (h : RBox g K I U S w) : w.frozen? ⟨g, 0, none⟩ = false ∧ w.frozen? ⟨g, 1, none⟩ = false ∧ w.frozen? ⟨g, 2, none⟩ = false ∧ w.frozen? ⟨g, 3, none⟩ = false := by
  unfold RBox at h
  refine ⟨?_, ?_, ?_, ?_⟩ <;> simp [World.frozen?, h]

theorem rsign_any (a b : Bool) (w : World) : Calls Tryd.prog 44 #[.bool a, .bool b] w fun e w' => e = .returned (.int .i64 (if a then -1 else if b then 1 else 0)) ∧ w = w' := by
  cases a <;> cases b
  all_goals
    go_enter Tryd.func44, Tryd.ntmps44
    go_wp2_with fail
    go_ret
    exact ⟨rfl, rfl⟩

/-- Which of two is ahead, as the document has it. -/
def CP.rcmp (a b : CP.Col) : Int := if a.k ≠ b.k then (if a.k < b.k then -1 else 1) else if a.k = 2 then sgn a.i b.i else if a.k = 4 then sgnS a.s b.s else sgn a.u b.u
theorem CP.rcmp_eq {a b : CP.Col} (ha : CP.Right a) (hb : CP.Right b) : CP.rcmp a b = CP.cmp a b := by
  have e0 : Op.bytesLess [] [] = false := rfl
  have hsg : ∀ x y : Int, sgn x y = if x ≠ y then (if x < y then -1 else 1) else 0 := fun x y => by unfold sgn; (repeat' split) <;> omega
  unfold CP.rcmp CP.cmp
  by_cases hk : a.k = b.k
  · have hk' : ¬ (a.k ≠ b.k) := fun h => h hk
    rw [if_neg hk', if_neg hk']
    clear hk'
    rcases ha with ⟨h1, h2, h3, h4⟩ | ⟨h1, h2, h3, h4⟩ | ⟨h1, h2, h3⟩ | ⟨h1, h2, h3⟩ | ⟨h1, h2, h3⟩ <;> rcases hb with ⟨g1, g2, g3, g4⟩ | ⟨g1, g2, g3, g4⟩ | ⟨g1, g2, g3⟩ | ⟨g1, g2, g3⟩ | ⟨g1, g2, g3⟩ <;> try omega
    · rw [if_neg (by omega), if_neg (by omega), if_neg (by omega), if_neg (by omega), h3, g3, h4, g4]; simp [sgn, e0]
    · rw [if_neg (by omega), if_neg (by omega), if_neg (by omega), h4, g4, hsg, e0]; simp
    · rw [if_pos h1, hsg, h2, g2, h3, g3, e0]; simp
    · rw [if_neg (by omega), if_neg (by omega), if_neg (by omega), h3, g3, hsg, e0]; simp
    · rw [if_neg (by omega), if_pos h1, if_neg (by omega), if_neg (by omega)]; rfl
  · rw [if_pos hk, if_pos hk]

set_option maxHeartbeats 2000000 in
theorem rcompare_any (K I U : Int) (S : ByteArray) (K' I' U' : Int) (S' : ByteArray) (w : World) :
    Calls Tryd.prog 31 #[.agg #[.int .i64 K, .int .i64 I, .int .u64 U, .string S], .agg #[.int .i64 K', .int .i64 I', .int .u64 U', .string S']] w
      fun e w' => e = .returned (.int .i64 (CP.rcmp ⟨K, I, U, S.data.toList⟩ ⟨K', I', U', S'.data.toList⟩)) ∧ Below w.heap.size w w' := by
  have HS : Hid (Op.bytesLess S.data.toList S'.data.toList = Op.bytesLess S.toList S'.toList ∧ Op.bytesLess S'.data.toList S.data.toList = Op.bytesLess S'.toList S.toList) := Lib.hid (by rw [ByteArray.toList_eq, ByteArray.toList_eq]; exact ⟨rfl, rfl⟩)
  by_cases hk : K = K'
  · have q1 : (K == K') = true := beq_iff_eq.2 hk
    by_cases h2 : K = 2
    · have HV : Hid (CP.rcmp ⟨K, I, U, S.data.toList⟩ ⟨K', I', U', S'.data.toList⟩ = sgn I I') := Lib.hid (by unfold CP.rcmp; rw [if_neg (by simpa using hk), if_pos h2])
      have q2 : (K == 2) = true := beq_iff_eq.2 h2
      rw [HV.out]
      clear hk h2 HV
      go_enter Tryd.func31, Tryd.ntmps31
      go_wp2_with fail
      refine (rsign_any _ _ _).mono ?_
      rintro e w1 ⟨rfl, rfl⟩
      go_wp2_with fail
      all_goals
        go_ret
        refine ⟨ret_int ?_, below_alloc2 _ _ _⟩
        unfold sgn
        (repeat' split) <;> first | rfl | omega
    · have q2 : (K == 2) = false := beq_eq_false_iff_ne.2 h2
      by_cases h4 : K = 4
      · have HV : Hid (CP.rcmp ⟨K, I, U, S.data.toList⟩ ⟨K', I', U', S'.data.toList⟩ = sgnS S.data.toList S'.data.toList) := Lib.hid (by unfold CP.rcmp; rw [if_neg (by simpa using hk), if_neg h2, if_pos h4])
        have q3 : (K == 4) = true := beq_iff_eq.2 h4
        rw [HV.out]
        clear hk h2 h4 HV
        rcases CP.texts S.data.toList S'.data.toList with ⟨h, g1, g2⟩ | ⟨g1, g2, _⟩ | ⟨g1, g2, _⟩
        · obtain rfl := bytes_of_list h
          rw [show sgnS S.data.toList S.data.toList = 0 by unfold sgnS; rw [g1]; rfl]
          rw [← ByteArray.toList_eq] at g1
          clear h g2 HS
          go_enter Tryd.func31, Tryd.ntmps31
          go_wp2_with fail
          refine (rsign_any _ _ _).mono ?_
          rintro e w1 ⟨rfl, rfl⟩
          go_wp2_with fail
          go_ret
          exact ⟨rfl, below_alloc2 _ _ _⟩
        · rw [show sgnS S.data.toList S'.data.toList = -1 by unfold sgnS; rw [g1]; rfl]
          rw [← ByteArray.toList_eq, ← ByteArray.toList_eq] at g1 g2
          have h3 : (S.toList == S'.toList) = false := by rw [beq_eq_false_iff_ne]; intro e; rw [e] at g1 g2; rw [g1] at g2; cases g2
          clear HS
          go_enter Tryd.func31, Tryd.ntmps31
          go_wp2_with fail
          refine (rsign_any _ _ _).mono ?_
          rintro e w1 ⟨rfl, rfl⟩
          go_wp2_with fail
          go_ret
          exact ⟨rfl, below_alloc2 _ _ _⟩
        · rw [show sgnS S.data.toList S'.data.toList = 1 by unfold sgnS; rw [g1, g2]; rfl]
          rw [← ByteArray.toList_eq, ← ByteArray.toList_eq] at g1 g2
          have h3 : (S.toList == S'.toList) = false := by rw [beq_eq_false_iff_ne]; intro e; rw [e] at g1 g2; rw [g1] at g2; cases g2
          clear HS
          go_enter Tryd.func31, Tryd.ntmps31
          go_wp2_with fail
          refine (rsign_any _ _ _).mono ?_
          rintro e w1 ⟨rfl, rfl⟩
          go_wp2_with fail
          go_ret
          exact ⟨rfl, below_alloc2 _ _ _⟩
      · have HV : Hid (CP.rcmp ⟨K, I, U, S.data.toList⟩ ⟨K', I', U', S'.data.toList⟩ = sgn U U') := Lib.hid (by unfold CP.rcmp; rw [if_neg (by simpa using hk), if_neg h2, if_neg h4])
        have q3 : (K == 4) = false := beq_eq_false_iff_ne.2 h4
        rw [HV.out]
        clear hk h2 h4 HV
        go_enter Tryd.func31, Tryd.ntmps31
        go_wp2_with fail
        refine (rsign_any _ _ _).mono ?_
        rintro e w1 ⟨rfl, rfl⟩
        go_wp2_with fail
        all_goals
          go_ret
          refine ⟨ret_int ?_, below_alloc2 _ _ _⟩
          unfold sgn
          (repeat' split) <;> first | rfl | omega
  · have HV : Hid (CP.rcmp ⟨K, I, U, S.data.toList⟩ ⟨K', I', U', S'.data.toList⟩ = if K < K' then -1 else 1) := Lib.hid (by unfold CP.rcmp; rw [if_pos hk])
    have q1 : (K == K') = false := beq_eq_false_iff_ne.2 hk
    rw [HV.out]
    clear hk HV
    go_enter Tryd.func31, Tryd.ntmps31
    go_wp2_with fail
    refine (rsign_any _ _ _).mono ?_
    rintro e w1 ⟨rfl, rfl⟩
    go_wp2_with fail
    all_goals
      go_ret
      refine ⟨ret_int ?_, below_alloc2 _ _ _⟩
      (repeat' split) <;> first | rfl | omega

/-- What text answers. -/
def txtV (x : List UInt8 × Nat × Nat) (p : Nat) : Value := if x.2.2 = 0 then .tuple #[.string ⟨x.1.toArray⟩, .int .i64 (p + x.2.1 : Nat), .int .i64 0] else .tuple #[.string ⟨#[]⟩, .int .i64 0, .int .i64 x.2.2]
theorem txtV_err (p e : Nat) (h : e ≠ 0) : txtV ([], 0, e) p = .tuple #[.string ⟨#[]⟩, .int .i64 0, .int .i64 e] := by unfold txtV; rw [if_neg h]
theorem txtV_ok (t : List UInt8) (n p : Nat) : txtV (t, n, 0) p = .tuple #[.string ⟨t.toArray⟩, .int .i64 (p + n : Nat), .int .i64 0] := by unfold txtV; rw [if_pos rfl]

set_option maxHeartbeats 2000000 in
set_option maxRecDepth 100000 in
theorem rtext_any (s : ByteArray) (p : Nat) (w : World) (hp : p ≤ s.size) (hs : s.size ≤ 1000000) : Calls Tryd.prog 39 #[.string s, .int .i64 p] w fun e w' => e = .returned (txtV (CP.text (s.data.toList.drop p)) p) ∧ Below w.heap.size w w' := by
  obtain ⟨i0, hi, hz0, hz1, hz2⟩ := info_parts Tryd.infoU8
  obtain ⟨r, HR⟩ : ∃ r, Hid (r = txtV (CP.text (s.data.toList.drop p)) p) := ⟨_, Lib.hid rfl⟩
  rw [← HR.out]
  go_enter Tryd.func39, Tryd.ntmps39
  go_wp2_with fail
  go_loopw [1, 7] (fun iv bv wr => ∃ (j : Nat) (t : List UInt8), p ≤ j ∧ j ≤ s.size ∧ t.length ≤ j - p ∧ Hid (CP.text (s.data.toList.drop p) = CP.glue t (j - p) (CP.text (s.data.toList.drop j))) ∧ iv = .int .i64 j ∧ Hid (wr.ownsRow w.heap.size 5 1 bv t.length (byteCells t)) ∧ Below w.heap.size w wr) (fun iv _ _ => s.size - (intOf iv).toNat)
  case atStart =>
    exact ⟨p, [], by omega, by omega, by simp, Lib.hid (by rw [Nat.sub_self]; exact glue_nil _), rfl, Lib.hid (own_none (Nat.le_refl _)), below_alloc _ _⟩
  case round =>
    obtain ⟨j, t, hpj, hjs, htl, HT, rfl, HO', hb'⟩ := hrel
    have hbs := hb'.size
    by_cases hlt : j < s.size
    · have hd := WP.drop_cons s j hlt
      by_cases h0 : s[j] = 0
      · rw [h0] at hd
        have q0 : ((s[j].toNat : Int) == 0) = true := by rw [h0]; rfl
        by_cases h1 : j + 1 < s.size
        · have hd1 := WP.drop_cons s (j + 1) h1
          rw [hd1] at hd
          have HD := Lib.hid hd
          have q1 : ((j : Int) + 1 == s.size) = false := beq_eq_false_iff_ne.2 (by omega)
          clear hd hd1 h0
          generalize hc : s[j + 1] = c1 at *
          by_cases hc1 : c1 = 1
          · subst hc1
            have HV : Hid (r = .tuple #[.string ⟨t.toArray⟩, .int .i64 (j + 1 + 1 : Nat), .int .i64 0]) := Lib.hid (by
              rw [HR.out, HT.out, HD.out, CP.text_one, CP.glue_ok, List.append_nil, txtV_ok, show p + (j - p + 2) = j + 1 + 1 by omega])
            have hcv := conv_any HO'.out
            go_wp2_with fail
            go_ret3
            exact ⟨by rw [HV.out]; congr 3, hb'⟩
          · have q2 : ((c1.toNat : Int) == 1) = false := beq_eq_false_iff_ne.2 (fun e => hc1 (UInt8.toNat_inj.1 (by show c1.toNat = 1; omega)))
            by_cases hc2 : c1 = 255
            · subst hc2
              have q3 : (((255 : UInt8).toNat : Int) == 255) = true := rfl
              have HT' : Hid (CP.text (s.data.toList.drop p) = CP.glue (t ++ [0]) (j + 1 + 1 - p) (CP.text (s.data.toList.drop (j + 1 + 1)))) := Lib.hid (by
                rw [HT.out, HD.out, CP.text_255, CP.glue_glue, show j - p + 2 = j + 1 + 1 - p by omega])
              go_wp2_with (at_builtin; refine wpList_append_lies _ rfl _ _ 45 rfl w.heap.size 5 i0 (.int .u8 0) 1 1 Tryd.underlying45 hi hz0 hz1 hz2 rfl (by decide) u7 t.length _ rfl (HO'.out.alloc _) ⟨wr.heap.size, 0, none⟩ 1 1 [.int .u8 0] rfl rfl (World.news_of_block (cs := #[.int .u8 0]) (t := 5) (fr := (0, 0)) (heap_alloc_new wr _)) (by simp [Value.oneCell']) (by omega) (by unfold maxLen; omega) (by omega) (by simp; omega) (wr.heap.size + 1) (by simp) ?_; intro g' cap' w1 hown1 hgrow hat hlt1)
              have hap : ∀ k, k < w.heap.size → some k ≠ u7.ownBlock := fun k hk => own_apart HO'.out k hk
              have G4 : Below w.heap.size w w1 := (hb'.alloc hb'.size _).grown hgrow (by simp; omega) (fun k e => by rcases Nat.lt_or_ge k w.heap.size with h | h; exact absurd e.symm (hap k h); omega)
              have GO := Lib.hid hown1
              clear hown1 hgrow hat hlt1 hb' hap HO'
              go_wp2_with fail
              go_roundw
              case rel =>
                refine ⟨j + 1 + 1, t ++ [0], by omega, by omega, by simp; omega, HT', by go_num, ?_, G4⟩
                rw [List.length_append, byteCells_snoc]
                exact GO
              case measure => simp [intOf]; omega
            · have q3 : ((c1.toNat : Int) == 255) = false := beq_eq_false_iff_ne.2 (fun e => hc2 (UInt8.toNat_inj.1 (by show c1.toNat = 255; omega)))
              have HV : Hid (r = .tuple #[.string ⟨#[]⟩, .int .i64 0, .int .i64 (3 : Nat)]) := Lib.hid (by
                rw [HR.out, HT.out, HD.out, CP.text_form _ _ hc1 hc2, CP.glue_err _ _ _ (by omega), txtV_err _ _ (by omega)])
              clear hc1 hc2
              go_wp2_with fail
              go_ret3
              exact ⟨by rw [HV.out]; rfl, hb'⟩
        · have hd1 : s.data.toList.drop (j + 1) = [] := List.drop_eq_nil_of_le (by simp; omega)
          rw [hd1] at hd
          have q1 : ((j : Int) + 1 == s.size) = true := beq_iff_eq.2 (by omega)
          have HV : Hid (r = .tuple #[.string ⟨#[]⟩, .int .i64 0, .int .i64 (7 : Nat)]) := Lib.hid (by
            rw [HR.out, HT.out, hd]
            rw [show CP.text [0] = ([], 0, 7) from rfl, CP.glue_err _ _ _ (by omega), txtV_err _ _ (by omega)])
          clear hd hd1 h0
          go_wp2_with fail
          go_ret3
          exact ⟨by rw [HV.out]; rfl, hb'⟩
      · have HT' : Hid (CP.text (s.data.toList.drop p) = CP.glue (t ++ [s[j]]) (j + 1 - p) (CP.text (s.data.toList.drop (j + 1)))) := Lib.hid (by
          rw [HT.out, hd, CP.text_other _ _ h0, CP.glue_glue, show j - p + 1 = j + 1 - p by omega])
        have hc0 : ((s[j].toNat : Int) == 0) = false := beq_eq_false_iff_ne.2 (fun e => h0 (UInt8.toNat_inj.1 (by show s[j].toNat = 0; omega)))
        clear hd h0
        generalize hcc : s[j] = c at *
        go_wp2_with (at_builtin; refine wpList_append_lies _ rfl _ _ 45 rfl w.heap.size 5 i0 (.int .u8 0) 1 1 Tryd.underlying45 hi hz0 hz1 hz2 rfl (by decide) u7 t.length _ rfl (HO'.out.alloc _) ⟨wr.heap.size, 0, none⟩ 1 1 [.int .u8 c.toNat] rfl rfl (World.news_of_block (cs := #[.int .u8 c.toNat]) (t := 5) (fr := (0, 0)) (heap_alloc_new wr _)) (by simp [Value.oneCell']) (by omega) (by unfold maxLen; omega) (by omega) (by simp; omega) (wr.heap.size + 1) (by simp) ?_; intro g' cap' w1 hown1 hgrow hat hlt1)
        have hap : ∀ k, k < w.heap.size → some k ≠ u7.ownBlock := fun k hk => own_apart HO'.out k hk
        have G4 : Below w.heap.size w w1 := (hb'.alloc hb'.size _).grown hgrow (by simp; omega) (fun k e => by rcases Nat.lt_or_ge k w.heap.size with h | h; exact absurd e.symm (hap k h); omega)
        have GO := Lib.hid hown1
        clear hown1 hgrow hat hlt1 hb' hap HO'
        go_wp2_with fail
        go_roundw
        case rel =>
          refine ⟨j + 1, t ++ [c], by omega, by omega, by simp; omega, HT', by go_num, ?_, G4⟩
          rw [List.length_append, byteCells_snoc]
          exact GO
        case measure => simp [intOf]; omega
    · have hd : s.data.toList.drop j = [] := List.drop_eq_nil_of_le (by simp; omega)
      have HV : Hid (r = .tuple #[.string ⟨#[]⟩, .int .i64 0, .int .i64 (7 : Nat)]) := Lib.hid (by
        rw [HR.out, HT.out, hd]
        rw [show CP.text [] = ([], 0, 7) from rfl, CP.glue_err _ _ _ (by omega), txtV_err _ _ (by omega)])
      clear hd
      go_wp2_with fail
      go_ret3
      exact ⟨by rw [HV.out]; rfl, hb'⟩
end Go.Proofs.YtdcijbclafpkmaaDoor
