/-
  The walk of DiskAll.
-/
import Derived.Test.YtaeiifmdbdhoeaaDoorGLaws2
namespace Go.Proofs.YtaeiifmdbdhoeaaDoor
open Go.RowKit
open Go.ChangeShapes
open DP (W D C)
set_option linter.unusedVariables false
set_option linter.unusedSimpArgs false

set_option maxHeartbeats 6000000 in
set_option maxRecDepth 100000 in
theorem diskAll_walk (A0 : Option Addr) (l : List (UInt8 × UInt8)) (ca0 : Nat) (tn : Bool) (n0 : Int) (w : World) (hz : Sizes w) (hl : LiesR w w.heap.size A0 l) (hlm : l.length ≤ maxLen) (hn0 : (Lit.int .u8 n0).wf = true) :
    Calls Tryd.prog 5 #[.slice A0 l.length ca0, .bool tn, .int .u8 n0] w fun e w' => e = .returned (.bool true) ∧ Below w.heap.size w w' := by
  have hnb := bounds_u8 hn0
  obtain ⟨nn, rfl⟩ := Int.eq_ofNat_of_zero_le (show 0 ≤ n0 by omega)
  obtain ⟨s12, hs12⟩ : ∃ s12, s12 = nn % 12 := ⟨_, rfl⟩
  have hsd : (nn : Int) % 12 = (s12 : Int) := by omega
  have hsd2 : (nn : Int).tmod 12 = (s12 : Int) := by rw [Int.tmod_eq_emod_of_nonneg (by omega)]; exact hsd
  have hs12' : s12 < 12 := by omega
  have wn : IntKind.i64.wrap (nn : Int) = (nn : Int) := IntWalk.i64_in _ (by omega)
  have HNN : Hid (nn ≤ 255) := Lib.hid (by omega)
  clear hs12 hn0 hnb
  have hg0 := hz.lt
  have HZ : Hid (∀ W, Below w.heap.size w W → Sizes W) := Lib.hid (fun W hW => hz.below hg0 hW)
  have HFIX : Hid (∀ W, Below w.heap.size w W → Calls Tryd.prog 13 #[] W fun e w' => e = .returned (.bool true) ∧ Below W.heap.size W w') := Lib.hid (fun W hW => fixed_any W (hz.below hg0 hW) (Nat.lt_of_lt_of_le hg0 hW.size))
  have HN : Hid (w.heap.size ≤ w.heap.size) := Lib.hid (Nat.le_refl _)
  have HB0 : Hid (Below w.heap.size w w) := Lib.hid (Below.refl _ _)
  have HL := Lib.hid hl
  unfold maxLen at hlm
  obtain ⟨n, hn⟩ : ∃ n, n = l.length := ⟨_, rfl⟩
  have HLN := Lib.hid hn
  rw [← hn] at hlm ⊢
  have HSN : Hid (∀ k x, l[k]? = some x → wrs (l.take (k + 1)) = wrs (l.take k) ++ [wr8 x]) := Lib.hid (wrs_snoc l)
  clear hz hl hn hg0
  obtain ⟨i0, hi, hz0, hz1, hz2⟩ := info_parts Tryd.infoChoice
  go_enter Tryd.func5, Tryd.ntmps5
  go_wp2_with fail
  refine (new_at HB0.out HN.out (HZ.out _ HB0.out) 128 8 _ _ rfl rfl rfl (by decide) (by decide)).mono ?_
  rintro e w1 ⟨a1, rfl, ha1, _, _⟩
  have HX1 := Lib.hid ha1
  clear ha1
  go_wp2_with fail
  refine (new_at HX1.out.bel HN.out (HZ.out _ HX1.out.bel) 128 8 _ _ rfl rfl rfl (by decide) (by decide)).mono ?_
  rintro e w2 ⟨b1, rfl, ha2, hb2, hc2⟩
  have HNE : Hid (b1 ≠ a1) := Lib.hid (by have := HX1.out.has.lt; omega)
  have HNE' : Hid (a1 ≠ b1) := Lib.hid (by have := HX1.out.has.lt; omega)
  have HX2 := Lib.hid (HX1.out.below HN.out hb2)
  have HY2 := Lib.hid ha2
  clear ha2 hb2 hc2 HX1
  have hk1 := own_empty w2 9 1
  have hal1 := below_alloc w2 (.cells #[] 9)
  have hk2 := own_empty (w2.alloc (.cells #[] 9)) 54 2
  have hal2 := below_alloc (w2.alloc (.cells #[] 9)) (.cells #[] 54)
  have HK3 := Lib.hid (own_weaker (own_below hk1 hal2) HX2.out.bel.size)
  have HC3 := Lib.hid (own_weaker hk2 (HX2.out.below HN.out hal1).bel.size)
  have HX3 := Lib.hid ((HX2.out.below HN.out hal1).below HN.out hal2)
  have HY3 := Lib.hid ((HY2.out.below HN.out hal1).below HN.out hal2)
  have hszz : (w2.alloc (.cells #[] 9)).heap.size = w2.heap.size + 1 := by simp
  rw [hszz] at HC3
  clear hk1 hal1 hk2 hal2 hszz HX2 HY2
  go_wp2_with fail
  go_loopw [11, 12, 13] (fun kv av iv wr => ∃ (k : Nat) (kp : List ByteArray) (q : List W) (cs : List C), k ≤ min n 12 ∧ iv = .int .i64 k ∧ Hid (q.length ≤ k) ∧ Hid (cs.length = q.length) ∧ cs.length ≤ 12 ∧ Hid (∀ c ∈ cs, c.k = 1 ∨ c.k = 2 ∧ 128 ≤ c.at_) ∧ Hid (∀ c ∈ cs, -9223372036854775808 ≤ c.at_ ∧ c.at_ ≤ 9223372036854775807) ∧ Hid (At w.heap.size w wr a1 ⟨128, 8, kp, q, none, 0⟩) ∧ Hid (At w.heap.size w wr b1 ⟨128, 8, kp, q, none, 0⟩) ∧ Hid (wr.ownsRow w.heap.size 54 2 av cs.length (chCells cs)) ∧ Hid (wr.ownsRow w.heap.size 9 1 kv kp.length (strCells kp))) (fun _ _ iv _ => 12 - (intOf iv).toNat)
  case atStart => exact ⟨0, [], [], [], by omega, rfl, Lib.hid (Nat.le_refl _), Lib.hid rfl, by simp, Lib.hid (fun c h => by simp at h), Lib.hid (fun c h => by simp at h), HX3, HY3, HC3, HK3⟩
  case round =>
    obtain ⟨k, kp, q, cs, hk, rfl, HQK, HCQ, hcl, HCK, HCB, HX, HY, HC, HK⟩ := hrel
    clear HX3 HY3 HC3 HK3
    by_cases hlt : k < min n 12
    · obtain ⟨x, hx⟩ : ∃ x, l[k]? = some x := ⟨_, List.getElem?_eq_getElem (by have := HLN.out; omega)⟩
      obtain ⟨a, rfl, hab, x0, x1⟩ := (HL.out.below HX.out.bel) k x hx
      have d1 : decide ((k : Int) < (n : Int)) = true := decide_eq_true (by omega)
      have d1n : decide (k < n) = true := decide_eq_true (by omega)
      have d2 : decide ((k : Int) < 12) = true := decide_eq_true (by omega)
      have d2n : decide (k < 12) = true := decide_eq_true (by omega)
      have hk0 : (0 : Int) ≤ k := by omega
      have hkn : (k : Int) < n := by omega
      have HSTEP := Lib.hid (w8 ⟨128, 8, kp, q, none, 0⟩ x rfl (Nat.le_refl _) rfl)
      have hi8 : x.1.toNat ≤ 255 := by have := x.1.toNat_lt; omega
      obtain ⟨j0, hj0⟩ : ∃ j0, j0 = x.1.toNat := ⟨_, rfl⟩
      obtain ⟨m8, hm8⟩ : ∃ m8, m8 = j0 % 8 := ⟨_, rfl⟩
      rw [← hj0] at hi8 x0 HSTEP
      rw [← hm8] at HSTEP
      have hmd : (j0 : Int) % 8 = (m8 : Int) := by omega
      have hmd2 : (j0 : Int).tmod 8 = (m8 : Int) := by rw [Int.tmod_eq_emod_of_nonneg (by omega)]; exact hmd
      have hm8' : m8 < 8 := by omega
      have wi : IntKind.i64.wrap (j0 : Int) = (j0 : Int) := IntWalk.i64_in _ (by omega)
      obtain ⟨c, hc⟩ : ∃ c, c = x.2 := ⟨_, rfl⟩
      rw [← hc] at x1 HSTEP
      have HCELL : Hid (∀ V, Below w.heap.size w V → V.cell? (a.add (k * 2)) = some (.int .u8 (j0 : Nat)) ∧ V.cell? ⟨(a.add (k * 2)).block, (a.add (k * 2)).off + 1, none⟩ = some (.int .u8 c.toNat)) := Lib.hid (fun V hV => by
        obtain ⟨_, e, hab', y0, y1⟩ := (HL.out.below hV) k x hx
        obtain rfl := Option.some.inj e
        rw [← hj0] at y0
        rw [← hc] at y1
        exact ⟨y0, y1⟩)
      obtain ⟨q', hq'⟩ : ∃ q', q' = q ++ [wr8 x] := ⟨_, rfl⟩
      have HST : Hid (D.write ⟨128, 8, kp, q, none, 0⟩ (m8 : Int) (pg c) = (⟨128, 8, kp, q', none, 0⟩, 0)) := Lib.hid (by rw [hq']; exact HSTEP.out)
      have HQL : Hid (q'.length = q.length + 1) := Lib.hid (by rw [hq']; simp)
      clear hx hj0 hm8 hc hab hq' HSTEP
      go_wp2_with fail
      refine (page_law c _).mono ?_
      rintro e w3 ⟨rfl, hb3⟩
      have HX3 := Lib.hid (HX.out.below HN.out hb3)
      have HY3 := Lib.hid (HY.out.below HN.out hb3)
      have HC3 := Lib.hid (own_below HC.out hb3)
      have HK3 := Lib.hid (own_below HK.out hb3)
      obtain ⟨y0, y1⟩ := HCELL.out w3 HX3.out.bel
      clear hb3 x0 x1 HX HY HC HK
      go_wp2_with fail
      refine (at_write HX3.out HN.out _ 0 _ (by simp [Lit.wf, IntKind.min, IntKind.max, IntKind.signed, IntKind.bits]; omega) (by rw [pg_size]; unfold maxLen; decide) HST.out).mono ?_
      rintro e w4 ⟨rfl, ha4, hc4⟩
      have HX4 := Lib.hid ha4
      have HY4 := Lib.hid (HY3.out.other HX3.out HN.out hc4 HNE.out)
      have HC4 := Lib.hid (own_other HX3.out.has HC3.out (by decide) hc4)
      have HK4 := Lib.hid (own_other HX3.out.has HK3.out (by decide) hc4)
      obtain ⟨z0, z1⟩ := HCELL.out w4 HX4.out.bel
      clear ha4 hc4 y0 y1 HX3 HY3 HC3 HK3
      go_wp2_with fail
      refine (at_write HY4.out HN.out _ 0 _ (by simp [Lit.wf, IntKind.min, IntKind.max, IntKind.signed, IntKind.bits]; omega) (by rw [pg_size]; unfold maxLen; decide) HST.out).mono ?_
      rintro e w5 ⟨rfl, ha5, hc5⟩
      have HY5 := Lib.hid ha5
      have HX5 := Lib.hid (HX4.out.other HY4.out HN.out hc5 HNE'.out)
      have HC5 := Lib.hid (own_other HY4.out.has HC4.out (by decide) hc5)
      have HK5 := Lib.hid (own_other HY4.out.has HK4.out (by decide) hc5)
      clear ha5 hc5 z0 z1 HX4 HY4 HC4 HK4
      obtain ⟨cn, hcn⟩ : ∃ cn, cn = cs.length := ⟨_, rfl⟩
      rw [← hcn] at HC5 hcl
      have HCN := Lib.hid hcn
      have w128 : IntKind.i64.wrap (128 + (k : Int)) = 128 + (k : Int) := IntWalk.i64_in _ (by omega)
      clear hcn
      cases tn with
      | false =>
        by_cases hks : k = s12
        · have dS : ((k : Int) == (s12 : Int)) = true := by simp [hks]
          clear hks
          have hal1 := below_alloc w5 (.cells #[.int .i64 1, .int .i64 0] 54)
          have hal2 := below_alloc (w5.alloc (.cells #[.int .i64 1, .int .i64 0] 54)) (.cells #[.int .i64 1, .int .i64 0] 54)
          have hnew : ((w5.alloc (.cells #[.int .i64 1, .int .i64 0] 54)).alloc (.cells #[.int .i64 1, .int .i64 0] 54)).heap[w5.heap.size + 1]? = some (.cells #[.int .i64 1, .int .i64 0] 54 (0, 0)) := by
            have := heap_alloc_new (w5.alloc (.cells #[.int .i64 1, .int .i64 0] 54)) (.cells #[.int .i64 1, .int .i64 0] 54)
            simpa using this
          have HC6 := Lib.hid (own_below (own_below HC5.out hal1) hal2)
          have HK6 := Lib.hid (own_below (own_below HK5.out hal1) hal2)
          have HX6 := Lib.hid ((HX5.out.below HN.out hal1).below HN.out hal2)
          have HY6 := Lib.hid ((HY5.out.below HN.out hal1).below HN.out hal2)
          clear hal1 hal2 HX5 HY5 HC5 HK5
          go_wp2_with (at_builtin; refine wpList_append_own _ rfl _ _ 35 rfl w.heap.size 54 i0 (.agg #[.int .i64 0, .int .i64 0]) 2 16 Tryd.underlying35 hi hz0 hz1 hz2 rfl (by decide) _ cn _ rfl HC6.out ⟨w5.heap.size + 1, 0, none⟩ 1 1 [.int .i64 1, .int .i64 0] rfl rfl (World.news_of_block (cs := #[.int .i64 1, .int .i64 0]) (t := 54) (fr := (0, 0)) hnew) (by simp [Value.oneCell']) (by unfold maxLen; omega) (by omega) (by have := HX6.out.bel.size; omega) ?_; intro v7 w7 hown7 hgrow7 hnil7; have HC7 := Lib.hid hown7; have HK7 := Lib.hid (own_grown HK6.out HC6.out (by decide) hgrow7); have HX7 := Lib.hid (at_grown HX6.out HN.out HC6.out (by decide) hgrow7); have HY7 := Lib.hid (at_grown HY6.out HN.out HC6.out (by decide) hgrow7); clear hown7 hgrow7 hnil7)
          have HC8 : Hid (w7.ownsRow w.heap.size 54 2 v7 (cs ++ [(⟨1, 0⟩ : C)]).length (chCells (cs ++ [(⟨1, 0⟩ : C)]))) := Lib.hid (by
            rw [chCells_snoc, List.length_append, ← HCN.out]
            exact HC7.out)
          have HCQ' : Hid ((cs ++ [(⟨1, 0⟩ : C)]).length = q'.length) := Lib.hid (by rw [List.length_append, HQL.out, HCQ.out]; rfl)
          have HCK' : Hid (∀ c ∈ cs ++ [(⟨1, 0⟩ : C)], c.k = 1 ∨ c.k = 2 ∧ 128 ≤ c.at_) := Lib.hid (fun c hc => by
            rcases List.mem_append.1 hc with h | h
            · exact HCK.out c h
            · rw [List.mem_singleton.1 h]; first | exact .inl rfl | exact .inr ⟨rfl, by show (128 : Int) ≤ 128 + (k : Int); omega⟩)
          have HCB' : Hid (∀ c ∈ cs ++ [(⟨1, 0⟩ : C)], -9223372036854775808 ≤ c.at_ ∧ c.at_ ≤ 9223372036854775807) := Lib.hid (fun c hc => by
            rcases List.mem_append.1 hc with h | h
            · exact HCB.out c h
            · rw [List.mem_singleton.1 h]; constructor <;> simp only <;> omega)
          have HQK' : Hid (q'.length ≤ k + 1) := Lib.hid (by rw [HQL.out]; have := HQK.out; omega)
          have hcl' : (cs ++ [(⟨1, 0⟩ : C)]).length ≤ 12 := by rw [HCQ'.out]; have := HQK'.out; omega
          clear HC6 HK6 HX6 HY6 HC7 hnew
          obtain ⟨al, hal⟩ : ∃ al, al = D.all ⟨128, 8, kp, q', none, 0⟩ := ⟨_, rfl⟩
          have HSY : Hid (D.sync ⟨128, 8, kp, q', none, 0⟩ = (⟨128, 8, al, [], none, 0⟩, 0)) := Lib.hid (by rw [hal]; exact sync_none kp q')
          have HAL : Hid (D.all ⟨128, 8, al, [], none, 0⟩ = al) := Lib.hid rfl
          clear hal
          go_wp2_with fail
          refine (at_sync HX7.out HN.out 0 HSY.out).mono ?_
          rintro e w8 ⟨rfl, ha8, hc8⟩
          have HX8 := Lib.hid ha8
          have HY8 := Lib.hid (HY7.out.other HX7.out HN.out hc8 HNE.out)
          clear ha8 hc8
          go_wp2_with fail
          refine (at_sync HY8.out HN.out 0 HSY.out).mono ?_
          rintro e w9 ⟨rfl, ha9, hc9⟩
          have HY9 := Lib.hid ha9
          have HX9 := Lib.hid (HX8.out.other HY8.out HN.out hc9 HNE'.out)
          clear ha9 hc9
          go_wp2_with fail
          refine (at_all HY9.out HN.out al HAL.out).mono ?_
          rintro e w10 ⟨g10, rfl, ho10, ha10, hb10⟩
          have HK10 := Lib.hid (own_weaker ho10 HY9.out.bel.size)
          have HY10 := Lib.hid ha10
          have HX10 := Lib.hid (HX9.out.below HN.out hb10)
          clear ho10 ha10 hb10
          have hk11 := own_empty w10 54 2
          have hal11 := below_alloc w10 (.cells #[] 54)
          have HC11 := Lib.hid (own_weaker hk11 HX10.out.bel.size)
          have HK11 := Lib.hid (own_below HK10.out hal11)
          have HX11 := Lib.hid (HX10.out.below HN.out hal11)
          have HY11 := Lib.hid (HY10.out.below HN.out hal11)
          clear hk11 hal11
          go_wp2_with fail
          go_roundw
          case rel => exact ⟨k + 1, al, [], [], by omega, by first | rfl | simp, Lib.hid (Nat.zero_le _), Lib.hid rfl, by simp, Lib.hid (fun c h => by simp at h), Lib.hid (fun c h => by simp at h), HX11, HY11, HC11, HK11⟩
          case measure => simp [intOf]; omega
        · have dS : ((k : Int) == (s12 : Int)) = false := by rw [beq_eq_false_iff_ne]; omega
          have dSn : (k == s12) = false := by rw [beq_eq_false_iff_ne]; exact hks
          have hal1 := below_alloc w5 (.cells #[.int .i64 1, .int .i64 0] 54)
          have hal2 := below_alloc (w5.alloc (.cells #[.int .i64 1, .int .i64 0] 54)) (.cells #[.int .i64 1, .int .i64 0] 54)
          have hnew : ((w5.alloc (.cells #[.int .i64 1, .int .i64 0] 54)).alloc (.cells #[.int .i64 1, .int .i64 0] 54)).heap[w5.heap.size + 1]? = some (.cells #[.int .i64 1, .int .i64 0] 54 (0, 0)) := by
            have := heap_alloc_new (w5.alloc (.cells #[.int .i64 1, .int .i64 0] 54)) (.cells #[.int .i64 1, .int .i64 0] 54)
            simpa using this
          have HC6 := Lib.hid (own_below (own_below HC5.out hal1) hal2)
          have HK6 := Lib.hid (own_below (own_below HK5.out hal1) hal2)
          have HX6 := Lib.hid ((HX5.out.below HN.out hal1).below HN.out hal2)
          have HY6 := Lib.hid ((HY5.out.below HN.out hal1).below HN.out hal2)
          clear hal1 hal2 HX5 HY5 HC5 HK5
          go_wp2_with (at_builtin; refine wpList_append_own _ rfl _ _ 35 rfl w.heap.size 54 i0 (.agg #[.int .i64 0, .int .i64 0]) 2 16 Tryd.underlying35 hi hz0 hz1 hz2 rfl (by decide) _ cn _ rfl HC6.out ⟨w5.heap.size + 1, 0, none⟩ 1 1 [.int .i64 1, .int .i64 0] rfl rfl (World.news_of_block (cs := #[.int .i64 1, .int .i64 0]) (t := 54) (fr := (0, 0)) hnew) (by simp [Value.oneCell']) (by unfold maxLen; omega) (by omega) (by have := HX6.out.bel.size; omega) ?_; intro v7 w7 hown7 hgrow7 hnil7; have HC7 := Lib.hid hown7; have HK7 := Lib.hid (own_grown HK6.out HC6.out (by decide) hgrow7); have HX7 := Lib.hid (at_grown HX6.out HN.out HC6.out (by decide) hgrow7); have HY7 := Lib.hid (at_grown HY6.out HN.out HC6.out (by decide) hgrow7); clear hown7 hgrow7 hnil7)
          have HC8 : Hid (w7.ownsRow w.heap.size 54 2 v7 (cs ++ [(⟨1, 0⟩ : C)]).length (chCells (cs ++ [(⟨1, 0⟩ : C)]))) := Lib.hid (by
            rw [chCells_snoc, List.length_append, ← HCN.out]
            exact HC7.out)
          have HCQ' : Hid ((cs ++ [(⟨1, 0⟩ : C)]).length = q'.length) := Lib.hid (by rw [List.length_append, HQL.out, HCQ.out]; rfl)
          have HCK' : Hid (∀ c ∈ cs ++ [(⟨1, 0⟩ : C)], c.k = 1 ∨ c.k = 2 ∧ 128 ≤ c.at_) := Lib.hid (fun c hc => by
            rcases List.mem_append.1 hc with h | h
            · exact HCK.out c h
            · rw [List.mem_singleton.1 h]; first | exact .inl rfl | exact .inr ⟨rfl, by show (128 : Int) ≤ 128 + (k : Int); omega⟩)
          have HCB' : Hid (∀ c ∈ cs ++ [(⟨1, 0⟩ : C)], -9223372036854775808 ≤ c.at_ ∧ c.at_ ≤ 9223372036854775807) := Lib.hid (fun c hc => by
            rcases List.mem_append.1 hc with h | h
            · exact HCB.out c h
            · rw [List.mem_singleton.1 h]; constructor <;> simp only <;> omega)
          have HQK' : Hid (q'.length ≤ k + 1) := Lib.hid (by rw [HQL.out]; have := HQK.out; omega)
          have hcl' : (cs ++ [(⟨1, 0⟩ : C)]).length ≤ 12 := by rw [HCQ'.out]; have := HQK'.out; omega
          clear HC6 HK6 HX6 HY6 HC7 hnew
          go_wp2_with fail
          go_roundw
          case rel => exact ⟨k + 1, kp, q', _, by omega, by first | rfl | simp, HQK', HCQ', hcl', HCK', HCB', HX7, HY7, HC8, HK7⟩
          case measure => simp [intOf]; omega
      | true =>
        by_cases hks : k = s12
        · have dS : ((k : Int) == (s12 : Int)) = true := by simp [hks]
          clear hks
          have hal1 := below_alloc w5 (.cells #[.int .i64 2, .int .i64 (128 + (k : Int))] 54)
          have hal2 := below_alloc (w5.alloc (.cells #[.int .i64 2, .int .i64 (128 + (k : Int))] 54)) (.cells #[.int .i64 2, .int .i64 (128 + (k : Int))] 54)
          have hnew : ((w5.alloc (.cells #[.int .i64 2, .int .i64 (128 + (k : Int))] 54)).alloc (.cells #[.int .i64 2, .int .i64 (128 + (k : Int))] 54)).heap[w5.heap.size + 1]? = some (.cells #[.int .i64 2, .int .i64 (128 + (k : Int))] 54 (0, 0)) := by
            have := heap_alloc_new (w5.alloc (.cells #[.int .i64 2, .int .i64 (128 + (k : Int))] 54)) (.cells #[.int .i64 2, .int .i64 (128 + (k : Int))] 54)
            simpa using this
          have HC6 := Lib.hid (own_below (own_below HC5.out hal1) hal2)
          have HK6 := Lib.hid (own_below (own_below HK5.out hal1) hal2)
          have HX6 := Lib.hid ((HX5.out.below HN.out hal1).below HN.out hal2)
          have HY6 := Lib.hid ((HY5.out.below HN.out hal1).below HN.out hal2)
          clear hal1 hal2 HX5 HY5 HC5 HK5
          go_wp2_with (at_builtin; refine wpList_append_own _ rfl _ _ 35 rfl w.heap.size 54 i0 (.agg #[.int .i64 0, .int .i64 0]) 2 16 Tryd.underlying35 hi hz0 hz1 hz2 rfl (by decide) _ cn _ rfl HC6.out ⟨w5.heap.size + 1, 0, none⟩ 1 1 [.int .i64 2, .int .i64 (128 + (k : Int))] rfl rfl (World.news_of_block (cs := #[.int .i64 2, .int .i64 (128 + (k : Int))]) (t := 54) (fr := (0, 0)) hnew) (by simp [Value.oneCell']) (by unfold maxLen; omega) (by omega) (by have := HX6.out.bel.size; omega) ?_; intro v7 w7 hown7 hgrow7 hnil7; have HC7 := Lib.hid hown7; have HK7 := Lib.hid (own_grown HK6.out HC6.out (by decide) hgrow7); have HX7 := Lib.hid (at_grown HX6.out HN.out HC6.out (by decide) hgrow7); have HY7 := Lib.hid (at_grown HY6.out HN.out HC6.out (by decide) hgrow7); clear hown7 hgrow7 hnil7)
          have HC8 : Hid (w7.ownsRow w.heap.size 54 2 v7 (cs ++ [(⟨2, (128 + (k : Int))⟩ : C)]).length (chCells (cs ++ [(⟨2, (128 + (k : Int))⟩ : C)]))) := Lib.hid (by
            rw [chCells_snoc, List.length_append, ← HCN.out]
            exact HC7.out)
          have HCQ' : Hid ((cs ++ [(⟨2, (128 + (k : Int))⟩ : C)]).length = q'.length) := Lib.hid (by rw [List.length_append, HQL.out, HCQ.out]; rfl)
          have HCK' : Hid (∀ c ∈ cs ++ [(⟨2, (128 + (k : Int))⟩ : C)], c.k = 1 ∨ c.k = 2 ∧ 128 ≤ c.at_) := Lib.hid (fun c hc => by
            rcases List.mem_append.1 hc with h | h
            · exact HCK.out c h
            · rw [List.mem_singleton.1 h]; first | exact .inl rfl | exact .inr ⟨rfl, by show (128 : Int) ≤ 128 + (k : Int); omega⟩)
          have HCB' : Hid (∀ c ∈ cs ++ [(⟨2, (128 + (k : Int))⟩ : C)], -9223372036854775808 ≤ c.at_ ∧ c.at_ ≤ 9223372036854775807) := Lib.hid (fun c hc => by
            rcases List.mem_append.1 hc with h | h
            · exact HCB.out c h
            · rw [List.mem_singleton.1 h]; constructor <;> simp only <;> omega)
          have HQK' : Hid (q'.length ≤ k + 1) := Lib.hid (by rw [HQL.out]; have := HQK.out; omega)
          have hcl' : (cs ++ [(⟨2, (128 + (k : Int))⟩ : C)]).length ≤ 12 := by rw [HCQ'.out]; have := HQK'.out; omega
          clear HC6 HK6 HX6 HY6 HC7 hnew
          obtain ⟨al, hal⟩ : ∃ al, al = D.all ⟨128, 8, kp, q', none, 0⟩ := ⟨_, rfl⟩
          have HSY : Hid (D.sync ⟨128, 8, kp, q', none, 0⟩ = (⟨128, 8, al, [], none, 0⟩, 0)) := Lib.hid (by rw [hal]; exact sync_none kp q')
          have HAL : Hid (D.all ⟨128, 8, al, [], none, 0⟩ = al) := Lib.hid rfl
          clear hal
          go_wp2_with fail
          refine (at_sync HX7.out HN.out 0 HSY.out).mono ?_
          rintro e w8 ⟨rfl, ha8, hc8⟩
          have HX8 := Lib.hid ha8
          have HY8 := Lib.hid (HY7.out.other HX7.out HN.out hc8 HNE.out)
          clear ha8 hc8
          go_wp2_with fail
          refine (at_sync HY8.out HN.out 0 HSY.out).mono ?_
          rintro e w9 ⟨rfl, ha9, hc9⟩
          have HY9 := Lib.hid ha9
          have HX9 := Lib.hid (HX8.out.other HY8.out HN.out hc9 HNE'.out)
          clear ha9 hc9
          go_wp2_with fail
          refine (at_all HY9.out HN.out al HAL.out).mono ?_
          rintro e w10 ⟨g10, rfl, ho10, ha10, hb10⟩
          have HK10 := Lib.hid (own_weaker ho10 HY9.out.bel.size)
          have HY10 := Lib.hid ha10
          have HX10 := Lib.hid (HX9.out.below HN.out hb10)
          clear ho10 ha10 hb10
          have hk11 := own_empty w10 54 2
          have hal11 := below_alloc w10 (.cells #[] 54)
          have HC11 := Lib.hid (own_weaker hk11 HX10.out.bel.size)
          have HK11 := Lib.hid (own_below HK10.out hal11)
          have HX11 := Lib.hid (HX10.out.below HN.out hal11)
          have HY11 := Lib.hid (HY10.out.below HN.out hal11)
          clear hk11 hal11
          go_wp2_with fail
          go_roundw
          case rel => exact ⟨k + 1, al, [], [], by omega, by first | rfl | simp, Lib.hid (Nat.zero_le _), Lib.hid rfl, by simp, Lib.hid (fun c h => by simp at h), Lib.hid (fun c h => by simp at h), HX11, HY11, HC11, HK11⟩
          case measure => simp [intOf]; omega
        · have dS : ((k : Int) == (s12 : Int)) = false := by rw [beq_eq_false_iff_ne]; omega
          have dSn : (k == s12) = false := by rw [beq_eq_false_iff_ne]; exact hks
          have hal1 := below_alloc w5 (.cells #[.int .i64 2, .int .i64 (128 + (k : Int))] 54)
          have hal2 := below_alloc (w5.alloc (.cells #[.int .i64 2, .int .i64 (128 + (k : Int))] 54)) (.cells #[.int .i64 2, .int .i64 (128 + (k : Int))] 54)
          have hnew : ((w5.alloc (.cells #[.int .i64 2, .int .i64 (128 + (k : Int))] 54)).alloc (.cells #[.int .i64 2, .int .i64 (128 + (k : Int))] 54)).heap[w5.heap.size + 1]? = some (.cells #[.int .i64 2, .int .i64 (128 + (k : Int))] 54 (0, 0)) := by
            have := heap_alloc_new (w5.alloc (.cells #[.int .i64 2, .int .i64 (128 + (k : Int))] 54)) (.cells #[.int .i64 2, .int .i64 (128 + (k : Int))] 54)
            simpa using this
          have HC6 := Lib.hid (own_below (own_below HC5.out hal1) hal2)
          have HK6 := Lib.hid (own_below (own_below HK5.out hal1) hal2)
          have HX6 := Lib.hid ((HX5.out.below HN.out hal1).below HN.out hal2)
          have HY6 := Lib.hid ((HY5.out.below HN.out hal1).below HN.out hal2)
          clear hal1 hal2 HX5 HY5 HC5 HK5
          go_wp2_with (at_builtin; refine wpList_append_own _ rfl _ _ 35 rfl w.heap.size 54 i0 (.agg #[.int .i64 0, .int .i64 0]) 2 16 Tryd.underlying35 hi hz0 hz1 hz2 rfl (by decide) _ cn _ rfl HC6.out ⟨w5.heap.size + 1, 0, none⟩ 1 1 [.int .i64 2, .int .i64 (128 + (k : Int))] rfl rfl (World.news_of_block (cs := #[.int .i64 2, .int .i64 (128 + (k : Int))]) (t := 54) (fr := (0, 0)) hnew) (by simp [Value.oneCell']) (by unfold maxLen; omega) (by omega) (by have := HX6.out.bel.size; omega) ?_; intro v7 w7 hown7 hgrow7 hnil7; have HC7 := Lib.hid hown7; have HK7 := Lib.hid (own_grown HK6.out HC6.out (by decide) hgrow7); have HX7 := Lib.hid (at_grown HX6.out HN.out HC6.out (by decide) hgrow7); have HY7 := Lib.hid (at_grown HY6.out HN.out HC6.out (by decide) hgrow7); clear hown7 hgrow7 hnil7)
          have HC8 : Hid (w7.ownsRow w.heap.size 54 2 v7 (cs ++ [(⟨2, (128 + (k : Int))⟩ : C)]).length (chCells (cs ++ [(⟨2, (128 + (k : Int))⟩ : C)]))) := Lib.hid (by
            rw [chCells_snoc, List.length_append, ← HCN.out]
            exact HC7.out)
          have HCQ' : Hid ((cs ++ [(⟨2, (128 + (k : Int))⟩ : C)]).length = q'.length) := Lib.hid (by rw [List.length_append, HQL.out, HCQ.out]; rfl)
          have HCK' : Hid (∀ c ∈ cs ++ [(⟨2, (128 + (k : Int))⟩ : C)], c.k = 1 ∨ c.k = 2 ∧ 128 ≤ c.at_) := Lib.hid (fun c hc => by
            rcases List.mem_append.1 hc with h | h
            · exact HCK.out c h
            · rw [List.mem_singleton.1 h]; first | exact .inl rfl | exact .inr ⟨rfl, by show (128 : Int) ≤ 128 + (k : Int); omega⟩)
          have HCB' : Hid (∀ c ∈ cs ++ [(⟨2, (128 + (k : Int))⟩ : C)], -9223372036854775808 ≤ c.at_ ∧ c.at_ ≤ 9223372036854775807) := Lib.hid (fun c hc => by
            rcases List.mem_append.1 hc with h | h
            · exact HCB.out c h
            · rw [List.mem_singleton.1 h]; constructor <;> simp only <;> omega)
          have HQK' : Hid (q'.length ≤ k + 1) := Lib.hid (by rw [HQL.out]; have := HQK.out; omega)
          have hcl' : (cs ++ [(⟨2, (128 + (k : Int))⟩ : C)]).length ≤ 12 := by rw [HCQ'.out]; have := HQK'.out; omega
          clear HC6 HK6 HX6 HY6 HC7 hnew
          go_wp2_with fail
          go_roundw
          case rel => exact ⟨k + 1, kp, q', _, by omega, by first | rfl | simp, HQK', HCQ', hcl', HCK', HCB', HX7, HY7, HC8, HK7⟩
          case measure => simp [intOf]; omega
    · skip
      have hkcase : (decide ((k : Int) < (n : Int)) = false ∧ decide (k < n) = false) ∨ (decide ((k : Int) < (n : Int)) = true ∧ decide (k < n) = true) ∧ decide ((k : Int) < 12) = false ∧ decide (k < 12) = false := by
        by_cases h : k < n
        · exact .inr ⟨⟨decide_eq_true (by omega), decide_eq_true h⟩, decide_eq_false (by omega), decide_eq_false (by omega)⟩
        · exact .inl ⟨decide_eq_false (by omega), decide_eq_false h⟩
      obtain ⟨al, hal⟩ : ∃ al, al = D.all ⟨128, 8, kp, q, none, 0⟩ := ⟨_, rfl⟩
      have HAL : Hid (D.all ⟨128, 8, kp, q, none, 0⟩ = al) := Lib.hid hal.symm
      have HCR : Hid (D.crash ⟨128, 8, kp, q, none, 0⟩ cs = ⟨128, 8, al, [], none, 0⟩) := Lib.hid (by rw [hal]; exact crash_all kp q cs HX.out.has.ok HCQ.out HCK.out)
      have HCN : Hid (D.crash ⟨128, 8, kp, q, none, 0⟩ [] = ⟨128, 8, kp, [], none, 0⟩) := Lib.hid (crash_no kp q)
      have HKL : Hid (kp.length ≤ 8) := Lib.hid HX.out.has.ok.fits
      have HALN : Hid (al.length ≤ 8) := Lib.hid (by rw [hal, D.all_length]; exact HX.out.has.ok.len)
      obtain ⟨cA, ccap, rfl, hcc, hcA⟩ := own_form HC.out
      obtain ⟨kA, kcap, rfl, hkc, hkA⟩ := own_form HK.out
      have HLEN5 : Hid (q.length ≤ 5000 ∧ cs.length ≤ 9223372036854775807) := Lib.hid (by have := HQK.out; omega)
      clear hlt hk hal hcc hcA hkc hkA
      rcases hkcase with ⟨e1, e2⟩ | ⟨⟨e1, e2⟩, e3, e4⟩
      all_goals
        go_wp2_with fail
        refine (at_all HX.out HN.out al HAL.out).mono ?_
        rintro e w5 ⟨g5, rfl, ho5, ha5, hb5⟩
        have HO5 := Lib.hid ho5
        have HX5 := Lib.hid ha5
        have HY5 := Lib.hid (HY.out.below HN.out hb5)
        have HC5 := Lib.hid (own_below HC.out hb5)
        have HK5 := Lib.hid (own_below HK.out hb5)
        clear ho5 ha5 hb5
        go_wp2_with fail
        refine (at_crash HX5.out HN.out cA cs ccap (liesG_own HC5.out rfl HCB.out) HLEN5.out.1 HLEN5.out.2 HCR.out).mono ?_
        rintro e w6 ⟨rfl, ha6, hc6⟩
        have HX6 := Lib.hid ha6
        have HY6 := Lib.hid (HY5.out.other HX5.out HN.out hc6 HNE.out)
        have HO6 := Lib.hid (own_other HX5.out.has HO5.out (by decide) hc6)
        have HK6 := Lib.hid (own_other HX5.out.has HK5.out (by decide) hc6)
        clear ha6 hc6
        go_wp2_with fail
        refine (at_crash HY6.out HN.out none [] 0 (fun i x h => by simp at h) HLEN5.out.1 (by decide) HCN.out).mono ?_
        rintro e w7 ⟨rfl, ha7, hc7⟩
        have HY7 := Lib.hid ha7
        have HX7 := Lib.hid (HX6.out.other HY6.out HN.out hc7 HNE'.out)
        have HO7 := Lib.hid (own_other HY6.out.has HO6.out (by decide) hc7)
        have HK7 := Lib.hid (own_other HY6.out.has HK6.out (by decide) hc7)
        clear ha7 hc7
        go_wp2_with fail
        refine (at_all HX7.out HN.out al rfl).mono ?_
        rintro e w8 ⟨g8, rfl, ho8, ha8, hb8⟩
        have HL8 := Lib.hid (own_lies ho8)
        have HO8 := Lib.hid (own_lies (own_below HO7.out hb8))
        have HY8 := Lib.hid (HY7.out.below HN.out hb8)
        have HK8 := Lib.hid (own_below HK7.out hb8)
        clear ho8 ha8 hb8
        go_wp2_with fail
        refine (words_any _ _ al al al.length al.length w8 HL8.out HO8.out (by have := HALN.out; omega) rfl).mono ?_
        rintro e w9 ⟨rfl, hb9⟩
        have HY9 := Lib.hid (HY8.out.below HN.out hb9)
        have HK9 := Lib.hid (own_below HK8.out hb9)
        clear hb9
        go_wp2_with fail
        refine (at_all HY9.out HN.out kp rfl).mono ?_
        rintro e w10 ⟨g10, rfl, ho10, ha10, hb10⟩
        have HL10 := Lib.hid (own_lies ho10)
        have HK10 := Lib.hid (lies_own (own_below HK9.out hb10) rfl)
        have HY10 := Lib.hid ha10
        clear ho10 ha10 hb10
        go_wp2_with fail
        refine (words_any _ _ kp kp kp.length kcap w10 HL10.out HK10.out (by have := HKL.out; omega) rfl).mono ?_
        rintro e w11 ⟨rfl, hb11⟩
        have HY11 := Lib.hid (HY10.out.below HN.out hb11)
        clear hb11
        go_wp2_with fail
        refine (HFIX.out _ HY11.out.bel).mono ?_
        rintro e w12 ⟨rfl, hb12⟩
        have HY12 := Lib.hid (HY11.out.below HN.out hb12)
        clear hb12
        go_wp2_with fail
        go_ret
        exact ⟨rfl, HY12.out.bel⟩
end Go.Proofs.YtaeiifmdbdhoeaaDoor
