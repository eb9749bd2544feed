/-
  Walk of the document's own Put of layer 3.
-/
import Derived.Test.YtdcijbclafpkmaaDoorCDoc
namespace Go.Proofs.YtdcijbclafpkmaaDoor
open Go.RowKit
set_option linter.unusedVariables false
set_option linter.unusedSimpArgs false

theorem rbox_grown {g base : Nat} {K I U : Int} {S : ByteArray} {w w' : World} {row : Option Nat} (h : RBox g K I U S w) (hg : w.grownBy w' row) (hr : ∀ k, k < base → some k ≠ row) (hp : g < base) : RBox g K I U S w' := by
  unfold RBox at *
  rw [hg.block g (lt_of_heap h) (hr g hp)]
  exact h

theorem size_grown {w w' : World} {o : Obj} {row : Option Nat} {n : Nat} (h : (w.alloc o).grownBy w' row) (hn : n ≤ w.heap.size) : n ≤ w'.heap.size := by
  have := h.size
  simp at this
  omega
/-- Right's answer, whatever the world. -/
theorem rright_hid (K I U : Int) (S : ByteArray) (h0 : 0 ≤ U) (b : Bool) (h : rt K I U S = b) : Hid (∀ W, Calls Tryd.prog 28 #[.agg #[.int .i64 K, .int .i64 I, .int .u64 U, .string S]] W fun e w' => e = .returned (.bool b) ∧ Below W.heap.size W w') :=
  Lib.hid (fun W => by have h2 := rright_any K I U S W h0; rwa [h] at h2)

theorem dput_none (K I U : Int) (S : ByteArray) (w : World) (h0 : 0 ≤ U) (h : rt K I U S = false) : Calls Tryd.prog 24 #[.agg #[.int .i64 K, .int .i64 I, .int .u64 U, .string S]] w fun e w' => e = .returned (.tuple #[.string ⟨#[]⟩, .int .i64 3]) ∧ Below w.heap.size w w' := by
  have HR := rright_hid K I U S h0 _ h
  go_enter Tryd.func24, Tryd.ntmps24
  go_wp2_with fail
  refine (HR.out _).mono ?_
  rintro e w1 ⟨rfl, hb1⟩
  go_wp2_with fail
  go_ret2
  exact ⟨rfl, (below_alloc _ _).trans' hb1⟩

theorem dput_0 (I U : Int) (S : ByteArray) (w : World) (h0 : 0 ≤ U) (h : rt 0 I U S = true) : Calls Tryd.prog 24 #[.agg #[.int .i64 0, .int .i64 I, .int .u64 U, .string S]] w fun e w' => e = .returned (.tuple #[.string ⟨(CP.put ⟨0, I, U, S.data.toList⟩).toArray⟩, .int .i64 0]) ∧ Below w.heap.size w w' := by
  have HR := rright_hid 0 I U S h0 _ h
  have HB := Lib.hid (RBox.new 0 I U S w)
  rw [CP.put0 rfl]
  go_enter Tryd.func24, Tryd.ntmps24
  go_wp2_with fail
  refine (HR.out _).mono ?_
  rintro e w1 ⟨rfl, hb1⟩
  obtain ⟨c0, c1, c2, c3⟩ := (HB.out.below hb1).cells
  go_wp2_with fail
  go_ret2
  exact ⟨rfl, (below_alloc _ _).trans' hb1⟩

theorem dput_1 (I U : Int) (S : ByteArray) (w : World) (h0 : 0 ≤ U) (h1 : U ≤ 1) (h : rt 1 I U S = true) : Calls Tryd.prog 24 #[.agg #[.int .i64 1, .int .i64 I, .int .u64 U, .string S]] w fun e w' => e = .returned (.tuple #[.string ⟨(CP.put ⟨1, I, U, S.data.toList⟩).toArray⟩, .int .i64 0]) ∧ Below w.heap.size w w' := by
  have HR := rright_hid 1 I U S h0 _ h
  have HB := Lib.hid (RBox.new 1 I U S w)
  have hc := fun (W : World) a => conv_new W [a] 45 5 9 Tryd.underlying45 Tryd.underlying5 Tryd.underlying9
  simp only [List.length_cons, List.length_nil, List.map_cons, List.map_nil, Nat.zero_add] at hc
  rw [CP.put1 rfl]
  rcases (show U = 0 ∨ U = 1 by omega) with rfl | rfl
  all_goals
    clear h0 h1 h
    go_enter Tryd.func24, Tryd.ntmps24
    go_wp2_with fail
    refine (HR.out _).mono ?_
    rintro e w1 ⟨rfl, hb1⟩
    obtain ⟨c0, c1, c2, c3⟩ := (HB.out.below hb1).cells
    go_wp2_with fail
    go_ret2
    exact ⟨rfl, (below_alloc _ _).trans' (hb1.trans' (below_alloc _ _))⟩

set_option maxHeartbeats 1000000 in
theorem dput_3 (I U : Int) (S : ByteArray) (w : World) (h0 : 0 ≤ U) (h1 : U ≤ 18446744073709551615) (h : rt 3 I U S = true) : Calls Tryd.prog 24 #[.agg #[.int .i64 3, .int .i64 I, .int .u64 U, .string S]] w fun e w' => e = .returned (.tuple #[.string ⟨(CP.put ⟨3, I, U, S.data.toList⟩).toArray⟩, .int .i64 0]) ∧ Below w.heap.size w w' := by
  have HR := rright_hid 3 I U S h0 _ h
  have HB := Lib.hid (RBox.new 3 I U S w)
  have HP : Hid (∀ W, Calls Tryd.prog 35 #[.int .u64 U] W fun e w' => e = .returned (.string ⟨(WP.put U.toNat).toArray⟩) ∧ Below W.heap.size W w') := Lib.hid (fun W => rput_any U W h0 h1)
  have hlen := CP.wput_len U.toNat (by omega)
  have hl : (ByteArray.mk (WP.put U.toNat).toArray).size ≤ 9 := by simp [ByteArray.size]; omega
  have he := CP.put3 (c := ⟨3, I, U, S.data.toList⟩) rfl
  simp only at he
  rw [he, show (⟨(64 :: WP.put U.toNat).toArray⟩ : ByteArray) = one 64 ++ ⟨(WP.put U.toNat).toArray⟩ from (WP.bytes_add [64] _).symm]
  clear he hlen
  generalize (⟨(WP.put U.toNat).toArray⟩ : ByteArray) = P at *
  have hadd : ¬ 9223372036854775807 < (⟨#[64]⟩ : ByteArray).size + P.size := by rw [show (⟨#[64]⟩ : ByteArray).size = 1 from rfl]; omega
  clear hl h0 h1 h
  go_enter Tryd.func24, Tryd.ntmps24
  go_wp2_with fail
  refine (HR.out _).mono ?_
  rintro e w1 ⟨rfl, hb1⟩
  obtain ⟨c0, c1, c2, c3⟩ := (HB.out.below hb1).cells
  go_wp2_with fail
  refine (HP.out _).mono ?_
  rintro e w2 ⟨rfl, hb2⟩
  go_wp2_with fail
  go_ret2
  exact ⟨rfl, (below_alloc _ _).trans' (hb1.trans' hb2)⟩

set_option maxHeartbeats 1000000 in
theorem dput_2 (I U : Int) (S : ByteArray) (w : World) (h0 : 0 ≤ U) (h1 : -9223372036854775808 ≤ I) (h2 : I ≤ 9223372036854775807) (h : rt 2 I U S = true) : Calls Tryd.prog 24 #[.agg #[.int .i64 2, .int .i64 I, .int .u64 U, .string S]] w fun e w' => e = .returned (.tuple #[.string ⟨(CP.put ⟨2, I, U, S.data.toList⟩).toArray⟩, .int .i64 0]) ∧ Below w.heap.size w w' := by
  have HR := rright_hid 2 I U S h0 _ h
  have HB := Lib.hid (RBox.new 2 I U S w)
  have hc := fun (W : World) a => conv_new W [a] 45 5 9 Tryd.underlying45 Tryd.underlying5 Tryd.underlying9
  simp only [List.length_cons, List.length_nil, List.map_cons, List.map_nil, Nat.zero_add] at hc
  obtain ⟨N, hN⟩ : ∃ N : Nat, (N : Int) = I + 9223372036854775808 := ⟨(I + 9223372036854775808).toNat, by omega⟩
  have hw : IntKind.u64.wrap (IntKind.u64.wrap I + 9223372036854775808) = (N : Int) := by rw [wrap64, wrap64]; omega
  have hNb : N ≤ 18446744073709551615 := by omega
  have he := CP.put2 (c := ⟨2, I, U, S.data.toList⟩) rfl
  simp only at he
  rw [he, ← hN, Int.toNat_natCast, show (⟨(48 :: Lib.beBytes 8 N).toArray⟩ : ByteArray) = one 48 ++ ⟨(Lib.beBytes 8 N).toArray⟩ from (WP.bytes_add [48] _).symm]
  obtain ⟨r, HRr⟩ : ∃ r, Hid (r = one 48 ++ ⟨(Lib.beBytes 8 N).toArray⟩) := ⟨_, Lib.hid rfl⟩
  rw [← HRr.out]
  clear he h h0 h1 h2
  go_enter Tryd.func24, Tryd.ntmps24
  go_wp2_with fail
  refine (HR.out _).mono ?_
  rintro e w1 ⟨rfl, hb1⟩
  obtain ⟨c0, c1, c2, c3⟩ := (HB.out.below hb1).cells
  have L1 : Below w.heap.size w w1 := (below_alloc _ _).trans' hb1
  clear hN
  go_wp2_with fail
  clear hw c0 c1 c2 c3 hb1
  go_loopw [4, 5, 6] (fun nv sv iv wr => ∃ k : Nat, k ≤ 8 ∧ nv = .int .u64 (N / 256 ^ k : Nat) ∧ sv = .string ⟨(Lib.beBytes k N).toArray⟩ ∧ iv = .int .i64 k ∧ Below w.heap.size w wr) (fun _ _ iv _ => 8 - (intOf iv).toNat)
  case atStart => exact ⟨0, by omega, by simp, rfl, rfl, L1⟩
  case round =>
    obtain ⟨k, hk, rfl, rfl, rfl, hb⟩ := hrel
    have hX : (ByteArray.mk (Lib.beBytes k N).toArray).size = k := by simp [ByteArray.size, Lib.beBytes_length]
    by_cases hlt : k < 8
    · have HD : Hid (N / 256 ^ (k + 1) = N / 256 ^ k / 256) := Lib.hid (by rw [Nat.pow_succ, Nat.div_div_eq_div_mul])
      have HS : Hid (∀ v : Nat, v = N / 256 ^ k → strOfNums [(v : Int) % 256] ++ ⟨(Lib.beBytes k N).toArray⟩ = ⟨(Lib.beBytes (k + 1) N).toArray⟩) := Lib.hid (fun v hv => by
        rw [beBytes_succ, ← hv, show strOfNums [(v : Int) % 256] = ⟨[(v % 256).toUInt8].toArray⟩ by
          unfold strOfNums
          simp only [List.map_cons, List.map_nil]
          rw [u8n _ (v % 256) (by omega)], WP.bytes_add]
        rfl)
      have hvn : N / 256 ^ k ≤ N := Nat.div_le_self _ _
      obtain ⟨v, hv⟩ : ∃ v, N / 256 ^ k = v := ⟨_, rfl⟩
      have HS2 := Lib.hid (HS.out v hv.symm)
      rw [hv] at HD hvn ⊢
      clear HS hv
      generalize (ByteArray.mk (Lib.beBytes k N).toArray) = X at *
      have hadd : ∀ a : Int, ¬ 9223372036854775807 < (strOfNums [a]).size + X.size := fun a => by rw [strOfNums_size]; simp only [List.length_cons, List.length_nil]; omega
      clear hX
      go_wp2_with fail
      go_roundw
      case rel =>
        refine ⟨k + 1, by omega, ?_, ?_, by go_num, hb.alloc hb.size _⟩
        · rw [HD.out]; go_num
        · rw [← HS2.out]
      case measure => simp [intOf]; omega
    · obtain rfl : k = 8 := by omega
      generalize (ByteArray.mk (Lib.beBytes 8 N).toArray) = X at *
      have hadd : ¬ 9223372036854775807 < (⟨#[48]⟩ : ByteArray).size + X.size := by rw [show (⟨#[48]⟩ : ByteArray).size = 1 from rfl]; omega
      clear hX
      go_wp2_with fail
      go_ret2
      exact ⟨by rw [HRr.out]; rfl, hb⟩

theorem esc_take (S : ByteArray) (j : Nat) (h : j < S.size) : CP.esc (S.data.toList.take (j + 1)) = CP.esc (S.data.toList.take j) ++ CP.esc [S[j]] := by
  rw [WP.take_snoc S j h, CP.esc_append]

set_option maxHeartbeats 2000000 in
set_option maxRecDepth 100000 in
theorem dput_4 (I U : Int) (S : ByteArray) (w : World) (h0 : 0 ≤ U) (hS : S.size ≤ 1000) (h : rt 4 I U S = true) : Calls Tryd.prog 24 #[.agg #[.int .i64 4, .int .i64 I, .int .u64 U, .string S]] w fun e w' => e = .returned (.tuple #[.string ⟨(CP.put ⟨4, I, U, S.data.toList⟩).toArray⟩, .int .i64 0]) ∧ Below w.heap.size w w' := by
  obtain ⟨i0, hi, hz0, hz1, hz2⟩ := info_parts Tryd.infoU8
  have HR := rright_hid 4 I U S h0 _ h
  have HB := Lib.hid (RBox.new 4 I U S w)
  have he := CP.put4 (c := ⟨4, I, U, S.data.toList⟩) rfl
  simp only at he
  rw [he]
  obtain ⟨r, HRr⟩ : ∃ r, Hid (r = 80 :: (CP.esc S.data.toList ++ [0, 1])) := ⟨_, Lib.hid rfl⟩
  rw [← HRr.out]
  clear he h h0
  go_enter Tryd.func24, Tryd.ntmps24
  go_wp2_with fail
  refine (HR.out _).mono ?_
  rintro e w1 ⟨rfl, hb1⟩
  have B1 := Lib.hid (HB.out.below hb1)
  have L1 : Below w.heap.size w w1 := (below_alloc _ _).trans' hb1
  have l1 : w.heap.size + 1 ≤ w1.heap.size := by have := hb1.size; simpa using this
  obtain ⟨c0, c1, c2, c3⟩ := B1.out.cells
  clear hb1
  go_wp2_with fail
  go_loopw [7, 8] (fun bv iv wr => ∃ (j : Nat) (t : List UInt8), j ≤ S.size ∧ t.length ≤ 1 + 2 * j ∧ Hid (t = 80 :: CP.esc (S.data.toList.take j)) ∧ iv = .int .i64 j ∧ Hid (wr.ownsRow (w.heap.size + 1) 5 1 bv t.length (byteCells t)) ∧ Hid (RBox w.heap.size 4 I U S wr) ∧ Below w.heap.size w wr ∧ w.heap.size + 1 ≤ wr.heap.size) (fun _ iv _ => S.size - (intOf iv).toNat)
  case atStart =>
    exact ⟨0, [80], by omega, by simp, Lib.hid rfl, rfl, Lib.hid (own_new _ l1), Lib.hid (B1.out.below (below_alloc _ _)), L1.trans' (below_alloc _ _), by simp; omega⟩
  case round =>
    clear c0 c1 c2 c3
    obtain ⟨j, t, hj, htl, HT, rfl, HO, HBx, hb, hbs⟩ := hrel
    obtain ⟨c0, c1, c2, c3⟩ := HBx.out.cells
    by_cases hlt : j < S.size
    · have HE := Lib.hid (esc_take S j hlt)
      by_cases hz : S[j] = 0
      · have q0 : ((S[j].toNat : Int) == 0) = true := by rw [hz]; rfl
        have HT' : Hid (t ++ [S[j]] ++ [255] = 80 :: CP.esc (S.data.toList.take (j + 1))) := Lib.hid (by rw [HT.out, HE.out, hz]; simp [CP.esc])
        clear hz
        generalize hcc : S[j] = c at *
        go_wp2_with (first
          | (at_builtin; refine wpList_append_lies _ rfl _ _ 45 rfl (w.heap.size + 1) 5 i0 (.int .u8 0) 1 1 Tryd.underlying45 hi hz0 hz1 hz2 rfl (by decide) u7 t.length _ rfl (HO.out.alloc _) ⟨wr.heap.size, 0, none⟩ 1 1 [.int .u8 c.toNat] rfl rfl (World.news_of_block (cs := #[.int .u8 c.toNat]) (t := 5) (fr := (0, 0)) (heap_alloc_new wr _)) (by simp [Value.oneCell']) (by omega) (by unfold maxLen; omega) (by omega) (by simp; omega) (wr.heap.size + 1) (by simp) ?_; intro g' cap' w2 hown2 hgrow2 hat2 hlt2;
              have hap : ∀ k, k < w.heap.size + 1 → some k ≠ u7.ownBlock := fun k hk => own_apart HO.out k hk;
              have B2 := Lib.hid (rbox_grown (HBx.out.below (below_alloc _ _)) hgrow2 hap (by omega));
              have L2 : Below w.heap.size w w2 := (hb.alloc hb.size _).grown hgrow2 (by simp; omega) (fun k e => by rcases Nat.lt_or_ge k (w.heap.size + 1) with h | h; exact absurd e.symm (hap k h); omega);
              have l2 : w.heap.size + 1 ≤ w2.heap.size := size_grown hgrow2 hbs;
              obtain ⟨d0, d1, d2, d3⟩ := B2.out.cells;
              clear hgrow2 hat2)
          | (at_builtin; refine wpList_append_lies _ rfl _ _ 45 rfl (w.heap.size + 1) 5 i0 (.int .u8 0) 1 1 Tryd.underlying45 hi hz0 hz1 hz2 rfl (by decide) (.slice (some ⟨g', 0, none⟩) (t.length + 1 : Nat) cap') (t.length + 1) _ rfl (hown2.alloc _) ⟨w2.heap.size, 0, none⟩ 1 1 [.int .u8 255] rfl rfl (World.news_of_block (cs := #[.int .u8 255]) (t := 5) (fr := (0, 0)) (heap_alloc_new w2 _)) (by simp [Value.oneCell']) (by omega) (by unfold maxLen; omega) (by omega) (by simp; omega) (w2.heap.size + 1) (by simp) ?_; intro g'' cap'' w3 hown3 hgrow3 hat3 hlt3))
        have hap3 : ∀ k, k < w.heap.size + 1 → some k ≠ (Value.slice (some ⟨g', 0, none⟩) (t.length + 1 : Nat) cap').ownBlock := fun k hk => own_apart hown2 k hk
        have B3 := Lib.hid (rbox_grown (B2.out.below (below_alloc _ _)) hgrow3 hap3 (by omega))
        have L3 : Below w.heap.size w w3 := (L2.alloc L2.size _).grown hgrow3 (by simp; omega) (fun k e => by rcases Nat.lt_or_ge k (w.heap.size + 1) with h | h; exact absurd e.symm (hap3 k h); omega)
        have l3 : w.heap.size + 1 ≤ w3.heap.size := size_grown hgrow3 l2
        have HO3 : Hid (w3.ownsRow (w.heap.size + 1) 5 1 (.slice (some ⟨g'', 0, none⟩) (t.length + 1 + 1 : Nat) cap'') (t ++ [c] ++ [255]).length (byteCells (t ++ [c] ++ [255]))) := Lib.hid (by
          rw [List.length_append, List.length_append, byteCells_snoc, byteCells_snoc]; exact hown3)
        clear hown3 hgrow3 hat3 hlt3 hap3 hown2 B2 L2 l2
        go_wp2_with fail
        go_roundw
        case rel => exact ⟨j + 1, t ++ [c] ++ [255], by omega, by simp; omega, HT', by go_num, HO3, B3, L3, l3⟩
        case measure => simp [intOf]; omega
      · have q0 : ((S[j].toNat : Int) == 0) = false := beq_eq_false_iff_ne.2 (fun e => hz (UInt8.toNat_inj.1 (by show S[j].toNat = 0; omega)))
        have HT' : Hid (t ++ [S[j]] = 80 :: CP.esc (S.data.toList.take (j + 1))) := Lib.hid (by rw [HT.out, HE.out, CP.esc_other _ _ hz]; simp [CP.esc])
        clear hz
        generalize hcc : S[j] = c at *
        go_wp2_with (first
          | (at_builtin; refine wpList_append_lies _ rfl _ _ 45 rfl (w.heap.size + 1) 5 i0 (.int .u8 0) 1 1 Tryd.underlying45 hi hz0 hz1 hz2 rfl (by decide) u7 t.length _ rfl (HO.out.alloc _) ⟨wr.heap.size, 0, none⟩ 1 1 [.int .u8 c.toNat] rfl rfl (World.news_of_block (cs := #[.int .u8 c.toNat]) (t := 5) (fr := (0, 0)) (heap_alloc_new wr _)) (by simp [Value.oneCell']) (by omega) (by unfold maxLen; omega) (by omega) (by simp; omega) (wr.heap.size + 1) (by simp) ?_; intro g' cap' w2 hown2 hgrow2 hat2 hlt2;
              have hap : ∀ k, k < w.heap.size + 1 → some k ≠ u7.ownBlock := fun k hk => own_apart HO.out k hk;
              have B2 := Lib.hid (rbox_grown (HBx.out.below (below_alloc _ _)) hgrow2 hap (by omega));
              have L2 : Below w.heap.size w w2 := (hb.alloc hb.size _).grown hgrow2 (by simp; omega) (fun k e => by rcases Nat.lt_or_ge k (w.heap.size + 1) with h | h; exact absurd e.symm (hap k h); omega);
              have l2 : w.heap.size + 1 ≤ w2.heap.size := size_grown hgrow2 hbs;
              obtain ⟨d0, d1, d2, d3⟩ := B2.out.cells;
              clear hgrow2 hat2))
        have HO2 : Hid (w2.ownsRow (w.heap.size + 1) 5 1 (.slice (some ⟨g', 0, none⟩) (t.length + 1 : Nat) cap') (t ++ [c]).length (byteCells (t ++ [c]))) := Lib.hid (by
          rw [List.length_append, byteCells_snoc]; exact hown2)
        clear hown2 hlt2 hap
        go_roundw
        case rel => exact ⟨j + 1, t ++ [c], by omega, by simp; omega, HT', by go_num, HO2, B2, L2, l2⟩
        case measure => simp [intOf]; omega
    · obtain rfl : j = S.size := by omega
      rw [show S.data.toList.take S.size = S.data.toList from List.take_of_length_le (by simp)] at HT
      have HT' : Hid (t ++ [0] ++ [1] = 80 :: (CP.esc S.data.toList ++ [0, 1])) := Lib.hid (by rw [HT.out]; simp)
      go_wp2_with (first
          | (at_builtin; refine wpList_append_lies _ rfl _ _ 45 rfl (w.heap.size + 1) 5 i0 (.int .u8 0) 1 1 Tryd.underlying45 hi hz0 hz1 hz2 rfl (by decide) u7 t.length _ rfl (HO.out.alloc _) ⟨wr.heap.size, 0, none⟩ 1 1 [.int .u8 0] rfl rfl (World.news_of_block (cs := #[.int .u8 0]) (t := 5) (fr := (0, 0)) (heap_alloc_new wr _)) (by simp [Value.oneCell']) (by omega) (by unfold maxLen; omega) (by omega) (by simp; omega) (wr.heap.size + 1) (by simp) ?_; intro g' cap' w2 hown2 hgrow2 hat2 hlt2;
              have hap : ∀ k, k < w.heap.size + 1 → some k ≠ u7.ownBlock := fun k hk => own_apart HO.out k hk;
              have L2 : Below w.heap.size w w2 := (hb.alloc hb.size _).grown hgrow2 (by simp; omega) (fun k e => by rcases Nat.lt_or_ge k (w.heap.size + 1) with h | h; exact absurd e.symm (hap k h); omega);
              have l2 : w.heap.size + 1 ≤ w2.heap.size := size_grown hgrow2 hbs;
              clear hgrow2 hat2)
          | (at_builtin; refine wpList_append_lies _ rfl _ _ 45 rfl (w.heap.size + 1) 5 i0 (.int .u8 0) 1 1 Tryd.underlying45 hi hz0 hz1 hz2 rfl (by decide) (.slice (some ⟨g', 0, none⟩) (t.length + 1 : Nat) cap') (t.length + 1) _ rfl (hown2.alloc _) ⟨w2.heap.size, 0, none⟩ 1 1 [.int .u8 1] rfl rfl (World.news_of_block (cs := #[.int .u8 1]) (t := 5) (fr := (0, 0)) (heap_alloc_new w2 _)) (by simp [Value.oneCell']) (by omega) (by unfold maxLen; omega) (by omega) (by simp; omega) (w2.heap.size + 1) (by simp) ?_; intro g'' cap'' w3 hown3 hgrow3 hat3 hlt3;
              have hcv := conv_any (l := t ++ [0] ++ [1]) (by rw [List.length_append, List.length_append, byteCells_snoc, byteCells_snoc]; exact hown3)))
      have hap3 : ∀ k, k < w.heap.size + 1 → some k ≠ (Value.slice (some ⟨g', 0, none⟩) (t.length + 1 : Nat) cap').ownBlock := fun k hk => own_apart hown2 k hk
      have L3 : Below w.heap.size w w3 := (L2.alloc L2.size _).grown hgrow3 (by simp; omega) (fun k e => by rcases Nat.lt_or_ge k (w.heap.size + 1) with h | h; exact absurd e.symm (hap3 k h); omega)
      go_ret2
      exact ⟨by rw [HRr.out, ← HT'.out]; simp, L3⟩

theorem dput_any (K I U : Int) (S : ByteArray) (w : World) (ho : CP.Ok ⟨K, I, U, S.data.toList⟩) (hS : S.size ≤ 1000) : Calls Tryd.prog 24 #[.agg #[.int .i64 K, .int .i64 I, .int .u64 U, .string S]] w fun e w' => e = .returned (putV K I U S) ∧ Below w.heap.size w w' := by
  unfold CP.Ok at ho
  simp only at ho
  unfold putV
  cases h : rt K I U S with
  | false => exact dput_none K I U S w (by omega) h
  | true =>
    have hr : CP.Right ⟨K, I, U, S.data.toList⟩ := of_decide_eq_true h
    have hk := hr.kind
    simp only at hk
    rcases (show K = 0 ∨ K = 1 ∨ K = 2 ∨ K = 3 ∨ K = 4 by omega) with rfl | rfl | rfl | rfl | rfl
    · exact dput_0 I U S w (by omega) h
    · exact dput_1 I U S w (by omega) (by unfold CP.Right at hr; simp only at hr; omega) h
    · exact dput_2 I U S w (by omega) (by omega) (by omega) h
    · exact dput_3 I U S w (by omega) (by omega) h
    · exact dput_4 I U S w (by omega) hS h
end Go.Proofs.YtdcijbclafpkmaaDoor
