/-
  Walks of the laws' own Ref, Cut and right on rows of columns.
-/
import Derived.Test.YtdcijbclafpkmaaDoorKJoin
import Derived.Test.YtdcijbclafpkmaaDoorCRef
namespace Go.Proofs.YtdcijbclafpkmaaDoor
open Go.RowKit
set_option linter.unusedVariables false
set_option linter.unusedSimpArgs false

/-- A row of four-celled elements of the call's own stays where what lies below stays. -/
theorem own4_below {base e n : Nat} {v : Value} {xs : List Value} {w w' : World} (h : w.ownsRow base e 4 v n xs) (k : Below w.heap.size w w') : w'.ownsRow base e 4 v n xs := by
  refine h.kept (row := none) ⟨k.os, k.tape, k.output, k.size, fun i hi _ => k.block i hi⟩ ?_
  cases hv : v.ownBlock with
  | none => exact .inl rfl
  | some x => exact .inr (by simp)
theorem own4_empty (w : World) (e : Nat) : (w.alloc (.cells #[] e)).ownsRow w.heap.size e 4 (.slice (some ⟨w.heap.size, 0, none⟩) 0 0) 0 [] :=
  ⟨by simp, .inr ⟨w.heap.size, 0, #[], rfl, Nat.le_refl _, heap_alloc_new w _, by omega, by unfold maxLen; omega, by simp, by simp⟩⟩
theorem own4_apart {w w' : World} {base e n q : Nat} {v : Value} {xs : List Value} (h : w.ownsRow base e 4 v n xs) (hg : w.grownBy w' v.ownBlock) (hb : q ≤ base) (hq : q ≤ w.heap.size) : Below q w w' :=
  (Below.refl q w).grown hg hq (fun k hk => by
    rcases h.2 with ⟨rfl, _⟩ | ⟨g, cap, cur, rfl, hg', _⟩
    · simp [Value.ownBlock] at hk
    · simp [Value.ownBlock] at hk; omega)
theorem own4_form {w : World} {base e n : Nat} {v : Value} {xs : List Value} (h : w.ownsRow base e 4 v n xs) (hn : 0 < n) : ∃ g cap, v = .slice (some ⟨g, 0, none⟩) n cap := Joins.ownsRow_form h hn
theorem four_one (K I U : Int) (S : ByteArray) : ∀ u ∈ [Value.int .i64 K, .int .i64 I, .int .u64 U, .string S], u.oneCell' = true := by simp [Value.oneCell']
theorem take_snoc4 (l : List QC) (k : Nat) (c : QC) (hc : l[k]? = some c) : fours (l.take (k + 1)) = fours (l.take k) ++ c.four := by
  have h : l.take (k + 1) = l.take k ++ [c] := by rw [List.take_add_one, hc]; rfl
  rw [h, fours_append, fours_one]

theorem Tryd.infoRCol : (Tryd.prog.info? 55).map (fun i => (i.zero, i.size, i.bytes)) = some (some (.agg #[.int .i64 0, .int .i64 0, .int .u64 0, .string ⟨#[]⟩]), 4, 40) := by kernel_rfl
theorem Tryd.infoQCol : (Tryd.prog.info? 51).map (fun i => (i.zero, i.size, i.bytes)) = some (some (.agg #[.int .i64 0, .int .i64 0, .int .u64 0, .string ⟨#[]⟩]), 4, 40) := by kernel_rfl

set_option maxHeartbeats 2000000 in
set_option maxRecDepth 100000 in
theorem ref4_any (A : Option Addr) (l : List QC) (ca : Nat) (w : World) (ha : Lies w w.heap.size A l) (hl : l.length ≤ 1000) :
    Calls Tryd.prog 12 #[.slice A l.length ca] w fun e w' => ∃ G cap, e = .returned (.slice G l.length cap) ∧ w'.ownsRow w.heap.size 55 4 (.slice G l.length cap) l.length (fours l) ∧ Below w.heap.size w w' := by
  obtain ⟨i0, hi, hz0, hz1, hz2⟩ := info_parts Tryd.infoRCol
  have HA := Lib.hid ha
  obtain ⟨n, hn⟩ : ∃ n, n = l.length := ⟨_, rfl⟩
  have HN := Lib.hid hn
  rw [← hn]
  rw [← hn] at hl
  clear ha hn
  go_enter Tryd.func12, Tryd.ntmps12
  go_wp2_with fail
  go_loopw [3, 4] (fun ov iv wr => ∃ (k g cap : Nat), k ≤ n ∧ iv = .int .i64 k ∧ ov = .slice (some ⟨g, 0, none⟩) k cap ∧ Hid (wr.ownsRow w.heap.size 55 4 (.slice (some ⟨g, 0, none⟩) k cap) k (fours (l.take k))) ∧ Below w.heap.size w wr) (fun _ iv _ => n - (intOf iv).toNat)
  case atStart =>
    exact ⟨0, w.heap.size, 0, by omega, rfl, rfl, Lib.hid (own4_empty w _), below_alloc _ _⟩
  case round =>
    obtain ⟨k, g, cap, hk, rfl, rfl, HO, hbw⟩ := hrel
    by_cases hlt : k < n
    · obtain ⟨⟨K, I, U, S⟩, hc⟩ : ∃ c, l[k]? = some c := ⟨_, List.getElem?_eq_getElem (by have := HN.out; omega)⟩
      obtain ⟨a, rfl, hab, x0, x1, x2, x3⟩ := (HA.out.below hbw).load hc
      have HC := Lib.hid (take_snoc4 l k _ hc)
      clear hc hab
      have hbs := hbw.size
      go_wp2_with fail
      refine (ref_any K I U S wr).mono ?_
      rintro e w2 ⟨rfl, hb2⟩
      have HO2 := Lib.hid (own4_below HO.out hb2)
      have hbs2 := hb2.size
      go_wp2_with (at_builtin; refine wpList_append_own _ rfl _ _ 30 rfl w.heap.size 55 i0 (.agg #[.int .i64 0, .int .i64 0, .int .u64 0, .string ⟨#[]⟩]) 4 40 Tryd.underlying30 hi hz0 hz1 hz2 rfl (by decide) _ k _ rfl (HO2.out.alloc _) ⟨w2.heap.size, 0, none⟩ 1 1 [.int .i64 K, .int .i64 I, .int .u64 U, .string S] rfl rfl (World.news_of_block (cs := #[.int .i64 K, .int .i64 I, .int .u64 U, .string S]) (t := 55) (fr := (0, 0)) (heap_alloc_new w2 _)) (four_one K I U S) (by unfold maxLen; omega) (by omega) (by simp; omega) ?_; intro v' w1 hown' hgrow hnil)
      obtain ⟨g', cap', rfl⟩ := own4_form hown' (by omega)
      have hb3 : Below w.heap.size w w1 := ((hbw.trans' hb2).trans' (below_alloc w2 (.cells #[.int .i64 K, .int .i64 I, .int .u64 U, .string S] 55))).trans (own4_apart (HO2.out.alloc _) hgrow (Nat.le_refl _) (by simp; omega))
      go_wp2_with fail
      go_roundw
      case rel => exact ⟨k + 1, g', cap', by omega, by simp, rfl, Lib.hid (by rw [HC.out]; exact hown'), hb3⟩
      case measure => simp [intOf]; omega
    · have hkn : k = n := by omega
      subst hkn
      have HL : Hid (l.take k = l) := Lib.hid (List.take_of_length_le (by have := HN.out; omega))
      rw [HL.out] at HO
      go_wp2_with fail
      go_ret
      exact ⟨_, _, rfl, HO.out, hbw⟩

/-- What the laws' Cut keeps of a column. -/
def cutQ (c : QC) : QC := ⟨c.k, c.i, c.u, c.s.extract 0 (min c.s.size 60)⟩
theorem cutQ_any (K I U : Int) (S : ByteArray) (hS : S.size ≤ maxLen) (w : World) : Calls Tryd.prog 22 #[.agg #[.int .i64 K, .int .i64 I, .int .u64 U, .string S]] w fun e w' => e = .returned (.agg #[.int .i64 K, .int .i64 I, .int .u64 U, .string (S.extract 0 (min S.size 60))]) ∧ Below w.heap.size w w' := by
  unfold maxLen at hS
  obtain ⟨m, hm, hm1, hms, hm2, hts⟩ := cut_min S 60 (by omega)
  obtain rfl : m = min S.size 60 := by omega
  generalize min S.size 60 = m at *
  clear hts
  go_enter Tryd.func22, Tryd.ntmps22
  go_wp2_with fail
  refine bodyPost_ret (v := .agg #[.int .i64 K, .int .i64 I, .int .u64 U, .string (S.extract 0 m)]) (by simp [results, Tryd.results22, go_sem]) rfl ⟨rfl, ?_⟩
  first | exact below_alloc2 _ _ _ | exact ((below_alloc2 _ _ _).setCell (by simp) _)
def cut8 (l : List QC) : List QC := (l.take 8).map cutQ
theorem cut8_length (l : List QC) : (cut8 l).length = min 8 l.length := by simp [cut8]
/-- Numbers of their kinds, and texts of at most 60 bytes. -/
def Small (l : List QC) : Prop := ∀ c ∈ l, CP.Ok c.col ∧ c.s.size ≤ 60
theorem cut8_small (l : List QC) (h : ∀ c ∈ l, CP.Ok c.col) : Small (cut8 l) := fun c hc => by
  obtain ⟨d, hd, rfl⟩ := List.mem_map.1 hc
  refine ⟨h d (List.mem_of_mem_take hd), ?_⟩
  show (d.s.extract 0 (min d.s.size 60)).size ≤ 60
  simp
  omega
theorem Small.ok {l : List QC} (h : Small l) : QOk l := fun c hc => ⟨(h c hc).1, by have := (h c hc).2; omega⟩
theorem cut8_succ (l : List QC) (k : Nat) (c : QC) (hc : l[k]? = some c) : fours ((l.take (k + 1)).map cutQ) = fours ((l.take k).map cutQ) ++ (cutQ c).four := by
  have h : l.take (k + 1) = l.take k ++ [c] := by rw [List.take_add_one, hc]; rfl
  rw [h, List.map_append, fours_append, List.map_cons, List.map_nil, fours_one]

set_option maxHeartbeats 2000000 in
set_option maxRecDepth 100000 in
theorem cut4_any (A : Option Addr) (l : List QC) (ca : Nat) (w : World) (ha : Lies w w.heap.size A l) (hs : ∀ c ∈ l, c.s.size ≤ maxLen) (hl : l.length ≤ maxLen) :
    Calls Tryd.prog 9 #[.slice A l.length ca] w fun e w' => ∃ G cap, e = .returned (.slice G (cut8 l).length cap) ∧ w'.ownsRow w.heap.size 51 4 (.slice G (cut8 l).length cap) (cut8 l).length (fours (cut8 l)) ∧ Below w.heap.size w w' := by
  unfold maxLen at hl
  obtain ⟨i0, hi, hz0, hz1, hz2⟩ := info_parts Tryd.infoQCol
  have HA := Lib.hid ha
  have HS := Lib.hid hs
  obtain ⟨n, hn⟩ : ∃ n, n = l.length := ⟨_, rfl⟩
  have HN := Lib.hid hn
  rw [← hn]
  rw [← hn] at hl
  clear ha hn hs
  go_enter Tryd.func9, Tryd.ntmps9
  go_wp2_with fail
  go_loopw [3, 4] (fun ov iv wr => ∃ (k g cap : Nat), k ≤ n ∧ k ≤ 8 ∧ iv = .int .i64 k ∧ ov = .slice (some ⟨g, 0, none⟩) k cap ∧ Hid (wr.ownsRow w.heap.size 51 4 (.slice (some ⟨g, 0, none⟩) k cap) k (fours ((l.take k).map cutQ))) ∧ Below w.heap.size w wr) (fun _ iv _ => n - (intOf iv).toNat)
  case atStart =>
    exact ⟨0, w.heap.size, 0, by omega, by omega, rfl, rfl, Lib.hid (own4_empty w _), below_alloc _ _⟩
  case round =>
    obtain ⟨k, g, cap, hk, hk8, rfl, rfl, HO, hbw⟩ := hrel
    by_cases hlt : k < n
    · by_cases h8 : k < 8
      · obtain ⟨⟨K, I, U, S⟩, hc⟩ : ∃ c, l[k]? = some c := ⟨_, List.getElem?_eq_getElem (by have := HN.out; omega)⟩
        obtain ⟨a, rfl, hab, x0, x1, x2, x3⟩ := (HA.out.below hbw).load hc
        have HC := Lib.hid (cut8_succ l k _ hc)
        have HU := Lib.hid (cutQ_any K I U S (HS.out _ (List.mem_of_getElem? hc)))
        have HQ : Hid ((cutQ ⟨K, I, U, S⟩).four = [.int .i64 K, .int .i64 I, .int .u64 U, .string (S.extract 0 (min S.size 60))]) := Lib.hid rfl
        generalize S.extract 0 (min S.size 60) = T at *
        clear hc hab
        have hbs := hbw.size
        go_wp2_with fail
        refine (HU.out wr).mono ?_
        rintro e w2 ⟨rfl, hb2⟩
        have HO2 := Lib.hid (own4_below HO.out hb2)
        have hbs2 := hb2.size
        go_wp2_with (at_builtin; refine wpList_append_own _ rfl _ _ 22 rfl w.heap.size 51 i0 (.agg #[.int .i64 0, .int .i64 0, .int .u64 0, .string ⟨#[]⟩]) 4 40 Tryd.underlying22 hi hz0 hz1 hz2 rfl (by decide) _ k _ rfl (HO2.out.alloc _) ⟨w2.heap.size, 0, none⟩ 1 1 [.int .i64 K, .int .i64 I, .int .u64 U, .string T] rfl rfl (World.news_of_block (cs := #[.int .i64 K, .int .i64 I, .int .u64 U, .string T]) (t := 51) (fr := (0, 0)) (heap_alloc_new w2 _)) (four_one K I U T) (by unfold maxLen; omega) (by omega) (by simp; omega) ?_; intro v' w1 hown' hgrow hnil)
        obtain ⟨g', cap', rfl⟩ := own4_form hown' (by omega)
        have hb3 : Below w.heap.size w w1 := ((hbw.trans' hb2).trans' (below_alloc w2 (.cells #[.int .i64 K, .int .i64 I, .int .u64 U, .string T] 51))).trans (own4_apart (HO2.out.alloc _) hgrow (Nat.le_refl _) (by simp; omega))
        go_wp2_with fail
        go_roundw
        case rel => exact ⟨k + 1, g', cap', by omega, by omega, by simp, rfl, Lib.hid (by rw [HC.out, HQ.out]; exact hown'), hb3⟩
        case measure => simp [intOf]; omega
      · have HL : Hid ((l.take k).map cutQ = cut8 l ∧ k = (cut8 l).length) := Lib.hid (by
          obtain rfl : k = 8 := by omega
          refine ⟨rfl, ?_⟩
          rw [cut8_length, ← HN.out]
          omega)
        rw [HL.out.1] at HO
        go_wp2_with fail
        go_ret
        exact ⟨some ⟨g, 0, none⟩, cap, by rw [← HL.out.2]; rfl, by rw [← HL.out.2]; exact HO.out, hbw⟩
    · have hkn : k = n := by omega
      subst hkn
      have HL : Hid ((l.take k).map cutQ = cut8 l ∧ k = (cut8 l).length) := Lib.hid (by
        refine ⟨?_, by rw [cut8_length, ← HN.out]; omega⟩
        rw [cut8, List.take_of_length_le (by have := HN.out; omega), List.take_of_length_le (by have := HN.out; omega)])
      rw [HL.out.1] at HO
      go_wp2_with fail
      go_ret
      exact ⟨some ⟨g, 0, none⟩, cap, by rw [← HL.out.2]; rfl, by rw [← HL.out.2]; exact HO.out, hbw⟩

set_option maxHeartbeats 2000000 in
set_option maxRecDepth 100000 in
theorem right4_any (A : Option Addr) (l : List QC) (ca : Nat) (w : World) (ha : Lies w w.heap.size A l) (ho : QOk l) (hl : l.length ≤ 1000) :
    Calls Tryd.prog 17 #[.slice A l.length ca] w fun e w' => e = .returned (.bool (allRt l)) ∧ Below w.heap.size w w' := by
  have HA := Lib.hid ha
  have HO := Lib.hid ho
  obtain ⟨n, hn⟩ : ∃ n, n = l.length := ⟨_, rfl⟩
  have HN := Lib.hid hn
  rw [← hn]
  rw [← hn] at hl
  clear ha ho hn
  obtain ⟨r, HR⟩ : ∃ r, Hid (r = allRt l) := ⟨_, Lib.hid rfl⟩
  rw [← HR.out]
  go_enter Tryd.func17, Tryd.ntmps17
  go_wp2_with fail
  go_loopw [3] (fun iv wr => ∃ (k : Nat), k ≤ n ∧ iv = .int .i64 k ∧ Hid (allRt (l.take k) = true) ∧ Below w.heap.size w wr) (fun iv _ => n - (intOf iv).toNat)
  case atStart =>
    exact ⟨0, by omega, rfl, Lib.hid rfl, Below.refl _ _⟩
  case round =>
    obtain ⟨k, hk, rfl, HK, hbw⟩ := hrel
    by_cases hlt : k < n
    · obtain ⟨⟨K, I, U, S⟩, hc⟩ : ∃ c, l[k]? = some c := ⟨_, List.getElem?_eq_getElem (by have := HN.out; omega)⟩
      obtain ⟨a, rfl, hab, x0, x1, x2, x3⟩ := (HA.out.below hbw).load hc
      have hu : 0 ≤ U := (HO.out.at_ hc).1.2.2.1
      have HC := Lib.hid hc
      clear hc hab
      go_wp2_with fail
      refine (ref_any K I U S wr).mono ?_
      rintro e w2 ⟨rfl, hb2⟩
      go_wp2_with fail
      refine (rright_any K I U S w2 hu).mono ?_
      rintro e w3 ⟨rfl, hb3⟩
      have hb4 := (hbw.trans' hb2).trans' hb3
      cases hr : rt K I U S with
      | false =>
        have HV : Hid (r = false) := Lib.hid (by rw [HR.out]; exact not_all HC.out hr)
        go_wp2_with fail
        go_ret
        exact ⟨by rw [HV.out]; rfl, hb4⟩
      | true =>
        go_wp2_with fail
        go_roundw
        case rel => exact ⟨k + 1, by omega, by simp, Lib.hid (by rw [allRt_succ l k _ HC.out, HK.out]; exact hr), hb4⟩
        case measure => simp [intOf]; omega
    · have HL : Hid (r = true) := Lib.hid (by rw [HR.out, ← HK.out, List.take_of_length_le (by have := HN.out; omega)])
      go_wp2_with fail
      go_ret
      exact ⟨by rw [HL.out]; rfl, hbw⟩
end Go.Proofs.YtdcijbclafpkmaaDoor
