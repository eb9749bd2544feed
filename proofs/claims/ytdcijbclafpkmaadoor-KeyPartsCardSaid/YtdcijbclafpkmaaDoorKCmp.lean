/-
  Walks of slices.CompareFunc at columns, key.Compare.
-/
import Derived.Test.YtdcijbclafpkmaaDoorKRow
import Derived.Test.YtdcijbclafpkmaaDoorCCmp
namespace Go.Proofs.YtdcijbclafpkmaaDoor
open Go.RowKit
set_option linter.unusedVariables false
set_option linter.unusedSimpArgs false

/-- Lists by their first two that are not the same. -/
theorem kcmp_step (a b : List CP.Col) (k : Nat) (c d : CP.Col) (hc : a[k]? = some c) (hd : b[k]? = some d) : KP.cmp (a.drop k) (b.drop k) = if CP.cmp c d ≠ 0 then CP.cmp c d else KP.cmp (a.drop (k + 1)) (b.drop (k + 1)) := by
  have h1 : k < a.length := (List.getElem?_eq_some_iff.1 hc).1
  have h2 : k < b.length := (List.getElem?_eq_some_iff.1 hd).1
  rw [List.drop_eq_getElem_cons h1, List.drop_eq_getElem_cons h2, KP.cmp]
  rw [List.getElem?_eq_getElem h1] at hc
  rw [List.getElem?_eq_getElem h2] at hd
  obtain rfl := Option.some.inj hc
  obtain rfl := Option.some.inj hd
  rfl
theorem cols_get {l : List QC} {k : Nat} {c : QC} (h : l[k]? = some c) : (cols l)[k]? = some c.col := by simp [cols, h]

set_option maxHeartbeats 2000000 in
set_option maxRecDepth 100000 in
theorem cmpFunc_any (A B : Option Addr) (l m : List QC) (ca cb : Nat) (w : World) (ha : Lies w w.heap.size A l) (hb : Lies w w.heap.size B m) (hl : l.length ≤ 1000) (hm : m.length ≤ 1000) :
    Calls Tryd.prog 29 #[.slice A l.length ca, .slice B m.length cb, .func (.func 30) #[] #[]] w fun e w' => e = .returned (.int .i64 (KP.cmp (cols l) (cols m))) ∧ Below w.heap.size w w' := by
  have HA := Lib.hid ha
  have HB := Lib.hid hb
  obtain ⟨r, HR⟩ : ∃ r, Hid (r = KP.cmp (cols l) (cols m)) := ⟨_, Lib.hid rfl⟩
  rw [← HR.out]
  obtain ⟨n, hn⟩ : ∃ n, n = l.length := ⟨_, rfl⟩
  obtain ⟨q, hq⟩ : ∃ q, q = m.length := ⟨_, rfl⟩
  have HN := Lib.hid hn
  have HQ := Lib.hid hq
  rw [← hn, ← hq]
  rw [← hn] at hl
  rw [← hq] at hm
  clear ha hb hn hq
  go_enter Tryd.func29, Tryd.ntmps29
  go_wp2_with fail
  go_loopw [13] (fun iv wr => ∃ k : Nat, k ≤ n ∧ k ≤ q ∧ iv = .int .i64 k ∧ Hid (r = KP.cmp ((cols l).drop k) ((cols m).drop k)) ∧ Below w.heap.size w wr) (fun iv _ => n - (intOf iv).toNat)
  case atStart =>
    exact ⟨0, by omega, by omega, rfl, Lib.hid HR.out, Below.refl _ _⟩
  case round =>
    obtain ⟨k, hk, hkq, rfl, HK, hbw⟩ := hrel
    by_cases hlt : k < n
    · obtain ⟨⟨K, I, U, S⟩, hc⟩ : ∃ c, l[k]? = some c := ⟨_, List.getElem?_eq_getElem (by have := HN.out; omega)⟩
      obtain ⟨a, rfl, hab, x0, x1, x2, x3⟩ := (HA.out.below hbw).load hc
      by_cases hlq : k < q
      · obtain ⟨⟨K', I', U', S'⟩, hd⟩ : ∃ d, m[k]? = some d := ⟨_, List.getElem?_eq_getElem (by have := HQ.out; omega)⟩
        obtain ⟨b, rfl, hbb, y0, y1, y2, y3⟩ := (HB.out.below (hbw.trans' (below_alloc wr (.cells #[.int .i64 K, .int .i64 I, .int .u64 U, .string S] 51)))).load hd
        have HS := Lib.hid (kcmp_step (cols l) (cols m) k _ _ (cols_get hc) (cols_get hd))
        clear hc hd hab hbb
        go_wp2_with fail
        refine (compare_any K I U S K' I' U' S' _).mono ?_
        rintro e w2 ⟨rfl, hb2⟩
        have hb3 : Below w.heap.size w w2 := (hbw.trans' (below_alloc2 _ _ _)).trans' hb2
        generalize hz : CP.cmp (⟨K, I, U, S.data.toList⟩ : CP.Col) ⟨K', I', U', S'.data.toList⟩ = z at *
        have HZ : Hid (KP.cmp ((cols l).drop k) ((cols m).drop k) = if z ≠ 0 then z else KP.cmp ((cols l).drop (k + 1)) ((cols m).drop (k + 1))) := Lib.hid (by rw [← hz]; exact HS.out)
        clear hz HS
        by_cases hz0 : z = 0
        · subst hz0
          go_wp2_with fail
          go_roundw
          case rel => exact ⟨k + 1, by omega, by omega, by simp, Lib.hid (by rw [HK.out, HZ.out, if_neg (by simp)]), hb3⟩
          case measure => simp [intOf]; omega
        · go_wp2_with fail
          go_ret
          exact ⟨by rw [HK.out, HZ.out, if_pos hz0]; rfl, hb3⟩
      · have HS : Hid (r = 1) := Lib.hid (by
          have h1 : k < (cols l).length := by rw [cols_length, ← HN.out]; exact hlt
          have h2 : (cols m).drop k = [] := List.drop_eq_nil_of_le (by rw [cols_length, ← HQ.out]; omega)
          rw [HK.out, h2, List.drop_eq_getElem_cons h1]
          rfl)
        go_wp2_with fail
        go_ret
        exact ⟨by rw [HS.out]; rfl, hbw.trans' (below_alloc _ _)⟩
    · have hkn : k = n := by omega
      subst hkn
      clear hlt hk
      by_cases hlq : k < q
      · have HS : Hid (r = -1) := Lib.hid (by
          have h1 : k < (cols m).length := by rw [cols_length, ← HQ.out]; exact hlq
          have h2 : (cols l).drop k = [] := List.drop_eq_nil_of_le (by rw [cols_length, ← HN.out]; omega)
          rw [HK.out, h2, List.drop_eq_getElem_cons h1]
          rfl)
        go_wp2_with fail
        go_ret
        exact ⟨by rw [HS.out]; rfl, hbw⟩
      · have HS : Hid (r = 0) := Lib.hid (by
          have h1 : (cols l).drop k = [] := List.drop_eq_nil_of_le (by rw [cols_length, ← HN.out]; omega)
          have h2 : (cols m).drop k = [] := List.drop_eq_nil_of_le (by rw [cols_length, ← HQ.out]; omega)
          rw [HK.out, h1, h2]
          rfl)
        go_wp2_with fail
        go_ret
        exact ⟨by rw [HS.out]; rfl, hbw⟩

theorem keyCmp_any (A B : Option Addr) (l m : List QC) (ca cb : Nat) (w : World) (ha : Lies w w.heap.size A l) (hb : Lies w w.heap.size B m) (hl : l.length ≤ 1000) (hm : m.length ≤ 1000) :
    Calls Tryd.prog 18 #[.slice A l.length ca, .slice B m.length cb] w fun e w' => e = .returned (.int .i64 (KP.cmp (cols l) (cols m))) ∧ Below w.heap.size w w' := by
  have HC := Lib.hid (cmpFunc_any A B l m ca cb w ha hb hl hm)
  clear ha hb
  generalize KP.cmp (cols l) (cols m) = r at *
  go_enter Tryd.func18, Tryd.ntmps18
  go_wp2_with fail
  refine HC.out.mono ?_
  rintro e w1 ⟨rfl, hb1⟩
  go_wp2_with fail
  go_ret
  exact ⟨rfl, hb1⟩
end Go.Proofs.YtdcijbclafpkmaaDoor
