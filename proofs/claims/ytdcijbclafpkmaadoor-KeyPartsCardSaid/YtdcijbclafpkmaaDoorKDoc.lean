/-
  Walks of the document's own Put, Compare and Same of rows of columns.
-/
import Derived.Test.YtdcijbclafpkmaaDoorKList
import Derived.Test.YtdcijbclafpkmaaDoorKCmp
import Derived.Test.YtdcijbclafpkmaaDoorCDocPut
namespace Go.Proofs.YtdcijbclafpkmaaDoor
open Go.RowKit
set_option linter.unusedVariables false
set_option linter.unusedSimpArgs false

set_option maxHeartbeats 2000000 in
set_option maxRecDepth 100000 in
theorem dkeyPut_any (A : Option Addr) (l : List QC) (ca : Nat) (w : World) (ha : Lies w w.heap.size A l) (ho : QOk l) (hl : l.length ≤ 1000) :
    Calls Tryd.prog 11 #[.slice A l.length ca] w fun e w' => e = .returned (keyV l) ∧ Below w.heap.size w w' := by
  have HA := Lib.hid ha
  have HO := Lib.hid ho
  obtain ⟨r, HR⟩ : ∃ r, Hid (r = keyV l) := ⟨_, Lib.hid rfl⟩
  rw [← HR.out]
  obtain ⟨n, hn⟩ : ∃ n, n = l.length := ⟨_, rfl⟩
  have HN := Lib.hid hn
  rw [← hn]
  rw [← hn] at hl
  clear ha ho hn
  go_enter Tryd.func11, Tryd.ntmps11
  go_wp2_with fail
  go_loopw [4, 5] (fun sv iv wr => ∃ (k : Nat) (X : ByteArray), k ≤ n ∧ iv = .int .i64 k ∧ sv = .string X ∧ Hid (allRt (l.take k) = true) ∧ Hid (X.data.toList = KP.body (cols (l.take k))) ∧ X.size ≤ 2010 * k ∧ Below w.heap.size w wr) (fun _ iv _ => n - (intOf iv).toNat)
  case atStart =>
    exact ⟨0, ⟨#[]⟩, by omega, rfl, rfl, Lib.hid rfl, Lib.hid rfl, by decide, Below.refl _ _⟩
  case round =>
    obtain ⟨k, X, hk, rfl, rfl, HRT, HX, hxs, hbw⟩ := hrel
    by_cases hlt : k < n
    · obtain ⟨⟨K, I, U, S⟩, hc⟩ : ∃ c, l[k]? = some c := ⟨_, List.getElem?_eq_getElem (by have := HN.out; omega)⟩
      obtain ⟨a, rfl, hab, x0, x1, x2, x3⟩ := (HA.out.below hbw).load hc
      have HC := Lib.hid hc
      obtain ⟨hok, hsz⟩ := HO.out.at_ hc
      have HP := Lib.hid (fun W => dput_any K I U S W hok hsz)
      have HPL : Hid (rt K I U S = true → (CP.put ⟨K, I, U, S.data.toList⟩).length ≤ 2010) := Lib.hid (fun h => by
        have h1 : (CP.put ⟨K, I, U, S.data.toList⟩).length ≤ 10 + 2 * S.data.toList.length := CP.put_le hok ((rt_iff ⟨K, I, U, S⟩).1 h)
        have h2 : S.data.toList.length = S.size := by simp
        have h3 : S.size ≤ 1000 := hsz
        rw [h2] at h1
        omega)
      clear hc hab hok hsz
      go_wp2_with fail
      refine (HP.out _).mono ?_
      rintro e w2 ⟨rfl, hb2⟩
      have hb3 := hbw.trans' hb2
      cases hr : rt K I U S with
      | false =>
        have HV : Hid (r = .tuple #[.string ⟨#[]⟩, .int .i64 3]) := Lib.hid (by rw [HR.out, keyV, if_neg (by rw [not_all HC.out hr]; decide)])
        unfold putV
        rw [if_neg (by rw [hr]; decide)]
        go_wp2_with fail
        go_ret2
        exact ⟨by rw [HV.out]; rfl, hb3⟩
      | true =>
        unfold putV
        rw [if_pos hr]
        obtain ⟨Y, hY⟩ : ∃ Y : ByteArray, Y = ⟨(CP.put ⟨K, I, U, S.data.toList⟩).toArray⟩ := ⟨_, rfl⟩
        have HY := Lib.hid hY
        have hys : Y.size ≤ 2010 := by rw [hY]; show (CP.put ⟨K, I, U, S.data.toList⟩).toArray.size ≤ 2010; have := HPL.out hr; simpa using this
        have hno : ¬ 9223372036854775807 < X.size + Y.size := by omega
        rw [← hY]
        clear hY
        have HRT2 : Hid (allRt (l.take (k + 1)) = true) := Lib.hid (by rw [allRt_succ l k _ HC.out, HRT.out]; exact hr)
        have HX2 : Hid ((X ++ Y).data.toList = KP.body (cols (l.take (k + 1)))) := Lib.hid (by
          rw [body_succ l k _ HC.out, ← HX.out, HY.out]
          simp [QC.col])
        go_wp2_with fail
        go_roundw
        case rel => exact ⟨k + 1, X ++ Y, by omega, by simp, rfl, HRT2, HX2, by simp; omega, hb3⟩
        case measure => simp [intOf]; omega
    · have hkn : k = n := by omega
      subst hkn
      have hll : l.take k = l := List.take_of_length_le (by have := HN.out; omega)
      rw [hll] at HRT HX
      have hone : (⟨#[1]⟩ : ByteArray).size = 1 := rfl
      have hno : ¬ 9223372036854775807 < X.size + (⟨#[1]⟩ : ByteArray).size := by rw [hone]; omega
      have HV : Hid (r = .tuple #[.string (X ++ ⟨#[1]⟩), .int .i64 0]) := Lib.hid (by
        rw [HR.out, keyV, if_pos HRT.out]
        congr 3
        exact congrArg Value.string (bytes_of_list (by simp [KP.key, HX.out])))
      clear hll
      go_wp2_with fail
      go_ret2
      exact ⟨by rw [HV.out]; rfl, hbw⟩

/-- The document's order is the order, of columns that may be. -/
theorem rcmp_at {a b : List CP.Col} (ha : KP.All a) (hb : KP.All b) {k : Nat} {c d : CP.Col} (hc : a[k]? = some c) (hd : b[k]? = some d) : CP.rcmp c d = CP.cmp c d :=
  CP.rcmp_eq (ha c (List.mem_of_getElem? hc)).2 (hb d (List.mem_of_getElem? hd)).2

set_option maxHeartbeats 2000000 in
set_option maxRecDepth 100000 in
theorem dkeyCmp_any (A B : Option Addr) (l m : List QC) (ca cb : Nat) (w : World) (ha : Lies w w.heap.size A l) (hb : Lies w w.heap.size B m) (hl : l.length ≤ 1000) (hm : m.length ≤ 1000) (hla : KP.All (cols l)) (hma : KP.All (cols m)) :
    Calls Tryd.prog 19 #[.slice A l.length ca, .slice B m.length cb] w fun e w' => e = .returned (.int .i64 (KP.cmp (cols l) (cols m))) ∧ Below w.heap.size w w' := by
  have HA := Lib.hid ha
  have HB := Lib.hid hb
  have HLA := Lib.hid hla
  have HMA := Lib.hid hma
  obtain ⟨r, HR⟩ : ∃ r, Hid (r = KP.cmp (cols l) (cols m)) := ⟨_, Lib.hid rfl⟩
  rw [← HR.out]
  obtain ⟨n, hn⟩ : ∃ n, n = l.length := ⟨_, rfl⟩
  obtain ⟨q, hq⟩ : ∃ q, q = m.length := ⟨_, rfl⟩
  have HN := Lib.hid hn
  have HQ := Lib.hid hq
  rw [← hn, ← hq]
  rw [← hn] at hl
  rw [← hq] at hm
  clear ha hb hn hq hla hma
  go_enter Tryd.func19, Tryd.ntmps19
  go_wp2_with fail
  go_loopw [5] (fun iv wr => ∃ k : Nat, k ≤ n ∧ k ≤ q ∧ iv = .int .i64 k ∧ Hid (r = KP.cmp ((cols l).drop k) ((cols m).drop k)) ∧ Below w.heap.size w wr) (fun iv _ => n - (intOf iv).toNat)
  case atStart =>
    exact ⟨0, by omega, by omega, rfl, Lib.hid HR.out, Below.refl _ _⟩
  case round =>
    obtain ⟨k, hk, hkq, rfl, HK, hbw⟩ := hrel
    by_cases hlt : k < n
    · by_cases hlq : k < q
      · obtain ⟨⟨K, I, U, S⟩, hc⟩ : ∃ c, l[k]? = some c := ⟨_, List.getElem?_eq_getElem (by have := HN.out; omega)⟩
        obtain ⟨a, rfl, hab, x0, x1, x2, x3⟩ := (HA.out.below hbw).load hc
        obtain ⟨⟨K', I', U', S'⟩, hd⟩ : ∃ d, m[k]? = some d := ⟨_, List.getElem?_eq_getElem (by have := HQ.out; omega)⟩
        obtain ⟨b, rfl, hbb, y0, y1, y2, y3⟩ := (HB.out.below hbw).load hd
        have HS := Lib.hid (kcmp_step (cols l) (cols m) k _ _ (cols_get hc) (cols_get hd))
        have HE := Lib.hid (rcmp_at HLA.out HMA.out (cols_get hc) (cols_get hd))
        have HS0 : Hid (∀ W, Below w.heap.size w W → (W.cell? (a.add (k * 4)) = some (.int .i64 K) ∧ W.cell? ⟨(a.add (k * 4)).block, (a.add (k * 4)).off + 1, none⟩ = some (.int .i64 I) ∧ W.cell? ⟨(a.add (k * 4)).block, (a.add (k * 4)).off + 2, none⟩ = some (.int .u64 U) ∧ W.cell? ⟨(a.add (k * 4)).block, (a.add (k * 4)).off + 3, none⟩ = some (.string S)) ∧
            (W.cell? (b.add (k * 4)) = some (.int .i64 K') ∧ W.cell? ⟨(b.add (k * 4)).block, (b.add (k * 4)).off + 1, none⟩ = some (.int .i64 I') ∧ W.cell? ⟨(b.add (k * 4)).block, (b.add (k * 4)).off + 2, none⟩ = some (.int .u64 U') ∧ W.cell? ⟨(b.add (k * 4)).block, (b.add (k * 4)).off + 3, none⟩ = some (.string S'))) := Lib.hid (fun W hW => by
          obtain ⟨a', e, _, hx⟩ := (HA.out.below hW).load hc
          obtain rfl := Option.some.inj e
          obtain ⟨b', e', _, hy⟩ := (HB.out.below hW).load hd
          obtain rfl := Option.some.inj e'
          exact ⟨hx, hy⟩)
        have hbd : Below w.heap.size w wr.drew := ⟨hbw.os, hbw.tape, hbw.output, hbw.size, hbw.block⟩
        have HB0 := Lib.hid hbd
        clear hc hd hab hbb x0 x1 x2 x3 y0 y1 y2 y3
        have HKeep : Hid (∀ W W' : World, Below W.heap.size W W' → (Hid (Below w.heap.size w W) ∧ (W.cell? (a.add (k * 4)) = some (.int .i64 K) ∧ W.cell? ⟨(a.add (k * 4)).block, (a.add (k * 4)).off + 1, none⟩ = some (.int .i64 I) ∧ W.cell? ⟨(a.add (k * 4)).block, (a.add (k * 4)).off + 2, none⟩ = some (.int .u64 U) ∧ W.cell? ⟨(a.add (k * 4)).block, (a.add (k * 4)).off + 3, none⟩ = some (.string S)) ∧
            (W.cell? (b.add (k * 4)) = some (.int .i64 K') ∧ W.cell? ⟨(b.add (k * 4)).block, (b.add (k * 4)).off + 1, none⟩ = some (.int .i64 I') ∧ W.cell? ⟨(b.add (k * 4)).block, (b.add (k * 4)).off + 2, none⟩ = some (.int .u64 U') ∧ W.cell? ⟨(b.add (k * 4)).block, (b.add (k * 4)).off + 3, none⟩ = some (.string S'))) →
            (Hid (Below w.heap.size w W') ∧ (W'.cell? (a.add (k * 4)) = some (.int .i64 K) ∧ W'.cell? ⟨(a.add (k * 4)).block, (a.add (k * 4)).off + 1, none⟩ = some (.int .i64 I) ∧ W'.cell? ⟨(a.add (k * 4)).block, (a.add (k * 4)).off + 2, none⟩ = some (.int .u64 U) ∧ W'.cell? ⟨(a.add (k * 4)).block, (a.add (k * 4)).off + 3, none⟩ = some (.string S)) ∧
            (W'.cell? (b.add (k * 4)) = some (.int .i64 K') ∧ W'.cell? ⟨(b.add (k * 4)).block, (b.add (k * 4)).off + 1, none⟩ = some (.int .i64 I') ∧ W'.cell? ⟨(b.add (k * 4)).block, (b.add (k * 4)).off + 2, none⟩ = some (.int .u64 U') ∧ W'.cell? ⟨(b.add (k * 4)).block, (b.add (k * 4)).off + 3, none⟩ = some (.string S')))) := Lib.hid (fun W W' hw h => ⟨Lib.hid (h.1.out.trans' hw), HS0.out W' (h.1.out.trans' hw)⟩)
        have HSt := Lib.hid (HS0.out wr.drew hbd)
        clear hbd
        go_wp2_with fail
        go_region_held3 (fun W => (Hid (Below w.heap.size w W) ∧ (W.cell? (a.add (k * 4)) = some (.int .i64 K) ∧ W.cell? ⟨(a.add (k * 4)).block, (a.add (k * 4)).off + 1, none⟩ = some (.int .i64 I) ∧ W.cell? ⟨(a.add (k * 4)).block, (a.add (k * 4)).off + 2, none⟩ = some (.int .u64 U) ∧ W.cell? ⟨(a.add (k * 4)).block, (a.add (k * 4)).off + 3, none⟩ = some (.string S)) ∧
            (W.cell? (b.add (k * 4)) = some (.int .i64 K') ∧ W.cell? ⟨(b.add (k * 4)).block, (b.add (k * 4)).off + 1, none⟩ = some (.int .i64 I') ∧ W.cell? ⟨(b.add (k * 4)).block, (b.add (k * 4)).off + 2, none⟩ = some (.int .u64 U') ∧ W.cell? ⟨(b.add (k * 4)).block, (b.add (k * 4)).off + 3, none⟩ = some (.string S'))))
          (first | assumption | exact ⟨HB0, HSt.out⟩ | exact HKeep.out _ _ (by assumption) (by assumption))
          (first
            | (go_at_call 31; refine (rcompare_any K I U S K' I' U' S' _).mono ?_; rintro e w2 ⟨rfl, hb2⟩))
        have hb3 : Below w.heap.size w w2 := hbw.trans' (below_of_drew hb2)
        generalize hz : CP.rcmp (⟨K, I, U, S.data.toList⟩ : CP.Col) ⟨K', I', U', S'.data.toList⟩ = z at *
        have HZ : Hid (KP.cmp ((cols l).drop k) ((cols m).drop k) = if z ≠ 0 then z else KP.cmp ((cols l).drop (k + 1)) ((cols m).drop (k + 1))) := Lib.hid (by
          have h1 := HS.out
          have h2 : CP.rcmp (⟨K, I, U, S.data.toList⟩ : CP.Col) ⟨K', I', U', S'.data.toList⟩ = CP.cmp ⟨K, I, U, S.data.toList⟩ ⟨K', I', U', S'.data.toList⟩ := HE.out
          rw [hz] at h2
          rw [h2]
          exact h1)
        clear hz HS HE
        by_cases hz0 : z = 0
        · subst hz0
          go_wp2_with fail
          go_roundw
          case rel => exact ⟨k + 1, by omega, by omega, by simp, Lib.hid (by rw [HK.out, HZ.out, if_neg (by simp)]), hb3⟩
          case measure => simp [intOf]; omega
        · go_wp2_with fail
          go_ret
          exact ⟨by rw [HK.out, HZ.out, if_pos hz0]; rfl, hb3⟩
      · have HS : Hid (r = 1 ∧ ¬ n < q ∧ q < n) := Lib.hid (by
          have h1 : k < (cols l).length := by rw [cols_length, ← HN.out]; exact hlt
          have h2 : (cols m).drop k = [] := List.drop_eq_nil_of_le (by rw [cols_length, ← HQ.out]; omega)
          refine ⟨?_, by omega, by omega⟩
          rw [HK.out, h2, List.drop_eq_getElem_cons h1]
          rfl)
        have h5 := HS.out.2.1
        have h6 := HS.out.2.2
        go_wp2_with fail
        go_ret
        exact ⟨by rw [HS.out.1]; rfl, hbw⟩
    · have hkn : k = n := by omega
      subst hkn
      clear hlt hk
      by_cases hlq : k < q
      · have HS : Hid (r = -1) := Lib.hid (by
          have h1 : k < (cols m).length := by rw [cols_length, ← HQ.out]; exact hlq
          have h2 : (cols l).drop k = [] := List.drop_eq_nil_of_le (by rw [cols_length, ← HN.out]; omega)
          rw [HK.out, h2, List.drop_eq_getElem_cons h1]
          rfl)
        go_wp2_with fail
        go_ret
        exact ⟨by rw [HS.out]; rfl, hbw⟩
      · have HS : Hid (r = 0) := Lib.hid (by
          have h1 : (cols l).drop k = [] := List.drop_eq_nil_of_le (by rw [cols_length, ← HN.out]; omega)
          have h2 : (cols m).drop k = [] := List.drop_eq_nil_of_le (by rw [cols_length, ← HQ.out]; omega)
          rw [HK.out, h1, h2]
          rfl)
        have hqk : ¬ q < k := by omega
        go_wp2_with fail
        go_ret
        exact ⟨by rw [HS.out]; rfl, hbw⟩
end Go.Proofs.YtdcijbclafpkmaaDoor
