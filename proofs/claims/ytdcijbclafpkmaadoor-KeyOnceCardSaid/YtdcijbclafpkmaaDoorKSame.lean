/-
  Walk of the document's own Same.
-/
import Derived.Test.YtdcijbclafpkmaaDoorKDoc
namespace Go.Proofs.YtdcijbclafpkmaaDoor
open Go.RowKit
set_option linter.unusedVariables false
set_option linter.unusedSimpArgs false

theorem neq_rcol (K I U K' I' U' : Int) (S S' : ByteArray) (w : World) :
    (binOp .neq 55 (.agg #[.int .i64 K, .int .i64 I, .int .u64 U, .string S]) (.agg #[.int .i64 K', .int .i64 I', .int .u64 U', .string S'])).run Tryd.prog w = .ok (.bool (!(sameV K I U S K' I' U' S'))) w := by
  unfold sameV
  cases h1 : (K == K') <;> cases h2 : (I == I') <;> cases h3 : (U == U') <;> simp [go_sem, h1, h2, h3]
  all_goals by_cases h4 : S.toList = S'.toList <;> simp [h4]
/-- The same columns? -/
def sameL : List QC → List QC → Bool
  | [], [] => true
  | a :: l, b :: m => sameV a.k a.i a.u a.s b.k b.i b.u b.s && sameL l m
  | _, _ => false
theorem sameL_iff : ∀ l m : List QC, sameL l m = true ↔ cols l = cols m
  | [], [] => by simp [sameL, cols]
  | [], b :: m => by simp [sameL, cols]
  | a :: l, [] => by simp [sameL, cols]
  | a :: l, b :: m => by
    have h := sameV_iff a.k a.i a.u a.s b.k b.i b.u b.s
    have ih := sameL_iff l m
    rw [sameL, Bool.and_eq_true, h, ih]
    show _ ↔ a.col :: cols l = b.col :: cols m
    rw [List.cons.injEq]
    rfl
theorem sameL_yes {l m : List QC} (h : cols l = cols m) : sameL l m = true := (sameL_iff l m).2 h
theorem sameL_no {l m : List QC} (h : cols l ≠ cols m) : sameL l m = false := by
  cases e : sameL l m with
  | false => rfl
  | true => exact absurd ((sameL_iff l m).1 e) h
theorem cols_take_succ {l : List QC} {k : Nat} {c : QC} (hc : l[k]? = some c) : (cols l).take (k + 1) = (cols l).take k ++ [c.col] := by
  rw [List.take_add_one, cols_get hc]; rfl

section
attribute [local go_sem high] neq_rcol
set_option maxHeartbeats 2000000 in
set_option maxRecDepth 100000 in
theorem same4_any (A B : Option Addr) (l m : List QC) (ca cb : Nat) (w : World) (ha : Lies w w.heap.size A l) (hb : Lies w w.heap.size B m) (hl : l.length ≤ 1000) (hm : m.length ≤ 1000) :
    Calls Tryd.prog 20 #[.slice A l.length ca, .slice B m.length cb] w fun e w' => e = .returned (.bool (sameL l m)) ∧ Below w.heap.size w w' := by
  have HA := Lib.hid ha
  have HB := Lib.hid hb
  obtain ⟨r, HR⟩ : ∃ r, Hid (r = sameL l m) := ⟨_, Lib.hid rfl⟩
  rw [← HR.out]
  obtain ⟨n, hn⟩ : ∃ n, n = l.length := ⟨_, rfl⟩
  obtain ⟨q, hq⟩ : ∃ q, q = m.length := ⟨_, rfl⟩
  have HN := Lib.hid hn
  have HQ := Lib.hid hq
  rw [← hn, ← hq]
  rw [← hn] at hl
  rw [← hq] at hm
  clear ha hb hn hq
  by_cases hnq : n = q
  · subst hnq
    have hbq : ((n : Int) != (n : Int)) = false := by simp
    go_enter Tryd.func20, Tryd.ntmps20
    go_wp2_with fail
    go_loopw [5] (fun iv wr => ∃ k : Nat, k ≤ n ∧ iv = .int .i64 k ∧ Hid ((cols l).take k = (cols m).take k) ∧ Below w.heap.size w wr) (fun iv _ => n - (intOf iv).toNat)
    case atStart =>
      exact ⟨0, by omega, rfl, Lib.hid (by simp), Below.refl _ _⟩
    case round =>
      obtain ⟨k, hk, rfl, HK, hbw⟩ := hrel
      by_cases hlt : k < n
      · obtain ⟨⟨K, I, U, S⟩, hc⟩ : ∃ c, l[k]? = some c := ⟨_, List.getElem?_eq_getElem (by have := HN.out; omega)⟩
        obtain ⟨a, rfl, hab, x0, x1, x2, x3⟩ := (HA.out.below hbw).load hc
        obtain ⟨⟨K', I', U', S'⟩, hd⟩ : ∃ d, m[k]? = some d := ⟨_, List.getElem?_eq_getElem (by have := HQ.out; omega)⟩
        obtain ⟨b, rfl, hbb, y0, y1, y2, y3⟩ := (HB.out.below hbw).load hd
        have HC := Lib.hid hc
        have HD := Lib.hid hd
        clear hc hd hab hbb
        have hsv := sameV_iff K I U S K' I' U' S'
        have HBW : Hid (∀ j, Below w.heap.size w (wr.drewN j)) := Lib.hid (fun j => ⟨hbw.os, hbw.tape, hbw.output, hbw.size, hbw.block⟩)
        cases hs : sameV K I U S K' I' U' S' with
        | true =>
          have HS : Hid ((cols l).take (k + 1) = (cols m).take (k + 1)) := Lib.hid (by
            rw [cols_take_succ HC.out, cols_take_succ HD.out, HK.out]
            congr 2
            exact hsv.1 hs)
          clear hsv
          go_wp2_with fail
          go_quiet (fail)
          go_wp2_with fail
          go_roundw
          case rel => exact ⟨k + 1, by omega, by simp, HS, HBW.out _⟩
          case measure => simp [intOf]; omega
        | false =>
          have HS : Hid (r = false) := Lib.hid (by
            rw [HR.out]
            refine sameL_no (fun e => ?_)
            have h1 := cols_get HC.out
            rw [e, cols_get HD.out] at h1
            have h2 := Option.some.inj h1
            rw [hsv.2 h2.symm] at hs
            cases hs)
          clear hsv
          go_wp2_with fail
          go_quiet (fail)
          go_wp2_with fail
          go_ret
          exact ⟨by rw [HS.out]; rfl, HBW.out _⟩
      · have hkn : k = n := by omega
        subst hkn
        have HS : Hid (r = true) := Lib.hid (by
          rw [HR.out]
          refine sameL_yes ?_
          have h1 := HK.out
          rwa [List.take_of_length_le (by rw [cols_length]; have := HN.out; omega), List.take_of_length_le (by rw [cols_length]; have := HQ.out; omega)] at h1)
        go_wp2_with fail
        go_ret
        exact ⟨by rw [HS.out]; rfl, hbw⟩
  · have HS : Hid (r = false) := Lib.hid (by
      rw [HR.out]
      refine sameL_no (fun e => ?_)
      have h1 := congrArg List.length e
      rw [cols_length, cols_length] at h1
      have := HN.out
      have := HQ.out
      omega)
    have hbq : ((n : Int) != (q : Int)) = true := by simp; omega
    go_enter Tryd.func20, Tryd.ntmps20
    go_wp2_with fail
    go_ret
    exact ⟨by rw [HS.out]; rfl, Below.refl _ _⟩
end
end Go.Proofs.YtdcijbclafpkmaaDoor
