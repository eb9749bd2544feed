/-
  The document's From where it refuses; Choices.
-/
import Derived.Test.YtaeiifmdbdhoeaaDoorPair
import Derived.Laws.OwnMore
namespace Go.Proofs.YtaeiifmdbdhoeaaDoor
open Go.RowKit
open Go.ChangeShapes
open DP (W D C)
set_option linter.unusedVariables false
set_option linter.unusedSimpArgs false

set_option maxRecDepth 100000 in
theorem fromRef_bad (p room : Int) (s : ByteArray) (w : World) (hb : newBad p room) :
    Calls Tryd.prog 10 #[.int .i64 p, .int .i64 room, .string s] w fun e w' => e = .returned (.tuple #[.pointer none, .int .i64 4]) ∧ w = w' := by
  have HS := Lib.hid (fun W => sizeRef_any p W)
  unfold newBad mayBe at hb
  cases hm : decide (p = 128 ∨ p = 256 ∨ p = 512 ∨ p = 1024) with
  | false =>
    rw [hm] at HS
    clear hb hm
    go_enter Tryd.func10, Tryd.ntmps10
    go_wp2_with fail
    refine (HS.out _).mono ?_
    rintro e w1 ⟨rfl, rfl⟩
    go_wp2_with fail
    go_ret2
    exact ⟨rfl, rfl⟩
  | true =>
    rw [hm] at HS hb
    by_cases h1 : room < 1
    · have d1 : decide (room < 1) = true := decide_eq_true h1
      clear hb hm h1
      go_enter Tryd.func10, Tryd.ntmps10
      go_wp2_with fail
      refine (HS.out _).mono ?_
      rintro e w1 ⟨rfl, rfl⟩
      go_wp2_with fail
      go_ret2
      exact ⟨rfl, rfl⟩
    · have d1 : decide (room < 1) = false := decide_eq_false h1
      have h2 : 4096 < room := by rcases hb with h | h | h; cases h; omega; exact h
      have d2 : decide (4096 < room) = true := decide_eq_true h2
      clear hb hm h1 h2
      go_enter Tryd.func10, Tryd.ntmps10
      go_wp2_with fail
      refine (HS.out _).mono ?_
      rintro e w1 ⟨rfl, rfl⟩
      go_wp2_with fail
      go_ret2
      exact ⟨rfl, rfl⟩
set_option maxRecDepth 100000 in
theorem fromRef_full (p room : Nat) (s : ByteArray) (w : World) (hm : mayBe p = true) (hr : 0 < room) (hr2 : room ≤ 4096) (hs : room * p < s.size) (hs2 : s.size ≤ maxLen) :
    Calls Tryd.prog 10 #[.int .i64 p, .int .i64 room, .string s] w fun e w' => e = .returned (.tuple #[.pointer none, .int .i64 2]) ∧ w = w' := by
  have HS := Lib.hid (fun W => sizeRef_any (p : Int) W)
  rw [show decide ((p : Int) = 128 ∨ (p : Int) = 256 ∨ (p : Int) = 512 ∨ (p : Int) = 1024) = true from hm] at HS
  have hp : 0 < p ∧ p ≤ 1024 := by
    unfold mayBe at hm
    have := of_decide_eq_true hm
    omega
  have hrp : (room : Int) * (p : Int) = ((room * p : Nat) : Int) := by simp
  have hrp2 : room * p ≤ 4096 * 1024 := Nat.mul_le_mul hr2 hp.2
  have e1 : decide ((room : Int) < 1) = false := decide_eq_false (by omega)
  have e1n : decide (room < 1) = false := decide_eq_false (by omega)
  have e2 : decide ((4096 : Int) < (room : Int)) = false := decide_eq_false (by omega)
  have e2n : decide (4096 < room) = false := decide_eq_false (by omega)
  obtain ⟨m, hmm⟩ : ∃ m, m = room * p := ⟨_, rfl⟩
  rw [← hmm] at hrp hs hrp2
  have d1 : decide ((m : Int) < (s.size : Int)) = true := decide_eq_true (by omega)
  have d1n : decide (m < s.size) = true := decide_eq_true hs
  have wm : IntKind.i64.wrap (m : Int) = m := IntWalk.i64_in _ (by omega)
  clear hm hmm hp hr hr2
  go_enter Tryd.func10, Tryd.ntmps10
  go_wp2_with fail
  refine (HS.out _).mono ?_
  rintro e w1 ⟨rfl, rfl⟩
  go_wp2_with fail
  go_ret2
  exact ⟨rfl, rfl⟩
theorem fromRef_at (p room : Nat) (s : ByteArray) (w : World) (hm : mayBe p = true) (hr : 0 < room) (hr2 : room ≤ 4096) (hs : s.size ≤ room * p) :
    Calls Tryd.prog 10 #[.int .i64 p, .int .i64 room, .string s] w fun e w' => ∃ F b, e = .returned (.tuple #[.pointer (some ⟨b, 0, none⟩), .int .i64 0]) ∧ Has w' w.heap.size F b (DP.made p room s) ∧ Below w.heap.size w w' :=
  fromRef_ok p room s w hm hr hr2 hs

theorem Tryd.infoRChoice : (Tryd.prog.info? 95).map (fun i => (i.zero, i.size, i.bytes)) = some (some (.agg #[.int .i64 0, .int .i64 0]), 2, 16) := by kernel_rfl
theorem liesC_own {w : World} {base e : Nat} {A : Option Addr} {n cap : Nat} {q : List C} (h : w.ownsRow base e 2 (.slice A n cap) n (chCells q)) (hn : n = q.length) : LiesC w A q := fun i x hx => by
  have hi : i < q.length := (List.getElem?_eq_some_iff.1 hx).1
  obtain ⟨g, cap', hv, _, hlt⟩ := h.form (by omega)
  have hA : A = some ⟨g, 0, none⟩ := by injection hv
  subst hA
  obtain ⟨h0, h1⟩ := chCells_get q i x hx
  refine ⟨_, rfl, h.cells (g := g) rfl _ _ h0, ?_⟩
  have h2 := h.cells (g := g) rfl _ _ h1
  rw [addr_at] at h2 ⊢
  exact h2
theorem take_succ_c (q : List C) (k : Nat) (x : C) (h : q[k]? = some x) : q.take (k + 1) = q.take k ++ [x] := by rw [List.take_add_one, h]; rfl

set_option maxHeartbeats 2000000 in
set_option maxRecDepth 100000 in
theorem choices_any (A : Option Addr) (cs : List C) (ca : Nat) (w : World) (ha : LiesG w A cs) (hl : cs.length ≤ 5000) :
    Calls Tryd.prog 38 #[.slice A cs.length ca] w fun e w' => ∃ g cap, e = .returned (.slice (some ⟨g, 0, none⟩) cs.length cap) ∧ w'.ownsRow w.heap.size 95 2 (.slice (some ⟨g, 0, none⟩) cs.length cap) cs.length (chCells cs) ∧ Below w.heap.size w w' := by
  obtain ⟨i0, hi, hz0, hz1, hz2⟩ := info_parts Tryd.infoRChoice
  have HA := Lib.hid ha
  obtain ⟨n, hn⟩ : ∃ n, n = cs.length := ⟨_, rfl⟩
  have HN := Lib.hid hn
  rw [← hn] at hl ⊢
  have HTK : Hid (∀ k x, cs[k]? = some x → cs.take (k + 1) = cs.take k ++ [x]) := Lib.hid (take_succ_c cs)
  have hown := own_empty w 95 2
  have HO0 := Lib.hid hown
  have HB0 := Lib.hid (below_alloc w (.cells #[] 95))
  clear ha hn hown
  go_enter Tryd.func38, Tryd.ntmps38
  go_wp2_with fail
  go_loopw [3, 4] (fun ov iv wr => ∃ (k g cap : Nat), k ≤ n ∧ iv = .int .i64 k ∧ ov = .slice (some ⟨g, 0, none⟩) k cap ∧ Hid (wr.ownsRow w.heap.size 95 2 (.slice (some ⟨g, 0, none⟩) k cap) k (chCells (cs.take k))) ∧ Hid (Below w.heap.size w wr)) (fun _ iv _ => n - (intOf iv).toNat)
  case atStart => exact ⟨0, w.heap.size, 0, by omega, rfl, rfl, HO0, HB0⟩
  case round =>
    obtain ⟨k, g, cap, hk, rfl, rfl, HO, HB⟩ := hrel
    by_cases hlt : k < n
    · obtain ⟨⟨K, AT⟩, hx⟩ : ∃ x, cs[k]? = some x := ⟨_, List.getElem?_eq_getElem (by have := HN.out; omega)⟩
      obtain ⟨a, rfl, hab, x0, x1, _⟩ := (HA.out.below HB.out) k _ hx
      have HX := Lib.hid (HTK.out k _ hx)
      simp only at x0 x1
      have d1 : decide ((k : Int) < (n : Int)) = true := decide_eq_true (by omega)
      have d1n : decide (k < n) = true := decide_eq_true hlt
      have hk0 : (0 : Int) ≤ k := by omega
      have hkn : (k : Int) < n := by omega
      have hsz := HB.out.size
      have HOD := Lib.hid (HO.out.drew.alloc (.cells #[.int .i64 K, .int .i64 AT] 95))
      clear hx hab
      go_wp2_with fail
      go_region_law (first
        | (refine step_append_lies _ (by rfl) _ _ _ (by rfl) w.heap.size 95 i0 (.agg #[.int .i64 0, .int .i64 0]) 2 16 Tryd.underlying77 hi hz0 hz1 hz2 rfl (by decide) (.slice (some ⟨g, 0, none⟩) k cap) k _ (by rfl) HOD.out ⟨wr.heap.size, 0, none⟩ 1 1 [.int .i64 K, .int .i64 AT] (by rfl) (by rfl) (World.news_of_block (cs := #[.int .i64 K, .int .i64 AT]) (t := 95) (fr := (0, 0)) (heap_alloc_new wr.drew _)) (by simp [Value.oneCell']) (by omega) (by unfold maxLen; omega) (by omega) (by simp; omega) (wr.heap.size + 1) (by simp) ?_; intro g' cap' w3 hown3 hgrow3 hat3 hlt3))
      all_goals
        have HO3 : Hid (w3.ownsRow w.heap.size 95 2 (.slice (some ⟨g', 0, none⟩) (k + 1) cap') (k + 1) (chCells (cs.take (k + 1)))) := Lib.hid (by rw [HX.out, chCells_snoc]; exact hown3)
        have HB3 : Hid (Below w.heap.size w w3) := Lib.hid (((below_drewN HB.out 1).trans' (below_alloc wr.drew (.cells #[.int .i64 K, .int .i64 AT] 95))).trans (own_apart HOD.out hgrow3 (Nat.le_refl _) (by simp; omega)))
        clear hown3 hgrow3 hat3 hlt3
        go_wp2_with fail
        go_roundw
        case rel => exact ⟨k + 1, g', cap', by omega, by first | rfl | simp, by first | rfl | simp, HO3, HB3⟩
        case measure => simp [intOf]; omega
    · obtain rfl : k = n := by omega
      have d1 : decide ((k : Int) < (k : Int)) = false := by simp
      have HE : Hid (cs.take k = cs) := Lib.hid (List.take_of_length_le (by have := HN.out; omega))
      go_wp2_with fail
      go_ret
      have h9 := HO.out
      rw [HE.out] at h9
      exact ⟨g, cap, rfl, h9, HB.out⟩
end Go.Proofs.YtaeiifmdbdhoeaaDoor
