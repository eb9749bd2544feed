/-
  Walks of the program's fields, within, Right.
-/
import Derived.Test.YtnjmkljnjngpkaaDoorHIs
import Derived.Test.YtnjmkljnjngpkaaDoorHDocR
namespace Go.Proofs.YtnjmkljnjngpkaaDoor.L7
open Go.RowKit
set_option linter.unusedVariables false
set_option linter.unusedSimpArgs false

/-- One of the numbers that a page begins with. -/
structure Fd where
  nm : ByteArray
  n : Int
  lo : Int
  hi : Int
  sz : Nat
def fd (h : HP.H) : Nat → Fd
  | 0 => ⟨⟨#[75, 105, 110, 100]⟩, h.k, 1, 4, 1⟩
  | 1 => ⟨⟨#[76, 101, 118, 101, 108]⟩, h.l, 0, 255, 1⟩
  | 2 => ⟨⟨#[67, 111, 117, 110, 116]⟩, h.c, 0, 65535, 2⟩
  | 3 => ⟨⟨#[82, 105, 103, 104, 116]⟩, h.r, 0, 4095, 4⟩
  | _ => ⟨⟨#[83, 101, 108, 102]⟩, h.s, 0, 4095, 4⟩
theorem right_fd (h : HP.H) : HP.right h = true ↔ ∀ k, k < 5 → (fd h k).lo ≤ (fd h k).n ∧ (fd h k).n ≤ (fd h k).hi := by
  rw [HP.right_iff]
  unfold HP.Ok
  constructor
  · rintro ⟨h1, h2, h3, h4, h5, h6, h7, h8, h9, h10⟩ k hk
    rcases (show k = 0 ∨ k = 1 ∨ k = 2 ∨ k = 3 ∨ k = 4 by omega) with rfl | rfl | rfl | rfl | rfl <;> simp only [fd] <;> omega
  · intro H
    have a0 := H 0 (by omega)
    have a1 := H 1 (by omega)
    have a2 := H 2 (by omega)
    have a3 := H 3 (by omega)
    have a4 := H 4 (by omega)
    simp only [fd] at a0 a1 a2 a3 a4
    omega
/-- A field's cells at a place. -/
def At5 (w : World) (a : Addr) (f : Fd) : Prop :=
  w.cell? a = some (.string f.nm) ∧ w.cell? ⟨a.block, a.off + 1, none⟩ = some (.int .i64 f.n) ∧ w.cell? ⟨a.block, a.off + 2, none⟩ = some (.int .i64 f.lo) ∧ w.cell? ⟨a.block, a.off + 3, none⟩ = some (.int .i64 f.hi) ∧ w.cell? ⟨a.block, a.off + 4, none⟩ = some (.int .i64 f.sz)
def FL (w : World) (a : Addr) (h : HP.H) : Prop := a.block < w.heap.size ∧ ∀ k, k < 5 → (a.add (k * 5)).block = a.block ∧ At5 w (a.add (k * 5)) (fd h k)
theorem FL.below {w w' : World} {a : Addr} {h : HP.H} (H : FL w a h) (b : Below w.heap.size w w') : FL w' a h := by
  refine ⟨Nat.lt_of_lt_of_le H.1 b.size, fun k hk => ?_⟩
  obtain ⟨e, x0, x1, x2, x3, x4⟩ := H.2 k hk
  have c : ∀ p : Addr, p.block = a.block → w'.cell? p = w.cell? p := fun p hp => by
    unfold World.cell?
    rw [hp, b.block _ H.1]
  exact ⟨e, (c _ e).trans x0, (c ⟨_, _, none⟩ e).trans x1, (c ⟨_, _, none⟩ e).trans x2, (c ⟨_, _, none⟩ e).trans x3, (c ⟨_, _, none⟩ e).trans x4⟩
/-- All fields' cells. -/
def fcells (h : HP.H) : Array Value := #[.string ⟨#[75, 105, 110, 100]⟩, .int .i64 h.k, .int .i64 1, .int .i64 4, .int .i64 1, .string ⟨#[76, 101, 118, 101, 108]⟩, .int .i64 h.l, .int .i64 0, .int .i64 255, .int .i64 1, .string ⟨#[67, 111, 117, 110, 116]⟩, .int .i64 h.c, .int .i64 0, .int .i64 65535, .int .i64 2, .string ⟨#[82, 105, 103, 104, 116]⟩, .int .i64 h.r, .int .i64 0, .int .i64 4095, .int .i64 4, .string ⟨#[83, 101, 108, 102]⟩, .int .i64 h.s, .int .i64 0, .int .i64 4095, .int .i64 4]
theorem fl_of {w : World} {g : Nat} {h : HP.H} {t : TypeId} (H : w.heap[g]? = some (.cells (fcells h) t (0, 0))) : FL w ⟨g, 0, none⟩ h := by
  refine ⟨(Array.getElem?_eq_some_iff.1 H).1, fun k hk => ?_⟩
  have e : (⟨g, 0, none⟩ : Addr).add (k * 5) = ⟨g, k * 5, none⟩ := by
    unfold Addr.add
    split <;> simp_all
  rw [e]
  refine ⟨rfl, ?_⟩
  unfold At5
  simp only [World.cell?, H]
  rcases (show k = 0 ∨ k = 1 ∨ k = 2 ∨ k = 3 ∨ k = 4 by omega) with rfl | rfl | rfl | rfl | rfl <;> simp [fcells, fd]

theorem heap_alloc_new2 (w : World) (o p : Obj) : ((w.alloc o).alloc p).heap[w.heap.size + 1]? = some p := by
  have h := heap_alloc_new (w.alloc o) p
  simpa using h
set_option maxHeartbeats 1000000 in
set_option maxRecDepth 100000 in
theorem fields_any (h : HP.H) (w : World) :
    Calls Tryd.prog 53 #[hv h] w fun e w' => ∃ a : Addr, e = .returned (.slice (some a) 5 5) ∧ FL w' a h ∧ Below w.heap.size w w' := by
  obtain ⟨k, l, c, r, s⟩ := h
  unfold hv
  go_enter Tryd.func53, Tryd.ntmps53
  go_wp2_with fail
  go_ret
  exact ⟨_, rfl, fl_of (h := ⟨k, l, c, r, s⟩) (heap_alloc_new2 w _ _), (below_alloc _ _).trans' (below_alloc _ _)⟩

set_option maxHeartbeats 2000000 in
set_option maxRecDepth 100000 in
theorem within_any (h : HP.H) (a : Addr) (w : World) (ha : FL w a h) :
    Calls Tryd.prog 52 #[.slice (some a) 5 5] w fun e w' => ∃ v, e = .returned v ∧ Below w.heap.size w w' ∧ ((HP.right h = true ∧ v = .nilIface) ∨ (HP.right h = false ∧ ∃ nm, v = fa nm (er 3))) := by
  have HA := Lib.hid ha
  clear ha
  go_enter Tryd.func52, Tryd.ntmps52
  go_wp2_with fail
  go_loopw [7] (fun iv wr => ∃ k : Nat, k ≤ 5 ∧ iv = .int .i64 k ∧ Hid (∀ j, j < k → (fd h j).lo ≤ (fd h j).n ∧ (fd h j).n ≤ (fd h j).hi) ∧ Below w.heap.size w wr) (fun iv _ => 5 - (intOf iv).toNat)
  case atStart => exact ⟨0, by omega, rfl, Lib.hid (fun j hj => absurd hj (by omega)), Below.refl _ _⟩
  case round =>
    obtain ⟨k, hk, rfl, HK, hbw⟩ := hrel
    by_cases hlt : k < 5
    · have hF := (HA.out.below hbw).2 k hlt
      obtain ⟨f, hf⟩ : ∃ f, f = fd h k := ⟨_, rfl⟩
      rw [← hf] at hF
      have HFD := Lib.hid hf
      clear hf
      obtain ⟨nm, n, lo, hi, sz⟩ := f
      obtain ⟨hab, x0, x1, x2, x3, x4⟩ := hF
      simp only at x0 x1 x2 x3 x4
      have HNO : Hid (n < lo ∨ hi < n → HP.right h = false) := Lib.hid (fun hn => by
        cases hr : HP.right h with
        | false => rfl
        | true =>
          have := (right_fd h).1 hr k hlt
          rw [← HFD.out] at this
          simp only at this
          omega)
      clear hab
      by_cases h1 : n < lo
      · go_wp2_with fail
        go_ret
        exact ⟨_, rfl, hbw.trans' (below_alloc _ _), .inr ⟨HNO.out (.inl h1), nm, rfl⟩⟩
      · by_cases h2 : hi < n
        · go_wp2_with fail
          go_ret
          exact ⟨_, rfl, hbw.trans' (below_alloc _ _), .inr ⟨HNO.out (.inr h2), nm, rfl⟩⟩
        · go_wp2_with fail
          go_roundw
          case rel =>
            refine ⟨k + 1, by omega, by go_num, Lib.hid (fun j hj => ?_), hbw.trans' (below_alloc _ _)⟩
            rcases (show j < k ∨ j = k by omega) with hj | rfl
            · exact HK.out j hj
            · rw [← HFD.out]
              simp only
              omega
          case measure => simp [intOf]; omega
    · obtain rfl : k = 5 := by omega
      go_wp2_with fail
      go_ret
      exact ⟨_, rfl, hbw, .inl ⟨(right_fd h).2 HK.out, rfl⟩⟩

end Go.Proofs.YtnjmkljnjngpkaaDoor.L7
