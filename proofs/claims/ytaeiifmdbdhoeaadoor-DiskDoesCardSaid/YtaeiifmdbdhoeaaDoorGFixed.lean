/-
  The laws' page and the document's Words; calls on a disk as steps of the plain disk; the fixed calls of the statements of layer 6.
-/
import Derived.Test.YtaeiifmdbdhoeaaDoorGHas
import Derived.Test.YtaeiifmdbdhoeaaDoorGNew
namespace Go.Proofs.YtaeiifmdbdhoeaaDoor
open Go.RowKit
open Go.ChangeShapes
open DP (W D C)
set_option linter.unusedVariables false
set_option linter.unusedSimpArgs false

/-- A page of a byte. -/
def pg (c : UInt8) : ByteArray := ⟨(List.replicate 128 c).toArray⟩
theorem pg_size (c : UInt8) : (pg c).size = 128 := by simp [pg, ByteArray.size]
theorem pg_zero : pg 0 = DP.zero 128 := rfl
theorem page_law (c : UInt8) (w : World) : Calls Tryd.prog 24 #[.int .u8 c.toNat] w fun e w' => e = .returned (.string (pg c)) ∧ Below w.heap.size w w' := by
  have HR := Lib.hid (refRepeat_any c 128 w (by omega))
  go_enter Tryd.func24, Tryd.ntmps24
  go_wp2_with fail
  refine HR.out.mono ?_
  rintro e w1 ⟨rfl, hb⟩
  go_wp2_with fail
  go_ret
  exact ⟨rfl, hb⟩

theorem words_any (A C : Option Addr) (l m : List ByteArray) (ca cb : Nat) (w : World) (ha : Lies w w.heap.size A l) (hb : Lies w w.heap.size C m) (hl : l.length ≤ 5000) (he : l = m) :
    Calls Tryd.prog 18 #[.slice A l.length ca, .slice C m.length cb] w fun e w' => e = .returned (.bool true) ∧ Below w.heap.size w w' := by
  subst he
  have HA := Lib.hid ha
  have HB := Lib.hid hb
  obtain ⟨n, hn⟩ : ∃ n, n = l.length := ⟨_, rfl⟩
  have HN := Lib.hid hn
  rw [← hn]
  rw [← hn] at hl
  clear ha hb hn
  have dn : ((n : Int) != (n : Int)) = false := by simp
  go_enter Tryd.func18, Tryd.ntmps18
  go_wp2_with fail
  go_loopw [5] (fun iv wr => ∃ k : Nat, k ≤ n ∧ iv = .int .i64 k ∧ Below w.heap.size w wr) (fun iv _ => n - (intOf iv).toNat)
  case atStart => exact ⟨0, by omega, rfl, Below.refl _ _⟩
  case round =>
    obtain ⟨k, hk, rfl, hbw⟩ := hrel
    by_cases hlt : k < n
    · obtain ⟨s, hc⟩ : ∃ c, l[k]? = some c := ⟨_, List.getElem?_eq_getElem (by have := HN.out; omega)⟩
      obtain ⟨a, rfl, hab, x0⟩ := (HA.out.below hbw) k s hc
      obtain ⟨b, rfl, hbb, y0⟩ := (HB.out.below hbw) k s hc
      clear hc hab hbb
      have h0 : (0 : Int) ≤ k := by omega
      have hkn : (k : Int) < n := by omega
      go_wp2_with fail
      go_quiet (fail)
      go_wp2_with fail
      go_roundw
      case rel => exact ⟨k + 1, by omega, by simp, below_drewN hbw _⟩
      case measure => simp [intOf]; omega
    · go_wp2_with fail
      go_ret
      exact ⟨rfl, hbw⟩

/-- A disk of a call's own: its block lies at or beyond n, and all that lay below n is as it was. -/
structure At (n : Nat) (w W : World) (b : Nat) (d : D) : Prop where
  has : HasG W b d
  low : n ≤ b
  bel : Below n w W
theorem At.next {n : Nat} {w W W' : World} {b : Nat} {d d' : D} (h : At n w W b d) (hn : n ≤ w.heap.size) (hg : HasG W' b d') (k : Chg (fun j => j = b) W W') : At n w W' b d' :=
  ⟨hg, h.low, h.bel.trans (k.below (fun j e => by rw [e]; exact h.low) (Nat.le_trans hn h.bel.size))⟩
theorem At.below {n : Nat} {w W W' : World} {b : Nat} {d : D} (h : At n w W b d) (hn : n ≤ w.heap.size) (k : Below W.heap.size W W') : At n w W' b d :=
  ⟨h.has.below k, h.low, h.bel.trans (k.mono (Nat.le_trans hn h.bel.size))⟩
/-- Another disk stays. -/
theorem HasG.other {W W' : World} {b c : Nat} {d e : D} (h : HasG W b d) (k : HasG W c e) (hk : Chg (fun j => j = b) W W') (hne : c ≠ b) : HasG W' c e := by
  obtain ⟨A1, c1, L1, A2, c2, L2, nw, lim, lf, h1, _⟩ := h.parts
  exact k.st (hk.block c k.lt hne) (h1.st hk)

/-! Each call, as a step of the plain disk. -/
section
variable {n : Nat} {w W : World} {b : Nat} {d d' : D}
theorem at_write (h : At n w W b d) (hn : n ≤ w.heap.size) (i r : Int) (s : ByteArray) (hi : (Lit.int .i64 i).wf = true) (hs : s.size ≤ maxLen) (hv : d.write i s = (d', r)) :
    Calls Tryd.prog 25 #[.pointer (some ⟨b, 0, none⟩), .int .i64 i, .string s] W fun e w' => e = .returned (.int .i64 r) ∧ At n w w' b d' ∧ Chg (fun j => j = b) W w' := by
  refine (write_any b d i s W h.has hi hs).mono ?_
  rintro e w' ⟨rfl, hg, hc⟩
  rw [hv] at hg ⊢
  exact ⟨rfl, h.next hn hg hc, hc⟩
theorem at_sync (h : At n w W b d) (hn : n ≤ w.heap.size) (r : Int) (hv : d.sync = (d', r)) :
    Calls Tryd.prog 26 #[.pointer (some ⟨b, 0, none⟩)] W fun e w' => e = .returned (.int .i64 r) ∧ At n w w' b d' ∧ Chg (fun j => j = b) W w' := by
  refine (sync_any b d W h.has).mono ?_
  rintro e w' ⟨rfl, hg, hc⟩
  rw [hv] at hg ⊢
  exact ⟨rfl, h.next hn hg hc, hc⟩
theorem at_read (h : At n w W b d) (hn : n ≤ w.heap.size) (i r : Int) (s : ByteArray) (hi : (Lit.int .i64 i).wf = true) (hr : d.reads < 1000000) (hv : d.read i = (d', s, r)) :
    Calls Tryd.prog 29 #[.pointer (some ⟨b, 0, none⟩), .int .i64 i] W fun e w' => e = .returned (.tuple #[.string s, .int .i64 r]) ∧ At n w w' b d' ∧ Chg (fun j => j = b) W w' := by
  refine (read_any b d i W h.has hi hr).mono ?_
  rintro e w' ⟨rfl, hg, hc⟩
  rw [hv] at hg ⊢
  exact ⟨rfl, h.next hn hg hc, hc⟩
theorem at_limit (h : At n w W b d) (hn : n ≤ w.heap.size) (i : Int) (hi : (Lit.int .i64 i).wf = true) (hv : d.limit i = d') :
    Calls Tryd.prog 28 #[.pointer (some ⟨b, 0, none⟩), .int .i64 i] W fun e w' => e = .returned (.tuple #[]) ∧ At n w w' b d' ∧ Chg (fun j => j = b) W w' := by
  refine (limit_any b d i W h.has hi).mono ?_
  rintro e w' ⟨rfl, hg, hc⟩
  rw [hv] at hg
  exact ⟨rfl, h.next hn hg hc, hc⟩
theorem at_crash (h : At n w W b d) (hn : n ≤ w.heap.size) (A : Option Addr) (cs : List C) (ca : Nat) (ha : LiesG W A cs) (hq : d.q.length ≤ 5000) (hl : cs.length ≤ 9223372036854775807) (hv : d.crash cs = d') :
    Calls Tryd.prog 27 #[.pointer (some ⟨b, 0, none⟩), .slice A cs.length ca] W fun e w' => e = .returned (.tuple #[]) ∧ At n w w' b d' ∧ Chg (fun j => j = b) W w' := by
  refine (crash_any b d A cs ca W h.has ha hq hl).mono ?_
  rintro e w' ⟨rfl, hg, hc⟩
  rw [hv] at hg
  exact ⟨rfl, h.next hn hg hc, hc⟩
theorem at_all (h : At n w W b d) (hn : n ≤ w.heap.size) (l : List ByteArray) (hv : d.all = l) :
    Calls Tryd.prog 19 #[.pointer (some ⟨b, 0, none⟩)] W fun e w' => ∃ g, e = .returned (.slice (some ⟨g, 0, none⟩) l.length l.length) ∧ w'.ownsRow W.heap.size 9 1 (.slice (some ⟨g, 0, none⟩) l.length l.length) l.length (strCells l) ∧ At n w w' b d ∧ Below W.heap.size W w' := by
  refine (all_any b d W h.has).mono ?_
  rintro e w' ⟨g, rfl, ho, hb⟩
  rw [hv] at ho ⊢
  exact ⟨g, rfl, ho, h.below hn hb, hb⟩
theorem at_len (h : At n w W b d) (r : Int) (hv : (d.len : Int) = r) : Calls Tryd.prog 15 #[.pointer (some ⟨b, 0, none⟩)] W fun e w' => e = .returned (.int .i64 r) ∧ W = w' := by
  rw [← hv]; exact len_any b d W h.has
theorem at_reads (h : At n w W b d) (r : Int) (hv : (d.reads : Int) = r) : Calls Tryd.prog 17 #[.pointer (some ⟨b, 0, none⟩)] W fun e w' => e = .returned (.int .i64 r) ∧ W = w' := by
  rw [← hv]; exact reads_any b d W h.has
theorem at_page (h : At n w W b d) (r : Int) (hv : (d.p : Int) = r) : Calls Tryd.prog 21 #[.pointer (some ⟨b, 0, none⟩)] W fun e w' => e = .returned (.int .i64 r) ∧ W = w' := by
  rw [← hv]; exact page'_any b d W h.has
theorem at_room (h : At n w W b d) (r : Int) (hv : (d.room : Int) = r) : Calls Tryd.prog 22 #[.pointer (some ⟨b, 0, none⟩)] W fun e w' => e = .returned (.int .i64 r) ∧ W = w' := by
  rw [← hv]; exact room_any b d W h.has
end
end Go.Proofs.YtaeiifmdbdhoeaaDoor
