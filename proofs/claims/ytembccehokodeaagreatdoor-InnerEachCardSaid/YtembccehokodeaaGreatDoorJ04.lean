/-
  Spans in boxes; what rightEnds asks, in plain mathematics.
  The walks of text.Put, text.Get and the document's Text.
  Walks of the closures that write and read a body's directory.
  The walk of slot.Pack.
  The walk of slot.Pack.
  Walks of package sum: the closure that takes a byte bit by bit, and the function that makes it.
  Walks of package sum: the closure that takes a byte by a table, and the function that makes it.
  Walks of package sum: sumBehind by the table; Table.
  Walks of word.Four, word.Read.
  Walks of the document's answers of the layers below: Four, Read, Repeat, Sum, Size.
  The walk of the document's Right: whether a head may be.
  A head's box.
  The walk of strings.Clone.
  The walk of the document's number: bytes, the lowest first.
-/
import Derived.RangeFuncWrites
import Derived.RegionIn
import Derived.Stop.RegionWithIn
import Derived.Test.YtembccehokodeaaGreatDoorJIIter
import Derived.Test.YtembccehokodeaaGreatDoorJ03
import Derived.IntWalk
import Derived.OwnWalk
import Derived.Test.YtembccehokodeaaGreatDoorJ02
import Derived.WalkSpells
import Derived.Laws.BitsAllLaws
import Derived.OneCell
import Derived.Laws.CopyOwn
import Derived.Laws.MakeOwn
import Derived.Lib.BufferWrite
import Derived.Test.YtembccehokodeaaGreatDoorRows
import Derived.Test.YtembccehokodeaaGreatDoorJ01
import Derived.WalkKit
import Derived.WalkLawsBesides
import Derived.Laws.Rows
import Derived.Laws.Tables
import Derived.Great.BuildSlice
import Derived.Lib.Hide
import Derived.Outline
import Derived.RegionTactic
import Derived.BigRegion
import Derived.Lib.BitFns
import Derived.Lib.Endian
import Derived.Lib.EndianBits
import Derived.Lib.Strings
import Derived.Laws.BytesArg
import Derived.Laws.IdiomStrings
import Derived.Lib.Walk
import Derived.Deep.AppendLies
import Derived.Laws.OwnMore
import Derived.Deep.QuietTactic
import Derived.BigQuiet
import Derived.Deep.RegionHeld3
import Derived.Lib.UnsafeStr
import Derived.Laws.Cover1
namespace Go.Proofs.YtembccehokodeaaGreatDoor
open Go.RowKit IP
set_option linter.unusedVariables false
set_option linter.unusedSimpArgs false

/-- A span's box. -/
def SBx (g : Nat) (lo hi : ByteArray) (d : Bool) (w : World) : Prop := w.heap[g]? = some (.cells #[.string lo, .string hi, .bool d] 87 (0, 0))
theorem SBx.cells {g : Nat} {lo hi : ByteArray} {d : Bool} {w : World} (k : SBx g lo hi d w) : w.cell? ⟨g, 0, none⟩ = some (.string lo) ∧ w.cell? ⟨g, 1, none⟩ = some (.string hi) ∧ w.cell? ⟨g, 2, none⟩ = some (.bool d) := by
  unfold SBx at k
  refine ⟨?_, ?_, ?_⟩ <;> simp [World.cell?, k]
theorem SBx.lt {g : Nat} {lo hi : ByteArray} {d : Bool} {w : World} (k : SBx g lo hi d w) : g < w.heap.size := (Array.getElem?_eq_some_iff.1 k).1
theorem SBx.new (lo hi : ByteArray) (d : Bool) (w : World) : SBx w.heap.size lo hi d (w.alloc (.cells #[.string lo, .string hi, .bool d] 87)) := heap_alloc_new _ _
theorem SBx.own {g : Nat} {lo hi : ByteArray} {d : Bool} {X Y : World} {row : Option Nat} (h : SBx g lo hi d X) (hg : X.grownBy Y row) (hr : ∀ r, row = some r → ∃ o : Obj, X.heap[r]? = some o ∧ o.isCells = false) : SBx g lo hi d Y := by
  refine (hg.block g h.lt (fun e => ?_)).trans h
  obtain ⟨o, ho, hc⟩ := hr g e.symm
  unfold SBx at h
  rw [h] at ho
  cases ho
  cases hc

/-- What rightEnds asks of a kid. -/
def OkAt (R : Int) (H : ByteArray) (ss : List ByteArray) (p : Nat) (i : Nat) : Prop := doesAt ss.length R i = true → L5.B (loAt ⟨#[]⟩ ss i) < L5.B (hiAt ss H i) ∧ (hiAt ss H i).size ≤ p / 8
instance (R : Int) (H : ByteArray) (ss : List ByteArray) (p : Nat) (i : Nat) : Decidable (OkAt R H ss p i) := by unfold OkAt; infer_instance
def EndsP (R : Int) (H : ByteArray) (ss : List ByteArray) (p : Nat) : Prop := (R = 0 → H.size = 0) ∧ ∀ i, i < ss.length + 1 → OkAt R H ss p i
def EndsQ (R : Int) (H : ByteArray) (ss : List ByteArray) (p : Int) : Prop := ((R = 0 → H.size = 0) ∧ (R ≠ 0 → H.size ≠ 0 ∧ (H.size : Int) ≤ p / 8 ∧ ∀ s ∈ ss, L5.B s < L5.B H)) ∧ Rise ss ∧ ∀ s ∈ ss, SepOk p s
instance (R : Int) (H : ByteArray) (ss : List ByteArray) (p : Int) : Decidable (EndsQ R H ss p) := by unfold EndsQ; infer_instance
theorem lt_empty {s : ByteArray} : L5.B (⟨#[]⟩ : ByteArray) < L5.B s ↔ s.size ≠ 0 := by
  have h : (L5.B s).length = s.size := L5.b_size s
  show ([] : List UInt8) < _ ↔ _
  cases hs : L5.B s with
  | nil =>
    rw [hs] at h
    have h' : s.size = 0 := by simpa using h.symm
    constructor
    · intro h2; exact absurd h2 (List.not_lt_nil _)
    · intro h2; exact absurd h' h2
  | cons c l =>
    rw [hs] at h
    have h' : l.length + 1 = s.size := by simpa using h
    constructor
    · intro _; omega
    · intro _; exact List.nil_lt_cons _ _
theorem hi_low {ss : List ByteArray} {H : ByteArray} {i : Nat} {s : ByteArray} (h : ss[i]? = some s) : hiAt ss H i = s := by
  have hi : i < ss.length := (List.getElem?_eq_some_iff.1 h).1
  unfold hiAt
  rw [List.getD_eq_getElem?_getD, List.getElem?_append_left hi, h]
  rfl
theorem hi_last (ss : List ByteArray) (H : ByteArray) : hiAt ss H ss.length = H := by
  unfold hiAt
  rw [List.getD_eq_getElem?_getD, List.getElem?_append_right (Nat.le_refl _), Nat.sub_self]
  rfl
theorem lo_at {low : ByteArray} {ss : List ByteArray} {i : Nat} {s : ByteArray} (h : ss[i]? = some s) : loAt low ss (i + 1) = s := by
  show ss.getD i _ = s
  rw [List.getD_eq_getElem?_getD, h]
  rfl
theorem does_low {m : Nat} {R : Int} {i : Nat} (h : i < m) : doesAt m R i = true := by unfold doesAt; rw [decide_eq_true h]; rfl
theorem does_last {m : Nat} {R : Int} : doesAt m R m = decide (R ≠ 0) := by unfold doesAt; rw [decide_eq_false (Nat.lt_irrefl m)]; rfl
theorem rise_get {l : List ByteArray} (h : Rise l) {i j : Nat} {x y : ByteArray} (hx : l[i]? = some x) (hy : l[j]? = some y) (hij : i < j) : L5.B x < L5.B y := by
  obtain ⟨h1, rfl⟩ := List.getElem?_eq_some_iff.1 hx
  obtain ⟨h2, rfl⟩ := List.getElem?_eq_some_iff.1 hy
  exact List.pairwise_iff_getElem.1 h i j h1 h2 hij
/-- Steps up make a row that rises. -/
theorem rise_steps {l : List ByteArray} (h : ∀ i x y, l[i]? = some x → l[i + 1]? = some y → L5.B x < L5.B y) : Rise l := by
  refine List.pairwise_iff_getElem.2 fun i j hi hj hij => ?_
  have key : ∀ d i, (hi : i < l.length) → (hj : i + (d + 1) < l.length) → L5.B l[i] < L5.B l[i + (d + 1)] := by
    intro d
    induction d with
    | zero => intro i hi hj; exact h i _ _ (List.getElem?_eq_getElem hi) (List.getElem?_eq_getElem hj)
    | succ d ih =>
      intro i hi hj
      exact L5.EP.lt_trans (ih i hi (by omega)) (h (i + (d + 1)) _ _ (List.getElem?_eq_getElem (by omega)) (List.getElem?_eq_getElem hj))
  have h2 := key (j - i - 1) i hi (by omega)
  have e : i + (j - i - 1 + 1) = j := by omega
  simp only [e] at h2
  exact h2
theorem ends_iff {R : Int} {H : ByteArray} {ss : List ByteArray} {p : Nat} : EndsP R H ss p ↔ EndsQ R H ss p := by
  constructor
  · rintro ⟨h0, h⟩
    have hs : ∀ i s, ss[i]? = some s → L5.B (loAt ⟨#[]⟩ ss i) < L5.B s ∧ s.size ≤ p / 8 := fun i s hi => by
      have hl : i < ss.length := (List.getElem?_eq_some_iff.1 hi).1
      have h1 := h i (by omega) (does_low hl)
      rwa [hi_low hi] at h1
    have hr : Rise ss := rise_steps fun i x y hx hy => by
      have h1 := (hs (i + 1) y hy).1
      rwa [lo_at hx] at h1
    have hne : ∀ s ∈ ss, s.size ≠ 0 := fun s hm => by
      obtain ⟨i, hi, rfl⟩ := List.getElem_of_mem hm
      have h1 := (hs i _ (List.getElem?_eq_getElem hi)).1
      cases i with
      | zero => exact lt_empty.1 h1
      | succ i =>
        intro e
        have e2 : L5.B ss[i + 1] = [] := List.eq_nil_of_length_eq_zero (by rw [L5.b_size]; exact e)
        rw [e2] at h1
        exact absurd h1 (List.not_lt_nil _)
    refine ⟨⟨h0, fun hR => ?_⟩, hr, fun s hm => ⟨hne s hm, ?_⟩⟩
    · have h1 := h ss.length (by omega) (by rw [does_last]; exact decide_eq_true hR)
      rw [hi_last] at h1
      obtain ⟨h2, h3⟩ := h1
      refine ⟨fun e => ?_, by omega, fun s hm => ?_⟩
      · have e2 : L5.B H = [] := List.eq_nil_of_length_eq_zero (by rw [L5.b_size]; exact e)
        rw [e2] at h2
        exact absurd h2 (List.not_lt_nil _)
      · obtain ⟨i, hi, rfl⟩ := List.getElem_of_mem hm
        obtain ⟨j, hj⟩ : ∃ j, ss.length = j + 1 := ⟨ss.length - 1, by omega⟩
        have hlast : ss[j]? = some ss[j] := List.getElem?_eq_getElem (by omega)
        rw [hj, lo_at hlast] at h2
        by_cases e : i = j
        · subst e; exact h2
        · exact L5.EP.lt_trans (rise_get hr (List.getElem?_eq_getElem hi) hlast (by omega)) h2
    · obtain ⟨i, hi, rfl⟩ := List.getElem_of_mem hm
      have := (hs i _ (List.getElem?_eq_getElem hi)).2
      omega
  · rintro ⟨⟨h0, h1⟩, hr, hs⟩
    refine ⟨h0, fun i hi hd => ?_⟩
    have hlo : ∀ s : ByteArray, (∀ t, i = t + 1 → ∀ x, ss[t]? = some x → L5.B x < L5.B s) → s.size ≠ 0 → L5.B (loAt ⟨#[]⟩ ss i) < L5.B s := fun s ht hz => by
      cases i with
      | zero => exact lt_empty.2 hz
      | succ t =>
        have hx : ss[t]? = some ss[t] := List.getElem?_eq_getElem (by omega)
        rw [lo_at hx]
        exact ht t rfl _ hx
    by_cases hl : i < ss.length
    · have hx : ss[i]? = some ss[i] := List.getElem?_eq_getElem hl
      have h2 := hs _ (List.mem_of_getElem? hx)
      rw [hi_low hx]
      refine ⟨hlo _ (fun t e x hxt => rise_get hr hxt hx (by omega)) h2.1, ?_⟩
      have := h2.2
      omega
    · obtain rfl : i = ss.length := by omega
      rw [does_last] at hd
      obtain ⟨h3, h4, h5⟩ := h1 (of_decide_eq_true hd)
      rw [hi_last]
      exact ⟨hlo _ (fun t e x hxt => h5 x (List.mem_of_getElem? hxt)) h3, by omega⟩
end Go.Proofs.YtembccehokodeaaGreatDoor

namespace Go.Proofs.YtembccehokodeaaGreatDoor
open Go.RowKit IP
set_option linter.unusedVariables false
set_option linter.unusedSimpArgs false

theorem text_any (s : ByteArray) (w : World) (hs : s.size ≤ 1000000) : Calls Tryz.prog 59 #[.string s] w fun e w' => e = .returned (.string (L9.textS s)) ∧ Below w.heap.size w w' := by
  have HT := Lib.hid (L9.textS_eq s s.size rfl)
  have HP := Lib.hid (fun W => L9.put_any (s.size : Int) W (by omega) (by omega))
  have hsz := L9.wput_size s.size (by omega)
  obtain ⟨Z, hZ⟩ : ∃ Z : ByteArray, (⟨(L9.WP.put s.size).toArray⟩ : ByteArray) = Z := ⟨_, rfl⟩
  rw [Int.toNat_natCast] at HP
  rw [hZ] at HP HT hsz
  have hw : IntKind.u64.wrap (s.size : Int) = s.size := by rw [IntKind.wrap_u64]; omega
  have h9 : ¬ 9223372036854775807 < Z.size + s.size := by omega
  have h9' : ¬ (9223372036854775807 : Int) < (Z.size : Int) + (s.size : Int) := by omega
  clear hZ
  go_enter Tryz.func59, Tryz.ntmps59
  go_wp2_with fail
  refine (HP.out _).mono ?_
  rintro e w2 ⟨rfl, hb2⟩
  go_wp2_with fail
  go_ret
  exact ⟨by rw [HT.out]; rfl, hb2⟩
/-- What a number tells of the text behind it. -/
theorem gt_case (s : ByteArray) (i : Nat) : ∃ m tq er, L9.WP.get s.data.toList i = (m, tq, er) ∧
    (((er = 7 ∨ er = 3) ∧ m = 0 ∧ tq = 0 ∧ L9.VP.gtext s.data.toList i = none) ∨ (er = 0 ∧ tq ≤ s.size ∧ s.size - tq < m ∧ m ≤ 18446744073709551615 ∧ L9.VP.gtext s.data.toList i = none) ∨
      (er = 0 ∧ tq + m ≤ s.size ∧ L9.VP.gtext s.data.toList i = some ((s.extract tq (tq + m)).data.toList, tq + m))) := by
  have hl : s.data.toList.length = s.size := by simp
  rcases L9.WP.get_spec s.data.toList i with e | e | ⟨n, tq, e, h1, h2, h3, h4⟩
  · refine ⟨0, 0, 7, e, .inl ⟨.inl rfl, rfl, rfl, ?_⟩⟩
    unfold L9.VP.gtext
    rw [e]
    rfl
  · refine ⟨0, 0, 3, e, .inl ⟨.inr rfl, rfl, rfl, ?_⟩⟩
    unfold L9.VP.gtext
    rw [e]
    rfl
  · rw [hl] at h2
    by_cases hm : n ≤ s.size - tq
    · refine ⟨n, tq, 0, e, .inr (.inr ⟨rfl, by omega, ?_⟩)⟩
      unfold L9.VP.gtext
      simp only [e, hl]
      rw [if_pos ⟨trivial, hm⟩, Lib.extract_data, Nat.add_sub_cancel_left]
    · refine ⟨n, tq, 0, e, .inr (.inl ⟨rfl, h2, by omega, h4, ?_⟩)⟩
      unfold L9.VP.gtext
      simp only [e, hl]
      rw [if_neg (fun h => hm h.2)]

/-- What text.Get answers. -/
def GotText (g : Option (List UInt8 × Nat)) (e : Ending) : Prop :=
  (g = none ∧ ∃ x : Int, x ≠ 0 ∧ e = .returned (.tuple #[.string ⟨#[]⟩, .int .i64 0, .int .i64 x])) ∨ ∃ (T : ByteArray) (j : Nat), g = some (T.data.toList, j) ∧ e = .returned (.tuple #[.string T, .int .i64 j, .int .i64 0])

set_option maxHeartbeats 1000000 in
set_option maxRecDepth 100000 in
theorem textGet_any (s : ByteArray) (i : Nat) (w : World) (hi : i ≤ s.size) (hs : s.size ≤ 1000000) :
    Calls Tryz.prog 72 #[.string s, .int .i64 i] w fun e w' => GotText (L9.VP.gtext s.data.toList i) e ∧ Below w.heap.size w w' := by
  obtain ⟨m, tq, er, hg, hc⟩ := gt_case s i
  have HG := Lib.hid (fun W => L9.get_any s (i : Int) W (by omega) (by omega) (by unfold maxLen; omega))
  rw [Int.toNat_natCast] at HG
  simp only [hg] at HG
  clear hg
  rcases hc with ⟨her, rfl, rfl, hn⟩ | ⟨rfl, h1, h2, h3, hn⟩ | ⟨rfl, h1, hn⟩
  · rw [hn]
    have hz : ((er : Int) != 0) = true := by rcases her with rfl | rfl <;> rfl
    have hz2 : ((er : Int) == 0) = false := by rcases her with rfl | rfl <;> rfl
    have HNZ : Hid ((er : Int) ≠ 0) := Lib.hid (by rcases her with rfl | rfl <;> decide)
    clear her hn hi
    go_enter Tryz.func72, Tryz.ntmps72
    go_wp2_with fail
    refine (HG.out _).mono ?_
    rintro e w2 ⟨rfl, hb2⟩
    go_wp2_with fail
    go_ret3
    exact ⟨.inl ⟨rfl, er, HNZ.out, rfl⟩, hb2⟩
  · rw [hn]
    obtain ⟨d, hd⟩ : ∃ d, d = s.size - tq := ⟨_, rfl⟩
    have he : (s.size : Int) - (tq : Int) = (d : Int) := by omega
    have w1 : IntKind.i64.wrap (d : Int) = d := IntWalk.i64_in _ (by omega)
    have w2 : IntKind.u64.wrap (d : Int) = d := by rw [IntKind.wrap_u64]; omega
    have d1 : decide (d < m) = true := decide_eq_true (by omega)
    have d2 : decide ((d : Int) < (m : Int)) = true := decide_eq_true (by omega)
    clear hn hi hd h1 h2 h3
    go_enter Tryz.func72, Tryz.ntmps72
    go_wp2_with fail
    refine (HG.out _).mono ?_
    rintro e w2 ⟨rfl, hb2⟩
    go_wp2_with fail
    go_ret3
    exact ⟨.inl ⟨rfl, 7, by decide, rfl⟩, hb2⟩
  · rw [hn]
    obtain ⟨d, hd⟩ : ∃ d, d = s.size - tq := ⟨_, rfl⟩
    obtain ⟨j, hj⟩ : ∃ j, j = tq + m := ⟨_, rfl⟩
    have he : (s.size : Int) - (tq : Int) = (d : Int) := by omega
    have he2 : (tq : Int) + (m : Int) = (j : Int) := by omega
    have w1 : IntKind.i64.wrap (d : Int) = d := IntWalk.i64_in _ (by omega)
    have w2 : IntKind.u64.wrap (d : Int) = d := by rw [IntKind.wrap_u64]; omega
    have w3 : IntKind.i64.wrap (m : Int) = m := IntWalk.i64_in _ (by omega)
    have w4 : IntKind.i64.wrap (j : Int) = j := IntWalk.i64_in _ (by omega)
    have d1 : decide (d < m) = false := decide_eq_false (by omega)
    have d2 : decide ((d : Int) < (m : Int)) = false := decide_eq_false (by omega)
    have hj1 : tq ≤ j := by omega
    have hj2 : j ≤ s.size := by omega
    rw [← hj]
    have hts : (s.extract tq j).size ≤ 1000000 := by simp; omega
    have HC := Lib.hid (fun W => L5.clone_any (s.extract tq j) W hts)
    obtain ⟨T, hT⟩ : ∃ T, T = s.extract tq j := ⟨_, rfl⟩
    rw [← hT] at HC ⊢
    have HT := Lib.hid hT
    clear hn hi hd hj h1 hts
    have hT2 := hT.symm
    clear hT
    go_enter Tryz.func72, Tryz.ntmps72
    go_wp2_with fail
    refine (HG.out _).mono ?_
    rintro e w2 ⟨rfl, hb2⟩
    go_wp2_with fail
    refine (HC.out _).mono ?_
    rintro e w3 ⟨rfl, hb3⟩
    go_wp2_with fail
    go_ret3
    exact ⟨.inr ⟨T, j, rfl, rfl⟩, hb2.trans' hb3⟩

def TextV (g : Option (List UInt8 × Nat)) (e : Ending) : Prop :=
  (g = none ∧ e = .returned (.tuple #[.string ⟨#[]⟩, .int .i64 (-1)])) ∨ ∃ (T : ByteArray) (j : Nat), g = some (T.data.toList, j) ∧ e = .returned (.tuple #[.string T, .int .i64 j])
theorem rtext_neg (s : ByteArray) (i : Int) (w : World) (hi : i < 0) :
    Calls Tryz.prog 28 #[.string s, .int .i64 i] w fun e w' => e = .returned (.tuple #[.string ⟨#[]⟩, .int .i64 (-1)]) ∧ Below w.heap.size w w' := by
  go_enter Tryz.func28, Tryz.ntmps28
  go_wp2_with fail
  go_ret2
  exact ⟨rfl, Below.refl _ _⟩
set_option maxHeartbeats 1000000 in
set_option maxRecDepth 100000 in
theorem rtext_any (s : ByteArray) (i : Nat) (w : World) (hi : i ≤ s.size) (hs : s.size ≤ 1000000) :
    Calls Tryz.prog 28 #[.string s, .int .i64 i] w fun e w' => TextV (L9.VP.gtext s.data.toList i) e ∧ Below w.heap.size w w' := by
  obtain ⟨m, tq, er, hg, hc⟩ := gt_case s i
  have HG := Lib.hid (fun W => L9.rget_any s (i : Int) W (by omega) (by omega) (by omega))
  rw [Int.toNat_natCast] at HG
  simp only [hg] at HG
  clear hg
  rcases hc with ⟨her, rfl, rfl, hn⟩ | ⟨rfl, h1, h2, h3, hn⟩ | ⟨rfl, h1, hn⟩
  · rw [hn]
    have hz : ((er : Int) != 0) = true := by rcases her with rfl | rfl <;> rfl
    have hz2 : ((er : Int) == 0) = false := by rcases her with rfl | rfl <;> rfl
    clear her hn hi
    go_enter Tryz.func28, Tryz.ntmps28
    go_wp2_with fail
    refine (HG.out _).mono ?_
    rintro e w2 ⟨rfl, hb2⟩
    go_wp2_with fail
    go_ret2
    exact ⟨.inl ⟨rfl, rfl⟩, hb2⟩
  · rw [hn]
    obtain ⟨d, hd⟩ : ∃ d, d = s.size - tq := ⟨_, rfl⟩
    have he : (s.size : Int) - (tq : Int) = (d : Int) := by omega
    have w1 : IntKind.i64.wrap (d : Int) = d := IntWalk.i64_in _ (by omega)
    have w2 : IntKind.u64.wrap (d : Int) = d := by rw [IntKind.wrap_u64]; omega
    have d1 : decide (d < m) = true := decide_eq_true (by omega)
    have d2 : decide ((d : Int) < (m : Int)) = true := decide_eq_true (by omega)
    clear hn hi hd h1 h2 h3
    go_enter Tryz.func28, Tryz.ntmps28
    go_wp2_with fail
    refine (HG.out _).mono ?_
    rintro e w2 ⟨rfl, hb2⟩
    go_wp2_with fail
    go_ret2
    exact ⟨.inl ⟨rfl, rfl⟩, hb2⟩
  · rw [hn]
    obtain ⟨d, hd⟩ : ∃ d, d = s.size - tq := ⟨_, rfl⟩
    obtain ⟨j, hj⟩ : ∃ j, j = tq + m := ⟨_, rfl⟩
    have he : (s.size : Int) - (tq : Int) = (d : Int) := by omega
    have he2 : (tq : Int) + (m : Int) = (j : Int) := by omega
    have w1 : IntKind.i64.wrap (d : Int) = d := IntWalk.i64_in _ (by omega)
    have w2 : IntKind.u64.wrap (d : Int) = d := by rw [IntKind.wrap_u64]; omega
    have w3 : IntKind.i64.wrap (m : Int) = m := IntWalk.i64_in _ (by omega)
    have w4 : IntKind.i64.wrap (j : Int) = j := IntWalk.i64_in _ (by omega)
    have d1 : decide (d < m) = false := decide_eq_false (by omega)
    have d2 : decide ((d : Int) < (m : Int)) = false := decide_eq_false (by omega)
    have hj1 : tq ≤ j := by omega
    have hj2 : j ≤ s.size := by omega
    rw [← hj]
    obtain ⟨T, hT⟩ : ∃ T, s.extract tq j = T := ⟨_, rfl⟩
    rw [hT]
    clear hn hi hd hj h1
    go_enter Tryz.func28, Tryz.ntmps28
    go_wp2_with fail
    refine (HG.out _).mono ?_
    rintro e w2 ⟨rfl, hb2⟩
    go_wp2_with fail
    go_ret2
    exact ⟨.inr ⟨T, j, rfl, rfl⟩, hb2⟩
end Go.Proofs.YtembccehokodeaaGreatDoor

namespace Go.Proofs.YtembccehokodeaaGreatDoor.L8
open Go.Proofs.YtembccehokodeaaGreatDoor.L5
open Go.RowKit
set_option linter.unusedVariables false
set_option linter.unusedSimpArgs false

/-- A body of bytes that is under way, in a block; the box of its slice, and the box of a place of its directory, in the next two. -/
def Writ (w : World) (g : Nat) (L : List UInt8) (a : Nat) : Prop :=
  w.heap[g]? = some (.cells (byteCells L).toArray 5 (0, 0)) ∧ w.heap[g + 1]? = some (.cells #[.slice (some ⟨g, 0, none⟩) L.length L.length] 94 (0, 0)) ∧ w.heap[g + 2]? = some (.cells #[.int .i64 a] 3 (0, 0))
/-- The bytes behind a place that has been told. -/
def tellL (L : List UInt8) (a c : Nat) : List UInt8 := (L.set a (LP.u8 (c % 256))).set (a + 1) (LP.u8 (c / 256))
theorem tellL_length (L : List UInt8) (a c : Nat) : (tellL L a c).length = L.length := by simp [tellL]
theorem byteCells_set (L : List UInt8) (i : Nat) (b : UInt8) : (byteCells L).toArray.setIfInBounds i (.int .u8 b.toNat) = (byteCells (L.set i b)).toArray := by
  simp [byteCells, List.map_set]
theorem byteCells_get (L : List UInt8) (i : Nat) (h : i < L.length) : (byteCells L).toArray[i]? = some (.int .u8 (L[i].toNat : Nat)) := by simp [byteCells, h]

theorem writ_set {w : World} {g x i : Nat} {L : List UInt8} {b : UInt8} (h : Writ w g L x) : Writ (w.setCell ⟨g, i, none⟩ (.int .u8 b.toNat)) g (L.set i b) x := by
  obtain ⟨h1, h2, h3⟩ := h
  refine ⟨?_, ?_, ?_⟩
  · rw [← byteCells_set]; exact heap_setCell_same _ _ _ _ _ _ h1
  · rw [List.length_set]; exact (heap_setCell_other _ _ _ _ (by simp)).trans h2
  · exact (heap_setCell_other _ _ _ _ (by simp)).trans h3
theorem writ_at {w : World} {g a x : Nat} {L : List UInt8} {n : Int} (h : Writ w g L x) (hn : n = a) : Writ (w.setCell ⟨g + 2, 0, none⟩ (.int .i64 n)) g L a := by
  subst hn
  obtain ⟨h1, h2, h3⟩ := h
  exact ⟨(heap_setCell_other _ _ _ _ (by simp)).trans h1, (heap_setCell_other _ _ _ _ (by simp)).trans h2, one_setCell h3⟩
theorem grown_setCell (w : World) (a : Addr) (u : Value) : w.grownBy (w.setCell a u) (some a.block) :=
  ⟨rfl, rfl, rfl, by simp, fun j _ hj => heap_setCell_other _ _ _ _ (fun e => hj (by rw [e]))⟩
set_option maxHeartbeats 1000000 in
set_option maxRecDepth 100000 in
theorem tell_any (g a c : Nat) (L : List UInt8) (w : World) (h : Hid (Writ w g L (a + 2))) (ha : a + 2 ≤ L.length) (hL : L.length ≤ 65535) (hc : c < 65536) :
    Calls Tryz.prog 89 #[.int .i64 c, .pointer (some ⟨g + 2, 0, none⟩), .pointer (some ⟨g + 1, 0, none⟩)] w fun e w' => e = .returned (.tuple #[]) ∧ Hid (Writ w' g (tellL L a c) a) ∧ Below g w w' := by
  have a1 := cell_of_one h.out.2.2
  have f1 := free_of_one h.out.2.2
  have q1 : IntKind.i64.wrap (((a + 2 : Nat) : Int) - 2) = a := by rw [show ((a + 2 : Nat) : Int) - 2 = a by omega]; exact IntWalk.i64_in _ (by omega)
  have hw2 := Lib.hid (writ_at (n := (a : Int)) h.out rfl)
  have hb := Below.setCell (Below.refl g w) (p := ⟨g + 2, 0, none⟩) (by simp) (.int .i64 (a : Int))
  have HB := Lib.hid hb
  obtain ⟨lo, hlo⟩ : ∃ b : UInt8, b = LP.u8 (c % 256) := ⟨_, rfl⟩
  obtain ⟨hi, hhi⟩ : ∃ b : UInt8, b = LP.u8 (c / 256) := ⟨_, rfl⟩
  have HT : Hid (tellL L a c = (L.set a lo).set (a + 1) hi) := Lib.hid (by rw [hlo, hhi]; rfl)
  have elo : lo.toNat = c % 256 := by rw [hlo]; exact LP.u8_lt _ (by omega)
  have ehi : hi.toNat = c / 256 := by rw [hhi]; exact LP.u8_lt _ (by omega)
  have q2 : IntKind.u8.wrap (c : Int) = (lo.toNat : Int) := by rw [elo]; simp [IntKind.wrap, IntKind.signed, IntKind.bits]
  have q3 : IntKind.u8.wrap ((c : Int) / 256) = (hi.toNat : Int) := by rw [ehi]; simp [IntKind.wrap, IntKind.signed, IntKind.bits]; omega
  have q4 : (c : Int) % 256 = (lo.toNat : Int) := by omega
  have q5 : (c : Int) / 256 = (hi.toNat : Int) := by omega
  have q6 : (hi.toNat : Int) % 256 = hi.toNat := by omega
  rw [HT.out]
  clear hlo hhi HT elo ehi hb h
  go_enter Tryz.func89, Tryz.ntmps89
  go_wp2_with fail
  generalize w.setCell ⟨g + 2, 0, none⟩ (.int .i64 (a : Int)) = v at *
  have b1 := cell_of_one hw2.out.2.1
  have b2 := cell_of_one hw2.out.2.2
  have c1 : v.cell? ⟨g, a, none⟩ = some (.int .u8 (L[a].toNat : Nat)) := by rw [cell_of_row _ _ a _ _ _ hw2.out.1]; exact byteCells_get L a (by omega)
  have c2 : v.cell? ⟨g, a + 1, none⟩ = some (.int .u8 (L[a + 1].toNat : Nat)) := by rw [cell_of_row _ _ (a + 1) _ _ _ hw2.out.1]; exact byteCells_get L (a + 1) (by omega)
  have g1 := frozen_of_row _ _ a _ _ hw2.out.1
  have g2 := frozen_of_row _ _ (a + 1) _ _ hw2.out.1
  have r1 : IntKind.i64.wrap ((a : Int) + 1) = (a : Int) + 1 := IntWalk.i64_in _ (by omega)
  have r2 : ((a : Int) + 1).toNat = a + 1 := by omega
  have r3 : (0 : Int) ≤ (a : Int) + 1 := by omega
  have r4 : (a : Int) + 1 < L.length := by omega
  have r5 : (a : Int) < L.length := by omega
  have r6 : (0 : Int) ≤ (a : Int) := by omega
  clear a1 f1
  go_region
  all_goals
    go_wp2_with fail
    go_end0
    exact ⟨rfl, Lib.hid (writ_set (writ_set hw2.out)), ((HB.out.setCell (p := ⟨g, a, none⟩) (Nat.le_refl _) _).setCell (p := ⟨g, a + 1, none⟩) (Nat.le_refl _) _).drew⟩

theorem or_join (a b : Nat) (ha : a < 256) (hb : b < 256) : bits .or .i64 (a : Int) ((b : Int) * 256) = ((a + 256 * b : Nat) : Int) := by
  have h1 : (BitVec.ofInt 64 (a : Int)).toNat = a := by
    rw [BitVec.ofInt_natCast, BitVec.toNat_ofNat]; exact Nat.mod_eq_of_lt (by omega)
  have h2 : (BitVec.ofInt 64 ((256 * b : Nat) : Int)).toNat = 256 * b := by
    rw [BitVec.ofInt_natCast, BitVec.toNat_ofNat]; exact Nat.mod_eq_of_lt (by omega)
  have e : (b : Int) * 256 = ((256 * b : Nat) : Int) := by omega
  rw [e]
  show IntKind.i64.wrap ((BitVec.ofInt 64 (a : Int) ||| BitVec.ofInt 64 ((256 * b : Nat) : Int)).toNat : Int) = _
  rw [BitVec.toNat_or, h1, h2, Nat.or_comm, nat_join 8 (256 * b) a (by omega) (by omega), Nat.add_comm]
  exact IntWalk.i64_in _ (by omega)
/-- A body of bytes that is read, in a block (with room behind it); the box of its slice, and the box of a place of its directory, in the next two. -/
def Rd (w : World) (g : Nat) (L : List UInt8) (cap a : Nat) : Prop :=
  g + 2 < w.heap.size ∧ (∀ j c, L[j]? = some c → w.cell? ⟨g, j, none⟩ = some (.int .u8 (c.toNat : Nat))) ∧ w.heap[g + 1]? = some (.cells #[.slice (some ⟨g, 0, none⟩) L.length cap] 94 (0, 0)) ∧ w.heap[g + 2]? = some (.cells #[.int .i64 a] 3 (0, 0))
theorem rd_at {w : World} {g a x cap : Nat} {L : List UInt8} {n : Int} (h : Rd w g L cap x) (hn : n = a) : Rd (w.setCell ⟨g + 2, 0, none⟩ (.int .i64 n)) g L cap a := by
  subst hn
  obtain ⟨h0, h1, h2, h3⟩ := h
  exact ⟨by simpa using h0, fun j c hj => (World.cell?_of_block (heap_setCell_other _ _ _ _ (by simp))).trans (h1 j c hj), (heap_setCell_other _ _ _ _ (by simp)).trans h2, one_setCell h3⟩
theorem rd_drew {w : World} {g a cap : Nat} {L : List UInt8} (h : Rd w g L cap a) (n : Nat) : Rd (w.drewN n) g L cap a := h
theorem rd_grown {w w' : World} {g a cap : Nat} {L : List UInt8} {row : Option Nat} (h : Rd w g L cap a) (hg : w.grownBy w' row) (hr : ∀ k, row = some k → g + 2 < k) : Rd w' g L cap a := by
  obtain ⟨hs, h1, h2, h3⟩ := h
  have no : ∀ j, j ≤ g + 2 → some j ≠ row := fun j hj e => by have := hr j e.symm; omega
  exact ⟨Nat.lt_of_lt_of_le hs hg.size, fun j c hj => (World.cell?_of_block (hg.block _ (by show g < _; omega) (no _ (by show g ≤ _; omega)))).trans (h1 j c hj), (hg.block _ (by omega) (no _ (by omega))).trans h2, (hg.block _ (by omega) (no _ (by omega))).trans h3⟩
/-- A number of two bytes. -/
def num2 (L : List UInt8) (a : Nat) : Nat := (L.getD a 0).toNat + 256 * (L.getD (a + 1) 0).toNat
set_option maxHeartbeats 1000000 in
set_option maxRecDepth 100000 in
theorem next_any (g a cap : Nat) (L : List UInt8) (w : World) (h : Hid (Rd w g L cap (a + 2))) (ha : a + 2 ≤ L.length) (hL : L.length ≤ 65535) :
    Calls Tryz.prog 131 #[.pointer (some ⟨g + 2, 0, none⟩), .pointer (some ⟨g + 1, 0, none⟩)] w fun e w' => e = .returned (.int .i64 (num2 L a : Nat)) ∧ Hid (Rd w' g L cap a) ∧ Below g w w' ∧ w.grownBy w' (some (g + 2)) := by
  have a1 := cell_of_one h.out.2.2.2
  have f1 := free_of_one h.out.2.2.2
  have q1 : IntKind.i64.wrap (((a + 2 : Nat) : Int) - 2) = a := by rw [show ((a + 2 : Nat) : Int) - 2 = a by omega]; exact IntWalk.i64_in _ (by omega)
  have hw2 := Lib.hid (rd_at (n := (a : Int)) h.out rfl)
  have hb := Below.setCell (Below.refl g w) (p := ⟨g + 2, 0, none⟩) (by simp) (.int .i64 (a : Int))
  have HB := Lib.hid hb
  have HGR := Lib.hid (grown_setCell w ⟨g + 2, 0, none⟩ (.int .i64 (a : Int)))
  obtain ⟨lo, hlo⟩ : ∃ b : UInt8, b = L[a] := ⟨_, rfl⟩
  obtain ⟨hi, hhi⟩ : ∃ b : UInt8, b = L[a + 1] := ⟨_, rfl⟩
  have HT : Hid (num2 L a = lo.toNat + 256 * hi.toNat) := Lib.hid (by unfold num2; rw [hlo, hhi]; simp only [List.getD_eq_getElem?_getD]; rw [List.getElem?_eq_getElem (by omega), List.getElem?_eq_getElem (by omega)]; rfl)
  have l0 : lo.toNat < 256 := lo.toNat_lt
  have l1 : hi.toNat < 256 := hi.toNat_lt
  have q3 : IntKind.i64.wrap (lo.toNat : Int) = lo.toNat := IntWalk.i64_in _ (by omega)
  have q4 : IntKind.i64.wrap (hi.toNat : Int) = hi.toNat := IntWalk.i64_in _ (by omega)
  have q5 : IntKind.i64.wrap ((hi.toNat : Int) * 256) = (hi.toNat : Int) * 256 := IntWalk.i64_in _ (by omega)
  rw [HT.out]
  clear hb h
  go_enter Tryz.func131, Tryz.ntmps131
  go_wp2_with fail
  generalize w.setCell ⟨g + 2, 0, none⟩ (.int .i64 (a : Int)) = v at *
  have b1 := cell_of_one hw2.out.2.2.1
  have b2 := cell_of_one hw2.out.2.2.2
  have c1 : v.cell? ⟨g, a, none⟩ = some (.int .u8 (lo.toNat : Nat)) := by rw [hlo]; exact hw2.out.2.1 a _ (List.getElem?_eq_getElem (by omega))
  have c2 : v.cell? ⟨g, a + 1, none⟩ = some (.int .u8 (hi.toNat : Nat)) := by rw [hhi]; exact hw2.out.2.1 (a + 1) _ (List.getElem?_eq_getElem (by omega))
  have r1 : IntKind.i64.wrap ((a : Int) + 1) = (a : Int) + 1 := IntWalk.i64_in _ (by omega)
  have r2 : ((a : Int) + 1).toNat = a + 1 := by omega
  have r3 : (0 : Int) ≤ (a : Int) + 1 := by omega
  have r4 : (a : Int) + 1 < L.length := by omega
  have r5 : (a : Int) < L.length := by omega
  have r6 : (0 : Int) ≤ (a : Int) := by omega
  clear a1 f1 hlo hhi
  go_quiet (fail)
  go_wp2_with fail
  go_ret
  exact ⟨by rw [← or_join lo.toNat hi.toNat l0 l1]; rfl, Lib.hid (rd_drew hw2.out nq), below_drewN HB.out nq, ⟨HGR.out.os, HGR.out.tape, HGR.out.output, HGR.out.size, HGR.out.block⟩⟩

theorem writ_new {w : World} {g : Nat} {L : List UInt8} (h : w.heap[g]? = some (.cells (byteCells L).toArray 5 (0, 0))) (hg : w.heap.size = g + 1) :
    Hid (Writ ((w.alloc (.cells #[.slice (some ⟨g, 0, none⟩) L.length L.length] 94)).alloc (.cells #[.int .i64 L.length] 3)) g L L.length) ∧ Below g w ((w.alloc (.cells #[.slice (some ⟨g, 0, none⟩) L.length L.length] 94)).alloc (.cells #[.int .i64 L.length] 3)) := by
  have b1 := below_alloc w (.cells #[.slice (some ⟨g, 0, none⟩) L.length L.length] 94)
  have n1 := heap_alloc_new w (.cells #[.slice (some ⟨g, 0, none⟩) L.length L.length] 94)
  have s1 : (w.alloc (.cells #[.slice (some ⟨g, 0, none⟩) L.length L.length] 94)).heap.size = g + 2 := by simp; omega
  generalize w.alloc (.cells #[.slice (some ⟨g, 0, none⟩) L.length L.length] 94) = v at *
  have b2 := below_alloc v (.cells #[.int .i64 L.length] 3)
  have n2 := heap_alloc_new v (.cells #[.int .i64 L.length] 3)
  rw [s1] at n2
  rw [hg] at n1
  exact ⟨Lib.hid ⟨(b2.block _ (by omega)).trans ((b1.block _ (by omega)).trans h), (b2.block _ (by omega)).trans n1, n2⟩, (b1.trans' b2).mono (by omega)⟩
/-- The function that makes such a closure, of a body that lies in the newest block. -/
theorem writer_any (g : Nat) (L : List UInt8) (w : World) (h : w.heap[g]? = some (.cells (byteCells L).toArray 5 (0, 0))) (hg : w.heap.size = g + 1) :
    Calls Tryz.prog 60 #[.slice (some ⟨g, 0, none⟩) L.length L.length] w fun e w' => e = .returned (.func (.func 89) #[] #[.pointer (some ⟨g + 2, 0, none⟩), .pointer (some ⟨g + 1, 0, none⟩)]) ∧ Hid (Writ w' g L L.length) ∧ Below g w w' := by
  have hmf : ∀ (fn : Fn) (first cap : Array Value) (w : World), (Instr.makeFunc fn first cap).run Tryz.prog w = .ok (.func fn first cap) w := fun _ _ _ _ => rfl
  go_enter Tryz.func60, Tryz.ntmps60
  go_wp2_with fail
  go_ret
  exact ⟨rfl, writ_new h hg⟩
theorem rd_new {w : World} {g cap : Nat} {L : List UInt8} (h : ∀ j c, L[j]? = some c → w.cell? ⟨g, j, none⟩ = some (.int .u8 (c.toNat : Nat))) (hg : w.heap.size = g + 1) :
    Hid (Rd ((w.alloc (.cells #[.slice (some ⟨g, 0, none⟩) L.length cap] 94)).alloc (.cells #[.int .i64 L.length] 3)) g L cap L.length) ∧ Below w.heap.size w ((w.alloc (.cells #[.slice (some ⟨g, 0, none⟩) L.length cap] 94)).alloc (.cells #[.int .i64 L.length] 3)) := by
  have b1 := below_alloc w (.cells #[.slice (some ⟨g, 0, none⟩) L.length cap] 94)
  have n1 := heap_alloc_new w (.cells #[.slice (some ⟨g, 0, none⟩) L.length cap] 94)
  have s1 : (w.alloc (.cells #[.slice (some ⟨g, 0, none⟩) L.length cap] 94)).heap.size = g + 2 := by simp; omega
  generalize w.alloc (.cells #[.slice (some ⟨g, 0, none⟩) L.length cap] 94) = v at *
  have b2 := below_alloc v (.cells #[.int .i64 L.length] 3)
  have n2 := heap_alloc_new v (.cells #[.int .i64 L.length] 3)
  rw [s1] at n2
  rw [hg] at n1
  exact ⟨Lib.hid ⟨by simp; omega, fun j c hj => (b2.cell (by show g < _; omega)).trans ((b1.cell (by show g < _; omega)).trans (h j c hj)), (b2.block _ (by omega)).trans n1, n2⟩, b1.trans' b2⟩
theorem reader_any (g cap : Nat) (L : List UInt8) (w : World) (h : ∀ j c, L[j]? = some c → w.cell? ⟨g, j, none⟩ = some (.int .u8 (c.toNat : Nat))) (hg : w.heap.size = g + 1) :
    Calls Tryz.prog 120 #[.slice (some ⟨g, 0, none⟩) L.length cap] w fun e w' => e = .returned (.func (.func 131) #[] #[.pointer (some ⟨g + 2, 0, none⟩), .pointer (some ⟨g + 1, 0, none⟩)]) ∧ Hid (Rd w' g L cap L.length) ∧ Below w.heap.size w w' := by
  have hmf : ∀ (fn : Fn) (first cap : Array Value) (w : World), (Instr.makeFunc fn first cap).run Tryz.prog w = .ok (.func fn first cap) w := fun _ _ _ _ => rfl
  have HN := Lib.hid (rd_new (cap := cap) h hg)
  clear h
  go_enter Tryz.func120, Tryz.ntmps120
  go_wp2_with fail
  go_ret
  exact ⟨rfl, HN.out⟩
end Go.Proofs.YtembccehokodeaaGreatDoor.L8

namespace Go.Proofs.YtembccehokodeaaGreatDoor.L8
open Go.Proofs.YtembccehokodeaaGreatDoor.L5
open Go.RowKit
set_option linter.unusedVariables false
set_option linter.unusedSimpArgs false

theorem rep_add (a b : Nat) (x : UInt8) : List.replicate (a + b) x = List.replicate a x ++ List.replicate b x := by simp
/-- Bytes under way: fixed ones, some cells, and the places of these. -/
def packL (room : Nat) (F : List UInt8) (cs : List (List UInt8)) : List UInt8 := F ++ cs.flatten ++ List.replicate (room - (F.length + LP.sum cs + 2 * cs.length)) 0 ++ endL F.length cs
theorem packL_length (room : Nat) (F : List UInt8) (cs : List (List UInt8)) (h : F.length + LP.sum cs + 2 * cs.length ≤ room) : (packL room F cs).length = room := by
  have := endL_length cs F.length
  have := LP.flatten_length cs
  simp only [packL, List.length_append, List.length_replicate]
  omega
theorem tellL_at (X E : List UInt8) (n c : Nat) : tellL (X ++ List.replicate (n + 2) 0 ++ E) (X.length + n) c = X ++ List.replicate n 0 ++ (LP.two c ++ E) := by
  have e : X ++ List.replicate (n + 2) (0 : UInt8) ++ E = (X ++ List.replicate n 0) ++ (0 :: 0 :: E) := by
    rw [rep_add]
    simp [List.replicate]
  have hl : (X ++ List.replicate n (0 : UInt8)).length = X.length + n := by simp
  unfold tellL
  rw [e, List.set_append_right _ _ (by omega), hl, Nat.sub_self, List.set_cons_zero, List.set_append_right _ _ (by omega), hl, show X.length + n + 1 - (X.length + n) = 1 by omega]
  simp [LP.two]
/-- A place is told. -/
theorem packL_tell (room : Nat) (F : List UInt8) (cs : List (List UInt8)) (h : F.length + LP.sum cs + 2 * cs.length + 2 ≤ room) :
    tellL (packL room F cs) (room - 2 * cs.length - 2) (F.length + LP.sum cs) = F ++ cs.flatten ++ List.replicate (room - (F.length + LP.sum cs + 2 * cs.length) - 2) 0 ++ (LP.two (F.length + LP.sum cs) ++ endL F.length cs) := by
  obtain ⟨n, hn⟩ : ∃ n, room = F.length + LP.sum cs + 2 * cs.length + 2 + n := ⟨room - (F.length + LP.sum cs + 2 * cs.length + 2), by omega⟩
  have h1 := tellL_at (F ++ cs.flatten) (endL F.length cs) n (F.length + LP.sum cs)
  have hl : (F ++ cs.flatten).length = F.length + LP.sum cs := by rw [List.length_append, LP.flatten_length]
  rw [hl] at h1
  unfold packL
  rw [show room - (F.length + LP.sum cs + 2 * cs.length) = n + 2 by omega, show room - 2 * cs.length - 2 = F.length + LP.sum cs + n by omega, h1, show n + 2 - 2 = n by omega]
/-- A cell is copied. -/
theorem packL_copy (room : Nat) (F : List UInt8) (cs : List (List UInt8)) (c T : List UInt8) (h : F.length + LP.sum cs + 2 * cs.length + 2 + c.length ≤ room) (hT : T = F ++ cs.flatten ++ List.replicate (room - (F.length + LP.sum cs + 2 * cs.length) - 2) 0 ++ (LP.two (F.length + LP.sum cs) ++ endL F.length cs)) :
    T.take (F.length + LP.sum cs) ++ c ++ T.drop (F.length + LP.sum cs + c.length) = packL room F (cs ++ [c]) := by
  obtain ⟨n, hn⟩ : ∃ n, room = F.length + LP.sum cs + 2 * cs.length + 2 + c.length + n := ⟨room - (F.length + LP.sum cs + 2 * cs.length + 2 + c.length), by omega⟩
  have hl : (F ++ cs.flatten).length = F.length + LP.sum cs := by rw [List.length_append, LP.flatten_length]
  subst hT
  unfold packL
  rw [endL_snoc, LP.sum_append, show LP.sum [c] = c.length by simp [LP.sum], List.length_append, List.length_singleton, List.flatten_append, show [c].flatten = c by simp,
    show room - (F.length + LP.sum cs + 2 * cs.length) - 2 = c.length + n by omega, show room - (F.length + (LP.sum cs + c.length) + 2 * (cs.length + 1)) = n by omega, rep_add]
  rw [show F ++ cs.flatten ++ (List.replicate c.length (0 : UInt8) ++ List.replicate n 0) ++ (LP.two (F.length + LP.sum cs) ++ endL F.length cs) = (F ++ cs.flatten) ++ (List.replicate c.length (0 : UInt8) ++ (List.replicate n 0 ++ (LP.two (F.length + LP.sum cs) ++ endL F.length cs))) by simp only [List.append_assoc]]
  rw [← hl, List.take_left, ← List.drop_drop, List.drop_left, List.drop_left' (by simp)]
  simp only [List.append_assoc]
theorem packL_none (room : Nat) (F : List UInt8) : (List.replicate room (0 : UInt8)).take 0 ++ F ++ (List.replicate room (0 : UInt8)).drop (0 + F.length) = packL room F [] := by
  simp [packL, endL, LP.sum]
/-- All of it. -/
theorem packL_all (room : Nat) (F : List UInt8) (cs : List (List UInt8)) (h : LP.need F.length cs ≤ room) : tellL (packL room F cs) (room - 2 * cs.length - 2) (F.length + LP.sum cs) = LP.pack room F cs := by
  unfold LP.need at h
  rw [packL_tell room F cs (by omega)]
  unfold LP.pack LP.need
  rw [endL_dir, show room - (F.length + LP.sum cs + 2 * cs.length) - 2 = room - (F.length + 2 + LP.sum cs + 2 * cs.length) by omega]

theorem conv_row {P : Program} {w : World} {t e s : TypeId} {g : Nat} {l : List UInt8} {o : TypeId} (ht : P.underlying t = some (.slice e)) (he : P.underlying e = some (.int .u8)) (hs : P.underlying s = some .string)
    (h : w.heap[g]? = some (.cells (byteCells l).toArray o (0, 0))) (cap : Nat) : (convert t s (.slice (some ⟨g, 0, none⟩) l.length cap)).run P w = .ok (.string ⟨l.toArray⟩) w := by
  refine run_convert_bytes_back w t s e _ cap l ht he hs (fun j hj => ?_)
  rw [addr_at, cell_of_row _ _ j _ _ _ h, byteCells_get l j hj]
end Go.Proofs.YtembccehokodeaaGreatDoor.L8

namespace Go.Proofs.YtembccehokodeaaGreatDoor.L8
open Go.Proofs.YtembccehokodeaaGreatDoor.L5
open Go.RowKit
set_option linter.unusedVariables false
set_option linter.unusedSimpArgs false

theorem made_zero (m : Nat) (i : Nat) (hi : i = 1) : madeCells (Value.int .u8 0).cells (((m : Nat) : Int).toNat * i) = (byteCells (List.replicate m 0)).toArray := by
  subst hi
  apply Array.toList_inj.1
  apply List.ext_getElem
  · simp [madeCells, byteCells]
  · intro i h1 h2
    simp [madeCells, Value.cells, Nat.mod_one, byteCells]

theorem writ_row {w : World} {g a : Nat} {L M : List UInt8} (h : Writ w g L a) (hl : M.length = L.length) : Writ (w.setRow g (byteCells M).toArray) g M a := by
  obtain ⟨h1, h2, h3⟩ := h
  refine ⟨setRow_heap w g _ _ _ _ h1, ?_, ?_⟩
  · rw [hl]; exact (setRow_other w g _ _ (by omega)).trans h2
  · exact (setRow_other w g _ _ (by omega)).trans h3
set_option maxRecDepth 100000 in
/-- A text is copied into a body. -/
theorem copy_run {w : World} {g a o n : Nat} {L : List UInt8} {s : ByteArray} (h : Writ w g L a) (hle : s.size ≤ n) (hfit : o + s.size ≤ L.length) (cap : Nat) :
    (Builtin.copy_ #[94, 9] 3 #[.slice (some ⟨g, o, none⟩) n cap, .string s]).run Tryz.prog w = .ok (goInt s.size) (w.setRow g (byteCells (L.take o ++ B s ++ L.drop (o + s.size))).toArray) := by
  obtain ⟨i0, hi, hz0, hz1, hz2⟩ := info_parts Tryz.infoByte
  have hsz : (Tryz.prog.info? 5).map (·.size) = some 1 := by rw [hi]; simp [hz1]
  have cp := Lib.run_copy_row_string (P := Tryz.prog) w 94 9 3 5 g o n cap s _ 5 Tryz.underlying94 hsz h.1 hle (by simpa [byteCells] using hfit)
  rw [cp]
  congr 3
  simp [byteCells, Lib.byteCells, B]

set_option maxHeartbeats 2000000 in
set_option maxRecDepth 100000 in
theorem pack_any (room : Int) (f : ByteArray) (A : Option Addr) (l : List ByteArray) (ca : Nat) (w : World) (ha : Lies w w.heap.size A l) (hl : l.length ≤ 1000000) (hf : f.size ≤ 1000000) (hs : ∀ s ∈ l, s.size ≤ 65535) :
    Calls Tryz.prog 34 #[.int .i64 room, .string f, .slice A l.length ca] w fun e w' => e = .returned (packV room f l) ∧ Below w.heap.size w w' := by
  have HSZ := Lib.hid (size_any f A l ca w ha hl hf hs)
  by_cases h1 : room < 0
  · have hv : packV room f l = .tuple #[.string ⟨#[]⟩, .int .i64 4] := by unfold packV; rw [if_pos (.inl h1)]
    rw [hv]
    clear hv
    go_enter Tryz.func34, Tryz.ntmps34
    go_wp2_with fail
    go_ret2
    exact ⟨rfl, Below.refl _ _⟩
  by_cases h2 : 65535 < room
  · have hv : packV room f l = .tuple #[.string ⟨#[]⟩, .int .i64 4] := by unfold packV; rw [if_pos (.inr h2)]
    rw [hv]
    clear hv
    go_enter Tryz.func34, Tryz.ntmps34
    go_wp2_with fail
    go_ret2
    exact ⟨rfl, Below.refl _ _⟩
  by_cases h3 : room < (LP.need f.size (Bs l) : Nat)
  · have hv : packV room f l = .tuple #[.string ⟨#[]⟩, .int .i64 8] := by unfold packV; rw [if_neg (by omega), if_pos h3]
    rw [hv]
    clear hv
    generalize LP.need f.size (Bs l) = q at *
    go_enter Tryz.func34, Tryz.ntmps34
    go_wp2_with fail
    refine HSZ.out.mono ?_
    rintro e w1 ⟨rfl, rfl⟩
    go_wp2_with fail
    go_ret2
    exact ⟨rfl, Below.refl _ _⟩
  obtain ⟨m, rfl⟩ := Int.eq_ofNat_of_zero_le (show 0 ≤ room by omega)
  have hv : packV m f l = .tuple #[.string (packS m f l), .int .i64 0] := by unfold packV; rw [if_neg (by omega), if_neg h3, Int.toNat_natCast]
  rw [hv]
  clear hv
  obtain ⟨P, hP⟩ : ∃ P, packS m f l = P := ⟨_, rfl⟩
  have HP := Lib.hid hP
  rw [hP]
  have HA := Lib.hid ha
  obtain ⟨n, hn⟩ : ∃ n, n = l.length := ⟨_, rfl⟩
  have HN := Lib.hid hn
  have HNEED : Hid (LP.need f.size (Bs l) ≤ m) := Lib.hid (by omega)
  have HQ : Hid (∀ k, f.size + LP.sum (Bs (l.take k)) + 2 * n + 2 ≤ m) := Lib.hid (fun k => by
    have h5 := HNEED.out
    unfold LP.need at h5
    rw [bs_length, ← hn] at h5
    have h6 : Bs (l.take k) = (Bs l).take k := by simp [Bs]
    have h7 := LP.sum_take_le (Bs l) k
    rw [h6]
    omega)
  rw [← hn] at HSZ hl ⊢
  obtain ⟨q, hq⟩ : ∃ q, LP.need f.size (Bs l) = q := ⟨_, rfl⟩
  rw [hq] at HSZ h3
  have hd1 : decide (m < q) = false := decide_eq_false (by omega)
  have hd2 : decide ((m : Int) < (q : Int)) = false := decide_eq_false (by omega)
  obtain ⟨i0, hi, hz0, hz1, hz2⟩ := info_parts Tryz.infoByte
  have mk : ∀ W : World, (Instr.makeSlice 94 (.int .i64 (m : Int)) (.int .i64 (m : Int))).run Tryz.prog W = .ok (.slice (some ⟨W.heap.size, 0, none⟩) m m) (W.alloc (.cells (byteCells (List.replicate m 0)).toArray 5)) := fun W => by
    have h := run_make (P := Tryz.prog) W 94 5 i0 (.int .u8 0) Tryz.underlying94 hi hz0 .i64 .i64 (m : Int) (m : Int) (by omega) (by omega) (by rw [hz2]; omega) (by omega)
    rw [made_zero m _ hz1] at h
    simpa using h
  have HWR : Hid (Calls Tryz.prog 60 #[.slice (some ⟨w.heap.size, 0, none⟩) m m] (w.alloc (.cells (byteCells (List.replicate m 0)).toArray 5)) fun e w' => e = .returned (.func (.func 89) #[] #[.pointer (some ⟨w.heap.size + 2, 0, none⟩), .pointer (some ⟨w.heap.size + 1, 0, none⟩)]) ∧ Hid (Writ w' w.heap.size (List.replicate m 0) m) ∧ Below w.heap.size w w') := Lib.hid (by
    have h := writer_any w.heap.size (List.replicate m 0) (w.alloc (.cells (byteCells (List.replicate m 0)).toArray 5)) (heap_alloc_new _ _) (by simp)
    rw [List.length_replicate] at h
    exact h.mono fun e w' ⟨h1, h2, h3⟩ => ⟨h1, h2, (below_alloc w _).trans h3⟩)
  have hq0 := HQ.out 0
  clear ha hs hn hP hq hi hz0 hz1 hz2
  go_enter Tryz.func34, Tryz.ntmps34
  go_wp2_with fail
  refine HSZ.out.mono ?_
  rintro e w1 ⟨rfl, rfl⟩
  go_wp2_with fail
  refine HWR.out.mono ?_
  rintro e w1 ⟨rfl, hW1, hb1⟩
  have cp := copy_run hW1.out (o := 0) (n := m) (s := f) (by omega) (by simp; omega) m
  rw [← b_size f, packL_none m (B f), b_size f] at cp
  have HW2 := Lib.hid (writ_row hW1.out (M := packL m (B f) []) (by rw [packL_length _ _ _ (by simp [LP.sum, b_size]; omega), List.length_replicate]))
  have hb2 := below_setRow hb1 (Nat.le_refl _) (byteCells (packL m (B f) [])).toArray
  generalize w1.setRow w.heap.size (byteCells (packL m (B f) [])).toArray = w2 at *
  clear mk hW1 hb1 HWR
  go_wp2_with fail
  clear cp
  go_loopw [10, 12, 33] (fun ev cv iv wr => ∃ k : Nat, k ≤ n ∧ iv = .int .i64 k ∧ ev = .int .i64 (f.size + LP.sum (Bs (l.take k)) : Nat) ∧ Hid (Writ wr w.heap.size (packL m (B f) (Bs (l.take k))) (m - 2 * k)) ∧ Below w.heap.size w wr) (fun _ _ iv _ => n - (intOf iv).toNat)
  case atStart => exact ⟨0, Nat.zero_le _, rfl, by simp [Bs, LP.sum], HW2, hb2⟩
  case round =>
    obtain ⟨k, hk, rfl, rfl, HW, hbw⟩ := hrel
    have hz := HQ.out k
    have hlt2 : (l.take k).length = k := by rw [List.length_take, ← HN.out]; omega
    obtain ⟨e, he⟩ : ∃ e, f.size + LP.sum (Bs (l.take k)) = e := ⟨_, rfl⟩
    rw [he] at hz ⊢
    obtain ⟨a, ha⟩ : ∃ a, a = m - 2 * k - 2 := ⟨_, rfl⟩
    rw [show m - 2 * k = a + 2 by omega] at HW
    have hml : (packL m (B f) (Bs (l.take k))).length = m := packL_length _ _ _ (by rw [b_size, bs_length, hlt2]; omega)
    have HTL := Lib.hid (tell_any w.heap.size a e _ wr HW (by rw [hml]; omega) (by omega) (by omega))
    by_cases hlt : k < n
    · obtain ⟨c, hc⟩ : ∃ c, l[k]? = some c := ⟨_, List.getElem?_eq_getElem (by have := HN.out; omega)⟩
      have hz2 := HQ.out (k + 1)
      have hst := sum_take l k c hc
      rw [hst] at hz2
      have HE2 : Hid (f.size + LP.sum (Bs (l.take (k + 1))) = e + c.size) := Lib.hid (by rw [hst, ← he]; omega)
      have HTC : Hid ((tellL (packL m (B f) (Bs (l.take k))) a e).take e ++ B c ++ (tellL (packL m (B f) (Bs (l.take k))) a e).drop (e + c.size) = packL m (B f) (Bs (l.take (k + 1)))) := Lib.hid (by
        have h1 : (B f).length + LP.sum (Bs (l.take k)) = e := by rw [b_size]; exact he
        have h2 : (Bs (l.take k)).length = k := by rw [bs_length, hlt2]
        have h3 := packL_tell m (B f) (Bs (l.take k)) (by rw [h1, h2]; omega)
        rw [h1, h2, ← ha] at h3
        have h4 := packL_copy m (B f) (Bs (l.take k)) (B c) (tellL (packL m (B f) (Bs (l.take k))) a e) (by rw [h1, h2, b_size]; omega) (by rw [h3, h1, h2])
        rw [h1, b_size] at h4
        rw [bs_snoc l k c hc]
        exact h4)
      have hml2 : (packL m (B f) (Bs (l.take (k + 1)))).length = m := by
        rw [← HTC.out]
        simp only [List.length_append, List.length_take, List.length_drop, tellL_length, hml, b_size]
        omega
      obtain ⟨A0, rfl, hab, hcell⟩ := (HA.out.below hbw) k c hc
      have HCL : Hid (∀ V, Below w.heap.size wr V → V.cell? (A0.add k) = some (.string c)) := Lib.hid (fun V hb => (hb.cell (by rw [addr_block]; exact hab)).trans hcell)
      have hml3 := tellL_length (packL m (B f) (Bs (l.take k))) a e
      rw [hml] at hml3
      obtain ⟨T, hT⟩ : ∃ T, tellL (packL m (B f) (Bs (l.take k))) a e = T := ⟨_, rfl⟩
      rw [hT] at HTL HTC hml3
      have hle : e ≤ m := by omega
      have hec : e + c.size ≤ m := by omega
      clear hT hc hst he hlt2 hab hml HW hz2
      go_wp2_with fail
      refine HTL.out.mono ?_
      rintro r w1 ⟨rfl, hW1, hb1⟩
      have hcell := HCL.out _ hb1
      have cp := copy_run hW1.out (o := e) (n := m - e) (s := c) (by omega) (by rw [hml3]; omega) (m - e)
      rw [HTC.out] at cp
      have HW2 := Lib.hid (writ_row hW1.out (M := packL m (B f) (Bs (l.take (k + 1)))) (by rw [hml2, hml3]))
      have hb2 := below_setRow (hbw.trans hb1) (Nat.le_refl _) (byteCells (packL m (B f) (Bs (l.take (k + 1))))).toArray
      generalize w1.setRow w.heap.size (byteCells (packL m (B f) (Bs (l.take (k + 1))))).toArray = w2 at *
      have hsum : IntKind.i64.wrap ((e : Int) + c.size) = (e : Int) + c.size := IntWalk.i64_in _ (by omega)
      clear hW1 hb1
      go_wp2_with fail
      go_roundw
      case rel => exact ⟨k + 1, by omega, by go_num, by rw [HE2.out]; go_num, by rw [show m - 2 * (k + 1) = a by omega]; exact HW2, hb2⟩
      case measure => simp [intOf]; omega
    · obtain rfl : k = n := by omega
      have HTC : Hid (tellL (packL m (B f) (Bs (l.take k))) a e = (LP.pack m (B f) (Bs l))) := Lib.hid (by
        have h1 : (B f).length + LP.sum (Bs (l.take k)) = e := by rw [b_size]; exact he
        have h2 : (Bs (l.take k)).length = k := by rw [bs_length, hlt2]
        have h3 := packL_all m (B f) (Bs (l.take k)) (by unfold LP.need; rw [h2]; omega)
        rw [h1, h2, ← ha] at h3
        rw [HN.out, List.take_length] at h3 ⊢
        exact h3)
      have hml3 : (LP.pack m (B f) (Bs l)).length = m := by rw [← HTC.out, tellL_length, hml]
      rw [HTC.out] at HTL
      have hPP : (⟨(LP.pack m (B f) (Bs l)).toArray⟩ : ByteArray) = P := HP.out
      generalize LP.pack m (B f) (Bs l) = T at *
      clear he hlt2 hml HW
      go_wp2_with fail
      refine HTL.out.mono ?_
      rintro r w1 ⟨rfl, hW1, hb1⟩
      have cv := conv_row (P := Tryz.prog) (t := 94) (e := 5) (s := 9) Tryz.underlying94 Tryz.underlying5 Tryz.underlying9 hW1.out.1 m
      rw [hml3, hPP] at cv
      go_wp2_with fail
      go_ret2
      exact ⟨rfl, hbw.trans hb1⟩
end Go.Proofs.YtembccehokodeaaGreatDoor.L8

namespace Go.Proofs.YtembccehokodeaaGreatDoor.L7
open Go.RowKit

theorem xor32 (a b : Nat) (ha : a < 4294967296) (hb : b < 4294967296) : bits .xor .u32 (a : Int) (b : Int) = ((a ^^^ b : Nat) : Int) := u32_xor_nat a b ha hb
theorem low32 (a : Nat) (ha : a < 4294967296) : bits .and .u32 (a : Int) 1 = ((a % 2 : Nat) : Int) := by
  have h := u32_and_nat a 1 ha (by omega)
  rw [Nat.and_one_is_mod] at h
  exact h

/-- Block p has been written, and nothing else that was there. -/
def Wrote (p : Nat) (w w' : World) : Prop := w.grownBy w' (some p)

theorem Wrote.refl (p : Nat) (w : World) : Wrote p w w := World.grownBy.refl w _
theorem wrote_set {p : Nat} {w w' : World} (h : Wrote p w w') (v : Value) : Wrote p w (w'.setCell ⟨p, 0, none⟩ v) := by
  obtain ⟨a, b, c, d, e⟩ := h
  refine ⟨a, b, c, by simpa using d, fun k hk hne => ?_⟩
  rw [Below.heap_setCell _ _ _ _ (fun e' => hne (by rw [e']))]
  exact e k hk hne
theorem Wrote.drew {p : Nat} {w w' : World} (h : Wrote p w w') : Wrote p w w'.drew := ⟨h.1, h.2, h.3, h.4, h.5⟩
theorem Wrote.trans {p : Nat} {w a b : World} (h : Wrote p w a) (k : Wrote p a b) : Wrote p w b :=
  ⟨k.os.trans h.os, k.tape.trans h.tape, k.output.trans h.output, Nat.le_trans h.size k.size, fun i hi hne => (k.block i (Nat.lt_of_lt_of_le hi h.size) hne).trans (h.block i hi hne)⟩
theorem Wrote.below {p B : Nat} {w w' : World} (h : Wrote p w w') (hB : B ≤ p) (hp : B ≤ w.heap.size) : Below B w w' := (Below.refl B w).grown h hp (fun k e => by cases e; exact hB)

set_option maxHeartbeats 400000 in
theorem takeBits (c : UInt8) (r p : Nat) (w : World) (hr : r < 4294967296) (hh : Hid (w.heap[p]? = some (.cells #[.int .u32 r] 110 (0, 0)))) :
    Calls Tryz.prog 137 #[.int .u8 c.toNat, .pointer (some ⟨p, 0, none⟩)] w fun e w' => e = .returned (.int .u32 (SP.one r c)) ∧ Hid (w'.heap[p]? = some (.cells #[.int .u32 (SP.one r c)] 110 (0, 0))) ∧ Wrote p w w' := by
  have hc := cell_of_one hh.out
  have hf := free_of_one hh.out
  have hx := xor32 r c.toNat hr (SP.u8_lt c)
  have hcl := c.toNat_lt
  go_enter Tryz.func137, Tryz.ntmps137
  go_wp2
  go_loopw [9] (fun i wr => ∃ k : Nat, k ≤ 8 ∧ i = .int .i64 k ∧ Hid (wr.heap[p]? = some (.cells #[.int .u32 (SP.bits (r ^^^ c.toNat) k : Nat)] 110 (0, 0))) ∧ Wrote p w wr) (fun i _ => 8 - (intOf i).toNat)
  case atStart => exact ⟨0, Nat.zero_le _, rfl, Lib.hid (one_setCell hh.out), wrote_set (Wrote.refl p w) _⟩
  case round =>
    obtain ⟨k, hk, rfl, hh', hw⟩ := hrel
    clear hc hf hx
    have hlt := SP.bits_lt _ (SP.xor_lt r c.toNat hr (SP.u8_lt c)) k
    have HB := Lib.hid (show SP.bits (r ^^^ c.toNat) (k + 1) = SP.bit (SP.bits (r ^^^ c.toNat) k) from rfl)
    by_cases h8 : k < 8
    · revert hlt hh' HB
      generalize SP.bits (r ^^^ c.toNat) k = R
      intro hh' hlt HB
      have hc' := cell_of_one hh'.out
      have hf' := free_of_one hh'.out
      have ha := low32 R hlt
      by_cases h2 : R % 2 = 1
      · have H2 := Lib.hid h2
        rw [h2] at ha
        clear h2
        have hx : bits .xor .u32 ((R : Int) / 2) 2197175160 = ((R / 2 ^^^ 2197175160 : Nat) : Int) := xor32 (R / 2) 2197175160 (by omega) (by omega)
        go_wp2
        go_roundw
        case rel =>
          refine ⟨k + 1, by omega, by go_num, ?_, ?_⟩
          · rw [HB.out, show SP.bit R = R / 2 ^^^ 2197175160 by unfold SP.bit; rw [if_pos H2.out]]
            exact Lib.hid (one_setCell (one_setCell hh'.out))
          · exact wrote_set (wrote_set hw _) _
        case measure => simp [intOf]; omega
      · have h0 : R % 2 = 0 := by omega
        have H0 := Lib.hid h0
        rw [h0] at ha
        clear h0 h2
        go_wp2
        go_roundw
        case rel =>
          refine ⟨k + 1, by omega, by go_num, ?_, ?_⟩
          · rw [HB.out, show SP.bit R = R / 2 by unfold SP.bit; rw [if_neg (by rw [H0.out]; omega)]]
            exact Lib.hid (one_setCell hh'.out)
          · exact wrote_set hw _
        case measure => simp [intOf]; omega
    · obtain rfl : k = 8 := by omega
      have hc' := cell_of_one hh'.out
      go_wp2
      go_ret
      exact ⟨rfl, hh', hw⟩

theorem below_setRow (w : World) (g : Nat) (cs : Array Value) : Below g w (w.setRow g cs) := by
  refine ⟨rfl, rfl, rfl, by simp, fun k hk => ?_⟩
  simp only [World.setRow, Array.getElem?_modify]
  rw [if_neg (by omega)]

/-- The function that makes such a closure. -/
theorem byBits_any (r : Nat) (w : World) :
    Calls Tryz.prog 136 #[.int .u32 r] w fun e w' => e = .returned (.func (.func 137) #[] #[.pointer (some ⟨w.heap.size, 0, none⟩)]) ∧ w' = w.alloc (.cells #[.int .u32 r] 110) := by
  have hmf : ∀ (fn : Fn) (first cap : Array Value) (w : World), (Instr.makeFunc fn first cap).run Tryz.prog w = .ok (.func fn first cap) w := fun _ _ _ _ => rfl
  go_enter Tryz.func136, Tryz.ntmps136
  go_wp2
  go_ret
  exact ⟨rfl, rfl⟩

theorem byBits_zero (w : World) :
    Calls Tryz.prog 136 #[.int .u32 0] w fun e w' => e = .returned (.func (.func 137) #[] #[.pointer (some ⟨w.heap.size, 0, none⟩)]) ∧ w' = w.alloc (.cells #[.int .u32 0] 110) := byBits_any 0 w

/-- The table. -/
def tab (k : Nat) : Array Value := ((List.range 256).map fun j => Value.int .u32 (if j < k then (SP.bits j 8 : Nat) else 0)).toArray

theorem Tryz.zeroTab (w : World) : (zeroValue 184).run Tryz.prog w = .ok (.agg (tab 0)) w := by kernel_rfl
theorem Tryz.sizeTab : (Tryz.prog.info? 184).map (·.size) = some 256 := by kernel_rfl
theorem tab_size (k : Nat) : (tab k).size = 256 := by simp [tab]
theorem tab_get (k j : Nat) (hj : j < 256) : (tab k)[j]? = some (.int .u32 (if j < k then (SP.bits j 8 : Nat) else 0)) := by simp [tab, hj]
theorem tab_one : (tab 256).all (·.oneCell') = true := by
  simp [tab, Value.oneCell']
theorem tab_set (k : Nat) (hk : k < 256) : (tab k).setIfInBounds k (.int .u32 (SP.bits k 8 : Nat)) = tab (k + 1) := by
  apply Array.ext_getElem?
  intro j
  rw [Array.getElem?_setIfInBounds]
  by_cases hj : j < 256
  · rw [tab_get _ _ hj, tab_get _ _ hj]
    by_cases e : k = j
    · subst e; simp [tab_size, hk]
    · rw [if_neg e]
      by_cases h : j < k
      · rw [if_pos h, if_pos (by omega)]
      · rw [if_neg h, if_neg (by omega)]
  · have h1 : (tab k)[j]? = none := by rw [Array.getElem?_eq_none]; rw [tab_size]; omega
    have h2 : (tab (k + 1))[j]? = none := by rw [Array.getElem?_eq_none]; rw [tab_size]; omega
    rw [h1, h2, if_neg (by omega)]
theorem toNat_ofNat8 (k : Nat) (h : k < 256) : (UInt8.ofNat k).toNat = k := by simp; omega

theorem takeBits_fresh (k : Nat) (hk : k < 256) (w : World) :
    Calls Tryz.prog 137 #[.int .u8 k, .pointer (some ⟨w.heap.size, 0, none⟩)] (w.alloc (.cells #[.int .u32 0] 110)) fun e w' => e = .returned (.int .u32 (SP.bits k 8 : Nat)) ∧ Below w.heap.size w w' := by
  have h := takeBits (UInt8.ofNat k) 0 w.heap.size (w.alloc (.cells #[.int .u32 0] 110)) (by omega) (Lib.hid (heap_alloc_new _ _))
  have e1 : SP.one 0 (UInt8.ofNat k) = SP.bits k 8 := by unfold SP.one; rw [Nat.zero_xor, toNat_ofNat8 k hk]
  rw [e1, toNat_ofNat8 k hk] at h
  refine h.mono ?_
  rintro e w' ⟨he, _, hw⟩
  exact ⟨he, ((Below.refl _ w).alloc (Nat.le_refl _) _).trans (hw.below (Nat.le_refl _) (by simp))⟩

set_option maxRecDepth 100000 in
set_option maxHeartbeats 400000 in
theorem lowBytes_any (w : World) :
    Calls Tryz.prog 129 #[] w fun e w' => e = .returned (.agg (tab 256)) ∧ Below w.heap.size w w' := by
  have hz := Tryz.zeroTab
  go_enter Tryz.func129, Tryz.ntmps129
  go_wp2
  go_loopw [3] (fun i wr => ∃ k : Nat, k ≤ 256 ∧ i = .int .i64 k ∧ Hid (wr.heap[w.heap.size + 1]? = some (.cells (tab k) 184 (0, 0))) ∧ Hid (wr.heap[w.heap.size]? = some (.cells (tab 0) 184 (0, 0))) ∧ Below w.heap.size w wr) (fun i _ => 256 - (intOf i).toNat)
  case atStart => exact ⟨0, Nat.zero_le _, rfl, Lib.hid (heap_alloc2_new _ _ _), Lib.hid (heap_alloc2_old _ _ _), ((Below.refl _ w).alloc (Nat.le_refl _) _).alloc (by simp) _⟩
  case round =>
    obtain ⟨k, hk, rfl, h1, h0, hb⟩ := hrel
    by_cases hlt : k < 256
    · go_wp2_with fail
      refine (byBits_zero _).mono ?_
      rintro e w1 ⟨rfl, rfl⟩
      go_wp2_with fail
      refine (takeBits_fresh k hlt wr).mono ?_
      rintro e w2 ⟨rfl, hb2⟩
      have h1' := Lib.hid ((hb2.block _ (lt_of_block h1.out)).trans h1.out)
      have h0' := Lib.hid ((hb2.block _ (lt_of_block h0.out)).trans h0.out)
      have hb' : Below w.heap.size w w2 := hb.trans (hb2.mono hb.size)
      clear h1 h0 hb hb2
      have hcell : w2.cell? ⟨w.heap.size + 1, k, none⟩ = some (.int .u32 0) := by
        rw [cell_of_row _ _ k _ _ _ h1'.out, tab_get k k hlt, if_neg (by omega)]
      have hfr := frozen_of_row _ _ k _ _ h1'.out
      go_wp2_with fail
      go_roundw
      case rel =>
        refine ⟨k + 1, by omega, by go_num, ?_, ?_, ?_⟩
        · have h := heap_setCell_same w2 _ k _ _ (.int .u32 (SP.bits k 8 : Nat)) h1'.out
          rw [tab_set k hlt] at h
          exact Lib.hid h
        · have h := heap_setCell_other w2 ⟨w.heap.size + 1, k, none⟩ w.heap.size (.int .u32 (SP.bits k 8 : Nat)) (by simp)
          exact Lib.hid (h.trans h0'.out)
        · exact hb'.setCell (by simp) _
      case measure => simp [intOf]; omega
    · obtain rfl : k = 256 := by omega
      go_wp2_with (first
        | (with_reducible refine wpList_load_row rfl _ _ rfl (w.heap.size + 1) rfl _ _ _ _ h1.out Tryz.underlying184 rfl (by rw [tab_size]; exact Tryz.sizeTab) ?_)
        | (with_reducible refine wpList_store_rowTo rfl _ _ _ rfl rfl w.heap.size (tab 256) rfl rfl _ _ h0.out (by rw [tab_size]; exact Tryz.sizeTab) (by rw [tab_size, tab_size]) tab_one ?_))
      refine bodyPost_ret (v := .agg (tab 256)) (results_cell_row Tryz.results129 _ _ w.heap.size _ _ _ _ rfl (setRow_heap wr _ _ _ _ _ h0.out) Tryz.underlying184 rfl (by rw [tab_size]; exact Tryz.sizeTab)) rfl ⟨rfl, ?_⟩
      exact hb.trans (below_setRow _ _ _)

end Go.Proofs.YtembccehokodeaaGreatDoor.L7

namespace Go.Proofs.YtembccehokodeaaGreatDoor.L7
open Go.RowKit

set_option maxHeartbeats 400000 in
theorem takeTab (c : UInt8) (r p q : Nat) (w : World) (hr : r < 4294967296) (hh : Hid (w.heap[p]? = some (.cells #[.int .u32 r] 110 (0, 0)))) (hq : Hid (w.heap[q]? = some (.cells (tab 256) 184 (0, 0)))) :
    Calls Tryz.prog 130 #[.int .u8 c.toNat, .pointer (some ⟨p, 0, none⟩), .pointer (some ⟨q, 0, none⟩)] w fun e w' => e = .returned (.int .u32 (SP.one r c)) ∧ Hid (w'.heap[p]? = some (.cells #[.int .u32 (SP.one r c)] 110 (0, 0))) ∧ Wrote p w w' := by
  have hcl := c.toNat_lt
  have hJ : r % 256 ^^^ c.toNat < 256 := Nat.xor_lt_two_pow (n := 8) (by omega) (by omega)
  have hx8 : bits .xor .u8 ((r : Int) % 256) (c.toNat : Int) = ((r % 256 ^^^ c.toNat : Nat) : Int) := u8_xor_nat (r % 256) c.toNat (by omega) (by omega)
  have HO := Lib.hid (SP.one_table r c)
  revert hJ hx8 HO
  generalize r % 256 ^^^ c.toNat = J
  intro hJ hx8 HO
  have hT := SP.bits_lt J (by omega) 8
  have hx : bits .xor .u32 ((r : Int) / 256) (SP.bits J 8 : Nat) = ((r / 256 ^^^ SP.bits J 8 : Nat) : Int) := xor32 (r / 256) (SP.bits J 8) (by omega) hT
  rw [HO.out]
  have hc := cell_of_one hh.out
  have hf := free_of_one hh.out
  have hcj : w.cell? ⟨q, J, none⟩ = some (.int .u32 (SP.bits J 8 : Nat)) := by
    rw [cell_of_row _ _ J _ _ _ hq.out, tab_get 256 J hJ, if_pos hJ]
  have hfj := frozen_of_row _ _ J _ _ hq.out
  generalize r / 256 ^^^ SP.bits J 8 = V at hx ⊢
  generalize SP.bits J 8 = T at hx hcj
  go_enter Tryz.func130, Tryz.ntmps130
  go_wp2
  go_region
  go_wp2
  go_ret
  exact ⟨rfl, Lib.hid (one_setCell hh.out), (wrote_set (Wrote.refl p w) _).drew⟩

/-- What the function that makes such a closure leaves. -/
def TabMade (r : Nat) (w : World) (e : Ending) (w' : World) : Prop :=
  ∃ q : Nat, w.heap.size < q ∧ e = .returned (.func (.func 130) #[] #[.pointer (some ⟨w.heap.size, 0, none⟩), .pointer (some ⟨q, 0, none⟩)]) ∧ w'.heap[w.heap.size]? = some (.cells #[.int .u32 r] 110 (0, 0)) ∧ w'.heap[q]? = some (.cells (tab 256) 184 (0, 0)) ∧ Below w.heap.size w w'

set_option maxRecDepth 100000 in
set_option maxHeartbeats 400000 in
theorem byTable_any (r : Nat) (w : World) : Calls Tryz.prog 115 #[.int .u32 r] w (TabMade r w) := by
  have hmf : ∀ (fn : Fn) (first cap : Array Value) (w : World), (Instr.makeFunc fn first cap).run Tryz.prog w = .ok (.func fn first cap) w := fun _ _ _ _ => rfl
  have hz := Tryz.zeroTab
  go_enter Tryz.func115, Tryz.ntmps115
  go_wp2_with fail
  refine (lowBytes_any _).mono ?_
  rintro e w1 ⟨rfl, hb⟩
  have h0 : Hid (w1.heap[w.heap.size]? = some (.cells #[.int .u32 r] 110 (0, 0))) := Lib.hid ((hb.block _ (by simp)).trans (heap_alloc_new _ _))
  have hs : w.heap.size + 1 ≤ w1.heap.size := by have := hb.size; simpa using this
  have hb' : Below w.heap.size w w1 := ((Below.refl _ w).alloc (Nat.le_refl _) _).trans (hb.mono (by simp))
  clear hb
  have hnew := Lib.hid (heap_alloc_new w1 (.cells (tab 0) 184))
  go_wp2_with (with_reducible refine wpList_store_rowTo rfl _ _ _ rfl rfl w1.heap.size (tab 256) rfl rfl _ _ hnew.out (by rw [tab_size]; exact Tryz.sizeTab) (by rw [tab_size, tab_size]) tab_one ?_)
  go_ret
  refine ⟨w1.heap.size, by omega, rfl, ?_, setRow_heap _ _ _ _ _ _ hnew.out, ?_⟩
  · rw [setRow_other _ _ _ _ (by omega), Below.heap_alloc _ _ _ (by omega)]
    exact h0.out
  · exact (hb'.alloc (by omega) _).trans ((below_setRow _ _ _).mono (by omega))

end Go.Proofs.YtembccehokodeaaGreatDoor.L7

namespace Go.Proofs.YtembccehokodeaaGreatDoor.L7
open Go.RowKit

theorem inv32 (c : Nat) (hc : c < 4294967296) : bits .xor .u32 IntKind.u32.max (c : Int) = (SP.inv c : Nat) := xor32 4294967295 c (by omega) hc

theorem take_snoc (s : ByteArray) (k : Nat) (h : k < s.size) : s.data.toList.take (k + 1) = s.data.toList.take k ++ [s[k]] := by
  rw [List.take_succ_eq_append_getElem (by simpa using h)]; rfl

theorem run_next (r : Nat) (s : ByteArray) (k : Nat) (h : k < s.size) : SP.one (SP.run r (s.data.toList.take k)) s[k] = SP.run r (s.data.toList.take (k + 1)) := by
  rw [take_snoc s k h, SP.run_snoc]

theorem take_all (s : ByteArray) : s.data.toList.take s.size = s.data.toList := List.take_of_length_le (by simp)

set_option maxHeartbeats 400000 in
theorem sumBehind_tab (c : Nat) (s : ByteArray) (w : World) (hc : c < 4294967296) (hs : s.size ≤ maxLen) :
    Calls Tryz.prog 114 #[.int .u32 c, .string s, .func (.func 115) #[] #[]] w fun e w' => e = .returned (.int .u32 (SP.more c s.data.toList : Nat)) ∧ Below w.heap.size w w' := by
  unfold maxLen at hs
  have hx := inv32 c hc
  have hi := SP.inv_lt c hc
  have HM := Lib.hid (show SP.more c s.data.toList = SP.inv (SP.run (SP.inv c) s.data.toList) from rfl)
  rw [HM.out]
  generalize SP.inv c = r at hx hi
  clear HM
  go_enter Tryz.func114, Tryz.ntmps114
  go_wp2_with fail
  refine (byTable_any r _).mono ?_
  rintro e w1 ⟨q, hq, rfl, h0, h1, hb1⟩
  have H0 := Lib.hid h0
  have H1 := Lib.hid h1
  clear h0 h1
  go_wp2_with fail
  go_loopw [7, 17] (fun g i wr => ∃ k : Nat, k ≤ s.size ∧ i = .int .i64 k ∧ g = .int .u32 (SP.run r (s.data.toList.take k) : Nat) ∧ Hid (wr.heap[w.heap.size]? = some (.cells #[.int .u32 (SP.run r (s.data.toList.take k) : Nat)] 110 (0, 0))) ∧ Hid (wr.heap[q]? = some (.cells (tab 256) 184 (0, 0))) ∧ Below w.heap.size w wr) (fun _ i _ => s.size - (intOf i).toNat)
  case atStart => exact ⟨0, Nat.zero_le _, rfl, rfl, H0, H1, hb1⟩
  case round =>
    obtain ⟨k, hk, rfl, rfl, hh, hqq, hb⟩ := hrel
    clear hx
    have hlt := SP.run_lt (s.data.toList.take k) r hi
    by_cases h : k < s.size
    · have HN := Lib.hid (run_next r s k h)
      revert hh hlt HN
      generalize SP.run r (s.data.toList.take k) = R
      intro hh hlt HN
      go_wp2_with fail
      refine (takeTab s[k] R w.heap.size q wr hlt hh hqq).mono ?_
      rintro e w2 ⟨rfl, hh2, hw2⟩
      rw [HN.out] at hh2 ⊢
      go_wp2_with fail
      go_roundw
      case rel => exact ⟨k + 1, by omega, by go_num, rfl, hh2, Lib.hid ((hw2.block q (lt_of_block hqq.out) (by simp; omega)).trans hqq.out), hb.trans (hw2.below (Nat.le_refl _) hb.size)⟩
      case measure => simp [intOf]; omega
    · obtain rfl : k = s.size := by omega
      have hx := inv32 _ hlt
      rw [take_all] at hx ⊢
      go_wp2_with fail
      go_ret
      exact ⟨rfl, hb⟩

theorem table_any (s : ByteArray) (w : World) (hs : s.size ≤ maxLen) :
    Calls Tryz.prog 96 #[.string s] w fun e w' => e = .returned (.int .u32 (SP.sum s.data.toList : Nat)) ∧ Below w.heap.size w w' := by
  go_enter Tryz.func96, Tryz.ntmps96
  go_wp2_with fail
  refine (sumBehind_tab 0 s _ (by omega) hs).mono ?_
  rintro e w1 ⟨rfl, hb⟩
  go_wp2_with fail
  go_ret
  exact ⟨rfl, hb⟩

end Go.Proofs.YtembccehokodeaaGreatDoor.L7

namespace Go.Proofs.YtembccehokodeaaGreatDoor.L7
open Go.RowKit
set_option linter.unusedVariables false
namespace WP
theorem leBytes_get : ∀ (k v j : Nat) (h : j < (Lib.leBytes k v).length), (Lib.leBytes k v)[j].toNat = v / 256 ^ j % 256
  | 0, v, j, h => by simp [Lib.leBytes] at h
  | k + 1, v, 0, h => by
    simp [Lib.leBytes]
  | k + 1, v, j + 1, h => by
    have h' : j < (Lib.leBytes k (v / 256)).length := by simpa [Lib.leBytes] using h
    have := leBytes_get k (v / 256) j h'
    simp only [Lib.leBytes, List.getElem_cons_succ]
    rw [this, Nat.div_div_eq_div_mul, Nat.pow_succ, Nat.mul_comm]
theorem pow_cell (v e : Nat) : ((v / 256 ^ e % 256 : Nat) : Int) = (v : Int) / 2 ^ (8 * e) % 256 := by
  rw [Int.pow_mul, Int.natCast_emod, Int.natCast_ediv, Int.natCast_pow]
  rfl
theorem take_snoc (s : ByteArray) (k : Nat) (h : k < s.size) : s.data.toList.take (k + 1) = s.data.toList.take k ++ [s[k]] := by
  rw [List.take_succ_eq_append_getElem (by simpa using h)]; rfl
/-- the four cells after k rounds -/
def fourAt (n : Int) (k : Nat) : Array Value := ((List.range 4).map fun i => if i < k then Value.int .u8 (n / 2 ^ (8 * i) % 256) else .int .u8 0).toArray
theorem fourAt_succ (n : Int) (k : Nat) : (fourAt n k).setIfInBounds k (.int .u8 (n / 2 ^ (8 * k) % 256)) = fourAt n (k + 1) := by
  unfold fourAt
  rw [List.setIfInBounds_toArray]
  congr 1
  apply List.ext_getElem
  · simp
  · intro i h1 h2
    simp only [List.getElem_set, List.getElem_map, List.getElem_range]
    by_cases h : k = i
    · subst h; simp
    · rw [if_neg h]
      by_cases h3 : i < k
      · rw [if_pos h3, if_pos (by omega)]
      · rw [if_neg h3, if_neg (by omega)]
theorem fourAt_get (n : Int) (k j : Nat) (h : k ≤ j) (hj : j < 4) : (fourAt n k)[j]? = some (.int .u8 0) := by
  unfold fourAt
  simp [hj, Nat.not_lt.2 h]
theorem fourAt_full (v j : Nat) (h : j < (Lib.leBytes 4 v).length) : (fourAt (v : Int) 4)[j]? = some (.int .u8 ((Lib.leBytes 4 v)[j].toNat : Int)) := by
  have hj : j < 4 := by simpa [Lib.leBytes_length] using h
  unfold fourAt
  simp only [List.getElem?_toArray, List.getElem?_map, List.getElem?_range hj, Option.map_some, if_pos hj]
  rw [leBytes_get, pow_cell]
theorem leNat_snoc : ∀ (l : List UInt8) (c : UInt8), Lib.leNat (l ++ [c]) = Lib.leNat l + c.toNat * 256 ^ l.length
  | [], c => by simp [Lib.leNat]
  | x :: l, c => by
    simp only [List.cons_append, Lib.leNat, leNat_snoc l c, List.length_cons, Nat.pow_succ, Nat.mul_add]
    have : 256 * (c.toNat * 256 ^ l.length) = c.toNat * (256 ^ l.length * 256) := by rw [Nat.mul_comm, Nat.mul_assoc]
    omega
theorem leNat_lt : ∀ (l : List UInt8), Lib.leNat l < 256 ^ l.length
  | [] => by simp [Lib.leNat]
  | x :: l => by
    have h := leNat_lt l
    have := x.toNat_lt
    simp only [Lib.leNat, List.length_cons, Nat.pow_succ]
    omega
theorem or_lo (v c k : Nat) (hk : k < 4) (hv : v < 256 ^ k) (hc : c < 256) : bits .or .u32 (v : Int) (IntKind.u32.wrap ((c : Int) * 2 ^ (8 * k))) = ((v + c * 256 ^ k : Nat) : Int) := by
  rcases (show k = 0 ∨ k = 1 ∨ k = 2 ∨ k = 3 by omega) with rfl | rfl | rfl | rfl
  · obtain rfl : v = 0 := by omega
    have := bits_join_low .u32 32 (by decide) (fun n a b => wraps_u32 n a b) 0 0 (c : Int) (by omega) (by omega) (by omega) (by omega) (by omega) (by omega)
    simp only [Nat.mul_zero, Int.pow_zero, Int.mul_one] at *
    rw [wraps_u32 _ (by omega) (by omega)]
    push_cast
    simpa using this
  · rw [wraps_u32 _ (by omega) (by omega), u32_or8 (v : Int) _ (by omega) (by omega) (by omega) (by omega) (by omega)]; omega
  · rw [wraps_u32 _ (by omega) (by omega), u32_or16 (v : Int) _ (by omega) (by omega) (by omega) (by omega) (by omega)]; omega
  · rw [wraps_u32 _ (by omega) (by omega), u32_or24 (v : Int) _ (by omega) (by omega) (by omega) (by omega) (by omega)]; omega
theorem drop_take_snoc (s : ByteArray) (a k : Nat) (h : a + k < s.size) : (s.data.toList.drop a).take (k + 1) = (s.data.toList.drop a).take k ++ [s[a + k]] := by
  rw [List.take_succ_eq_append_getElem (by simp; omega)]
  simp
  rfl
theorem rd_step (s : ByteArray) (a k : Nat) (h : a + k < s.size) (hk : k < 4) :
    bits .or .u32 ((Lib.leNat ((s.data.toList.drop a).take k) : Nat) : Int) ((s[a + k].toNat : Int) % 4294967296 * 2 ^ (8 * k) % 4294967296) = ((Lib.leNat ((s.data.toList.drop a).take (k + 1)) : Nat) : Int) := by
  have hb := leNat_lt ((s.data.toList.drop a).take k)
  have hl : ((s.data.toList.drop a).take k).length = k := by simp; omega
  rw [hl] at hb
  have hc := s[a + k].toNat_lt
  rw [drop_take_snoc s a k h, leNat_snoc, hl, show (s[a + k].toNat : Int) % 4294967296 = s[a + k].toNat by omega, ← IntKind.wrap_u32]
  exact or_lo _ _ k hk hb hc
end WP
theorem addr_at (b j : Nat) : (⟨b, 0, none⟩ : Addr).add j = ⟨b, j, none⟩ := by
  unfold Addr.add
  split <;> simp_all
set_option maxHeartbeats 400000 in
theorem four_any (n : Int) (w : World) (h0 : 0 ≤ n) (h1 : n ≤ 4294967295) :
    Calls Tryz.prog 86 #[.int .u32 n] w fun e w' => e = .returned (.string ⟨(Lib.leBytes 4 n.toNat).toArray⟩) ∧ Below w.heap.size w w' := by
  go_enter Tryz.func86, Tryz.ntmps86
  go_wp2
  go_loopw [5] (fun i wr => ∃ k : Nat, k ≤ 4 ∧ i = .int .i64 k ∧ Hid (wr.heap[w.heap.size]? = some (.cells (WP.fourAt n k) 146 (0, 0))) ∧ Below w.heap.size w wr) (fun i _ => 4 - (intOf i).toNat)
  case atStart =>
    exact ⟨0, Nat.zero_le _, rfl, Lib.hid (heap_alloc_new _ _), (Below.refl _ w).alloc (Nat.le_refl _) _⟩
  case round =>
    obtain ⟨k, hk, rfl, hh, hb⟩ := hrel
    by_cases hlt : k < 4
    · have hcell : wr.cell? ⟨w.heap.size, k, none⟩ = some (.int .u8 0) := by
        rw [cell_of_row _ _ k _ _ _ hh.out]
        exact WP.fourAt_get n k k (Nat.le_refl _) hlt
      have hfr := frozen_of_row _ _ k _ _ hh.out
      go_wp2
      go_roundw
      case rel =>
        refine ⟨k + 1, by omega, by go_num, ?_, ?_⟩
        · have h := heap_setCell_same wr _ k _ _ (.int .u8 (n / 2 ^ (8 * k) % 256)) hh.out
          rw [WP.fourAt_succ] at h
          exact Lib.hid h
        · exact hb.setCell (Nat.le_refl _) _
      case measure => simp [intOf]; omega
    · obtain rfl : k = 4 := by omega
      obtain ⟨v, rfl⟩ := Int.eq_ofNat_of_zero_le h0
      have hcv : ∀ c, (convert 94 9 (.slice (some ⟨w.heap.size, 0, none⟩) 4 c)).run Tryz.prog wr = .ok (.string ⟨(Lib.leBytes 4 v).toArray⟩) wr := fun c =>
        run_convert_bytes_back (P := Tryz.prog) wr 94 9 5 ⟨w.heap.size, 0, none⟩ c (Lib.leBytes 4 v) Tryz.underlying94 Tryz.underlying5 Tryz.underlying9 (fun j hj => by
          have e := cell_of_row _ _ j _ _ _ hh.out
          rw [WP.fourAt_full v j hj] at e
          rwa [addr_at])
      go_wp2
      go_ret
      exact ⟨by simp, hb⟩

set_option maxHeartbeats 400000 in
theorem read_any (s : ByteArray) (i : Int) (w : World) (h0 : 0 ≤ i) (h1 : i + 4 ≤ s.size) (h2 : s.size ≤ maxLen) :
    Calls Tryz.prog 117 #[.string s, .int .i64 i] w fun e w' => e = .returned (.tuple #[.int .u32 (Lib.leNat ((s.data.toList.drop i.toNat).take 4)), .int .i64 0]) ∧ w = w' := by
  obtain ⟨a, rfl⟩ := Int.eq_ofNat_of_zero_le h0
  unfold maxLen at h2
  have d1 : decide ((a : Int) < 0) = false := decide_eq_false (by omega)
  have d2 : decide (s.size < a) = false := decide_eq_false (by omega)
  have d3 : decide ((s.size : Int) - a < 4) = false := decide_eq_false (by omega)
  go_enter Tryz.func117, Tryz.ntmps117
  go_wp2
  go_loop [6, 21] (fun n i => ∃ k : Nat, k ≤ 4 ∧ i = .int .i64 k ∧ n = .int .u32 (Lib.leNat ((s.data.toList.drop a).take k) : Nat)) (fun _ i => 4 - (intOf i).toNat)
  case atStart => exact ⟨0, Nat.zero_le _, rfl, rfl⟩
  case round =>
    obtain ⟨k, hk, rfl, rfl⟩ := hrel
    by_cases hlt : k < 4
    · have HO := Lib.hid (WP.rd_step s a k (by omega) hlt)
      go_wp2
      go_round
      case rel =>
        refine ⟨k + 1, by omega, by go_num, ?_⟩
        rw [← HO.out]
      case measure => simp [intOf]; omega
    · obtain rfl : k = 4 := by omega
      go_wp2
      go_ret2
      exact ⟨rfl, rfl⟩

end Go.Proofs.YtembccehokodeaaGreatDoor.L7

namespace Go.Proofs.YtembccehokodeaaGreatDoor.L7
open Go.RowKit
set_option linter.unusedVariables false

namespace WP
theorem drop_cons (s : ByteArray) (i : Nat) (h : i < s.size) : s.data.toList.drop i = s[i] :: s.data.toList.drop (i + 1) := by
  rw [List.drop_eq_getElem_cons (by simpa using h)]
  rfl
end WP
theorem below_alloc (w : World) (o : Obj) : Below w.heap.size w (w.alloc o) := (Below.refl _ w).alloc (Nat.le_refl _) o
theorem below_drewN {c : Nat} {w v : World} (h : Below c w v) (n : Nat) : Below c w (v.drewN n) := ⟨h.os, h.tape, h.output, h.size, h.block⟩
theorem below_of_drew {w v : World} (h : Below w.drew.heap.size w.drew v) : Below w.heap.size w v := ⟨h.os, h.tape, h.output, h.size, h.block⟩
theorem conv_new (w : World) (xs : List Int) (t e s : TypeId) {P : Program} (ht : P.underlying t = some (.slice e)) (he : P.underlying e = some (.int .u8)) (hs : P.underlying s = some .string) :
    (convert t s (.slice (some ⟨w.heap.size, 0, none⟩) xs.length xs.length)).run P (w.alloc (.cells (xs.map (Value.int .u8)).toArray e)) = .ok (.string (strOfNums xs)) (w.alloc (.cells (xs.map (Value.int .u8)).toArray e)) := by
  refine run_convert_bytes_arg _ t e ht he _ 0 _ _ xs rfl (fun i hi => ?_) s hs
  rw [Nat.zero_add, cell_of_row _ _ i _ _ _ (heap_alloc_new _ _)]
  simp [hi]

theorem u8n (a b : Nat) (h : a % 256 = b % 256) : UInt8.ofNat a = b.toUInt8 := by
  apply UInt8.toNat_inj.1
  simp [Nat.toUInt8, h]

theorem ret_nums {xs : List Int} {l : List UInt8} (h : xs.map (fun n => UInt8.ofNat n.toNat) = l) : Ending.returned (.string (strOfNums xs)) = .returned (.string ⟨l.toArray⟩) := by
  unfold strOfNums
  rw [h]

set_option maxHeartbeats 400000 in
theorem rfour_any (n : Int) (w : World) (h0 : 0 ≤ n) (h1 : n ≤ 4294967295) :
    Calls Tryz.prog 69 #[.int .u32 n] w fun e w' => e = .returned (.string ⟨(Lib.leBytes 4 n.toNat).toArray⟩) ∧ Below w.heap.size w w' := by
  have hc := fun a b c d => conv_new w [a, b, c, d] 94 5 9 Tryz.underlying94 Tryz.underlying5 Tryz.underlying9
  simp only [List.length_cons, List.length_nil, List.map_cons, List.map_nil, Nat.zero_add, Nat.reduceAdd] at hc
  go_enter Tryz.func69, Tryz.ntmps69
  go_wp2_with fail
  go_ret
  refine ⟨?_, (Below.refl _ w).alloc (Nat.le_refl _) _⟩
  refine (ret_nums (xs := [n % 256, n / 256 % 256, n / 65536 % 256, n / 16777216]) ?_)
  simp only [List.map_cons, List.map_nil, Lib.leBytes]
  rw [u8n _ (n.toNat % 256) (by omega), u8n _ (n.toNat / 256 % 256) (by omega), u8n _ (n.toNat / 256 / 256 % 256) (by omega), u8n _ (n.toNat / 256 / 256 / 256 % 256) (by omega)]

/-- the cells of bytes -/
def byteCells (l : List UInt8) : List Value := l.map fun b => .int .u8 b.toNat

theorem own_none {w : World} {base : Nat} {t : TypeId} (h : base ≤ w.heap.size) : (w.alloc (.cells #[] t)).ownsRow base t 1 (.slice (some ⟨w.heap.size, 0, none⟩) 0 0) 0 [] :=
  ⟨rfl, .inr ⟨w.heap.size, 0, #[], rfl, h, heap_alloc_new _ _, Nat.le_refl _, by unfold maxLen; omega, rfl, rfl⟩⟩

theorem conv_own {P : Program} {w : World} {base : Nat} {t e s : TypeId} {g n cap : Nat} {l : List UInt8} (ht : P.underlying t = some (.slice e)) (he : P.underlying e = some (.int .u8)) (hs : P.underlying s = some .string)
    (h : w.ownsRow base e 1 (.slice (some ⟨g, 0, none⟩) n cap) n (byteCells l)) (hl : l.length = n) : (convert t s (.slice (some ⟨g, 0, none⟩) n cap)).run P w = .ok (.string ⟨l.toArray⟩) w := by
  subst hl
  refine run_convert_bytes_back w t s e _ cap l ht he hs (fun j hj => ?_)
  rw [addr_at, h.cellAt j (by omega)]
  simp [byteCells, hj]

theorem Tryz.infoByte : (Tryz.prog.info? 5).map (fun i => (i.zero, i.size, i.bytes)) = some (some (.int .u8 0), 1, 1) := by kernel_rfl

theorem byteCells_snoc (l : List UInt8) (b : UInt8) : byteCells (l ++ [b]) = byteCells l ++ [.int .u8 b.toNat] := by simp [byteCells]

set_option maxHeartbeats 400000 in
theorem refRepeat_any (c : UInt8) (n : Nat) (w : World) (hn : n ≤ 100000) :
    Calls Tryz.prog 30 #[.int .u8 c.toNat, .int .i64 n] w fun e w' => e = .returned (.string ⟨(List.replicate n c).toArray⟩) ∧ Below w.heap.size w w' := by
  obtain ⟨i0, hi, hz0, hz1, hz2⟩ := info_parts Tryz.infoByte
  go_enter Tryz.func30, Tryz.ntmps30
  go_wp2_with fail
  go_loopw [5, 6] (fun v i wr => ∃ (k g cap : Nat), k ≤ n ∧ i = .int .i64 k ∧ v = .slice (some ⟨g, 0, none⟩) k cap ∧ w.heap.size ≤ g ∧ wr.ownsRow w.heap.size 5 1 (.slice (some ⟨g, 0, none⟩) k cap) k (byteCells (List.replicate k c)) ∧ Below w.heap.size w wr) (fun _ i _ => n - (intOf i).toNat)
  case atStart => exact ⟨0, w.heap.size, 0, by omega, rfl, rfl, Nat.le_refl _, own_none (Nat.le_refl _), (Below.refl _ w).alloc (Nat.le_refl _) _⟩
  case round =>
    obtain ⟨k, g, cap, hk, rfl, rfl, hg, hown, hb⟩ := hrel
    have hbs := hb.size
    by_cases hlt : k < n
    · go_wp2_with (at_builtin; refine wpList_append_lies _ rfl _ _ 94 rfl w.heap.size 5 i0 (.int .u8 0) 1 1 Tryz.underlying94 hi hz0 hz1 hz2 rfl (by decide) (.slice (some ⟨g, 0, none⟩) k cap) k _ rfl (hown.alloc _) ⟨wr.heap.size, 0, none⟩ 1 1 [.int .u8 c.toNat] rfl rfl (World.news_of_block (cs := #[.int .u8 c.toNat]) (t := 5) (fr := (0, 0)) (heap_alloc_new wr _)) (by simp [Value.oneCell']) (by omega) (by unfold maxLen; omega) (by omega) (by simp; omega) (wr.heap.size + 1) (by simp) ?_; intro g' cap' w1 hown1 hgrow hat hlt1)
      have hg' : w.heap.size ≤ g' := by rcases hat with h | h; (simp [Value.ownBlock] at h; omega); omega
      have hb' : Below w.heap.size w w1 := (hb.alloc hbs _).grown hgrow (by simp; omega) (fun j e => by simp [Value.ownBlock] at e; omega)
      clear hat hgrow hlt1
      go_roundw
      case rel => exact ⟨k + 1, g', cap', by omega, by go_num, rfl, hg', by rw [List.replicate_succ', byteCells_snoc]; exact hown1, hb'⟩
      case measure => simp [intOf]; omega
    · obtain rfl : k = n := by omega
      have hcv := conv_own Tryz.underlying94 Tryz.underlying5 Tryz.underlying9 hown (by simp)
      go_wp2_with fail
      go_ret
      exact ⟨rfl, hb⟩

set_option maxHeartbeats 400000 in
theorem refOne_any (r : Nat) (c : UInt8) (w : World) (hr : r < 4294967296) :
    Calls Tryz.prog 116 #[.int .u32 r, .int .u8 c.toNat] w fun e w' => e = .returned (.int .u32 (SP.one r c : Nat)) ∧ w = w' := by
  have hx := xor32 r c.toNat hr (SP.u8_lt c)
  have hcl := c.toNat_lt
  have hq := SP.xor_lt r c.toNat hr (SP.u8_lt c)
  have HO := Lib.hid (show SP.one r c = SP.bits (r ^^^ c.toNat) 8 from rfl)
  rw [HO.out]
  generalize r ^^^ c.toNat = Q at hx hq
  go_enter Tryz.func116, Tryz.ntmps116
  go_wp2
  go_loop [0, 5] (fun g i => ∃ k : Nat, k ≤ 8 ∧ i = .int .i64 k ∧ g = .int .u32 (SP.bits Q k : Nat)) (fun _ i => 8 - (intOf i).toNat)
  case atStart => exact ⟨0, Nat.zero_le _, rfl, rfl⟩
  case round =>
    obtain ⟨k, hk, rfl, rfl⟩ := hrel
    clear hx
    have hlt := SP.bits_lt _ hq k
    have HB := Lib.hid (show SP.bits Q (k + 1) = SP.bit (SP.bits Q k) from rfl)
    by_cases h8 : k < 8
    · revert hlt HB
      generalize SP.bits Q k = R
      intro hlt HB
      by_cases h2 : R % 2 = 1
      · have H2 := Lib.hid h2
        have hd : ((R : Int) % 2 == 1) = true := by rw [beq_iff_eq]; omega
        clear h2
        have hx : bits .xor .u32 ((R : Int) / 2) 2197175160 = ((R / 2 ^^^ 2197175160 : Nat) : Int) := xor32 (R / 2) 2197175160 (by omega) (by omega)
        go_wp2
        go_round
        case rel =>
          refine ⟨k + 1, by omega, by go_num, ?_⟩
          rw [HB.out, show SP.bit R = R / 2 ^^^ 2197175160 by unfold SP.bit; rw [if_pos H2.out]]
        case measure => simp [intOf]; omega
      · have H0 : Hid (R % 2 = 0) := Lib.hid (by omega)
        have hd : ((R : Int) % 2 == 1) = false := by rw [beq_eq_false_iff_ne]; omega
        clear h2
        go_wp2
        go_round
        case rel =>
          refine ⟨k + 1, by omega, by go_num, ?_⟩
          rw [HB.out, show SP.bit R = R / 2 by unfold SP.bit; rw [if_neg (by rw [H0.out]; omega)]]
          go_num
        case measure => simp [intOf]; omega
    · obtain rfl : k = 8 := by omega
      go_wp2
      go_ret
      exact ⟨rfl, rfl⟩

theorem sub32 (c : Nat) (hc : c < 4294967296) : (4294967295 : Int) - c = (SP.inv c : Nat) := by rw [SP.inv_sub c hc]; omega

set_option maxHeartbeats 400000 in
theorem refMore_any (c : Nat) (s : ByteArray) (w : World) (hc : c < 4294967296) (hs : s.size ≤ maxLen) :
    Calls Tryz.prog 98 #[.int .u32 c, .string s] w fun e w' => e = .returned (.int .u32 (SP.more c s.data.toList : Nat)) ∧ w = w' := by
  unfold maxLen at hs
  have hx := sub32 c hc
  have hi := SP.inv_lt c hc
  have HM := Lib.hid (show SP.more c s.data.toList = SP.inv (SP.run (SP.inv c) s.data.toList) from rfl)
  rw [HM.out]
  generalize SP.inv c = r at hx hi
  clear HM
  go_enter Tryz.func98, Tryz.ntmps98
  go_wp2
  go_loop [5, 6] (fun g i => ∃ k : Nat, k ≤ s.size ∧ i = .int .i64 k ∧ g = .int .u32 (SP.run r (s.data.toList.take k) : Nat)) (fun _ i => s.size - (intOf i).toNat)
  case atStart => exact ⟨0, Nat.zero_le _, rfl, rfl⟩
  case round =>
    obtain ⟨k, hk, rfl, rfl⟩ := hrel
    clear hx
    have hlt := SP.run_lt (s.data.toList.take k) r hi
    by_cases h : k < s.size
    · have HN := Lib.hid (run_next r s k h)
      revert hlt HN
      generalize SP.run r (s.data.toList.take k) = R
      intro hlt HN
      go_wp2_with fail
      refine (refOne_any R s[k] w hlt).mono ?_
      rintro e w2 ⟨rfl, rfl⟩
      rw [HN.out]
      go_wp2_with fail
      go_round
      case rel => exact ⟨k + 1, by omega, by go_num, rfl⟩
      case measure => simp [intOf]; omega
    · obtain rfl : k = s.size := by omega
      have hx := sub32 _ hlt
      have hi' := SP.inv_lt _ hlt
      rw [take_all] at hx hi' ⊢
      go_wp2_with fail
      go_ret
      exact ⟨rfl, rfl⟩

theorem refSum_any (s : ByteArray) (w : World) (hs : s.size ≤ maxLen) :
    Calls Tryz.prog 70 #[.string s] w fun e w' => e = .returned (.int .u32 (SP.sum s.data.toList : Nat)) ∧ w = w' := by
  go_enter Tryz.func70, Tryz.ntmps70
  go_wp2_with fail
  refine (refMore_any 0 s _ (by omega) hs).mono ?_
  rintro e w1 ⟨rfl, rfl⟩
  go_wp2_with fail
  go_ret
  exact ⟨rfl, rfl⟩

theorem sizeRef_any (p : Int) (w : World) : Calls Tryz.prog 26 #[.int .i64 p] w fun e w' => e = .returned (.bool (decide (p = 128 ∨ p = 256 ∨ p = 512 ∨ p = 1024))) ∧ w = w' := by
  by_cases h1 : p = 128
  · subst h1
    go_enter Tryz.func26, Tryz.ntmps26
    go_wp2_with fail
    go_ret
    exact ⟨rfl, rfl⟩
  have e1 : (p == 128) = false := beq_eq_false_iff_ne.2 h1
  by_cases h2 : p = 256
  · subst h2
    go_enter Tryz.func26, Tryz.ntmps26
    go_wp2_with fail
    go_ret
    exact ⟨rfl, rfl⟩
  have e2 : (p == 256) = false := beq_eq_false_iff_ne.2 h2
  by_cases h3 : p = 512
  · subst h3
    go_enter Tryz.func26, Tryz.ntmps26
    go_wp2_with fail
    go_ret
    exact ⟨rfl, rfl⟩
  have e3 : (p == 512) = false := beq_eq_false_iff_ne.2 h3
  by_cases h4 : p = 1024
  · subst h4
    go_enter Tryz.func26, Tryz.ntmps26
    go_wp2_with fail
    go_ret
    exact ⟨rfl, rfl⟩
  have e4 : (p == 1024) = false := beq_eq_false_iff_ne.2 h4
  have hv : decide (p = 128 ∨ p = 256 ∨ p = 512 ∨ p = 1024) = false := by simp [h1, h2, h3, h4]
  rw [hv]
  clear h1 h2 h3 h4 hv
  go_enter Tryz.func26, Tryz.ntmps26
  go_wp2_with fail
  go_ret
  exact ⟨rfl, rfl⟩

end Go.Proofs.YtembccehokodeaaGreatDoor.L7

namespace Go.Proofs.YtembccehokodeaaGreatDoor.L7
open Go.RowKit
set_option linter.unusedVariables false

/-- A head, as the program and the document hold one. -/
def hv (h : HP.H) : Value := .agg #[.int .i64 h.k, .int .i64 h.l, .int .i64 h.c, .int .i64 h.r, .int .i64 h.s]
set_option maxHeartbeats 1000000 in
theorem refRight_any (h : HP.H) (w : World) :
    Calls Tryz.prog 68 #[hv h] w fun e w' => e = .returned (.bool (HP.right h)) ∧ Below w.heap.size w w' := by
  obtain ⟨k, l, c, r, s⟩ := h
  unfold hv
  by_cases h0 : 1 ≤ k
  · by_cases h1 : k ≤ 4
    · by_cases h2 : 0 ≤ l
      · by_cases h3 : l ≤ 255
        · by_cases h4 : 0 ≤ c
          · by_cases h5 : c ≤ 65535
            · by_cases h6 : 0 ≤ r
              · by_cases h7 : r ≤ 4095
                · by_cases h8 : 0 ≤ s
                  · by_cases h9 : s ≤ 4095
                    · have hv : HP.right ⟨k, l, c, r, s⟩ = true := by
                        unfold HP.right HP.Ok
                        exact decide_eq_true (by simp only; omega)
                      rw [hv]
                      clear hv
                      go_enter Tryz.func68, Tryz.ntmps68
                      go_wp2_with fail
                      go_ret
                      exact ⟨rfl, (Below.refl _ w).alloc (Nat.le_refl _) _⟩
                    · have hv : HP.right ⟨k, l, c, r, s⟩ = false := by
                        unfold HP.right HP.Ok
                        exact decide_eq_false (by simp only; omega)
                      rw [hv]
                      clear hv
                      go_enter Tryz.func68, Tryz.ntmps68
                      go_wp2_with fail
                      go_ret
                      exact ⟨rfl, (Below.refl _ w).alloc (Nat.le_refl _) _⟩
                  · have hv : HP.right ⟨k, l, c, r, s⟩ = false := by
                      unfold HP.right HP.Ok
                      exact decide_eq_false (by simp only; omega)
                    rw [hv]
                    clear hv
                    go_enter Tryz.func68, Tryz.ntmps68
                    go_wp2_with fail
                    go_ret
                    exact ⟨rfl, (Below.refl _ w).alloc (Nat.le_refl _) _⟩
                · have hv : HP.right ⟨k, l, c, r, s⟩ = false := by
                    unfold HP.right HP.Ok
                    exact decide_eq_false (by simp only; omega)
                  rw [hv]
                  clear hv
                  go_enter Tryz.func68, Tryz.ntmps68
                  go_wp2_with fail
                  go_ret
                  exact ⟨rfl, (Below.refl _ w).alloc (Nat.le_refl _) _⟩
              · have hv : HP.right ⟨k, l, c, r, s⟩ = false := by
                  unfold HP.right HP.Ok
                  exact decide_eq_false (by simp only; omega)
                rw [hv]
                clear hv
                go_enter Tryz.func68, Tryz.ntmps68
                go_wp2_with fail
                go_ret
                exact ⟨rfl, (Below.refl _ w).alloc (Nat.le_refl _) _⟩
            · have hv : HP.right ⟨k, l, c, r, s⟩ = false := by
                unfold HP.right HP.Ok
                exact decide_eq_false (by simp only; omega)
              rw [hv]
              clear hv
              go_enter Tryz.func68, Tryz.ntmps68
              go_wp2_with fail
              go_ret
              exact ⟨rfl, (Below.refl _ w).alloc (Nat.le_refl _) _⟩
          · have hv : HP.right ⟨k, l, c, r, s⟩ = false := by
              unfold HP.right HP.Ok
              exact decide_eq_false (by simp only; omega)
            rw [hv]
            clear hv
            go_enter Tryz.func68, Tryz.ntmps68
            go_wp2_with fail
            go_ret
            exact ⟨rfl, (Below.refl _ w).alloc (Nat.le_refl _) _⟩
        · have hv : HP.right ⟨k, l, c, r, s⟩ = false := by
            unfold HP.right HP.Ok
            exact decide_eq_false (by simp only; omega)
          rw [hv]
          clear hv
          go_enter Tryz.func68, Tryz.ntmps68
          go_wp2_with fail
          go_ret
          exact ⟨rfl, (Below.refl _ w).alloc (Nat.le_refl _) _⟩
      · have hv : HP.right ⟨k, l, c, r, s⟩ = false := by
          unfold HP.right HP.Ok
          exact decide_eq_false (by simp only; omega)
        rw [hv]
        clear hv
        go_enter Tryz.func68, Tryz.ntmps68
        go_wp2_with fail
        go_ret
        exact ⟨rfl, (Below.refl _ w).alloc (Nat.le_refl _) _⟩
    · have hv : HP.right ⟨k, l, c, r, s⟩ = false := by
        unfold HP.right HP.Ok
        exact decide_eq_false (by simp only; omega)
      rw [hv]
      clear hv
      go_enter Tryz.func68, Tryz.ntmps68
      go_wp2_with fail
      go_ret
      exact ⟨rfl, (Below.refl _ w).alloc (Nat.le_refl _) _⟩
  · have hv : HP.right ⟨k, l, c, r, s⟩ = false := by
      unfold HP.right HP.Ok
      exact decide_eq_false (by simp only; omega)
    rw [hv]
    clear hv
    go_enter Tryz.func68, Tryz.ntmps68
    go_wp2_with fail
    go_ret
    exact ⟨rfl, (Below.refl _ w).alloc (Nat.le_refl _) _⟩
end Go.Proofs.YtembccehokodeaaGreatDoor.L7

namespace Go.Proofs.YtembccehokodeaaGreatDoor.L7
open Go.RowKit
set_option linter.unusedVariables false

theorem le4_size (v : Nat) : (⟨(Lib.leBytes 4 v).toArray⟩ : ByteArray).size = 4 := by simp [ByteArray.size, Lib.leBytes_length]
/-- A head's box. -/
def Bx (t : TypeId) (g : Nat) (h : HP.H) (w : World) : Prop := w.heap[g]? = some (.cells #[.int .i64 h.k, .int .i64 h.l, .int .i64 h.c, .int .i64 h.r, .int .i64 h.s] t (0, 0))
theorem Bx.cells {t : TypeId} {g : Nat} {h : HP.H} {w : World} (k : Bx t g h w) : w.cell? ⟨g, 0, none⟩ = some (.int .i64 h.k) ∧ w.cell? ⟨g, 1, none⟩ = some (.int .i64 h.l) ∧ w.cell? ⟨g, 2, none⟩ = some (.int .i64 h.c) ∧ w.cell? ⟨g, 3, none⟩ = some (.int .i64 h.r) ∧ w.cell? ⟨g, 4, none⟩ = some (.int .i64 h.s) := by
  unfold Bx at k
  refine ⟨?_, ?_, ?_, ?_, ?_⟩ <;> simp [World.cell?, k]
theorem Bx.lt {t : TypeId} {g : Nat} {h : HP.H} {w : World} (k : Bx t g h w) : g < w.heap.size := (Array.getElem?_eq_some_iff.1 k).1
theorem Bx.below {t : TypeId} {g : Nat} {h : HP.H} {w w' : World} (k : Bx t g h w) (b : Below w.heap.size w w') : Bx t g h w' := (b.block g k.lt).trans k
/-- What a region holds of a head's box. -/
def HasBx (t : TypeId) (g : Nat) (h : HP.H) (w : World) : Prop := Hid (Bx t g h w) ∧ w.cell? ⟨g, 0, none⟩ = some (.int .i64 h.k) ∧ w.cell? ⟨g, 1, none⟩ = some (.int .i64 h.l) ∧ w.cell? ⟨g, 2, none⟩ = some (.int .i64 h.c) ∧ w.cell? ⟨g, 3, none⟩ = some (.int .i64 h.r) ∧ w.cell? ⟨g, 4, none⟩ = some (.int .i64 h.s)
theorem hasBx {t : TypeId} {g : Nat} {h : HP.H} {w : World} (k : Bx t g h w) : HasBx t g h w := ⟨Lib.hid k, k.cells⟩
theorem HasBx.below {t : TypeId} {g : Nat} {h : HP.H} {w w' : World} (k : HasBx t g h w) (b : Below w.heap.size w w') : HasBx t g h w' := hasBx (k.1.out.below b)
theorem HasBx.alloc {t : TypeId} {g : Nat} {h : HP.H} {w : World} (k : HasBx t g h w) (o : Obj) : HasBx t g h (w.alloc o) := k.below ((Below.refl _ w).alloc (Nat.le_refl _) _)
/-- A head is stored into its box. -/
def set5 (w : World) (g : Nat) (h : HP.H) : World := ((((w.setCell ⟨g, 0, none⟩ (.int .i64 h.k)).setCell ⟨g, 1, none⟩ (.int .i64 h.l)).setCell ⟨g, 2, none⟩ (.int .i64 h.c)).setCell ⟨g, 3, none⟩ (.int .i64 h.r)).setCell ⟨g, 4, none⟩ (.int .i64 h.s)
theorem set5_box {t : TypeId} {w : World} {g : Nat} {h : HP.H} (k : Bx t g h w) (h' : HP.H) : Bx t g h' (set5 w g h') := by
  unfold Bx at *
  unfold set5
  have h0 := heap_setCell_same w g 0 _ _ (.int .i64 h'.k) k
  have h1 := heap_setCell_same _ g 1 _ _ (.int .i64 h'.l) h0
  have h2 := heap_setCell_same _ g 2 _ _ (.int .i64 h'.c) h1
  have h3 := heap_setCell_same _ g 3 _ _ (.int .i64 h'.r) h2
  have h4 := heap_setCell_same _ g 4 _ _ (.int .i64 h'.s) h3
  exact h4
theorem set5_other {w : World} {g q : Nat} (h : q ≠ g) (h' : HP.H) : (set5 w g h').heap[q]? = w.heap[q]? := by
  unfold set5
  have hh : ∀ (W : World) (o : Nat) (v : Value), (W.setCell ⟨g, o, none⟩ v).heap[q]? = W.heap[q]? := fun W o v => Below.heap_setCell W ⟨g, o, none⟩ v q (fun e' => h (by first | exact e' | exact e'.symm))
  rw [hh, hh, hh, hh, hh]
theorem set5_below {w W : World} {g : Nat} (h : Below w.heap.size w W) (hg : w.heap.size ≤ g) (h' : HP.H) : Below w.heap.size w (set5 W g h') :=
  ((((h.setCell hg _).setCell hg _).setCell hg _).setCell hg _).setCell hg _
theorem Bx.set5 {t : TypeId} {w : World} {g q : Nat} {h : HP.H} (k : Bx t q h w) (hq : q ≠ g) (h' : HP.H) : Bx t q h (Go.Proofs.YtembccehokodeaaGreatDoor.L7.set5 w g h') := by
  unfold Bx at *
  rw [set5_other hq]
  exact k
theorem Bx.frozen {t : TypeId} {g : Nat} {h : HP.H} {w : World} (k : Bx t g h w) : w.frozen? ⟨g, 0, none⟩ = false ∧ w.frozen? ⟨g, 1, none⟩ = false ∧ w.frozen? ⟨g, 2, none⟩ = false ∧ w.frozen? ⟨g, 3, none⟩ = false ∧ w.frozen? ⟨g, 4, none⟩ = false := by
  unfold Bx at k
  refine ⟨?_, ?_, ?_, ?_, ?_⟩ <;> simp [World.frozen?, k]
end Go.Proofs.YtembccehokodeaaGreatDoor.L7

namespace Go.Proofs.YtembccehokodeaaGreatDoor.L7
open Go.RowKit
set_option linter.unusedVariables false
set_option linter.unusedSimpArgs false

/-- A text's bytes. -/
abbrev B (s : ByteArray) : List UInt8 := s.data.toList
theorem b_size (s : ByteArray) : (B s).length = s.size := by simp [B]
/-- The cells of a text's bytes. -/
def txt (s : ByteArray) : Array Value := (Lib.byteCells (B s)).toArray
theorem txt_size (s : ByteArray) : (txt s).size = s.size := by simp [txt, Lib.byteCells_length]

set_option maxHeartbeats 2000000 in
set_option maxRecDepth 100000 in
theorem litClone_any (s : ByteArray) (w : World) (hs : s.size ≤ 1000000) :
    Calls Tryz.prog 81 #[.string s] w fun e w' => e = .returned (.string s) ∧ Below w.heap.size w w' := by
  by_cases h0 : s.size = 0
  · obtain rfl : s = ⟨#[]⟩ := ByteArray.ext (Array.eq_empty_of_size_eq_zero h0)
    go_enter Tryz.func81, Tryz.ntmps81
    go_wp2
    go_ret
    exact ⟨rfl, Below.refl _ _⟩
  · obtain ⟨i0, hi, hz0, hz1, hz2⟩ := info_parts Tryz.infoByte
    have hsz : (Tryz.prog.info? 5).map (·.size) = some 1 := by rw [hi]; simp [hz1]
    have hcells : Tryz.prog.cellsOf 5 = 1 := by simp [Program.cellsOf, hi, hz1]
    obtain ⟨Z, hZ⟩ : ∃ Z, Z = madeCells (Value.int .u8 0).cells (((s.size : Nat) : Int).toNat * i0.size) := ⟨_, rfl⟩
    have hZs : Z.size = s.size := by rw [hZ, size_madeCells, hz1]; simp
    -- the bytes are made,
    have mk : ∀ W : World, (Instr.makeSlice 94 (.int .i64 (s.size : Int)) (.int .i64 (s.size : Int))).run Tryz.prog W = .ok (.slice (some ⟨W.heap.size, 0, none⟩) s.size s.size) (W.alloc (.cells Z 5)) := fun W => by
      have h := run_make (P := Tryz.prog) W 94 5 i0 (.int .u8 0) Tryz.underlying94 hi hz0 .i64 .i64 (s.size : Int) (s.size : Int) (by omega) (by omega) (by rw [hz2]; omega) (by omega)
      rw [← hZ] at h
      simpa using h
    clear hZ
    -- become the text's,
    have heap1 := heap_alloc_new w (.cells Z 5)
    have cp := Lib.run_copy_row_string (P := Tryz.prog) (w.alloc (.cells Z 5)) 94 9 3 5 w.heap.size 0 s.size s.size s Z 5 Tryz.underlying94 hsz heap1 (Nat.le_refl _) (by omega)
    rw [show (Z.toList.take 0 ++ Lib.byteCells s.data.toList ++ Z.toList.drop (0 + s.size)).toArray = txt s by
      rw [List.take_zero, List.nil_append, List.drop_of_length_le (by simp; omega), List.append_nil]; rfl] at cp
    have heap2 : ((w.alloc (.cells Z 5)).setRow w.heap.size (txt s)).heap[w.heap.size]? = some (.cells (txt s) 5 (0, 0)) := setRow_heap _ _ Z _ 5 (0, 0) heap1
    have hb2 : Below w.heap.size w ((w.alloc (.cells Z 5)).setRow w.heap.size (txt s)) := (below_alloc w _).trans ⟨rfl, rfl, rfl, by simp, fun k hk => setRow_other _ _ _ _ (by omega)⟩
    have hne : B s ≠ [] := fun e => h0 (by rw [← b_size, e]; rfl)
    generalize (w.alloc (.cells Z 5)).setRow w.heap.size (txt s) = w2 at *
    -- and are the answer.
    have us := Lib.run_unsafeString_row (P := Tryz.prog) w2 144 3 9 5 Tryz.underlying144 hcells w.heap.size (txt s).size (by unfold World.shape?; rw [heap2]) (B s) hne (by rw [b_size, txt_size]; exact Nat.le_refl _) (by rw [b_size]; omega)
      (fun j x hx => Lib.cells_of_row heap2 (txt s).size j _ (by rw [List.take_of_length_le (by rw [Array.length_toList]; exact Nat.le_refl _)]; simp [txt, Lib.byteCells, hx]))
    rw [b_size] at us
    have hfz := Lib.below_freeze hb2 (p := ⟨w.heap.size, 0, none⟩) (Nat.le_refl _) s.size
    go_enter Tryz.func81, Tryz.ntmps81
    go_wp2
    go_ret
    exact ⟨rfl, hfz⟩

theorem clone_any (s : ByteArray) (w : World) (hs : s.size ≤ 1000000) :
    Calls Tryz.prog 52 #[.string s] w fun e w' => e = .returned (.string s) ∧ Below w.heap.size w w' := by
  go_enter Tryz.func52, Tryz.ntmps52
  go_wp2_with fail
  refine (litClone_any s _ hs).mono ?_
  rintro e w1 ⟨rfl, hb1⟩
  go_wp2_with fail
  go_ret
  exact ⟨rfl, hb1⟩
end Go.Proofs.YtembccehokodeaaGreatDoor.L7

namespace Go.Proofs.YtembccehokodeaaGreatDoor.L7
open Go.RowKit
set_option linter.unusedVariables false

set_option maxHeartbeats 400000 in
theorem refNumber_any (s : ByteArray) (w : World) (h4 : s.size ≤ 4) :
    Calls Tryz.prog 55 #[.string s] w fun e w' => e = .returned (.int .i64 (Lib.leNat s.data.toList : Nat)) ∧ w = w' := by
  go_enter Tryz.func55, Tryz.ntmps55
  go_wp2_with fail
  go_loop [3, 4] (fun n i => ∃ q : Int, -1 ≤ q ∧ q + 1 ≤ s.size ∧ i = .int .i64 q ∧ n = .int .i64 (Lib.leNat (s.data.toList.drop (q + 1).toNat) : Nat)) (fun _ i => (intOf i + 1).toNat)
  case atStart => exact ⟨(s.size : Int) - 1, by omega, by omega, rfl, by rw [show ((s.size : Int) - 1 + 1).toNat = s.size by omega, List.drop_of_length_le (by simp)]; rfl⟩
  case round =>
    obtain ⟨q, hq0, hq3, rfl, rfl⟩ := hrel
    by_cases hlt : 0 ≤ q
    · obtain ⟨j, rfl⟩ := Int.eq_ofNat_of_zero_le hlt
      rw [show ((j : Int) + 1).toNat = j + 1 by omega]
      have hb := WP.leNat_lt (s.data.toList.drop (j + 1))
      have hbp : 256 ^ (s.data.toList.drop (j + 1)).length ≤ 256 ^ 3 := Nat.pow_le_pow_right (by omega) (by simp; omega)
      have HE : Hid (Lib.leNat (s.data.toList.drop j) = (s[j]'(by omega)).toNat + 256 * Lib.leNat (s.data.toList.drop (j + 1))) :=
        Lib.hid (by rw [WP.drop_cons s j (by omega)]; simp only [Lib.leNat])
      have hv : Lib.leNat (s.data.toList.drop (j + 1)) < 16777216 := by omega
      have hby := (s[j]'(by omega)).toNat_lt
      clear hb hbp
      generalize Lib.leNat (s.data.toList.drop (j + 1)) = v at *
      go_wp2_with fail
      go_round
      case rel =>
        refine ⟨(j : Int) - 1, by omega, by omega, rfl, ?_⟩
        rw [show ((j : Int) - 1 + 1).toNat = j by omega, HE.out]
        go_num
      case measure => simp [intOf]
    · obtain rfl : q = -1 := by omega
      go_wp2_with fail
      go_ret
      exact ⟨rfl, rfl⟩
end Go.Proofs.YtembccehokodeaaGreatDoor.L7
