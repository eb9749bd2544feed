import Derived.Test.YtpeghilfldpgfaaGreatDoorQ09
import Derived.Test.YtpeghilfldpgfaaGreatDoorQIIter
import Derived.RangeFuncWrites
import Derived.RegionIn
import Derived.Stop.RegionWithIn
import Derived.WalkMore
import Derived.RangeFuncOwn
import Derived.Deep.Slices
import Derived.Shelf.Vars
import Derived.SizedLaws
import Derived.Lib.SmallJoins
import Derived.LaidMore
import Derived.LaidSub
import Derived.LaidHandle
import Derived.Lay
import Derived.Stop.Joined
import Derived.Stop.LaidErr
namespace Go.Proofs.YtpeghilfldpgfaaGreatDoor.L11
open Go.RowKit IP
set_option linter.unusedVariables false
set_option linter.unusedSimpArgs false
def SBx (g : Nat) (lo hi : ByteArray) (d : Bool) (w : World) : Prop := w.heap[g]? = some (.cells #[.string lo, .string hi, .bool d] 225 (0, 0))
theorem SBx.cells {g : Nat} {lo hi : ByteArray} {d : Bool} {w : World} (k : SBx g lo hi d w) : w.cell? ⟨g, 0, none⟩ = some (.string lo) ∧ w.cell? ⟨g, 1, none⟩ = some (.string hi) ∧ w.cell? ⟨g, 2, none⟩ = some (.bool d) := by
  unfold SBx at k
  refine ⟨?_, ?_, ?_⟩ <;> simp [World.cell?, k]
theorem SBx.lt {g : Nat} {lo hi : ByteArray} {d : Bool} {w : World} (k : SBx g lo hi d w) : g < w.heap.size := (Array.getElem?_eq_some_iff.1 k).1
theorem SBx.new (lo hi : ByteArray) (d : Bool) (w : World) : SBx w.heap.size lo hi d (w.alloc (.cells #[.string lo, .string hi, .bool d] 225)) := heap_alloc_new _ _
theorem SBx.own {g : Nat} {lo hi : ByteArray} {d : Bool} {X Y : World} {row : Option Nat} (h : SBx g lo hi d X) (hg : X.grownBy Y row) (hr : ∀ r, row = some r → ∃ o : Obj, X.heap[r]? = some o ∧ o.isCells = false) : SBx g lo hi d Y := by
  refine (hg.block g h.lt (fun e => ?_)).trans h
  obtain ⟨o, ho, hc⟩ := hr g e.symm
  unfold SBx at h
  rw [h] at ho
  cases ho
  cases hc
def OkAt (R : Int) (H : ByteArray) (ss : List ByteArray) (p : Nat) (i : Nat) : Prop := doesAt ss.length R i = true → L5.B (loAt ⟨#[]⟩ ss i) < L5.B (hiAt ss H i) ∧ (hiAt ss H i).size ≤ p / 8
instance (R : Int) (H : ByteArray) (ss : List ByteArray) (p : Nat) (i : Nat) : Decidable (OkAt R H ss p i) := by unfold OkAt; infer_instance
def EndsP (R : Int) (H : ByteArray) (ss : List ByteArray) (p : Nat) : Prop := (R = 0 → H.size = 0) ∧ ∀ i, i < ss.length + 1 → OkAt R H ss p i
def EndsQ (R : Int) (H : ByteArray) (ss : List ByteArray) (p : Int) : Prop := ((R = 0 → H.size = 0) ∧ (R ≠ 0 → H.size ≠ 0 ∧ (H.size : Int) ≤ p / 8 ∧ ∀ s ∈ ss, L5.B s < L5.B H)) ∧ Rise ss ∧ ∀ s ∈ ss, SepOk p s
instance (R : Int) (H : ByteArray) (ss : List ByteArray) (p : Int) : Decidable (EndsQ R H ss p) := by unfold EndsQ; infer_instance
theorem lt_empty {s : ByteArray} : L5.B (⟨#[]⟩ : ByteArray) < L5.B s ↔ s.size ≠ 0 := by
  have h : (L5.B s).length = s.size := L5.b_size s
  show ([] : List UInt8) < _ ↔ _
  cases hs : L5.B s with
  | nil =>
    rw [hs] at h
    have h' : s.size = 0 := by simpa using h.symm
    constructor
    · intro h2; exact absurd h2 (List.not_lt_nil _)
    · intro h2; exact absurd h' h2
  | cons c l =>
    rw [hs] at h
    have h' : l.length + 1 = s.size := by simpa using h
    constructor
    · intro _; omega
    · intro _; exact List.nil_lt_cons _ _
theorem hi_low {ss : List ByteArray} {H : ByteArray} {i : Nat} {s : ByteArray} (h : ss[i]? = some s) : hiAt ss H i = s := by
  have hi : i < ss.length := (List.getElem?_eq_some_iff.1 h).1
  unfold hiAt
  rw [List.getD_eq_getElem?_getD, List.getElem?_append_left hi, h]
  rfl
theorem hi_last (ss : List ByteArray) (H : ByteArray) : hiAt ss H ss.length = H := by
  unfold hiAt
  rw [List.getD_eq_getElem?_getD, List.getElem?_append_right (Nat.le_refl _), Nat.sub_self]
  rfl
theorem lo_at {low : ByteArray} {ss : List ByteArray} {i : Nat} {s : ByteArray} (h : ss[i]? = some s) : loAt low ss (i + 1) = s := by
  show ss.getD i _ = s
  rw [List.getD_eq_getElem?_getD, h]
  rfl
theorem does_low {m : Nat} {R : Int} {i : Nat} (h : i < m) : doesAt m R i = true := by unfold doesAt; rw [decide_eq_true h]; rfl
theorem does_last {m : Nat} {R : Int} : doesAt m R m = decide (R ≠ 0) := by unfold doesAt; rw [decide_eq_false (Nat.lt_irrefl m)]; rfl
theorem rise_get {l : List ByteArray} (h : Rise l) {i j : Nat} {x y : ByteArray} (hx : l[i]? = some x) (hy : l[j]? = some y) (hij : i < j) : L5.B x < L5.B y := by
  obtain ⟨h1, rfl⟩ := List.getElem?_eq_some_iff.1 hx
  obtain ⟨h2, rfl⟩ := List.getElem?_eq_some_iff.1 hy
  exact List.pairwise_iff_getElem.1 h i j h1 h2 hij
theorem rise_steps {l : List ByteArray} (h : ∀ i x y, l[i]? = some x → l[i + 1]? = some y → L5.B x < L5.B y) : Rise l := by
  refine List.pairwise_iff_getElem.2 fun i j hi hj hij => ?_
  have key : ∀ d i, (hi : i < l.length) → (hj : i + (d + 1) < l.length) → L5.B l[i] < L5.B l[i + (d + 1)] := by
    intro d
    induction d with
    | zero => intro i hi hj; exact h i _ _ (List.getElem?_eq_getElem hi) (List.getElem?_eq_getElem hj)
    | succ d ih =>
      intro i hi hj
      exact L5.EP.lt_trans (ih i hi (by omega)) (h (i + (d + 1)) _ _ (List.getElem?_eq_getElem (by omega)) (List.getElem?_eq_getElem hj))
  have h2 := key (j - i - 1) i hi (by omega)
  have e : i + (j - i - 1 + 1) = j := by omega
  simp only [e] at h2
  exact h2
theorem ends_iff {R : Int} {H : ByteArray} {ss : List ByteArray} {p : Nat} : EndsP R H ss p ↔ EndsQ R H ss p := by
  constructor
  · rintro ⟨h0, h⟩
    have hs : ∀ i s, ss[i]? = some s → L5.B (loAt ⟨#[]⟩ ss i) < L5.B s ∧ s.size ≤ p / 8 := fun i s hi => by
      have hl : i < ss.length := (List.getElem?_eq_some_iff.1 hi).1
      have h1 := h i (by omega) (does_low hl)
      rwa [hi_low hi] at h1
    have hr : Rise ss := rise_steps fun i x y hx hy => by
      have h1 := (hs (i + 1) y hy).1
      rwa [lo_at hx] at h1
    have hne : ∀ s ∈ ss, s.size ≠ 0 := fun s hm => by
      obtain ⟨i, hi, rfl⟩ := List.getElem_of_mem hm
      have h1 := (hs i _ (List.getElem?_eq_getElem hi)).1
      cases i with
      | zero => exact lt_empty.1 h1
      | succ i =>
        intro e
        have e2 : L5.B ss[i + 1] = [] := List.eq_nil_of_length_eq_zero (by rw [L5.b_size]; exact e)
        rw [e2] at h1
        exact absurd h1 (List.not_lt_nil _)
    refine ⟨⟨h0, fun hR => ?_⟩, hr, fun s hm => ⟨hne s hm, ?_⟩⟩
    · have h1 := h ss.length (by omega) (by rw [does_last]; exact decide_eq_true hR)
      rw [hi_last] at h1
      obtain ⟨h2, h3⟩ := h1
      refine ⟨fun e => ?_, by omega, fun s hm => ?_⟩
      · have e2 : L5.B H = [] := List.eq_nil_of_length_eq_zero (by rw [L5.b_size]; exact e)
        rw [e2] at h2
        exact absurd h2 (List.not_lt_nil _)
      · obtain ⟨i, hi, rfl⟩ := List.getElem_of_mem hm
        obtain ⟨j, hj⟩ : ∃ j, ss.length = j + 1 := ⟨ss.length - 1, by omega⟩
        have hlast : ss[j]? = some ss[j] := List.getElem?_eq_getElem (by omega)
        rw [hj, lo_at hlast] at h2
        by_cases e : i = j
        · subst e; exact h2
        · exact L5.EP.lt_trans (rise_get hr (List.getElem?_eq_getElem hi) hlast (by omega)) h2
    · obtain ⟨i, hi, rfl⟩ := List.getElem_of_mem hm
      have := (hs i _ (List.getElem?_eq_getElem hi)).2
      omega
  · rintro ⟨⟨h0, h1⟩, hr, hs⟩
    refine ⟨h0, fun i hi hd => ?_⟩
    have hlo : ∀ s : ByteArray, (∀ t, i = t + 1 → ∀ x, ss[t]? = some x → L5.B x < L5.B s) → s.size ≠ 0 → L5.B (loAt ⟨#[]⟩ ss i) < L5.B s := fun s ht hz => by
      cases i with
      | zero => exact lt_empty.2 hz
      | succ t =>
        have hx : ss[t]? = some ss[t] := List.getElem?_eq_getElem (by omega)
        rw [lo_at hx]
        exact ht t rfl _ hx
    by_cases hl : i < ss.length
    · have hx : ss[i]? = some ss[i] := List.getElem?_eq_getElem hl
      have h2 := hs _ (List.mem_of_getElem? hx)
      rw [hi_low hx]
      refine ⟨hlo _ (fun t e x hxt => rise_get hr hxt hx (by omega)) h2.1, ?_⟩
      have := h2.2
      omega
    · obtain rfl : i = ss.length := by omega
      rw [does_last] at hd
      obtain ⟨h3, h4, h5⟩ := h1 (of_decide_eq_true hd)
      rw [hi_last]
      exact ⟨hlo _ (fun t e x hxt => h5 x (List.mem_of_getElem? hxt)) h3, by omega⟩
end Go.Proofs.YtpeghilfldpgfaaGreatDoor.L11
namespace Go.Proofs.YtpeghilfldpgfaaGreatDoor.L13
open Go.RowKit MP
set_option linter.unusedVariables false
set_option linter.unusedSimpArgs false
def encV (P G R L C : Int) : Value := .tuple #[.string (enc ⟨P, G, R, L, C⟩).1, .int .i64 (enc ⟨P, G, R, L, C⟩).2]
def U32 (n : Int) : Prop := 0 ≤ n ∧ n ≤ 4294967295
abbrev four (n : Int) : ByteArray := ⟨(Lib.leBytes 4 n.toNat).toArray⟩
theorem four_size (n : Int) : (four n).size = 4 := L7.le4_size _
theorem enc_parts {P G R L C : Int} (h : May ⟨P, G, R, L, C⟩) : ∃ n : Nat, P = n + 34 ∧ n ≤ 990 ∧
    (⟨#[119, 105, 116, 104, 121]⟩ ++ four P ++ four G ++ four C : ByteArray).size = 17 ∧
    (⟨#[119, 105, 116, 104, 121]⟩ ++ four P ++ four G ++ four C ++ rep 0 n ++ ⟨#[87]⟩ : ByteArray) = ⟨(body ⟨P, G, R, L, C⟩).toArray⟩ ∧ (body ⟨P, G, R, L, C⟩).length = n + 18 := by
  have hp := mayBe_le h.1
  simp only at hp
  obtain ⟨n, hn⟩ := Int.eq_ofNat_of_zero_le (show 0 ≤ P - 34 by omega)
  refine ⟨n, by omega, by omega, ?_, ?_, ?_⟩
  · simp only [ByteArray.size_append, four_size]
    rfl
  · have e : P.toNat - 34 = n := by omega
    apply ByteArray.ext
    simp [body, front, rep, e]
  · rw [body_length _ (by simp only; omega)]
    simp only
    omega
theorem enc_sizes {P G C : Int} (n : Nat) {X1 X2 X3 X4 X5 : ByteArray} (h1 : ⟨#[119, 105, 116, 104, 121]⟩ ++ four P = X1) (h2 : X1 ++ four G = X2) (h3 : X2 ++ four C = X3) (h4 : X3 ++ rep 0 n = X4) (h5 : X4 ++ ⟨#[87]⟩ = X5) : X1.size = 9 ∧ X2.size = 13 ∧ X3.size = 17 ∧ X4.size = 17 + n ∧ X5.size = 18 + n := by
  subst h1 h2 h3 h4 h5
  simp only [ByteArray.size_append, four_size, rep_size]
  refine ⟨rfl, rfl, rfl, ?_, ?_⟩
  · show 5 + 4 + 4 + 4 + n = _
    omega
  · show 5 + 4 + 4 + 4 + n + 1 = _
    omega
theorem held4 {c : Prop} {f : FuncId} {F4 : Int → ByteArray} {n : Int} {W0 W : World} (t : Hid (∀ n W, U32 n → Calls Tryz.prog f #[.int .u32 n] W fun e w' => e = .returned (.string (F4 n)) ∧ Below W.heap.size W w')) (u : U32 n) (b : Hid (Below W0.heap.size W0 W) ∧ c) : Calls Tryz.prog f #[.int .u32 n] W fun e w' => e = .returned (.string (F4 n)) ∧ Below W0.heap.size W0 w' :=
  (t.out n W u).mono fun e w' ⟨h1, h2⟩ => ⟨h1, b.1.out.trans' h2⟩
set_option maxHeartbeats 2000000 in
set_option maxRecDepth 100000 in
theorem enc_any (P G R L C : Int) (w : World) (hs : L7.Sizes w) :
    Calls Tryz.prog 31 #[mv P G R L C] w fun e w' => e = .returned (encV P G R L C) ∧ Below w.heap.size w w' := by
  have hb0 := mbox_below 33 P G R L C w
  have HB0 := Lib.hid hb0
  have HS0 := Lib.hid (hs.below hs.lt hb0)
  have HK := Lib.hid (mbox_new 33 P G R L C w)
  have HM := Lib.hid (fun W (h : L7.Sizes W) => may_any P G R L C W h)
  obtain ⟨r, HRS⟩ : ∃ r, Hid (r = encV P G R L C) := ⟨_, Lib.hid rfl⟩
  rw [← HRS.out]
  by_cases hmay : May ⟨P, G, R, L, C⟩
  · obtain ⟨n, hn, hn2, _, hbody, hbl⟩ := enc_parts hmay
    have hp : 128 ≤ P ∧ P ≤ 1024 := mayBe_le hmay.1
    have HX : Hid (r = .tuple #[.string ⟨(page ⟨P, G, R, L, C⟩).toArray⟩, .int .i64 0]) := Lib.hid (by rw [HRS.out, encV, enc_good hmay])
    obtain ⟨X1, h1⟩ : ∃ X1 : ByteArray, ⟨#[119, 105, 116, 104, 121]⟩ ++ four P = X1 := ⟨_, rfl⟩
    obtain ⟨X2, h2⟩ : ∃ X2, X1 ++ four G = X2 := ⟨_, rfl⟩
    obtain ⟨X3, h3⟩ : ∃ X3, X2 ++ four C = X3 := ⟨_, rfl⟩
    obtain ⟨X4, h4⟩ : ∃ X4, X3 ++ rep 0 n = X4 := ⟨_, rfl⟩
    obtain ⟨X5, h5⟩ : ∃ X5 : ByteArray, X4 ++ ⟨#[87]⟩ = X5 := ⟨_, rfl⟩
    obtain ⟨s1, s2, s3, s4, s5⟩ := enc_sizes n h1 h2 h3 h4 h5
    have hX5 : X5 = ⟨(body ⟨P, G, R, L, C⟩).toArray⟩ := by rw [← h5, ← h4, ← h3, ← h2, ← h1]; exact hbody
    have hg2 : 2 ≤ G ∧ G ≤ 4096 ∧ 0 ≤ C ∧ C ≤ 2147483647 ∧ 0 ≤ L ∧ L ≤ 255 ∧ 1 ≤ R ∧ R < G := by
      obtain ⟨_, h2, h3, h4, h5, h6, h7, h8, h9⟩ := hmay
      exact ⟨h2, h3, h8, h9, h6, h7, h4, h5⟩
    have H4 : Hid (∀ n W, U32 n → Calls Tryz.prog 61 #[.int .u32 n] W fun e w' => e = .returned (.string (four n)) ∧ Below W.heap.size W w') := Lib.hid (fun n W h => L7.four_any n W h.1 h.2)
    have v1 : U32 P := ⟨by omega, by omega⟩
    have v2 : U32 G := ⟨by omega, by omega⟩
    have v3 : U32 C := ⟨by omega, by omega⟩
    have HREP : Hid (∀ W, Calls Tryz.prog 62 #[.string ⟨#[0]⟩, .int .i64 n] W fun e w' => e = .returned (.string (rep 0 n)) ∧ Below W.heap.size W w') := Lib.hid (fun W => L7.repeat_zeros n W (by omega))
    have HSE := Lib.hid (fun W (h : L7.Sizes W) => L7.seal_any (hd ⟨P, G, R, L, C⟩) X5 P W h (by simp [Lit.wf, IntKind.min, IntKind.max, IntKind.signed, IntKind.bits]; omega) (by unfold maxLen; omega))
    have hsv := seal_ok hmay
    simp only at hsv
    rw [hX5, hsv, ← hX5] at HSE
    rw [show L7.hv (hd ⟨P, G, R, L, C⟩) = .agg #[.int .i64 1, .int .i64 L, .int .i64 0, .int .i64 R, .int .i64 0] by rfl] at HSE
    generalize (⟨(page ⟨P, G, R, L, C⟩).toArray⟩ : ByteArray) = PG at *
    rw [decide_eq_true hmay] at HM
    have Z1 : Hid (¬ 9223372036854775807 < 5 + (four P).size) := Lib.hid (by rw [four_size]; decide)
    have Z2 : Hid (¬ 9223372036854775807 < X1.size + (four G).size) := Lib.hid (by rw [four_size]; omega)
    have Z3 : Hid (¬ 9223372036854775807 < X2.size + (four C).size) := Lib.hid (by rw [four_size]; omega)
    have Z4 : Hid (¬ 9223372036854775807 < X3.size + (rep 0 n).size) := Lib.hid (by rw [rep_size]; omega)
    have Z5 : Hid (¬ 9223372036854775807 < X4.size + (⟨#[87]⟩ : ByteArray).size) := Lib.hid (by show ¬ _ < X4.size + 1; omega)
    have U1 : Hid (IntKind.u32.wrap P = P) := Lib.hid (by rw [IntKind.wrap_u32]; omega)
    have U2 : Hid (IntKind.u32.wrap G = G) := Lib.hid (by rw [IntKind.wrap_u32]; omega)
    have U3 : Hid (IntKind.u32.wrap C = C) := Lib.hid (by rw [IntKind.wrap_u32]; omega)
    have I1 : Hid (IntKind.i64.wrap (P - 16) = P - 16) := Lib.hid (IntWalk.i64_in _ (by omega))
    have I2 : Hid (IntKind.i64.wrap (P - 16 - (X3.size : Int)) = P - 16 - X3.size) := Lib.hid (IntWalk.i64_in _ (by omega))
    have I3 : Hid (IntKind.i64.wrap (P - 16 - (X3.size : Int) - 1) = n) := Lib.hid (by rw [IntWalk.i64_in _ (by omega)]; omega)
    clear hmay hs hb0 hbody hbl hX5 hsv s1 s2 s3 s4 s5 hp hg2 hn2 hn
    generalize four = F4 at *
    generalize rep 0 n = Z at *
    obtain ⟨c0, c1, c2, c3, c4⟩ := HK.out.cells
    go_enter Tryz.func31, Tryz.ntmps31
    go_wp2_with fail
    refine (HM.out _ HS0.out).mono ?_
    rintro e w2 ⟨rfl, hb2⟩
    clear c0 c1 c2 c3 c4
    have HS2 := Lib.hid (HS0.out.below HS0.out.lt hb2)
    have HB2 := Lib.hid (HB0.out.trans' hb2)
    have HK2 := Lib.hid (HK.out.below hb2)
    clear hb2 HB0 HS0 HK
    have HSA : Hid (∀ V, Below w2.heap.size w2 V → (fun V => Hid (Below w2.heap.size w2 V) ∧ V.cell? ⟨w.heap.size, 0, none⟩ = some (.int .i64 P) ∧ V.cell? ⟨w.heap.size, 1, none⟩ = some (.int .i64 G) ∧ V.cell? ⟨w.heap.size, 4, none⟩ = some (.int .i64 C)) V) := Lib.hid (fun V hb => ⟨Lib.hid hb, (HK2.out.below hb).cells.1, (HK2.out.below hb).cells.2.1, (HK2.out.below hb).cells.2.2.2.2⟩)
    have hSA := HSA.out _ (Below.refl _ _)
    have hSd := HSA.out _ (L5.below_drewN (Below.refl _ w2) 1)
    go_wp2_with fail
    have z1 := Z1.out
    have z2 := Z2.out
    have z3 := Z3.out
    have u1 := U1.out
    have u2 := U2.out
    have u3 := U3.out
    go_region_held3 (fun V => Hid (Below w2.heap.size w2 V) ∧ V.cell? ⟨w.heap.size, 0, none⟩ = some (.int .i64 P) ∧ V.cell? ⟨w.heap.size, 1, none⟩ = some (.int .i64 G) ∧ V.cell? ⟨w.heap.size, 4, none⟩ = some (.int .i64 C)) (first | assumption | exact hSd)
      (first
        | (go_at_call 61; refine (held4 H4 (by assumption) (by assumption)).mono ?_; rintro e V5 ⟨rfl, hb⟩; have hSn := HSA.out _ hb)
        | fail "no arm")
    have HS5 := Lib.hid (HS2.out.below HS2.out.lt hb)
    have HB5 := Lib.hid (HB2.out.trans' hb)
    have HK5 := Lib.hid (HK2.out.below hb)
    clear hb hSA hSd hSn HSA u1 u2 u3 U1 U2 U3 z1 z2 z3 Z1 Z2 Z3 HS2 HB2 HK2
    obtain ⟨c0, c1, c2, c3, c4⟩ := HK5.out.cells
    have i1 := I1.out
    have i2 := I2.out
    have i3 := I3.out
    go_wp2_with fail
    refine (HREP.out _).mono ?_
    rintro e V6 ⟨rfl, hb⟩
    have HS6 := Lib.hid (HS5.out.below HS5.out.lt hb)
    have HB6 := Lib.hid (HB5.out.trans' hb)
    have HK6 := Lib.hid (HK5.out.below hb)
    clear hb c0 c1 c2 c3 c4 i1 i2 i3 HS5 HB5 HK5
    obtain ⟨c0, c1, c2, c3, c4⟩ := HK6.out.cells
    have z4 := Z4.out
    have z5 := Z5.out
    go_wp2_with fail
    refine (HSE.out _ HS6.out).mono ?_
    rintro e V7 ⟨rfl, hb⟩
    go_wp2_with fail
    go_ret2
    exact ⟨by rw [HX.out] <;> rfl, HB6.out.trans' hb⟩
  · have HX : Hid (r = .tuple #[.string ⟨#[]⟩, .int .i64 3]) := Lib.hid (by rw [HRS.out, encV, enc_form hmay])
    rw [decide_eq_false hmay] at HM
    clear hmay hs hb0
    obtain ⟨c0, c1, c2, c3, c4⟩ := HK.out.cells
    go_enter Tryz.func31, Tryz.ntmps31
    go_wp2_with fail
    refine (HM.out _ HS0.out).mono ?_
    rintro e w2 ⟨rfl, hb2⟩
    go_wp2_with fail
    go_ret2
    exact ⟨by rw [HX.out] <;> rfl, HB0.out.trans' hb2⟩
def decV (s : ByteArray) : Value := match dec s with
  | some m => .tuple #[mv m.p m.pg m.r m.l m.n, .int .i64 0]
  | none => .tuple #[mv 0 0 0 0 0, .int .i64 3]
theorem decV_some {s : ByteArray} {m : Mt} (h : dec s = some m) : decV s = .tuple #[mv m.p m.pg m.r m.l m.n, .int .i64 0] := by unfold decV; rw [h]
theorem decV_none {s : ByteArray} (h : dec s = none) : decV s = .tuple #[mv 0 0 0 0 0, .int .i64 3] := by unfold decV; rw [h]
end Go.Proofs.YtpeghilfldpgfaaGreatDoor.L13
namespace Go.Proofs.YtpeghilfldpgfaaGreatDoor.L13
open Go.RowKit MP
set_option linter.unusedVariables false
set_option linter.unusedSimpArgs false
theorem num_bd (b : ByteArray) (i : Nat) : 0 ≤ num b i ∧ num b i < 4294967296 := by
  have h := L7.WP.leNat_lt ((b.data.toList.drop i).take 4)
  have hl : ((b.data.toList.drop i).take 4).length ≤ 4 := by rw [List.length_take]; omega
  have h2 : 256 ^ ((b.data.toList.drop i).take 4).length ≤ 256 ^ 4 := Nat.pow_le_pow_right (by omega) hl
  have h3 : (256 : Nat) ^ 4 = 4294967296 := by decide
  unfold num
  omega
theorem opn_room {s : ByteArray} (h : (L7.HP.opn s).2.2 = 0) : 112 ≤ (L7.HP.opn s).2.1.size ∧ (L7.HP.opn s).2.1.size ≤ 1008 := by
  by_cases hg : L7.mayBe s.size = true ∧ L7.HP.good s.data.toList
  · rw [L7.HP.opn_good hg.1 hg.2]
    have hp := mayBe_le hg.1
    show 112 ≤ (s.extract 16 s.size).size ∧ (s.extract 16 s.size).size ≤ 1008
    rw [ByteArray.size_extract]
    omega
  · rw [L7.HP.opn_bad hg] at h
    cases h
def readV (s : ByteArray) : Value :=
  if (L7.HP.opn s).2.2 = 0 then .tuple #[mv (num (L7.HP.opn s).2.1 5) (num (L7.HP.opn s).2.1 9) (L7.HP.opn s).1.r (L7.HP.opn s).1.l (num (L7.HP.opn s).2.1 13), .int .i64 0]
  else .tuple #[mv 0 0 0 0 0, .int .i64 (L7.HP.opn s).2.2]
set_option maxHeartbeats 4000000 in
set_option maxRecDepth 100000 in
theorem read_any (s : ByteArray) (w : World) (hz : L7.Sizes w) (hs : s.size ≤ maxLen) :
    Calls Tryz.prog 56 #[.string s] w fun e w' => e = .returned (readV s) ∧ Below w.heap.size w w' := by
  have hb0 := mbox_below 33 0 0 0 0 0 w
  have HB := Lib.hid hb0
  have HK := Lib.hid (mbox_new 33 0 0 0 0 0 w)
  have HO := Lib.hid (L7.open_any s _ (hz.below hz.lt hb0) hs)
  have hroom := @opn_room s
  obtain ⟨rv, HRS⟩ : ∃ rv, Hid (rv = readV s) := ⟨_, Lib.hid rfl⟩
  rw [← HRS.out]
  have hrv := HRS.out
  unfold readV at hrv
  unfold L7.opnV at HO
  generalize L7.HP.opn s = x at *
  obtain ⟨⟨k, l, c, r, f⟩, b, e⟩ := x
  simp only [L7.hv] at HO
  simp only at hroom hrv
  clear hb0 hz HRS
  by_cases he : e = 0
  · subst he
    obtain ⟨hr1, hr2⟩ := hroom rfl
    rw [if_pos rfl] at hrv
    have r5 := Lib.hid (fun W => L7.read_any b 5 W (by omega) (by omega) (by unfold maxLen; omega))
    have r9 := Lib.hid (fun W => L7.read_any b 9 W (by omega) (by omega) (by unfold maxLen; omega))
    have r13 := Lib.hid (fun W => L7.read_any b 13 W (by omega) (by omega) (by unfold maxLen; omega))
    have R5 : Hid (∀ W, Calls Tryz.prog 99 #[.string b, .int .i64 5] W fun e w' => e = .returned (.tuple #[.int .u32 (num b 5), .int .i64 0]) ∧ W = w') := r5
    have R9 : Hid (∀ W, Calls Tryz.prog 99 #[.string b, .int .i64 9] W fun e w' => e = .returned (.tuple #[.int .u32 (num b 9), .int .i64 0]) ∧ W = w') := r9
    have R13 : Hid (∀ W, Calls Tryz.prog 99 #[.string b, .int .i64 13] W fun e w' => e = .returned (.tuple #[.int .u32 (num b 13), .int .i64 0]) ∧ W = w') := r13
    have b5 := num_bd b 5
    have b9 := num_bd b 9
    have b13 := num_bd b 13
    generalize num b 5 = n5 at *
    generalize num b 9 = n9 at *
    generalize num b 13 = n13 at *
    have w5 : IntKind.i64.wrap n5 = n5 := IntWalk.i64_in _ (by omega)
    have w9 : IntKind.i64.wrap n9 = n9 := IntWalk.i64_in _ (by omega)
    have w13 : IntKind.i64.wrap n13 = n13 := IntWalk.i64_in _ (by omega)
    have HX := Lib.hid hrv
    clear hroom hrv r5 r9 r13 b5 b9 b13 hr1 hr2
    go_enter Tryz.func56, Tryz.ntmps56
    go_wp2_with fail
    go_step3
    go_wp2_with fail
    refine HO.out.mono ?_
    rintro e V ⟨rfl, hb⟩
    have HBV := Lib.hid (HB.out.trans' hb)
    have HKV := Lib.hid (HK.out.below hb)
    have HVS : Hid (w.heap.size < V.heap.size + 1) := Lib.hid (by have := HBV.out.size; omega)
    have hbh := L5.below_alloc V (.cells #[.int .i64 k, .int .i64 l, .int .i64 c, .int .i64 r, .int .i64 f] 120)
    have HHX := Lib.hid (show L7.Bx 120 V.heap.size ⟨k, l, c, r, f⟩ (V.alloc (.cells #[.int .i64 k, .int .i64 l, .int .i64 c, .int .i64 r, .int .i64 f] 120)) from heap_alloc_new _ _)
    have HBH := Lib.hid (HBV.out.trans' hbh)
    have HKH := Lib.hid (HKV.out.below hbh)
    obtain ⟨y0, y1, y2, y3, y4⟩ := HHX.out.cells
    clear hb hbh HBV HKV HB HK HO
    go_wp2_with fail
    clear y0 y1 y2 y3 y4
    have HG : Hid (Mx 33 (V.heap.size + 1) 0 0 r l 0 (mbox 33 0 0 r l 0 (V.alloc (.cells #[.int .i64 k, .int .i64 l, .int .i64 c, .int .i64 r, .int .i64 f] 120)))) := Lib.hid (by
      have h := mbox_new 33 0 0 r l 0 (V.alloc (.cells #[.int .i64 k, .int .i64 l, .int .i64 c, .int .i64 r, .int .i64 f] 120))
      simpa using h)
    have hb := mbox_below 33 0 0 r l 0 (V.alloc (.cells #[.int .i64 k, .int .i64 l, .int .i64 c, .int .i64 r, .int .i64 f] 120))
    have HB1 := Lib.hid (HBH.out.trans' hb)
    have HK1 := Lib.hid (HKH.out.below hb)
    clear hb HBH HKH HHX
    simp only [mbox] at HG HB1 HK1
    generalize (V.alloc (.cells #[.int .i64 k, .int .i64 l, .int .i64 c, .int .i64 r, .int .i64 f] 120)).alloc (.cells #[.int .i64 0, .int .i64 0, .int .i64 r, .int .i64 l, .int .i64 0] 33) = W1 at *
    generalize V.heap.size + 1 = gm at *
    go_step3
    go_wp2_with fail
    go_loopw [8] (fun iv wr => ∃ j : Nat, j ≤ 2 ∧ iv = .int .i64 (5 + 4 * j) ∧ Hid (Mx 33 gm (if j = 0 then 0 else n5) (if j = 2 then n9 else 0) r l 0 wr) ∧ Hid (Mx 33 w.heap.size 0 0 0 0 0 wr) ∧ Hid (Below w.heap.size w wr)) (fun iv _ => 20 - (intOf iv).toNat)
    case atStart => exact ⟨0, by omega, rfl, HG, HK1, HB1⟩
    case round =>
      obtain ⟨j, hj, rfl, HG, HK, HB⟩ := hrel
      rcases (show j = 0 ∨ j = 1 ∨ j = 2 by omega) with rfl | rfl | rfl
      · have HG := Lib.hid (show Mx 33 gm 0 0 r l 0 wr from HG.out)
        obtain ⟨c0, c1, c2, c3, c4⟩ := HG.out.cells
        obtain ⟨f0, f1, f2, f3, f4⟩ := HG.out.free
        go_wp2_with fail
        refine (R5.out _).mono ?_
        rintro e w2 ⟨rfl, rfl⟩
        go_wp2_with fail
        go_roundw
        case rel => exact ⟨1, by omega, by go_num, Lib.hid (HG.out.set0 n5), Lib.hid (HK.out.other (by have := HVS.out; omega) _), Lib.hid (HB.out.setCell (show w.heap.size ≤ gm by have := HVS.out; omega) _)⟩
        case measure => simp [intOf]
      · have HG := Lib.hid (show Mx 33 gm n5 0 r l 0 wr from HG.out)
        obtain ⟨c0, c1, c2, c3, c4⟩ := HG.out.cells
        obtain ⟨f0, f1, f2, f3, f4⟩ := HG.out.free
        go_wp2_with fail
        refine (R9.out _).mono ?_
        rintro e w2 ⟨rfl, rfl⟩
        go_wp2_with fail
        go_roundw
        case rel => exact ⟨2, by omega, by go_num, Lib.hid (HG.out.set1 n9), Lib.hid (HK.out.other (by have := HVS.out; omega) _), Lib.hid (HB.out.setCell (show w.heap.size ≤ gm by have := HVS.out; omega) _)⟩
        case measure => simp [intOf]
      · have HG := Lib.hid (show Mx 33 gm n5 n9 r l 0 wr from HG.out)
        obtain ⟨c0, c1, c2, c3, c4⟩ := HG.out.cells
        obtain ⟨f0, f1, f2, f3, f4⟩ := HG.out.free
        have HG2 := Lib.hid (HG.out.set4 n13)
        have HK2 := Lib.hid (show Mx 33 w.heap.size 0 0 0 0 0 (wr.setCell ⟨gm, 4, none⟩ (.int .i64 n13)) from HK.out.other (by have := HVS.out; omega) _)
        have HB2 := Lib.hid (show Below w.heap.size w (wr.setCell ⟨gm, 4, none⟩ (.int .i64 n13)) from HB.out.setCell (show w.heap.size ≤ gm by have := HVS.out; omega) _)
        obtain ⟨d0, d1, d2, d3, d4⟩ := HG2.out.cells
        obtain ⟨k0, k1, k2, k3, k4⟩ := HK2.out.cells
        obtain ⟨q0, q1, q2, q3, q4⟩ := HK2.out.free
        go_wp2_with fail
        refine (R13.out _).mono ?_
        rintro e w2 ⟨rfl, rfl⟩
        go_wp2_with fail
        rw [Exit.noGoto_ret]
        obtain ⟨r0, r1, r2, r3, r4⟩ := (setM_box HK2.out n5 n9 r l n13).cells
        unfold setM at r0 r1 r2 r3 r4
        refine bodyPost_ret (v := .tuple #[mv n5 n9 r l n13, .int .i64 0]) (by simp [results, Tryz.results56, go_sem, r0, r1, r2, r3, r4]) rfl ⟨by rw [HX.out], ?_⟩
        exact setM_below HB2.out (Nat.le_refl _) n5 n9 r l n13
  · have hcn : (e != 0) = true := by simpa using he
    have hce : (e == 0) = false := by simpa using he
    rw [if_neg he] at hrv
    have HX := Lib.hid hrv
    clear hroom hrv he
    go_enter Tryz.func56, Tryz.ntmps56
    go_wp2_with fail
    go_step3
    go_wp2_with fail
    refine HO.out.mono ?_
    rintro e' V ⟨rfl, hb⟩
    have hb := hb.trans' (L5.below_alloc V (.cells #[.int .i64 k, .int .i64 l, .int .i64 c, .int .i64 r, .int .i64 f] 120))
    have HBQ := Lib.hid (HB.out.trans' hb)
    have HKQ := Lib.hid (HK.out.below hb)
    obtain ⟨u0, u1, u2, u3, u4⟩ := HKQ.out.cells
    obtain ⟨f0, f1, f2, f3, f4⟩ := HKQ.out.free
    clear hb
    go_wp2_with fail
    rw [Exit.noGoto_ret]
    obtain ⟨r0, r1, r2, r3, r4⟩ := (setM_box HKQ.out 0 0 0 0 0).cells
    unfold setM at r0 r1 r2 r3 r4
    refine bodyPost_ret (v := .tuple #[mv 0 0 0 0 0, .int .i64 e]) (by simp [results, Tryz.results56, go_sem, r0, r1, r2, r3, r4]) rfl ⟨by rw [HX.out], ?_⟩
    exact setM_below HBQ.out (Nat.le_refl _) 0 0 0 0 0
end Go.Proofs.YtpeghilfldpgfaaGreatDoor.L13
namespace Go.Proofs.YtpeghilfldpgfaaGreatDoor.L13
open Go.RowKit MP
set_option linter.unusedVariables false
set_option linter.unusedSimpArgs false
theorem text_yes {a b : ByteArray} (h : a = b) : (a.toList == b.toList) = true := L5.same_yes (by rw [h])
theorem text_no {a b : ByteArray} (h : a ≠ b) : (a.toList == b.toList) = false := L5.same_no (fun e => h (ByteArray.ext (Array.toList_inj.1 e)))
set_option maxHeartbeats 4000000 in
set_option maxRecDepth 100000 in
theorem dec_any (s : ByteArray) (w : World) (hz : L7.Sizes w) (hs : s.size ≤ maxLen) :
    Calls Tryz.prog 28 #[.string s] w fun e w' => e = .returned (decV s) ∧ Below w.heap.size w w' := by
  have hb0 := mbox_below 33 0 0 0 0 0 w
  have HB := Lib.hid hb0
  have HK := Lib.hid (mbox_new 33 0 0 0 0 0 w)
  have HG := Lib.hid (hz.below hz.lt hb0)
  have HO := Lib.hid (read_any s _ (hz.below hz.lt hb0) hs)
  have hbad := @dec_bad s
  have hyes := @dec_yes s
  have hno := @dec_no s
  unfold readV at HO
  generalize L7.HP.opn s = x at *
  obtain ⟨⟨k, l, c, r, f⟩, b, e⟩ := x
  simp only at HO hbad hyes hno
  unfold told at hyes hno
  simp only at hyes hno
  clear hb0 hz
  by_cases he : e = 0
  · subst he
    rw [if_pos rfl] at HO
    generalize num b 5 = n5 at *
    generalize num b 9 = n9 at *
    generalize num b 13 = n13 at *
    have HE := Lib.hid (fun W (h : L7.Sizes W) => enc_any n5 n9 r l n13 W h)
    obtain ⟨S2, c2, he⟩ : ∃ S2 c2, enc ⟨n5, n9, r, l, n13⟩ = (S2, c2) := ⟨_, _, rfl⟩
    rw [encV, he] at HE
    rw [he] at hyes hno
    have HYES := Lib.hid (hyes rfl)
    have HNO := Lib.hid (hno rfl)
    clear hbad hyes hno he
    go_enter Tryz.func28, Tryz.ntmps28
    go_wp2_with fail
    refine HO.out.mono ?_
    rintro e V ⟨rfl, hb⟩
    have hbh := mbox_below 33 n5 n9 r l n13 V
    have HC := Lib.hid (mbox_new 33 n5 n9 r l n13 V)
    have HB2 := Lib.hid (HB.out.trans' (hb.trans' hbh))
    have HK2 := Lib.hid (HK.out.below (hb.trans' hbh))
    have HG2 := Lib.hid (HG.out.below HG.out.lt (hb.trans' hbh))
    obtain ⟨x0, x1, x2, x3, x4⟩ := HC.out.cells
    simp only [mbox] at x0 x1 x2 x3 x4
    clear hb hbh HB HK HG HO
    go_wp2_with fail
    clear x0 x1 x2 x3 x4
    refine (HE.out _ HG2.out).mono ?_
    rintro e V3 ⟨rfl, hb⟩
    have HKQ := Lib.hid (HK2.out.below hb)
    have HBQ := Lib.hid (HB2.out.trans' hb)
    obtain ⟨x0, x1, x2, x3, x4⟩ := (HC.out.below hb).cells
    obtain ⟨u0, u1, u2, u3, u4⟩ := HKQ.out.cells
    obtain ⟨f0, f1, f2, f3, f4⟩ := HKQ.out.free
    clear hb HK2 HB2 HG2 HC
    by_cases hc0 : c2 = 0
    · subst hc0
      by_cases hS : S2 = s
      · subst hS
        have hz := text_yes (rfl : S2 = S2)
        have hz2 : (S2.toList != S2.toList) = false := by simp
        have HX : Hid (decV S2 = .tuple #[mv n5 n9 r l n13, .int .i64 0]) := Lib.hid (decV_some (HYES.out rfl))
        go_wp2_with fail
        obtain ⟨r0, r1, r2, r3, r4⟩ := (setM_box HKQ.out n5 n9 r l n13).cells
        unfold setM at r0 r1 r2 r3 r4
        refine bodyPost_ret (v := .tuple #[mv n5 n9 r l n13, .int .i64 0]) (by simp [results, Tryz.results28, go_sem, r0, r1, r2, r3, r4]) rfl ⟨by rw [HX.out], ?_⟩
        exact setM_below HBQ.out (Nat.le_refl _) n5 n9 r l n13
      · have hz := text_no hS
        have hz2 : (S2.toList != s.toList) = true := by simp only [bne, hz]; rfl
        have HX : Hid (decV s = .tuple #[mv 0 0 0 0 0, .int .i64 3]) := Lib.hid (decV_none (HNO.out (fun h => hS (congrArg Prod.fst h))))
        clear hS
        go_wp2_with fail
        obtain ⟨r0, r1, r2, r3, r4⟩ := (setM_box HKQ.out 0 0 0 0 0).cells
        unfold setM at r0 r1 r2 r3 r4
        refine bodyPost_ret (v := .tuple #[mv 0 0 0 0 0, .int .i64 3]) (by simp [results, Tryz.results28, go_sem, r0, r1, r2, r3, r4]) rfl ⟨by rw [HX.out], ?_⟩
        exact setM_below HBQ.out (Nat.le_refl _) 0 0 0 0 0
    · have hcn : (c2 != 0) = true := by simpa using hc0
      have hce : (c2 == 0) = false := by simpa using hc0
      have HX : Hid (decV s = .tuple #[mv 0 0 0 0 0, .int .i64 3]) := Lib.hid (decV_none (HNO.out (fun h => hc0 (congrArg Prod.snd h))))
      clear hc0
      go_wp2_with fail
      obtain ⟨r0, r1, r2, r3, r4⟩ := (setM_box HKQ.out 0 0 0 0 0).cells
      unfold setM at r0 r1 r2 r3 r4
      refine bodyPost_ret (v := .tuple #[mv 0 0 0 0 0, .int .i64 3]) (by simp [results, Tryz.results28, go_sem, r0, r1, r2, r3, r4]) rfl ⟨by rw [HX.out], ?_⟩
      exact setM_below HBQ.out (Nat.le_refl _) 0 0 0 0 0
  · have hcn : (e != 0) = true := by simpa using he
    have hce : (e == 0) = false := by simpa using he
    rw [if_neg he] at HO
    have HX : Hid (decV s = .tuple #[mv 0 0 0 0 0, .int .i64 3]) := Lib.hid (decV_none (hbad he))
    clear hbad hyes hno he
    go_enter Tryz.func28, Tryz.ntmps28
    go_wp2_with fail
    refine HO.out.mono ?_
    rintro e' V ⟨rfl, hb⟩
    have hb := hb.trans' (mbox_below 33 0 0 0 0 0 V)
    have HBQ := Lib.hid (HB.out.trans' hb)
    have HKQ := Lib.hid (HK.out.below hb)
    obtain ⟨u0, u1, u2, u3, u4⟩ := HKQ.out.cells
    obtain ⟨f0, f1, f2, f3, f4⟩ := HKQ.out.free
    simp only [mbox] at u0 u1 u2 u3 u4 f0 f1 f2 f3 f4
    clear hb
    go_wp2_with fail
    obtain ⟨r0, r1, r2, r3, r4⟩ := (setM_box HKQ.out 0 0 0 0 0).cells
    unfold setM at r0 r1 r2 r3 r4
    refine bodyPost_ret (v := .tuple #[mv 0 0 0 0 0, .int .i64 3]) (by simp [results, Tryz.results28, go_sem, r0, r1, r2, r3, r4]) rfl ⟨by rw [HX.out], ?_⟩
    exact setM_below HBQ.out (Nat.le_refl _) 0 0 0 0 0
end Go.Proofs.YtpeghilfldpgfaaGreatDoor.L13
namespace Go.Proofs.YtpeghilfldpgfaaGreatDoor.L10
open Go Go.ChangeShapes Go.WideShapes Go.ChangeAt Go.RowKit NP
set_option linter.unusedVariables false
theorem Glo.of_heap {w w' : World} (h : Glo w) (e : w'.heap = w.heap) : Glo w' := by
  have hc : ∀ p : Addr, w'.cell? p = w.cell? p := fun p => World.cell?_of_block (by rw [e])
  obtain ⟨⟨s0, s1, s2, s3⟩, hp, ht⟩ := h
  refine ⟨⟨(hc _).trans s0, (hc _).trans s1, (hc _).trans s2, (hc _).trans s3⟩, ?_, (hc _).trans ht⟩
  unfold Pow Lib.TabIs World.var? at *
  rw [pow_named] at *
  simp only [Option.bind_some] at *
  rw [e]
  exact hp
theorem lift_laid {H : Type} {enc : TypeId × Value → H} {a : Assume} {C : Checked} {os : Os} {f : FuncId} {fn : Func} {s : ChangeSpec} {conds : List PathCond} {X : World → Array Value → Prop}
    (own : ownKnob C.prog.godebug = none) (started : os.Started) (noInit : C.prog.inits.idxOf? f = none) (hfn : C.prog.funcs[f]? = some fn) (hX : ∀ w args, X w args → Glo w)
    (witness : ∃ (w : World) (tape : Tape) (i : Input), w.os = os ∧ (w.forCall tape i).Shaped C.prog ∧ i.vars = [] ∧ Input.okWide C.prog (w.forCall tape i) .any w.heap.size f i ∧
      ((s.pre enc C.prog fn conds false (w.forCall tape i).memory i.args ∧ X (w.forCall tape i).memory i.args) ∧ sizedMet enc C.prog fn (OpenSpec.ofChange s) false (w.forCall tape i).memory i.args) ∧ a.holds C.prog (lone (Frame.enter C.prog f i.args .normal) [] (w.forCall tape i)))
    (walk : ∀ (W : World) (base : Nat) (args : Array Value) (ds gs : List (DataW H)) (before : List MemPlace),
      (∀ (j : Nat) t v, fn.params[j]? = some t → args[j]? = some v → Value.okWide C.prog W .any base t v) →
      DataW.Whole enc C.prog fn.params.toList s.vars false W args.toList ds gs before → Glo W →
      Calls C.prog f args W fun e W' => ∃ v, e = .returned v ∧ s.post enc C.prog fn false true false false W args v W') :
    ReturnsInHanded a C os f .any (fun w args => (s.pre enc C.prog fn conds false w args ∧ X w args) ∧ sizedMet enc C.prog fn (OpenSpec.ofChange s) false w args) (s.post enc C.prog fn false true false false) := by
  refine returnsInHanded_of_calls own started noInit witness ?_
  intro w tape i _ hsh _ hok hpre _
  obtain ⟨_, _, _, fn', hfn', _, _, _, _, hval⟩ := hok
  obtain rfl : fn' = fn := Option.some.inj (hfn'.symm.trans hfn)
  obtain ⟨⟨⟨ds, gs, before, hw, _⟩, hx⟩, _⟩ := hpre
  refine (walk (w.forCall tape i) w.heap.size i.args ds gs before hval (DataW.Whole.of_heap (by rfl) hw) ((hX _ _ hx).of_heap (by rfl))).mono fun e W' ⟨v, he, hp⟩ => ?_
  subst he
  exact ChangeSpec.post_blind hp
def plainLaid : List (String × DataW Unit) := [("math/bits.deBruijn32tab", Rows.laid_math_bits_deBruijn32tab), ("math/bits.deBruijn64tab", Rows.laid_math_bits_deBruijn64tab), ("internal/strconv.uint64pow10", Rows.laid_internal_strconv_uint64pow10), ("withy/disk.sizes", Rows.laid_withy_disk_sizes)]
def allLaid : List (String × DataW Unit) := [("math/bits.deBruijn32tab", Rows.laid_math_bits_deBruijn32tab), ("math/bits.deBruijn64tab", Rows.laid_math_bits_deBruijn64tab), ("internal/strconv.uint64pow10", Rows.laid_internal_strconv_uint64pow10), ("errors.errorType", Rows.laid_errors_errorType), ("withy/disk.sizes", Rows.laid_withy_disk_sizes)]
theorem Tryz.et : Tryz.prog.globalNamed "errors.errorType" = some 0 := by kernel_rfl
theorem Tryz.rt : (Tryz.prog.cutTypes.find? (·.1 == "internal/reflectlite.rtype")).map (·.2) = some 253 := by kernel_rfl
theorem Tryz.oneRow : ((List.range Tryz.prog.types.size).filter fun t => Tryz.prog.rowNamed t [101, 114, 114, 111, 114]) = [112] := by kernel_rfl
theorem Tryz.errHandle : typeHandle Tryz.prog 112 = .pointer (some ⟨6, 112, none⟩) := by kernel_rfl
theorem glo_of {W : World} (h : laidMetH Tryz.prog allLaid W) : Glo W := by
  have h' : laidMet Tryz.prog plainLaid W ∧ handlesMet Tryz.prog [("errors.errorType", Rows.laid_errors_errorType)] W := h
  obtain ⟨h1, h2⟩ := h'
  unfold plainLaid at h1
  have h3 := h1.tail.tail
  refine ⟨L7.sizes_of h3.tail, ?_, ?_⟩
  · exact Lib.tabIs_of_head (g := 3) (t := 320) (e := 230) (n := 20) (rest := [("withy/disk.sizes", Rows.laid_withy_disk_sizes)]) (by kernel_rfl) (by kernel_rfl) Tryz.underlying320 Tryz.underlying230 (by kernel_rfl) (by kernel_rfl) h3
  · obtain ⟨name, u, ty, e1, e2, e3, e4, e5⟩ := h2 _ (List.mem_singleton.2 rfl)
    have en : name = [101, 114, 114, 111, 114] := (Option.some.inj e1).symm
    subst en
    obtain rfl := Option.some.inj (Tryz.rt.symm.trans e2)
    have hm : ty ∈ (List.range Tryz.prog.types.size).filter fun t => Tryz.prog.rowNamed t [101, 114, 114, 111, 114] := List.mem_filter.2 ⟨List.mem_range.2 e3, e4⟩
    rw [Tryz.oneRow] at hm
    obtain rfl := List.mem_singleton.1 hm
    rw [Tryz.errHandle] at e5
    unfold ErrT
    simpa using World.var?_cell Tryz.et e5 0
noncomputable def laidW0 (os : Os) : World :=
  let w0 := World.holding Tryz.prog os ⟨#[], #[], []⟩
  { w0 with heap := w0.heap.modify 0 fun
      | .cells _ t frozen => .cells #[.iface 253 (.agg #[.pointer (some ⟨6, 112, none⟩)])] t frozen
      | o => o }
noncomputable def laidW (os : Os) : World := (laidW0 os).layVars Tryz.prog plainLaid
theorem laidW_os (os : Os) : (laidW os).os = os := World.layVars_os _ _ _
theorem laidMet_layAll {P : Program} {w0 : World} {laid : List (String × DataW Unit)} (args : Array Value)
    (hf : w0.layFits P laid [] = true) (hi : w0.layIfaces P laid (w0.layVars P laid) = true) :
    laidMet P laid ((w0.layVars P laid).forCall (fun _ _ => 0) ⟨#[], args, []⟩).memory := by
  have e1 : (laid.filter fun x => (laid.map (·.1)).contains x.1) = laid := List.filter_eq_self.2 fun x hx => List.contains_iff_mem.2 (List.mem_map.2 ⟨x, hx, rfl⟩)
  have e2 : (laid.filter fun x => !(laid.map (·.1)).contains x.1) = [] := List.filter_eq_nil_iff.2 fun x hx => by rw [List.contains_iff_mem.2 (List.mem_map.2 ⟨x, hx, rfl⟩)]; simp
  have h : laidMet P laid (w0.layVars P laid) := laidMet_layVars (w0 := w0) (laid.map (·.1)) [] (by rw [e1]) (by rw [e1]; exact hf) (by rw [e1]; exact hi) (by rw [e2]; exact LaidIn.none)
  exact h.of_heap (by simp [World.memory, World.forCall, Input.heap])
theorem laidW_met (os : Os) (args : Array Value) : laidMetH Tryz.prog allLaid ((laidW os).forCall (fun _ _ => 0) ⟨#[], args, []⟩).memory :=
  laidMetH_of_parts (laidMet_layAll args (by kernel_rfl) (by kernel_rfl)) (by kernel_rfl)
end Go.Proofs.YtpeghilfldpgfaaGreatDoor.L10
