/-
  What the program's variables hold, and strconv.Itoa.
  The walk of leaf.sameAgain; a leaf is stored into its box.
  The walk of the laws' own two.
  The walk of leaf.each at texts, whether each is a cell or one is not.
  The walk of the document's Unpack.
  The walk of slot.cut.
  The walk of slot.Unpack.
-/
import Derived.Test.YtpehkikdmckldaaGreatDoorJ10
import Derived.Test.YtpehkikdmckldaaGreatDoorJ04
import Derived.Test.YtpehkikdmckldaaGreatDoorShelf
import Derived.Lib.ItoaLen
import Derived.Test.YtpehkikdmckldaaGreatDoorJ13
import Derived.Test.YtpehkikdmckldaaGreatDoorJNFill
import Derived.Test.YtpehkikdmckldaaGreatDoorJ08
import Derived.Test.YtpehkikdmckldaaGreatDoorJ11
namespace Go.Proofs.YtpehkikdmckldaaGreatDoor
open Go.RowKit Go.Sort NP
set_option linter.unusedVariables false
set_option linter.unusedSimpArgs false

def Pow (w : World) : Prop := Lib.TabIs Tryz.prog w "internal/strconv.uint64pow10" .u64 Lib.pow10Tab
def ErrT (w : World) : Prop := w.cell? ⟨1, 0, none⟩ = some (.iface 178 (.agg #[.pointer (some ⟨6, 84, none⟩)]))
/-- All of it. -/
structure Glo (w : World) : Prop where
  sizes : L7.Sizes w
  pow : Pow w
  errT : ErrT w
theorem pow_named : Tryz.prog.globalNamed "internal/strconv.uint64pow10" = some 2 := by kernel_rfl
theorem Pow.lt {w : World} (h : Pow w) : 2 < w.heap.size := by
  refine Nat.lt_of_not_le fun hn => ?_
  unfold Pow Lib.TabIs World.var? at h
  rw [pow_named] at h
  simp [Array.getElem?_eq_none hn] at h
theorem Pow.on {w w' : World} (h : Pow w) (k : Below w.heap.size w w') : Pow w' := by
  have hl := h.lt
  unfold Pow Lib.TabIs World.var? at *
  rw [pow_named] at *
  simp only [Option.bind_some] at *
  rw [k.block _ hl]
  exact h
theorem ErrT.lt {w : World} (h : ErrT w) : 1 < w.heap.size := by
  refine Nat.lt_of_not_le fun hn => ?_
  unfold ErrT at h
  simp [World.cell?, Array.getElem?_eq_none hn] at h
theorem ErrT.on {w w' : World} (h : ErrT w) (k : Below w.heap.size w w') : ErrT w' := (k.cell (p := ⟨1, 0, none⟩) h.lt).trans h
theorem Glo.on {w w' : World} (h : Glo w) (k : Below w.heap.size w w') : Glo w' := ⟨h.sizes.below h.sizes.lt k, h.pow.on k, h.errT.on k⟩

theorem below_grow (w : World) (k : Nat) (os : Array Obj) : Below w.heap.size w (grow (w.drewN k) os) :=
  ⟨rfl, rfl, rfl, by simp [grow], fun i hi => by
    show (w.heap ++ os)[i]? = w.heap[i]?
    exact Array.getElem?_append_left hi⟩
theorem itoa_any (n : Nat) (hn : n ≤ 1000000) (w : World) (hp : Pow w) : Calls Tryz.prog 91 #[.int .i64 n] w fun e w' => (∃ Z : ByteArray, Z.size ≤ 21 ∧ e = .returned (.string Z)) ∧ Below w.heap.size w w' :=
  (Tryz.strconv_Itoa n (by omega) (by omega) w hp).mono fun e w' ⟨he, k, os, hw⟩ => by
    subst hw
    refine ⟨⟨_, ?_, he⟩, below_grow w k os⟩
    have h := Lib.itoa_length_le n (by omega) (by omega)
    show (Lib.itoa n).toArray.size ≤ 21
    simpa using h
end Go.Proofs.YtpehkikdmckldaaGreatDoor

namespace Go.Proofs.YtpehkikdmckldaaGreatDoor
open Go.RowKit NP
set_option linter.unusedVariables false
set_option linter.unusedSimpArgs false

def setL (w : World) (g : Nat) (F R : Int) (H : ByteArray) (A : Option Addr) (n ca : Nat) : World := (((w.setCell ⟨g, 0, none⟩ (.int .i64 F)).setCell ⟨g, 1, none⟩ (.int .i64 R)).setCell ⟨g, 2, none⟩ (.string H)).setCell ⟨g, 3, none⟩ (.slice A n ca)
theorem setL_box {t : TypeId} {w : World} {g : Nat} {F R : Int} {H : ByteArray} {A : Option Addr} {n ca : Nat} (k : LBx t g F R H A n ca w) (F' R' : Int) (H' : ByteArray) (A' : Option Addr) (n' ca' : Nat) : LBx t g F' R' H' A' n' ca' (setL w g F' R' H' A' n' ca') := by
  unfold LBx at *
  unfold setL
  have h0 := heap_setCell_same w g 0 _ _ (.int .i64 F') k
  have h1 := heap_setCell_same _ g 1 _ _ (.int .i64 R') h0
  have h2 := heap_setCell_same _ g 2 _ _ (.string H') h1
  have h3 := heap_setCell_same _ g 3 _ _ (.slice A' n' ca') h2
  exact h3
theorem setL_other {w : World} {g q : Nat} (h : q ≠ g) (F R : Int) (H : ByteArray) (A : Option Addr) (n ca : Nat) : (setL w g F R H A n ca).heap[q]? = w.heap[q]? := by
  unfold setL
  have hh : ∀ (W : World) (o : Nat) (v : Value), (W.setCell ⟨g, o, none⟩ v).heap[q]? = W.heap[q]? := fun W o v => Below.heap_setCell W ⟨g, o, none⟩ v q (fun e' => h (by first | exact e' | exact e'.symm))
  rw [hh, hh, hh, hh]
theorem setL_size (w : World) (g : Nat) (F R : Int) (H : ByteArray) (A : Option Addr) (n ca : Nat) : (setL w g F R H A n ca).heap.size = w.heap.size := by
  unfold setL
  simp
theorem setL_below {w W : World} {c g : Nat} (h : Below c w W) (hg : c ≤ g) (F R : Int) (H : ByteArray) (A : Option Addr) (n ca : Nat) : Below c w (setL W g F R H A n ca) :=
  (((h.setCell (p := ⟨g, 0, none⟩) hg _).setCell (p := ⟨g, 1, none⟩) hg _).setCell (p := ⟨g, 2, none⟩) hg _).setCell (p := ⟨g, 3, none⟩) hg _
theorem setL_lies {w : World} {B g : Nat} {A' : Option Addr} {l : List It} (h : Lies5 w B A' l) (hx : ∀ a, A' = some a → a.block ≠ g) (F R : Int) (H : ByteArray) (A : Option Addr) (n ca : Nat) : Lies5 (setL w g F R H A n ca) B A' l := fun i c hc => by
  obtain ⟨a, e, hb, hk⟩ := h i c hc
  refine ⟨a, e, hb, fun j v hv => ?_⟩
  have hh : (setL w g F R H A n ca).heap[((a.add (i * 5)).add j).block]? = w.heap[((a.add (i * 5)).add j).block]? := setL_other (by rw [L5.addr_block, L5.addr_block]; exact hx a e) F R H A n ca
  have h2 := hk j v hv
  unfold World.cell? at *
  rw [hh]
  exact h2

def Again (l : Lf) (s : ByteArray) (e : Ending) : Prop :=
  (enc l s.size = (s, 0) ∧ e = .returned .nilIface) ∨ (enc l s.size ≠ (s, 0) ∧ ∃ part er, e = .returned (errV part er))
set_option maxHeartbeats 1000000 in
set_option maxRecDepth 100000 in
theorem again_any (F R : Int) (H : ByteArray) (A : Option Addr) (l : List It) (ca : Nat) (s : ByteArray) (w : World) (hs : L7.Sizes w) (ha : Lies5 w w.heap.size A l) (hl : l.length ≤ 1000) (hh : H.size ≤ maxLen) (hss : s.size ≤ 1000000) :
    Calls Tryz.prog 80 #[lv F R H A l.length ca, .string s] w fun e w' => Again ⟨F, R, H, l⟩ s e ∧ Below w.heap.size w w' := by
  have hb0 := lbox_below 24 F R H A l.length ca w
  have HB0 := Lib.hid hb0
  have HE := Lib.hid (enc_any F R H A l ca (s.size : Int) _ (hs.below hs.lt hb0) (ha.on hb0) hl hh)
  have hcase : ((enc ⟨F, R, H, l⟩ s.size).2 ≠ 0 ∧ enc ⟨F, R, H, l⟩ s.size ≠ (s, 0)) ∨ ((enc ⟨F, R, H, l⟩ s.size).2 = 0 ∧ (enc ⟨F, R, H, l⟩ s.size).1 ≠ s ∧ enc ⟨F, R, H, l⟩ s.size ≠ (s, 0)) ∨ ((enc ⟨F, R, H, l⟩ s.size).2 = 0 ∧ (enc ⟨F, R, H, l⟩ s.size).1 = s ∧ enc ⟨F, R, H, l⟩ s.size = (s, 0)) := by
    by_cases h1 : (enc ⟨F, R, H, l⟩ s.size).2 = 0
    · by_cases h2 : (enc ⟨F, R, H, l⟩ s.size).1 = s
      · exact .inr (.inr ⟨h1, h2, Prod.ext h2 h1⟩)
      · exact .inr (.inl ⟨h1, h2, fun h => h2 (by rw [h])⟩)
    · exact .inl ⟨h1, fun h => h1 (by rw [h])⟩
  unfold encV at HE
  obtain ⟨X, c, hX, hc⟩ : ∃ X c, (enc ⟨F, R, H, l⟩ s.size).1 = X ∧ (enc ⟨F, R, H, l⟩ s.size).2 = c := ⟨_, _, rfl, rfl⟩
  rw [hX, hc] at HE hcase
  have HT := Lib.hid (fun (e : Int) W (h : e ≠ 0) => told_bad' ⟨#[108, 101, 97, 102]⟩ e W h)
  have HTO := Lib.hid (fun W => told_ok' ⟨#[108, 101, 97, 102]⟩ W)
  have HA1 := Lib.hid (fun e (h : Again ⟨F, R, H, l⟩ s e) => h)
  generalize l.length = n at *
  clear hX hc ha hl hh hs hb0
  rcases hcase with ⟨h1, h2⟩ | ⟨rfl, h1, h2⟩ | ⟨rfl, rfl, h2⟩
  · have HY := Lib.hid h2
    have HN := Lib.hid h1
    have hz : (c == 0) = false := beq_eq_false_iff_ne.2 h1
    clear h1 h2
    go_enter Tryz.func80, Tryz.ntmps80
    go_wp2_with fail
    refine HE.out.mono ?_
    rintro e w2 ⟨rfl, hb2⟩
    go_wp2_with fail
    refine (HT.out c _ HN.out).mono ?_
    rintro e w3 ⟨rfl, rfl⟩
    go_wp2_with fail
    go_ret
    exact ⟨.inr ⟨HY.out, _, _, rfl⟩, HB0.out.trans' hb2⟩
  · have HY := Lib.hid h2
    have hz : (X.toList == s.toList) = false := text_no h1
    have hz2 : (X.toList != s.toList) = true := by simp only [bne, hz]; rfl
    clear h1 h2
    go_enter Tryz.func80, Tryz.ntmps80
    go_wp2_with fail
    refine HE.out.mono ?_
    rintro e w2 ⟨rfl, hb2⟩
    go_wp2_with fail
    refine (HT.out 3 _ (by decide)).mono ?_
    rintro e w3 ⟨rfl, rfl⟩
    go_wp2_with fail
    go_ret
    exact ⟨.inr ⟨HY.out, _, _, rfl⟩, HB0.out.trans' hb2⟩
  · have HY := Lib.hid h2
    have hz : (X.toList == X.toList) = true := text_yes rfl
    clear h2
    go_enter Tryz.func80, Tryz.ntmps80
    go_wp2_with fail
    refine HE.out.mono ?_
    rintro e w2 ⟨rfl, hb2⟩
    go_wp2_with fail
    refine (HTO.out _).mono ?_
    rintro e w3 ⟨rfl, rfl⟩
    go_wp2_with fail
    go_ret
    exact ⟨.inl ⟨HY.out, rfl⟩, HB0.out.trans' hb2⟩
end Go.Proofs.YtpehkikdmckldaaGreatDoor

namespace Go.Proofs.YtpehkikdmckldaaGreatDoor
open Go.RowKit NP
set_option linter.unusedVariables false
set_option linter.unusedSimpArgs false

set_option maxHeartbeats 1000000 in
set_option maxRecDepth 100000 in
theorem two_any (w : World) :
    Calls Tryz.prog 53 #[] w fun e w' => ∃ q, w.heap.size ≤ q ∧ e = .returned (lv 1 0 ⟨#[]⟩ (some ⟨q, 0, none⟩) 2 2) ∧ Lies5 w' w'.heap.size (some ⟨q, 0, none⟩) tw ∧ Below w.heap.size w w' := by
  have hb0 := lbox_below 24 1 0 ⟨#[]⟩ (some ⟨w.heap.size + 1, 0, none⟩) 2 2 w
  have hb1 := L5.below_alloc (lbox 24 1 0 ⟨#[]⟩ (some ⟨w.heap.size + 1, 0, none⟩) 2 2 w) (.cells (fives tw).toArray 59)
  have HK1 := Lib.hid ((lbox_new 24 1 0 ⟨#[]⟩ (some ⟨w.heap.size + 1, 0, none⟩) 2 2 w).below hb1)
  have hown := World.ownsRow_lit (lbox 24 1 0 ⟨#[]⟩ (some ⟨w.heap.size + 1, 0, none⟩) 2 2 w) (base := 0) (e := 59) (size := 5) (fives tw).toArray 2 (Nat.zero_le _) (by unfold maxLen; omega) rfl
  have hl1 := lies5_own (l := tw) hown rfl
  rw [lbox_size] at hl1
  have HL1 := Lib.hid hl1
  have HB1 := Lib.hid (hb0.trans' hb1)
  clear hb0 hb1 hown hl1
  go_enter Tryz.func53, Tryz.ntmps53
  go_wp2_with fail
  obtain ⟨r0, r1, r2, r3⟩ := HK1.out.cells
  refine bodyPost_ret (v := lv 1 0 ⟨#[]⟩ (some ⟨w.heap.size + 1, 0, none⟩) 2 2) (by simp [results, Tryz.results53, go_sem]) rfl ?_
  exact ⟨w.heap.size + 1, by omega, rfl, HL1.out, HB1.out⟩
end Go.Proofs.YtpehkikdmckldaaGreatDoor

namespace Go.Proofs.YtpehkikdmckldaaGreatDoor
open Go.RowKit NP
set_option linter.unusedVariables false
set_option linter.unusedSimpArgs false

/-- What the closure told of one cell: an item, or an error. -/
def One (ts : List ByteArray) (xs : List (Option It)) (g : Nat) (w : World) : Prop :=
  ∀ (k : Nat) (t : ByteArray) (W : World), ts[k]? = some t → Below w.heap.size w W →
    (∀ x, xs[k]? = some (some x) → Calls Tryz.prog 78 #[.int .i64 k, .string t, .pointer (some ⟨g, 0, none⟩)] W fun e w' => e = .returned (.tuple #[iv x.k x.o x.s x.l x.p, .nilIface]) ∧ Below W.heap.size W w') ∧
    (xs[k]? = some none → Calls Tryz.prog 78 #[.int .i64 k, .string t, .pointer (some ⟨g, 0, none⟩)] W fun e w' => (∃ (K : ByteArray) (O : Bool) (S : ByteArray) (L P : Int) (part : ByteArray) (er : Int), e = .returned (.tuple #[iv K O S L P, errV part er])) ∧ Below W.heap.size W w')
/-- The items, if each is one. -/
def allI : List (Option It) → Option (List It)
  | [] => some []
  | none :: _ => none
  | some x :: l => (allI l).map (x :: ·)
def EachI (r : Option (List It)) (n b : Nat) (e : Ending) (w' : World) : Prop :=
  (∃ xs, r = some xs ∧ xs.length = n ∧ e = .returned (.tuple #[.slice (some ⟨b, 0, none⟩) n n, .nilIface]) ∧ Lies5 w' w'.heap.size (some ⟨b, 0, none⟩) xs) ∨
  (r = none ∧ ∃ (Z : ByteArray) (te : TypeId) (ve : Value), e = .returned (.tuple #[.slice none 0 0, .iface 88 (.agg #[.string Z, .iface te ve])]))
theorem allI_not : ∀ (l : List (Option It)) (k : Nat), l[k]? = some none → allI l = none
  | [], k, h => by simp at h
  | none :: l, k, h => rfl
  | some x :: l, 0, h => by simp at h
  | some x :: l, k + 1, h => by
    have ih := allI_not l k (by simpa using h)
    simp [allI, ih]
/-- The items so far. -/
def sofar : List (Option It) → Nat → List It
  | _, 0 => []
  | [], _ + 1 => []
  | none :: _, _ + 1 => []
  | some x :: l, k + 1 => x :: sofar l k
theorem sofar_next : ∀ (l : List (Option It)) (k : Nat) (x : It), (sofar l k).length = k → l[k]? = some (some x) → sofar l (k + 1) = sofar l k ++ [x] ∧ (sofar l (k + 1)).length = k + 1
  | [], k, x, _, h => by simp at h
  | none :: l, 0, x, _, h => by simp at h
  | none :: l, k + 1, x, h1, h => by simp [sofar] at h1
  | some y :: l, 0, x, _, h => by simp at h; subst h; simp [sofar]
  | some y :: l, k + 1, x, h1, h => by
    have ih := sofar_next l k x (by simpa [sofar] using h1) (by simpa using h)
    have e : sofar (some y :: l) (k + 1 + 1) = y :: sofar l (k + 1) := rfl
    have e2 : sofar (some y :: l) (k + 1) = y :: sofar l k := rfl
    rw [e, e2, ih.1]
    simp at h1 ⊢
    simpa [sofar] using h1
theorem sofar_all : ∀ (l : List (Option It)), (sofar l l.length).length = l.length → allI l = some (sofar l l.length)
  | [], _ => rfl
  | none :: l, h => by simp [sofar] at h
  | some x :: l, h => by
    have ih := sofar_all l (by simpa [sofar] using h)
    have e : sofar (some x :: l) (some x :: l).length = x :: sofar l l.length := rfl
    rw [e]
    simp [allI, ih]
/-- The row so far. -/
def rowTo (l : List (Option It)) (n k : Nat) : List It := sofar l k ++ List.replicate (n - k) It0
theorem rowTo_zero (l : List (Option It)) (n : Nat) : rowTo l n 0 = List.replicate n It0 := by simp [rowTo, sofar]
theorem rowTo_at (l : List (Option It)) (n k : Nat) (hl : (sofar l k).length = k) (h : k < n) : (rowTo l n k)[k]? = some It0 := by
  rw [rowTo, List.getElem?_append_right (by omega), hl, Nat.sub_self, List.getElem?_replicate, if_pos (by omega)]
theorem rowTo_length (l : List (Option It)) (n k : Nat) (hl : (sofar l k).length = k) (h : k ≤ n) : (rowTo l n k).length = n := by simp [rowTo, hl]; omega
theorem rowTo_set (l : List (Option It)) (n k : Nat) (x : It) (hl : (sofar l k).length = k) (hk : k < n) (h : l[k]? = some (some x)) : (rowTo l n k).set k x = rowTo l n (k + 1) := by
  rw [rowTo, List.set_append_right _ _ (by omega), hl, Nat.sub_self, rowTo, (sofar_next l k x hl h).1, show n - k = (n - (k + 1)) + 1 by omega, List.replicate_succ, List.set_cons_zero]
  simp

set_option maxHeartbeats 4000000 in
set_option maxRecDepth 100000 in
theorem eachI_any (A : Option Addr) (ts : List ByteArray) (ca : Nat) (xs : List (Option It)) (g : Nat) (w : World) (hp : Pow w) (ha : L5.Lies w w.heap.size A ts) (hl : ts.length ≤ 100000) (hx : xs.length = ts.length) (hf : One ts xs g w) :
    Calls Tryz.prog 77 #[.slice A ts.length ca, .func (.func 78) #[] #[.pointer (some ⟨g, 0, none⟩)]] w fun e w' => EachI (allI xs) ts.length w.heap.size e w' ∧ Below w.heap.size w w' := by
  obtain ⟨i0, hi, hz0, hz1, hz2⟩ := info_parts Tryz.infoItem
  have HA := Lib.hid ha
  have HF := Lib.hid hf
  have HPW := Lib.hid hp
  obtain ⟨n, hn⟩ : ∃ n, n = ts.length := ⟨_, rfl⟩
  have HN := Lib.hid hn
  have HX : Hid (xs.length = n) := Lib.hid (by omega)
  rw [← hn]
  rw [← hn] at hl
  clear ha hf hn hx hp
  go_enter Tryz.func77, Tryz.ntmps77
  go_wp2_with (at_make; refine wpList_make_full _ rfl _ _ 22 rfl w.heap.size 59 i0 (.agg #[.string ⟨#[]⟩, .bool false, .string ⟨#[]⟩, .int .i64 0, .int .i64 0]) 5 Tryz.underlying22 hi hz0 hz1 _ _ _ _ n rfl rfl rfl rfl (by rw [hz2]; omega) (by unfold maxLen; omega) (Nat.le_refl _) ?_; intro w2 hown2 hg2)
  have hb2 : Below w.heap.size w w2 := (Below.refl _ w).grown hg2 (Nat.le_refl _) (by simp)
  have HO2 : Hid (w2.ownsRow w.heap.size 59 5 (.slice (some ⟨w.heap.size, 0, none⟩) n n) n (fives (rowTo xs n 0))) := Lib.hid (by
    rw [rowTo_zero, ← made_blank5 (Value.agg #[.string ⟨#[]⟩, .bool false, .string ⟨#[]⟩, .int .i64 0, .int .i64 0]).cells rfl n]
    exact hown2)
  clear hown2 hg2
  go_loopw [16] (fun iv wr => ∃ k : Nat, k ≤ n ∧ iv = .int .i64 k ∧ Hid ((sofar xs k).length = k) ∧ Hid (wr.ownsRow w.heap.size 59 5 (.slice (some ⟨w.heap.size, 0, none⟩) n n) n (fives (rowTo xs n k))) ∧ Below w.heap.size w wr) (fun iv _ => n - (intOf iv).toNat)
  case atStart => exact ⟨0, Nat.zero_le _, rfl, Lib.hid (by cases xs <;> rfl), HO2, hb2⟩
  case round =>
    obtain ⟨k, hk, rfl, HL, HO, hbr⟩ := hrel
    by_cases hlt : k < n
    · obtain ⟨t, hc⟩ : ∃ c, ts[k]? = some c := ⟨_, List.getElem?_eq_getElem (by have := HN.out; omega)⟩
      obtain ⟨y, hd⟩ : ∃ c, xs[k]? = some c := ⟨_, List.getElem?_eq_getElem (by have := HX.out; omega)⟩
      obtain ⟨a, rfl, hab, x0⟩ := (HA.out.below hbr) k t hc
      have HCL := Lib.hid (HF.out k t wr hc hbr)
      have HD := Lib.hid hd
      clear hc hd hab
      cases y with
      | some x =>
        have HC1 := Lib.hid (HCL.out.1 x HD.out)
        clear HCL
        go_wp2_with fail
        refine HC1.out.mono ?_
        rintro e w3 ⟨rfl, hb3⟩
        have hb4 := hb3.trans' (L5.below_alloc w3 (.cells #[.string x.k, .bool x.o, .string x.s, .int .i64 x.l, .int .i64 x.p] 59))
        have HB4 := Lib.hid (hbr.trans' hb4)
        have HO4 := Lib.hid (own5_below HO.out hb4)
        have hlen := rowTo_length xs n k HL.out hk
        have hgt := rowTo_at xs n k HL.out hlt
        have q0 : (w3.alloc (.cells #[.string x.k, .bool x.o, .string x.s, .int .i64 x.l, .int .i64 x.p] 59)).cell? ⟨w.heap.size, k * 5, none⟩ = some (.string ⟨#[]⟩) := by
          rw [HO4.out.cellAt (k * 5) (by omega)]; exact fives_get _ k 0 It0 _ hgt rfl
        have q1 : (w3.alloc (.cells #[.string x.k, .bool x.o, .string x.s, .int .i64 x.l, .int .i64 x.p] 59)).cell? ⟨w.heap.size, k * 5 + 1, none⟩ = some (.bool false) := by
          rw [HO4.out.cellAt (k * 5 + 1) (by omega)]; exact fives_get _ k 1 It0 _ hgt rfl
        have q2 : (w3.alloc (.cells #[.string x.k, .bool x.o, .string x.s, .int .i64 x.l, .int .i64 x.p] 59)).cell? ⟨w.heap.size, k * 5 + 2, none⟩ = some (.string ⟨#[]⟩) := by
          rw [HO4.out.cellAt (k * 5 + 2) (by omega)]; exact fives_get _ k 2 It0 _ hgt rfl
        have q3 : (w3.alloc (.cells #[.string x.k, .bool x.o, .string x.s, .int .i64 x.l, .int .i64 x.p] 59)).cell? ⟨w.heap.size, k * 5 + 3, none⟩ = some (.int .i64 0) := by
          rw [HO4.out.cellAt (k * 5 + 3) (by omega)]; exact fives_get _ k 3 It0 _ hgt rfl
        have q4 : (w3.alloc (.cells #[.string x.k, .bool x.o, .string x.s, .int .i64 x.l, .int .i64 x.p] 59)).cell? ⟨w.heap.size, k * 5 + 4, none⟩ = some (.int .i64 0) := by
          rw [HO4.out.cellAt (k * 5 + 4) (by omega)]; exact fives_get _ k 4 It0 _ hgt rfl
        have r0 := HO4.out.frozenAt (k * 5)
        have r1 := HO4.out.frozenAt (k * 5 + 1)
        have r2 := HO4.out.frozenAt (k * 5 + 2)
        have r3 := HO4.out.frozenAt (k * 5 + 3)
        have r4 := HO4.out.frozenAt (k * 5 + 4)
        clear hb3 hb4 hbr hlen hgt
        go_wp2_with fail
        go_roundw
        case rel =>
          refine ⟨k + 1, by omega, by simp, Lib.hid (sofar_next xs k x HL.out HD.out).2, Lib.hid ?_, ?_⟩
          · have h := stored5 HO4.out k x (by rw [rowTo_length xs n k HL.out hk]; exact hlt)
            rwa [rowTo_set xs n k x HL.out hlt HD.out] at h
          · exact ((((HB4.out.setCell (p := ⟨w.heap.size, k * 5, none⟩) (Nat.le_refl _) _).setCell (p := ⟨w.heap.size, k * 5 + 1, none⟩) (Nat.le_refl _) _).setCell (p := ⟨w.heap.size, k * 5 + 2, none⟩) (Nat.le_refl _) _).setCell (p := ⟨w.heap.size, k * 5 + 3, none⟩) (Nat.le_refl _) _).setCell (p := ⟨w.heap.size, k * 5 + 4, none⟩) (Nat.le_refl _) _
        case measure => simp [intOf]; omega
      | none =>
        have HC1 := Lib.hid (HCL.out.2 HD.out)
        have HR := Lib.hid (allI_not xs k HD.out)
        have HI := Lib.hid (fun W hW => itoa_any k (by omega) W hW)
        clear HCL
        go_wp2_with fail
        refine HC1.out.mono ?_
        rintro e w3 ⟨⟨K, O, S, L, P, part, er, rfl⟩, hb3⟩
        have hb4 := hb3.trans' (L5.below_alloc w3 (.cells #[.string K, .bool O, .string S, .int .i64 L, .int .i64 P] 59))
        have hb5 := hbr.trans' hb4
        have HP5 := Lib.hid (HPW.out.on hb5)
        unfold errV
        go_wp2_with fail
        refine (HI.out _ HP5.out).mono ?_
        rintro e w4 ⟨⟨Z, hZ, rfl⟩, hb6⟩
        have h9 : ¬ 9223372036854775807 < 5 + Z.size := by omega
        have h9' : ¬ (9223372036854775807 : Int) < 5 + (Z.size : Int) := by omega
        go_wp2_with fail
        go_ret2
        exact ⟨.inr ⟨HR.out, _, _, _, rfl⟩, hb5.trans' hb6⟩
    · obtain rfl : k = n := by omega
      have HR : Hid (allI xs = some (sofar xs k)) := Lib.hid (by
        have h := sofar_all xs
        rw [HX.out] at h
        exact h HL.out)
      have HLL : Hid (Lies5 wr wr.heap.size (some ⟨w.heap.size, 0, none⟩) (sofar xs k)) := Lib.hid (by
        have h := HO.out
        rw [show rowTo xs k k = sofar xs k by simp [rowTo]] at h
        exact lies5_own h HL.out.symm)
      go_wp2_with fail
      go_ret2
      exact ⟨.inl ⟨sofar xs k, HR.out, HL.out, rfl, HLL.out⟩, hbr⟩
end Go.Proofs.YtpehkikdmckldaaGreatDoor

namespace Go.Proofs.YtpehkikdmckldaaGreatDoor.L8
open Go.Proofs.YtpehkikdmckldaaGreatDoor.L5
open Go.RowKit
set_option linter.unusedVariables false
set_option linter.unusedSimpArgs false

def cutB (b : ByteArray) (i : Nat) : ByteArray := b.extract (LP.at_ (B b) i) (LP.at_ (B b) (i + 1))
def cellsB (b : ByteArray) (n : Nat) : List ByteArray := (List.range n).map (cutB b)
theorem cellsB_length (b : ByteArray) (n : Nat) : (cellsB b n).length = n := by simp [cellsB]
theorem cellsB_succ (b : ByteArray) (n : Nat) : cellsB b (n + 1) = cellsB b n ++ [cutB b n] := by simp [cellsB, List.range_succ]
theorem bs_cellsB (b : ByteArray) (n : Nat) : Bs (cellsB b n) = LP.cells (B b) n := by
  simp only [Bs, cellsB, LP.cells, List.map_map]
  congr 1
  funext i
  exact b_extract b _ _
theorem cellsB_size (b : ByteArray) (n : Nat) : ∀ s ∈ cellsB b n, s.size ≤ b.size := fun s hs => by
  obtain ⟨i, _, rfl⟩ := List.mem_map.1 hs
  simp only [cutB, ByteArray.size_extract]
  omega
/-- The places of a body that is one rise, and stay in it. -/
theorem good_at {b : List UInt8} {k n : Nat} (hb : b.length < 65536) (h : LP.good b k n) (i : Nat) (hi : i < n) : LP.at_ b i ≤ LP.at_ b (i + 1) ∧ LP.at_ b (i + 1) ≤ b.length := by
  obtain ⟨h1, h2, h3⟩ := h
  have hk : (b.take k).length = k := by rw [List.length_take]; omega
  have hn : (LP.cells b n).length = n := LP.cells_length b n
  have e1 := LP.at_pack b.length (b.take k) (LP.cells b n) hb (by rw [hk]; exact h2) i (by omega)
  have e2 := LP.at_pack b.length (b.take k) (LP.cells b n) hb (by rw [hk]; exact h2) (i + 1) (by omega)
  rw [h3, hk] at e1 e2
  have h4 := LP.sum_take_succ (LP.cells b n) i (by omega)
  have h5 := LP.sum_take_le (LP.cells b n) (i + 1)
  unfold LP.need at h2
  unfold LP.place at e1 e2
  omega
theorem good_few {b : List UInt8} {k n : Nat} (h : LP.good b k n) : k + 2 + 2 * n ≤ b.length := by
  have h2 := h.2.1
  unfold LP.need at h2
  rw [LP.cells_length] at h2
  omega
/-- A body is what is packed of its cells, or is none. -/
theorem unpack_end (b : ByteArray) (k n : Nat) (hb : b.size ≤ 65535) (hk : k ≤ b.size) :
    (LP.good (B b) k n ∧ packV b.size (b.extract 0 k) (cellsB b n) = .tuple #[.string b, .int .i64 0]) ∨
    (¬ LP.good (B b) k n ∧ packV b.size (b.extract 0 k) (cellsB b n) = .tuple #[.string ⟨#[]⟩, .int .i64 8]) ∨
    (¬ LP.good (B b) k n ∧ ∃ P : ByteArray, P ≠ b ∧ packV b.size (b.extract 0 k) (cellsB b n) = .tuple #[.string P, .int .i64 0]) := by
  have hf : B (b.extract 0 k) = (B b).take k := by rw [b_extract]; simp
  have hfs : (b.extract 0 k).size = k := by simp; omega
  have hbl : (B b).length = b.size := b_size b
  unfold packV packS
  rw [if_neg (by omega), hfs, bs_cellsB, hf, Int.toNat_natCast]
  by_cases h1 : (b.size : Int) < (LP.need k (LP.cells (B b) n) : Nat)
  · right; left
    refine ⟨fun h => ?_, by rw [if_pos h1]⟩
    have := h.2.1
    omega
  · rw [if_neg h1]
    by_cases h2 : LP.pack b.size ((B b).take k) (LP.cells (B b) n) = B b
    · left
      refine ⟨⟨by omega, by omega, by rw [hbl]; exact h2⟩, ?_⟩
      rw [h2]
    · right; right
      refine ⟨fun h => h2 (by have := h.2.2; rwa [hbl] at this), _, fun e => h2 ?_, rfl⟩
      have e3 := congrArg B e
      simpa [B] using e3

/-- What Unpack answers. -/
def Unp (b : ByteArray) (k n : Int) (w : World) (e : Ending) (w' : World) : Prop :=
  ((k < 0 ∨ n < 0 ∨ 65535 < b.size) ∧ e = .returned (.tuple #[.slice none 0 0, .int .i64 4])) ∨
  (¬ (k < 0 ∨ n < 0 ∨ 65535 < b.size) ∧ ¬ LP.good (B b) k.toNat n.toNat ∧ e = .returned (.tuple #[.slice none 0 0, .int .i64 3])) ∨
  (¬ (k < 0 ∨ n < 0 ∨ 65535 < b.size) ∧ LP.good (B b) k.toNat n.toNat ∧ ∃ g cap, e = .returned (.tuple #[.slice (some ⟨g, 0, none⟩) n.toNat cap, .int .i64 0]) ∧ w.heap.size ≤ g ∧ n.toNat ≤ cap ∧ Lies w' w'.heap.size (some ⟨g, 0, none⟩) (cellsB b n.toNat))
theorem own_block {w : World} {base e n g cap : Nat} {xs : List Value} (h : w.ownsRow base e 1 (.slice (some ⟨g, 0, none⟩) n cap) n xs) (hn : 0 < n) : base ≤ g := by
  rcases h.2 with ⟨_, h0⟩ | ⟨g', c, cur, e, hb, _⟩
  · omega
  · simp only [Value.slice.injEq, Option.some.injEq, Addr.mk.injEq] at e
    omega

set_option maxHeartbeats 2000000 in
set_option maxRecDepth 100000 in
theorem unpack8_any (b : ByteArray) (kf n : Int) (w : World) (hk : (Lit.int .i64 kf).wf = true) (hn : (Lit.int .i64 n).wf = true) (hb : b.size ≤ maxLen) :
    Calls Tryz.prog 42 #[.string b, .int .i64 kf, .int .i64 n] w fun e w' => Unp b kf n w e w' ∧ Below w.heap.size w w' := by
  unfold maxLen at hb
  by_cases a1 : kf < 0
  · have HU := Lib.hid (fun e w' (h : e = .returned (.tuple #[.slice none 0 0, .int .i64 4])) => (.inl ⟨.inl a1, h⟩ : Unp b kf n w e w'))
    clear hk hn
    go_enter Tryz.func42, Tryz.ntmps42
    go_wp2_with fail
    go_ret2
    exact ⟨HU.out _ _ rfl, Below.refl _ _⟩
  by_cases a2 : n < 0
  · have HU := Lib.hid (fun e w' (h : e = .returned (.tuple #[.slice none 0 0, .int .i64 4])) => (.inl ⟨.inr (.inl a2), h⟩ : Unp b kf n w e w'))
    clear hk hn
    go_enter Tryz.func42, Tryz.ntmps42
    go_wp2_with fail
    go_ret2
    exact ⟨HU.out _ _ rfl, Below.refl _ _⟩
  by_cases a3 : 65535 < b.size
  · have HU := Lib.hid (fun e w' (h : e = .returned (.tuple #[.slice none 0 0, .int .i64 4])) => (.inl ⟨.inr (.inr a3), h⟩ : Unp b kf n w e w'))
    have d1 : decide (65535 < b.size) = true := decide_eq_true a3
    have d2 : decide ((65535 : Int) < (b.size : Int)) = true := decide_eq_true (by omega)
    clear hk hn
    go_enter Tryz.func42, Tryz.ntmps42
    go_wp2_with fail
    go_ret2
    exact ⟨HU.out _ _ rfl, Below.refl _ _⟩
  obtain ⟨k, rfl⟩ := Int.eq_ofNat_of_zero_le (show 0 ≤ kf by omega)
  obtain ⟨n, rfl⟩ := Int.eq_ofNat_of_zero_le (show 0 ≤ n by omega)
  have hno : ¬ ((k : Int) < 0 ∨ (n : Int) < 0 ∨ 65535 < b.size) := by omega
  have HBAD : Hid (¬ LP.good (B b) k n → ∀ e w', e = .returned (.tuple #[.slice none 0 0, .int .i64 3]) → Unp b k n w e w') := Lib.hid (fun hg e w' h => .inr (.inl ⟨hno, hg, h⟩))
  have HOK : Hid (LP.good (B b) k n → ∀ w' g cap, w.heap.size ≤ g → n ≤ cap → Lies w' w'.heap.size (some ⟨g, 0, none⟩) (cellsB b n) → Unp b k n w (.returned (.tuple #[.slice (some ⟨g, 0, none⟩) n cap, .int .i64 0])) w') := Lib.hid (fun hg w' g cap h1 h2 h3 => .inr (.inr ⟨hno, hg, g, cap, rfl, h1, h2, h3⟩))
  have hbl : (B b).length = b.size := b_size b
  have d1 : decide (65535 < b.size) = false := decide_eq_false a3
  have d2 : decide ((65535 : Int) < (b.size : Int)) = false := decide_eq_false (by omega)
  clear hno hk hn
  by_cases c1 : b.size < k
  · have HB2 := Lib.hid (HBAD.out (fun h => by have := h.1; omega))
    have d3 : decide (b.size < k) = true := decide_eq_true c1
    have d4 : decide ((b.size : Int) < (k : Int)) = true := decide_eq_true (by omega)
    clear HBAD HOK hbl
    go_enter Tryz.func42, Tryz.ntmps42
    go_wp2_with fail
    go_ret2
    exact ⟨HB2.out _ _ rfl, Below.refl _ _⟩
  have d3 : decide (b.size < k) = false := decide_eq_false c1
  have d4 : decide ((b.size : Int) < (k : Int)) = false := decide_eq_false (by omega)
  by_cases c2 : b.size / 2 ≤ n
  · have HB2 := Lib.hid (HBAD.out (fun h => by have := good_few h; omega))
    have d5 : decide (b.size / 2 ≤ n) = true := decide_eq_true c2
    have d6 : decide ((b.size : Int) / 2 ≤ (n : Int)) = true := decide_eq_true (by omega)
    clear HBAD HOK hbl
    go_enter Tryz.func42, Tryz.ntmps42
    go_wp2_with fail
    go_ret2
    exact ⟨HB2.out _ _ rfl, Below.refl _ _⟩
  have d5 : decide (b.size / 2 ≤ n) = false := decide_eq_false c2
  have d6 : decide ((b.size : Int) / 2 ≤ (n : Int)) = false := decide_eq_false (by omega)
  obtain ⟨i0, hi, hz0, hz1, hz2⟩ := info_parts Tryz.infoStr
  go_enter Tryz.func42, Tryz.ntmps42
  go_wp2_with fail
  go_loopw [8, 9] (fun ov iv wr => ∃ (i g cap : Nat), i ≤ n ∧ iv = .int .i64 i ∧ ov = .slice (some ⟨g, 0, none⟩) i cap ∧ Hid (Owns wr w.heap.size (.slice (some ⟨g, 0, none⟩) i cap) i (cellsB b i)) ∧ w.heap.size ≤ g ∧ i ≤ cap ∧ Below w.heap.size w wr) (fun _ iv _ => n - (intOf iv).toNat)
  case atStart => exact ⟨0, w.heap.size, 0, by omega, rfl, rfl, Lib.hid (own_empty w _), Nat.le_refl _, by omega, below_alloc _ _⟩
  case round =>
    obtain ⟨i, g, cap, hin, rfl, rfl, HO, hg, hcap, hbw⟩ := hrel
    have hbs := hbw.size
    by_cases hlt : i < n
    · obtain ⟨p, hp⟩ : ∃ p, LP.at_ (B b) i = p := ⟨_, rfl⟩
      obtain ⟨q, hq⟩ : ∃ q, LP.at_ (B b) (i + 1) = q := ⟨_, rfl⟩
      have HA1 := Lib.hid (fun W => at_any b i W (by omega) (by omega))
      have HA2 := Lib.hid (fun W => at_any b (i + 1) W (by omega) (by omega))
      rw [hp] at HA1
      rw [hq] at HA2
      have HW1 : IntKind.i64.wrap ((i : Int) + 1) = (i : Int) + 1 := IntWalk.i64_in _ (by omega)
      have e1 : (((i + 1 : Nat)) : Int) = (i : Int) + 1 := by omega
      rw [e1] at HA2
      have hB : (B b).length < 65536 := by omega
      by_cases hpq : p ≤ q ∧ q ≤ b.size
      · obtain ⟨c, hc⟩ : ∃ c, b.extract p q = c := ⟨_, rfl⟩
        have HC := Lib.hid (show cellsB b (i + 1) = cellsB b i ++ [c] by rw [cellsB_succ, cutB, hp, hq, hc])
        have d7 : decide (q < p) = false := decide_eq_false (by omega)
        have d8 : decide ((q : Int) < (p : Int)) = false := decide_eq_false (by omega)
        have d9 : decide (b.size < q) = false := decide_eq_false (by omega)
        have d10 : decide ((b.size : Int) < (q : Int)) = false := decide_eq_false (by omega)
        have j1 : (0 : Int) ≤ (p : Int) ∧ (p : Int) ≤ (q : Int) ∧ (q : Int) ≤ (b.size : Int) := by omega
        have j2 : p ≤ q := hpq.1
        have j3 : q ≤ b.size := hpq.2
        clear hp hq hpq hB
        go_wp2_with fail
        refine (HA1.out _).mono ?_
        rintro e w1 ⟨rfl, hb1⟩
        go_wp2_with fail
        refine (HA2.out _).mono ?_
        rintro e w2 ⟨rfl, hb2⟩
        have hO2 := own_below (own_below HO.out hb1) hb2
        have hbw2 := (hbw.trans' hb1).trans' hb2
        have hbs2 := hbw2.size
        go_wp2_with (first
          | (at_builtin; refine wpList_append_lies _ rfl _ _ 66 rfl w.heap.size 9 i0 (.string ⟨#[]⟩) 1 16 Tryz.underlying66 hi hz0 hz1 hz2 rfl (by decide) (.slice (some ⟨g, 0, none⟩) i cap) i _ rfl (hO2.alloc _) ⟨w2.heap.size, 0, none⟩ 1 1 [.string c] rfl rfl (World.news_of_block (cs := #[.string c]) (t := 9) (fr := (0, 0)) (heap_alloc_new w2 _)) (by simp [Value.oneCell']) (by omega) (by unfold maxLen; omega) (by omega) (by simp; omega) (w2.heap.size + 1) (by simp) ?_; intro g' cap' w3 hown1 hgrow hat hlt1))
        have hg' : w.heap.size ≤ g' := own_block hown1 (by omega)
        have hcap' := own_cap hown1
        have hb3 : Below w.heap.size w w3 := (hbw2.trans' (below_alloc w2 (.cells #[.string c] 9))).trans (own_apart (hO2.alloc _) hgrow (Nat.le_refl _) (by simp; omega))
        clear hat hlt1
        go_roundw
        case rel => exact ⟨i + 1, g', cap', by omega, by go_num, rfl, Lib.hid (by rw [HC.out, Owns, strCells_snoc]; exact hown1), hg', hcap', hb3⟩
        case measure => simp [intOf]; omega
      · have HB2 := Lib.hid (HBAD.out (fun h => by
          have := good_at hB h i hlt
          rw [hp, hq, hbl] at this
          exact hpq this))
        clear hp hq HBAD HOK hB
        by_cases h7 : q < p
        · have d7 : decide (q < p) = true := decide_eq_true h7
          have d8 : decide ((q : Int) < (p : Int)) = true := decide_eq_true (by omega)
          clear hpq
          go_wp2_with fail
          refine (HA1.out _).mono ?_
          rintro e w1 ⟨rfl, hb1⟩
          go_wp2_with fail
          refine (HA2.out _).mono ?_
          rintro e w2 ⟨rfl, hb2⟩
          go_wp2_with fail
          go_ret2
          exact ⟨HB2.out _ _ rfl, (hbw.trans' hb1).trans' hb2⟩
        · have d7 : decide (q < p) = false := decide_eq_false h7
          have d8 : decide ((q : Int) < (p : Int)) = false := decide_eq_false (by omega)
          have d9 : decide (b.size < q) = true := decide_eq_true (by omega)
          have d10 : decide ((b.size : Int) < (q : Int)) = true := decide_eq_true (by omega)
          clear hpq
          go_wp2_with fail
          refine (HA1.out _).mono ?_
          rintro e w1 ⟨rfl, hb1⟩
          go_wp2_with fail
          refine (HA2.out _).mono ?_
          rintro e w2 ⟨rfl, hb2⟩
          go_wp2_with fail
          go_ret2
          exact ⟨HB2.out _ _ rfl, (hbw.trans' hb1).trans' hb2⟩
    · obtain rfl : i = n := by omega
      have hlen := cellsB_length b i
      have HL := lies_own HO.out hlen.symm
      obtain ⟨f, hf⟩ : ∃ f, b.extract 0 k = f := ⟨_, rfl⟩
      have sf : f.size = k := by rw [← hf]; simp; omega
      have HPK := Lib.hid (by have h := pack8_any (b.size : Int) f (some ⟨g, 0, none⟩) (cellsB b i) cap wr HL (by rw [hlen]; omega) (by omega) (fun s hs => Nat.le_trans (cellsB_size b i s hs) (by omega)); rw [hlen] at h; exact h)
      have hend := unpack_end b k i (by omega) (by omega)
      rw [hf] at hend
      have HLL := Lib.hid HL
      have d11 : decide ((i : Int) < (i : Int)) = false := decide_eq_false (by omega)
      have j1 : (0 : Int) ≤ (k : Int) ∧ (k : Int) ≤ (b.size : Int) := by omega
      have j2 : k ≤ b.size := by omega
      have hss : (b.toList == b.toList) = true := beq_self_eq_true _
      rcases hend with ⟨hgd, hv⟩ | ⟨hgd, hv⟩ | ⟨hgd, P, hne, hv⟩
      · rw [hv] at HPK
        have HO2 := Lib.hid (HOK.out hgd)
        clear hv hgd HBAD HOK hlen HL sf
        go_wp2_with fail
        refine HPK.out.mono ?_
        rintro e w1 ⟨rfl, hb1⟩
        go_wp2_with fail
        go_ret2
        exact ⟨HO2.out _ _ _ hg hcap (HLL.out.on hb1), hbw.trans' hb1⟩
      · rw [hv] at HPK
        have HB2 := Lib.hid (HBAD.out hgd)
        clear hv hgd HBAD HOK hlen HL sf
        go_wp2_with fail
        refine HPK.out.mono ?_
        rintro e w1 ⟨rfl, hb1⟩
        go_wp2_with fail
        go_ret2
        exact ⟨HB2.out _ _ rfl, hbw.trans' hb1⟩
      · rw [hv] at HPK
        have HB2 := Lib.hid (HBAD.out hgd)
        have hneq : (P.toList == b.toList) = false := by
          rw [Lib.toList_data, Lib.toList_data]
          exact beq_eq_false_iff_ne.2 fun e => hne (ByteArray.ext (Array.toList_inj.1 e))
        clear hv hgd HBAD HOK hlen HL sf hne
        go_wp2_with fail
        refine HPK.out.mono ?_
        rintro e w1 ⟨rfl, hb1⟩
        go_wp2_with fail
        go_ret2
        exact ⟨HB2.out _ _ rfl, hbw.trans' hb1⟩
end Go.Proofs.YtpehkikdmckldaaGreatDoor.L8

namespace Go.Proofs.YtpehkikdmckldaaGreatDoor.L8
open Go.Proofs.YtpehkikdmckldaaGreatDoor.L5
open Go.RowKit
set_option linter.unusedVariables false
set_option linter.unusedSimpArgs false

theorem num2_at (b : List UInt8) (i : Nat) (h : 2 * i + 2 ≤ b.length) : num2 b (b.length - 2 * i - 2) = LP.at_ b i := by
  unfold num2 LP.at_
  rw [show b.length - 2 * i - 2 + 1 = b.length - 2 * i - 1 by omega]
/-- The row of cells, k of which are cut. -/
def cutTo8 (b : ByteArray) (n k : Nat) : List Value := strCells (cellsB b k) ++ List.replicate (n - k) (.string ⟨#[]⟩)
theorem cutTo8_zero (b : ByteArray) (n : Nat) : cutTo8 b n 0 = List.replicate n (.string ⟨#[]⟩) := by simp [cutTo8, strCells, cellsB]
theorem cutTo8_full (b : ByteArray) (n : Nat) : cutTo8 b n n = strCells (cellsB b n) := by simp [cutTo8]
theorem cutTo8_set (b : ByteArray) (n k : Nat) (h : k < n) : (cutTo8 b n k).set k (.string (cutB b k)) = cutTo8 b n (k + 1) := by
  have hlen : (strCells (cellsB b k)).length = k := by rw [strCells_length, cellsB_length]
  rw [cutTo8, List.set_append_right _ _ (by omega), hlen, Nat.sub_self, cutTo8, cellsB_succ, show n - k = (n - (k + 1)) + 1 by omega, List.replicate_succ, List.set_cons_zero]
  simp [strCells]
theorem cutTo8_at (b : ByteArray) (n k : Nat) (h : k < n) : (cutTo8 b n k)[k]? = some (.string ⟨#[]⟩) := by
  have hlen : (strCells (cellsB b k)).length = k := by rw [strCells_length, cellsB_length]
  rw [cutTo8, List.getElem?_append_right (by omega), hlen, Nat.sub_self, List.getElem?_replicate, if_pos (by omega)]
theorem made_blank (m : Nat) : (madeCells (Value.string ⟨#[]⟩).cells (m * 1)).toList = List.replicate m (.string ⟨#[]⟩) := by
  apply List.ext_getElem
  · simp [madeCells]
  · intro i h1 h2
    simp [madeCells, Value.cells, Nat.mod_one]
/-- A part of a row of bytes, as a text. -/
theorem conv_part {P : Program} {w : World} {t e s : TypeId} {g : Nat} {b : ByteArray} (ht : P.underlying t = some (.slice e)) (he : P.underlying e = some (.int .u8)) (hs : P.underlying s = some .string)
    (h : ∀ j c, (B b)[j]? = some c → w.cell? ⟨g, j, none⟩ = some (.int .u8 (c.toNat : Nat))) (p q : Nat) (hpq : p ≤ q) (hq : q ≤ b.size) (cap : Nat) : (convert t s (.slice (some ⟨g, p, none⟩) (q - p) cap)).run P w = .ok (.string (b.extract p q)) w := by
  have hl : (((B b).drop p).take (q - p)).length = q - p := by rw [List.length_take, List.length_drop, b_size]; omega
  have h1 := run_convert_bytes_back (P := P) w t s e ⟨g, p, none⟩ cap (((B b).drop p).take (q - p)) ht he hs (fun j hj => by
    rw [hl] at hj
    have h2 : (⟨g, p, none⟩ : Addr).add j = ⟨g, p + j, none⟩ := by
      unfold Addr.add
      by_cases h3 : j = 0 <;> simp [h3]
    rw [h2, h (p + j) _ (List.getElem?_eq_getElem (by rw [b_size]; omega))]
    simp)
  rw [hl] at h1
  rw [h1]
  congr 2
  rw [← b_extract]

set_option maxHeartbeats 2000000 in
set_option maxRecDepth 100000 in
theorem cut8_any (b : ByteArray) (g n cap : Nat) (w : World) (h : ∀ j c, (B b)[j]? = some c → w.cell? ⟨g, j, none⟩ = some (.int .u8 (c.toNat : Nat))) (hg : w.heap.size = g + 1) (hb : b.size ≤ 65535) (hcap : b.size ≤ cap) (hn : 2 * n + 2 ≤ b.size) :
    Calls Tryz.prog 110 #[.slice (some ⟨g, 0, none⟩) b.size cap, .int .i64 n] w fun e w' =>
      ((¬ (∀ i, i < n → LP.at_ (B b) i ≤ LP.at_ (B b) (i + 1) ∧ LP.at_ (B b) (i + 1) ≤ b.size) ∧ e = .returned (.tuple #[.slice none 0 0, .bool false])) ∨
        ((∀ i, i < n → LP.at_ (B b) i ≤ LP.at_ (B b) (i + 1) ∧ LP.at_ (B b) (i + 1) ≤ b.size) ∧ ∃ r, g < r ∧ e = .returned (.tuple #[.slice (some ⟨r, 0, none⟩) n n, .bool true]) ∧ Lies w' w'.heap.size (some ⟨r, 0, none⟩) (cellsB b n))) ∧ Below g w w' := by
  obtain ⟨i0, hi, hz0, hz1, hz2⟩ := info_parts Tryz.infoStr
  have hbl : (B b).length = b.size := b_size b
  have HRD := Lib.hid (by have h := reader_any g cap (B b) w h hg; rw [hbl] at h; exact h)
  have HNX : Hid (∀ (i : Nat) (W : World), 2 * i + 2 ≤ b.size → Hid (Rd W g (B b) cap (b.size - 2 * i)) → Calls Tryz.prog 147 #[.pointer (some ⟨g + 2, 0, none⟩), .pointer (some ⟨g + 1, 0, none⟩)] W fun e w' => e = .returned (.int .i64 (LP.at_ (B b) i : Nat)) ∧ Hid (Rd w' g (B b) cap (b.size - 2 * (i + 1))) ∧ Below g W w' ∧ W.grownBy w' (some (g + 2))) := Lib.hid (fun i W h1 h2 => by
    have h3 := next_any g (b.size - 2 * i - 2) cap (B b) W (by rw [show b.size - 2 * i - 2 + 2 = b.size - 2 * i by omega]; exact h2) (by omega) (by omega)
    rw [← hbl, num2_at (B b) i (by omega), hbl] at h3
    rw [show b.size - 2 * (i + 1) = b.size - 2 * i - 2 by omega]
    exact h3)
  have HBAD : Hid (∀ i, i < n → ¬ (LP.at_ (B b) i ≤ LP.at_ (B b) (i + 1) ∧ LP.at_ (B b) (i + 1) ≤ b.size) → ¬ (∀ i, i < n → LP.at_ (B b) i ≤ LP.at_ (B b) (i + 1) ∧ LP.at_ (B b) (i + 1) ≤ b.size)) := Lib.hid (fun i h1 h2 h3 => h2 (h3 i h1))
  obtain ⟨Ok, hOk⟩ : ∃ p : Prop, p = (∀ i, i < n → LP.at_ (B b) i ≤ LP.at_ (B b) (i + 1) ∧ LP.at_ (B b) (i + 1) ≤ b.size) := ⟨_, rfl⟩
  have HOK := Lib.hid (show (∀ i, i < n → LP.at_ (B b) i ≤ LP.at_ (B b) (i + 1) ∧ LP.at_ (B b) (i + 1) ≤ b.size) → Ok from fun h => by rw [hOk]; exact h)
  rw [← hOk] at HBAD ⊢
  clear hOk h
  go_enter Tryz.func110, Tryz.ntmps110
  go_wp2_with fail
  refine HRD.out.mono ?_
  rintro e w1 ⟨rfl, hW1, hb1⟩
  clear HRD
  go_wp2_with (at_make; refine wpList_make_full _ rfl _ _ 66 rfl w1.heap.size 9 i0 (.string ⟨#[]⟩) 1 Tryz.underlying66 hi hz0 hz1 _ _ _ _ n rfl rfl rfl rfl (by rw [hz2]; omega) (by unfold maxLen; omega) (Nat.le_refl _) ?_; intro w2 hown2 hg2)
  have hs1 := hW1.out.1
  have hb1 := hb1.mono (show g ≤ w.heap.size by omega)
  have hb2 : Below g w w2 := hb1.grown hg2 (by omega) (by simp)
  have hW2 := Lib.hid (rd_grown hW1.out hg2 (by simp))
  rw [made_blank, ← cutTo8_zero b] at hown2
  have HO2 := Lib.hid hown2
  obtain ⟨r, hr⟩ : ∃ r, r = w1.heap.size := ⟨_, rfl⟩
  rw [← hr] at HO2 hs1 ⊢
  clear hown2 hg2 hW1 hb1 hr
  have h0 := HNX.out 0 w2 (by omega) hW2
  have H0 := Lib.hid h0
  go_wp2_with fail
  refine H0.out.mono ?_
  rintro e w3 ⟨rfl, hW3, hb3, hg3⟩
  have HO3 := Lib.hid (HO2.out.kept hg3 (.inr (by simp [Value.ownBlock]; omega)))
  have hb3' := hb2.trans hb3
  clear h0 H0 hb2 hb3 hg3 HO2 hW2
  go_wp2_with fail
  go_loopw [8, 19] (fun fv iv wr => ∃ k : Nat, k ≤ n ∧ iv = .int .i64 k ∧ fv = .int .i64 (LP.at_ (B b) k : Nat) ∧ Hid (∀ i, i < k → LP.at_ (B b) i ≤ LP.at_ (B b) (i + 1) ∧ LP.at_ (B b) (i + 1) ≤ b.size) ∧ Hid (Rd wr g (B b) cap (b.size - 2 * (k + 1))) ∧ Hid (wr.ownsRow r 9 1 (.slice (some ⟨r, 0, none⟩) n n) n (cutTo8 b n k)) ∧ Below g w wr) (fun _ iv _ => n - (intOf iv).toNat)
  case atStart => exact ⟨0, Nat.zero_le _, rfl, rfl, Lib.hid (fun i hi => by omega), hW3, HO3, hb3'⟩
  case round =>
    obtain ⟨k, hk, rfl, rfl, HR, HW, HO, hbw⟩ := hrel
    by_cases hlt : k < n
    · have HX := Lib.hid (HNX.out (k + 1) wr (by omega) HW)
      obtain ⟨p, hp⟩ : ∃ p, LP.at_ (B b) k = p := ⟨_, rfl⟩
      obtain ⟨q, hq⟩ : ∃ q, LP.at_ (B b) (k + 1) = q := ⟨_, rfl⟩
      by_cases hpq : p ≤ q ∧ q ≤ b.size
      · obtain ⟨c, hc⟩ : ∃ c, b.extract p q = c := ⟨_, rfl⟩
        have HC := Lib.hid (show cutB b k = c by rw [cutB, hp, hq, hc])
        have HR2 : Hid (∀ i, i < k + 1 → LP.at_ (B b) i ≤ LP.at_ (B b) (i + 1) ∧ LP.at_ (B b) (i + 1) ≤ b.size) := Lib.hid (fun i hi => by
          by_cases h1 : i = k
          · subst h1; rw [hp, hq]; exact hpq
          · exact HR.out i (by omega))
        have HQ := Lib.hid hq
        have hce : Hid (q = p → c = ⟨#[]⟩) := Lib.hid (fun e => by
          subst e
          rw [← hc]
          exact b_inj (by rw [b_extract]; simp))
        have HCV := Lib.hid (fun (W : World) (h : ∀ j c, (B b)[j]? = some c → W.cell? ⟨g, j, none⟩ = some (.int .u8 (c.toNat : Nat))) (cap : Nat) => conv_part (P := Tryz.prog) (t := 103) (e := 5) (s := 9) Tryz.underlying103 Tryz.underlying5 Tryz.underlying9 h p q hpq.1 hpq.2 cap)
        rw [hc] at HCV
        rw [hq] at HX
        rw [hp]
        have d7 : decide (q < p) = false := decide_eq_false (by omega)
        have d8 : decide ((q : Int) < (p : Int)) = false := decide_eq_false (by omega)
        have d9 : decide (b.size < q) = false := decide_eq_false (by omega)
        have d10 : decide ((b.size : Int) < (q : Int)) = false := decide_eq_false (by omega)
        have j1 : (0 : Int) ≤ (p : Int) ∧ (p : Int) ≤ (q : Int) ∧ (q : Int) ≤ (cap : Int) := by omega
        have j2 : p ≤ q := hpq.1
        have j3 : q ≤ cap := by omega
        clear hp hq hpq hc
        go_wp2_with fail
        refine HX.out.mono ?_
        rintro e w4 ⟨rfl, hW4, hb4, hg4⟩
        have HO4 := Lib.hid (HO.out.kept hg4 (.inr (by simp [Value.ownBlock]; omega)))
        have hcell : w4.cell? ⟨r, k, none⟩ = some (.string ⟨#[]⟩) := by
          rw [HO4.out.cellAt k (by omega), cutTo8_at b n k hlt]
        have hfr := HO4.out.frozenAt k
        have cv := fun cap => HCV.out w4 hW4.out.2.1 cap
        have hbw4 := hbw.trans hb4
        have cv0 : q = p → (convert 103 9 (.slice (some ⟨g, 0, none⟩) 0 0)).run Tryz.prog w4 = .ok (.string c) w4 := fun e => by
          have h1 := run_convert_bytes_back (P := Tryz.prog) w4 103 9 5 ⟨g, 0, none⟩ 0 [] Tryz.underlying103 Tryz.underlying5 Tryz.underlying9 (fun j hj => by simp at hj)
          rw [hce.out e]
          exact h1
        clear hb4 hg4
        have HEND : Hid (Rd (w4.setCell ⟨r, k, none⟩ (.string c)) g (B b) cap (b.size - 2 * (k + 1 + 1))) := Lib.hid (rd_grown hW4.out (grown_setCell w4 ⟨r, k, none⟩ (.string c)) (by simp; omega))
        have HOE : Hid ((w4.setCell ⟨r, k, none⟩ (.string c)).ownsRow r 9 1 (.slice (some ⟨r, 0, none⟩) n n) n (cutTo8 b n (k + 1))) := Lib.hid (by
          have h := (HO4.out.stored k (.string c)).1
          rwa [← HC.out, cutTo8_set b n k hlt, HC.out] at h)
        have hbE : Below g w (w4.setCell ⟨r, k, none⟩ (.string c)) := hbw4.setCell (by show g ≤ r; omega) _
        by_cases hqp : q = p
        · have cv1 := cv0 hqp
          clear cv cv0
          subst hqp
          go_wp2_with fail
          go_roundw
          case rel => exact ⟨k + 1, by omega, by go_num, by rw [HQ.out], HR2, HEND, HOE, hbE⟩
          case measure => simp [intOf]; omega
        · clear cv0
          go_wp2_with fail
          go_roundw
          case rel => exact ⟨k + 1, by omega, by go_num, by rw [HQ.out], HR2, HEND, HOE, hbE⟩
          case measure => simp [intOf]; omega
      · have HB2 := HBAD.out k hlt (by rw [hp, hq]; exact hpq)
        rw [hq] at HX
        rw [hp]
        clear hp hq
        by_cases h7 : q < p
        · have d7 : decide (q < p) = true := decide_eq_true h7
          have d8 : decide ((q : Int) < (p : Int)) = true := decide_eq_true (by omega)
          clear hpq
          go_wp2_with fail
          refine HX.out.mono ?_
          rintro e w4 ⟨rfl, hW4, hb4, hg4⟩
          go_wp2_with fail
          go_ret2
          exact ⟨.inl ⟨HB2, rfl⟩, hbw.trans hb4⟩
        · have d7 : decide (q < p) = false := decide_eq_false h7
          have d8 : decide ((q : Int) < (p : Int)) = false := decide_eq_false (by omega)
          have d9 : decide (b.size < q) = true := decide_eq_true (by omega)
          have d10 : decide ((b.size : Int) < (q : Int)) = true := decide_eq_true (by omega)
          clear hpq
          go_wp2_with fail
          refine HX.out.mono ?_
          rintro e w4 ⟨rfl, hW4, hb4, hg4⟩
          go_wp2_with fail
          go_ret2
          exact ⟨.inl ⟨HB2, rfl⟩, hbw.trans hb4⟩
    · obtain rfl : k = n := by omega
      have HL := Lib.hid (show Lies wr wr.heap.size (some ⟨r, 0, none⟩) (cellsB b k) from by
        have h := HO.out
        rw [cutTo8_full] at h
        exact lies_own h (cellsB_length b k).symm)
      have HT := HOK.out HR.out
      go_wp2_with fail
      go_ret2
      exact ⟨.inr ⟨HT, r, by omega, rfl, HL.out⟩, hbw⟩
end Go.Proofs.YtpehkikdmckldaaGreatDoor.L8

namespace Go.Proofs.YtpehkikdmckldaaGreatDoor.L8
open Go.Proofs.YtpehkikdmckldaaGreatDoor.L5
open Go.RowKit
set_option linter.unusedVariables false
set_option linter.unusedSimpArgs false

/-- '[]byte(s)'. -/
theorem conv_to (s : ByteArray) (w : World) : ∃ cap w', (convert 9 103 (.string s)).run Tryz.prog w = .ok (.slice (some ⟨w.heap.size, 0, none⟩) s.size cap) w' ∧ (∀ j c, (B s)[j]? = some c → w'.cell? ⟨w.heap.size, j, none⟩ = some (.int .u8 (c.toNat : Nat))) ∧ s.size ≤ cap ∧ w'.heap.size = w.heap.size + 1 ∧ Below w.heap.size w w' := by
  refine ⟨_, _, run_bytes_of_string (P := Tryz.prog) w 9 103 5 s Tryz.underlying9 Tryz.underlying103 Tryz.underlying5, fun j c hj => ?_, grownCap_ge w _ _ _, by simp, ?_⟩
  · have hlt : j < s.data.size := by have := (List.getElem?_eq_some_iff.1 hj).1; simpa [B] using this
    have h := World.cell?_alloc_mark w.drew (bytesRow s (grownCap w s.size 0 5)) 5 ((bytesRow s (grownCap w s.size 0 5)).size, (bytesRow s (grownCap w s.size 0 5)).size + 1) j
    rw [bytesRow_at s _ j hlt] at h
    have e : s.data[j] = c := by
      have := (List.getElem?_eq_some_iff.1 hj).2
      simpa [B] using this
    rw [e] at h
    exact h
  · exact (Below.refl _ w).drew.alloc (Nat.le_refl _) _

set_option maxHeartbeats 2000000 in
set_option maxRecDepth 100000 in
theorem unpack_any (b : ByteArray) (kf n : Int) (w : World) (hk : (Lit.int .i64 kf).wf = true) (hn : (Lit.int .i64 n).wf = true) (hb : b.size ≤ maxLen) :
    Calls Tryz.prog 76 #[.string b, .int .i64 kf, .int .i64 n] w fun e w' => Unp b kf n w e w' ∧ Below w.heap.size w w' := by
  unfold maxLen at hb
  by_cases a1 : kf < 0
  · have HU := Lib.hid (fun e w' (h : e = .returned (.tuple #[.slice none 0 0, .int .i64 4])) => (.inl ⟨.inl a1, h⟩ : Unp b kf n w e w'))
    clear hk hn
    go_enter Tryz.func76, Tryz.ntmps76
    go_wp2_with fail
    go_ret2
    exact ⟨HU.out _ _ rfl, Below.refl _ _⟩
  by_cases a2 : n < 0
  · have HU := Lib.hid (fun e w' (h : e = .returned (.tuple #[.slice none 0 0, .int .i64 4])) => (.inl ⟨.inr (.inl a2), h⟩ : Unp b kf n w e w'))
    clear hk hn
    go_enter Tryz.func76, Tryz.ntmps76
    go_wp2_with fail
    go_ret2
    exact ⟨HU.out _ _ rfl, Below.refl _ _⟩
  by_cases a3 : 65535 < b.size
  · have HU := Lib.hid (fun e w' (h : e = .returned (.tuple #[.slice none 0 0, .int .i64 4])) => (.inl ⟨.inr (.inr a3), h⟩ : Unp b kf n w e w'))
    have d1 : decide (65535 < b.size) = true := decide_eq_true a3
    have d2 : decide ((65535 : Int) < (b.size : Int)) = true := decide_eq_true (by omega)
    clear hk hn
    go_enter Tryz.func76, Tryz.ntmps76
    go_wp2_with fail
    go_ret2
    exact ⟨HU.out _ _ rfl, Below.refl _ _⟩
  obtain ⟨k, rfl⟩ := Int.eq_ofNat_of_zero_le (show 0 ≤ kf by omega)
  obtain ⟨n, rfl⟩ := Int.eq_ofNat_of_zero_le (show 0 ≤ n by omega)
  have hno : ¬ ((k : Int) < 0 ∨ (n : Int) < 0 ∨ 65535 < b.size) := by omega
  have HBAD : Hid (¬ LP.good (B b) k n → ∀ e w', e = .returned (.tuple #[.slice none 0 0, .int .i64 3]) → Unp b k n w e w') := Lib.hid (fun hg e w' h => .inr (.inl ⟨hno, hg, h⟩))
  have HOK : Hid (LP.good (B b) k n → ∀ w' g cap, w.heap.size ≤ g → n ≤ cap → Lies w' w'.heap.size (some ⟨g, 0, none⟩) (cellsB b n) → Unp b k n w (.returned (.tuple #[.slice (some ⟨g, 0, none⟩) n cap, .int .i64 0])) w') := Lib.hid (fun hg w' g cap h1 h2 h3 => .inr (.inr ⟨hno, hg, g, cap, rfl, h1, h2, h3⟩))
  have hbl : (B b).length = b.size := b_size b
  have d1 : decide (65535 < b.size) = false := decide_eq_false a3
  have d2 : decide ((65535 : Int) < (b.size : Int)) = false := decide_eq_false (by omega)
  clear hno hk hn
  by_cases c1 : b.size < k
  · have HB2 := Lib.hid (HBAD.out (fun h => by have := h.1; omega))
    have d3 : decide (b.size < k) = true := decide_eq_true c1
    have d4 : decide ((b.size : Int) < (k : Int)) = true := decide_eq_true (by omega)
    clear HBAD HOK hbl
    go_enter Tryz.func76, Tryz.ntmps76
    go_wp2_with fail
    go_ret2
    exact ⟨HB2.out _ _ rfl, Below.refl _ _⟩
  have d3 : decide (b.size < k) = false := decide_eq_false c1
  have d4 : decide ((b.size : Int) < (k : Int)) = false := decide_eq_false (by omega)
  by_cases c2 : b.size / 2 ≤ n
  · have HB2 := Lib.hid (HBAD.out (fun h => by have := good_few h; omega))
    have d5 : decide (b.size / 2 ≤ n) = true := decide_eq_true c2
    have d6 : decide ((b.size : Int) / 2 ≤ (n : Int)) = true := decide_eq_true (by omega)
    clear HBAD HOK hbl
    go_enter Tryz.func76, Tryz.ntmps76
    go_wp2_with fail
    go_ret2
    exact ⟨HB2.out _ _ rfl, Below.refl _ _⟩
  have d5 : decide (b.size / 2 ≤ n) = false := decide_eq_false c2
  have d6 : decide ((b.size : Int) / 2 ≤ (n : Int)) = false := decide_eq_false (by omega)
  obtain ⟨cap, w1, cv, hby, hcap, hsz, hb1⟩ := conv_to b w
  have HCUT := Lib.hid (cut8_any b w.heap.size n cap w1 hby hsz (by omega) hcap (by omega))
  clear hby hsz hcap
  go_enter Tryz.func76, Tryz.ntmps76
  go_wp2_with fail
  refine HCUT.out.mono ?_
  rintro e w2 ⟨hcase, hb2⟩
  have hbw := hb1.trans hb2
  clear HCUT cv hb1 hb2
  rcases hcase with ⟨hbad, rfl⟩ | ⟨hok, r, hr, rfl, HL⟩
  · have HB2 := Lib.hid (HBAD.out (fun h => hbad (fun i hi => by
      have := good_at (by omega) h i hi
      rwa [hbl] at this)))
    clear hbad HBAD HOK
    go_wp2_with fail
    go_ret2
    exact ⟨HB2.out _ _ rfl, hbw⟩
  · have hlen := cellsB_length b n
    obtain ⟨f, hf⟩ : ∃ f, b.extract 0 k = f := ⟨_, rfl⟩
    have sf : f.size = k := by rw [← hf]; simp; omega
    have HPK := Lib.hid (by have h := pack_any (b.size : Int) f (some ⟨r, 0, none⟩) (cellsB b n) n w2 HL (by rw [hlen]; omega) (by omega) (fun s hs => Nat.le_trans (cellsB_size b n s hs) (by omega)); rw [hlen] at h; exact h)
    have hend := unpack_end b k n (by omega) (by omega)
    rw [hf] at hend
    have HLL := Lib.hid HL
    have j1 : (0 : Int) ≤ (k : Int) ∧ (k : Int) ≤ (b.size : Int) := by omega
    have j2 : k ≤ b.size := by omega
    have hss : (b.toList == b.toList) = true := beq_self_eq_true _
    have hss2 : (b.toList != b.toList) = false := by simp
    clear hok
    rcases hend with ⟨hgd, hv⟩ | ⟨hgd, hv⟩ | ⟨hgd, P, hne, hv⟩
    · rw [hv] at HPK
      have HO2 := Lib.hid (HOK.out hgd)
      clear hv hgd HBAD HOK hlen HL sf
      go_wp2_with fail
      refine HPK.out.mono ?_
      rintro e w1 ⟨rfl, hb1⟩
      go_wp2_with fail
      go_ret2
      exact ⟨HO2.out _ _ _ (by omega) (Nat.le_refl _) (HLL.out.on hb1), hbw.trans' hb1⟩
    · rw [hv] at HPK
      have HB2 := Lib.hid (HBAD.out hgd)
      clear hv hgd HBAD HOK hlen HL sf
      go_wp2_with fail
      refine HPK.out.mono ?_
      rintro e w1 ⟨rfl, hb1⟩
      go_wp2_with fail
      go_ret2
      exact ⟨HB2.out _ _ rfl, hbw.trans' hb1⟩
    · rw [hv] at HPK
      have HB2 := Lib.hid (HBAD.out hgd)
      have hneq : (P.toList == b.toList) = false := by
        rw [Lib.toList_data, Lib.toList_data]
        exact beq_eq_false_iff_ne.2 fun e => hne (ByteArray.ext (Array.toList_inj.1 e))
      have hneq2 : (P.toList != b.toList) = true := by simp [bne, hneq]
      clear hv hgd HBAD HOK hlen HL sf hne
      go_wp2_with fail
      refine HPK.out.mono ?_
      rintro e w1 ⟨rfl, hb1⟩
      go_wp2_with fail
      go_ret2
      exact ⟨HB2.out _ _ rfl, hbw.trans' hb1⟩
end Go.Proofs.YtpehkikdmckldaaGreatDoor.L8
