import Derived.Test.YtpeghilfldpgfaaGreatDoorTNAs
import Derived.Test.YtpeghilfldpgfaaGreatDoorTNFill
set_option linter.unusedVariables false
set_option linter.unusedSimpArgs false
set_option maxHeartbeats 8000000
set_option maxRecDepth 100000
namespace Go.Proofs.YtpeghilfldpgfaaGreatDoor.L10
open Go.RowKit NP
def setL (w : World) (g : Nat) (F R : Int) (H : ByteArray) (A : Option Addr) (n ca : Nat) : World := (((w.setCell ⟨g, 0, none⟩ (.int .i64 F)).setCell ⟨g, 1, none⟩ (.int .i64 R)).setCell ⟨g, 2, none⟩ (.string H)).setCell ⟨g, 3, none⟩ (.slice A n ca)
theorem setL_box {t : TypeId} {w : World} {g : Nat} {F R : Int} {H : ByteArray} {A : Option Addr} {n ca : Nat} (k : LBx t g F R H A n ca w) (F' R' : Int) (H' : ByteArray) (A' : Option Addr) (n' ca' : Nat) : LBx t g F' R' H' A' n' ca' (setL w g F' R' H' A' n' ca') := by
 unfold LBx at *; unfold setL; have h0 := heap_setCell_same w g 0 _ _ (.int .i64 F') k; have h1 := heap_setCell_same _ g 1 _ _ (.int .i64 R') h0; have h2 := heap_setCell_same _ g 2 _ _ (.string H') h1; have h3 := heap_setCell_same _ g 3 _ _ (.slice A' n' ca') h2; exact h3
theorem setL_other {w : World} {g q : Nat} (h : q ≠ g) (F R : Int) (H : ByteArray) (A : Option Addr) (n ca : Nat) : (setL w g F R H A n ca).heap[q]? = w.heap[q]? := by
 unfold setL; have hh : ∀ (W : World) (o : Nat) (v : Value), (W.setCell ⟨g, o, none⟩ v).heap[q]? = W.heap[q]? := fun W o v => Below.heap_setCell W ⟨g, o, none⟩ v q (fun e' => h (by first | exact e' | exact e'.symm)); rw [hh, hh, hh, hh]
theorem setL_size (w : World) (g : Nat) (F R : Int) (H : ByteArray) (A : Option Addr) (n ca : Nat) : (setL w g F R H A n ca).heap.size = w.heap.size := by
 unfold setL; simp
theorem setL_below {w W : World} {c g : Nat} (h : Below c w W) (hg : c ≤ g) (F R : Int) (H : ByteArray) (A : Option Addr) (n ca : Nat) : Below c w (setL W g F R H A n ca) :=
 (((h.setCell (p := ⟨g, 0, none⟩) hg _).setCell (p := ⟨g, 1, none⟩) hg _).setCell (p := ⟨g, 2, none⟩) hg _).setCell (p := ⟨g, 3, none⟩) hg _
theorem setL_lies {w : World} {B g : Nat} {A' : Option Addr} {l : List It} (h : Lies5 w B A' l) (hx : ∀ a, A' = some a → a.block ≠ g) (F R : Int) (H : ByteArray) (A : Option Addr) (n ca : Nat) : Lies5 (setL w g F R H A n ca) B A' l := fun i c hc => by
 obtain ⟨a, e, hb, hk⟩ := h i c hc; refine ⟨a, e, hb, fun j v hv => ?_⟩; have hh : (setL w g F R H A n ca).heap[((a.add (i * 5)).add j).block]? = w.heap[((a.add (i * 5)).add j).block]? := setL_other (by rw [L5.addr_block, L5.addr_block]; exact hx a e) F R H A n ca; have h2 := hk j v hv; unfold World.cell? at *; rw [hh]; exact h2
def Again (l : Lf) (s : ByteArray) (e : Ending) : Prop :=
 (enc l s.size = (s, 0) ∧ e = .returned .nilIface) ∨ (enc l s.size ≠ (s, 0) ∧ ∃ part er, e = .returned (errV part er))
theorem again_any (F R : Int) (H : ByteArray) (A : Option Addr) (l : List It) (ca : Nat) (s : ByteArray) (w : World) (hs : L7.Sizes w) (ha : Lies5 w w.heap.size A l) (hl : l.length ≤ 1000) (hh : H.size ≤ maxLen) (hss : s.size ≤ 1000000) :
  Calls Tryz.prog 91 #[lv F R H A l.length ca, .string s] w fun e w' => Again ⟨F, R, H, l⟩ s e ∧ Below w.heap.size w w' := by
 have hb0 := lbox_below 26 F R H A l.length ca w; have HB0 := zj hb0; have HE := zj (enc_any F R H A l ca (s.size : Int) _ (hs.below hs.lt hb0) (ha.on hb0) hl hh)
 have hcase : ((enc ⟨F, R, H, l⟩ s.size).2 ≠ 0 ∧ enc ⟨F, R, H, l⟩ s.size ≠ (s, 0)) ∨ ((enc ⟨F, R, H, l⟩ s.size).2 = 0 ∧ (enc ⟨F, R, H, l⟩ s.size).1 ≠ s ∧ enc ⟨F, R, H, l⟩ s.size ≠ (s, 0)) ∨ ((enc ⟨F, R, H, l⟩ s.size).2 = 0 ∧ (enc ⟨F, R, H, l⟩ s.size).1 = s ∧ enc ⟨F, R, H, l⟩ s.size = (s, 0)) := by
  by_cases h1 : (enc ⟨F, R, H, l⟩ s.size).2 = 0
  ·by_cases h2 : (enc ⟨F, R, H, l⟩ s.size).1 = s
   ·exact .inr (.inr ⟨h1, h2, Prod.ext h2 h1⟩)
   ·exact .inr (.inl ⟨h1, h2, fun h => h2 (by rw [h])⟩)
  ·exact .inl ⟨h1, fun h => h1 (by rw [h])⟩
 unfold encV at HE; obtain ⟨X, c, hX, hc⟩ : ∃ X c, (enc ⟨F, R, H, l⟩ s.size).1 = X ∧ (enc ⟨F, R, H, l⟩ s.size).2 = c := ⟨_, _, rfl, rfl⟩; rw [hX, hc] at HE hcase; have HT := zj (fun (e : Int) W (h : e ≠ 0) => told_bad' ⟨#[108, 101, 97, 102]⟩ e W h); have HTO := zj (fun W => told_ok' ⟨#[108, 101, 97, 102]⟩ W); have HA1 := zj (fun e (h : Again ⟨F, R, H, l⟩ s e) => h); generalize l.length = n at *; clear hX hc ha hl hh hs hb0; rcases hcase with ⟨h1, h2⟩ | ⟨rfl, h1, h2⟩ | ⟨rfl, rfl, h2⟩
 ·have HY := zj h2
  have HN := zj h1; have hz : (c == 0) = false := beq_eq_false_iff_ne.2 h1; clear h1 h2; go_enter Tryz.func91, Tryz.ntmps91; go_wp2_with fail; refine HE.out.mono ?_; rintro e w2 ⟨rfl, hb2⟩; go_wp2_with fail; refine (HT.out c _ HN.out).mono ?_; rintro e w3 ⟨rfl, rfl⟩; go_wp2_with fail; go_ret; exact ⟨.inr ⟨HY.out, _, _, rfl⟩, HB0.out.trans' hb2⟩
 ·have HY := zj h2
  have hz : (X.toList == s.toList) = false := text_no h1
  have hz2 : (X.toList != s.toList) = true := by simp only [bne, hz]; rfl
  clear h1 h2; go_enter Tryz.func91, Tryz.ntmps91; go_wp2_with fail; refine HE.out.mono ?_; rintro e w2 ⟨rfl, hb2⟩; go_wp2_with fail; refine (HT.out 3 _ (by decide)).mono ?_; rintro e w3 ⟨rfl, rfl⟩; go_wp2_with fail; go_ret; exact ⟨.inr ⟨HY.out, _, _, rfl⟩, HB0.out.trans' hb2⟩
 ·have HY := zj h2
  have hz : (X.toList == X.toList) = true := text_yes rfl; clear h2; go_enter Tryz.func91, Tryz.ntmps91; go_wp2_with fail; refine HE.out.mono ?_; rintro e w2 ⟨rfl, hb2⟩; go_wp2_with fail; refine (HTO.out _).mono ?_; rintro e w3 ⟨rfl, rfl⟩; go_wp2_with fail; go_ret; exact ⟨.inl ⟨HY.out, rfl⟩, HB0.out.trans' hb2⟩
def One (ts : List ByteArray) (xs : List (Option It)) (g : Nat) (w : World) : Prop :=
 ∀ (k : Nat) (t : ByteArray) (W : World), ts[k]? = some t → Below w.heap.size w W →
  (∀ x, xs[k]? = some (some x) → Calls Tryz.prog 89 #[.int .i64 k, .string t, .pointer (some ⟨g, 0, none⟩)] W fun e w' => e = .returned (.tuple #[iv x.k x.o x.s x.l x.p, .nilIface]) ∧ Below W.heap.size W w') ∧
  (xs[k]? = some none → Calls Tryz.prog 89 #[.int .i64 k, .string t, .pointer (some ⟨g, 0, none⟩)] W fun e w' => (∃ (K : ByteArray) (O : Bool) (S : ByteArray) (L P : Int) (part : ByteArray) (er : Int), e = .returned (.tuple #[iv K O S L P, errV part er])) ∧ Below W.heap.size W w')
def allI : List (Option It) → Option (List It)
 | [] => some []
 | none :: _ => none
 | some x :: l => (allI l).map (x :: ·)
def EachI (r : Option (List It)) (n b : Nat) (e : Ending) (w' : World) : Prop :=
 (∃ xs, r = some xs ∧ xs.length = n ∧ e = .returned (.tuple #[.slice (some ⟨b, 0, none⟩) n n, .nilIface]) ∧ Lies5 w' w'.heap.size (some ⟨b, 0, none⟩) xs) ∨
 (r = none ∧ ∃ (Z : ByteArray) (te : TypeId) (ve : Value), e = .returned (.tuple #[.slice none 0 0, .iface 116 (.agg #[.string Z, .iface te ve])]))
theorem allI_not : ∀ (l : List (Option It)) (k : Nat), l[k]? = some none → allI l = none
 | [], k, h => by simp at h
 | none :: l, k, h => rfl
 | some x :: l, 0, h => by simp at h
 | some x :: l, k + 1, h => by
  have ih := allI_not l k (by simpa using h); simp [allI, ih]
def sofar : List (Option It) → Nat → List It
 | _, 0 => []
 | [], _ + 1 => []
 | none :: _, _ + 1 => []
 | some x :: l, k + 1 => x :: sofar l k
theorem sofar_next : ∀ (l : List (Option It)) (k : Nat) (x : It), (sofar l k).length = k → l[k]? = some (some x) → sofar l (k + 1) = sofar l k ++ [x] ∧ (sofar l (k + 1)).length = k + 1
 | [], k, x, _, h => by simp at h
 | none :: l, 0, x, _, h => by simp at h
 | none :: l, k + 1, x, h1, h => by simp [sofar] at h1
 | some y :: l, 0, x, _, h => by simp at h; subst h; simp [sofar]
 | some y :: l, k + 1, x, h1, h => by
  have ih := sofar_next l k x (by simpa [sofar] using h1) (by simpa using h); have e : sofar (some y :: l) (k + 1 + 1) = y :: sofar l (k + 1) := rfl; have e2 : sofar (some y :: l) (k + 1) = y :: sofar l k := rfl; rw [e, e2, ih.1]; simp at h1 ⊢
  simpa [sofar] using h1
theorem sofar_all : ∀ (l : List (Option It)), (sofar l l.length).length = l.length → allI l = some (sofar l l.length)
 | [], _ => rfl
 | none :: l, h => by simp [sofar] at h
 | some x :: l, h => by
  have ih := sofar_all l (by simpa [sofar] using h); have e : sofar (some x :: l) (some x :: l).length = x :: sofar l l.length := rfl; rw [e]; simp [allI, ih]
def rowTo (l : List (Option It)) (n k : Nat) : List It := sofar l k ++ List.replicate (n - k) It0
theorem rowTo_zero (l : List (Option It)) (n : Nat) : rowTo l n 0 = List.replicate n It0 := by simp [rowTo, sofar]
theorem rowTo_at (l : List (Option It)) (n k : Nat) (hl : (sofar l k).length = k) (h : k < n) : (rowTo l n k)[k]? = some It0 := by
 rw [rowTo, List.getElem?_append_right (by omega), hl, Nat.sub_self, List.getElem?_replicate, if_pos (by omega)]
theorem rowTo_length (l : List (Option It)) (n k : Nat) (hl : (sofar l k).length = k) (h : k ≤ n) : (rowTo l n k).length = n := by simp [rowTo, hl]; omega
theorem rowTo_set (l : List (Option It)) (n k : Nat) (x : It) (hl : (sofar l k).length = k) (hk : k < n) (h : l[k]? = some (some x)) : (rowTo l n k).set k x = rowTo l n (k + 1) := by
 rw [rowTo, List.set_append_right _ _ (by omega), hl, Nat.sub_self, rowTo, (sofar_next l k x hl h).1, show n - k = (n - (k + 1)) + 1 by omega, List.replicate_succ, List.set_cons_zero]; simp
theorem eachI_any (A : Option Addr) (ts : List ByteArray) (ca : Nat) (xs : List (Option It)) (g : Nat) (w : World) (hp : Pow w) (ha : L5.Lies w w.heap.size A ts) (hl : ts.length ≤ 100000) (hx : xs.length = ts.length) (hf : One ts xs g w) :
  Calls Tryz.prog 88 #[.slice A ts.length ca, .func (.func 89) #[] #[.pointer (some ⟨g, 0, none⟩)]] w fun e w' => EachI (allI xs) ts.length w.heap.size e w' ∧ Below w.heap.size w w' := by
 obtain ⟨i0, hi, hz0, hz1, hz2⟩ := info_parts Tryz.infoItem; have HA := zj ha; have HF := zj hf; have HPW := zj hp; obtain ⟨n, hn⟩ : ∃ n, n = ts.length := ⟨_, rfl⟩; have HN := zj hn; have HX : Hid (xs.length = n) := zj (by omega); rw [← hn]; rw [← hn] at hl; clear ha hf hn hx hp; go_enter Tryz.func88, Tryz.ntmps88; go_wp2_with (at_make; refine wpList_make_full _ rfl _ _ 24 rfl w.heap.size 127 i0 (.agg #[.string ⟨#[]⟩, .bool false, .string ⟨#[]⟩, .int .i64 0, .int .i64 0]) 5 Tryz.underlying24 hi hz0 hz1 _ _ _ _ n rfl rfl rfl rfl (by rw [hz2]; omega) (by unfold maxLen; omega) (Nat.le_refl _) ?_; intro w2 hown2 hg2); have hb2 : Below w.heap.size w w2 := (Below.refl _ w).grown hg2 (Nat.le_refl _) (by simp)
 have HO2 : Hid (w2.ownsRow w.heap.size 127 5 (.slice (some ⟨w.heap.size, 0, none⟩) n n) n (fives (rowTo xs n 0))) := zj (by
  rw [rowTo_zero, ← made_blank5 (Value.agg #[.string ⟨#[]⟩, .bool false, .string ⟨#[]⟩, .int .i64 0, .int .i64 0]).cells rfl n]
  exact hown2)
 clear hown2 hg2
 go_loopw [16] (fun iv wr => ∃ k : Nat, k ≤ n ∧ iv = .int .i64 k ∧ Hid ((sofar xs k).length = k) ∧ Hid (wr.ownsRow w.heap.size 127 5 (.slice (some ⟨w.heap.size, 0, none⟩) n n) n (fives (rowTo xs n k))) ∧ Below w.heap.size w wr) (fun iv _ => n - (intOf iv).toNat)
 case atStart => exact ⟨0, Nat.zero_le _, rfl, zj (by cases xs <;> rfl), HO2, hb2⟩
 case round =>
  obtain ⟨k, hk, rfl, HL, HO, hbr⟩ := hrel; by_cases hlt : k < n
  ·obtain ⟨t, hc⟩ : ∃ c, ts[k]? = some c := ⟨_, List.getElem?_eq_getElem (by have := HN.out; omega)⟩
   obtain ⟨y, hd⟩ : ∃ c, xs[k]? = some c := ⟨_, List.getElem?_eq_getElem (by have := HX.out; omega)⟩; obtain ⟨a, rfl, hab, x0⟩ := (HA.out.below hbr) k t hc; have HCL := zj (HF.out k t wr hc hbr); have HD := zj hd; clear hc hd hab
   cases y with
   | some x =>
    have HC1 := zj (HCL.out.1 x HD.out); clear HCL; go_wp2_with fail; refine HC1.out.mono ?_; rintro e w3 ⟨rfl, hb3⟩; have hb4 := hb3.trans' (L5.below_alloc w3 (.cells #[.string x.k, .bool x.o, .string x.s, .int .i64 x.l, .int .i64 x.p] 127)); have HB4 := zj (hbr.trans' hb4); have HO4 := zj (own5_below HO.out hb4); have hlen := rowTo_length xs n k HL.out hk; have hgt := rowTo_at xs n k HL.out hlt
    have q0 : (w3.alloc (.cells #[.string x.k, .bool x.o, .string x.s, .int .i64 x.l, .int .i64 x.p] 127)).cell? ⟨w.heap.size, k * 5, none⟩ = some (.string ⟨#[]⟩) := by
     rw [HO4.out.cellAt (k * 5) (by omega)]; exact fives_get _ k 0 It0 _ hgt rfl
    have q1 : (w3.alloc (.cells #[.string x.k, .bool x.o, .string x.s, .int .i64 x.l, .int .i64 x.p] 127)).cell? ⟨w.heap.size, k * 5 + 1, none⟩ = some (.bool false) := by
     rw [HO4.out.cellAt (k * 5 + 1) (by omega)]; exact fives_get _ k 1 It0 _ hgt rfl
    have q2 : (w3.alloc (.cells #[.string x.k, .bool x.o, .string x.s, .int .i64 x.l, .int .i64 x.p] 127)).cell? ⟨w.heap.size, k * 5 + 2, none⟩ = some (.string ⟨#[]⟩) := by
     rw [HO4.out.cellAt (k * 5 + 2) (by omega)]; exact fives_get _ k 2 It0 _ hgt rfl
    have q3 : (w3.alloc (.cells #[.string x.k, .bool x.o, .string x.s, .int .i64 x.l, .int .i64 x.p] 127)).cell? ⟨w.heap.size, k * 5 + 3, none⟩ = some (.int .i64 0) := by
     rw [HO4.out.cellAt (k * 5 + 3) (by omega)]; exact fives_get _ k 3 It0 _ hgt rfl
    have q4 : (w3.alloc (.cells #[.string x.k, .bool x.o, .string x.s, .int .i64 x.l, .int .i64 x.p] 127)).cell? ⟨w.heap.size, k * 5 + 4, none⟩ = some (.int .i64 0) := by
     rw [HO4.out.cellAt (k * 5 + 4) (by omega)]; exact fives_get _ k 4 It0 _ hgt rfl
    have r0 := HO4.out.frozenAt (k * 5); have r1 := HO4.out.frozenAt (k * 5 + 1); have r2 := HO4.out.frozenAt (k * 5 + 2); have r3 := HO4.out.frozenAt (k * 5 + 3); have r4 := HO4.out.frozenAt (k * 5 + 4); clear hb3 hb4 hbr hlen hgt; go_wp2_with fail
    go_roundw
    case rel =>
     refine ⟨k + 1, by omega, by simp, zj (sofar_next xs k x HL.out HD.out).2, zj ?_, ?_⟩
     ·have h := stored5 HO4.out k x (by rw [rowTo_length xs n k HL.out hk]; exact hlt)
      rwa [rowTo_set xs n k x HL.out hlt HD.out] at h
     ·exact ((((HB4.out.setCell (p := ⟨w.heap.size, k * 5, none⟩) (Nat.le_refl _) _).setCell (p := ⟨w.heap.size, k * 5 + 1, none⟩) (Nat.le_refl _) _).setCell (p := ⟨w.heap.size, k * 5 + 2, none⟩) (Nat.le_refl _) _).setCell (p := ⟨w.heap.size, k * 5 + 3, none⟩) (Nat.le_refl _) _).setCell (p := ⟨w.heap.size, k * 5 + 4, none⟩) (Nat.le_refl _) _
    case measure => simp [intOf]; omega
   | none =>
    have HC1 := zj (HCL.out.2 HD.out); have HR := zj (allI_not xs k HD.out); have HI := zj (fun W hW => itoa_any k (by omega) W hW); clear HCL; go_wp2_with fail; refine HC1.out.mono ?_; rintro e w3 ⟨⟨K, O, S, L, P, part, er, rfl⟩, hb3⟩; have hb4 := hb3.trans' (L5.below_alloc w3 (.cells #[.string K, .bool O, .string S, .int .i64 L, .int .i64 P] 127)); have hb5 := hbr.trans' hb4; have HP5 := zj (HPW.out.on hb5); unfold errV; go_wp2_with fail; refine (HI.out _ HP5.out).mono ?_; rintro e w4 ⟨⟨Z, hZ, rfl⟩, hb6⟩
    have h9 : ¬ 9223372036854775807 < 5 + Z.size := by omega
    have h9' : ¬ (9223372036854775807 : Int) < 5 + (Z.size : Int) := by omega
    go_wp2_with fail
    go_ret2
    exact ⟨.inr ⟨HR.out, _, _, _, rfl⟩, hb5.trans' hb6⟩
  ·obtain rfl : k = n := by omega
   have HR : Hid (allI xs = some (sofar xs k)) := zj (by
    have h := sofar_all xs; rw [HX.out] at h
    exact h HL.out)
   have HLL : Hid (Lies5 wr wr.heap.size (some ⟨w.heap.size, 0, none⟩) (sofar xs k)) := zj (by
    have h := HO.out; rw [show rowTo xs k k = sofar xs k by simp [rowTo]] at h
    exact lies5_own h HL.out.symm)
   go_wp2_with fail
   go_ret2
   exact ⟨.inl ⟨sofar xs k, HR.out, HL.out, rfl, HLL.out⟩, hbr⟩
theorem allI_mapV (c : List UInt8) : ∀ ts : List ByteArray, allI (ts.map fun t => (L9.VP.getV t.data.toList).map (item c)) = (mapV (ts.map fun t => t.data.toList)).map (List.map (item c))
 | [] => rfl
 | t :: ts => by
  have ih := allI_mapV c ts; simp only [List.map_cons, mapV]
  cases h : L9.VP.getV t.data.toList with
  | none => rfl
  | some x =>
   simp only [Option.map_some, allI, ih]
   cases h2 : mapV (ts.map fun t => t.data.toList) with
   | none => rfl
   | some xs => rfl
def told3 (t : ByteArray) (C : ByteArray) : Option It := (L9.VP.getV t.data.toList).map (item C.data.toList)
theorem one_of (ts : List ByteArray) (C : ByteArray) (g : Nat) (w : World) (hs : ∀ t ∈ ts, t.size ≤ 1000000) (hC : C.size ≤ 1000000) (hc : w.cell? ⟨g, 0, none⟩ = some (.string C)) (hg : g < w.heap.size) :
  One ts (ts.map fun t => told3 t C) g w := by
 intro k t W ht hb; have hts := hs t (List.mem_of_getElem? ht); have hcW : W.cell? ⟨g, 0, none⟩ = some (.string C) := (hb.cell (p := ⟨g, 0, none⟩) hg).trans hc; have hgW := Nat.lt_of_lt_of_le hg hb.size; have hv := fun V => L9.getv_any t V hts
 have hx : (ts.map fun t => told3 t C)[k]? = some (told3 t C) := by simp [ht]
 rw [hx]
 cases hgv : L9.VP.getV t.data.toList with
 | none =>
  rw [hgv] at hv; refine ⟨fun x h => ?_, fun _ => ?_⟩
  ·unfold told3 at h
   rw [hgv] at h; simp at h
  ·refine (read1_any k t C ⟨#[]⟩ ⟨#[]⟩ false 0 0 3 _ g W hcW hgW hC (by decide) (fun V => hv V) (fun V => told_bad' _ 3 V (by decide))).mono fun e w' ⟨h1, h2⟩ => ⟨?_, h2⟩
   exact ⟨_, _, _, _, _, _, _, h1⟩
 | some x =>
  obtain ⟨T', v⟩ := x; rw [hgv] at hv; have hok := L9.VP.getV_some hgv; have hT : T'.length ≤ 128 := hok.1.1; refine ⟨fun x h => ?_, fun h => ?_⟩
  ·unfold told3 at h
   rw [hgv] at h; simp only [Option.map_some, Option.some.injEq] at h; subst h; have hr := read1_any k t C ⟨T'.toArray⟩ ⟨v.s.toArray⟩ v.over v.len v.page 0 .nilIface g W hcW hgW hC (by show T'.toArray.size ≤ 1000000; simp; omega) (fun V => hv V) (fun V => told_ok' _ V); refine hr.mono fun e w' ⟨h1, h2⟩ => ⟨?_, h2⟩; rw [h1]
   have e1 : C ++ (⟨T'.toArray⟩ : ByteArray) = ⟨(C.data.toList ++ T').toArray⟩ := by
    apply ByteArray.ext; simp
   rw [e1]; rfl
  ·unfold told3 at h
   rw [hgv] at h; simp at h
def ReadS (s : ByteArray) (b : Nat) (e : Ending) (w' : World) : Prop :=
 (∃ l q, dec s = some l ∧ b ≤ q ∧ e = .returned (.tuple #[lv l.self l.right l.high (some ⟨q, 0, none⟩) l.items.length l.items.length, .nilIface]) ∧ Lies5 w' w'.heap.size (some ⟨q, 0, none⟩) l.items) ∨
 (dec s = none ∧ ∃ (F R : Int) (H : ByteArray) (A : Option Addr) (n ca : Nat) (Z : ByteArray) (te : TypeId) (ve : Value), e = .returned (.tuple #[lv F R H A n ca, .iface 116 (.agg #[.string Z, .iface te ve])]))
structure Reads (s B0 : ByteArray) (n : Nat) (r f : Int) : Prop where
 n1 : L9.VP.gtext B0.data.toList 0 = none → dec s = none
 n2 : ∀ c i, L9.VP.gtext B0.data.toList 0 = some (c, i) → L9.VP.gtext B0.data.toList i = none → dec s = none
 n3 : ∀ c i t j, L9.VP.gtext B0.data.toList 0 = some (c, i) → L9.VP.gtext B0.data.toList i = some (t, j) → ¬ L8.LP.good B0.data.toList j n → dec s = none
 n4 : ∀ c i t j, L9.VP.gtext B0.data.toList 0 = some (c, i) → L9.VP.gtext B0.data.toList i = some (t, j) → L8.LP.good B0.data.toList j n → mapV (L8.LP.cells B0.data.toList n) = none → dec s = none
 ok : ∀ c i t j xs, L9.VP.gtext B0.data.toList 0 = some (c, i) → L9.VP.gtext B0.data.toList i = some (t, j) → L8.LP.good B0.data.toList j n → mapV (L8.LP.cells B0.data.toList n) = some xs →
  dec s = if enc ⟨f, r, ⟨t.toArray⟩, xs.map (item c)⟩ s.size = (s, 0) then some ⟨f, r, ⟨t.toArray⟩, xs.map (item c)⟩ else none
theorem reads_of {s B0 : ByteArray} {k l r f : Int} {n : Nat} (hg : L7.mayBe s.size = true ∧ L7.HP.good s.data.toList) (hB : B0.data.toList = s.data.toList.drop 16) (hh : L7.HP.headOf s.data.toList = ⟨k, l, n, r, f⟩) : Reads s B0 n r f := by
 refine ⟨fun h1 => dec_parse_none ?_, fun c i h1 h2 => dec_parse_none ?_, fun c i t j h1 h2 h3 => dec_parse_none ?_, fun c i t j h1 h2 h3 h4 => dec_parse_none ?_, fun c i t j xs h1 h2 h3 h4 => dec_parse ?_⟩
 ·unfold parse
  rw [if_pos hg, ← hB]; simp only [h1]
 ·unfold parse
  rw [if_pos hg, ← hB]; simp only [h1, h2]
 ·unfold parse
  rw [if_pos hg, ← hB, hh]; simp only [h1, h2, Int.toNat_natCast]; rw [if_neg h3]
 ·unfold parse
  rw [if_pos hg, ← hB, hh]; simp only [h1, h2, Int.toNat_natCast]; rw [if_pos h3, h4]
 ·unfold parse
  rw [if_pos hg, ← hB, hh]; simp only [h1, h2, Int.toNat_natCast]; rw [if_pos h3, h4]
def AgainX (l : Lf) (s : ByteArray) (X : Value) : Prop := (enc l s.size = (s, 0) ∧ X = .nilIface) ∨ (enc l s.size ≠ (s, 0) ∧ ∃ Z te ve, X = .iface 116 (.agg #[.string Z, .iface te ve]))
theorem againX (F R : Int) (H : ByteArray) (A : Option Addr) (l : List It) (n : Nat) (s : ByteArray) (w : World) (hs : L7.Sizes w) (ha : Lies5 w w.heap.size A l) (hn : l.length = n) (hl : n ≤ 1000) (hh : H.size ≤ maxLen) (hss : s.size ≤ 1000000) :
  Calls Tryz.prog 91 #[lv F R H A n n, .string s] w fun e w' => (∃ X, e = .returned X ∧ AgainX ⟨F, R, H, l⟩ s X) ∧ Below w.heap.size w w' := by
 subst hn; refine (again_any F R H A l l.length s w hs ha hl hh hss).mono fun e w' ⟨h1, h2⟩ => ⟨?_, h2⟩; rcases h1 with ⟨h, rfl⟩ | ⟨h, part, er, rfl⟩
 ·exact ⟨_, rfl, .inl ⟨h, rfl⟩⟩
 ·exact ⟨_, rfl, .inr ⟨h, _, _, _, rfl⟩⟩
theorem toldF (part : ByteArray) (e : Int) (w : World) (he : e ≠ 0) : Calls Tryz.prog 85 #[.string part, .int .i64 e] w fun r w' => (∃ Z te ve, r = .returned (.iface 116 (.agg #[.string Z, .iface te ve]))) ∧ w = w' :=
 (told_bad' part e w he).mono fun r w' ⟨h1, h2⟩ => ⟨⟨_, _, _, h1⟩, h2⟩
theorem read_any (s : ByteArray) (w : World) (hg : Glo w) (hs : s.size ≤ 1000000) :
  Calls Tryz.prog 52 #[.string s] w fun e w' => ReadS s w.heap.size e w' ∧ Below w.heap.size w w' := by
 have hb0 := lbox_below 26 0 0 ⟨#[]⟩ none 0 0 w; have HB0 := zj hb0; have HK0 := zj (lbox_new 26 0 0 ⟨#[]⟩ none 0 0 w); have HG0 := zj (hg.on hb0); have HOP := zj (fun W (h : L7.Sizes W) => L7.open_any s W h (by unfold maxLen; omega)); have HTB := zj (fun (p : ByteArray) (e : Int) W (h : e ≠ 0) => toldF p e W h); have HRT := zj (fun (b : ByteArray) (i : Nat) W (hi : i ≤ b.size) (hb : b.size ≤ 1000000) => textGet_any b i W hi hb); have HBAD : Hid (dec s = none → ∀ (w' : World) (F R : Int) (H : ByteArray) (A : Option Addr) (n ca : Nat) (Z : ByteArray) (te : TypeId) (ve : Value), ReadS s w.heap.size (.returned (.tuple #[lv F R H A n ca, .iface 116 (.agg #[.string Z, .iface te ve])])) w') := zj (fun h w' F R H A n ca Z te ve => .inr ⟨h, F, R, H, A, n, ca, Z, te, ve, rfl⟩); clear hb0 hg; by_cases hgood : ¬ (L7.mayBe s.size = true ∧ L7.HP.good s.data.toList)
 ·have HD : Hid (dec s = none) := zj (dec_parse_none (by unfold parse; rw [if_neg hgood]))
  have hv : L7.opnV s = .tuple #[.agg #[.int .i64 0, .int .i64 0, .int .i64 0, .int .i64 0, .int .i64 0], .string ⟨#[]⟩, .int .i64 3] := by
   unfold L7.opnV; rw [L7.HP.opn_bad hgood]; rfl
  rw [hv] at HOP; clear hgood hv; go_enter Tryz.func52, Tryz.ntmps52; go_wp2_with fail; refine (HOP.out _ HG0.out.sizes).mono ?_; rintro e w2 ⟨rfl, hb2⟩; have hb3 := hb2.trans' (L5.below_alloc w2 (.cells #[.int .i64 0, .int .i64 0, .int .i64 0, .int .i64 0, .int .i64 0] 120)); have HK3 := zj (HK0.out.below hb3); have HB3 := zj (HB0.out.trans' hb3); obtain ⟨x0, x1, x2, x3⟩ := HK3.out.cells; obtain ⟨f0, f1, f2, f3⟩ := HK3.out.free; clear hb2 hb3; go_wp2_with fail; refine (HTB.out _ 3 _ (by decide)).mono ?_; rintro e w3 ⟨⟨Z, te, ve, rfl⟩, rfl⟩; go_wp2_with fail; obtain ⟨r0, r1, r2, r3⟩ := (setL_box HK3.out 0 0 ⟨#[]⟩ none 0 0).cells; unfold setL at r0 r1 r2 r3; refine bodyPost_ret (v := .tuple #[lv 0 0 ⟨#[]⟩ none 0 0, .iface 116 (.agg #[.string Z, .iface te ve])]) (by simp [results, Tryz.results52, go_sem, r0, r1, r2, r3]) rfl ⟨HBAD.out HD.out _ _ _ _ _ _ _ _ _ _, ?_⟩; exact setL_below HB3.out (Nat.le_refl _) 0 0 ⟨#[]⟩ none 0 0
 have hgd := Decidable.not_not.1 hgood; have hm := mayBe_le hgd.1; have hok : L7.HP.Ok (L7.HP.headOf s.data.toList) := hgd.2.1; obtain ⟨B0, hB0⟩ : ∃ B0, s.extract 16 s.size = B0 := ⟨_, rfl⟩
 have hBl : B0.data.toList = s.data.toList.drop 16 := by
  rw [← hB0, Lib.extract_data, List.take_of_length_le (by simp)]
 have hBs : B0.size + 16 = s.size := by rw [← hB0]; simp; omega
 have hv : L7.opnV s = .tuple #[L7.hv (L7.HP.headOf s.data.toList), .string B0, .int .i64 0] := by
  unfold L7.opnV; rw [L7.HP.opn_good hgd.1 hgd.2, hB0]
 obtain ⟨hk, hl, hc, hr, hs5, hhd⟩ : ∃ k l c r f, L7.HP.headOf s.data.toList = ⟨k, l, c, r, f⟩ := ⟨_, _, _, _, _, rfl⟩; rw [hhd] at hv hok; obtain ⟨n, rfl⟩ : ∃ n : Nat, hc = n := Int.eq_ofNat_of_zero_le hok.2.2.2.2.1
 have hn : n ≤ 65535 := by have h := hok.2.2.2.2.2.1; simp only at h; omega
 have HP := zj (reads_of hgd hBl hhd); simp only [L7.hv] at hv; rw [hv] at HOP; clear hgood hgd hok hBl hB0 hv hhd; go_enter Tryz.func52, Tryz.ntmps52; go_wp2_with fail; refine (HOP.out _ HG0.out.sizes).mono ?_; rintro e w2 ⟨rfl, hb2⟩; have hb3 := hb2.trans' (L5.below_alloc w2 (.cells #[.int .i64 hk, .int .i64 hl, .int .i64 n, .int .i64 hr, .int .i64 hs5] 120)); have HK3 := zj (HK0.out.below hb3); have HB3 := zj (HB0.out.trans' hb3); have HH3 := zj (show L7.Bx 120 w2.heap.size ⟨hk, hl, n, hr, hs5⟩ (w2.alloc (.cells #[.int .i64 hk, .int .i64 hl, .int .i64 n, .int .i64 hr, .int .i64 hs5] 120)) from heap_alloc_new _ _); have HG3 := zj (HG0.out.on hb3)
 have hq : w.heap.size < w2.heap.size := by
  have h1 := hb2.size; rw [lbox_size] at h1; omega
 clear hb2 hb3 HK0 HB0 HG0 HOP; go_wp2_with fail; generalize hW3 : w2.alloc (.cells #[.int .i64 hk, .int .i64 hl, .int .i64 n, .int .i64 hr, .int .i64 hs5] 120) = W3 at *; generalize w2.heap.size = q at *; clear hW3; refine (HRT.out B0 0 _ (by omega) (by omega)).mono ?_; rintro e w4 ⟨h4, hb4⟩; rcases h4 with ⟨h4, xe, hxe, rfl⟩ | ⟨T1, i1, h4, rfl⟩
 ·have HD := zj (HP.out.n1 h4)
  have hxz : (xe != 0) = true := by simpa using hxe
  have HXE := zj hxe; have hb5 := hb4.trans' (L5.below_alloc w4 (.cells #[.string ⟨#[]⟩] 9)); have HK5 := zj (HK3.out.below hb5); have HB5 := zj (HB3.out.trans' hb5); clear h4 hb4 hb5 hxe; obtain ⟨x0, x1, x2, x3⟩ := HK5.out.cells; obtain ⟨f0, f1, f2, f3⟩ := HK5.out.free; go_wp2_with fail; refine (HTB.out _ xe _ HXE.out).mono ?_; rintro e w5 ⟨⟨Z, te, ve, rfl⟩, rfl⟩; go_wp2_with fail; obtain ⟨r0, r1, r2, r3⟩ := (setL_box HK5.out 0 0 ⟨#[]⟩ none 0 0).cells; unfold setL at r0 r1 r2 r3; refine bodyPost_ret (v := .tuple #[lv 0 0 ⟨#[]⟩ none 0 0, .iface 116 (.agg #[.string Z, .iface te ve])]) (by simp [results, Tryz.results52, go_sem, r0, r1, r2, r3]) rfl ⟨HBAD.out HD.out _ _ _ _ _ _ _ _ _ _, ?_⟩; exact setL_below HB5.out (Nat.le_refl _) 0 0 ⟨#[]⟩ none 0 0
 have hi1 := (L9.gtext_some h4); have H4 := zj h4; have hb5 := hb4.trans' (L5.below_alloc w4 (.cells #[.string T1] 9)); have HK5 := zj (HK3.out.below hb5); have HH5 := zj (HH3.out.below hb5); have HB5 := zj (HB3.out.trans' hb5); have HG5 := zj (HG3.out.on hb5); have HC5 : Hid ((w4.alloc (.cells #[.string T1] 9)).cell? ⟨w4.heap.size, 0, none⟩ = some (.string T1)) := zj (by simp); have HCL5 : Hid (w4.heap.size < (w4.alloc (.cells #[.string T1] 9)).heap.size) := zj (by simp)
 have hBl : B0.data.toList.length = B0.size := by simp
 have hT1 : T1.data.toList.length = T1.size := by simp
 have hT1s : T1.size ≤ 1000000 := by omega
 have hi1' : i1 ≤ B0.size := by omega
 have hq4 : q < w4.heap.size := by have := HH3.out.lt; have := hb4.size; omega
 clear h4 hb4 hb5 HK3 HH3 HB3 HG3 hi1; go_wp2_with fail; generalize w4.alloc (.cells #[.string T1] 9) = W5 at *; generalize w4.heap.size = q4 at *; refine (HRT.out B0 i1 _ hi1' (by omega)).mono ?_; rintro e w6 ⟨h6, hb6⟩; have HK6 := zj (HK5.out.below hb6); have HH6 := zj (HH5.out.below hb6); have HB6 := zj (HB5.out.trans' hb6); have HG6 := zj (HG5.out.on hb6); have HC6 := zj ((hb6.cell (p := ⟨q4, 0, none⟩) HCL5.out).trans HC5.out); have HCL6 := zj (Nat.lt_of_lt_of_le HCL5.out hb6.size); clear hb6 HK5 HH5 HB5 HG5 HC5 HCL5; rcases h6 with ⟨h6, xe, hxe, rfl⟩ | ⟨T2, i2, h6, rfl⟩
 ·have HD := zj (HP.out.n2 _ _ H4.out h6)
  have hxz : (xe != 0) = true := by simpa using hxe
  have HXE := zj hxe; clear h6 hxe; obtain ⟨x0, x1, x2, x3⟩ := HK6.out.cells; obtain ⟨f0, f1, f2, f3⟩ := HK6.out.free; go_wp2_with fail; refine (HTB.out _ xe _ HXE.out).mono ?_; rintro e w7 ⟨⟨Z, te, ve, rfl⟩, rfl⟩; go_wp2_with fail; obtain ⟨r0, r1, r2, r3⟩ := (setL_box HK6.out 0 0 ⟨#[]⟩ none 0 0).cells; unfold setL at r0 r1 r2 r3; refine bodyPost_ret (v := .tuple #[lv 0 0 ⟨#[]⟩ none 0 0, .iface 116 (.agg #[.string Z, .iface te ve])]) (by simp [results, Tryz.results52, go_sem, r0, r1, r2, r3]) rfl ⟨HBAD.out HD.out _ _ _ _ _ _ _ _ _ _, ?_⟩; exact setL_below HB6.out (Nat.le_refl _) 0 0 ⟨#[]⟩ none 0 0
 have hi2 := (L9.gtext_some h6); have H6 := zj h6
 have hT2 : T2.data.toList.length = T2.size := by simp
 have hT2s : T2.size ≤ 1000000 := by omega
 have hi2' : i2 ≤ B0.size := by omega
 have HU := zj (fun W => L8.unpack_any B0 (i2 : Int) (n : Int) W (by simp [Lit.wf, IntKind.min, IntKind.max, IntKind.signed, IntKind.bits]; omega) (by simp [Lit.wf, IntKind.min, IntKind.max, IntKind.signed, IntKind.bits]; omega) (by unfold maxLen; omega)); obtain ⟨y0, y1, y2, y3, y4⟩ := HH6.out.cells; simp only at y0 y1 y2 y3 y4; clear h6 hi2; go_wp2_with fail; refine (HU.out _).mono ?_; rintro e w7 ⟨h7, hb7⟩; have HK7 := zj (HK6.out.below hb7); have HH7 := zj (HH6.out.below hb7); have HB7 := zj (HB6.out.trans' hb7); have HG7 := zj (HG6.out.on hb7); have HC7 := zj ((hb7.cell (p := ⟨q4, 0, none⟩) HCL6.out).trans HC6.out); have HCL7 := zj (Nat.lt_of_lt_of_le HCL6.out hb7.size); clear hb7 HK6 HH6 HB6 HG6 HC6 HCL6 y0 y1 y2 y3 y4 HU; rcases h7 with ⟨h7, -⟩ | ⟨-, h7, rfl⟩ | ⟨-, h7, g, cap, rfl, hgw, hcap, hL7⟩
 ·exfalso
  omega
 ·rw [Int.toNat_natCast, Int.toNat_natCast] at h7
  have HD := zj (HP.out.n3 _ _ _ _ H4.out H6.out h7); clear h7; go_wp2_with fail; refine (HTB.out _ 3 _ (by decide)).mono ?_; rintro e w8 ⟨⟨Z, te, ve, rfl⟩, rfl⟩; obtain ⟨x0, x1, x2, x3⟩ := HK7.out.cells; obtain ⟨f0, f1, f2, f3⟩ := HK7.out.free; go_wp2_with fail; obtain ⟨r0, r1, r2, r3⟩ := (setL_box HK7.out 0 0 ⟨#[]⟩ none 0 0).cells; unfold setL at r0 r1 r2 r3; refine bodyPost_ret (v := .tuple #[lv 0 0 ⟨#[]⟩ none 0 0, .iface 116 (.agg #[.string Z, .iface te ve])]) (by simp [results, Tryz.results52, go_sem, r0, r1, r2, r3]) rfl ⟨HBAD.out HD.out _ _ _ _ _ _ _ _ _ _, ?_⟩; exact setL_below HB7.out (Nat.le_refl _) 0 0 ⟨#[]⟩ none 0 0
 rw [Int.toNat_natCast, Int.toNat_natCast] at h7; rw [Int.toNat_natCast] at hcap hL7 ⊢; have H7 := zj h7; have hcl := L8.cellsB_length B0 n; have hcs := L8.cellsB_size B0 n; have HE := zj (fun (h : One (L8.cellsB B0 n) ((L8.cellsB B0 n).map fun t => told3 t T1) q4 w7) => eachI_any (some ⟨g, 0, none⟩) (L8.cellsB B0 n) cap ((L8.cellsB B0 n).map fun t => told3 t T1) q4 w7 HG7.out.pow hL7 (by omega) (by simp) h); have HO := zj (one_of (L8.cellsB B0 n) T1 q4 w7 (fun t ht => by have := hcs t ht; omega) hT1s HC7.out HCL7.out)
 have hmap : allI ((L8.cellsB B0 n).map fun t => told3 t T1) = (mapV (L8.LP.cells B0.data.toList n)).map (List.map (item T1.data.toList)) := by
  rw [← L8.bs_cellsB B0 n]; exact allI_mapV T1.data.toList (L8.cellsB B0 n)
 rw [hcl] at HE; have HM := zj hmap; clear h7 hcs hgw hcap hL7 hmap; go_wp2_with fail; refine (HE.out HO.out).mono ?_; rintro e w8 ⟨h8, hb8⟩; have HK8 := zj (HK7.out.below hb8); have HH8 := zj (HH7.out.below hb8); have HB8 := zj (HB7.out.trans' hb8); have HG8 := zj (HG7.out.on hb8); have hq7 : w.heap.size < w7.heap.size := HK7.out.lt; have hq8 := hb8.size; clear hb8 HK7 HH7 HB7 HG7 HC7 HCL7 HE HO; rcases h8 with ⟨xs, h8, hxl, rfl, hL8⟩ | ⟨h8, Z, te, ve, rfl⟩; rotate_left
 ·have HD : Hid (dec s = none) := zj (by
   refine HP.out.n4 _ _ _ _ H4.out H6.out H7.out ?_; have h := HM.out; rw [h8] at h
   exact Option.map_eq_none_iff.1 h.symm)
  clear h8; obtain ⟨x0, x1, x2, x3⟩ := HK8.out.cells; obtain ⟨f0, f1, f2, f3⟩ := HK8.out.free; go_wp2_with fail; obtain ⟨r0, r1, r2, r3⟩ := (setL_box HK8.out 0 0 ⟨#[]⟩ none 0 0).cells; unfold setL at r0 r1 r2 r3; refine bodyPost_ret (v := .tuple #[lv 0 0 ⟨#[]⟩ none 0 0, .iface 116 (.agg #[.string Z, .iface te ve])]) (by simp [results, Tryz.results52, go_sem, r0, r1, r2, r3]) rfl ⟨HBAD.out HD.out _ _ _ _ _ _ _ _ _ _, ?_⟩; exact setL_below HB8.out (Nat.le_refl _) 0 0 ⟨#[]⟩ none 0 0
 have hfew := L8.good_few H7.out
 have hxs : n ≤ 1000 := by
  have h1 : (L5.B B0).length = B0.size := L5.b_size B0
  have h2 : B0.data.toList.length = B0.size := by simp
  omega
 have HD : Hid (dec s = if enc ⟨hs5, hr, T2, xs⟩ s.size = (s, 0) then some ⟨hs5, hr, T2, xs⟩ else none) := zj (by
  have h := HM.out; rw [h8] at h; obtain ⟨ys, hy, hxy⟩ := Option.map_eq_some_iff.1 h.symm; have h2 := HP.out.ok _ _ _ _ _ H4.out H6.out H7.out hy; rw [hxy, bytes_eq] at h2
  exact h2)
 have HX := zj hxl; have hb9 := L5.below_alloc w8 (.cells #[.int .i64 hs5, .int .i64 hr, .string T2, .slice (some ⟨w7.heap.size, 0, none⟩) n n] 26); have HL9 := zj (hL8.on hb9); have HK9 := zj (HK8.out.below hb9); have HB9 := zj (HB8.out.trans' hb9); have HG9 := zj (HG8.out.on hb9); have HN9 := zj (show LBx 26 w8.heap.size hs5 hr T2 (some ⟨w7.heap.size, 0, none⟩) n n (w8.alloc (.cells #[.int .i64 hs5, .int .i64 hr, .string T2, .slice (some ⟨w7.heap.size, 0, none⟩) n n] 26)) from heap_alloc_new _ _); obtain ⟨y0, y1, y2, y3, y4⟩ := HH8.out.cells; simp only at y0 y1 y2 y3 y4; clear h8 hL8 hb9 hfew HK8 HH8 HB8 HG8 hxl hcl hBl hT1 hT2; go_wp2_with fail; generalize hW9 : w8.alloc (.cells #[.int .i64 hs5, .int .i64 hr, .string T2, .slice (some ⟨w7.heap.size, 0, none⟩) n n] 26) = W9 at *
 have hq9 : w.heap.size ≠ w7.heap.size := by omega
 have hq89 : w.heap.size ≠ w8.heap.size := by omega
 generalize w8.heap.size = q8 at *; generalize w7.heap.size = q7 at *; clear hW9 y0 y1 y2 y3 y4
 have HAG : Hid (∀ W, Below W9.heap.size W9 W → Calls Tryz.prog 91 #[lv hs5 hr T2 (some ⟨q7, 0, none⟩) n n, .string s] W fun e w' => (∃ X, e = .returned X ∧ AgainX ⟨hs5, hr, T2, xs⟩ s X) ∧ Below W9.heap.size W9 w') := zj (fun W hb =>
  (againX hs5 hr T2 (some ⟨q7, 0, none⟩) xs n s W (HG9.out.on hb).sizes (HL9.out.on hb) HX.out hxs (by unfold maxLen; omega) hs).mono fun e w' ⟨h1, h2⟩ => ⟨h1, hb.trans' h2⟩)
 obtain ⟨y0, y1, y2, y3⟩ := HN9.out.cells
 go_region_with (go_at_call 91; refine (HAG.out _ (by first | exact Below.refl _ _ | exact L5.below_drewN (Below.refl _ _) 1)).mono ?_; rintro e V ⟨⟨X, rfl, hX⟩, hb⟩; have HXX := zj hX; have HBV := zj hb; obtain ⟨z0, z1, z2, z3⟩ := (HN9.out.below hb).cells; obtain ⟨x0, x1, x2, x3⟩ := (HK9.out.below hb).cells; obtain ⟨f0, f1, f2, f3⟩ := (HK9.out.below hb).free; clear hX hb)
 all_goals
  go_wp2_with fail; obtain ⟨r0, r1, r2, r3⟩ := (setL_box (HK9.out.below HBV.out) hs5 hr T2 (some ⟨q7, 0, none⟩) n n).cells; unfold setL at r0 r1 r2 r3
  have hlies : Lies5 (setL V w.heap.size hs5 hr T2 (some ⟨q7, 0, none⟩) n n) (setL V w.heap.size hs5 hr T2 (some ⟨q7, 0, none⟩) n n).heap.size (some ⟨q7, 0, none⟩) xs := by
   rw [setL_size]
   exact setL_lies (HL9.out.on HBV.out) (fun a ha => by
    obtain rfl := Option.some.inj ha
    exact fun h => hq9 h.symm) hs5 hr T2 (some ⟨q7, 0, none⟩) n n
  refine bodyPost_ret (v := .tuple #[lv hs5 hr T2 (some ⟨q7, 0, none⟩) n n, X]) (by simp [results, Tryz.results52, go_sem, r0, r1, r2, r3]) rfl ⟨?_, ?_⟩
  ·rcases HXX.out with ⟨he, rfl⟩ | ⟨he, Z, te, ve, rfl⟩
   ·refine .inl ⟨⟨hs5, hr, T2, xs⟩, q7, by rw [HD.out, if_pos he], by omega, by simp only [HX.out], ?_⟩
    exact hlies
   ·exact HBAD.out (by rw [HD.out, if_neg he]) _ _ _ _ _ _ _ _ _ _
  ·first | exact setL_below (HB9.out.trans' HBV.out) (Nat.le_refl _) hs5 hr T2 (some ⟨q7, 0, none⟩) n n | exact (setL_below (HB9.out.trans' HBV.out) (Nat.le_refl _) hs5 hr T2 (some ⟨q7, 0, none⟩) n n).drew
def DecS (s : ByteArray) (b : Nat) (e : Ending) (w' : World) : Prop :=
 (∃ l G, dec s = some l ∧ e = .returned (.tuple #[lv l.self l.right l.high G l.items.length l.items.length, .int .i64 0]) ∧ Lies5 w' w'.heap.size G l.items ∧ (∀ a, G = some a → b ≤ a.block)) ∨
 (dec s = none ∧ e = .returned (.tuple #[lv 0 0 ⟨#[]⟩ none 0 0, .int .i64 3]))
theorem dec_any (s : ByteArray) (w : World) (hg : Glo w) (hs : s.size ≤ 1000000) :
  Calls Tryz.prog 25 #[.string s] w fun e w' => DecS s w.heap.size e w' ∧ Below w.heap.size w w' := by
 have hb0 := lbox_below 26 0 0 ⟨#[]⟩ none 0 0 w; have HB0 := zj hb0; have HK0 := zj (lbox_new 26 0 0 ⟨#[]⟩ none 0 0 w); have HG0 := zj (hg.on hb0); have HR := zj (read_any s _ (hg.on hb0) hs); clear hb0 hg; go_enter Tryz.func25, Tryz.ntmps25; go_wp2_with fail; refine HR.out.mono ?_; rintro e w2 ⟨h2, hb2⟩
 have hlt : w.heap.size < w2.heap.size := by
  have h1 := hb2.size; rw [lbox_size] at h1; omega
 rcases h2 with ⟨l, q, h2, hq, rfl, hL2⟩ | ⟨h2, F, R, H, A, n, ca, Z, te, ve, rfl⟩
 ·obtain ⟨F, R, H, l⟩ := l
  simp only at hL2; rw [lbox_size] at hq; obtain ⟨G, hG⟩ : ∃ G : Option Addr, G = some ⟨q, 0, none⟩ := ⟨_, rfl⟩; have HGQ := zj hG
  have hq' : w.heap.size ≠ q := by omega
  have HQL : Hid (w.heap.size ≤ q) := zj (by omega); rw [← hG] at hL2 ⊢; clear hG; have hb3 := L5.below_alloc w2 (.cells #[.int .i64 F, .int .i64 R, .string H, .slice G l.length l.length] 26); have hb4 := hb3.trans' (L5.below_alloc (w2.alloc (.cells #[.int .i64 F, .int .i64 R, .string H, .slice G l.length l.length] 26)) (.cells #[.string ⟨#[]⟩, .nilIface] 116)); have HD := zj h2; have HL4 := zj (hL2.on hb4); have HL2 := zj hL2; have HK4 := zj ((HK0.out.below hb2).below hb4); have HB4 := zj ((HB0.out.trans' hb2).trans' hb4); have HN4 := zj ((show LBx 26 w2.heap.size F R H G l.length l.length (w2.alloc (.cells #[.int .i64 F, .int .i64 R, .string H, .slice G l.length l.length] 26)) from heap_alloc_new _ _).below (L5.below_alloc _ (.cells #[.string ⟨#[]⟩, .nilIface] 116))); have HS2 := zj hb2; obtain ⟨n, hn⟩ : ∃ n, n = l.length := ⟨_, rfl⟩; have HN := zj hn; simp only; rw [← hn] at HN4 HK4 HB4 HL4 ⊢; clear h2 hL2 hb2 hb3 hb4 HK0 HB0 HG0 HR hn; go_wp2_with fail; refine (as_nil _ _).mono ?_; rintro e w5 ⟨rfl, hw5⟩; rw [← hw5] at HN4 HK4 HB4 HL4; clear hw5; obtain ⟨y0, y1, y2, y3⟩ := HN4.out.cells; obtain ⟨x0, x1, x2, x3⟩ := HK4.out.cells; obtain ⟨f0, f1, f2, f3⟩ := HK4.out.free; go_wp2_with fail; obtain ⟨r0, r1, r2, r3⟩ := (setL_box HK4.out F R H G n n).cells; unfold setL at r0 r1 r2 r3; refine bodyPost_ret (v := .tuple #[lv F R H G n n, .int .i64 0]) (by simp [results, Tryz.results25, go_sem, r0, r1, r2, r3]) rfl ?_; refine ⟨.inl ⟨⟨F, R, H, l⟩, G, HD.out, by simp only [HN.out], ?_⟩, setL_below HB4.out (Nat.le_refl _) F R H G n n⟩
  have hlies : Lies5 (setL w5 w.heap.size F R H G n n) (setL w5 w.heap.size F R H G n n).heap.size G l := by
   rw [setL_size]
   exact setL_lies HL4.out (g := w.heap.size) (fun a ha => by
    rw [HGQ.out] at ha; obtain rfl := Option.some.inj ha
    exact fun h => hq' h.symm) F R H G n n
  exact ⟨hlies, fun a ha => by
   rw [HGQ.out] at ha; obtain rfl := Option.some.inj ha
   exact HQL.out⟩
 ·have HD := zj h2
  have hb3 := L5.below_alloc w2 (.cells #[.int .i64 F, .int .i64 R, .string H, .slice A n ca] 26); have hb4 := hb3.trans' (L5.below_alloc (w2.alloc (.cells #[.int .i64 F, .int .i64 R, .string H, .slice A n ca] 26)) (.cells #[.string ⟨#[]⟩, .nilIface] 116)); have HK4 := zj ((HK0.out.below hb2).below hb4); have HB4 := zj ((HB0.out.trans' hb2).trans' hb4); have HF4 := zj (show FBx (w2.alloc (.cells #[.int .i64 F, .int .i64 R, .string H, .slice A n ca] 26)).heap.size ⟨#[]⟩ .nilIface ((w2.alloc (.cells #[.int .i64 F, .int .i64 R, .string H, .slice A n ca] 26)).alloc (.cells #[.string ⟨#[]⟩, .nilIface] 116)) from heap_alloc_new _ _); rw [show (w2.alloc (.cells #[.int .i64 F, .int .i64 R, .string H, .slice A n ca] 26)).heap.size = w2.heap.size + 1 by simp] at HF4; have HG4 := zj ((HG0.out.on hb2).on hb4); clear h2 hb2 hb3 hb4 HK0 HB0 HG0 HR; go_wp2_with fail; refine (as_hit Z te ve (w2.heap.size + 1) ⟨#[]⟩ .nilIface _ HG4.out.errT HF4.out).mono ?_; rintro e w5 ⟨rfl, hb5⟩; have hb6 := hb5 (w.heap.size + 1) (by omega) (by simp; omega); have HK5 := zj (HK4.out.on hb6 (by omega)); have HB5 := zj (HB4.out.trans (hb6.mono (by omega))); clear hb5 hb6; obtain ⟨x0, x1, x2, x3⟩ := HK5.out.cells; obtain ⟨f0, f1, f2, f3⟩ := HK5.out.free; go_wp2_with fail; obtain ⟨r0, r1, r2, r3⟩ := (setL_box HK5.out 0 0 ⟨#[]⟩ none 0 0).cells; unfold setL at r0 r1 r2 r3; refine bodyPost_ret (v := .tuple #[lv 0 0 ⟨#[]⟩ none 0 0, .int .i64 3]) (by simp [results, Tryz.results25, go_sem, r0, r1, r2, r3]) rfl ⟨.inr ⟨HD.out, rfl⟩, ?_⟩; exact setL_below HB5.out (Nat.le_refl _) 0 0 ⟨#[]⟩ none 0 0
theorem fit {f : FuncId} {a b : Array Value} {W : World} {Q : Ending → World → Prop} (h : Calls Tryz.prog f a W Q) (e : b = a) : Calls Tryz.prog f b W Q := e ▸ h
theorem rputT (t : ByteArray) (W : World) (h : t.size ≤ 1000) :
  ∃ P : ByteArray, P.size ≤ 9 ∧ P ++ t = L9.textS t ∧ ∀ W, Calls Tryz.prog 183 #[.int .u64 (t.size : Nat)] W fun e w' => e = .returned (.string P) ∧ Below W.heap.size W w' :=
 ⟨_, L9.wput_size t.size (by omega), L9.textS_eq t t.size rfl, fun W => by
  have h2 := L9.rput_any (t.size : Nat) W (by omega) (by omega); rw [Int.toNat_natCast] at h2
  exact h2⟩
theorem rfixed_any (F R : Int) (H : ByteArray) (A : Option Addr) (l : List It) (ca : Nat) (w : World) (ha : Lies5 w w.heap.size A l) (hf : Fit H l) :
  Calls Tryz.prog 139 #[lv F R H A l.length ca] w fun e w' => e = .returned (.string (fixedS H l)) ∧ Below w.heap.size w w' := by
 have hb0 := lbox_below 41 F R H A l.length ca w; have HB0 := zj hb0; have HK := zj (lbox_new 41 F R H A l.length ca w); have HR := zj (rkeys_any F R H A l ca _ (ha.on hb0) hf.few)
 have HS := zj (fun G cap W (h : L5.Lies W W.heap.size G (ks l)) => L5.rstrip_any G (ks l) cap W h (by rw [ks_length]; exact hf.few) (fun s hs => by
  obtain ⟨x, hx, rfl⟩ := List.mem_map.1 hs
  exact hf.key x hx))
 have z3 := headS_size hf.key; have z4 := hf.high; obtain ⟨P1, p1, q1, c1⟩ := rputT (L5.headS (ks l)) w z3; obtain ⟨P2, p2, q2, c2⟩ := rputT H w z4; have HZ : Hid (((P1 ++ L5.headS (ks l)) ++ P2) ++ H = fixedS H l) := zj (by rw [ByteArray.append_assoc, q1, q2]; rfl); have HP1 := zj c1; have HP2 := zj c2; rw [ks_length] at HS; obtain ⟨hd, hhd⟩ : ∃ hd, L5.headS (ks l) = hd := ⟨_, rfl⟩; rw [hhd] at HS HP1 HZ z3; rw [← HZ.out]; have e1 : (P1 ++ hd).size = P1.size + hd.size := ByteArray.size_append
 have e2 : ((P1 ++ hd) ++ P2).size = P1.size + hd.size + P2.size := by rw [ByteArray.size_append, e1]
 have hz1 : ¬ 9223372036854775807 < P1.size + hd.size := by omega
 have hz2 : ¬ 9223372036854775807 < P1.size + hd.size + P2.size := by omega
 have hz3 : ¬ 9223372036854775807 < P1.size + hd.size + P2.size + H.size := by omega
 have hz1' : ¬ (9223372036854775807 : Int) < (P1.size : Int) + (hd.size : Int) := by omega
 have hz2' : ¬ (9223372036854775807 : Int) < (P1.size : Int) + (hd.size : Int) + (P2.size : Int) := by omega
 have hz3' : ¬ (9223372036854775807 : Int) < (P1.size : Int) + (hd.size : Int) + (P2.size : Int) + (H.size : Int) := by omega
 have w1 : IntKind.u64.wrap (hd.size : Int) = (hd.size : Int) := IntWalk.u64_in _ (by omega); have w2 : IntKind.u64.wrap (H.size : Int) = (H.size : Int) := IntWalk.u64_in _ (by omega); generalize l.length = n at *; simp only [lbox] at HK HR HB0; clear ha hf hb0 q1 q2 c1 c2 hhd HZ; go_enter Tryz.func139, Tryz.ntmps139; go_wp2_with fail; refine HR.out.mono ?_; rintro e W2 ⟨G, cap, rfl, hL, hb2⟩; go_wp2_with fail; refine (HS.out G cap _ hL).mono ?_; rintro e W3 ⟨G3, cap3, rfl, hL3, hb3⟩; have HK3 := zj ((HK.out.below hb2).below hb3); have HB3 := zj ((HB0.out.trans' hb2).trans' hb3); clear hL hb2 hb3 hL3; have HST : Hid (∀ V, Below W3.heap.size W3 V → (Hid (Below W3.heap.size W3 V) ∧ V.cell? ⟨w.heap.size, 2, none⟩ = some (.string H))) := zj (fun V hb => ⟨zj hb, (HK3.out.below hb).cells.2.2.1⟩); have hSd := HST.out _ (L5.below_drewN (Below.refl _ W3) 1); have hS0 := HST.out _ (Below.refl _ W3); go_wp2_with fail
 go_region_held3 (fun V => Hid (Below W3.heap.size W3 V) ∧ V.cell? ⟨w.heap.size, 2, none⟩ = some (.string H))
  (first | assumption | exact hSd)
  (first
   | (go_at_call 183; refine Calls.mono (fit (HP1.out _) (by rfl)) ?_; rintro e V ⟨rfl, hb⟩; have HBV := zj ((by assumption : Hid (Below W3.heap.size W3 _) ∧ _).1.out.trans' hb); have hSn := HST.out _ HBV.out; clear hb)
   | (go_at_call 183; refine Calls.mono (fit (HP2.out _) (by rfl)) ?_; rintro e V ⟨rfl, hb⟩; have HBV := zj ((by assumption : Hid (Below W3.heap.size W3 _) ∧ _).1.out.trans' hb); have hSn := HST.out _ HBV.out; clear hb)
   | fail "no arm")
 all_goals
  go_wp2_with fail; go_ret; exact ⟨rfl, HB3.out.trans' HBV.out⟩
end Go.Proofs.YtpeghilfldpgfaaGreatDoor.L10
