import Derived.Test.YtpeghilfldpgfaaGreatDoorT03
import Derived.Test.YtpeghilfldpgfaaGreatDoorTWLen
import Derived.RangeFuncBox
set_option linter.unusedVariables false
set_option linter.unusedSimpArgs false
set_option maxHeartbeats 8000000
set_option maxRecDepth 100000
namespace Go.Proofs.YtpeghilfldpgfaaGreatDoor.L9
open Go.RowKit
theorem follow_any (b : Int) (w : World) (h0 : 0 ≤ b) (h1 : b ≤ 255) :
  Calls Tryz.prog 189 #[.int .u8 b] w fun e w' => e = .returned (.int .i64 (WP.flw b)) ∧ w = w' := by
 go_enter Tryz.func189, Tryz.ntmps189
 go_wp2
 all_goals
  go_ret; refine ⟨ret_int ?_, rfl⟩; simp only [beq_iff_eq, beq_eq_false_iff_ne, ne_eq] at *; unfold WP.flw
  split
  ·omega
  ·split <;> omega
theorem byteLen_any (x : Int) (w : World) (h0 : 0 ≤ x) (h1 : x ≤ 18446744073709551615) :
  Calls Tryz.prog 204 #[.int .u64 x] w fun e w' => e = .returned (.int .i64 (WP.bl x.toNat)) ∧ w = w' := by
 have hb : Lib.bitLen x.toNat ≤ 64 := Lib.bitLen_le _ 64 (by omega) (by omega); go_enter Tryz.func204, Tryz.ntmps204; go_wp2_with (go_at_call 212; refine (len64_any _ _ h0 h1).mono ?_; rintro e w' ⟨rfl, rfl⟩); go_ret; refine ⟨ret_int ?_, rfl⟩; have := WP.bl_of x.toNat (by omega); omega
theorem put_any (n : Int) (w : World) (h0 : 0 ≤ n) (h1 : n ≤ 18446744073709551615) :
  Calls Tryz.prog 174 #[.int .u64 n] w fun e w' => e = .returned (.string ⟨(WP.put n.toNat).toArray⟩) ∧ Below w.heap.size w w' := by
 rcases (show n ≤ 240 ∨ (240 < n ∧ n ≤ 2287) ∨ (2287 < n ∧ n ≤ 67823) ∨ 67823 < n by omega) with h | h | h | h
 ·have Hp := zj (WP.put_1 n.toNat (by omega))
  go_enter Tryz.func174, Tryz.ntmps174; go_wp2_with fail; refine (highFirst_any _ _ _ (by omega) (by omega) (by omega) (by omega)).mono ?_; rintro e w' ⟨rfl, hb⟩; go_wp2_with fail; go_ret; exact ⟨by rw [Hp.out]; rfl, hb⟩
 ·have Hp := zj (WP.put_2 n.toNat (by omega) (by omega))
  go_enter Tryz.func174, Tryz.ntmps174; go_wp2_with fail; refine (highFirst_any _ _ _ (by omega) (by omega) (by omega) (by omega)).mono ?_; rintro e w' ⟨rfl, hb⟩; go_wp2_with fail; go_ret; refine ⟨?_, hb⟩; rw [Hp.out, show 61696 + (n.toNat - 240) = (61696 + (n - 240)).toNat by omega]; rfl
 ·have Hp := zj (WP.put_3 n.toNat (by omega) (by omega))
  go_enter Tryz.func174, Tryz.ntmps174; go_wp2_with fail; refine (highFirst_any _ _ _ (by omega) (by omega) (by omega) (by omega)).mono ?_; rintro e w' ⟨rfl, hb⟩; go_wp2_with fail; go_ret; refine ⟨?_, hb⟩; rw [Hp.out, show 16318464 + (n.toNat - 2288) = (16318464 + (n - 2287 - 1)).toNat by omega]; rfl
 ·have Hp := zj (WP.put_4 n.toNat (by omega))
  have hb8 := WP.bl_le8 n.toNat; have hb3 := WP.bl_ge3 n.toNat (by omega); go_enter Tryz.func174, Tryz.ntmps174; go_wp2_with fail; refine (byteLen_any _ _ (by omega) (by omega)).mono ?_; rintro e w' ⟨rfl, rfl⟩; go_wp2_with fail; refine (highFirst_any _ _ _ (by omega) (by omega) (by omega) (by omega)).mono ?_; rintro e w1 ⟨rfl, hb⟩; go_wp2_with fail; refine (highFirst_any _ _ _ (by omega) (by omega) (by omega) (by omega)).mono ?_; rintro e w2 ⟨rfl, hb2⟩
  have hl : ¬ 9223372036854775807 < (Lib.beBytes 1 (247 + WP.bl n.toNat)).length + (Lib.beBytes (WP.bl n.toNat) n.toNat).length := by rw [Lib.beBytes_length, Lib.beBytes_length]; omega
  go_wp2_with fail; go_ret; refine ⟨?_, hb.trans (hb2.mono hb.size)⟩; rw [Hp.out, ← WP.bytes_add]; rfl
theorem told_any (b : Int) (s : ByteArray) (w : World) (h0 : 0 ≤ b) (h1 : b ≤ 255) (hs : (s.size : Int) = WP.flw b) :
  Calls Tryz.prog 190 #[.int .u8 b, .string s] w fun e w' => e = .returned (.int .u64 (WP.told b.toNat s.data.toList)) ∧ w = w' := by
 have HS := zj hs; clear hs
 have hs : s.size ≤ 8 := by have := HS.out; unfold WP.flw at this; split at this; omega; split at this <;> omega
 go_enter Tryz.func190, Tryz.ntmps190
 go_wp2
 go_loop [5, 9] (fun n i => ∃ k : Nat, k ≤ s.size ∧ i = .int .i64 k ∧ n = .int .u64 (Lib.beNat (s.data.toList.take k) : Nat)) (fun _ i => s.size - (intOf i).toNat)
 case atStart => exact ⟨0, Nat.zero_le _, rfl, rfl⟩
 case round =>
  obtain ⟨k, hk, rfl, rfl⟩ := hrel; have hlt0 := WP.beNat_lt (s.data.toList.take k)
  have hl : (s.data.toList.take k).length = k := by simp; omega
  rw [hl] at hlt0; by_cases hlt : k < s.size
  ·have hp := WP.pow256 k (by omega)
   have HB := zj (WP.beNat_snoc (s.data.toList.take k) s[k]); rw [← WP.take_snoc s k hlt] at HB; have HO := zj (WP.or_hi (Lib.beNat (s.data.toList.take k) : Nat) s[k].toNat (by omega) (by omega) (by omega) (by have := s[k].toNat_lt; omega)); have hby := s[k].toNat_lt; clear hl; generalize Lib.beNat (s.data.toList.take k) = v at *
   go_wp2
   go_round
   case rel =>
    refine ⟨k + 1, by omega, by go_num, ?_⟩; rw [HB.out, HO.out]
    go_num
   case measure => simp [intOf]; omega
  ·obtain rfl : k = s.size := by omega
   have ht : s.data.toList.take s.size = s.data.toList := List.take_of_length_le (by simp); rw [ht] at hlt0 ⊢; have HV : Hid (∃ u, u = Lib.beNat s.data.toList) := zj ⟨_, rfl⟩; have hf := HS.out; clear ht hl; unfold WP.flw at hf; rcases (show b < 241 ∨ (241 ≤ b ∧ b < 249) ∨ b = 249 ∨ 249 < b by omega) with h | h | h | h
   ·have H := zj (WP.told_1 b.toNat s.data.toList (by omega))
    clear hf; generalize Lib.beNat s.data.toList = v at *
    go_wp2
    go_ret; exact ⟨ret_int (by rw [H.out]; omega), rfl⟩
   ·have H := zj (WP.told_2 b.toNat s.data.toList (by omega) (by omega))
    rw [if_neg (by omega), if_pos (by omega)] at hf
    obtain hf : s.size = 1 := by omega
    rw [hf] at hlt0; clear hf; generalize Lib.beNat s.data.toList = v at *
    go_wp2
    go_ret; exact ⟨ret_int (by rw [H.out]; omega), rfl⟩
   ·have H := zj (WP.told_3 b.toNat s.data.toList (by omega))
    rw [if_neg (by omega), if_neg (by omega)] at hf
    obtain hf : s.size = 2 := by omega
    rw [hf] at hlt0; clear hf; generalize Lib.beNat s.data.toList = v at *; have hne : (b == 249) = true := beq_iff_eq.2 h
    have hge : 249 ≤ b := by omega
    clear h
    go_wp2
    go_ret; exact ⟨ret_int (by rw [H.out]; omega), rfl⟩
   ·have H := zj (WP.told_4 b.toNat s.data.toList (by omega))
    clear hf; have hne : (b == 249) = false := beq_eq_false_iff_ne.2 (by omega); generalize Lib.beNat s.data.toList = v at *
    go_wp2
    go_ret; exact ⟨ret_int (by rw [H.out]), rfl⟩
theorem quiet_of_eq {P : Program} {f : FuncId} {args : Array Value} {w : World} {n : Nat} {v : Value}
  (h : Calls P f args (w.drewN n) fun e w' => e = .returned v ∧ w.drewN n = w') : Calls P f args (w.drewN n) fun e w'' => e = .returned v ∧ ∃ m, w'' = w.drewN m :=
 h.mono fun _ _ ⟨he, hm⟩ => ⟨he, n, hm.symm⟩
theorem below_of_drewN {w w2 : World} {n : Nat} (h : Below (w.drewN n).heap.size (w.drewN n) w2) : Below w.heap.size w w2 := ⟨h.os, h.tape, h.output, h.size, h.block⟩
theorem get_end (s : ByteArray) (i : Int) (w : World) (h1 : i = s.size) :
  Calls Tryz.prog 148 #[.string s, .int .i64 i] w fun e w' => e = .returned (.tuple #[.int .u64 0, .int .i64 0, .int .i64 7]) ∧ w = w' := by
 subst h1; go_enter Tryz.func148, Tryz.ntmps148; go_wp2_with fail
 go_ret3
 exact ⟨rfl, rfl⟩
theorem get_short (s : ByteArray) (i : Nat) (w : World) (h1 : i < s.size) (h3 : (s.size : Int) - i ≤ WP.flw s[i].toNat) (h2 : s.size ≤ maxLen) :
  Calls Tryz.prog 148 #[.string s, .int .i64 i] w fun e w' => e = .returned (.tuple #[.int .u64 0, .int .i64 0, .int .i64 7]) ∧ w = w' := by
 unfold maxLen at h2; have hne : ((i : Int) == s.size) = false := beq_eq_false_iff_ne.2 (by omega); have hby := s[i].toNat_lt; go_enter Tryz.func148, Tryz.ntmps148; go_wp2_with fail; refine (follow_any _ _ (by omega) (by omega)).mono ?_; rintro e w' ⟨rfl, rfl⟩; go_wp2_with fail
 go_ret3
 exact ⟨rfl, rfl⟩
theorem get_go (s : ByteArray) (i : Nat) (w : World) (h1 : i < s.size) (f v : Nat) (hf : (f : Int) = WP.flw s[i].toNat) (h3 : i + f < s.size) (h2 : s.size ≤ maxLen)
  (hv : v = WP.told s[i].toNat (s.extract (i + 1) (i + 1 + f)).data.toList) (hvb : v ≤ 18446744073709551615) (q : Bool) (hq : (WP.put v == (s.extract i (i + 1 + f)).toList) = q) :
  Calls Tryz.prog 148 #[.string s, .int .i64 i] w fun e w' => e = .returned (bif q then .tuple #[.int .u64 v, .int .i64 (i + 1 + f : Nat), .int .i64 0] else .tuple #[.int .u64 0, .int .i64 0, .int .i64 3]) ∧ Below w.heap.size w w' := by
 unfold maxLen at h2; have hne : ((i : Int) == s.size) = false := beq_eq_false_iff_ne.2 (by omega); have hby := s[i].toNat_lt; have HF := zj hf
 have HT : Hid (∀ W, Calls Tryz.prog 190 #[.int .u8 s[i].toNat, .string (s.extract (i + 1) (i + 1 + f))] W fun e w' => e = .returned (.int .u64 v) ∧ W = w') :=
  zj (fun W => by
   have h := told_any (s[i].toNat : Int) (s.extract (i + 1) (i + 1 + f)) W (by omega) (by omega) (by rw [← hf]; simp; omega); rw [Int.toNat_natCast, ← hv] at h
   exact h)
 have HP : Hid (∀ W, Calls Tryz.prog 174 #[.int .u64 v] W fun e w' => e = .returned (.string ⟨(WP.put v).toArray⟩) ∧ Below W.heap.size W w') :=
  zj (fun W => by
   have h := put_any (v : Int) W (by omega) (by omega)
   rwa [Int.toNat_natCast] at h)
 clear hf hv
 have hlt : i + 1 + f ≤ s.size := by omega
 generalize WP.put v = pv at *; cases q
 all_goals
  go_enter Tryz.func148, Tryz.ntmps148; go_wp2_with fail; refine (follow_any _ _ (by omega) (by omega)).mono ?_; rintro e w' ⟨rfl, rfl⟩; rw [← HF.out]; go_wp2_with fail; refine (follow_any _ _ (by omega) (by omega)).mono ?_; rintro e w' ⟨rfl, rfl⟩; rw [← HF.out]; go_wp2_with fail; have q1 : IntKind.i64.wrap ((i : Int) + 1) = (i : Int) + 1 := IntWalk.i64_in _ (by omega)
  have q2 : (0 : Int) ≤ (i : Int) + 1 := by omega
  have q3 : ((i : Int) + 1).toNat = i + 1 := by omega
  have q4 : ((i : Int) + 1 + f).toNat = i + 1 + f := by omega
  have q5 : (0 : Int) ≤ (i : Int) + 1 + f := by omega
  have q6 : (i : Int) + 1 + f ≤ s.size := by omega
  have q7 : (i : Int) + 1 ≤ (i : Int) + 1 + f := by omega
  go_quiet ((go_at_call 190; exact quiet_of_eq (HT.out _)))
  go_wp2_with fail
  go_region_with (go_at_call 174; refine (HP.out _).mono ?_; rintro e w2 ⟨rfl, hb2⟩)
  all_goals clear q1 q2 q3 q4 q5 q6 q7
  all_goals go_wp2_with fail
  all_goals go_ret3
  all_goals refine ⟨?_, ?_⟩
 all_goals first
  | exact rfl
  | exact below_of_drewN hb2
theorem get_any (s : ByteArray) (i : Int) (w : World) (h0 : 0 ≤ i) (h1 : i ≤ s.size) (h2 : s.size ≤ maxLen) :
  Calls Tryz.prog 148 #[.string s, .int .i64 i] w fun e w' => e = .returned (.tuple #[.int .u64 (WP.get s.data.toList i.toNat).1, .int .i64 (WP.get s.data.toList i.toNat).2.1, .int .i64 (WP.get s.data.toList i.toNat).2.2]) ∧ Below w.heap.size w w' := by
 obtain ⟨a, rfl⟩ := Int.eq_ofNat_of_zero_le h0; rw [Int.toNat_natCast]; by_cases he : a < s.size
 ·have hn := WP.flw_nn s[a].toNat
  by_cases hs : (s.size : Int) - a ≤ WP.flw s[a].toNat
  ·rw [WP.get_short s a he hs]
   exact (get_short s a w he hs h2).mono fun e w' ⟨h, h'⟩ => ⟨h, h' ▸ Below.refl _ _⟩
  ·obtain ⟨f, hf⟩ := Int.eq_ofNat_of_zero_le hn
   have hl : (((s.extract (a + 1) (a + 1 + f)).data.toList.length : Nat) : Int) = WP.flw s[a].toNat := by rw [Lib.extract_data]; simp; omega
   have hvb := WP.told_le s[a].toNat _ (by have := s[a].toNat_lt; omega) hl; rw [WP.get_rest s a f he hf.symm (by omega)]; have H := get_go s a w he f _ hf.symm (by omega) h2 rfl hvb _ rfl; by_cases hq : WP.put (WP.told s[a].toNat (s.extract (a + 1) (a + 1 + f)).data.toList) = (s.extract a (a + 1 + f)).toList
   ·rw [if_pos hq]
    rw [beq_iff_eq.2 hq] at H; exact H
   ·rw [if_neg hq]
    rw [beq_eq_false_iff_ne.2 hq] at H; exact H
 ·rw [WP.get_end _ a (by simp; omega)]
  exact (get_end s a w (by omega)).mono fun e w' ⟨h, h'⟩ => ⟨h, h' ▸ Below.refl _ _⟩
theorem below_alloc (w : World) (o : Obj) : Below w.heap.size w (w.alloc o) := (Below.refl _ w).alloc (Nat.le_refl _) o
theorem below_of_drew {w w2 : World} (h : Below w.drew.heap.size w.drew w2) : Below w.heap.size w w2 := ⟨h.os, h.tape, h.output, h.size, h.block⟩
abbrev vv (O : Bool) (S : ByteArray) (L P : Int) : Value := .agg #[.bool O, .string S, .int .i64 L, .int .i64 P]
abbrev pv (O : Bool) (S : ByteArray) (L P : Int) : VP.V := ⟨O, S.data.toList, L, P⟩
def Bx (t : TypeId) (g : Nat) (O : Bool) (S : ByteArray) (L P : Int) (w : World) : Prop := w.heap[g]? = some (.cells #[.bool O, .string S, .int .i64 L, .int .i64 P] t (0, 0))
section
variable {t : TypeId} {g : Nat} {O : Bool} {S : ByteArray} {L P : Int} {w w' : World}
theorem Bx.cells (k : Bx t g O S L P w) : w.cell? ⟨g, 0, none⟩ = some (.bool O) ∧ w.cell? ⟨g, 1, none⟩ = some (.string S) ∧ w.cell? ⟨g, 2, none⟩ = some (.int .i64 L) ∧ w.cell? ⟨g, 3, none⟩ = some (.int .i64 P) := by
 unfold Bx at k
 refine ⟨?_, ?_, ?_, ?_⟩ <;> simp [World.cell?, k]
theorem Bx.free (k : Bx t g O S L P w) : w.frozen? ⟨g, 0, none⟩ = false ∧ w.frozen? ⟨g, 1, none⟩ = false ∧ w.frozen? ⟨g, 2, none⟩ = false ∧ w.frozen? ⟨g, 3, none⟩ = false := by
 unfold Bx at k
 refine ⟨?_, ?_, ?_, ?_⟩ <;> simp [World.frozen?, k]
theorem Bx.lt (k : Bx t g O S L P w) : g < w.heap.size := (Array.getElem?_eq_some_iff.1 k).1
theorem Bx.below (k : Bx t g O S L P w) (b : Below w.heap.size w w') : Bx t g O S L P w' := (b.block g k.lt).trans k
def HasBx (t : TypeId) (g : Nat) (O : Bool) (S : ByteArray) (L P : Int) (w : World) : Prop := Hid (Bx t g O S L P w) ∧ w.cell? ⟨g, 0, none⟩ = some (.bool O) ∧ w.cell? ⟨g, 1, none⟩ = some (.string S) ∧ w.cell? ⟨g, 2, none⟩ = some (.int .i64 L) ∧ w.cell? ⟨g, 3, none⟩ = some (.int .i64 P)
theorem hasBx (k : Bx t g O S L P w) : HasBx t g O S L P w := ⟨zj k, k.cells⟩
theorem HasBx.below (k : HasBx t g O S L P w) (b : Below w.heap.size w w') : HasBx t g O S L P w' := hasBx (k.1.out.below b)
end
theorem Bx.new (t : TypeId) (O : Bool) (S : ByteArray) (L P : Int) (w : World) : Bx t w.heap.size O S L P (w.alloc (.cells #[.bool O, .string S, .int .i64 L, .int .i64 P] t)) := heap_alloc_new _ _
def set4 (w : World) (g : Nat) (O : Bool) (S : ByteArray) (L P : Int) : World := (((w.setCell ⟨g, 0, none⟩ (.bool O)).setCell ⟨g, 1, none⟩ (.string S)).setCell ⟨g, 2, none⟩ (.int .i64 L)).setCell ⟨g, 3, none⟩ (.int .i64 P)
theorem set4_box {t : TypeId} {w : World} {g : Nat} {O : Bool} {S : ByteArray} {L P : Int} (k : Bx t g O S L P w) (O' : Bool) (S' : ByteArray) (L' P' : Int) : Bx t g O' S' L' P' (set4 w g O' S' L' P') := by
 unfold Bx at *; unfold set4; have h0 := heap_setCell_same w g 0 _ _ (.bool O') k; have h1 := heap_setCell_same _ g 1 _ _ (.string S') h0; have h2 := heap_setCell_same _ g 2 _ _ (.int .i64 L') h1; have h3 := heap_setCell_same _ g 3 _ _ (.int .i64 P') h2; exact h3
theorem set4_other {w : World} {g q : Nat} (h : q ≠ g) (O : Bool) (S : ByteArray) (L P : Int) : (set4 w g O S L P).heap[q]? = w.heap[q]? := by
 unfold set4; have hh : ∀ (W : World) (o : Nat) (v : Value), (W.setCell ⟨g, o, none⟩ v).heap[q]? = W.heap[q]? := fun W o v => Below.heap_setCell W ⟨g, o, none⟩ v q (fun e' => h (by first | exact e' | exact e'.symm)); rw [hh, hh, hh, hh]
theorem set4_below {w W : World} {c g : Nat} (h : Below c w W) (hg : c ≤ g) (O : Bool) (S : ByteArray) (L P : Int) : Below c w (set4 W g O S L P) :=
 (((h.setCell (p := ⟨g, 0, none⟩) hg _).setCell (p := ⟨g, 1, none⟩) hg _).setCell (p := ⟨g, 2, none⟩) hg _).setCell (p := ⟨g, 3, none⟩) hg _
end Go.Proofs.YtpeghilfldpgfaaGreatDoor.L9
namespace Go.Proofs.YtpeghilfldpgfaaGreatDoor.L10
open Go.RowKit NP
def five (x : It) : List Value := [.string x.k, .bool x.o, .string x.s, .int .i64 x.l, .int .i64 x.p]
def fives (l : List It) : List Value := l.flatMap five
theorem fives_append (l m : List It) : fives (l ++ m) = fives l ++ fives m := by simp [fives]
theorem fives_one (c : It) : fives [c] = five c := by simp [fives]
theorem fives_length : ∀ (l : List It), (fives l).length = l.length * 5
 | [] => rfl
 | c :: l => by
  have := fives_length l; simp only [fives, List.flatMap_cons, List.length_append, List.length_cons] at *; rw [this]; simp [five]; omega
theorem fives_get : ∀ (l : List It) (i j : Nat) (c : It) (v : Value), l[i]? = some c → (five c)[j]? = some v → (fives l)[i * 5 + j]? = some v
 | [], i, j, c, v, h, _ => by simp at h
 | d :: l, 0, j, c, v, h, hv => by
  simp at h; subst h; have hj : j < (five d).length := (List.getElem?_eq_some_iff.1 hv).1; rw [fives, List.flatMap_cons, List.getElem?_append_left (by simpa using hj)]
  simpa using hv
 | d :: l, i + 1, j, c, v, h, hv => by
  have := fives_get l i j c v (by simpa using h) hv; rw [fives, List.flatMap_cons, List.getElem?_append_right (by simp [five]; omega)]; rw [show (i + 1) * 5 + j - (five d).length = i * 5 + j by simp [five]; omega]; exact this
theorem fives_snoc (l : List It) (k : Nat) (c : It) (hc : l[k]? = some c) : fives (l.take (k + 1)) = fives (l.take k) ++ five c := by
 have h : l.take (k + 1) = l.take k ++ [c] := by rw [List.take_add_one, hc]; rfl
 rw [h, fives_append, fives_one]
theorem five_one (K : ByteArray) (O : Bool) (S : ByteArray) (L P : Int) : ∀ u ∈ [Value.string K, .bool O, .string S, .int .i64 L, .int .i64 P], u.oneCell' = true := by simp [Value.oneCell']
def Lies5 (w : World) (B : Nat) (A : Option Addr) (l : List It) : Prop :=
 ∀ i c, l[i]? = some c → ∃ a, A = some a ∧ a.block < B ∧ ∀ j v, (five c)[j]? = some v → w.cell? ((a.add (i * 5)).add j) = some v
section
variable {w w' : World} {B B' : Nat} {A : Option Addr} {l : List It}
theorem Lies5.nil (w : World) (B : Nat) (A : Option Addr) : Lies5 w B A [] := fun i c h => by simp at h
theorem Lies5.keep (h : Lies5 w B A l) (hk : ∀ p : Addr, p.block < B → w'.cell? p = w.cell? p) : Lies5 w' B A l := fun i c hc => by
 obtain ⟨a, e, hb, hx⟩ := h i c hc; exact ⟨a, e, hb, fun j v hv => (hk _ (by rw [L5.addr_block, L5.addr_block]; exact hb)).trans (hx j v hv)⟩
theorem Lies5.more (h : Lies5 w B A l) (hB : B ≤ B') : Lies5 w B' A l := fun i c hc => by
 obtain ⟨a, e, hb, hx⟩ := h i c hc; exact ⟨a, e, by omega, hx⟩
theorem Lies5.below (h : Lies5 w B A l) (b : Below B w w') : Lies5 w' B A l := h.keep fun _ hp => b.cell hp
theorem Lies5.below' {C : Nat} (h : Lies5 w B A l) (b : Below C w w') (hC : B ≤ C) : Lies5 w' B A l := h.keep fun _ hp => b.cell (by omega)
theorem Lies5.on (h : Lies5 w w.heap.size A l) (b : Below w.heap.size w w') : Lies5 w' w'.heap.size A l := (h.below b).more b.size
theorem Lies5.take (h : Lies5 w B A l) (k : Nat) : Lies5 w B A (l.take k) := fun i c hc => by
 refine h i c ?_; rw [List.getElem?_take] at hc
 split at hc
 ·exact hc
 ·simp at hc
def At5 (w : World) (a : Addr) (K : ByteArray) (O : Bool) (S : ByteArray) (L P : Int) : Prop :=
 w.cell? a = some (.string K) ∧ w.cell? ⟨a.block, a.off + 1, none⟩ = some (.bool O) ∧ w.cell? ⟨a.block, a.off + 2, none⟩ = some (.string S) ∧ w.cell? ⟨a.block, a.off + 3, none⟩ = some (.int .i64 L) ∧ w.cell? ⟨a.block, a.off + 4, none⟩ = some (.int .i64 P)
theorem Lies5.load (h : Lies5 w B A l) {i : Nat} {K : ByteArray} {O : Bool} {S : ByteArray} {L P : Int} (hc : l[i]? = some ⟨K, O, S, L, P⟩) : ∃ a, A = some a ∧ a.block < B ∧ At5 w (a.add (i * 5)) K O S L P := by
 obtain ⟨a, e, hb, hx⟩ := h i _ hc; exact ⟨a, e, hb, hx 0 _ rfl, hx 1 _ rfl, hx 2 _ rfl, hx 3 _ rfl, hx 4 _ rfl⟩
end
theorem lies5_own {w : World} {base e : Nat} {A : Option Addr} {n cap : Nat} {l : List It} (h : w.ownsRow base e 5 (.slice A n cap) n (fives l)) (hn : n = l.length) : Lies5 w w.heap.size A l := fun i c hc => by
 have hi : i < l.length := (List.getElem?_eq_some_iff.1 hc).1; obtain ⟨g, cap', hv, _, hlt⟩ := h.form (by omega)
 have hA : A = some ⟨g, 0, none⟩ := by injection hv
 subst hA; refine ⟨_, rfl, hlt, fun j v hv => ?_⟩; rw [L5.addr_add]; exact h.cells (g := g) rfl _ _ (fives_get l i j c v hc hv)
theorem own5_below {base e n : Nat} {v : Value} {xs : List Value} {w w' : World} (h : w.ownsRow base e 5 v n xs) (k : Below w.heap.size w w') : w'.ownsRow base e 5 v n xs := by
 refine h.kept (row := none) ⟨k.os, k.tape, k.output, k.size, fun i hi _ => k.block i hi⟩ ?_
 cases hv : v.ownBlock with
 | none => exact .inl rfl
 | some x => exact .inr (by simp)
theorem own5_nil (w : World) (base e : Nat) : w.ownsRow base e 5 (.slice none 0 0) 0 [] := ⟨by simp, .inl ⟨rfl, rfl⟩⟩
theorem own5_apart {w w' : World} {base e n q : Nat} {v : Value} {xs : List Value} (h : w.ownsRow base e 5 v n xs) (hg : w.grownBy w' v.ownBlock) (hb : q ≤ base) (hq : q ≤ w.heap.size) : Below q w w' :=
 (Below.refl q w).grown hg hq (fun k hk => by
  rcases h.2 with ⟨rfl, _⟩ | ⟨g, cap, cur, rfl, hg', _⟩
  ·simp [Value.ownBlock] at hk
  ·simp [Value.ownBlock] at hk; omega)
abbrev lv (F R : Int) (H : ByteArray) (A : Option Addr) (n cap : Nat) : Value := .agg #[.int .i64 F, .int .i64 R, .string H, .slice A n cap]
def LBx (t : TypeId) (g : Nat) (F R : Int) (H : ByteArray) (A : Option Addr) (n cap : Nat) (w : World) : Prop := w.heap[g]? = some (.cells #[.int .i64 F, .int .i64 R, .string H, .slice A n cap] t (0, 0))
section
variable {t : TypeId} {g : Nat} {F R : Int} {H : ByteArray} {A : Option Addr} {n cap : Nat} {w w' : World}
theorem LBx.cells (k : LBx t g F R H A n cap w) : w.cell? ⟨g, 0, none⟩ = some (.int .i64 F) ∧ w.cell? ⟨g, 1, none⟩ = some (.int .i64 R) ∧ w.cell? ⟨g, 2, none⟩ = some (.string H) ∧ w.cell? ⟨g, 3, none⟩ = some (.slice A n cap) := by
 unfold LBx at k
 refine ⟨?_, ?_, ?_, ?_⟩ <;> simp [World.cell?, k]
theorem LBx.free (k : LBx t g F R H A n cap w) : w.frozen? ⟨g, 0, none⟩ = false ∧ w.frozen? ⟨g, 1, none⟩ = false ∧ w.frozen? ⟨g, 2, none⟩ = false ∧ w.frozen? ⟨g, 3, none⟩ = false := by
 unfold LBx at k
 refine ⟨?_, ?_, ?_, ?_⟩ <;> simp [World.frozen?, k]
theorem LBx.lt (k : LBx t g F R H A n cap w) : g < w.heap.size := (Array.getElem?_eq_some_iff.1 k).1
theorem LBx.below (k : LBx t g F R H A n cap w) (b : Below w.heap.size w w') : LBx t g F R H A n cap w' := (b.block g k.lt).trans k
theorem LBx.on {c : Nat} (k : LBx t g F R H A n cap w) (b : Below c w w') (hg : g < c) : LBx t g F R H A n cap w' := (b.block g hg).trans k
end
theorem LBx.new (t : TypeId) (F R : Int) (H : ByteArray) (A : Option Addr) (n cap : Nat) (w : World) : LBx t w.heap.size F R H A n cap (w.alloc (.cells #[.int .i64 F, .int .i64 R, .string H, .slice A n cap] t)) := heap_alloc_new _ _
abbrev iv (K : ByteArray) (O : Bool) (S : ByteArray) (L P : Int) : Value := .agg #[.string K, .bool O, .string S, .int .i64 L, .int .i64 P]
def IBx (t : TypeId) (g : Nat) (K : ByteArray) (O : Bool) (S : ByteArray) (L P : Int) (w : World) : Prop := w.heap[g]? = some (.cells #[.string K, .bool O, .string S, .int .i64 L, .int .i64 P] t (0, 0))
section
variable {t : TypeId} {g : Nat} {K : ByteArray} {O : Bool} {S : ByteArray} {L P : Int} {w w' : World}
theorem IBx.cells (k : IBx t g K O S L P w) : w.cell? ⟨g, 0, none⟩ = some (.string K) ∧ w.cell? ⟨g, 1, none⟩ = some (.bool O) ∧ w.cell? ⟨g, 2, none⟩ = some (.string S) ∧ w.cell? ⟨g, 3, none⟩ = some (.int .i64 L) ∧ w.cell? ⟨g, 4, none⟩ = some (.int .i64 P) := by
 unfold IBx at k
 refine ⟨?_, ?_, ?_, ?_, ?_⟩ <;> simp [World.cell?, k]
theorem IBx.free (k : IBx t g K O S L P w) : w.frozen? ⟨g, 0, none⟩ = false ∧ w.frozen? ⟨g, 1, none⟩ = false ∧ w.frozen? ⟨g, 2, none⟩ = false ∧ w.frozen? ⟨g, 3, none⟩ = false ∧ w.frozen? ⟨g, 4, none⟩ = false := by
 unfold IBx at k
 refine ⟨?_, ?_, ?_, ?_, ?_⟩ <;> simp [World.frozen?, k]
theorem IBx.lt (k : IBx t g K O S L P w) : g < w.heap.size := (Array.getElem?_eq_some_iff.1 k).1
theorem IBx.below (k : IBx t g K O S L P w) (b : Below w.heap.size w w') : IBx t g K O S L P w' := (b.block g k.lt).trans k
end
theorem IBx.new (t : TypeId) (K : ByteArray) (O : Bool) (S : ByteArray) (L P : Int) (w : World) : IBx t w.heap.size K O S L P (w.alloc (.cells #[.string K, .bool O, .string S, .int .i64 L, .int .i64 P] t)) := heap_alloc_new _ _
def setI (w : World) (g : Nat) (K : ByteArray) (O : Bool) (S : ByteArray) (L P : Int) : World := ((((w.setCell ⟨g, 0, none⟩ (.string K)).setCell ⟨g, 1, none⟩ (.bool O)).setCell ⟨g, 2, none⟩ (.string S)).setCell ⟨g, 3, none⟩ (.int .i64 L)).setCell ⟨g, 4, none⟩ (.int .i64 P)
theorem setI_box {t : TypeId} {w : World} {g : Nat} {K : ByteArray} {O : Bool} {S : ByteArray} {L P : Int} (k : IBx t g K O S L P w) (K' : ByteArray) (O' : Bool) (S' : ByteArray) (L' P' : Int) : IBx t g K' O' S' L' P' (setI w g K' O' S' L' P') := by
 unfold IBx at *; unfold setI; have h0 := heap_setCell_same w g 0 _ _ (.string K') k; have h1 := heap_setCell_same _ g 1 _ _ (.bool O') h0; have h2 := heap_setCell_same _ g 2 _ _ (.string S') h1; have h3 := heap_setCell_same _ g 3 _ _ (.int .i64 L') h2; have h4 := heap_setCell_same _ g 4 _ _ (.int .i64 P') h3; exact h4
theorem setI_below {w W : World} {c g : Nat} (h : Below c w W) (hg : c ≤ g) (K : ByteArray) (O : Bool) (S : ByteArray) (L P : Int) : Below c w (setI W g K O S L P) :=
 ((((h.setCell (p := ⟨g, 0, none⟩) hg _).setCell (p := ⟨g, 1, none⟩) hg _).setCell (p := ⟨g, 2, none⟩) hg _).setCell (p := ⟨g, 3, none⟩) hg _).setCell (p := ⟨g, 4, none⟩) hg _
abbrev lbox (t : TypeId) (F R : Int) (H : ByteArray) (A : Option Addr) (n cap : Nat) (w : World) : World := w.alloc (.cells #[.int .i64 F, .int .i64 R, .string H, .slice A n cap] t)
theorem lbox_size (t : TypeId) (F R : Int) (H : ByteArray) (A : Option Addr) (n cap : Nat) (w : World) : (lbox t F R H A n cap w).heap.size = w.heap.size + 1 := by simp [lbox]
theorem lbox_below (t : TypeId) (F R : Int) (H : ByteArray) (A : Option Addr) (n cap : Nat) (w : World) : Below w.heap.size w (lbox t F R H A n cap w) := L5.below_alloc _ _
theorem lbox_new (t : TypeId) (F R : Int) (H : ByteArray) (A : Option Addr) (n cap : Nat) (w : World) : LBx t w.heap.size F R H A n cap (lbox t F R H A n cap w) := heap_alloc_new _ _
end Go.Proofs.YtpeghilfldpgfaaGreatDoor.L10
namespace Go.Proofs.YtpeghilfldpgfaaGreatDoor.L12
open Go.RowKit CP
abbrev cv (F N : Int) (D : ByteArray) : Value := .agg #[.int .i64 F, .int .i64 N, .string D]
abbrev cv0 : Value := .agg #[.int .i64 0, .int .i64 0, .string ⟨#[]⟩]
def Cx (t : TypeId) (g : Nat) (F N : Int) (D : ByteArray) (w : World) : Prop := w.heap[g]? = some (.cells #[.int .i64 F, .int .i64 N, .string D] t (0, 0))
section
variable {t : TypeId} {g : Nat} {F N : Int} {D : ByteArray} {w w' : World}
theorem Cx.cells (k : Cx t g F N D w) : w.cell? ⟨g, 0, none⟩ = some (.int .i64 F) ∧ w.cell? ⟨g, 1, none⟩ = some (.int .i64 N) ∧ w.cell? ⟨g, 2, none⟩ = some (.string D) := by
 unfold Cx at k
 refine ⟨?_, ?_, ?_⟩ <;> simp [World.cell?, k]
theorem Cx.free (k : Cx t g F N D w) : w.frozen? ⟨g, 0, none⟩ = false ∧ w.frozen? ⟨g, 1, none⟩ = false ∧ w.frozen? ⟨g, 2, none⟩ = false := by
 unfold Cx at k
 refine ⟨?_, ?_, ?_⟩ <;> simp [World.frozen?, k]
theorem Cx.lt (k : Cx t g F N D w) : g < w.heap.size := (Array.getElem?_eq_some_iff.1 k).1
theorem Cx.below (k : Cx t g F N D w) (b : Below w.heap.size w w') : Cx t g F N D w' := (b.block g k.lt).trans k
theorem Cx.set0 (k : Cx t g F N D w) (F' : Int) : Cx t g F' N D (w.setCell ⟨g, 0, none⟩ (.int .i64 F')) := by
 unfold Cx at *; exact heap_setCell_same w g 0 _ _ (.int .i64 F') k
theorem Cx.set1 (k : Cx t g F N D w) (N' : Int) : Cx t g F N' D (w.setCell ⟨g, 1, none⟩ (.int .i64 N')) := by
 unfold Cx at *; exact heap_setCell_same w g 1 _ _ (.int .i64 N') k
theorem Cx.set2 (k : Cx t g F N D w) (D' : ByteArray) : Cx t g F N D' (w.setCell ⟨g, 2, none⟩ (.string D')) := by
 unfold Cx at *; exact heap_setCell_same w g 2 _ _ (.string D') k
end
abbrev cbox (t : TypeId) (F N : Int) (D : ByteArray) (w : World) : World := w.alloc (.cells #[.int .i64 F, .int .i64 N, .string D] t)
theorem cbox_size (t : TypeId) (F N : Int) (D : ByteArray) (w : World) : (cbox t F N D w).heap.size = w.heap.size + 1 := by simp [cbox]
theorem cbox_below (t : TypeId) (F N : Int) (D : ByteArray) (w : World) : Below w.heap.size w (cbox t F N D w) := L5.below_alloc _ _
theorem cbox_new (t : TypeId) (F N : Int) (D : ByteArray) (w : World) : Cx t w.heap.size F N D (cbox t F N D w) := heap_alloc_new _ _
def setC (w : World) (g : Nat) (F N : Int) (D : ByteArray) : World := ((w.setCell ⟨g, 0, none⟩ (.int .i64 F)).setCell ⟨g, 1, none⟩ (.int .i64 N)).setCell ⟨g, 2, none⟩ (.string D)
theorem setC_box {t : TypeId} {w : World} {g : Nat} {F N : Int} {D : ByteArray} (k : Cx t g F N D w) (F' N' : Int) (D' : ByteArray) : Cx t g F' N' D' (setC w g F' N' D') := ((k.set0 F').set1 N').set2 D'
theorem setC_below {w W : World} {c g : Nat} (h : Below c w W) (hg : c ≤ g) (F N : Int) (D : ByteArray) : Below c w (setC W g F N D) :=
 ((h.setCell (p := ⟨g, 0, none⟩) hg _).setCell (p := ⟨g, 1, none⟩) hg _).setCell (p := ⟨g, 2, none⟩) hg _
end Go.Proofs.YtpeghilfldpgfaaGreatDoor.L12
namespace Go.Proofs.YtpeghilfldpgfaaGreatDoor.L13
open Go.RowKit
abbrev mv (P G R L C : Int) : Value := .agg #[.int .i64 P, .int .i64 G, .int .i64 R, .int .i64 L, .int .i64 C]
def Mx (t : TypeId) (g : Nat) (P G R L C : Int) (w : World) : Prop := w.heap[g]? = some (.cells #[.int .i64 P, .int .i64 G, .int .i64 R, .int .i64 L, .int .i64 C] t (0, 0))
section
variable {t : TypeId} {g : Nat} {P G R L C : Int} {w w' : World}
theorem Mx.cells (k : Mx t g P G R L C w) : w.cell? ⟨g, 0, none⟩ = some (.int .i64 P) ∧ w.cell? ⟨g, 1, none⟩ = some (.int .i64 G) ∧ w.cell? ⟨g, 2, none⟩ = some (.int .i64 R) ∧ w.cell? ⟨g, 3, none⟩ = some (.int .i64 L) ∧ w.cell? ⟨g, 4, none⟩ = some (.int .i64 C) := by
 unfold Mx at k
 refine ⟨?_, ?_, ?_, ?_, ?_⟩ <;> simp [World.cell?, k]
theorem Mx.free (k : Mx t g P G R L C w) : w.frozen? ⟨g, 0, none⟩ = false ∧ w.frozen? ⟨g, 1, none⟩ = false ∧ w.frozen? ⟨g, 2, none⟩ = false ∧ w.frozen? ⟨g, 3, none⟩ = false ∧ w.frozen? ⟨g, 4, none⟩ = false := by
 unfold Mx at k
 refine ⟨?_, ?_, ?_, ?_, ?_⟩ <;> simp [World.frozen?, k]
theorem Mx.lt (k : Mx t g P G R L C w) : g < w.heap.size := (Array.getElem?_eq_some_iff.1 k).1
theorem Mx.below (k : Mx t g P G R L C w) (b : Below w.heap.size w w') : Mx t g P G R L C w' := (b.block g k.lt).trans k
theorem Mx.set0 (k : Mx t g P G R L C w) (v : Int) : Mx t g v G R L C (w.setCell ⟨g, 0, none⟩ (.int .i64 v)) := by
 unfold Mx at *; exact heap_setCell_same w g 0 _ _ (.int .i64 v) k
theorem Mx.set1 (k : Mx t g P G R L C w) (v : Int) : Mx t g P v R L C (w.setCell ⟨g, 1, none⟩ (.int .i64 v)) := by
 unfold Mx at *; exact heap_setCell_same w g 1 _ _ (.int .i64 v) k
theorem Mx.set2 (k : Mx t g P G R L C w) (v : Int) : Mx t g P G v L C (w.setCell ⟨g, 2, none⟩ (.int .i64 v)) := by
 unfold Mx at *; exact heap_setCell_same w g 2 _ _ (.int .i64 v) k
theorem Mx.set3 (k : Mx t g P G R L C w) (v : Int) : Mx t g P G R v C (w.setCell ⟨g, 3, none⟩ (.int .i64 v)) := by
 unfold Mx at *; exact heap_setCell_same w g 3 _ _ (.int .i64 v) k
theorem Mx.set4 (k : Mx t g P G R L C w) (v : Int) : Mx t g P G R L v (w.setCell ⟨g, 4, none⟩ (.int .i64 v)) := by
 unfold Mx at *; exact heap_setCell_same w g 4 _ _ (.int .i64 v) k
theorem Mx.other {q o : Nat} (k : Mx t g P G R L C w) (hq : g ≠ q) (v : Value) : Mx t g P G R L C (w.setCell ⟨q, o, none⟩ v) := by
 unfold Mx at *; rw [Below.heap_setCell w ⟨q, o, none⟩ v g hq]; exact k
end
abbrev mbox (t : TypeId) (P G R L C : Int) (w : World) : World := w.alloc (.cells #[.int .i64 P, .int .i64 G, .int .i64 R, .int .i64 L, .int .i64 C] t)
theorem mbox_size (t : TypeId) (P G R L C : Int) (w : World) : (mbox t P G R L C w).heap.size = w.heap.size + 1 := by simp [mbox]
theorem mbox_below (t : TypeId) (P G R L C : Int) (w : World) : Below w.heap.size w (mbox t P G R L C w) := (Below.refl _ w).alloc (Nat.le_refl _) _
theorem mbox_new (t : TypeId) (P G R L C : Int) (w : World) : Mx t w.heap.size P G R L C (mbox t P G R L C w) := heap_alloc_new _ _
def setM (w : World) (g : Nat) (P G R L C : Int) : World := ((((w.setCell ⟨g, 0, none⟩ (.int .i64 P)).setCell ⟨g, 1, none⟩ (.int .i64 G)).setCell ⟨g, 2, none⟩ (.int .i64 R)).setCell ⟨g, 3, none⟩ (.int .i64 L)).setCell ⟨g, 4, none⟩ (.int .i64 C)
theorem setM_box {t : TypeId} {w : World} {g : Nat} {P G R L C : Int} (k : Mx t g P G R L C w) (P' G' R' L' C' : Int) : Mx t g P' G' R' L' C' (setM w g P' G' R' L' C') := ((((k.set0 P').set1 G').set2 R').set3 L').set4 C'
theorem setM_below {w W : World} {c g : Nat} (h : Below c w W) (hg : c ≤ g) (P G R L C : Int) : Below c w (setM W g P G R L C) :=
 ((((h.setCell (p := ⟨g, 0, none⟩) hg _).setCell (p := ⟨g, 1, none⟩) hg _).setCell (p := ⟨g, 2, none⟩) hg _).setCell (p := ⟨g, 3, none⟩) hg _).setCell (p := ⟨g, 4, none⟩) hg _
end Go.Proofs.YtpeghilfldpgfaaGreatDoor.L13
namespace Go.Proofs.YtpeghilfldpgfaaGreatDoor
open Go.RowKit
structure LV where
 F : Int
 R : Int
 H : ByteArray
 A : Option Addr
 n : Nat
 ca : Nat
structure NV where
 F : Int
 L : Int
 R : Int
 H : ByteArray
 A : Option Addr
 n : Nat
 ca : Nat
 C : Option Addr
 m : Nat
 cb : Nat
structure CV where
 F : Int
 N : Int
 D : ByteArray
abbrev Mv := L13.MP.Mt
abbrev LV0 : LV := ⟨0, 0, ⟨#[]⟩, none, 0, 0⟩
abbrev NV0 : NV := ⟨0, 0, 0, ⟨#[]⟩, none, 0, 0, none, 0, 0⟩
abbrev CV0 : CV := ⟨0, 0, ⟨#[]⟩⟩
abbrev Mv0 : Mv := ⟨0, 0, 0, 0, 0⟩
abbrev gv (k : Int) (a : LV) (b : NV) (c : CV) (m : Mv) : Value := .agg #[.int .i64 k, .int .i64 a.F, .int .i64 a.R, .string a.H, .slice a.A a.n a.ca, .int .i64 b.F, .int .i64 b.L, .int .i64 b.R, .string b.H, .slice b.A b.n b.ca, .slice b.C b.m b.cb, .int .i64 c.F, .int .i64 c.N, .string c.D, .int .i64 m.p, .int .i64 m.pg, .int .i64 m.r, .int .i64 m.l, .int .i64 m.n]
def Gx (t : TypeId) (g : Nat) (k : Int) (a : LV) (b : NV) (c : CV) (m : Mv) (w : World) : Prop := w.heap[g]? = some (.cells #[.int .i64 k, .int .i64 a.F, .int .i64 a.R, .string a.H, .slice a.A a.n a.ca, .int .i64 b.F, .int .i64 b.L, .int .i64 b.R, .string b.H, .slice b.A b.n b.ca, .slice b.C b.m b.cb, .int .i64 c.F, .int .i64 c.N, .string c.D, .int .i64 m.p, .int .i64 m.pg, .int .i64 m.r, .int .i64 m.l, .int .i64 m.n] t (0, 0))
section
variable {t : TypeId} {g : Nat} {k : Int} {a : LV} {b : NV} {c : CV} {m : Mv} {w w' : World}
theorem Gx.cells (h : Gx t g k a b c m w) : w.cell? ⟨g, 0, none⟩ = some (.int .i64 k) ∧ w.cell? ⟨g, 1, none⟩ = some (.int .i64 a.F) ∧ w.cell? ⟨g, 2, none⟩ = some (.int .i64 a.R) ∧ w.cell? ⟨g, 3, none⟩ = some (.string a.H) ∧ w.cell? ⟨g, 4, none⟩ = some (.slice a.A a.n a.ca) ∧ w.cell? ⟨g, 5, none⟩ = some (.int .i64 b.F) ∧ w.cell? ⟨g, 6, none⟩ = some (.int .i64 b.L) ∧ w.cell? ⟨g, 7, none⟩ = some (.int .i64 b.R) ∧ w.cell? ⟨g, 8, none⟩ = some (.string b.H) ∧ w.cell? ⟨g, 9, none⟩ = some (.slice b.A b.n b.ca) ∧ w.cell? ⟨g, 10, none⟩ = some (.slice b.C b.m b.cb) ∧ w.cell? ⟨g, 11, none⟩ = some (.int .i64 c.F) ∧ w.cell? ⟨g, 12, none⟩ = some (.int .i64 c.N) ∧ w.cell? ⟨g, 13, none⟩ = some (.string c.D) ∧ w.cell? ⟨g, 14, none⟩ = some (.int .i64 m.p) ∧ w.cell? ⟨g, 15, none⟩ = some (.int .i64 m.pg) ∧ w.cell? ⟨g, 16, none⟩ = some (.int .i64 m.r) ∧ w.cell? ⟨g, 17, none⟩ = some (.int .i64 m.l) ∧ w.cell? ⟨g, 18, none⟩ = some (.int .i64 m.n) := by
 unfold Gx at h
 refine ⟨?_, ?_, ?_, ?_, ?_, ?_, ?_, ?_, ?_, ?_, ?_, ?_, ?_, ?_, ?_, ?_, ?_, ?_, ?_⟩ <;> simp [World.cell?, h]
theorem Gx.lt (h : Gx t g k a b c m w) : g < w.heap.size := (Array.getElem?_eq_some_iff.1 h).1
theorem Gx.below (h : Gx t g k a b c m w) (l : Below w.heap.size w w') : Gx t g k a b c m w' := (l.block g h.lt).trans h
end
abbrev gbox (t : TypeId) (k : Int) (a : LV) (b : NV) (c : CV) (m : Mv) (w : World) : World := w.alloc (.cells #[.int .i64 k, .int .i64 a.F, .int .i64 a.R, .string a.H, .slice a.A a.n a.ca, .int .i64 b.F, .int .i64 b.L, .int .i64 b.R, .string b.H, .slice b.A b.n b.ca, .slice b.C b.m b.cb, .int .i64 c.F, .int .i64 c.N, .string c.D, .int .i64 m.p, .int .i64 m.pg, .int .i64 m.r, .int .i64 m.l, .int .i64 m.n] t)
theorem gbox_size (t : TypeId) (k : Int) (a : LV) (b : NV) (c : CV) (m : Mv) (w : World) : (gbox t k a b c m w).heap.size = w.heap.size + 1 := by simp [gbox]
theorem gbox_below (t : TypeId) (k : Int) (a : LV) (b : NV) (c : CV) (m : Mv) (w : World) : Below w.heap.size w (gbox t k a b c m w) := (Below.refl _ w).alloc (Nat.le_refl _) _
theorem gbox_new (t : TypeId) (k : Int) (a : LV) (b : NV) (c : CV) (m : Mv) (w : World) : Gx t w.heap.size k a b c m (gbox t k a b c m w) := heap_alloc_new _ _
def setG (w : World) (g : Nat) (k : Int) (a : LV) (b : NV) (c : CV) (m : Mv) : World := w.setRow g #[.int .i64 k, .int .i64 a.F, .int .i64 a.R, .string a.H, .slice a.A a.n a.ca, .int .i64 b.F, .int .i64 b.L, .int .i64 b.R, .string b.H, .slice b.A b.n b.ca, .slice b.C b.m b.cb, .int .i64 c.F, .int .i64 c.N, .string c.D, .int .i64 m.p, .int .i64 m.pg, .int .i64 m.r, .int .i64 m.l, .int .i64 m.n]
theorem setG_box {t : TypeId} {w : World} {g : Nat} {k : Int} {a : LV} {b : NV} {c : CV} {m : Mv} (h : Gx t g k a b c m w) (k' : Int) (a' : LV) (b' : NV) (c' : CV) (m' : Mv) : Gx t g k' a' b' c' m' (setG w g k' a' b' c' m') := setRow_heap _ _ _ _ t (0, 0) h
theorem setG_heap {w : World} {g q : Nat} (h : q ≠ g) (k : Int) (a : LV) (b : NV) (c : CV) (m : Mv) : (setG w g k a b c m).heap[q]? = w.heap[q]? := setRow_other _ _ _ _ h
theorem setG_size (w : World) (g : Nat) (k : Int) (a : LV) (b : NV) (c : CV) (m : Mv) : (setG w g k a b c m).heap.size = w.heap.size := by simp [setG]
theorem setG_below {w W : World} {q g : Nat} (h : Below q w W) (hg : q ≤ g) (k : Int) (a : LV) (b : NV) (c : CV) (m : Mv) : Below q w (setG W g k a b c m) :=
 h.trans ⟨rfl, rfl, rfl, by rw [setG_size]; exact Nat.le_refl _, fun i hi => setG_heap (by omega) k a b c m⟩
theorem Tryz.sizeG : (Tryz.prog.info? 35).map (·.size) = some 19 := by kernel_rfl
theorem Tryz.sizeGD : (Tryz.prog.info? 46).map (·.size) = some 19 := by kernel_rfl
theorem store_page {ops : Array Oper} {rest : List Oper} {o : Oper} {q : Act} {w : World} {Q : Exit → Act → World → Prop} {ty : TypeId} (hi : (Tryz.prog.info? ty).map (·.size) = some 19) (hgd : o.guard = none) (x y : Operand) (ho : o.op = .store ty x y)
  (g : Nat) (k : Int) (a : LV) (b : NV) (c : CV) (m : Mv) (hx : q.eval x = .pointer (some ⟨g, 0, none⟩)) (hy : q.eval y = gv k a b c m) {t : TypeId} {k0 : Int} {a0 : LV} {b0 : NV} {c0 : CV} {m0 : Mv} (hg : Gx t g k0 a0 b0 c0 m0 w)
  (h : wpList Tryz.prog ops Q rest (q.put o.dst undef) (setG w g k a b c m)) : wpList Tryz.prog ops Q (o :: rest) q w :=
 wpList_store_row hgd ty x y ho g _ hx hy t _ hg hi rfl (by simp [Value.oneCell']) h
theorem load_pageP {w : World} {t : TypeId} {g : Nat} {k : Int} {a : LV} {b : NV} {c : CV} {m : Mv} (hg : Gx t g k a b c m w) : (loadVar 35 ⟨g, 0, none⟩).run Tryz.prog w = .ok (gv k a b c m) w := run_loadVar_row w g t _ _ (0, 0) _ hg Tryz.underlying35 rfl Tryz.sizeG
theorem load_pageD {w : World} {t : TypeId} {g : Nat} {k : Int} {a : LV} {b : NV} {c : CV} {m : Mv} (hg : Gx t g k a b c m w) : (loadVar 46 ⟨g, 0, none⟩).run Tryz.prog w = .ok (gv k a b c m) w := run_loadVar_row w g t _ _ (0, 0) _ hg Tryz.underlying46 rfl Tryz.sizeGD
theorem load_wanted {ops : Array Oper} {rest : List Oper} {o : Oper} {q : Act} {w : World} {Q : Exit → Act → World → Prop} {ty : TypeId} {d : TypeDesc} (hu : Tryz.prog.underlying ty = some d) (hd : (match d with | .struct _ | .array _ _ => true | _ => false) = true) (hi : (Tryz.prog.info? ty).map (·.size) = some 19)
  (hw : Region.wanted o (yielded ops q.tmps) = true) (x : Operand) (ho : o.op = .load ty x) (g : Nat) (hx : q.eval x = .pointer (some ⟨g, 0, none⟩)) {t : TypeId} {k : Int} {a : LV} {b : NV} {c : CV} {m : Mv} (hg : Gx t g k a b c m w)
  (h : wpList Tryz.prog ops Q rest (q.put o.dst (gv k a b c m)) w) : wpList Tryz.prog ops Q (o :: rest) q w :=
 wpList_step fun K hK => by rw [if_pos hw]; exact wp_load_row ty x ho g hx t _ (0, 0) d hg hu (by revert hd; cases d <;> simp) hi (hK _ _ h)
theorem results_two {fn : Func} {tmps : Array Value} {w : World} {i j : Nat} {ty : TypeId} {a : Addr} {v : Value} (hr : fn.results = #[.cell i ty, .tmp j]) (hi : tmps.getD i undef = .pointer (some a)) (hl : (loadVar ty a).run Tryz.prog w = .ok v w) :
  (results fn tmps).run Tryz.prog w = .ok (.tuple #[v, tmps.getD j undef]) w := by
 have hi' : tmps[i]?.getD undef = .pointer (some a) := by simpa using hi
 unfold results; rw [hr]; simp [hi', hl, asAddr]
theorem results_one {fn : Func} {tmps : Array Value} {w : World} {i : Nat} {ty : TypeId} {a : Addr} {v : Value} (hr : fn.results = #[.cell i ty]) (hi : tmps.getD i undef = .pointer (some a)) (hl : (loadVar ty a).run Tryz.prog w = .ok v w) :
  (results fn tmps).run Tryz.prog w = .ok v w := by
 have hi' : tmps[i]?.getD undef = .pointer (some a) := by simpa using hi
 unfold results; rw [hr]; simp [hi', hl, asAddr]
structure HasL (w : World) (a : LV) (l : L10.NP.Lf) : Prop where
 f : a.F = l.self
 r : a.R = l.right
 h : a.H = l.high
 n : a.n = l.items.length
 rows : L10.Lies5 w w.heap.size a.A l.items
structure HasN (w : World) (b : NV) (x : L11.IP.Inn) : Prop where
 f : b.F = x.self
 l : b.L = x.level
 r : b.R = x.right
 h : b.H = x.high
 rows : L11.Rows2 w b.A b.n b.ca b.C b.m b.cb x.kids x.seps
structure HasG (w : World) (k : Int) (a : LV) (b : NV) (c : CV) (m : Mv) (x : GP.Pg) : Prop where
 kind : k = x.k
 l : HasL w a x.l
 n : HasN w b x.n
 c : (c.F, c.N, c.D) = x.c
 m : m = x.m
theorem HasL.on {w w' : World} {a : LV} {l : L10.NP.Lf} (h : HasL w a l) (k : Below w.heap.size w w') : HasL w' a l := ⟨h.f, h.r, h.h, h.n, h.rows.on k⟩
theorem HasN.on {w w' : World} {b : NV} {x : L11.IP.Inn} (h : HasN w b x) (k : Below w.heap.size w w') : HasN w' b x := ⟨h.f, h.l, h.r, h.h, h.rows.on k⟩
theorem HasG.on {w w' : World} {k : Int} {a : LV} {b : NV} {c : CV} {m : Mv} {x : GP.Pg} (h : HasG w k a b c m x) (l : Below w.heap.size w w') : HasG w' k a b c m x := ⟨h.kind, h.l.on l, h.n.on l, h.c, h.m⟩
theorem hasL0 (w : World) : HasL w LV0 L10.NP.Lf0 := ⟨rfl, rfl, rfl, rfl, L10.Lies5.nil _ _ _⟩
theorem hasN0 (w : World) : HasN w NV0 L11.IP.In0 := ⟨rfl, rfl, rfl, rfl, ⟨fun i c h => by simp [L11.IP.In0] at h, L5.Lies.nil _ _ _, rfl, rfl, Nat.le_refl _, Nat.le_refl _⟩⟩
theorem hasG0 (w : World) : HasG w 0 LV0 NV0 CV0 Mv0 GP.Pg0 := ⟨rfl, hasL0 w, hasN0 w, rfl, rfl⟩
end Go.Proofs.YtpeghilfldpgfaaGreatDoor
namespace Go.Proofs.YtpeghilfldpgfaaGreatDoor.L9
open Go.RowKit
theorem rfollow_any (b : Int) (w : World) (h0 : 0 ≤ b) (h1 : b ≤ 255) :
  Calls Tryz.prog 182 #[.int .u8 b] w fun e w' => e = .returned (.int .i64 (WP.flw b)) ∧ w = w' := by
 go_enter Tryz.func182, Tryz.ntmps182
 go_wp2
 all_goals
  go_ret; refine ⟨ret_int ?_, rfl⟩; try simp only [beq_iff_eq, beq_eq_false_iff_ne, ne_eq] at *
  unfold WP.flw
  (repeat' split) <;> omega
def byteCells (l : List UInt8) : List Value := l.map fun b => .int .u8 b.toNat
theorem leBytes_snoc : ∀ (k v : Nat), Lib.leBytes (k + 1) v = Lib.leBytes k v ++ [(v / 256 ^ k % 256).toUInt8]
 | 0, v => by simp [Lib.leBytes]
 | k + 1, v => by
  have h := leBytes_snoc k (v / 256); rw [show Lib.leBytes (k + 1 + 1) v = (v % 256).toUInt8 :: Lib.leBytes (k + 1) (v / 256) from rfl, h, Nat.div_div_eq_div_mul, Nat.pow_succ, Nat.mul_comm 256]; rfl
theorem beBytes_succ (k v : Nat) : Lib.beBytes (k + 1) v = (v / 256 ^ k % 256).toUInt8 :: Lib.beBytes k v := by
 unfold Lib.beBytes; rw [leBytes_snoc]; simp
theorem own_new {w : World} {base : Nat} {t : TypeId} (c : Value) (h : base ≤ w.heap.size) : (w.alloc (.cells #[c] t)).ownsRow base t 1 (.slice (some ⟨w.heap.size, 0, none⟩) 1 1) 1 [c] :=
 ⟨rfl, .inr ⟨w.heap.size, 1, #[c], rfl, h, heap_alloc_new _ _, Nat.le_refl _, by unfold maxLen; omega, rfl, rfl⟩⟩
theorem own_none {w : World} {base : Nat} {t : TypeId} (h : base ≤ w.heap.size) : (w.alloc (.cells #[] t)).ownsRow base t 1 (.slice (some ⟨w.heap.size, 0, none⟩) 0 0) 0 [] :=
 ⟨rfl, .inr ⟨w.heap.size, 0, #[], rfl, h, heap_alloc_new _ _, Nat.le_refl _, by unfold maxLen; omega, rfl, rfl⟩⟩
theorem own_shape {w : World} {base : Nat} {t : TypeId} {v : Value} {n : Nat} {xs : List Value} (h : w.ownsRow base t 1 v n xs) (h0 : 0 < n) : ∃ g cap, v = .slice (some ⟨g, 0, none⟩) n cap ∧ base ≤ g := by
 rcases h.2 with ⟨_, h⟩ | ⟨g, cap, _, h, hb, _⟩
 ·omega
 ·exact ⟨g, cap, h, hb⟩
theorem bl_of_div (n k : Nat) (hn : n ≤ 18446744073709551615) (hk : 0 < k) (h1 : 0 < n / 256 ^ (k - 1)) (h2 : n / 256 ^ k = 0) : k = WP.bl n := by
 have hp : 0 < 256 ^ k := Nat.pow_pos (by omega)
 have hlt : n < 256 ^ k := by rcases Nat.lt_or_ge n (256 ^ k) with h | h; exact h; have := Nat.div_pos h hp; omega
 have hge : 256 ^ (k - 1) ≤ n := by rcases Nat.lt_or_ge n (256 ^ (k - 1)) with h | h; rw [Nat.div_eq_of_lt h] at h1; omega; exact h
 have hk8 : k ≤ 8 := by
  rcases Nat.lt_or_ge 8 k with h | h
  ·have : 256 ^ 8 ≤ 256 ^ (k - 1) := Nat.pow_le_pow_right (by omega) (by omega)
   omega
  ·exact h
 unfold WP.bl; rcases (show k = 1 ∨ k = 2 ∨ k = 3 ∨ k = 4 ∨ k = 5 ∨ k = 6 ∨ k = 7 ∨ k = 8 by omega) with rfl | rfl | rfl | rfl | rfl | rfl | rfl | rfl
 all_goals
  simp only [Nat.reduceSub, Nat.reducePow, Nat.pow_zero] at hge hlt
  (repeat' split) <;> omega
theorem digits_any (n : Nat) (w : World) (h0 : 0 < n) (h1 : n ≤ 18446744073709551615) :
  Calls Tryz.prog 206 #[.int .u64 n] w fun e w' => ∃ g cap, e = .returned (.slice (some ⟨g, 0, none⟩) (WP.bl n) cap) ∧ w'.ownsRow w.heap.size 5 1 (.slice (some ⟨g, 0, none⟩) (WP.bl n) cap) (WP.bl n) (byteCells (Lib.beBytes (WP.bl n) n)) ∧ Below w.heap.size w w' := by
 obtain ⟨i0, hi, hz0, hz1, hz2⟩ := info_parts Tryz.infoU8; go_enter Tryz.func206, Tryz.ntmps206; go_wp2_with fail
 go_loopw [0, 3] (fun nv out wr => ∃ (k g cap : Nat), k ≤ 8 ∧ nv = .int .u64 (n / 256 ^ k : Nat) ∧ out = .slice (some ⟨g, 0, none⟩) k cap ∧ wr.ownsRow w.heap.size 5 1 (.slice (some ⟨g, 0, none⟩) k cap) k (byteCells (Lib.beBytes k n)) ∧ Below w.heap.size w wr ∧ Hid (k = 0 ∨ 0 < n / 256 ^ (k - 1))) (fun nv _ _ => (intOf nv).toNat)
 case atStart => exact ⟨0, w.heap.size, 0, by omega, by simp, rfl, own_none (Nat.le_refl _), (Below.refl _ w).alloc (Nat.le_refl _) _, zj (.inl rfl)⟩
 case round =>
  obtain ⟨k, g, cap, hk, rfl, rfl, hown, hb, hpos⟩ := hrel; by_cases hlt : 0 < n / 256 ^ k
  ·have hk7 : k ≤ 7 := by
    rcases Nat.lt_or_ge k 8 with h | h
    ·omega
    ·obtain rfl : k = 8 := by omega
     omega
   have HB := zj (beBytes_succ k n); have HD : Hid (n / 256 ^ (k + 1) = n / 256 ^ k / 256) := zj (by rw [Nat.pow_succ, Nat.div_div_eq_div_mul]); have hbs := hb.size; have HP : Hid (0 < n / 256 ^ (k + 1 - 1)) := zj (by rw [Nat.add_sub_cancel]; exact hlt); have hvn : n / 256 ^ k ≤ n := Nat.div_le_self _ _
   have hlen : (byteCells (Lib.beBytes k n)).length = k * 1 := by simp [byteCells, Lib.beBytes_length]
   have hone : ∀ u ∈ byteCells (Lib.beBytes k n), u.oneCell' = true := by
    intro u hu; simp only [byteCells, List.mem_map] at hu; obtain ⟨b, _, rfl⟩ := hu; rfl
   have hcells : ∀ (c : Value) (j : Nat) (u : Value), (byteCells (Lib.beBytes k n))[j]? = some u → (wr.alloc (.cells #[c] 5)).cell? ((⟨g, 0, none⟩ : Addr).add j) = some u := by
    intro c j u hj
    have hjl : j < k := by
     have := (List.getElem?_eq_some_iff.1 hj).1; rw [hlen] at this; omega
    rw [addr_at, (hown.alloc _).cellAt j (by omega), hj]
   have HLen := zj hlen; have HOne := zj hone; have HCells := zj hcells; clear hlen hone hcells; generalize n / 256 ^ k = v at *; go_wp2_with (at_builtin; refine wpList_append_own _ rfl _ _ 86 rfl w.heap.size 5 i0 (.int .u8 0) 1 1 Tryz.underlying86 hi hz0 hz1 hz2 rfl (by decide) _ 1 _ rfl (own_new _ hbs) ⟨g, 0, none⟩ k cap _ rfl HLen.out (HCells.out _) HOne.out (by unfold maxLen; omega) (by omega) (by simp; omega) ?_; intro v' w1 hown' hgrow hnil); obtain ⟨g', cap', rfl, hg'⟩ := own_shape hown' (by omega)
   go_roundw
   case rel =>
    refine ⟨k + 1, g', cap', by omega, ?_, ?_, ?_, ?_, zj (.inr HP.out)⟩
    ·rw [HD.out]; go_num
    ·rw [Nat.add_comm]
    ·rw [HB.out, Nat.add_comm k 1]
     have hbc : byteCells ((v % 256).toUInt8 :: Lib.beBytes k n) = [Value.int .u8 ((v : Int) % 256)] ++ byteCells (Lib.beBytes k n) := by
      simp only [byteCells, List.map_cons, Lib.toUInt8_mod]; rfl
     rw [hbc]; exact hown'
    ·exact (hb.alloc hbs _).grown hgrow (by simp; omega) (by intro q hq; cases hq; exact hbs)
   case measure => simp [intOf]; omega
  ·have hz : n / 256 ^ k = 0 := Nat.eq_zero_of_not_pos hlt
   have HZ := zj hz; rw [hz]; clear hz hlt; go_wp2_with fail; go_ret
   obtain ⟨hkp, hkk⟩ : 0 < k ∧ 0 < n / 256 ^ (k - 1) := by
    rcases hpos.out with h | h
    ·subst h; have := HZ.out; simp at this; omega
    ·rcases Nat.eq_zero_or_pos k with e | e
     ·subst e; have := HZ.out; simp at this; omega
     ·exact ⟨e, h⟩
   obtain rfl := bl_of_div n k h1 hkp hkk HZ.out; exact ⟨g, cap, rfl, hown, hb⟩
theorem conv_new (w : World) (xs : List Int) (t e s : TypeId) {P : Program} (ht : P.underlying t = some (.slice e)) (he : P.underlying e = some (.int .u8)) (hs : P.underlying s = some .string) :
  (convert t s (.slice (some ⟨w.heap.size, 0, none⟩) xs.length xs.length)).run P (w.alloc (.cells (xs.map (Value.int .u8)).toArray e)) = .ok (.string (strOfNums xs)) (w.alloc (.cells (xs.map (Value.int .u8)).toArray e)) := by
 refine run_convert_bytes_arg _ t e ht he _ 0 _ _ xs rfl (fun i hi => ?_) s hs; rw [Nat.zero_add, cell_of_row _ _ i _ _ _ (heap_alloc_new _ _)]; simp [hi]
theorem u8n (a b : Nat) (h : a % 256 = b % 256) : UInt8.ofNat a = b.toUInt8 := by
 apply UInt8.toNat_inj.1; simp [Nat.toUInt8, h]
theorem ret_nums {xs : List Int} {l : List UInt8} (h : xs.map (fun n => UInt8.ofNat n.toNat) = l) : Ending.returned (.string (strOfNums xs)) = .returned (.string ⟨l.toArray⟩) := by
 unfold strOfNums; rw [h]
theorem rput_1 (n : Int) (w : World) (h0 : 0 ≤ n) (h : n ≤ 240) :
  Calls Tryz.prog 183 #[.int .u64 n] w fun e w' => e = .returned (.string ⟨(WP.put n.toNat).toArray⟩) ∧ Below w.heap.size w w' := by
 have hc := fun a => conv_new w [a] 86 5 9 Tryz.underlying86 Tryz.underlying5 Tryz.underlying9; simp only [List.length_cons, List.length_nil, List.map_cons, List.map_nil, Nat.zero_add] at hc; go_enter Tryz.func183, Tryz.ntmps183; go_wp2_with fail; go_ret; refine ⟨?_, (Below.refl _ w).alloc (Nat.le_refl _) _⟩; refine (ret_nums (xs := [n]) ?_); rw [WP.put_1 _ (by omega), WP.be1]; simp only [List.map_cons, List.map_nil]; rw [u8n _ (n.toNat % 256) (by omega)]
theorem rput_2 (n : Int) (w : World) (h0 : 240 < n) (h : n ≤ 2287) :
  Calls Tryz.prog 183 #[.int .u64 n] w fun e w' => e = .returned (.string ⟨(WP.put n.toNat).toArray⟩) ∧ Below w.heap.size w w' := by
 have hc := fun a b => conv_new w [a, b] 86 5 9 Tryz.underlying86 Tryz.underlying5 Tryz.underlying9; simp only [List.length_cons, List.length_nil, List.map_cons, List.map_nil, Nat.zero_add, Nat.reduceAdd] at hc; go_enter Tryz.func183, Tryz.ntmps183; go_wp2_with fail; go_ret; refine ⟨?_, (Below.refl _ w).alloc (Nat.le_refl _) _⟩; refine (ret_nums (xs := [241 + (n - 240) / 256, (n - 240) % 256]) ?_); rw [WP.put_2 _ (by omega) (by omega), WP.be2]; simp only [List.map_cons, List.map_nil]; rw [u8n _ ((61696 + (n.toNat - 240)) / 256 % 256) (by omega), u8n _ ((61696 + (n.toNat - 240)) % 256) (by omega)]
theorem rput_3 (n : Int) (w : World) (h0 : 2287 < n) (h : n ≤ 67823) :
  Calls Tryz.prog 183 #[.int .u64 n] w fun e w' => e = .returned (.string ⟨(WP.put n.toNat).toArray⟩) ∧ Below w.heap.size w w' := by
 have hc := fun a b c => conv_new w [a, b, c] 86 5 9 Tryz.underlying86 Tryz.underlying5 Tryz.underlying9; simp only [List.length_cons, List.length_nil, List.map_cons, List.map_nil, Nat.zero_add, Nat.reduceAdd] at hc; go_enter Tryz.func183, Tryz.ntmps183; go_wp2_with fail; go_ret; refine ⟨?_, (Below.refl _ w).alloc (Nat.le_refl _) _⟩; refine (ret_nums (xs := [249, (n - 2288) / 256, (n - 2288) % 256]) ?_); rw [WP.put_3 _ (by omega) (by omega), WP.be3]; simp only [List.map_cons, List.map_nil]; rw [u8n _ ((16318464 + (n.toNat - 2288)) / 256 / 256 % 256) (by omega), u8n _ ((16318464 + (n.toNat - 2288)) / 256 % 256) (by omega), u8n _ ((16318464 + (n.toNat - 2288)) % 256) (by omega)]
theorem rfour_any (n : Int) (w : World) (h0 : 0 ≤ n) (h1 : n ≤ 4294967295) :
  Calls Tryz.prog 147 #[.int .u32 n] w fun e w' => e = .returned (.string ⟨(Lib.leBytes 4 n.toNat).toArray⟩) ∧ Below w.heap.size w w' := by
 have hc := fun a b c d => conv_new w [a, b, c, d] 86 5 9 Tryz.underlying86 Tryz.underlying5 Tryz.underlying9; simp only [List.length_cons, List.length_nil, List.map_cons, List.map_nil, Nat.zero_add, Nat.reduceAdd] at hc; go_enter Tryz.func147, Tryz.ntmps147; go_wp2_with fail; go_ret; refine ⟨?_, (Below.refl _ w).alloc (Nat.le_refl _) _⟩; refine (ret_nums (xs := [n % 256, n / 256 % 256, n / 65536 % 256, n / 16777216]) ?_); simp only [List.map_cons, List.map_nil, Lib.leBytes]; rw [u8n _ (n.toNat % 256) (by omega), u8n _ (n.toNat / 256 % 256) (by omega), u8n _ (n.toNat / 256 / 256 % 256) (by omega), u8n _ (n.toNat / 256 / 256 / 256 % 256) (by omega)]
theorem conv_own {P : Program} {w : World} {base : Nat} {t e s : TypeId} {g n cap : Nat} {l : List UInt8} (ht : P.underlying t = some (.slice e)) (he : P.underlying e = some (.int .u8)) (hs : P.underlying s = some .string)
  (h : w.ownsRow base e 1 (.slice (some ⟨g, 0, none⟩) n cap) n (byteCells l)) (hl : l.length = n) : (convert t s (.slice (some ⟨g, 0, none⟩) n cap)).run P w = .ok (.string ⟨l.toArray⟩) w := by
 subst hl; refine run_convert_bytes_back w t s e _ cap l ht he hs (fun j hj => ?_); rw [addr_at, h.cellAt j (by omega)]; simp [byteCells, hj]
theorem rput_4 (n : Int) (w : World) (h0 : 67823 < n) (h1 : n ≤ 18446744073709551615) :
  Calls Tryz.prog 183 #[.int .u64 n] w fun e w' => e = .returned (.string ⟨(WP.put n.toNat).toArray⟩) ∧ Below w.heap.size w w' := by
 obtain ⟨v, rfl⟩ := Int.eq_ofNat_of_zero_le (show 0 ≤ n by omega); rw [Int.toNat_natCast]; have h8 := WP.bl_le8 v; have h3 := WP.bl_ge3 v (by omega); have Hp := zj (WP.put_4 v (by omega)); go_enter Tryz.func183, Tryz.ntmps183; go_wp2_with fail; refine (digits_any v w (by omega) (by omega)).mono ?_; rintro e w1 ⟨g, cap, rfl, hown, hb⟩; have hc := conv_new w1 [247 + (WP.bl v : Int)] 86 5 9 Tryz.underlying86 Tryz.underlying5 Tryz.underlying9; simp only [List.length_cons, List.length_nil, List.map_cons, List.map_nil, Nat.zero_add] at hc; have hc2 := conv_own (w := w1.alloc (.cells #[.int .u8 (247 + (WP.bl v : Int))] 5)) (s := 9) (t := 86) Tryz.underlying86 Tryz.underlying5 Tryz.underlying9 (hown.alloc _) (Lib.beBytes_length _ _)
 have hl : ¬ 9223372036854775807 < (strOfNums [247 + (WP.bl v : Int)]).size + (Lib.beBytes (WP.bl v) v).length := by rw [strOfNums_size, Lib.beBytes_length]; simp; omega
 go_wp2_with fail; go_ret; refine ⟨?_, hb.alloc hb.size _⟩; rw [Hp.out, ← WP.bytes_add, WP.be1]
 have e : strOfNums [247 + (WP.bl v : Int)] = ⟨[((247 + WP.bl v) % 256).toUInt8].toArray⟩ := by
  unfold strOfNums; simp only [List.map_cons, List.map_nil]; rw [u8n _ ((247 + WP.bl v) % 256) (by omega)]
 rw [← e]; rfl
theorem rput_any (n : Int) (w : World) (h0 : 0 ≤ n) (h1 : n ≤ 18446744073709551615) :
  Calls Tryz.prog 183 #[.int .u64 n] w fun e w' => e = .returned (.string ⟨(WP.put n.toNat).toArray⟩) ∧ Below w.heap.size w w' := by
 rcases (show n ≤ 240 ∨ (240 < n ∧ n ≤ 2287) ∨ (2287 < n ∧ n ≤ 67823) ∨ 67823 < n by omega) with h | h | h | h
 ·exact rput_1 n w h0 h
 ·exact rput_2 n w h.1 h.2
 ·exact rput_3 n w h.1 h.2
 ·exact rput_4 n w h h1
theorem drop_take_cons (s : ByteArray) (a k : Nat) (h : a < s.size) : (s.data.toList.drop a).take (k + 1) = s[a] :: (s.data.toList.drop (a + 1)).take k := by
 rw [WP.drop_cons s a h, List.take_succ_cons]
theorem rread_any (s : ByteArray) (i : Int) (w : World) (h0 : 0 ≤ i) (h1 : i + 4 ≤ s.size) (h2 : s.size ≤ maxLen) :
  Calls Tryz.prog 83 #[.string s, .int .i64 i] w fun e w' => e = .returned (.tuple #[.int .u32 (Lib.leNat ((s.data.toList.drop i.toNat).take 4)), .int .i64 0]) ∧ w = w' := by
 obtain ⟨a, rfl⟩ := Int.eq_ofNat_of_zero_le h0; rw [Int.toNat_natCast]; unfold maxLen at h2; have d1 : decide ((a : Int) < 0) = false := dF (by omega); have d2 : decide (s.size < a) = false := dF (by omega); have d3 : decide ((s.size : Int) < a + 4) = false := dF (by omega); go_enter Tryz.func83, Tryz.ntmps83; go_wp2_with fail
 go_loop [6, 7] (fun n i => ∃ q : Int, -1 ≤ q ∧ q ≤ 3 ∧ i = .int .i64 q ∧ n = .int .u32 (Lib.leNat ((s.data.toList.drop (a + (q + 1).toNat)).take (3 - q).toNat) : Nat)) (fun _ i => (intOf i + 1).toNat)
 case atStart => exact ⟨3, by omega, by omega, rfl, by simp [Lib.leNat]⟩
 case round =>
  obtain ⟨q, hq0, hq3, rfl, rfl⟩ := hrel; by_cases hlt : 0 ≤ q
  ·obtain ⟨j, rfl⟩ := Int.eq_ofNat_of_zero_le hlt
   rw [show ((j : Int) + 1).toNat = j + 1 by omega, show (3 - (j : Int)).toNat = 3 - j by omega]; have hb := WP.leNat_lt ((s.data.toList.drop (a + (j + 1))).take (3 - j)); have hbp : 256 ^ ((s.data.toList.drop (a + (j + 1))).take (3 - j)).length ≤ 256 ^ 3 := Nat.pow_le_pow_right (by omega) (by simp; omega)
   have HE : Hid (Lib.leNat ((s.data.toList.drop (a + j)).take (3 - j + 1)) = (s[a + j]'(by omega)).toNat + 256 * Lib.leNat ((s.data.toList.drop (a + (j + 1))).take (3 - j))) :=
    zj (by rw [drop_take_cons s (a + j) (3 - j) (by omega)]; simp only [Lib.leNat]; rw [Nat.add_assoc])
   have hv : Lib.leNat ((s.data.toList.drop (a + (j + 1))).take (3 - j)) < 16777216 := by omega
   have hby := (s[a + j]'(by omega)).toNat_lt; clear hb hbp; generalize Lib.leNat ((s.data.toList.drop (a + (j + 1))).take (3 - j)) = v at *; go_wp2_with fail
   go_round
   case rel =>
    refine ⟨(j : Int) - 1, by omega, by omega, rfl, ?_⟩; rw [show ((j : Int) - 1 + 1).toNat = j by omega, show (3 - ((j : Int) - 1)).toNat = 3 - j + 1 by omega, HE.out]
    go_num
   case measure => simp [intOf]
  ·obtain rfl : q = -1 := by omega
   go_wp2_with fail
   go_ret2
   exact ⟨rfl, rfl⟩
theorem rread_short (s : ByteArray) (i : Int) (w : World) (h0 : 0 ≤ i) (h1 : i ≤ s.size) (h3 : (s.size : Int) < i + 4) (h2 : s.size ≤ 1000000) :
  Calls Tryz.prog 83 #[.string s, .int .i64 i] w fun e w' => e = .returned (.tuple #[.int .u32 0, .int .i64 7]) ∧ w = w' := by
 go_enter Tryz.func83, Tryz.ntmps83; go_wp2_with fail
 go_ret2
 exact ⟨rfl, rfl⟩
end Go.Proofs.YtpeghilfldpgfaaGreatDoor.L9
namespace Go.Proofs.YtpeghilfldpgfaaGreatDoor.L9.VP
open Go.Proofs.YtpeghilfldpgfaaGreatDoor.L9
def numF (l : List UInt8) (i : Nat) (b : Bool) : Nat × Nat × Bool := if (WP.get l i).2.2 = 0 ∧ (WP.get l i).1 ≤ 4096 then ((WP.get l i).1, (WP.get l i).2.1, b) else (0, i, true)
def fourF (l : List UInt8) (i : Nat) (b : Bool) : Nat × Nat × Bool := if i + 4 ≤ l.length then (Lib.leNat ((l.drop i).take 4), i + 4, b) else (0, i, true)
def takeF (l : List UInt8) (i : Nat) (b : Bool) (n : Nat) : List UInt8 × Nat × Bool := if i + n ≤ l.length then ((l.drop i).take n, i + n, b) else ([], i, true)
def textF (l : List UInt8) (i : Nat) (b : Bool) : List UInt8 × Nat × Bool := takeF l (numF l i b).2.1 (numF l i b).2.2 (numF l i b).1
def markF (l : List UInt8) (i : Nat) (b : Bool) : UInt8 × Nat × Bool := (if (takeF l i b 1).2.2 then 0 else (takeF l i b 1).1.headD 0, (takeF l i b 1).2)
def readV (l : List UInt8) : (List UInt8 × V) × Nat × Bool :=
 let t := textF l 0 false
 let m := markF l t.2.1 t.2.2
 if m.1 = 1 then
  let n := numF l m.2.1 m.2.2
  let p := fourF l n.2.1 n.2.2
  ((t.1, ⟨true, [], n.1, p.1⟩), p.2)
 else if m.1 = 0 then
  let n := numF l m.2.1 m.2.2
  let u := takeF l n.2.1 n.2.2 n.1
  ((t.1, ⟨false, u.1, 0, 0⟩), u.2)
 else
  let u := takeF l m.2.1 true 0
  ((t.1, ⟨false, u.1, 0, 0⟩), u.2)
def readK (l : List UInt8) : (Nat × List UInt8) × Nat × Bool :=
 let k := fourF l 0 false
 let t := textF l k.2.1 k.2.2
 ((k.1, t.1), t.2)
theorem leBytes_four : ∀ (k : Nat) (l : List UInt8), l.length = k → Lib.leBytes k (Lib.leNat l) = l
 | 0, [], _ => rfl
 | k + 1, x :: l, h => by
  have ih := leBytes_four k l (by simpa using h); have hx := x.toNat_lt; simp only [Lib.leBytes, Lib.leNat]
  have e1 : (x.toNat + 256 * Lib.leNat l) % 256 = x.toNat := by omega
  have e2 : (x.toNat + 256 * Lib.leNat l) / 256 = Lib.leNat l := by omega
  rw [e1, e2, ih]; simp
-- what good reading says
theorem num_at {l : List UInt8} {i : Nat} {b : Bool} (hi : i ≤ l.length) : (numF l i b).2.1 ≤ l.length ∧ (numF l i b).1 ≤ 4096 ∧ i ≤ (numF l i b).2.1 := by
 unfold numF
 split
 ·rename_i h
  rcases WP.get_spec l i with e | e | ⟨n, tu, e, h2, h3, _⟩
  ·rw [e] at h; simp at h
  ·rw [e] at h; simp at h
  ·rw [e] at h ⊢
   exact ⟨h3, h.2, by simp only; omega⟩
 ·exact ⟨hi, by simp, Nat.le_refl _⟩
theorem four_at {l : List UInt8} {i : Nat} {b : Bool} (hi : i ≤ l.length) : (fourF l i b).2.1 ≤ l.length := by
 unfold fourF
 split
 ·assumption
 ·exact hi
theorem take_at {l : List UInt8} {i n : Nat} {b : Bool} (hi : i ≤ l.length) : (takeF l i b n).2.1 ≤ l.length := by
 unfold takeF
 split
 ·assumption
 ·exact hi
theorem text_at {l : List UInt8} {i : Nat} {b : Bool} (hi : i ≤ l.length) : (textF l i b).2.1 ≤ l.length := take_at (num_at hi).1
theorem mark_at {l : List UInt8} {i : Nat} {b : Bool} (hi : i ≤ l.length) : (markF l i b).2.1 ≤ l.length := take_at hi
theorem num_good {l : List UInt8} {i j n : Nat} {b : Bool} (h : numF l i b = (n, j, false)) : b = false ∧ n ≤ 4096 ∧ l.drop i = WP.put n ++ l.drop j := by
 unfold numF at h
 split at h
 ·rename_i hc
  rcases WP.get_spec l i with e | e | ⟨m, tu, e, h2, h3, h4, _⟩
  ·rw [e] at hc; simp at hc
  ·rw [e] at hc; simp at hc
  ·rw [e] at hc h
   simp only [Prod.mk.injEq] at h hc; obtain ⟨rfl, rfl, rfl⟩ := h; refine ⟨rfl, hc.2, ?_⟩; rw [h4, show l.drop tu = (l.drop i).drop (tu - i) by rw [List.drop_drop]; congr 1; omega, List.take_append_drop]
 ·simp at h
theorem four_good {l : List UInt8} {i j n : Nat} {b : Bool} (h : fourF l i b = (n, j, false)) : b = false ∧ l.drop i = Lib.leBytes 4 n ++ l.drop j := by
 unfold fourF at h
 split at h
 ·rename_i hc
  simp only [Prod.mk.injEq] at h; obtain ⟨rfl, rfl, rfl⟩ := h; refine ⟨rfl, ?_⟩; rw [leBytes_four 4 _ (by simp; omega), ← List.drop_drop, List.take_append_drop]
 ·simp at h
theorem take_good {l t : List UInt8} {i j n : Nat} {b : Bool} (h : takeF l i b n = (t, j, false)) : b = false ∧ t.length = n ∧ l.drop i = t ++ l.drop j := by
 unfold takeF at h
 split at h
 ·rename_i hc
  simp only [Prod.mk.injEq] at h; obtain ⟨rfl, rfl, rfl⟩ := h; refine ⟨rfl, by simp; omega, ?_⟩; rw [← List.drop_drop, List.take_append_drop]
 ·simp at h
theorem text_good {l t : List UInt8} {i j : Nat} {b : Bool} (h : textF l i b = (t, j, false)) : b = false ∧ l.drop i = text t ++ l.drop j := by
 unfold textF at h; obtain ⟨h1, h2, h3⟩ := take_good h; obtain ⟨n, k, c, e⟩ : ∃ n k c, numF l i b = (n, k, c) := ⟨_, _, _, rfl⟩; rw [e] at h1 h2 h3; simp only at h1 h2 h3; subst h1; obtain ⟨g1, _, g2⟩ := num_good e; refine ⟨g1, ?_⟩; rw [g2, h3, ← h2, text, List.append_assoc]
theorem mark_good {l : List UInt8} {c : UInt8} {i j : Nat} {b : Bool} (h : markF l i b = (c, j, false)) : b = false ∧ l.drop i = c :: l.drop j := by
 unfold markF at h; obtain ⟨t, k, d, e⟩ : ∃ t k d, takeF l i b 1 = (t, k, d) := ⟨_, _, _, rfl⟩; rw [e] at h; simp only [Prod.mk.injEq] at h; obtain ⟨h1, rfl, rfl⟩ := h; obtain ⟨g1, g2, g3⟩ := take_good e; refine ⟨g1, ?_⟩
 match t, g2 with
 | [x], _ =>
  simp at h1; rw [g3, h1]; rfl
-- what is put is read
theorem pos_put (n : Nat) (h : n ≤ 4096) : 1 ≤ (WP.put n).length := by
 obtain ⟨_, _, e, _⟩ := WP.put_form n (by omega); rw [e]; simp
theorem split_at {l X : List UInt8} {i : Nat} (h : l.drop i = X) (hX : 1 ≤ X.length) : ∃ Z, l = Z ++ X ∧ Z.length = i := by
 have h1 := congrArg List.length h; simp only [List.length_drop] at h1; exact ⟨l.take i, by rw [← h, List.take_append_drop], by simp; omega⟩
theorem num_put {l Y : List UInt8} {i n : Nat} (b : Bool) (hn : n ≤ 4096) (h : l.drop i = WP.put n ++ Y) : numF l i b = (n, i + (WP.put n).length, b) ∧ l.drop (i + (WP.put n).length) = Y := by
 have hp := pos_put n hn; obtain ⟨Z, e, rfl⟩ := split_at h (by simp; omega); have hg := WP.get_put Z Y n (by omega); rw [List.append_assoc, ← e] at hg; refine ⟨by unfold numF; rw [hg]; simp only [if_pos (And.intro trivial hn)], ?_⟩; rw [← List.drop_drop, h, List.drop_left]
theorem four_put {l Y : List UInt8} {i n : Nat} (b : Bool) (hn : n ≤ 4095) (h : l.drop i = Lib.leBytes 4 n ++ Y) : fourF l i b = (n, i + 4, b) ∧ l.drop (i + 4) = Y := by
 have hl := Lib.leBytes_length 4 n; have h1 := congrArg List.length h; simp only [List.length_drop, List.length_append, hl] at h1
 have e : (l.drop i).take 4 = Lib.leBytes 4 n := by rw [h, List.take_append_of_le_length (by omega), List.take_of_length_le (by omega)]
 refine ⟨by unfold fourF; rw [if_pos (by omega), e, Lib.leNat_leBytes 4 n (by omega)], ?_⟩; have h2 := List.drop_left (l₁ := Lib.leBytes 4 n) (l₂ := Y); rw [hl] at h2; rw [← List.drop_drop, h, h2]
theorem take_put {l t Y : List UInt8} {i : Nat} (b : Bool) (hi : i ≤ l.length) (h : l.drop i = t ++ Y) : takeF l i b t.length = (t, i + t.length, b) ∧ l.drop (i + t.length) = Y := by
 have h1 := congrArg List.length h; simp only [List.length_drop, List.length_append] at h1; refine ⟨by unfold takeF; rw [if_pos (by omega), h, List.take_left], ?_⟩; rw [← List.drop_drop, h, List.drop_left]
theorem text_put {l t Y : List UInt8} {i : Nat} (b : Bool) (ht : t.length ≤ 4096) (h : l.drop i = text t ++ Y) : textF l i b = (t, i + (text t).length, b) ∧ l.drop (i + (text t).length) = Y := by
 rw [text, List.append_assoc] at h; obtain ⟨e1, e2⟩ := num_put b ht h
 have hi : (i + (WP.put t.length).length) ≤ l.length := by
  have := congrArg List.length h; have := pos_put t.length ht; simp only [List.length_drop, List.length_append] at *; omega
 obtain ⟨e3, e4⟩ := take_put b hi e2; unfold textF; rw [e1]; simp only; rw [e3, show i + (text t).length = i + (WP.put t.length).length + t.length by simp [text]; omega]; exact ⟨rfl, e4⟩
theorem mark_put {l Y : List UInt8} {i : Nat} {c : UInt8} (h : l.drop i = c :: Y) : markF l i false = (c, i + 1, false) ∧ l.drop (i + 1) = Y := by
 have h1 := congrArg List.length h; simp only [List.length_drop, List.length_cons] at h1; obtain ⟨e1, e2⟩ := take_put (t := [c]) (Y := Y) false (by omega) h; refine ⟨?_, e2⟩; unfold markF; rw [show ([c] : List UInt8).length = 1 from rfl] at e1; rw [e1]; rfl
theorem end_at {l : List UInt8} {i : Nat} (hi : i ≤ l.length) (h : l.drop i = []) : i = l.length := by
 have := List.drop_eq_nil_iff.1 h; omega
theorem readV_put (t : List UInt8) (v : V) (h : OkV t v) : readV (cellV t v) = ((t, v), (cellV t v).length, false) := by
 obtain ⟨ht, hv⟩ := h; generalize hl : cellV t v = l
 have h0 : l.drop 0 = text t ++ tail v := by rw [List.drop_zero, ← hl]; rfl
 obtain ⟨e1, f1⟩ := text_put false (by omega) h0; have b1 := text_at (l := l) (i := 0) (b := false) (Nat.zero_le _); unfold readV; simp only [e1]; rw [e1] at b1; simp only at b1; generalize 0 + (text t).length = i at *; rcases hv with ⟨h1, h2, h3, h4, h5, h6⟩ | ⟨h1, h2, h3, h4⟩
 ·rw [tail, if_pos h1] at f1
  obtain ⟨e2, f2⟩ := mark_put f1; have b2 := mark_at (b := false) b1; simp only [e2, if_true]; rw [e2] at b2; obtain ⟨e3, f3⟩ := num_put false (by omega) f2; have b3 := (num_at (b := false) b2).1; simp only at b3; rw [e3] at b3; obtain ⟨e4, f4⟩ := four_put (Y := []) false (n := v.page.toNat) (by omega) (by rw [f3, List.append_nil]); have b4 := four_at (b := false) b3; simp only at b4; rw [e4] at b4; simp only [e3, e4]; rw [← end_at b4 f4]
  congr 2
  exact V.eq h1.symm h2.symm (by show ((v.len.toNat : Nat) : Int) = _; omega) (by show ((v.page.toNat : Nat) : Int) = _; omega)
 ·rw [tail, if_neg (by rw [h1]; decide)] at f1
  obtain ⟨e2, f2⟩ := mark_put f1; have b2 := mark_at (b := false) b1; simp only [e2, if_neg (show ¬ (0 : UInt8) = 1 by decide), if_true]; rw [e2] at b2; rw [show text v.s = WP.put v.s.length ++ v.s from rfl] at f2; obtain ⟨e3, f3⟩ := num_put false (by omega) f2; have b3 := (num_at (b := false) b2).1; simp only at b3; rw [e3] at b3; obtain ⟨e4, f4⟩ := take_put (t := v.s) (Y := []) false b3 (by rw [f3, List.append_nil]); have b4 := take_at (n := v.s.length) (b := false) b3; simp only at b4; rw [e4] at b4; simp only [e3, e4]; rw [← end_at b4 f4]
  congr 2
  exact V.eq h1.symm rfl h3.symm h4.symm
theorem triple {α β γ : Type} (x : α × β × γ) : ∃ a b c, x = (a, b, c) := ⟨_, _, _, rfl⟩
theorem readV_good {l t : List UInt8} {v : V} (h : readV l = ((t, v), l.length, false)) : cellV t v = l := by
 unfold readV at h; obtain ⟨t', i1, b1, e1⟩ := triple (textF l 0 false); simp only [e1] at h; obtain ⟨m, i2, b2, e2⟩ := triple (markF l i1 b1); simp only [e2] at h; obtain ⟨n, i3, b3, e3⟩ := triple (numF l i2 b2); simp only [e3] at h
 split at h
 ·rename_i hm
  subst hm; obtain ⟨p, i4, b4, e4⟩ := triple (fourF l i3 b3); simp only [e4, Prod.mk.injEq] at h; obtain ⟨⟨rfl, rfl⟩, rfl, rfl⟩ := h; obtain ⟨rfl, g4⟩ := four_good e4; obtain ⟨rfl, _, g3⟩ := num_good e3; obtain ⟨rfl, g2⟩ := mark_good e2; obtain ⟨_, g1⟩ := text_good e1; rw [List.drop_length, List.append_nil] at g4; rw [List.drop_zero, g2, g3, g4] at g1; rw [g1, cellV, tail, if_pos rfl]; simp
 ·split at h
  ·rename_i _ hm
   subst hm; obtain ⟨u, i4, b4, e4⟩ := triple (takeF l i3 b3 n); simp only [e4, Prod.mk.injEq] at h; obtain ⟨⟨rfl, rfl⟩, rfl, rfl⟩ := h; obtain ⟨rfl, hu, g4⟩ := take_good e4; obtain ⟨rfl, _, g3⟩ := num_good e3; obtain ⟨rfl, g2⟩ := mark_good e2; obtain ⟨_, g1⟩ := text_good e1; rw [List.drop_length, List.append_nil] at g4; rw [List.drop_zero, g2, g3, g4, ← hu] at g1; rw [g1, cellV, tail, if_neg (by simp)]; simp [text]
  ·obtain ⟨u, i4, b4, e4⟩ := triple (takeF l i2 true 0)
   simp only [e4, Prod.mk.injEq] at h; obtain ⟨_, rfl, rfl⟩ := h; have := (take_good e4).1; simp at this
theorem getV_read (l : List UInt8) : getV l = if (readV l).2 = (l.length, false) ∧ OkV (readV l).1.1 (readV l).1.2 then some (readV l).1 else none := by
 obtain ⟨t, v, i, b, hr⟩ : ∃ t v i b, readV l = ((t, v), i, b) := ⟨_, _, _, _, rfl⟩; rw [hr]
 split
 ·rename_i h
  simp only [Prod.mk.injEq] at h; obtain ⟨⟨rfl, rfl⟩, h2⟩ := h; exact (getV_iff l t v).2 ⟨h2, readV_good hr⟩
 ·rename_i h
  refine getV_none fun t' v' hok e => h ?_; have := readV_put t' v' hok; rw [e, hr] at this; simp only [Prod.mk.injEq] at this; obtain ⟨⟨rfl, rfl⟩, rfl, rfl⟩ := this; exact ⟨rfl, hok⟩
theorem readK_put (k : Nat) (t : List UInt8) (h : OkK k t) : readK (cellK k t) = ((k, t), (cellK k t).length, false) := by
 obtain ⟨h1, h2, h3⟩ := h; generalize hl : cellK k t = l
 have h0 : l.drop 0 = Lib.leBytes 4 k ++ text t := by rw [List.drop_zero, ← hl]; rfl
 obtain ⟨e1, f1⟩ := four_put false (by omega) h0; have b1 := four_at (l := l) (i := 0) (b := false) (Nat.zero_le _); rw [e1] at b1; obtain ⟨e2, f2⟩ := text_put (t := t) (Y := []) false (by omega) (by rw [f1, List.append_nil]); have b2 := text_at (b := false) b1; simp only at b2; rw [e2] at b2; unfold readK; simp only [e1, e2]; rw [← end_at b2 f2]
theorem readK_good {l t : List UInt8} {k : Nat} (h : readK l = ((k, t), l.length, false)) : cellK k t = l := by
 unfold readK at h; obtain ⟨k', i1, b1, e1⟩ := triple (fourF l 0 false); simp only [e1] at h; obtain ⟨t', i2, b2, e2⟩ := triple (textF l i1 b1); simp only [e2, Prod.mk.injEq] at h; obtain ⟨⟨rfl, rfl⟩, rfl, rfl⟩ := h; obtain ⟨rfl, g2⟩ := text_good e2; obtain ⟨_, g1⟩ := four_good e1; rw [List.drop_length, List.append_nil] at g2; rw [List.drop_zero, g2] at g1; rw [g1]; rfl
theorem getK_read (l : List UInt8) : getK l = if (readK l).2 = (l.length, false) ∧ OkK (readK l).1.1 (readK l).1.2 then some (readK l).1 else none := by
 obtain ⟨k, t, i, b, hr⟩ : ∃ k t i b, readK l = ((k, t), i, b) := ⟨_, _, _, _, rfl⟩; rw [hr]
 split
 ·rename_i h
  simp only [Prod.mk.injEq] at h; obtain ⟨⟨rfl, rfl⟩, h2⟩ := h; exact (getK_iff l t k).2 ⟨h2, readK_good hr⟩
 ·rename_i h
  refine getK_none fun k' t' hok e => h ?_; have := readK_put k' t' hok; rw [e, hr] at this; simp only [Prod.mk.injEq] at this; obtain ⟨⟨rfl, rfl⟩, rfl, rfl⟩ := this; exact ⟨rfl, hok⟩
theorem readV_at (l : List UInt8) : (readV l).2.1 ≤ l.length := by
 have b1 := text_at (l := l) (i := 0) (b := false) (Nat.zero_le _); unfold readV; simp only; generalize textF l 0 false = x1 at *; have b2 := mark_at (l := l) (i := x1.2.1) (b := x1.2.2) b1; generalize markF l x1.2.1 x1.2.2 = x2 at *; have b3 := (num_at (l := l) (i := x2.2.1) (b := x2.2.2) b2).1
 split
 ·exact four_at b3
 ·split
  ·exact take_at b3
  ·exact take_at b2
theorem readK_at (l : List UInt8) : (readK l).2.1 ≤ l.length := by
 have b1 := four_at (l := l) (i := 0) (b := false) (Nat.zero_le _); exact text_at b1
end Go.Proofs.YtpeghilfldpgfaaGreatDoor.L9.VP
