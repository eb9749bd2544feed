/-
  The walks of leaf.text, told, the closures of leaf.parts, and leaf.each at items.
  Walks of the document's Size, two, at, Repeat.
  The walk of slot.Size.
  The walks of leaf.parts, Size.
  The walk of the program's disk.Size.
-/
import Derived.Test.YtpehkikdmckldaaGreatDoorJNSame
import Derived.Test.YtpehkikdmckldaaGreatDoorJ08
import Derived.Test.YtpehkikdmckldaaGreatDoorJVPut
import Derived.Laws.MakeOwn
import Derived.Laws.Cover1
import Derived.Test.YtpehkikdmckldaaGreatDoorJ01
import Derived.Test.YtpehkikdmckldaaGreatDoorJ02
import Derived.Deep.RegionHeld3
import Derived.Laws.BytesArg
import Derived.BigQuiet
import Derived.Test.YtpehkikdmckldaaGreatDoorRows
import Derived.WalkKit
import Derived.WalkSpells
import Derived.WalkLawsBesides
import Derived.Lib.LaidTab
import Derived.Lib.Walk
import Derived.Lib.Hide
import Derived.Below
namespace Go.Proofs.YtpehkikdmckldaaGreatDoor
open Go.RowKit NP
set_option linter.unusedVariables false
set_option linter.unusedSimpArgs false

theorem text_any (s : ByteArray) (w : World) (hs : s.size ≤ 1000000) : Calls Tryz.prog 62 #[.string s] w fun e w' => e = .returned (.string (L9.textS s)) ∧ Below w.heap.size w w' := by
  have HT := Lib.hid (L9.textS_eq s s.size rfl)
  have HP := Lib.hid (fun W => L9.put_any (s.size : Int) W (by omega) (by omega))
  have hsz := L9.wput_size s.size (by omega)
  obtain ⟨Z, hZ⟩ : ∃ Z : ByteArray, (⟨(L9.WP.put s.size).toArray⟩ : ByteArray) = Z := ⟨_, rfl⟩
  rw [Int.toNat_natCast] at HP
  rw [hZ] at HP HT hsz
  have hw : IntKind.u64.wrap (s.size : Int) = s.size := by rw [IntKind.wrap_u64]; omega
  have h9 : ¬ 9223372036854775807 < Z.size + s.size := by omega
  have h9' : ¬ (9223372036854775807 : Int) < (Z.size : Int) + (s.size : Int) := by omega
  clear hZ
  go_enter Tryz.func62, Tryz.ntmps62
  go_wp2_with fail
  refine (HP.out _).mono ?_
  rintro e w2 ⟨rfl, hb2⟩
  go_wp2_with fail
  go_ret
  exact ⟨by rw [HT.out]; rfl, hb2⟩

/-- An error that a part told. -/
def errV (part : ByteArray) (e : Int) : Value := .iface 88 (.agg #[.string part, .iface 28 (.int .i64 e)])
theorem told_ok (part : ByteArray) (w : World) : Calls Tryz.prog 61 #[.string part, .int .i64 0] w fun e w' => e = .returned .nilIface ∧ Below w.heap.size w w' := by
  go_enter Tryz.func61, Tryz.ntmps61
  go_wp2_with fail
  go_ret
  exact ⟨rfl, Below.refl _ _⟩
theorem told_bad (part : ByteArray) (e : Int) (w : World) (he : e ≠ 0) : Calls Tryz.prog 61 #[.string part, .int .i64 e] w fun r w' => r = .returned (errV part e) ∧ Below w.heap.size w w' := by
  have hz : (e == 0) = false := beq_eq_false_iff_ne.2 he
  go_enter Tryz.func61, Tryz.ntmps61
  go_wp2_with fail
  go_ret
  exact ⟨rfl, Below.refl _ _⟩

theorem parts1_any (i : Int) (K : ByteArray) (O : Bool) (S : ByteArray) (L P : Int) (w : World) :
    Calls Tryz.prog 57 #[.int .i64 i, iv K O S L P] w fun e w' => e = .returned (.tuple #[.string K, .nilIface]) ∧ Below w.heap.size w w' := by
  go_enter Tryz.func57, Tryz.ntmps57
  go_wp2_with fail
  go_ret2
  exact ⟨rfl, L5.below_alloc _ _⟩

theorem putOk {t : ByteArray} {v : L9.VP.V} (h : L9.VP.OkV t.data.toList v) : L9.putVV t v = .tuple #[.string (L9.cellS t v), .int .i64 0] := by
  unfold L9.putVV
  rw [if_pos h]

set_option maxHeartbeats 1000000 in
theorem parts2_any (k : Nat) (K : ByteArray) (O : Bool) (S : ByteArray) (L P : Int) (g : Nat) (G : Option Addr) (ts : List ByteArray) (cap : Nat) (t : ByteArray) (w : World) (hc : w.cell? ⟨g, 0, none⟩ = some (.slice G ts.length cap)) (hg : g < w.heap.size) (hl : L5.Lies w w.heap.size G ts) (hk : ts[k]? = some t) (hn : ts.length ≤ 1000000)
    (ht : t.size ≤ 1000000) (hs : S.size ≤ 1000000) (hok : L9.VP.OkV t.data.toList (L9.pv O S L P)) :
    Calls Tryz.prog 59 #[.int .i64 k, iv K O S L P, .pointer (some ⟨g, 0, none⟩)] w fun e w' => e = .returned (.tuple #[.string (L9.cellS t (L9.pv O S L P)), .nilIface]) ∧ Below w.heap.size w w' := by
  have HP := Lib.hid (fun W => L9.putv_any t O S L P W ht hs)
  rw [putOk hok] at HP
  have hkn : k < ts.length := (List.getElem?_eq_some_iff.1 hk).1
  have hb0 := L5.below_alloc w (.cells #[.string K, .bool O, .string S, .int .i64 L, .int .i64 P] 59)
  obtain ⟨a, rfl, hab, x0⟩ := (hl.below hb0) k t hk
  have hc0 : (w.alloc (.cells #[.string K, .bool O, .string S, .int .i64 L, .int .i64 P] 59)).cell? ⟨g, 0, none⟩ = some (.slice (some a) ts.length cap) := (hb0.cell (p := ⟨g, 0, none⟩) hg).trans hc
  have HI := IBx.new 59 K O S L P w
  have HS : Hid (∀ V, Below (w.alloc (.cells #[.string K, .bool O, .string S, .int .i64 L, .int .i64 P] 59)).heap.size (w.alloc (.cells #[.string K, .bool O, .string S, .int .i64 L, .int .i64 P] 59)) V → (Hid (Below (w.alloc (.cells #[.string K, .bool O, .string S, .int .i64 L, .int .i64 P] 59)).heap.size (w.alloc (.cells #[.string K, .bool O, .string S, .int .i64 L, .int .i64 P] 59)) V) ∧ V.cell? ⟨g, 0, none⟩ = some (.slice (some a) ts.length cap) ∧ V.cell? (a.add k) = some (.string t) ∧ V.cell? ⟨w.heap.size, 1, none⟩ = some (.bool O) ∧ V.cell? ⟨w.heap.size, 2, none⟩ = some (.string S) ∧ V.cell? ⟨w.heap.size, 3, none⟩ = some (.int .i64 L) ∧ V.cell? ⟨w.heap.size, 4, none⟩ = some (.int .i64 P))) := Lib.hid (fun V hb => by
    obtain ⟨b0, b1, b2, b3, b4⟩ := (HI.below hb).cells
    exact ⟨Lib.hid hb, (hb.cell (p := ⟨g, 0, none⟩) (Nat.lt_of_lt_of_le hg hb0.size)).trans hc0, (hb.cell (p := a.add k) (by rw [L5.addr_block]; exact Nat.lt_of_lt_of_le hab hb0.size)).trans x0, b1, b2, b3, b4⟩)
  have HB0 := Lib.hid hb0
  generalize L9.cellS t (L9.pv O S L P) = Z at *
  generalize ts.length = n at *
  clear hok hl hc hg hk hab x0 hc0 HI hb0
  go_enter Tryz.func59, Tryz.ntmps59
  go_wp2_with fail
  generalize w.alloc (.cells #[.string K, .bool O, .string S, .int .i64 L, .int .i64 P] 59) = W0 at *
  have hSd := HS.out _ (L5.below_drewN (Below.refl _ W0) 1)
  have hS0 := HS.out _ (Below.refl _ W0)
  go_region_held3 (fun V => Hid (Below W0.heap.size W0 V) ∧ V.cell? ⟨g, 0, none⟩ = some (.slice (some a) n cap) ∧ V.cell? (a.add k) = some (.string t) ∧ V.cell? ⟨w.heap.size, 1, none⟩ = some (.bool O) ∧ V.cell? ⟨w.heap.size, 2, none⟩ = some (.string S) ∧ V.cell? ⟨w.heap.size, 3, none⟩ = some (.int .i64 L) ∧ V.cell? ⟨w.heap.size, 4, none⟩ = some (.int .i64 P))
    (first | assumption | exact hSd)
    (first
      | (go_at_call 60; refine (HP.out _).mono ?_; rintro e V ⟨rfl, hb⟩; have HBV := Lib.hid ((by assumption : Hid (Below W0.heap.size W0 _) ∧ _).1.out.trans' hb); have hSn := HS.out _ HBV.out; clear hb)
      | fail "no arm")
  all_goals
    go_wp2_with fail
    refine (told_ok _ _).mono ?_
    rintro e V2 ⟨rfl, hb2⟩
    go_wp2_with fail
    go_ret2
    exact ⟨rfl, (HB0.out.trans' HBV.out).trans' hb2⟩

/-- The cells of texts, the first of which are there. -/
def fillTo (ys : List ByteArray) (k : Nat) : List Value := L5.strCells (ys.take k) ++ List.replicate (ys.length - k) (.string ⟨#[]⟩)
theorem fillTo_zero (l : List ByteArray) : fillTo l 0 = List.replicate l.length (.string ⟨#[]⟩) := by simp [fillTo, L5.strCells]
theorem fillTo_full (l : List ByteArray) : fillTo l l.length = L5.strCells l := by simp [fillTo]
theorem fillTo_set (l : List ByteArray) (k : Nat) (s : ByteArray) (h : l[k]? = some s) : (fillTo l k).set k (.string s) = fillTo l (k + 1) := by
  have hk : k < l.length := (List.getElem?_eq_some_iff.1 h).1
  have h1 : l.take (k + 1) = l.take k ++ [s] := by rw [List.take_add_one, h]; rfl
  have hlen : (L5.strCells (l.take k)).length = k := by simp [L5.strCells]; omega
  rw [fillTo, List.set_append_right _ _ (by omega), hlen, Nat.sub_self, fillTo, h1, show l.length - k = (l.length - (k + 1)) + 1 by omega, List.replicate_succ, List.set_cons_zero]
  simp [L5.strCells]
theorem fillTo_at (l : List ByteArray) (k : Nat) (h : k < l.length) : (fillTo l k)[k]? = some (.string ⟨#[]⟩) := by
  have hlen : (L5.strCells (l.take k)).length = k := by simp [L5.strCells]; omega
  rw [fillTo, List.getElem?_append_right (by omega), hlen, Nat.sub_self, List.getElem?_replicate, if_pos (by omega)]

set_option maxHeartbeats 2000000 in
set_option maxRecDepth 100000 in
theorem each1_any (A : Option Addr) (l : List It) (ca : Nat) (ys : List ByteArray) (w : World) (ha : Lies5 w w.heap.size A l) (hl : l.length ≤ 100000) (hy : ys.length = l.length)
    (hf : ∀ (k : Nat) (K : ByteArray) (O : Bool) (S : ByteArray) (L P : Int) (y : ByteArray) (W : World), l[k]? = some ⟨K, O, S, L, P⟩ → ys[k]? = some y → Below w.heap.size w W → Calls Tryz.prog 57 #[.int .i64 k, iv K O S L P] W fun e w' => e = .returned (.tuple #[.string y, .nilIface]) ∧ Below W.heap.size W w') :
    Calls Tryz.prog 56 #[.slice A l.length ca, .func (.func 57) #[] #[]] w fun e w' => ∃ G, e = .returned (.tuple #[.slice G ys.length ys.length, .nilIface]) ∧ L5.Lies w' w'.heap.size G ys ∧ Below w.heap.size w w' := by
  obtain ⟨i0, hi, hz0, hz1, hz2⟩ := info_parts L5.Tryz.infoStr
  have HA := Lib.hid ha
  have HF := Lib.hid hf
  obtain ⟨n, hn⟩ : ∃ n, n = l.length := ⟨_, rfl⟩
  have HN := Lib.hid hn
  have HY : Hid (ys.length = n) := Lib.hid (by omega)
  rw [← hn]
  rw [← hn] at hl
  rw [HY.out]
  clear ha hf hn hy
  go_enter Tryz.func56, Tryz.ntmps56
  go_wp2_with (at_make; refine wpList_make_full _ rfl _ _ 66 rfl w.heap.size 9 i0 (.string ⟨#[]⟩) 1 Tryz.underlying66 hi hz0 hz1 _ _ _ _ n rfl rfl rfl rfl (by rw [hz2]; omega) (by unfold maxLen; omega) (Nat.le_refl _) ?_; intro w2 hown2 hg2)
  have hb2 : Below w.heap.size w w2 := (Below.refl _ w).grown hg2 (Nat.le_refl _) (by simp)
  rw [L5.made_blank] at hown2
  have HO2 : Hid (w2.ownsRow w.heap.size 9 1 (.slice (some ⟨w.heap.size, 0, none⟩) n n) n (fillTo ys 0)) := Lib.hid (by rw [fillTo_zero, HY.out]; exact hown2)
  clear hown2 hg2
  go_loopw [16] (fun iv wr => ∃ k : Nat, k ≤ n ∧ iv = .int .i64 k ∧ Hid (wr.ownsRow w.heap.size 9 1 (.slice (some ⟨w.heap.size, 0, none⟩) n n) n (fillTo ys k)) ∧ Below w.heap.size w wr) (fun iv _ => n - (intOf iv).toNat)
  case atStart => exact ⟨0, Nat.zero_le _, rfl, HO2, hb2⟩
  case round =>
    obtain ⟨k, hk, rfl, HO, hbr⟩ := hrel
    by_cases hlt : k < n
    · obtain ⟨⟨K, O, S, L, P⟩, hc⟩ : ∃ c, l[k]? = some c := ⟨_, List.getElem?_eq_getElem (by have := HN.out; omega)⟩
      obtain ⟨y, hd⟩ : ∃ c, ys[k]? = some c := ⟨_, List.getElem?_eq_getElem (by have := HY.out; omega)⟩
      obtain ⟨a, rfl, hab, x0, x1, x2, x3, x4⟩ := (HA.out.below hbr).load hc
      have hbq := L5.below_alloc wr (.cells #[.string K, .bool O, .string S, .int .i64 L, .int .i64 P] 59)
      have HCL := Lib.hid (HF.out k K O S L P y _ hc hd (hbr.trans' hbq))
      have HOQ := Lib.hid (L5.own_below HO.out hbq)
      have HD := Lib.hid hd
      clear hc hd hab
      go_wp2_with fail
      refine HCL.out.mono ?_
      rintro e w3 ⟨rfl, hb3⟩
      have HO3 := Lib.hid (L5.own_below HOQ.out hb3)
      have hb13 := (hbr.trans' hbq).trans' hb3
      have hcell : w3.cell? ⟨w.heap.size, k, none⟩ = some (.string ⟨#[]⟩) := by
        rw [HO3.out.cellAt k (by omega), fillTo_at ys k (by have := HY.out; omega)]
      have hfr := HO3.out.frozenAt k
      clear HCL hbq hb3 hbr x0 x1 x2 x3 x4
      go_wp2_with fail
      go_roundw
      case rel =>
        refine ⟨k + 1, by omega, by simp, Lib.hid ?_, hb13.setCell (Nat.le_refl _) _⟩
        have h := (HO3.out.stored k (.string y)).1
        rwa [fillTo_set ys k y HD.out] at h
      case measure => simp [intOf]; omega
    · obtain rfl : k = n := by omega
      have HL : Hid (L5.Lies wr wr.heap.size (some ⟨w.heap.size, 0, none⟩) ys) := Lib.hid (by
        have h := HO.out
        rw [show fillTo ys k = L5.strCells ys by rw [← HY.out, fillTo_full]] at h
        exact L5.lies_own h HY.out.symm)
      go_wp2_with fail
      go_ret2
      exact ⟨_, rfl, HL.out, hbr⟩

set_option maxHeartbeats 2000000 in
set_option maxRecDepth 100000 in
theorem each2_any (A : Option Addr) (l : List It) (ca : Nat) (ys : List ByteArray) (g : Nat) (w : World) (ha : Lies5 w w.heap.size A l) (hl : l.length ≤ 100000) (hy : ys.length = l.length)
    (hf : ∀ (k : Nat) (K : ByteArray) (O : Bool) (S : ByteArray) (L P : Int) (y : ByteArray) (W : World), l[k]? = some ⟨K, O, S, L, P⟩ → ys[k]? = some y → Below w.heap.size w W → Calls Tryz.prog 59 #[.int .i64 k, iv K O S L P, .pointer (some ⟨g, 0, none⟩)] W fun e w' => e = .returned (.tuple #[.string y, .nilIface]) ∧ Below W.heap.size W w') :
    Calls Tryz.prog 56 #[.slice A l.length ca, .func (.func 59) #[] #[.pointer (some ⟨g, 0, none⟩)]] w fun e w' => ∃ G, e = .returned (.tuple #[.slice G ys.length ys.length, .nilIface]) ∧ L5.Lies w' w'.heap.size G ys ∧ Below w.heap.size w w' := by
  obtain ⟨i0, hi, hz0, hz1, hz2⟩ := info_parts L5.Tryz.infoStr
  have HA := Lib.hid ha
  have HF := Lib.hid hf
  obtain ⟨n, hn⟩ : ∃ n, n = l.length := ⟨_, rfl⟩
  have HN := Lib.hid hn
  have HY : Hid (ys.length = n) := Lib.hid (by omega)
  rw [← hn]
  rw [← hn] at hl
  rw [HY.out]
  clear ha hf hn hy
  go_enter Tryz.func56, Tryz.ntmps56
  go_wp2_with (at_make; refine wpList_make_full _ rfl _ _ 66 rfl w.heap.size 9 i0 (.string ⟨#[]⟩) 1 Tryz.underlying66 hi hz0 hz1 _ _ _ _ n rfl rfl rfl rfl (by rw [hz2]; omega) (by unfold maxLen; omega) (Nat.le_refl _) ?_; intro w2 hown2 hg2)
  have hb2 : Below w.heap.size w w2 := (Below.refl _ w).grown hg2 (Nat.le_refl _) (by simp)
  rw [L5.made_blank] at hown2
  have HO2 : Hid (w2.ownsRow w.heap.size 9 1 (.slice (some ⟨w.heap.size, 0, none⟩) n n) n (fillTo ys 0)) := Lib.hid (by rw [fillTo_zero, HY.out]; exact hown2)
  clear hown2 hg2
  go_loopw [16] (fun iv wr => ∃ k : Nat, k ≤ n ∧ iv = .int .i64 k ∧ Hid (wr.ownsRow w.heap.size 9 1 (.slice (some ⟨w.heap.size, 0, none⟩) n n) n (fillTo ys k)) ∧ Below w.heap.size w wr) (fun iv _ => n - (intOf iv).toNat)
  case atStart => exact ⟨0, Nat.zero_le _, rfl, HO2, hb2⟩
  case round =>
    obtain ⟨k, hk, rfl, HO, hbr⟩ := hrel
    by_cases hlt : k < n
    · obtain ⟨⟨K, O, S, L, P⟩, hc⟩ : ∃ c, l[k]? = some c := ⟨_, List.getElem?_eq_getElem (by have := HN.out; omega)⟩
      obtain ⟨y, hd⟩ : ∃ c, ys[k]? = some c := ⟨_, List.getElem?_eq_getElem (by have := HY.out; omega)⟩
      obtain ⟨a, rfl, hab, x0, x1, x2, x3, x4⟩ := (HA.out.below hbr).load hc
      have hbq := L5.below_alloc wr (.cells #[.string K, .bool O, .string S, .int .i64 L, .int .i64 P] 59)
      have HCL := Lib.hid (HF.out k K O S L P y _ hc hd (hbr.trans' hbq))
      have HOQ := Lib.hid (L5.own_below HO.out hbq)
      have HD := Lib.hid hd
      clear hc hd hab
      go_wp2_with fail
      refine HCL.out.mono ?_
      rintro e w3 ⟨rfl, hb3⟩
      have HO3 := Lib.hid (L5.own_below HOQ.out hb3)
      have hb13 := (hbr.trans' hbq).trans' hb3
      have hcell : w3.cell? ⟨w.heap.size, k, none⟩ = some (.string ⟨#[]⟩) := by
        rw [HO3.out.cellAt k (by omega), fillTo_at ys k (by have := HY.out; omega)]
      have hfr := HO3.out.frozenAt k
      clear HCL hbq hb3 hbr x0 x1 x2 x3 x4
      go_wp2_with fail
      go_roundw
      case rel =>
        refine ⟨k + 1, by omega, by simp, Lib.hid ?_, hb13.setCell (Nat.le_refl _) _⟩
        have h := (HO3.out.stored k (.string y)).1
        rwa [fillTo_set ys k y HD.out] at h
      case measure => simp [intOf]; omega
    · obtain rfl : k = n := by omega
      have HL : Hid (L5.Lies wr wr.heap.size (some ⟨w.heap.size, 0, none⟩) ys) := Lib.hid (by
        have h := HO.out
        rw [show fillTo ys k = L5.strCells ys by rw [← HY.out, fillTo_full]] at h
        exact L5.lies_own h HY.out.symm)
      go_wp2_with fail
      go_ret2
      exact ⟨_, rfl, HL.out, hbr⟩
end Go.Proofs.YtpehkikdmckldaaGreatDoor

namespace Go.Proofs.YtpehkikdmckldaaGreatDoor.L8
open Go.Proofs.YtpehkikdmckldaaGreatDoor.L5
open Go.RowKit
set_option linter.unusedVariables false
set_option linter.unusedSimpArgs false

theorem sum_bs (l : List ByteArray) (h : ∀ s ∈ l, s.size ≤ 65535) : LP.sum (Bs l) ≤ 65535 * l.length := by
  induction l with
  | nil => simp [Bs, LP.sum]
  | cons c l ih =>
    have h1 := h c (by simp)
    have h2 := ih (fun s hs => h s (by simp [hs]))
    simp only [Bs, List.map_cons, LP.sum, List.length_cons] at h2 ⊢
    have := b_size c
    omega
theorem sum_take (l : List ByteArray) (k : Nat) (s : ByteArray) (h : l[k]? = some s) : LP.sum (Bs (l.take (k + 1))) = LP.sum (Bs (l.take k)) + s.size := by
  rw [bs_snoc l k s h, LP.sum_append]
  simp [LP.sum, b_size]

set_option maxHeartbeats 1000000 in
theorem size8_any (f : ByteArray) (A : Option Addr) (l : List ByteArray) (ca : Nat) (w : World) (ha : Lies w w.heap.size A l) (hl : l.length ≤ 1000000) (hf : f.size ≤ 1000000) (hs : ∀ s ∈ l, s.size ≤ 65535) :
    Calls Tryz.prog 51 #[.string f, .slice A l.length ca] w fun e w' => e = .returned (.int .i64 (LP.need f.size (Bs l) : Nat)) ∧ w = w' := by
  have HA := Lib.hid ha
  have HS := Lib.hid hs
  obtain ⟨n, hn⟩ : ∃ n, n = l.length := ⟨_, rfl⟩
  have HN := Lib.hid hn
  rw [← hn] at hl ⊢
  clear ha hs hn
  go_enter Tryz.func51, Tryz.ntmps51
  go_wp2_with fail
  go_loop [5, 6] (fun nv iv => ∃ k : Nat, k ≤ n ∧ iv = .int .i64 k ∧ nv = .int .i64 (f.size + 2 + LP.sum (Bs (l.take k)) + 2 * k : Nat)) (fun _ iv => n - (intOf iv).toNat)
  case atStart => exact ⟨0, Nat.zero_le _, rfl, by simp [Bs, LP.sum]⟩
  case round =>
    obtain ⟨k, hk, rfl, rfl⟩ := hrel
    have hb : LP.sum (Bs (l.take k)) ≤ 65535 * n := Nat.le_trans (sum_bs _ (fun s hs => HS.out s (List.mem_of_mem_take hs))) (Nat.mul_le_mul_left _ (by rw [List.length_take]; omega))
    by_cases hlt : k < n
    · obtain ⟨c, hc⟩ : ∃ c, l[k]? = some c := ⟨_, List.getElem?_eq_getElem (by have := HN.out; omega)⟩
      obtain ⟨a, rfl, hab, hcell⟩ := HA.out k c hc
      have hcs : c.size ≤ 65535 := HS.out c (List.mem_of_getElem? hc)
      have HT := Lib.hid (sum_take l k c hc)
      clear hc hab
      generalize LP.sum (Bs (l.take k)) = q at *
      go_wp2_with fail
      go_round
      case rel => exact ⟨k + 1, by omega, by go_num, by rw [HT.out]; go_num⟩
      case measure => simp [intOf]; omega
    · obtain rfl : k = n := by omega
      have HE : Hid (f.size + 2 + LP.sum (Bs (l.take k)) + 2 * k = LP.need f.size (Bs l)) := Lib.hid (by
        rw [HN.out, List.take_length]
        unfold LP.need
        rw [bs_length])
      rw [HE.out]
      go_wp2_with fail
      go_ret
      exact ⟨rfl, rfl⟩

theorem addr_at (b j : Nat) : (⟨b, 0, none⟩ : Addr).add j = ⟨b, j, none⟩ := by
  unfold Addr.add
  split <;> simp_all
theorem conv_new (w : World) (xs : List Int) (t e s : TypeId) {P : Program} (ht : P.underlying t = some (.slice e)) (he : P.underlying e = some (.int .u8)) (hs : P.underlying s = some .string) :
    (convert t s (.slice (some ⟨w.heap.size, 0, none⟩) xs.length xs.length)).run P (w.alloc (.cells (xs.map (Value.int .u8)).toArray e)) = .ok (.string (strOfNums xs)) (w.alloc (.cells (xs.map (Value.int .u8)).toArray e)) := by
  refine run_convert_bytes_arg _ t e ht he _ 0 _ _ xs rfl (fun i hi => ?_) s hs
  rw [Nat.zero_add, cell_of_row _ _ i _ _ _ (heap_alloc_new _ _)]
  simp [hi]

/-- the cells of bytes -/
def byteCells (l : List UInt8) : List Value := l.map fun b => .int .u8 b.toNat

theorem own_none {w : World} {base : Nat} {t : TypeId} (h : base ≤ w.heap.size) : (w.alloc (.cells #[] t)).ownsRow base t 1 (.slice (some ⟨w.heap.size, 0, none⟩) 0 0) 0 [] :=
  ⟨rfl, .inr ⟨w.heap.size, 0, #[], rfl, h, heap_alloc_new _ _, Nat.le_refl _, by unfold maxLen; omega, rfl, rfl⟩⟩

theorem conv_own {P : Program} {w : World} {base : Nat} {t e s : TypeId} {g n cap : Nat} {l : List UInt8} (ht : P.underlying t = some (.slice e)) (he : P.underlying e = some (.int .u8)) (hs : P.underlying s = some .string)
    (h : w.ownsRow base e 1 (.slice (some ⟨g, 0, none⟩) n cap) n (byteCells l)) (hl : l.length = n) : (convert t s (.slice (some ⟨g, 0, none⟩) n cap)).run P w = .ok (.string ⟨l.toArray⟩) w := by
  subst hl
  refine run_convert_bytes_back w t s e _ cap l ht he hs (fun j hj => ?_)
  rw [addr_at, h.cellAt j (by omega)]
  simp [byteCells, hj]

theorem Tryz.infoByte : (Tryz.prog.info? 5).map (fun i => (i.zero, i.size, i.bytes)) = some (some (.int .u8 0), 1, 1) := by kernel_rfl

theorem byteCells_snoc (l : List UInt8) (b : UInt8) : byteCells (l ++ [b]) = byteCells l ++ [.int .u8 b.toNat] := by simp [byteCells]

set_option maxHeartbeats 400000 in
theorem refRepeat_any (c : UInt8) (n : Nat) (w : World) (hn : n ≤ 100000) :
    Calls Tryz.prog 30 #[.int .u8 c.toNat, .int .i64 n] w fun e w' => e = .returned (.string ⟨(List.replicate n c).toArray⟩) ∧ Below w.heap.size w w' := by
  obtain ⟨i0, hi, hz0, hz1, hz2⟩ := info_parts Tryz.infoByte
  go_enter Tryz.func30, Tryz.ntmps30
  go_wp2_with fail
  go_loopw [5, 6] (fun v i wr => ∃ (k g cap : Nat), k ≤ n ∧ i = .int .i64 k ∧ v = .slice (some ⟨g, 0, none⟩) k cap ∧ w.heap.size ≤ g ∧ wr.ownsRow w.heap.size 5 1 (.slice (some ⟨g, 0, none⟩) k cap) k (byteCells (List.replicate k c)) ∧ Below w.heap.size w wr) (fun _ i _ => n - (intOf i).toNat)
  case atStart => exact ⟨0, w.heap.size, 0, by omega, rfl, rfl, Nat.le_refl _, own_none (Nat.le_refl _), (Below.refl _ w).alloc (Nat.le_refl _) _⟩
  case round =>
    obtain ⟨k, g, cap, hk, rfl, rfl, hg, hown, hb⟩ := hrel
    have hbs := hb.size
    by_cases hlt : k < n
    · go_wp2_with (at_builtin; refine wpList_append_lies _ rfl _ _ 103 rfl w.heap.size 5 i0 (.int .u8 0) 1 1 Tryz.underlying103 hi hz0 hz1 hz2 rfl (by decide) (.slice (some ⟨g, 0, none⟩) k cap) k _ rfl (hown.alloc _) ⟨wr.heap.size, 0, none⟩ 1 1 [.int .u8 c.toNat] rfl rfl (World.news_of_block (cs := #[.int .u8 c.toNat]) (t := 5) (fr := (0, 0)) (heap_alloc_new wr _)) (by simp [Value.oneCell']) (by omega) (by unfold maxLen; omega) (by omega) (by simp; omega) (wr.heap.size + 1) (by simp) ?_; intro g' cap' w1 hown1 hgrow hat hlt1)
      have hg' : w.heap.size ≤ g' := by rcases hat with h | h; (simp [Value.ownBlock] at h; omega); omega
      have hb' : Below w.heap.size w w1 := (hb.alloc hbs _).grown hgrow (by simp; omega) (fun j e => by simp [Value.ownBlock] at e; omega)
      clear hat hgrow hlt1
      go_roundw
      case rel => exact ⟨k + 1, g', cap', by omega, by go_num, rfl, hg', by rw [List.replicate_succ', byteCells_snoc]; exact hown1, hb'⟩
      case measure => simp [intOf]; omega
    · obtain rfl : k = n := by omega
      have hcv := conv_own Tryz.underlying103 Tryz.underlying5 Tryz.underlying9 hown (by simp)
      go_wp2_with fail
      go_ret
      exact ⟨rfl, hb⟩

theorem repeat0_any (n : Nat) (w : World) (hn : n ≤ 100000) :
    Calls Tryz.prog 30 #[.int .u8 0, .int .i64 n] w fun e w' => e = .returned (.string ⟨(List.replicate n (0 : UInt8)).toArray⟩) ∧ Below w.heap.size w w' := refRepeat_any 0 n w hn
theorem two_text (n : Nat) (h : n < 65536) : strOfNums [((n % 256 : Nat) : Int), ((n / 256 : Nat) : Int)] = (⟨(LP.two n).toArray⟩ : ByteArray) := by
  apply ByteArray.ext
  simp [strOfNums, LP.two, LP.u8]
  exact ⟨congrArg _ (by omega), congrArg _ (by omega)⟩
set_option maxHeartbeats 400000 in
theorem two_any (n : Nat) (w : World) (h : n < 65536) :
    Calls Tryz.prog 67 #[.int .i64 n] w fun e w' => e = .returned (.string ⟨(LP.two n).toArray⟩) ∧ Below w.heap.size w w' := by
  have hc := fun a b => conv_new w [a, b] 103 5 9 Tryz.underlying103 Tryz.underlying5 Tryz.underlying9
  simp only [List.length_cons, List.length_nil, List.map_cons, List.map_nil, Nat.zero_add, Nat.reduceAdd] at hc
  have HT := Lib.hid (two_text n h)
  obtain ⟨a, ha⟩ : ∃ a : Nat, a = n % 256 := ⟨_, rfl⟩
  obtain ⟨b, hb⟩ : ∃ b : Nat, b = n / 256 := ⟨_, rfl⟩
  rw [← ha, ← hb] at HT
  have q1 : (n : Int) % 256 = a := by omega
  have q2 : (n : Int).tmod 256 = a := by rw [Int.tmod_eq_emod_of_nonneg (by omega)]; exact q1
  have q3 : (n : Int) / 256 = b := by omega
  have q4 : (n : Int).tdiv 256 = b := by rw [Int.tdiv_eq_ediv_of_nonneg (by omega)]; exact q3
  have q5 : IntKind.i64.wrap (b : Int) = b := IntWalk.i64_in _ (by omega)
  have q6 : IntKind.u8.wrap (a : Int) = a := IntWalk.u8_in _ (by omega)
  have q7 : IntKind.u8.wrap (b : Int) = b := IntWalk.u8_in _ (by omega)
  have q8 : (a : Int) % 256 = a := by omega
  have q9 : (b : Int) % 256 = b := by omega
  clear ha hb
  go_enter Tryz.func67, Tryz.ntmps67
  go_wp2_with fail
  go_ret
  exact ⟨by rw [← HT.out]; rfl, (Below.refl _ w).alloc (Nat.le_refl _) _⟩
theorem getD_of (s : ByteArray) (i : Nat) (hi : i < s.size) : s.data.toList.getD i 0 = s[i] := by
  rw [List.getD_eq_getElem?_getD, List.getElem?_eq_getElem (by simpa using hi)]
  rfl
set_option maxHeartbeats 1000000 in
theorem at_any (s : ByteArray) (i : Nat) (w : World) (h : 2 * i + 2 ≤ s.size) (hs : s.size ≤ 65535) :
    Calls Tryz.prog 85 #[.string s, .int .i64 i] w fun e w' => e = .returned (.int .i64 (LP.at_ (B s) i : Nat)) ∧ Below w.heap.size w w' := by
  obtain ⟨k, hk⟩ : ∃ k : Nat, k = s.size - 2 * i - 2 := ⟨_, rfl⟩
  have i0 : k < s.size := by omega
  have i1 : k + 1 < s.size := by omega
  obtain ⟨b0, hb0⟩ : ∃ c, s[k]'i0 = c := ⟨_, rfl⟩
  obtain ⟨b1, hb1⟩ : ∃ c, s[k + 1]'i1 = c := ⟨_, rfl⟩
  have HV : Hid ((b0.toNat + 256 * b1.toNat : Nat) = LP.at_ (B s) i) := Lib.hid (by
    unfold LP.at_
    rw [show (B s).length = s.size from b_size s, ← hk, show s.size - 2 * i - 1 = k + 1 by omega, getD_of s k i0, getD_of s (k + 1) i1, hb0, hb1])
  rw [← HV.out]
  have l0 : b0.toNat < 256 := b0.toNat_lt
  have l1 : b1.toNat < 256 := b1.toNat_lt
  have r1 : IntKind.i64.wrap (256 * (b1.toNat : Int)) = 256 * (b1.toNat : Int) := IntWalk.i64_in _ (by omega)
  have r2 : IntKind.i64.wrap ((b0.toNat : Int) + 256 * (b1.toNat : Int)) = (b0.toNat : Int) + 256 * (b1.toNat : Int) := IntWalk.i64_in _ (by omega)
  have r3 : IntKind.i64.wrap (b0.toNat : Int) = b0.toNat := IntWalk.i64_in _ (by omega)
  have r4 : IntKind.i64.wrap (b1.toNat : Int) = b1.toNat := IntWalk.i64_in _ (by omega)
  have q1 : IntKind.i64.wrap (2 * (i : Int)) = 2 * (i : Int) := IntWalk.i64_in _ (by omega)
  have q2 : IntKind.i64.wrap ((s.size : Int) - 2 * i) = (s.size : Int) - 2 * i := IntWalk.i64_in _ (by omega)
  have q3 : IntKind.i64.wrap ((s.size : Int) - 2 * i - 2) = (k : Int) := by rw [show (s.size : Int) - 2 * i - 2 = k by omega]; exact IntWalk.i64_in _ (by omega)
  have q4 : (s.size : Int) - 2 * i - 2 = k := by omega
  have q5 : IntKind.i64.wrap (k : Int) = k := IntWalk.i64_in _ (by omega)
  have q6 : IntKind.i64.wrap ((k : Int) + 1) = (k : Int) + 1 := IntWalk.i64_in _ (by omega)
  have j0 : (k : Int) < s.size := by omega
  have j1 : (k : Int) + 1 < s.size := by omega
  have q8 : ((k : Int) + 1).toNat = k + 1 := by omega
  have q9 : (0 : Int) ≤ (k : Int) + 1 := by omega
  clear hk h hs
  go_enter Tryz.func85, Tryz.ntmps85
  go_wp2_with fail
  go_quiet (fail)
  go_wp2_with fail
  go_ret
  exact ⟨by go_num, below_drewN (Below.refl _ _) nq⟩
end Go.Proofs.YtpehkikdmckldaaGreatDoor.L8

namespace Go.Proofs.YtpehkikdmckldaaGreatDoor.L8
open Go.Proofs.YtpehkikdmckldaaGreatDoor.L5
open Go.RowKit
set_option linter.unusedVariables false
set_option linter.unusedSimpArgs false

set_option maxHeartbeats 1000000 in
theorem size_any (f : ByteArray) (A : Option Addr) (l : List ByteArray) (ca : Nat) (w : World) (ha : Lies w w.heap.size A l) (hl : l.length ≤ 1000000) (hf : f.size ≤ 1000000) (hs : ∀ s ∈ l, s.size ≤ 65535) :
    Calls Tryz.prog 50 #[.string f, .slice A l.length ca] w fun e w' => e = .returned (.int .i64 (LP.need f.size (Bs l) : Nat)) ∧ w = w' := by
  have HA := Lib.hid ha
  have HS := Lib.hid hs
  obtain ⟨n, hn⟩ : ∃ n, n = l.length := ⟨_, rfl⟩
  have HN := Lib.hid hn
  rw [← hn] at hl ⊢
  clear ha hs hn
  go_enter Tryz.func50, Tryz.ntmps50
  go_wp2_with fail
  go_loop [5, 7, 17] (fun nv cv iv => ∃ k : Nat, k ≤ n ∧ iv = .int .i64 k ∧ nv = .int .i64 (f.size + 2 * (n + 1) + LP.sum (Bs (l.take k)) : Nat)) (fun _ _ iv => n - (intOf iv).toNat)
  case atStart => exact ⟨0, Nat.zero_le _, rfl, by simp [Bs, LP.sum]⟩
  case round =>
    obtain ⟨k, hk, rfl, rfl⟩ := hrel
    have hb : LP.sum (Bs (l.take k)) ≤ 65535 * n := Nat.le_trans (sum_bs _ (fun s hs => HS.out s (List.mem_of_mem_take hs))) (Nat.mul_le_mul_left _ (by rw [List.length_take]; omega))
    by_cases hlt : k < n
    · obtain ⟨c, hc⟩ : ∃ c, l[k]? = some c := ⟨_, List.getElem?_eq_getElem (by have := HN.out; omega)⟩
      obtain ⟨a, rfl, hab, hcell⟩ := HA.out k c hc
      have hcs : c.size ≤ 65535 := HS.out c (List.mem_of_getElem? hc)
      have HT := Lib.hid (sum_take l k c hc)
      clear hc hab
      generalize LP.sum (Bs (l.take k)) = q at *
      go_wp2_with fail
      go_round
      case rel => exact ⟨k + 1, by omega, by go_num, by rw [HT.out]; go_num⟩
      case measure => simp [intOf]; omega
    · obtain rfl : k = n := by omega
      have HE : Hid (f.size + 2 * (k + 1) + LP.sum (Bs (l.take k)) = LP.need f.size (Bs l)) := Lib.hid (by
        rw [HN.out, List.take_length]
        unfold LP.need
        rw [bs_length]
        omega)
      rw [HE.out]
      go_wp2_with fail
      go_ret
      exact ⟨rfl, rfl⟩
end Go.Proofs.YtpehkikdmckldaaGreatDoor.L8

namespace Go.Proofs.YtpehkikdmckldaaGreatDoor
open Go.RowKit NP
set_option linter.unusedVariables false
set_option linter.unusedSimpArgs false

def ks (l : List It) : List ByteArray := l.map It.k
def fixedS (H : ByteArray) (l : List It) : ByteArray := L9.textS (L5.headS (ks l)) ++ L9.textS H
def cellOf (l : List It) (x : It) : ByteArray := L9.cellS (L5.bare (L5.sp (ks l)) x.k) x.v
def cellsS (l : List It) : List ByteArray := l.map (cellOf l)
theorem ks_length (l : List It) : (ks l).length = l.length := by simp [ks]
theorem cellsS_length (l : List It) : (cellsS l).length = l.length := by simp [cellsS]
theorem ks_keys (l : List It) : L5.Bs (ks l) = keys l := by simp [L5.Bs, ks, keys, It.key]
theorem sp_keys (l : List It) : L5.sp (ks l) = L5.EP.span (keys l) := by unfold L5.sp; rw [ks_keys]
theorem head_com (l : List It) : (L5.headS (ks l)).data.toList = com l := by
  cases l with
  | nil => rfl
  | cons x l =>
    show ((x.k).extract 0 (L5.sp (ks (x :: l)))).data.toList = x.key.take _
    rw [sp_keys, Lib.extract_data]
    simp [It.key]
theorem fixedS_list (F R : Int) (H : ByteArray) (l : List It) : (fixedS H l).data.toList = fixed ⟨F, R, H, l⟩ := by
  have h := head_com l
  simp only [fixedS, fixed, L9.textS, h]
  simp
theorem bare_list (p : Nat) (s : ByteArray) : (L5.bare p s).data.toList = s.data.toList.drop p := by
  show (s.extract p s.size).data.toList = _
  rw [Lib.extract_data, List.take_of_length_le (by simp)]
theorem cellOf_list (l : List It) (x : It) : (cellOf l x).data.toList = L9.VP.cellV (x.key.drop (L5.EP.span (keys l))) x.v := by
  have hb : (L5.bare (L5.sp (ks l)) x.k).data.toList = x.key.drop (L5.EP.span (keys l)) := by
    have h := bare_list (L5.sp (ks l)) x.k
    rw [sp_keys] at h
    rw [sp_keys]
    exact h
  unfold cellOf L9.cellS
  rw [hb]
theorem cellsS_list (l : List It) : L5.Bs (cellsS l) = cells l := by
  unfold cellsS cells L5.Bs
  rw [List.map_map]
  exact List.map_congr_left fun x _ => cellOf_list l x
theorem size_eq (F R : Int) (H : ByteArray) (l : List It) : L8.LP.need (fixedS H l).size (L5.Bs (cellsS l)) = size ⟨F, R, H, l⟩ := by
  unfold size
  rw [cellsS_list, ← fixedS_list F R H l]
  congr 1

/-- What parts asks. -/
structure Fit (H : ByteArray) (l : List It) : Prop where
  few : l.length ≤ 1000
  high : H.size ≤ 1000
  key : ∀ x ∈ l, x.k.size ≤ 1000
  text : ∀ x ∈ l, x.s.size ≤ 1000
  ok : ∀ x ∈ l, L9.VP.OkV (x.key.drop (L5.EP.span (keys l))) x.v
theorem May.fit {F R : Int} {H : ByteArray} {l : List It} {p : Int} (h : May ⟨F, R, H, l⟩ p) (hn : l.length ≤ 1000) : Fit H l := by
  have hp := mayBe_le h.1
  refine ⟨hn, ?_, fun x hx => ?_, fun x hx => ?_, fun x hx => h.okV hx _⟩
  · by_cases h0 : R = 0
    · rw [show H.size = 0 from h.2.2.1.1 h0]; omega
    · have : (H.size : Int) ≤ p / 8 := (h.2.2.1.2 h0).2.1
      omega
  · have := (h.2.2.2.2 x hx).1
    omega
  · have hs : x.v.s.length = x.s.size := by simp [It.v]
    rcases (h.2.2.2.2 x hx).2.1 with ⟨_, h2, _⟩ | ⟨_, h2, _⟩
    · rw [h2] at hs; simp at hs; omega
    · omega
theorem headS_size {l : List It} (h : ∀ x ∈ l, x.k.size ≤ 1000) : (L5.headS (ks l)).size ≤ 1000 := by
  cases l with
  | nil => exact Nat.zero_le _
  | cons x l =>
    have := h x (List.mem_cons_self)
    show ((x.k).extract 0 _).size ≤ 1000
    simp
    omega

set_option maxHeartbeats 2000000 in
set_option maxRecDepth 100000 in
theorem parts_any (F R : Int) (H : ByteArray) (A : Option Addr) (l : List It) (ca : Nat) (w : World) (ha : Lies5 w w.heap.size A l) (hf : Fit H l) :
    Calls Tryz.prog 33 #[lv F R H A l.length ca] w fun e w' => ∃ G, e = .returned (.tuple #[.string (fixedS H l), .slice G l.length l.length]) ∧ L5.Lies w' w'.heap.size G (cellsS l) ∧ Below w.heap.size w w' := by
  have hb0 := lbox_below 24 F R H A l.length ca w
  have HB0 := Lib.hid hb0
  have HA := Lib.hid (ha.on hb0)
  have HK := Lib.hid (lbox_new 24 F R H A l.length ca w)
  have HF := Lib.hid hf
  have H1 := Lib.hid (fun W (h : Lies5 W W.heap.size A l) => each1_any A l ca (ks l) W h (by have := hf.few; omega) (ks_length l) (fun k K O S L P y V hc hd _ => by
    have e : (ks l)[k]? = some K := by simp [ks, hc]
    obtain rfl := Option.some.inj (e.symm.trans hd)
    exact parts1_any k K O S L P V))
  have H2 := Lib.hid (fun G W (h : L5.Lies W W.heap.size G (ks l)) => L5.strip_any G (ks l) (ks l).length W h (by rw [ks_length]; exact hf.few) (fun s hs => by
    obtain ⟨x, hx, rfl⟩ := List.mem_map.1 hs
    exact hf.key x hx) (Nat.le_refl _))
  have H3 := Lib.hid (fun (g : Nat) (G : Option Addr) (cap : Nat) W (h : Lies5 W W.heap.size A l) (hg : g < W.heap.size) (hc : W.cell? ⟨g, 0, none⟩ = some (.slice G l.length cap)) (hL : L5.Lies W W.heap.size G (L5.bares (ks l))) =>
    each2_any A l ca (cellsS l) g W h (by have := hf.few; omega) (cellsS_length l) (fun k K O S L P y V hx hy hb => by
      have hbl : (L5.bares (ks l)).length = l.length := by rw [L5.bares_length, ks_length]
      have e : (L5.bares (ks l))[k]? = some (L5.bare (L5.sp (ks l)) K) := by simp [L5.bares, ks, hx]
      have e2 : (cellsS l)[k]? = some (cellOf l ⟨K, O, S, L, P⟩) := by simp [cellsS, hx]
      obtain rfl := Option.some.inj (e2.symm.trans hy)
      have hm := List.mem_of_getElem? hx
      refine parts2_any k K O S L P g G (L5.bares (ks l)) cap (L5.bare (L5.sp (ks l)) K) V (by rw [hbl]; exact (hb.cell (p := ⟨g, 0, none⟩) hg).trans hc) (Nat.lt_of_lt_of_le hg hb.size) (hL.on hb) e (by rw [hbl]; have := hf.few; omega) ?_ (by have := hf.text _ hm; simp only at this; omega) ?_
      · have := hf.key _ hm
        have h2 : (L5.bare (L5.sp (ks l)) K).size ≤ K.size := by simp [L5.bare]
        simp only at this
        omega
      · have h2 := bare_list (L5.sp (ks l)) K
        rw [sp_keys] at h2
        rw [sp_keys, h2]
        exact hf.ok _ hm))
  have HT1 := Lib.hid (fun W => text_any (L5.headS (ks l)) W (by have := headS_size hf.key; omega))
  have HT2 := Lib.hid (fun W => text_any H W (by have := hf.high; omega))
  have HZ : Hid (L9.textS (L5.headS (ks l)) ++ L9.textS H = fixedS H l) := Lib.hid rfl
  have z1 := L9.textS_size (L5.headS (ks l)) (by have := headS_size hf.key; omega)
  have z2 := L9.textS_size H (by have := hf.high; omega)
  have z3 := headS_size hf.key
  have z4 := hf.high
  generalize L9.textS (L5.headS (ks l)) = Z1 at *
  generalize L9.textS H = Z2 at *
  have hz : ¬ 9223372036854775807 < Z1.size + Z2.size := by omega
  have hz' : ¬ (9223372036854775807 : Int) < (Z1.size : Int) + (Z2.size : Int) := by omega
  obtain ⟨n, hn⟩ : ∃ n, n = l.length := ⟨_, rfl⟩
  have HN := Lib.hid hn
  have hnl := hf.few
  rw [ks_length] at H1 H2
  rw [cellsS_length] at H3
  rw [← hn] at H1 H2 H3 HK hnl HB0 HA
  rw [← hn]
  clear ha hf hb0 z1 z2 z3 z4 hn
  go_enter Tryz.func33, Tryz.ntmps33
  go_wp2_with fail
  refine (H1.out _ HA.out).mono ?_
  rintro e w2 ⟨G1, rfl, HL1, hb2⟩
  go_wp2_with fail
  refine (H2.out G1 _ HL1).mono ?_
  rintro e w3 ⟨G2, cap2, rfl, hcap, HL2, hb3⟩
  have hb4 := L5.below_alloc w3 (.cells #[.slice G2 n cap2] 66)
  have HA4 := Lib.hid (((HA.out.on hb2).on hb3).on hb4)
  have HK3 := Lib.hid ((HK.out.below hb2).below hb3)
  have HK4 := Lib.hid (HK3.out.below hb4)
  have HX3 := Lib.hid (HL2.on hb4)
  have HC3 : Hid ((w3.alloc (.cells #[.slice G2 n cap2] 66)).cell? ⟨w3.heap.size, 0, none⟩ = some (.slice G2 n cap2)) := Lib.hid (by simp)
  have HZ3 : Hid (w3.heap.size < (w3.alloc (.cells #[.slice G2 n cap2] 66)).heap.size) := Lib.hid (by simp)
  have HB4 := Lib.hid (((HB0.out.trans' hb2).trans' hb3).trans' hb4)
  have hlt : w.heap.size < w3.heap.size := HK3.out.lt
  obtain ⟨c0, c1, c2, c3⟩ := HK3.out.cells
  obtain ⟨e0, e1, e2, e3⟩ := HK4.out.cells
  clear HL1 HL2 hb2 hb3 hb4 hcap
  go_wp2_with fail
  refine (H3.out w3.heap.size G2 cap2 _ HA4.out HZ3.out HC3.out HX3.out).mono ?_
  rintro e w5 ⟨G3, rfl, HL3, hb5⟩
  have HL5 := Lib.hid HL3
  have HK5 := Lib.hid (HK4.out.below hb5)
  have HB5 := Lib.hid (HB4.out.trans' hb5)
  clear HL3 hb5 c0 c1 c2 c3 e0 e1 e2 e3
  have HS : Hid (∀ V, Below w5.heap.size w5 V → (Hid (Below w5.heap.size w5 V) ∧ V.cell? ⟨w.heap.size, 2, none⟩ = some (.string H))) := Lib.hid (fun V hb => ⟨Lib.hid hb, (HK5.out.below hb).cells.2.2.1⟩)
  have hSd := HS.out _ (L5.below_drewN (Below.refl _ w5) 1)
  have hS0 := HS.out _ (Below.refl _ w5)
  go_wp2_with fail
  go_region_held3 (fun V => Hid (Below w5.heap.size w5 V) ∧ V.cell? ⟨w.heap.size, 2, none⟩ = some (.string H))
    (first | assumption | exact hSd)
    (first
      | (go_at_call 62; refine (HT1.out _).mono ?_; rintro e V ⟨rfl, hb⟩; have HBV := Lib.hid ((by assumption : Hid (Below w5.heap.size w5 _) ∧ _).1.out.trans' hb); have hSn := HS.out _ HBV.out; clear hb)
      | (go_at_call 62; refine (HT2.out _).mono ?_; rintro e V ⟨rfl, hb⟩; have HBV := Lib.hid ((by assumption : Hid (Below w5.heap.size w5 _) ∧ _).1.out.trans' hb); have hSn := HS.out _ HBV.out; clear hb)
      | fail "no arm")
  all_goals
    go_wp2_with fail
    go_ret2
    exact ⟨G3, by rw [HZ.out] <;> rfl, HL5.out.on HBV.out, HB5.out.trans' HBV.out⟩

theorem fixedS_size {H : ByteArray} {l : List It} (hf : Fit H l) : (fixedS H l).size ≤ 2100 := by
  have z1 := L9.textS_size (L5.headS (ks l)) (by have := headS_size hf.key; omega)
  have z2 := L9.textS_size H (by have := hf.high; omega)
  have z3 := headS_size hf.key
  have z4 := hf.high
  unfold fixedS
  simp only [ByteArray.size_append]
  omega
theorem cellsS_size {H : ByteArray} {l : List It} (hf : Fit H l) : ∀ s ∈ cellsS l, s.size ≤ 3000 := by
  intro s hs
  obtain ⟨x, hx, rfl⟩ := List.mem_map.1 hs
  have h1 : (cellOf l x).data.toList.length = (cellOf l x).size := by simp
  rw [← h1, cellOf_list]
  have hk := hf.key x hx
  have ht := hf.text x hx
  have hl : (x.key.drop (L5.EP.span (keys l))).length ≤ 1000 := by rw [List.length_drop, key_length]; omega
  have t1 := text_few (x.key.drop (L5.EP.span (keys l))) (by omega)
  have hs : x.v.s.length = x.s.size := by simp [It.v]
  have t2 := tail_few (v := x.v) (q := 1000) (hf.ok x hx).2 (by omega) (fun _ => by omega)
  simp only [L9.VP.cellV, List.length_append]
  omega

set_option maxHeartbeats 1000000 in
theorem lsize_any (F R : Int) (H : ByteArray) (A : Option Addr) (l : List It) (ca : Nat) (w : World) (ha : Lies5 w w.heap.size A l) (hf : Fit H l) :
    Calls Tryz.prog 19 #[lv F R H A l.length ca] w fun e w' => e = .returned (.int .i64 (size ⟨F, R, H, l⟩ : Nat)) ∧ Below w.heap.size w w' := by
  have hb0 := lbox_below 24 F R H A l.length ca w
  have HP := Lib.hid (parts_any F R H A l ca _ (ha.on hb0) hf)
  have HS := Lib.hid (fun G W (h : L5.Lies W W.heap.size G (cellsS l)) => L8.size_any (fixedS H l) G (cellsS l) l.length W h (by rw [cellsS_length]; have := hf.few; omega) (by have := fixedS_size hf; omega) (fun s hs => by have := cellsS_size hf s hs; omega))
  rw [size_eq F R, cellsS_length] at HS
  generalize size ⟨F, R, H, l⟩ = z at *
  generalize l.length = n at *
  clear ha hf
  go_enter Tryz.func19, Tryz.ntmps19
  go_wp2_with fail
  refine HP.out.mono ?_
  rintro e w2 ⟨G, rfl, HL, hb2⟩
  go_wp2_with fail
  refine (HS.out G _ HL).mono ?_
  rintro e w3 ⟨rfl, rfl⟩
  go_wp2_with fail
  go_ret
  exact ⟨rfl, hb0.trans' hb2⟩
end Go.Proofs.YtpehkikdmckldaaGreatDoor

namespace Go.Proofs.YtpehkikdmckldaaGreatDoor.L7
open Go.RowKit
open Go.ChangeShapes
set_option linter.unusedVariables false
set_option linter.unusedSimpArgs false

/-- The sizes that a page may have, as the program's variable has them. -/
def Sizes (w : World) : Prop := w.cell? ⟨0, 0, none⟩ = some (.int .i64 128) ∧ w.cell? ⟨0, 1, none⟩ = some (.int .i64 256) ∧ w.cell? ⟨0, 2, none⟩ = some (.int .i64 512) ∧ w.cell? ⟨0, 3, none⟩ = some (.int .i64 1024)

theorem Sizes.lt {w : World} (h : Sizes w) : 0 < w.heap.size := by
  refine Nat.lt_of_not_le fun hn => ?_
  have := h.1
  simp [World.cell?, Array.getElem?_eq_none hn] at this

theorem Sizes.below {w w' : World} {c : Nat} (h : Sizes w) (hc : 0 < c) (k : Below c w w') : Sizes w' :=
  ⟨(k.cell hc).trans h.1, (k.cell hc).trans h.2.1, (k.cell hc).trans h.2.2.1, (k.cell hc).trans h.2.2.2⟩

theorem sizes_of {W : World} (h : laidMet Tryz.prog [("withy/disk.sizes", Rows.laid_withy_disk_sizes)] W) : Sizes W := by
  have t : Lib.TabIs Tryz.prog W "withy/disk.sizes" .i64 [128, 256, 512, 1024] :=
    Lib.tabIs_of_head (g := 0) (t := 108) (e := 3) (n := 4) (rest := []) (by kernel_rfl) (by kernel_rfl) Tryz.underlying108 Tryz.underlying3 (by kernel_rfl) (by kernel_rfl) h
  have hg : Tryz.prog.globalNamed "withy/disk.sizes" = some 0 := by kernel_rfl
  exact ⟨t.cell hg 0 (by decide), t.cell hg 1 (by decide), t.cell hg 2 (by decide), t.cell hg 3 (by decide)⟩

def four : Value := .agg #[.int .i64 128, .int .i64 256, .int .i64 512, .int .i64 1024]

theorem ix0 : ∀ W : World, (Instr.index 108 (.agg #[.int .i64 128, .int .i64 256, .int .i64 512, .int .i64 1024]) (.int .i64 0)).run Tryz.prog W = .ok (.int .i64 128) W := fun W => by kernel_rfl

theorem ix1 : ∀ W : World, (Instr.index 108 (.agg #[.int .i64 128, .int .i64 256, .int .i64 512, .int .i64 1024]) (.int .i64 1)).run Tryz.prog W = .ok (.int .i64 256) W := fun W => by kernel_rfl

theorem ix2 : ∀ W : World, (Instr.index 108 (.agg #[.int .i64 128, .int .i64 256, .int .i64 512, .int .i64 1024]) (.int .i64 2)).run Tryz.prog W = .ok (.int .i64 512) W := fun W => by kernel_rfl

theorem ix3 : ∀ W : World, (Instr.index 108 (.agg #[.int .i64 128, .int .i64 256, .int .i64 512, .int .i64 1024]) (.int .i64 3)).run Tryz.prog W = .ok (.int .i64 1024) W := fun W => by kernel_rfl

set_option maxHeartbeats 1000000 in
set_option maxRecDepth 100000 in
theorem size_any (p : Int) (w : World) (h : Sizes w) : Calls Tryz.prog 32 #[.int .i64 p] w fun e w' => e = .returned (.bool (mayBe p)) ∧ w = w' := by
  obtain ⟨s0, s1, s2, s3⟩ := h
  have ix0 := ix0
  have ix1 := ix1
  have ix2 := ix2
  have ix3 := ix3
  obtain ⟨r, hr⟩ : ∃ r, r = mayBe p := ⟨_, rfl⟩
  have HR := Lib.hid hr
  rw [← hr]
  clear hr
  go_enter Tryz.func32, Tryz.ntmps32
  go_wp2_with fail
  go_loopw [6] (fun iv wr => ∃ k : Nat, k ≤ 4 ∧ iv = .int .i64 k ∧ Hid (wr = w) ∧ Hid ((0 < k → p ≠ 128) ∧ (1 < k → p ≠ 256) ∧ (2 < k → p ≠ 512) ∧ (3 < k → p ≠ 1024))) (fun iv _ => 4 - (intOf iv).toNat)
  case atStart => exact ⟨0, by omega, rfl, Lib.hid rfl, Lib.hid ⟨by omega, by omega, by omega, by omega⟩⟩
  case round =>
    obtain ⟨k, hk, rfl, HW, HP⟩ := hrel
    obtain rfl := HW.out
    by_cases h4 : k = 4
    · subst h4
      have HF : Hid (r = false) := Lib.hid (by
        rw [HR.out]
        obtain ⟨a, b, c, d⟩ := HP.out
        have := a (by omega); have := b (by omega); have := c (by omega); have := d (by omega)
        unfold mayBe
        simp [*])
      go_wp2_with fail
      go_ret
      exact ⟨by rw [HF.out]; try rfl, rfl⟩
    · have hcase : k = 0 ∨ k = 1 ∨ k = 2 ∨ k = 3 := by omega
      clear hk h4
      rcases hcase with rfl | rfl | rfl | rfl
      · by_cases hp : p = 128
        · subst hp
          have HT : Hid (r = true) := Lib.hid (by rw [HR.out]; rfl)
          go_wp2_with fail
          go_ret
          exact ⟨by rw [HT.out]; try rfl, rfl⟩
        · have q1 : (p == 128) = false := beq_eq_false_iff_ne.2 hp
          go_wp2_with fail
          go_roundw
          case rel => exact ⟨1, by omega, rfl, (by first | exact Lib.hid rfl | exact Lib.hid trivial), Lib.hid ⟨fun _ => hp, by omega, by omega, by omega⟩⟩
          case measure => simp [intOf]
      · by_cases hp : p = 256
        · subst hp
          have HT : Hid (r = true) := Lib.hid (by rw [HR.out]; rfl)
          go_wp2_with fail
          go_ret
          exact ⟨by rw [HT.out]; try rfl, rfl⟩
        · have q1 : (p == 256) = false := beq_eq_false_iff_ne.2 hp
          go_wp2_with fail
          go_roundw
          case rel => exact ⟨2, by omega, rfl, (by first | exact Lib.hid rfl | exact Lib.hid trivial), Lib.hid ⟨fun _ => HP.out.1 (by omega), fun _ => hp, by omega, by omega⟩⟩
          case measure => simp [intOf]
      · by_cases hp : p = 512
        · subst hp
          have HT : Hid (r = true) := Lib.hid (by rw [HR.out]; rfl)
          go_wp2_with fail
          go_ret
          exact ⟨by rw [HT.out]; try rfl, rfl⟩
        · have q1 : (p == 512) = false := beq_eq_false_iff_ne.2 hp
          go_wp2_with fail
          go_roundw
          case rel => exact ⟨3, by omega, rfl, (by first | exact Lib.hid rfl | exact Lib.hid trivial), Lib.hid ⟨fun _ => HP.out.1 (by omega), fun _ => HP.out.2.1 (by omega), fun _ => hp, by omega⟩⟩
          case measure => simp [intOf]
      · by_cases hp : p = 1024
        · subst hp
          have HT : Hid (r = true) := Lib.hid (by rw [HR.out]; rfl)
          go_wp2_with fail
          go_ret
          exact ⟨by rw [HT.out]; try rfl, rfl⟩
        · have q1 : (p == 1024) = false := beq_eq_false_iff_ne.2 hp
          go_wp2_with fail
          go_roundw
          case rel => exact ⟨4, by omega, rfl, (by first | exact Lib.hid rfl | exact Lib.hid trivial), Lib.hid ⟨fun _ => HP.out.1 (by omega), fun _ => HP.out.2.1 (by omega), fun _ => HP.out.2.2.1 (by omega), fun _ => hp⟩⟩
          case measure => simp [intOf]

end Go.Proofs.YtpehkikdmckldaaGreatDoor.L7
