/-
  The walk of the law SlotSums.
-/
import Derived.Test.YtbkjmcnichpmjaaLLaws
namespace Go.Proofs.Ytbkjmcnichpmjaa
open Go.RowKit
set_option linter.unusedVariables false
set_option linter.unusedSimpArgs false

set_option maxHeartbeats 1000000 in
set_option maxRecDepth 100000 in
theorem slotSums_walk (S : ByteArray) (A : Option Addr) (l : List ByteArray) (ca : Nat) (A1 : Option Addr) (l1 : List ByteArray) (ca1 : Nat) (at_ : Int) (w : World) (ws : S.size ≤ maxLen) (ha : Lies w w.heap.size A l) (hs : ∀ s ∈ l, s.size ≤ maxLen) (hl : l.length ≤ maxLen) (hc : l.length ≤ ca)
    (ha1 : Lies w w.heap.size A1 l1) (hs1 : ∀ s ∈ l1, s.size ≤ maxLen) (hl1 : l1.length ≤ maxLen) (wa : (Lit.int .u8 at_).wf = true) :
    Calls Try.prog 7 #[.agg #[.string S, .slice A l.length ca], .slice A1 l1.length ca1, .int .u8 at_] w fun e w' => e = .returned (.bool true) ∧ Below w.heap.size w w' := by
  obtain ⟨ha0, ha2⟩ := bounds_u8 wa
  unfold maxLen at ws
  obtain ⟨i0, hi, hz0, hz1, hz2⟩ := info_parts Try.infoStr
  obtain ⟨m, hm, hm6, hms, hmm, hfs⟩ := cut_min S 60 (by omega)
  have hb0 := below_alloc w (.cells #[.string S, .slice A l.length ca] 24)
  have HCA := Lib.hid (cut_any A l ca (w.alloc (.cells #[.string S, .slice A l.length ca] 24)) (ha.on hb0) hl hs)
  have HCB := Lib.hid (fun W (h : Below w.heap.size w W) => cut_any A1 l1 ca1 W ((ha1.below h).more h.size) hl1 hs1)
  have hla := cutL_length l
  have hlb := cutL_length l1
  have HSA := Lib.hid (cutL_size l)
  have HSB := Lib.hid (cutL_size l1)
  generalize cutL l = a at *
  generalize cutL l1 = b at *
  obtain ⟨na, hna⟩ : ∃ n, a.length = n := ⟨_, rfl⟩
  obtain ⟨nb, hnb⟩ : ∃ n, b.length = n := ⟨_, rfl⟩
  rw [hna] at HCA hla
  rw [hnb] at HCB hlb
  have hna3 : na ≤ 30 := by omega
  have hnb3 : nb ≤ 30 := by omega
  obtain ⟨F, hF⟩ : ∃ F, S.extract 0 m = F := ⟨_, rfl⟩
  rw [hF] at hfs
  have HNA := Lib.hid hna
  have HNB := Lib.hid hnb
  clear ha hs hl hc ha1 hs1 hl1 wa hla hlb hna hnb
  go_enter Try.func7, Try.ntmps7
  go_wp2_with fail
  refine HCA.out.mono ?_
  rintro e w1 ⟨g1, cap1, rfl, hcap1, hL1, hb1⟩
  have hbw1 := hb0.trans' hb1
  have HL1 := Lib.hid hL1
  clear hL1 hb0 hb1 HCA
  go_wp2_with fail
  refine (HCB.out w1 hbw1).mono ?_
  rintro e w2 ⟨g2, cap2, rfl, hcap2, hL2, hb2⟩
  have hbw2 := hbw1.trans' hb2
  have hbe := below_alloc w2 (.cells #[] 9)
  have HLa2 := (HL1.out.on hb2).on hbe
  obtain ⟨r, hr⟩ : ∃ r, na + nb = r := ⟨_, rfl⟩
  obtain ⟨g3, cap3, w3, ap1, hO3, hb3, hc3, hg3⟩ := append_row (base := w2.heap.size) (n := 0) (cap := 0) (la := []) cap1 (own_empty w2 9) HLa2 HNA.out (Nat.zero_add na) (by omega) (by simp)
  obtain ⟨g4, cap4, w4, ap2, hO4, hb4, hc4, hg4⟩ := append_row (base := w2.heap.size) cap2 hO3 ((hL2.below (hbe.trans hb3)).more (Nat.le_trans hbe.size hb3.size)) HNB.out hr (by omega) (Nat.le_trans hbe.size hb3.size)
  have hb34 := hb3.trans hb4
  have hb24 : Below w2.heap.size w2 w4 := hbe.trans hb34
  have HLa := Lib.hid (HL1.out.on (hb2.trans' hb24))
  have HLb := Lib.hid (hL2.on hb24)
  have hb4w := hbw2.trans' hb24
  have hr3 : r ≤ 60 := by omega
  have hlab : (a ++ b).length = r := by rw [List.length_append, HNA.out, HNB.out, hr]
  have HSAB : Hid (∀ s ∈ a ++ b, s.size ≤ 60) := Lib.hid (fun s h => by
    rcases List.mem_append.1 h with h | h
    · exact HSA.out s h
    · exact HSB.out s h)
  have HO4 := Lib.hid (show Owns w4 w2.heap.size (.slice (some ⟨g4, 0, none⟩) r cap4) r (a ++ b) from hO4)
  have hL4 := lies_own HO4.out hlab.symm
  have HNE := Lib.hid (need_append F.size a b)
  have HBN := Lib.hid (need_bound F.size (a ++ b) 60 HSAB.out)
  have HL4 := Lib.hid hL4
  have HAB := Lib.hid hlab
  generalize hab : a ++ b = ab at *
  obtain ⟨qa, hqa⟩ : ∃ q, LP.need F.size (Bs a) = q := ⟨_, rfl⟩
  obtain ⟨qb, hqb⟩ : ∃ q, LP.need 0 (Bs b) = q := ⟨_, rfl⟩
  obtain ⟨q, hq⟩ : ∃ q, LP.need F.size (Bs ab) = q := ⟨_, rfl⟩
  have HQ := Lib.hid hq
  have hbn := HBN.out
  have hne := HNE.out
  rw [hqa, hqb, hq] at hne
  rw [hq, HAB.out] at hbn
  have hbn2 : q ≤ 4000 := by omega
  have HT1 := Lib.hid (tSize F (some ⟨g4, 0, none⟩) ab cap4 r q w4 HL4.out HAB.out hq (by omega) (fun s h => by have := HSAB.out s h; omega) (by omega))
  have HT2 := Lib.hid (tSize F (some ⟨g1, 0, none⟩) a cap1 na qa w4 HLa.out HNA.out hqa (by omega) (fun s h => by have := HSA.out s h; omega) (by omega))
  have HT3 := Lib.hid (tSize ⟨#[]⟩ (some ⟨g2, 0, none⟩) b cap2 nb qb w4 HLb.out HNB.out hqb (by omega) (fun s h => by have := HSB.out s h; omega) (by decide))
  have hFx : (F ++ ⟨#[120]⟩).size = F.size + 1 := by rw [ByteArray.size_append]; rfl
  have hq1 : LP.need (F ++ ⟨#[120]⟩ : ByteArray).size (Bs ab) = q + 1 := by rw [hFx, ← hq]; unfold LP.need; omega
  have HT4 := Lib.hid (tSize (F ++ ⟨#[120]⟩) (some ⟨g4, 0, none⟩) ab cap4 r (q + 1) w4 HL4.out HAB.out hq1 (by omega) (fun s h => by have := HSAB.out s h; omega) (by omega))
  have HT5 := Lib.hid (tSize ⟨#[]⟩ none [] 0 0 2 w4 (Lies.nil _ _ _) rfl (by kernel_rfl) (by decide) (by decide) (by decide))
  have bF : ¬ 9223372036854775807 < F.size + (⟨#[120]⟩ : ByteArray).size := by have : (⟨#[120]⟩ : ByteArray).size = 1 := rfl; omega
  have bF2 : ¬ 9223372036854775807 < F.size + 1 := by omega
  have q1 : IntKind.i64.wrap ((qa : Int) + qb) = (qa : Int) + qb := IntWalk.i64_in _ (by omega)
  have q2 : IntKind.i64.wrap ((qa : Int) + qb - 2) = q := by rw [show (qa : Int) + qb - 2 = q by omega]; exact IntWalk.i64_in _ (by omega)
  have q3 : ((q : Int) != (q : Int)) = false := by simp
  have q4 : IntKind.i64.wrap ((q : Int) + 1) = (q : Int) + 1 := IntWalk.i64_in _ (by omega)
  have q5 : (qa : Int) + qb - 2 = q := by omega
  have q6 : ((q : Int) + 1 != (q : Int) + 1) = false := by simp
  have q7 : ((q + 1 : Nat) : Int) = (q : Int) + 1 := by omega
  have q8 : ((2 : Nat) : Int) = 2 := rfl
  rw [q7] at HT4
  rw [q8] at HT5
  clear hO3 hO4 hb3 hb4 hb34 HLa2 hL2 hL4 hb2 hbe hlab hq1 hqa hqb hbn hq hFx
  go_wp2_with (first
    | (at_builtin; refine wpList_append_run rfl _ _ 22 rfl _ _ _ rfl rfl ap1 ?_)
    | (at_builtin; refine wpList_append_run rfl _ _ 22 rfl _ _ _ rfl rfl ap2 ?_))
  clear ap1 ap2
  refine HT1.out.mono ?_
  rintro e w5 ⟨rfl, rfl⟩
  go_wp2_with fail
  refine HT2.out.mono ?_
  rintro e w5 ⟨rfl, rfl⟩
  go_wp2_with fail
  refine HT3.out.mono ?_
  rintro e w5 ⟨rfl, rfl⟩
  go_wp2_with fail
  refine HT4.out.mono ?_
  rintro e w5 ⟨rfl, rfl⟩
  go_wp2_with fail
  refine HT5.out.mono ?_
  rintro e w5 ⟨rfl, rfl⟩
  by_cases hr0 : r = 0
  · subst hr0
    go_wp2_with fail
    refine (fixed_any w4).mono ?_
    rintro e w5 ⟨rfl, hb5⟩
    go_wp2_with fail
    go_ret
    exact ⟨rfl, hb4w.trans' hb5⟩
  · obtain ⟨x, rfl⟩ := Int.eq_ofNat_of_zero_le ha0
    obtain ⟨k, hk⟩ : ∃ k, x % r = k := ⟨_, rfl⟩
    have hkr : k < r := by rw [← hk]; exact Nat.mod_lt _ (by omega)
    have q9 : (x : Int).tmod (r : Int) = k := by rw [← hk]; rfl
    have q10 : (x : Int) % (r : Int) = k := by rw [← hk]; rfl
    obtain ⟨s, hsk⟩ : ∃ c, ab[k]? = some c := ⟨_, List.getElem?_eq_getElem (by have := HAB.out; omega)⟩
    have hss := HSAB.out s (List.mem_of_getElem? hsk)
    have hcell : w4.cell? ⟨g4, k, none⟩ = some (.string s) := by rw [HO4.out.cellAt k (by omega)]; simp [strCells, hsk]
    have hfr := HO4.out.frozenAt k
    have hsx : (s ++ ⟨#[120]⟩).size = s.size + 1 := by rw [ByteArray.size_append]; rfl
    have bS : ¬ 9223372036854775807 < s.size + (⟨#[120]⟩ : ByteArray).size := by have : (⟨#[120]⟩ : ByteArray).size = 1 := rfl; omega
    have bS2 : ¬ 9223372036854775807 < s.size + 1 := by omega
    obtain ⟨t, ht⟩ : ∃ t, s ++ (⟨#[120]⟩ : ByteArray) = t := ⟨_, rfl⟩
    have hO5 := (HO4.out.stored k (.string t)).1
    have hb5 : Below w2.heap.size w2 (w4.setCell ⟨g4, k, none⟩ (.string t)) := hb24.setCell (by show w2.heap.size ≤ g4; exact hg4) _
    rw [strCells_set] at hO5
    have hlab5 : (ab.set k t).length = r := by rw [List.length_set]; exact HAB.out
    have hL5 := lies_own hO5 hlab5.symm
    have hn5 := need_set F.size ab k s t hsk
    rw [ht] at hsx
    have hq6 : LP.need F.size (Bs (ab.set k t)) = q + 1 := by
      have h := HQ.out
      omega
    have hsz6 : ∀ z ∈ ab.set k t, z.size ≤ 1000 := fun z hz => by
      rcases List.mem_or_eq_of_mem_set hz with h | rfl
      · have := HSAB.out z h; omega
      · omega
    have HT6 := Lib.hid (tSize F (some ⟨g4, 0, none⟩) (ab.set k t) cap4 r (q + 1) _ hL5 hlab5 hq6 (by omega) hsz6 (by omega))
    rw [q7] at HT6
    have HB5 := Lib.hid (hbw2.trans' hb5)
    have k1 : (0 : Int) ≤ (k : Int) := by omega
    have k2 : (k : Int) < r := by omega
    have q11 : ((q : Int) + 1 == (q : Int) + 1) = true := by simp
    clear hO5 hb5 hL5 hn5 hsk hlab5 hq6 hsz6 hsx hss
    go_wp2_with fail
    refine HT6.out.mono ?_
    rintro e w5 ⟨rfl, rfl⟩
    go_wp2_with fail
    refine (fixed_any _).mono ?_
    rintro e w5 ⟨rfl, hb5⟩
    go_wp2_with fail
    go_ret
    exact ⟨rfl, HB5.out.trans' hb5⟩
end Go.Proofs.Ytbkjmcnichpmjaa
