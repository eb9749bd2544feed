/-
  The walk of the law SlotSides.
-/
import Derived.Test.YtbkjmcnichpmjaaLBack
namespace Go.Proofs.Ytbkjmcnichpmjaa
open Go.RowKit
set_option linter.unusedVariables false
set_option linter.unusedSimpArgs false

theorem packS_inj {room : Nat} {f : ByteArray} {l m : List ByteArray} (hr : room ≤ 65535) (hl : l.length = m.length) (h1 : LP.need f.size (Bs l) ≤ room) (h2 : LP.need f.size (Bs m) ≤ room) (h : packS room f l = packS room f m) : l = m := by
  have h3 : LP.pack room (B f) (Bs l) = LP.pack room (B f) (Bs m) := congrArg B h
  exact bs_inj (LP.pack_inj (by omega) rfl (by rw [bs_length, bs_length, hl]) (by rw [b_size]; exact h1) (by rw [b_size]; exact h2) h3).2
theorem toList_ne {s t : ByteArray} (h : s ≠ t) : (s.toList == t.toList) = false := by
  rw [Lib.toList_data, Lib.toList_data]
  exact beq_eq_false_iff_ne.2 fun e => h (ByteArray.ext (Array.toList_inj.1 e))
theorem Lies.take {w : World} {b : Nat} {A : Option Addr} {l : List ByteArray} (h : Lies w b A l) (n : Nat) : Lies w b A (l.take n) := fun i s hs => by
  rw [List.getElem?_take] at hs
  split at hs
  · exact h i s hs
  · simp at hs

set_option maxHeartbeats 1000000 in
set_option maxRecDepth 100000 in
theorem slotSides_walk (S : ByteArray) (A : Option Addr) (l : List ByteArray) (ca : Nat) (A1 : Option Addr) (l1 : List ByteArray) (ca1 : Nat) (at_ : Int) (w : World) (ws : S.size ≤ maxLen) (ha : Lies w w.heap.size A l) (hs : ∀ s ∈ l, s.size ≤ maxLen) (hl : l.length ≤ maxLen) (hc : l.length ≤ ca)
    (ha1 : Lies w w.heap.size A1 l1) (hs1 : ∀ s ∈ l1, s.size ≤ maxLen) (hl1 : l1.length ≤ maxLen) (wa : (Lit.int .u8 at_).wf = true) :
    Calls Try.prog 6 #[.agg #[.string S, .slice A l.length ca], .slice A1 l1.length ca1, .int .u8 at_] w fun e w' => e = .returned (.bool true) ∧ Below w.heap.size w w' := by
  obtain ⟨ha0, ha2⟩ := bounds_u8 wa
  unfold maxLen at ws
  obtain ⟨m, hm, hm6, hms, hmm, hfs⟩ := cut_min S 60 (by omega)
  have hb0 := below_alloc w (.cells #[.string S, .slice A l.length ca] 24)
  have HCA := Lib.hid (cut_any A l ca (w.alloc (.cells #[.string S, .slice A l.length ca] 24)) (ha.on hb0) hl hs)
  have HCB := Lib.hid (fun W (h : Below w.heap.size w W) => cut_any A1 l1 ca1 W ((ha1.below h).more h.size) hl1 hs1)
  have hla := cutL_length l
  have hlb := cutL_length l1
  have HSA := Lib.hid (cutL_size l)
  have HSB := Lib.hid (cutL_size l1)
  generalize cutL l = a at *
  generalize cutL l1 = b at *
  obtain ⟨na, hna⟩ : ∃ n, a.length = n := ⟨_, rfl⟩
  obtain ⟨nb, hnb⟩ : ∃ n, b.length = n := ⟨_, rfl⟩
  rw [hna] at HCA hla
  rw [hnb] at HCB hlb
  obtain ⟨n, hn⟩ : ∃ n, min na nb = n := ⟨_, rfl⟩
  have hn3 : n ≤ 30 := by omega
  have hnna : n ≤ na := by omega
  have hnnb : n ≤ nb := by omega
  obtain ⟨F, hF⟩ : ∃ F, S.extract 0 m = F := ⟨_, rfl⟩
  rw [hF] at hfs
  have hFs : F.size ≤ 60 := by omega
  have HTA : Hid (∀ s ∈ a.take n, s.size ≤ 60) := Lib.hid (fun s h => HSA.out s (List.mem_of_mem_take h))
  have HTB : Hid (∀ s ∈ b.take n, s.size ≤ 60) := Lib.hid (fun s h => HSB.out s (List.mem_of_mem_take h))
  have HLT := Lib.hid (fun W B G (h : Lies W B G a) => h.take n)
  have HLU := Lib.hid (fun W B G (h : Lies W B G b) => h.take n)
  have hla2 : (a.take n).length = n := by rw [List.length_take]; omega
  have hlb2 : (b.take n).length = n := by rw [List.length_take]; omega
  generalize a.take n = x at *
  generalize b.take n = y at *
  have hqx := need_bound F.size x 60 HTA.out
  have hqy := need_bound F.size y 60 HTB.out
  have hx4 : LP.need F.size (Bs x) ≤ 3000 := by rw [hla2] at hqx; omega
  have hy4 : LP.need F.size (Bs y) ≤ 3000 := by rw [hlb2] at hqy; omega
  obtain ⟨P1, hP1⟩ : ∃ P, packS 4000 F x = P := ⟨_, rfl⟩
  obtain ⟨P2, hP2⟩ : ∃ P, packS 4000 F y = P := ⟨_, rfl⟩
  obtain ⟨r, hr⟩ : ∃ r, decide (x = y) = r := ⟨_, rfl⟩
  have q2 : (P1.toList == P2.toList) = r := by
    by_cases e : x = y
    · rw [← hr, decide_eq_true e, ← hP1, ← hP2, e]
      exact beq_self_eq_true _
    · rw [← hr, decide_eq_false e]
      exact toList_ne fun h => e (packS_inj (by omega) (hla2.trans hlb2.symm) (by omega) (by omega) (hP1.trans (h.trans hP2.symm)))
  have q3 : (r != r) = false := by simp
  have HPA := Lib.hid (fun G c W (h : Lies W W.heap.size G x) => by
    have h1 := pack_any (4000 : Nat) F G x c W h (by omega) (by omega) (fun s h => by have := HTA.out s h; omega)
    rwa [packV_ok 4000 F x (by omega) (by omega), hP1, hla2, show ((4000 : Nat) : Int) = 4000 from rfl] at h1)
  have HPB := Lib.hid (fun G c W (h : Lies W W.heap.size G y) => by
    have h1 := pack_any (4000 : Nat) F G y c W h (by omega) (by omega) (fun s h => by have := HTB.out s h; omega)
    rwa [packV_ok 4000 F y (by omega) (by omega), hP2, hlb2, show ((4000 : Nat) : Int) = 4000 from rfl] at h1)
  have HWD := Lib.hid (fun G H c d W (h : Lies W W.heap.size G x) (k : Lies W W.heap.size H y) => by
    have h1 := words_dec G H x y c d W h k (by omega) (by omega)
    rwa [hla2, hlb2, hr] at h1)
  -- a cell with a byte more
  have HMORE : Hid (∀ k s, x[k]? = some s → LP.need F.size (Bs (x.set k (s ++ ⟨#[0]⟩))) ≤ 4000 ∧ packS 4000 F (x.set k (s ++ ⟨#[0]⟩)) ≠ P1) := Lib.hid (fun k s h => by
    have hsz : (s ++ (⟨#[0]⟩ : ByteArray)).size = s.size + 1 := by rw [ByteArray.size_append]; rfl
    have h2 := need_set F.size x k s (s ++ ⟨#[0]⟩) h
    refine ⟨by omega, fun e => ?_⟩
    have h3 := packS_inj (by omega) (by rw [List.length_set]) (by omega) (by omega) (e.trans hP1.symm)
    have h4 := congrArg (fun l => l[k]?) h3
    have hk : k < x.length := (List.getElem?_eq_some_iff.1 h).1
    simp only [List.getElem?_set_self hk, h, Option.some.injEq] at h4
    have h5 := congrArg ByteArray.size h4
    omega)
  have hmin : min (na : Int) (nb : Int) = n := by omega
  have HLX := Lib.hid hla2
  clear hfs ha hs hl hc ha1 hs1 hl1 wa hla hlb hna hnb hlb2 hqx hqy hx4 hy4 hP1 hP2 hr hn hla2
  go_enter Try.func6, Try.ntmps6
  go_wp2_with fail
  refine HCA.out.mono ?_
  rintro e w1 ⟨g1, cap1, rfl, hcap1, hL1, hb1⟩
  have hbw1 := hb0.trans' hb1
  have HL1 := Lib.hid hL1
  clear hL1 hb0 hb1 HCA
  go_wp2_with fail
  refine (HCB.out w1 hbw1).mono ?_
  rintro e w2 ⟨g2, cap2, rfl, hcap2, hL2, hb2⟩
  have hbw2 := hbw1.trans' hb2
  have HLx := Lib.hid (HLT.out _ _ _ (HL1.out.on hb2))
  have HLy := Lib.hid (HLU.out _ _ _ hL2)
  have j1 : (0 : Int) ≤ (n : Int) := by omega
  have j2 : (n : Int) ≤ (cap1 : Int) := by omega
  have j3 : (n : Int) ≤ (cap2 : Int) := by omega
  have j4 : n ≤ cap1 := by omega
  have j5 : n ≤ cap2 := by omega
  clear hL2 hb2 hbw1 HL1
  go_wp2_with fail
  refine (HPA.out _ _ w2 HLx.out).mono ?_
  rintro e w3 ⟨rfl, hb3⟩
  have hbw3 := hbw2.trans' hb3
  have HLx3 := Lib.hid (HLx.out.on hb3)
  have HLy3 := Lib.hid (HLy.out.on hb3)
  clear hb3 hbw2 HLx HLy
  go_wp2_with fail
  refine (HPB.out _ _ w3 HLy3.out).mono ?_
  rintro e w4 ⟨rfl, hb4⟩
  have hbw4 := hbw3.trans' hb4
  have HLx4 := Lib.hid (HLx3.out.on hb4)
  have HLy4 := Lib.hid (HLy3.out.on hb4)
  clear hb4 hbw3 HLx3 HLy3
  go_wp2_with fail
  go_region_held3 (fun _ => True) (trivial)
    (first
      | (go_at_call 15; refine (HWD.out _ _ _ _ _ (show Lies w4.drew w4.drew.heap.size (some ⟨g1, 0, none⟩) x from HLx4.out) (show Lies w4.drew w4.drew.heap.size (some ⟨g2, 0, none⟩) y from HLy4.out)).mono ?_; rintro e w5 ⟨rfl, hb5⟩)
      | fail "no arm")
  have hb5' : Below w4.heap.size w4 w5 := below_of_drew hb5
  have hbw5 := hbw4.trans' hb5'
  have HLx5 := Lib.hid (HLx4.out.on hb5')
  clear hb5 hb5' hbw4 HLx4 HLy4 HWD HPB
  by_cases hr0 : n = 0
  · subst hr0
    go_wp2_with fail
    refine (fixed_any w5).mono ?_
    rintro e w6 ⟨rfl, hb6⟩
    go_wp2_with fail
    go_ret
    exact ⟨rfl, hbw5.trans' hb6⟩
  · obtain ⟨z, rfl⟩ := Int.eq_ofNat_of_zero_le ha0
    obtain ⟨k, hk⟩ : ∃ k, z % n = k := ⟨_, rfl⟩
    have hkr : k < n := by rw [← hk]; exact Nat.mod_lt _ (by omega)
    have q9 : (z : Int).tmod (n : Int) = k := by rw [← hk]; rfl
    have q10 : (z : Int) % (n : Int) = k := by rw [← hk]; rfl
    have hbe := below_alloc w5 (.cells #[] 9)
    obtain ⟨g3, cap3, w6, ap, hO6, hb6, hc6, hg6⟩ := append_row (base := w5.heap.size) (n := 0) (cap := 0) (la := []) cap1 (own_empty w5 9) (HLx5.out.on hbe) HLX.out (Nat.zero_add n) (by omega) (by simp)
    have HO6 := Lib.hid (show Owns w6 w5.heap.size (.slice (some ⟨g3, 0, none⟩) n cap3) n x from hO6)
    have hb56 : Below w5.heap.size w5 w6 := hbe.trans hb6
    obtain ⟨s, hsk⟩ : ∃ c, x[k]? = some c := ⟨_, List.getElem?_eq_getElem (by have := HLX.out; omega)⟩
    have hss := HTA.out s (List.mem_of_getElem? hsk)
    have hcell : w6.cell? ⟨g3, k, none⟩ = some (.string s) := by rw [HO6.out.cellAt k (by omega)]; simp [strCells, hsk]
    have hfr := HO6.out.frozenAt k
    have hsx : (s ++ ⟨#[0]⟩).size = s.size + 1 := by rw [ByteArray.size_append]; rfl
    have bS : ¬ 9223372036854775807 < s.size + (⟨#[0]⟩ : ByteArray).size := by have : (⟨#[0]⟩ : ByteArray).size = 1 := rfl; omega
    have bS2 : ¬ 9223372036854775807 < s.size + 1 := by omega
    obtain ⟨hm1, hm2⟩ := HMORE.out k s hsk
    obtain ⟨t, ht⟩ : ∃ t, s ++ (⟨#[0]⟩ : ByteArray) = t := ⟨_, rfl⟩
    rw [ht] at hm1 hm2 hsx
    have hO7 := (HO6.out.stored k (.string t)).1
    have hb7 : Below w5.heap.size w5 (w6.setCell ⟨g3, k, none⟩ (.string t)) := hb56.setCell (by show w5.heap.size ≤ g3; exact hg6) _
    rw [strCells_set] at hO7
    have hlab7 : (x.set k t).length = n := by rw [List.length_set]; exact HLX.out
    have hL7 := lies_own hO7 hlab7.symm
    have hsz7 : ∀ z ∈ x.set k t, z.size ≤ 65535 := fun z hz => by
      rcases List.mem_or_eq_of_mem_set hz with h | rfl
      · have := HTA.out z h; omega
      · omega
    have hP3 := pack_any (4000 : Nat) F (some ⟨g3, 0, none⟩) (x.set k t) cap3 _ hL7 (by omega) (by omega) hsz7
    rw [packV_ok 4000 F (x.set k t) (by omega) hm1, hlab7, show ((4000 : Nat) : Int) = 4000 from rfl] at hP3
    obtain ⟨P3, hP3e⟩ : ∃ P, packS 4000 F (x.set k t) = P := ⟨_, rfl⟩
    rw [hP3e] at hP3 hm2
    have HP3 := Lib.hid hP3
    have HB7 := Lib.hid (hbw5.trans' hb7)
    have k1 : (0 : Int) ≤ (k : Int) := by omega
    have k2 : (k : Int) < n := by omega
    have q11 : (P3.toList == P1.toList) = false := toList_ne hm2
    have q12 : (P3.toList != P1.toList) = true := by rw [bne, q11]; rfl
    clear hO6 hO7 hb6 hb56 hb7 hL7 hsk hlab7 hsz7 hP3 hP3e hm1 hm2 hsx hss hbe
    go_wp2_with (at_builtin; refine wpList_append_run rfl _ _ 22 rfl _ _ _ rfl rfl ap ?_)
    refine HP3.out.mono ?_
    rintro e w8 ⟨rfl, hb8⟩
    go_wp2_with fail
    refine (fixed_any _).mono ?_
    rintro e w9 ⟨rfl, hb9⟩
    go_wp2_with fail
    go_ret
    exact ⟨rfl, (HB7.out.trans' hb8).trans' hb9⟩
end Go.Proofs.Ytbkjmcnichpmjaa
