/-
  The walk of the law SlotBack.
-/
import Derived.Test.YtbkjmcnichpmjaaLLaws
namespace Go.Proofs.Ytbkjmcnichpmjaa
open Go.RowKit
set_option linter.unusedVariables false
set_option linter.unusedSimpArgs false

theorem packV_ok (room : Nat) (f : ByteArray) (l : List ByteArray) (h1 : room ≤ 65535) (h2 : LP.need f.size (Bs l) ≤ room) : packV room f l = .tuple #[.string (packS room f l), .int .i64 0] := by
  unfold packV
  rw [if_neg (by omega), if_neg (by omega), Int.toNat_natCast]
theorem packV_big (room : Int) (f : ByteArray) (l : List ByteArray) (h0 : 0 ≤ room) (h1 : room ≤ 65535) (h2 : room < (LP.need f.size (Bs l) : Nat)) : packV room f l = .tuple #[.string ⟨#[]⟩, .int .i64 8] := by
  unfold packV
  rw [if_neg (by omega), if_pos h2]
theorem bs_inj : ∀ {a b : List ByteArray}, Bs a = Bs b → a = b
  | [], [], _ => rfl
  | [], _ :: _, h => by simp [Bs] at h
  | _ :: _, [], h => by simp [Bs] at h
  | s :: a, t :: b, h => by
    simp only [Bs, List.map_cons, List.cons.injEq] at h
    rw [b_inj h.1, bs_inj (show Bs a = Bs b from h.2)]
theorem packS_good (room : Nat) (f : ByteArray) (l : List ByteArray) (h1 : room ≤ 65535) (h2 : LP.need f.size (Bs l) ≤ room) :
    (packS room f l).size = room ∧ LP.good (B (packS room f l)) f.size l.length ∧ cellsB (packS room f l) l.length = l ∧ (packS room f l).extract 0 f.size = f := by
  have hb : B (packS room f l) = LP.pack room (B f) (Bs l) := rfl
  have hn : LP.need (B f).length (Bs l) ≤ room := by rw [b_size]; exact h2
  obtain ⟨g1, g2, g3⟩ := LP.pack_good room (B f) (Bs l) (by omega) hn
  rw [b_size, bs_length] at g1
  rw [bs_length] at g2
  rw [b_size] at g3
  refine ⟨?_, by rw [hb]; exact g1, ?_, ?_⟩
  · rw [← b_size, hb]; exact LP.pack_length room (B f) (Bs l) hn
  · refine bs_inj ?_
    rw [bs_cellsB, hb]
    exact g2
  · refine b_inj ?_
    rw [b_extract, hb, List.drop_zero, Nat.sub_zero]
    exact g3

set_option maxHeartbeats 1000000 in
set_option maxRecDepth 100000 in
theorem slotBack_walk (more : Int) (S : ByteArray) (A : Option Addr) (l : List ByteArray) (ca : Nat) (w : World) (wm : (Lit.int .u16 more).wf = true) (ws : S.size ≤ maxLen) (ha : Lies w w.heap.size A l) (hs : ∀ s ∈ l, s.size ≤ maxLen) (hl : l.length ≤ maxLen) (hc : l.length ≤ ca) :
    Calls Try.prog 4 #[.int .u16 more, .agg #[.string S, .slice A l.length ca]] w fun e w' => e = .returned (.bool true) ∧ Below w.heap.size w w' := by
  obtain ⟨hm0, hm2⟩ := bounds_u16 wm
  unfold maxLen at ws
  obtain ⟨m, hm, hm6, hms, hmm, hfs⟩ := cut_min S 60 (by omega)
  have hb0 := below_alloc w (.cells #[.string S, .slice A l.length ca] 24)
  have HCA := Lib.hid (cut_any A l ca (w.alloc (.cells #[.string S, .slice A l.length ca] 24)) (ha.on hb0) hl hs)
  have hla := cutL_length l
  have HSA := Lib.hid (cutL_size l)
  generalize cutL l = a at *
  obtain ⟨na, hna⟩ : ∃ n, a.length = n := ⟨_, rfl⟩
  rw [hna] at HCA hla
  have hna3 : na ≤ 30 := by omega
  obtain ⟨F, hF⟩ : ∃ F, S.extract 0 m = F := ⟨_, rfl⟩
  rw [hF] at hfs
  have hFs : F.size ≤ 60 := by omega
  obtain ⟨q, hq⟩ : ∃ q, LP.need F.size (Bs a) = q := ⟨_, rfl⟩
  have hq0 : F.size + 2 ≤ q := by rw [← hq]; unfold LP.need; omega
  have hq1 := need_bound F.size a 60 HSA.out
  rw [hq, hna] at hq1
  have hq4 : q ≤ 4000 := by omega
  obtain ⟨x, rfl⟩ := Int.eq_ofNat_of_zero_le hm0
  obtain ⟨y, hy⟩ : ∃ y, x % 300 = y := ⟨_, rfl⟩
  have hy3 : y < 300 := by rw [← hy]; exact Nat.mod_lt _ (by omega)
  obtain ⟨R, hR⟩ : ∃ R, q + y = R := ⟨_, rfl⟩
  obtain ⟨p1, p2, p3, p4⟩ := packS_good R F a (by omega) (by omega)
  have pv := packV_ok R F a (by omega) (by omega)
  obtain ⟨P, hP⟩ : ∃ P, packS R F a = P := ⟨_, rfl⟩
  rw [hP] at p1 p2 p3 p4 pv
  rw [hna] at p2 p3
  have HPK := Lib.hid (fun G c W (h : Lies W W.heap.size G a) => by
    have h1 := pack_any (R : Int) F G a c W h (by omega) (by omega) (fun s h => by have := HSA.out s h; omega)
    rwa [pv, hna] at h1)
  obtain ⟨z, hz⟩ : ∃ z : Nat, q = z + 1 := ⟨q - 1, by omega⟩
  have HPB := Lib.hid (fun G c W (h : Lies W W.heap.size G a) => by
    have h1 := pack_any (z : Int) F G a c W h (by omega) (by omega) (fun s h => by have := HSA.out s h; omega)
    rwa [packV_big (z : Int) F a (by omega) (by omega) (by omega), hna] at h1)
  have HUN := Lib.hid (fun W => by
    have h1 := unp_ok P F.size na W (by omega) (by omega) (by omega) p2
    rwa [p3] at h1)
  have HSZ := Lib.hid (fun G c W (h : Lies W W.heap.size G a) => tSize F G a c na q W h hna hq (by omega) (fun s h => by have := HSA.out s h; omega) (by omega))
  have HWD := Lib.hid (fun A C ca cb w (ha : Lies w w.heap.size A a) (hb : Lies w w.heap.size C a) => by
    have h1 := words_any A C a a ca cb w ha hb (by omega) rfl
    rwa [hna] at h1)
  have q1 : (x : Int).tmod 300 = y := by rw [← hy]; rfl
  have q2 : (x : Int) % 300 = y := by rw [← hy]; rfl
  have q3 : IntKind.i64.wrap ((q : Int) + y) = R := by rw [show (q : Int) + y = R by omega]; exact IntWalk.i64_in _ (by omega)
  have q4 : (q : Int) + y = R := by omega
  have q5 : IntKind.i64.wrap ((q : Int) - 1) = z := by rw [show (q : Int) - 1 = z by omega]; exact IntWalk.i64_in _ (by omega)
  have q9 : (q : Int) - 1 = z := by omega
  have q6 : (F.toList == F.toList) = true := beq_self_eq_true _
  have q7 : IntKind.i64.wrap (R : Int) = R := IntWalk.i64_in _ (by omega)
  have d1 : decide ((q : Int) < 2) = false := decide_eq_false (by omega)
  have d2 : decide (4000 < (q : Int)) = false := decide_eq_false (by omega)
  have d3 : decide (4000 < q) = false := decide_eq_false (by omega)
  have d4 : decide (q < 2) = false := decide_eq_false (by omega)
  have j1 : (F.size : Int) ≤ (P.size : Int) := by omega
  have j2 : F.size ≤ P.size := by omega
  have HP1 := Lib.hid p1
  have q8 : ((P.size : Int) == (R : Int)) = true := by rw [p1]; exact beq_self_eq_true _
  clear hfs hz wm ha hs hl hc hla hna hq p1 p2 p3 pv hP hq1 hy
  go_enter Try.func4, Try.ntmps4
  go_wp2_with fail
  refine HCA.out.mono ?_
  rintro e w1 ⟨g1, cap1, rfl, hcap1, hL1, hb1⟩
  have hbw1 := hb0.trans' hb1
  have HL1 := Lib.hid hL1
  clear hL1 hb0 hb1 HCA
  go_wp2_with fail
  refine (HSZ.out _ _ w1 HL1.out).mono ?_
  rintro e w2 ⟨rfl, rfl⟩
  go_wp2_with fail
  refine (HPK.out _ _ w1 HL1.out).mono ?_
  rintro e w2 ⟨rfl, hb2⟩
  have hbw2 := hbw1.trans' hb2
  have HL2 := Lib.hid (HL1.out.on hb2)
  clear hbw1 hb2
  go_wp2_with fail
  refine (HPB.out _ _ w2 HL2.out).mono ?_
  rintro e w3 ⟨rfl, hb3⟩
  have hbw3 := hbw2.trans' hb3
  have HL3 := Lib.hid (HL2.out.on hb3)
  clear hbw2 hb3
  go_wp2_with fail
  refine (HUN.out w3).mono ?_
  rintro e w4 ⟨g, cap, rfl, _, hcap, hL, hb4⟩
  have hbw4 := hbw3.trans' hb4
  have HL4 := Lib.hid (HL3.out.on hb4)
  have HLu := Lib.hid hL
  clear hbw3 hb4 hL
  go_wp2_with fail
  refine (HWD.out _ _ _ _ w4 HLu.out HL4.out).mono ?_
  rintro e w5 ⟨rfl, hb5⟩
  go_wp2_with fail
  refine (fixed_any _).mono ?_
  rintro e w6 ⟨rfl, hb6⟩
  go_wp2_with fail
  go_ret
  exact ⟨rfl, (hbw4.trans' hb5).trans' hb6⟩
end Go.Proofs.Ytbkjmcnichpmjaa
