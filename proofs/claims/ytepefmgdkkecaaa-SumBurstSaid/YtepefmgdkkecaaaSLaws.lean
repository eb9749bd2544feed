/-
  The walks of the laws SumFirst, SumJoins, SumThree.
-/
import Derived.Test.YtepefmgdkkecaaaSFixed
import Derived.Test.YtepefmgdkkecaaaFrame
namespace Go.Proofs.Ytepefmgdkkecaaa
open Go.RowKit
set_option linter.unusedVariables false

theorem cut_min (s : ByteArray) (c : Int) (hc : 0 ≤ c) : ∃ m : Nat, min (s.size : Int) c = m ∧ (m : Int) ≤ c ∧ m ≤ s.size ∧ min m s.size = m ∧ (s.extract 0 m).size = m := by
  refine ⟨min s.size c.toNat, by omega, by omega, by omega, by omega, ?_⟩
  simp
theorem u32_nat {n : Int} (h : (Lit.int .u32 n).wf = true) : ∃ m : Nat, n = m ∧ m < 4294967296 := by
  have := bounds_u32 h
  exact ⟨n.toNat, by omega, by omega⟩
theorem ne_beq {a b : Nat} (h : a ≠ b) : ((a : Int) == (b : Int)) = false := by
  rw [beq_eq_false_iff_ne]
  omega

set_option maxHeartbeats 1000000 in
theorem sumFirst_walk (a b : Int) (s : ByteArray) (w : World) (wa : (Lit.int .u32 a).wf = true) (wb : (Lit.int .u32 b).wf = true) (ws : s.size ≤ maxLen) :
    Calls Try.prog 6 #[.int .u32 a, .int .u32 b, .string s] w fun e w' => e = .returned (.bool true) ∧ Below w.heap.size w w' := by
  obtain ⟨a, rfl, ha⟩ := u32_nat wa
  obtain ⟨b, rfl, hb⟩ := u32_nat wb
  unfold maxLen at ws
  clear wa wb
  obtain ⟨m, hm, hm4, hms, hm2, hts⟩ := cut_min s 400 (by omega)
  have HTS := Lib.hid hts
  clear hts
  go_enter Try.func6, Try.ntmps6
  go_wp2_with fail
  clear hm hm2
  generalize s.extract 0 m = t at *
  obtain rfl := HTS.out
  have htl : t.size ≤ maxLen := by unfold maxLen; omega
  refine (table_any t _ htl).mono ?_
  rintro e w1 ⟨rfl, hb1⟩
  go_wp2_with fail
  refine (more_any a t _ ha htl).mono ?_
  rintro e w2 ⟨rfl, hb2⟩
  go_wp2_with fail
  refine (more_any b t _ hb htl).mono ?_
  rintro e w3 ⟨rfl, hb3⟩
  have hmi : a ≠ b → SP.more a t.data.toList ≠ SP.more b t.data.toList := fun h e => h (SP.more_inj a b _ ha hb e)
  have hji : a ≠ b → SP.join a (SP.sum t.data.toList) t.size ≠ SP.join b (SP.sum t.data.toList) t.size := fun h e => h (SP.join_inj a b _ _ ha hb e)
  have hme : a = b → SP.more a t.data.toList = SP.more b t.data.toList := fun h => by rw [h]
  have hje : a = b → SP.join a (SP.sum t.data.toList) t.size = SP.join b (SP.sum t.data.toList) t.size := fun h => by rw [h]
  have hcl := clampN_of t.size (by omega)
  have HJA : Hid (∀ W, Calls Try.prog 14 #[.int .u32 a, .int .u32 (SP.sum t.data.toList : Nat), .int .i64 t.size] W fun e w' => e = .returned (.int .u32 (SP.join a (SP.sum t.data.toList) t.size : Nat)) ∧ Below W.heap.size W w') := Lib.hid (fun W => by have h := join_any a (SP.sum t.data.toList) t.size W ha (SP.sum_lt _); rwa [hcl] at h)
  have HJB : Hid (∀ W, Calls Try.prog 14 #[.int .u32 b, .int .u32 (SP.sum t.data.toList : Nat), .int .i64 t.size] W fun e w' => e = .returned (.int .u32 (SP.join b (SP.sum t.data.toList) t.size : Nat)) ∧ Below W.heap.size W w') := Lib.hid (fun W => by have h := join_any b (SP.sum t.data.toList) t.size W hb (SP.sum_lt _); rwa [hcl] at h)
  have HMN : Hid (∀ W, Calls Try.prog 12 #[.int .u32 a, .string ⟨#[]⟩] W fun e w' => e = .returned (.int .u32 a) ∧ Below W.heap.size W w') := Lib.hid (fun W => by have h := more_any a ⟨#[]⟩ W ha (by decide +kernel); rwa [show SP.more a (ByteArray.mk #[]).data.toList = a from SP.more_none a] at h)
  clear hcl
  generalize SP.more a t.data.toList = x at *
  generalize SP.more b t.data.toList = y at *
  generalize SP.sum t.data.toList = z at *
  generalize SP.join a z t.size = x2 at *
  generalize SP.join b z t.size = y2 at *
  by_cases hab : a = b
  · have e1 := hme hab
    have e2 := hje hab
    clear hme hje hmi hji
    subst hab e1 e2
    go_wp2_with fail
    refine (HJA.out _).mono ?_
    rintro e w4 ⟨rfl, hb4⟩
    go_wp2_with fail
    refine (HJB.out _).mono ?_
    rintro e w5 ⟨rfl, hb5⟩
    go_wp2_with fail
    refine (HMN.out _).mono ?_
    rintro e w6 ⟨rfl, hb6⟩
    go_wp2_with fail
    refine (fixed_any _).mono ?_
    rintro e w7 ⟨rfl, hb7⟩
    go_wp2_with fail
    go_ret
    exact ⟨rfl, (((((hb1.trans' hb2).trans' hb3).trans' hb4).trans' hb5).trans' hb6).trans' hb7⟩
  · have q0 := ne_beq hab
    have q1 := ne_beq (hmi hab)
    have q2 := ne_beq (hji hab)
    clear hmi hji hme hje
    go_wp2_with fail
    refine (HJA.out _).mono ?_
    rintro e w4 ⟨rfl, hb4⟩
    go_wp2_with fail
    refine (HJB.out _).mono ?_
    rintro e w5 ⟨rfl, hb5⟩
    go_wp2_with fail
    refine (HMN.out _).mono ?_
    rintro e w6 ⟨rfl, hb6⟩
    go_wp2_with fail
    refine (fixed_any _).mono ?_
    rintro e w7 ⟨rfl, hb7⟩
    go_wp2_with fail
    go_ret
    exact ⟨rfl, (((((hb1.trans' hb2).trans' hb3).trans' hb4).trans' hb5).trans' hb6).trans' hb7⟩

theorem app_data (x y : ByteArray) : (x ++ y).data.toList = x.data.toList ++ y.data.toList := by simp

/-- What a law's calls answer: Calls of one function at given arguments, with one answer, in any world. -/
def Tells (f : Nat) (args : Array Value) (v : Value) : Prop := ∀ W, Calls Try.prog f args W fun e w' => e = .returned v ∧ Below W.heap.size W w'
theorem join_nat (a b n : Nat) (ha : a < 4294967296) (hb : b < 4294967296) (hn : n ≤ 100000) : Tells 14 #[.int .u32 a, .int .u32 b, .int .i64 n] (.int .u32 (SP.join a b n : Nat)) := fun W => by
  have h := join_any a b n W ha hb
  rwa [clampN_of n hn] at h

set_option maxHeartbeats 1000000 in
theorem sumJoins_walk (s t : ByteArray) (w : World) (ws : s.size ≤ maxLen) (wt : t.size ≤ maxLen) :
    Calls Try.prog 4 #[.string s, .string t] w fun e w' => e = .returned (.bool true) ∧ Below w.heap.size w w' := by
  unfold maxLen at ws wt
  obtain ⟨m, hm, hm4, hms, hm2, hts⟩ := cut_min s 400 (by omega)
  obtain ⟨m', hm', hm4', hms', hm2', hts'⟩ := cut_min t 400 (by omega)
  have HTS := Lib.hid hts
  have HTS' := Lib.hid hts'
  clear hts hts'
  go_enter Try.func4, Try.ntmps4
  go_wp2_with fail
  clear hm hm2 hm' hm2'
  generalize s.extract 0 m = x at *
  generalize t.extract 0 m' = y at *
  obtain rfl := HTS.out
  obtain rfl := HTS'.out
  have hxl : x.size ≤ maxLen := by unfold maxLen; omega
  have hyl : y.size ≤ maxLen := by unfold maxLen; omega
  have hxy : (x ++ y).size ≤ maxLen := by unfold maxLen; simp only [ByteArray.size_append]; omega
  have HA : Hid (Tells 11 #[.string x] (.int .u32 (SP.sum x.data.toList : Nat))) := Lib.hid (fun W => table_any x W hxl)
  have HB : Hid (Tells 11 #[.string y] (.int .u32 (SP.sum y.data.toList : Nat))) := Lib.hid (fun W => table_any y W hyl)
  have HC : Hid (Tells 10 #[.string (x ++ y)] (.int .u32 (SP.sum (x.data.toList ++ y.data.toList) : Nat))) := Lib.hid (fun W => by have h := bits_any (x ++ y) W hxy; rwa [app_data] at h)
  have HD : Hid (Tells 11 #[.string (x ++ y)] (.int .u32 (SP.sum (x.data.toList ++ y.data.toList) : Nat))) := Lib.hid (fun W => by have h := table_any (x ++ y) W hxy; rwa [app_data] at h)
  have HM : Hid (Tells 12 #[.int .u32 (SP.sum x.data.toList : Nat), .string y] (.int .u32 (SP.sum (x.data.toList ++ y.data.toList) : Nat))) := Lib.hid (fun W => by have h := more_any (SP.sum x.data.toList) y W (SP.sum_lt _) hyl; rwa [← SP.sum_append] at h)
  have HJ : Hid (Tells 14 #[.int .u32 (SP.sum x.data.toList : Nat), .int .u32 (SP.sum y.data.toList : Nat), .int .i64 y.size] (.int .u32 (SP.sum (x.data.toList ++ y.data.toList) : Nat))) := Lib.hid (by
    have h := join_nat (SP.sum x.data.toList) (SP.sum y.data.toList) y.size (SP.sum_lt _) (SP.sum_lt _) (by omega)
    rwa [show SP.join (SP.sum x.data.toList) (SP.sum y.data.toList) y.size = SP.sum (x.data.toList ++ y.data.toList) from SP.join_texts x.data.toList y.data.toList] at h)
  have HJ0 : Hid (Tells 14 #[.int .u32 0, .int .u32 (SP.sum y.data.toList : Nat), .int .i64 y.size] (.int .u32 (SP.sum y.data.toList : Nat))) := Lib.hid (by
    have h := join_nat 0 (SP.sum y.data.toList) y.size (by omega) (SP.sum_lt _) (by omega)
    rwa [SP.join_first] at h)
  have HJ1 : Hid (Tells 14 #[.int .u32 (SP.sum x.data.toList : Nat), .int .u32 0, .int .i64 0] (.int .u32 (SP.sum x.data.toList : Nat))) := Lib.hid (by
    have h := join_nat (SP.sum x.data.toList) 0 0 (SP.sum_lt _) (by omega) (by omega)
    rwa [SP.join_none] at h)
  generalize SP.sum (x.data.toList ++ y.data.toList) = c at *
  generalize SP.sum x.data.toList = a at *
  generalize SP.sum y.data.toList = b at *
  refine (HA.out _).mono ?_
  rintro e w1 ⟨rfl, hb1⟩
  go_wp2_with fail
  refine (HB.out _).mono ?_
  rintro e w2 ⟨rfl, hb2⟩
  go_wp2_with fail
  refine (HC.out _).mono ?_
  rintro e w3 ⟨rfl, hb3⟩
  go_wp2_with fail
  refine (HD.out _).mono ?_
  rintro e w4 ⟨rfl, hb4⟩
  go_wp2_with fail
  refine (HM.out _).mono ?_
  rintro e w5 ⟨rfl, hb5⟩
  go_wp2_with fail
  refine (HJ.out _).mono ?_
  rintro e w6 ⟨rfl, hb6⟩
  go_wp2_with fail
  refine (HJ0.out _).mono ?_
  rintro e w7 ⟨rfl, hb7⟩
  go_wp2_with fail
  refine (HJ1.out _).mono ?_
  rintro e w8 ⟨rfl, hb8⟩
  go_wp2_with fail
  refine (fixed_any _).mono ?_
  rintro e w9 ⟨rfl, hb9⟩
  go_wp2_with fail
  go_ret
  exact ⟨rfl, (((((((hb1.trans' hb2).trans' hb3).trans' hb4).trans' hb5).trans' hb6).trans' hb7).trans' hb8).trans' hb9⟩

set_option maxHeartbeats 1000000 in
theorem sumThree_walk (s t u : ByteArray) (w : World) (ws : s.size ≤ maxLen) (wt : t.size ≤ maxLen) (wu : u.size ≤ maxLen) :
    Calls Try.prog 7 #[.string s, .string t, .string u] w fun e w' => e = .returned (.bool true) ∧ Below w.heap.size w w' := by
  unfold maxLen at ws wt wu
  obtain ⟨m, hm, hm4, hms, hm2, hts⟩ := cut_min s 200 (by omega)
  obtain ⟨m', hm', hm4', hms', hm2', hts'⟩ := cut_min t 200 (by omega)
  obtain ⟨m'', hm'', hm4'', hms'', hm2'', hts''⟩ := cut_min u 200 (by omega)
  have HTS := Lib.hid hts
  have HTS' := Lib.hid hts'
  have HTS'' := Lib.hid hts''
  clear hts hts' hts''
  go_enter Try.func7, Try.ntmps7
  go_wp2_with fail
  clear hm hm2 hm' hm2' hm'' hm2''
  generalize s.extract 0 m = x at *
  generalize t.extract 0 m' = y at *
  generalize u.extract 0 m'' = z at *
  obtain rfl := HTS.out
  obtain rfl := HTS'.out
  obtain rfl := HTS''.out
  have hxl : x.size ≤ maxLen := by unfold maxLen; omega
  have hyl : y.size ≤ maxLen := by unfold maxLen; omega
  have hzl : z.size ≤ maxLen := by unfold maxLen; omega
  have hxyz : (x ++ y ++ z).size ≤ maxLen := by unfold maxLen; simp only [ByteArray.size_append]; omega
  have HA : Hid (Tells 10 #[.string x] (.int .u32 (SP.sum x.data.toList : Nat))) := Lib.hid (fun W => bits_any x W hxl)
  have HB : Hid (Tells 10 #[.string y] (.int .u32 (SP.sum y.data.toList : Nat))) := Lib.hid (fun W => bits_any y W hyl)
  have HC : Hid (Tells 10 #[.string z] (.int .u32 (SP.sum z.data.toList : Nat))) := Lib.hid (fun W => bits_any z W hzl)
  have HJ1 : Hid (Tells 14 #[.int .u32 (SP.sum x.data.toList : Nat), .int .u32 (SP.sum y.data.toList : Nat), .int .i64 y.size] (.int .u32 (SP.sum (x.data.toList ++ y.data.toList) : Nat))) := Lib.hid (by
    have h := join_nat (SP.sum x.data.toList) (SP.sum y.data.toList) y.size (SP.sum_lt _) (SP.sum_lt _) (by omega)
    rwa [show SP.join (SP.sum x.data.toList) (SP.sum y.data.toList) y.size = SP.sum (x.data.toList ++ y.data.toList) from SP.join_texts x.data.toList y.data.toList] at h)
  have HJ2 : Hid (Tells 14 #[.int .u32 (SP.sum (x.data.toList ++ y.data.toList) : Nat), .int .u32 (SP.sum z.data.toList : Nat), .int .i64 z.size] (.int .u32 (SP.sum (x.data.toList ++ y.data.toList ++ z.data.toList) : Nat))) := Lib.hid (by
    have h := join_nat (SP.sum (x.data.toList ++ y.data.toList)) (SP.sum z.data.toList) z.size (SP.sum_lt _) (SP.sum_lt _) (by omega)
    rwa [show SP.join (SP.sum (x.data.toList ++ y.data.toList)) (SP.sum z.data.toList) z.size = SP.sum (x.data.toList ++ y.data.toList ++ z.data.toList) from SP.join_texts (x.data.toList ++ y.data.toList) z.data.toList] at h)
  have HJ3 : Hid (Tells 14 #[.int .u32 (SP.sum y.data.toList : Nat), .int .u32 (SP.sum z.data.toList : Nat), .int .i64 z.size] (.int .u32 (SP.sum (y.data.toList ++ z.data.toList) : Nat))) := Lib.hid (by
    have h := join_nat (SP.sum y.data.toList) (SP.sum z.data.toList) z.size (SP.sum_lt _) (SP.sum_lt _) (by omega)
    rwa [show SP.join (SP.sum y.data.toList) (SP.sum z.data.toList) z.size = SP.sum (y.data.toList ++ z.data.toList) from SP.join_texts y.data.toList z.data.toList] at h)
  have HJ4 : Hid (Tells 14 #[.int .u32 (SP.sum x.data.toList : Nat), .int .u32 (SP.sum (y.data.toList ++ z.data.toList) : Nat), .int .i64 ((y.size : Int) + z.size)] (.int .u32 (SP.sum (x.data.toList ++ y.data.toList ++ z.data.toList) : Nat))) := Lib.hid (by
    have h := join_nat (SP.sum x.data.toList) (SP.sum (y.data.toList ++ z.data.toList)) (y.data.toList ++ z.data.toList).length (SP.sum_lt _) (SP.sum_lt _) (by simp only [List.length_append]; simp; omega)
    rw [SP.join_texts, ← List.append_assoc] at h
    rwa [show (((y.data.toList ++ z.data.toList).length : Nat) : Int) = (y.size : Int) + z.size by simp] at h)
  have HD : Hid (Tells 11 #[.string (x ++ y ++ z)] (.int .u32 (SP.sum (x.data.toList ++ y.data.toList ++ z.data.toList) : Nat))) := Lib.hid (fun W => by have h := table_any (x ++ y ++ z) W hxyz; rwa [app_data, app_data] at h)
  generalize SP.sum (x.data.toList ++ y.data.toList ++ z.data.toList) = abc at *
  generalize SP.sum (x.data.toList ++ y.data.toList) = ab at *
  generalize SP.sum (y.data.toList ++ z.data.toList) = bc at *
  generalize SP.sum x.data.toList = a at *
  generalize SP.sum y.data.toList = b at *
  generalize SP.sum z.data.toList = c at *
  refine (HA.out _).mono ?_
  rintro e w1 ⟨rfl, hb1⟩
  go_wp2_with fail
  refine (HB.out _).mono ?_
  rintro e w2 ⟨rfl, hb2⟩
  go_wp2_with fail
  refine (HC.out _).mono ?_
  rintro e w3 ⟨rfl, hb3⟩
  go_wp2_with fail
  refine (HJ1.out _).mono ?_
  rintro e w4 ⟨rfl, hb4⟩
  go_wp2_with fail
  refine (HJ2.out _).mono ?_
  rintro e w5 ⟨rfl, hb5⟩
  go_wp2_with fail
  refine (HJ3.out _).mono ?_
  rintro e w6 ⟨rfl, hb6⟩
  go_wp2_with fail
  refine (HJ4.out _).mono ?_
  rintro e w7 ⟨rfl, hb7⟩
  go_wp2_with fail
  refine (HD.out _).mono ?_
  rintro e w8 ⟨rfl, hb8⟩
  go_wp2_with fail
  refine (fixed_any _).mono ?_
  rintro e w9 ⟨rfl, hb9⟩
  go_wp2_with fail
  go_ret
  exact ⟨rfl, (((((((hb1.trans' hb2).trans' hb3).trans' hb4).trans' hb5).trans' hb6).trans' hb7).trans' hb8).trans' hb9⟩

end Go.Proofs.Ytepefmgdkkecaaa
