/-
  The walk of the law CellStrip. Written by wip/gen_vstrip.py.
-/
import Derived.Test.YtppnchjmbeinkaaVLaw
import Derived.BigQuiet
import Derived.StillTailTactics
namespace Go.Proofs.Ytppnchjmbeinkaa
open Go.RowKit
set_option linter.unusedVariables false
set_option linter.unusedSimpArgs false

theorem wrap64_in {x : Int} (h : 0 ≤ x) (h' : x < 9223372036854775808) : wrap64 x = x := by unfold wrap64; omega
theorem i64_of {x : Int} (h : 0 ≤ x) (h' : x < 65536) : IntKind.i64.wrap x = x := IntWalk.i64_in _ (by omega)
theorem take_op {P : Program} {ops : Array Oper} {Q : Exit → Act → World → Prop} {md : Region.Mode} {S : World → Prop} {i : Nat} {oi : Oper} {d : Option Tmp} {v : Value} {fuel : Nat} {listed : Array Bool} {a : Act} {w : World} (hi : ops[i]? = some oi) (hd : oi.dst = d)
    (hs : Region.noSelect ops = true) (hf : Region.free md ops listed i = true) (hr : (Region.ready md ops listed).contains i = true)
    (hQ : ∀ c a w, Q (.panic c) (a.put d v) w → Q (.panic c) a w) (hy : YieldsIf P ops S oi v a) (hS : S w)
    (h : wpAnyH P md ops Q S fuel (listed.setIfInBounds i true) (a.put d v) w) : wpAnyH P md ops Q S (fuel + 1) listed a w := by
  subst hd
  exact wpAnyH_take hi hs hf hr hQ hy hS h
/-- One that is not wanted is passed by. -/
theorem skip_op {P : Program} {ops : Array Oper} {Q : Exit → Act → World → Prop} {md : Region.Mode} {S : World → Prop} {i : Nat} {oi : Oper} {d : Option Tmp} {fuel : Nat} {listed : Array Bool} {a : Act} {w : World} (hi : ops[i]? = some oi) (hd : oi.dst = d)
    (hs : Region.noSelect ops = true) (hf : Region.free md ops listed i = true) (hr : (Region.ready md ops listed).contains i = true)
    (hQ : ∀ c a w, Q (.panic c) (a.put d undef) w → Q (.panic c) a w) (hw : Region.wanted oi (yielded ops a.tmps) = false) (hS : S w)
    (h : wpAnyH P md ops Q S fuel (listed.setIfInBounds i true) (a.put d undef) w) : wpAnyH P md ops Q S (fuel + 1) listed a w :=
  take_op hi hd hs hf hr hQ (Or.inr ⟨hw, rfl⟩) hS h
/-- A text that is shorter by some first bytes. -/
theorem from_text (t : ByteArray) (n : Nat) : (t.extract n t.size).data.toList = t.data.toList.drop n := by
  rw [cut_list]
  exact List.take_of_length_le (by simp)
theorem strip_cell (t t' : ByteArray) (n : Nat) (v : VP.V) (ht : t.size ≤ 128) (h : t' = t.extract n t.size) (hn : n ≤ t.size) :
    (cellS t v).size = (cellS t' v).size + n ∧ 1 + t.size ≤ (cellS t v).size ∧ 1 ≤ (cellS t' v).size ∧ (cellS t v).extract (1 + n) (cellS t v).size = (cellS t' v).extract 1 (cellS t' v).size ∧ (cellS t v).size ≤ 129 + (VP.tail v).length := by
  have hs : t'.size = t.size - n := by rw [h]; simp
  have hl : t.data.toList.length = t.size := by simp
  have hl' : t'.data.toList.length = t'.size := by simp
  have h1 := put_short t.size (by omega)
  have h2 := put_short t'.size (by omega)
  have e1 : (cellS t v).data.toList = WP.put t.size ++ (t.data.toList ++ VP.tail v) := by simp [cellS, VP.cellV, VP.text]
  have e2 : (cellS t' v).data.toList = WP.put t'.size ++ (t'.data.toList ++ VP.tail v) := by simp [cellS, VP.cellV, VP.text]
  have s1 : (cellS t v).size = 1 + t.size + (VP.tail v).length := by
    have := congrArg List.length e1
    simp only [List.length_append, h1, hl, Array.length_toList, ByteArray.size_data] at this
    omega
  have s2 : (cellS t' v).size = 1 + t'.size + (VP.tail v).length := by
    have := congrArg List.length e2
    simp only [List.length_append, h2, hl', Array.length_toList, ByteArray.size_data] at this
    omega
  refine ⟨by omega, by omega, by omega, bytes_inj ?_, by omega⟩
  rw [from_text, from_text, e1, e2, ← List.drop_drop, ← h1, List.drop_left, h1, List.drop_append_of_le_length (by omega), ← h2, List.drop_left, h, from_text]
theorem strip_kid (t t' : ByteArray) (n k : Nat) (ht : t.size ≤ 128) (h : t' = t.extract n t.size) (hn : n ≤ t.size) :
    (kidS k t).size = (kidS k t').size + n ∧ 5 ≤ (kidS k t').size ∧ (kidS k t).extract 0 4 = (kidS k t').extract 0 4 ∧ (kidS k t).extract (5 + n) (kidS k t).size = (kidS k t').extract 5 (kidS k t').size ∧ (kidS k t).size ≤ 200 := by
  have hs : t'.size = t.size - n := by rw [h]; simp
  have h1 := put_short t.size (by omega)
  have h2 := put_short t'.size (by omega)
  have hf := Lib.leBytes_length 4 k
  have s1 := kidS_size k t
  have s2 := kidS_size k t'
  rw [h1] at s1
  rw [h2] at s2
  have e1 : (kidS k t).data.toList = (Lib.leBytes 4 k ++ WP.put t.size) ++ t.data.toList := by simp [kidS, VP.cellK, VP.text]
  have e2 : (kidS k t').data.toList = (Lib.leBytes 4 k ++ WP.put t'.size) ++ t'.data.toList := by simp [kidS, VP.cellK, VP.text]
  have l1 : (Lib.leBytes 4 k ++ WP.put t.size).length = 5 := by rw [List.length_append, hf, h1]
  have l2 : (Lib.leBytes 4 k ++ WP.put t'.size).length = 5 := by rw [List.length_append, hf, h2]
  refine ⟨by omega, by omega, bytes_inj ?_, bytes_inj ?_, by omega⟩
  · rw [cut_list, cut_list, e1, e2]
    simp only [List.drop_zero, Nat.sub_zero, List.append_assoc]
    rw [List.take_append_of_le_length (by omega), List.take_append_of_le_length (by omega)]
  · rw [from_text, from_text, e1, e2, ← List.drop_drop, ← l1, List.drop_left, l1, ← l2, List.drop_left, h, from_text]

set_option maxHeartbeats 8000000 in
set_option maxRecDepth 100000 in
theorem cellStrip_walk (HSAY : Says) (X : ByteArray) (O : Bool) (S : ByteArray) (L P : Int) (at_ c k : Int) (w : World) (wx : X.size ≤ maxLen) (ws : S.size ≤ maxLen) (wa : (Lit.int .u16 at_).wf = true) (wc : (Lit.int .u8 c).wf = true) :
    Calls Try.prog 8 #[.string X, vv O S L P, .agg #[.int .u16 at_, .int .u8 c, .int .i64 k]] w fun e w' => e = .returned (.bool true) ∧ Below w.heap.size w w' := by
  obtain ⟨hx0, hx2⟩ := bounds_u16 wa
  obtain ⟨x, rfl⟩ := Int.eq_ofNat_of_zero_le hx0
  have HFX := Lib.hid (fun W => fixed_any HSAY W)
  have hbA := below_alloc w (.cells #[.bool O, .string S, .int .i64 L, .int .i64 P] 23)
  have hbB := below_alloc (w.alloc (.cells #[.bool O, .string S, .int .i64 L, .int .i64 P] 23)) (.cells #[.int .u16 (x : Int), .int .u8 c, .int .i64 k] 46)
  have hb0 := hbA.trans' hbB
  have HK0 := Lib.hid ((Bx.new 23 O S L P w).below hbB)
  have HX0 : Hid (Blk (w.heap.size + 1) #[.int .u16 (x : Int), .int .u8 c, .int .i64 k] 46 ((w.alloc (.cells #[.bool O, .string S, .int .i64 L, .int .i64 P] 23)).alloc (.cells #[.int .u16 (x : Int), .int .u8 c, .int .i64 k] 46))) := Lib.hid (by
    have h := heap_alloc_new (w.alloc (.cells #[.bool O, .string S, .int .i64 L, .int .i64 P] 23)) (.cells #[.int .u16 (x : Int), .int .u8 c, .int .i64 k] 46)
    rw [show (w.alloc (.cells #[.bool O, .string S, .int .i64 L, .int .i64 P] 23)).heap.size = w.heap.size + 1 by simp] at h
    exact h)
  have HCUT := Lib.hid (fun W => vcut_any O S L P W ws)
  have hV := cutV_size S
  unfold maxLen at wx
  obtain ⟨m, hm, hm6, hms, hmm, hfs⟩ := cut_min X 128 (by omega)
  obtain ⟨T, hT⟩ : ∃ T, X.extract 0 m = T := ⟨_, rfl⟩
  rw [hT] at hfs
  have hTs : T.size ≤ 128 := by omega
  generalize cutV S = V at *
  obtain ⟨t1, ht1⟩ : ∃ t, T.size + 1 = t := ⟨_, rfl⟩
  obtain ⟨n, hnx⟩ : ∃ n, x % t1 = n := ⟨_, rfl⟩
  have hn : n ≤ T.size := by have := Nat.mod_lt x (show 0 < t1 by omega); omega
  have q1 : IntKind.i64.wrap ((T.size : Int) + 1) = t1 := by rw [show (T.size : Int) + 1 = t1 by omega]; exact IntWalk.i64_in _ (by omega)
  have q2 : (x : Int).tmod (t1 : Int) = n := by rw [← hnx]; rfl
  have q3 : (x : Int) % (t1 : Int) = n := by rw [← hnx]; rfl
  have ht0 : ¬ t1 = 0 := by omega
  have q2' : (x : Int).tmod ((T.size : Int) + 1) = n := by rw [show (T.size : Int) + 1 = t1 by omega]; exact q2
  have q2'' : wrap64 (x : Int) = x := wrap64_in hx0 (Int.lt_trans hx2 (by decide))
  have q2a : IntKind.i64.wrap (x : Int) = x := i64_of hx0 hx2
  obtain ⟨T', hT'⟩ : ∃ t, T.extract n T.size = t := ⟨_, rfl⟩
  have hTs' : T'.size ≤ 128 := by rw [← hT']; simp; omega
  have hc := strip_cell T T' n (pv O V L P) hTs hT'.symm hn
  have hk := fun k => strip_kid T T' n k hTs hT'.symm hn
  have j1 : (0 : Int) ≤ (n : Int) := by omega
  have j2 : (n : Int) ≤ T.size := by omega
  have HPV1 := Lib.hid (fun W => HSAY.putV T O V L P (by omega) (by omega) W)
  have HPV2 := Lib.hid (fun W => HSAY.putV T' O V L P (by omega) (by omega) W)
  have HPK1 := Lib.hid (fun W => HSAY.putK k T (by omega) W)
  have HPK2 := Lib.hid (fun W => HSAY.putK k T' (by omega) W)
  have HST : Hid (∀ Z, Bx 23 w.heap.size O V L P Z → Blk (w.heap.size + 1) #[.int .u16 (x : Int), .int .u8 c, .int .i64 k] 46 Z → Hid (Bx 23 w.heap.size O V L P Z) ∧ Hid (Blk (w.heap.size + 1) #[.int .u16 (x : Int), .int .u8 c, .int .i64 k] 46 Z) ∧ Z.cell? ⟨w.heap.size, 0, none⟩ = some (.bool O) ∧ Z.cell? ⟨w.heap.size, 1, none⟩ = some (.string V) ∧ Z.cell? ⟨w.heap.size, 2, none⟩ = some (.int .i64 L) ∧ Z.cell? ⟨w.heap.size, 3, none⟩ = some (.int .i64 P) ∧ Z.cell? ⟨w.heap.size + 1, 2, none⟩ = some (.int .i64 k)) := Lib.hid (fun Z h1 h2 => ⟨Lib.hid h1, Lib.hid h2, h1.cells.1, h1.cells.2.1, h1.cells.2.2.1, h1.cells.2.2.2, h2.cell 2 _ rfl⟩)
  have HKE : Hid (∀ Y Z : World, Below Y.heap.size Y Z → (Hid (Bx 23 w.heap.size O V L P Y) ∧ Hid (Blk (w.heap.size + 1) #[.int .u16 (x : Int), .int .u8 c, .int .i64 k] 46 Y) ∧ Y.cell? ⟨w.heap.size, 0, none⟩ = some (.bool O) ∧ Y.cell? ⟨w.heap.size, 1, none⟩ = some (.string V) ∧ Y.cell? ⟨w.heap.size, 2, none⟩ = some (.int .i64 L) ∧ Y.cell? ⟨w.heap.size, 3, none⟩ = some (.int .i64 P) ∧ Y.cell? ⟨w.heap.size + 1, 2, none⟩ = some (.int .i64 k)) → Hid (Bx 23 w.heap.size O V L P Z) ∧ Hid (Blk (w.heap.size + 1) #[.int .u16 (x : Int), .int .u8 c, .int .i64 k] 46 Z) ∧ Z.cell? ⟨w.heap.size, 0, none⟩ = some (.bool O) ∧ Z.cell? ⟨w.heap.size, 1, none⟩ = some (.string V) ∧ Z.cell? ⟨w.heap.size, 2, none⟩ = some (.int .i64 L) ∧ Z.cell? ⟨w.heap.size, 3, none⟩ = some (.int .i64 P) ∧ Z.cell? ⟨w.heap.size + 1, 2, none⟩ = some (.int .i64 k)) := Lib.hid (fun Y Z hb h => HST.out Z (h.1.out.below hb) (h.2.1.out.below hb))
  have hl : T.data.toList.length = T.size := by simp
  have hl' : T'.data.toList.length = T'.size := by simp
  obtain ⟨u, hu⟩ : ∃ u, 1 + T.size = u := ⟨_, rfl⟩
  have q4 : IntKind.i64.wrap (1 + (T.size : Int)) = u := by rw [show 1 + (T.size : Int) = u by omega]; exact IntWalk.i64_in _ (by omega)
  obtain ⟨n1, hn1⟩ : ∃ u, 1 + n = u := ⟨_, rfl⟩
  have q5 : IntKind.i64.wrap (1 + (n : Int)) = n1 := by rw [show 1 + (n : Int) = n1 by omega]; exact IntWalk.i64_in _ (by omega)
  obtain ⟨n5, hn5⟩ : ∃ u, 5 + n = u := ⟨_, rfl⟩
  have q6 : IntKind.i64.wrap (5 + (n : Int)) = n5 := by rw [show 5 + (n : Int) = n5 by omega]; exact IntWalk.i64_in _ (by omega)
  rw [hn1] at hc
  rw [hn5] at hk
  by_cases hR : VP.Right (pv O V L P)
  · have e1 : putVV T (pv O V L P) = .tuple #[.string (cellS T (pv O V L P)), .int .i64 0] := if_pos ⟨by omega, hR⟩
    have e2 : putVV T' (pv O V L P) = .tuple #[.string (cellS T' (pv O V L P)), .int .i64 0] := if_pos ⟨by omega, hR⟩
    rw [e1] at HPV1
    rw [e2] at HPV2
    generalize cellS T (pv O V L P) = C1 at *
    generalize cellS T' (pv O V L P) = C2 at *
    obtain ⟨hc1, hc2, hc3, hc4, hc5⟩ := hc
    obtain ⟨z1, hz1⟩ : ∃ z, C1.size = z := ⟨_, rfl⟩
    obtain ⟨z2, hz2⟩ : ∃ z, C2.size = z := ⟨_, rfl⟩
    rw [hz1, hz2] at hc1 hc4
    rw [hz1] at hc2 hc5
    have htb := tail_bound O V L P hR hV
    rw [hz2] at hc3
    have q7 : IntKind.i64.wrap ((z2 : Int) + n) = z1 := by rw [show (z2 : Int) + n = z1 by omega]; exact IntWalk.i64_in _ (by omega)
    have q8 : decide ((z1 : Int) < u) = false := decide_eq_false (by omega)
    have q9 : decide (z1 < u) = false := decide_eq_false (by omega)
    have q10 : (0 : Int) ≤ n1 := by omega
    have q11 : (n1 : Int) ≤ z1 := by omega
    have q12 : (1 : Int) ≤ z2 := by omega
    clear e1 e2 hR hc1 hc2 hc3 hc5 htb
    by_cases hKk : 1 ≤ k ∧ k ≤ 4095
    · obtain ⟨kk, hkk⟩ := Int.eq_ofNat_of_zero_le (show 0 ≤ k by omega)
      have e3 : putKV k T = .tuple #[.string (kidS kk T), .int .i64 0] := by
        rw [hkk]; exact if_pos ⟨by omega, by omega, by omega⟩
      have e4 : putKV k T' = .tuple #[.string (kidS kk T'), .int .i64 0] := by
        rw [hkk]; exact if_pos ⟨by omega, by omega, by omega⟩
      rw [e3] at HPK1
      rw [e4] at HPK2
      obtain ⟨hk1, hk2, hk3, hk4, hk5⟩ := hk kk
      generalize kidS kk T = D1 at *
      generalize kidS kk T' = D2 at *
      obtain ⟨y1, hy1⟩ : ∃ z, D1.size = z := ⟨_, rfl⟩
      obtain ⟨y2, hy2⟩ : ∃ z, D2.size = z := ⟨_, rfl⟩
      rw [hy1, hy2] at hk1 hk4
      rw [hy1] at hk5
      rw [hy2] at hk2
      have p1 : IntKind.i64.wrap ((y2 : Int) + n) = y1 := by rw [show (y2 : Int) + n = y1 by omega]; exact IntWalk.i64_in _ (by omega)
      have p2 : (4 : Int) ≤ y1 := by omega
      have p3 : (4 : Int) ≤ y2 := by omega
      have p4 : (n5 : Int) ≤ y1 := by omega
      have p5 : (5 : Int) ≤ y2 := by omega
      have p6 : (0 : Int) ≤ n5 := by omega
      have p7 : decide ((5 : Int) ≤ y2) = true := decide_eq_true p5
      have p8 : decide (5 ≤ y2) = true := decide_eq_true hk2
      clear e3 e4 hk hKk hkk hk1 hk2 hk5 hn5 hfs hV wa hx0 hx2 hnx ht1 hl hl' hu hn1 hTs hTs' HSAY ws
      go_enter Try.func8, Try.ntmps8
      go_wp2_with fail
      refine (HCUT.out _).mono ?_
      rintro e w1 ⟨rfl, hb1⟩
      have L0 := HK0.out.below hb1
      have X1 := HX0.out.below hb1
      have hbL := hb0.trans' hb1
      clear hb1 HK0 HX0 hb0 HCUT
      obtain ⟨a0, a1, a2, a3⟩ := L0.cells
      obtain ⟨b0, b1, b2, b3⟩ := L0.free
      have K1 := set4_box L0 O V L P
      have X2 : Blk (w.heap.size + 1) #[.int .u16 (x : Int), .int .u8 c, .int .i64 k] 46 (set4 w1 w.heap.size O V L P) := (set4_other (by omega) O V L P).trans X1
      have hbW := set4_below hbL (Nat.le_refl _) O V L P
      obtain ⟨W, hW⟩ : ∃ W, set4 w1 w.heap.size O V L P = W := ⟨_, rfl⟩
      rw [hW] at K1 hbW X2
      unfold set4 at hW
      obtain ⟨k0, k1, k2, k3⟩ := K1.cells
      have x0 := X2.cell 0 (.int .u16 (x : Int)) rfl
      have HBW := Lib.hid hbW
      have HK1 := Lib.hid K1
      have HX2 := Lib.hid X2
      clear L0 X1 hbL K1 hbW X2
      go_wp2_with fail
      refine (HPV1.out _).mono ?_
      rintro e w2 ⟨rfl, hb2⟩
      have HK2 := Lib.hid (HK1.out.below hb2)
      have HX3 := Lib.hid (HX2.out.below hb2)
      have HB2 := Lib.hid (HBW.out.trans' hb2)
      clear hb2 HK1 HBW HX2 a0 a1 a2 a3 b0 b1 b2 b3 hW k0 k1 k2 k3 x0
      have hG2 := HST.out w2 HK2.out HX3.out
      go_wp2_with fail
      go_region_held3 (fun Z => Hid (Bx 23 w.heap.size O V L P Z) ∧ Hid (Blk (w.heap.size + 1) #[.int .u16 (x : Int), .int .u8 c, .int .i64 k] 46 Z) ∧ Z.cell? ⟨w.heap.size, 0, none⟩ = some (.bool O) ∧ Z.cell? ⟨w.heap.size, 1, none⟩ = some (.string V) ∧ Z.cell? ⟨w.heap.size, 2, none⟩ = some (.int .i64 L) ∧ Z.cell? ⟨w.heap.size, 3, none⟩ = some (.int .i64 P) ∧ Z.cell? ⟨w.heap.size + 1, 2, none⟩ = some (.int .i64 k))
        (first | assumption | exact hG2 | exact HKE.out _ _ (by assumption) (by assumption))
        (first
          | (go_at_call 10; refine (HPV2.out _).mono ?_; rintro e w3 ⟨rfl, hb3⟩)
          | fail "no arm")
      have hb3' := below_of_drew hb3
      have HK3 := Lib.hid (HK2.out.below hb3')
      have HX4 := Lib.hid (HX3.out.below hb3')
      have HB3 := Lib.hid (HB2.out.trans' hb3')
      clear hb3 hb3' hG2 HK2 HX3 HB2
      have x2 := HX4.out.cell 2 (.int .i64 k) rfl
      go_wp2_with fail
      refine (HPK1.out _).mono ?_
      rintro e w4 ⟨rfl, hb4⟩
      have HK4 := Lib.hid (HK3.out.below hb4)
      have HX5 := Lib.hid (HX4.out.below hb4)
      have HB4 := Lib.hid (HB3.out.trans' hb4)
      clear hb4 HK3 HX4 HB3 x2
      have hG4 := HST.out w4 HK4.out HX5.out
      go_wp2_with fail
      go_region_held3 (fun Z => Hid (Bx 23 w.heap.size O V L P Z) ∧ Hid (Blk (w.heap.size + 1) #[.int .u16 (x : Int), .int .u8 c, .int .i64 k] 46 Z) ∧ Z.cell? ⟨w.heap.size, 0, none⟩ = some (.bool O) ∧ Z.cell? ⟨w.heap.size, 1, none⟩ = some (.string V) ∧ Z.cell? ⟨w.heap.size, 2, none⟩ = some (.int .i64 L) ∧ Z.cell? ⟨w.heap.size, 3, none⟩ = some (.int .i64 P) ∧ Z.cell? ⟨w.heap.size + 1, 2, none⟩ = some (.int .i64 k))
        (first | assumption | exact hG4 | exact HKE.out _ _ (by assumption) (by assumption))
        (first
          | (go_at_call 13; refine (HPK2.out _).mono ?_; rintro e w5 ⟨rfl, hb5⟩)
          | fail "no arm")
      have HB5 := Lib.hid (HB4.out.trans' (below_of_drew hb5))
      clear hb5 hG4 HK4 HX5 HB4
      go_wp2_with fail
      go_quiet (fail)
      go_wp2_with fail
      go_region_held3 (fun _ => True) (trivial)
        (first
          | (go_at_call 21; refine (HFX.out _).mono ?_; rintro e w6 ⟨rfl, hb6⟩)
          | fail "no arm")
      go_wp2_with fail
      go_ret
      exact ⟨rfl, (below_drewN HB5.out _).trans' (below_of_drew hb6)⟩
    · have e3 : putKV k T = .tuple #[.string ⟨#[]⟩, .int .i64 3] := if_neg (fun h => hKk ⟨h.1, h.2.1⟩)
      have e4 : putKV k T' = .tuple #[.string ⟨#[]⟩, .int .i64 3] := if_neg (fun h => hKk ⟨h.1, h.2.1⟩)
      rw [e3] at HPK1
      rw [e4] at HPK2
      clear e3 e4 hk hKk hn5 hfs hV wa hx0 hx2 hnx ht1 hl hl' hu hn1 hTs hTs' HSAY ws
      go_enter Try.func8, Try.ntmps8
      go_wp2_with fail
      refine (HCUT.out _).mono ?_
      rintro e w1 ⟨rfl, hb1⟩
      have L0 := HK0.out.below hb1
      have X1 := HX0.out.below hb1
      have hbL := hb0.trans' hb1
      clear hb1 HK0 HX0 hb0 HCUT
      obtain ⟨a0, a1, a2, a3⟩ := L0.cells
      obtain ⟨b0, b1, b2, b3⟩ := L0.free
      have K1 := set4_box L0 O V L P
      have X2 : Blk (w.heap.size + 1) #[.int .u16 (x : Int), .int .u8 c, .int .i64 k] 46 (set4 w1 w.heap.size O V L P) := (set4_other (by omega) O V L P).trans X1
      have hbW := set4_below hbL (Nat.le_refl _) O V L P
      obtain ⟨W, hW⟩ : ∃ W, set4 w1 w.heap.size O V L P = W := ⟨_, rfl⟩
      rw [hW] at K1 hbW X2
      unfold set4 at hW
      obtain ⟨k0, k1, k2, k3⟩ := K1.cells
      have x0 := X2.cell 0 (.int .u16 (x : Int)) rfl
      have HBW := Lib.hid hbW
      have HK1 := Lib.hid K1
      have HX2 := Lib.hid X2
      clear L0 X1 hbL K1 hbW X2
      go_wp2_with fail
      refine (HPV1.out _).mono ?_
      rintro e w2 ⟨rfl, hb2⟩
      have HK2 := Lib.hid (HK1.out.below hb2)
      have HX3 := Lib.hid (HX2.out.below hb2)
      have HB2 := Lib.hid (HBW.out.trans' hb2)
      clear hb2 HK1 HBW HX2 a0 a1 a2 a3 b0 b1 b2 b3 hW k0 k1 k2 k3 x0
      have hG2 := HST.out w2 HK2.out HX3.out
      go_wp2_with fail
      go_region_held3 (fun Z => Hid (Bx 23 w.heap.size O V L P Z) ∧ Hid (Blk (w.heap.size + 1) #[.int .u16 (x : Int), .int .u8 c, .int .i64 k] 46 Z) ∧ Z.cell? ⟨w.heap.size, 0, none⟩ = some (.bool O) ∧ Z.cell? ⟨w.heap.size, 1, none⟩ = some (.string V) ∧ Z.cell? ⟨w.heap.size, 2, none⟩ = some (.int .i64 L) ∧ Z.cell? ⟨w.heap.size, 3, none⟩ = some (.int .i64 P) ∧ Z.cell? ⟨w.heap.size + 1, 2, none⟩ = some (.int .i64 k))
        (first | assumption | exact hG2 | exact HKE.out _ _ (by assumption) (by assumption))
        (first
          | (go_at_call 10; refine (HPV2.out _).mono ?_; rintro e w3 ⟨rfl, hb3⟩)
          | fail "no arm")
      have hb3' := below_of_drew hb3
      have HK3 := Lib.hid (HK2.out.below hb3')
      have HX4 := Lib.hid (HX3.out.below hb3')
      have HB3 := Lib.hid (HB2.out.trans' hb3')
      clear hb3 hb3' hG2 HK2 HX3 HB2
      have x2 := HX4.out.cell 2 (.int .i64 k) rfl
      go_wp2_with fail
      refine (HPK1.out _).mono ?_
      rintro e w4 ⟨rfl, hb4⟩
      have HK4 := Lib.hid (HK3.out.below hb4)
      have HX5 := Lib.hid (HX4.out.below hb4)
      have HB4 := Lib.hid (HB3.out.trans' hb4)
      clear hb4 HK3 HX4 HB3 x2
      have hG4 := HST.out w4 HK4.out HX5.out
      go_wp2_with fail
      go_region_held3 (fun Z => Hid (Bx 23 w.heap.size O V L P Z) ∧ Hid (Blk (w.heap.size + 1) #[.int .u16 (x : Int), .int .u8 c, .int .i64 k] 46 Z) ∧ Z.cell? ⟨w.heap.size, 0, none⟩ = some (.bool O) ∧ Z.cell? ⟨w.heap.size, 1, none⟩ = some (.string V) ∧ Z.cell? ⟨w.heap.size, 2, none⟩ = some (.int .i64 L) ∧ Z.cell? ⟨w.heap.size, 3, none⟩ = some (.int .i64 P) ∧ Z.cell? ⟨w.heap.size + 1, 2, none⟩ = some (.int .i64 k))
        (first | assumption | exact hG4 | exact HKE.out _ _ (by assumption) (by assumption))
        (first
          | (go_at_call 13; refine (HPK2.out _).mono ?_; rintro e w5 ⟨rfl, hb5⟩)
          | fail "no arm")
      have HB5 := Lib.hid (HB4.out.trans' (below_of_drew hb5))
      clear hb5 hG4 HK4 HX5 HB4
      go_wp2_with fail
      go_quiet (fail)
      go_wp2_with fail
      refine wp_region_held_drew (S := fun _ => True) (by kernel_rfl) trivial (fun hHeld => ?_)
      refine take_op (i := 0) (d := some 96) (v := ?_) rfl rfl (by kernel_rfl) (by kernel_rfl) (by kernel_rfl) (fun _ _ _ h => h) (Or.inl ⟨by kernel_rfl, ?_⟩) trivial ?_
      rotate_left
      · intro W hSw; go_simp; with_reducible rfl
      try simp only [Act.put, List.setIfInBounds_toArray, List.set_cons_zero, List.set_cons_succ]
      refine take_op (i := 1) (d := some 97) (v := ?_) rfl rfl (by kernel_rfl) (by kernel_rfl) (by kernel_rfl) (fun _ _ _ h => h) (Or.inl ⟨by kernel_rfl, ?_⟩) trivial ?_
      rotate_left
      · intro W hSw; go_simp; with_reducible rfl
      try simp only [Act.put, List.setIfInBounds_toArray, List.set_cons_zero, List.set_cons_succ]
      refine take_op (i := 2) (d := some 98) (v := ?_) rfl rfl (by kernel_rfl) (by kernel_rfl) (by kernel_rfl) (fun _ _ _ h => h) (Or.inl ⟨by kernel_rfl, ?_⟩) trivial ?_
      rotate_left
      · intro W hSw; go_simp; with_reducible rfl
      try simp only [Act.put, List.setIfInBounds_toArray, List.set_cons_zero, List.set_cons_succ]
      refine skip_op (i := 3) (d := some 99) rfl rfl (by kernel_rfl) (by kernel_rfl) (by kernel_rfl) (fun _ _ _ h => h) (by kernel_rfl) trivial ?_
      try simp only [Act.put, List.setIfInBounds_toArray, List.set_cons_zero, List.set_cons_succ]
      refine skip_op (i := 4) (d := some 100) rfl rfl (by kernel_rfl) (by kernel_rfl) (by kernel_rfl) (fun _ _ _ h => h) (by kernel_rfl) trivial ?_
      try simp only [Act.put, List.setIfInBounds_toArray, List.set_cons_zero, List.set_cons_succ]
      refine skip_op (i := 5) (d := some 101) rfl rfl (by kernel_rfl) (by kernel_rfl) (by kernel_rfl) (fun _ _ _ h => h) (by kernel_rfl) trivial ?_
      try simp only [Act.put, List.setIfInBounds_toArray, List.set_cons_zero, List.set_cons_succ]
      refine skip_op (i := 6) (d := some 102) rfl rfl (by kernel_rfl) (by kernel_rfl) (by kernel_rfl) (fun _ _ _ h => h) (by kernel_rfl) trivial ?_
      try simp only [Act.put, List.setIfInBounds_toArray, List.set_cons_zero, List.set_cons_succ]
      refine skip_op (i := 7) (d := some 103) rfl rfl (by kernel_rfl) (by kernel_rfl) (by kernel_rfl) (fun _ _ _ h => h) (by kernel_rfl) trivial ?_
      try simp only [Act.put, List.setIfInBounds_toArray, List.set_cons_zero, List.set_cons_succ]
      refine skip_op (i := 8) (d := some 104) rfl rfl (by kernel_rfl) (by kernel_rfl) (by kernel_rfl) (fun _ _ _ h => h) (by kernel_rfl) trivial ?_
      try simp only [Act.put, List.setIfInBounds_toArray, List.set_cons_zero, List.set_cons_succ]
      refine skip_op (i := 9) (d := some 105) rfl rfl (by kernel_rfl) (by kernel_rfl) (by kernel_rfl) (fun _ _ _ h => h) (by kernel_rfl) trivial ?_
      try simp only [Act.put, List.setIfInBounds_toArray, List.set_cons_zero, List.set_cons_succ]
      refine skip_op (i := 10) (d := some 106) rfl rfl (by kernel_rfl) (by kernel_rfl) (by kernel_rfl) (fun _ _ _ h => h) (by kernel_rfl) trivial ?_
      try simp only [Act.put, List.setIfInBounds_toArray, List.set_cons_zero, List.set_cons_succ]
      refine skip_op (i := 11) (d := some 107) rfl rfl (by kernel_rfl) (by kernel_rfl) (by kernel_rfl) (fun _ _ _ h => h) (by kernel_rfl) trivial ?_
      try simp only [Act.put, List.setIfInBounds_toArray, List.set_cons_zero, List.set_cons_succ]
      refine skip_op (i := 12) (d := some 108) rfl rfl (by kernel_rfl) (by kernel_rfl) (by kernel_rfl) (fun _ _ _ h => h) (by kernel_rfl) trivial ?_
      try simp only [Act.put, List.setIfInBounds_toArray, List.set_cons_zero, List.set_cons_succ]
      refine skip_op (i := 13) (d := some 109) rfl rfl (by kernel_rfl) (by kernel_rfl) (by kernel_rfl) (fun _ _ _ h => h) (by kernel_rfl) trivial ?_
      try simp only [Act.put, List.setIfInBounds_toArray, List.set_cons_zero, List.set_cons_succ]
      refine skip_op (i := 14) (d := some 110) rfl rfl (by kernel_rfl) (by kernel_rfl) (by kernel_rfl) (fun _ _ _ h => h) (by kernel_rfl) trivial ?_
      try simp only [Act.put, List.setIfInBounds_toArray, List.set_cons_zero, List.set_cons_succ]
      refine skip_op (i := 15) (d := some 111) rfl rfl (by kernel_rfl) (by kernel_rfl) (by kernel_rfl) (fun _ _ _ h => h) (by kernel_rfl) trivial ?_
      try simp only [Act.put, List.setIfInBounds_toArray, List.set_cons_zero, List.set_cons_succ]
      refine skip_op (i := 16) (d := some 112) rfl rfl (by kernel_rfl) (by kernel_rfl) (by kernel_rfl) (fun _ _ _ h => h) (by kernel_rfl) trivial ?_
      try simp only [Act.put, List.setIfInBounds_toArray, List.set_cons_zero, List.set_cons_succ]
      refine skip_op (i := 17) (d := some 113) rfl rfl (by kernel_rfl) (by kernel_rfl) (by kernel_rfl) (fun _ _ _ h => h) (by kernel_rfl) trivial ?_
      try simp only [Act.put, List.setIfInBounds_toArray, List.set_cons_zero, List.set_cons_succ]
      refine skip_op (i := 18) (d := some 114) rfl rfl (by kernel_rfl) (by kernel_rfl) (by kernel_rfl) (fun _ _ _ h => h) (by kernel_rfl) trivial ?_
      try simp only [Act.put, List.setIfInBounds_toArray, List.set_cons_zero, List.set_cons_succ]
      refine skip_op (i := 19) (d := some 115) rfl rfl (by kernel_rfl) (by kernel_rfl) (by kernel_rfl) (fun _ _ _ h => h) (by kernel_rfl) trivial ?_
      try simp only [Act.put, List.setIfInBounds_toArray, List.set_cons_zero, List.set_cons_succ]
      refine skip_op (i := 20) (d := some 116) rfl rfl (by kernel_rfl) (by kernel_rfl) (by kernel_rfl) (fun _ _ _ h => h) (by kernel_rfl) trivial ?_
      try simp only [Act.put, List.setIfInBounds_toArray, List.set_cons_zero, List.set_cons_succ]
      refine skip_op (i := 21) (d := some 117) rfl rfl (by kernel_rfl) (by kernel_rfl) (by kernel_rfl) (fun _ _ _ h => h) (by kernel_rfl) trivial ?_
      try simp only [Act.put, List.setIfInBounds_toArray, List.set_cons_zero, List.set_cons_succ]
      refine skip_op (i := 22) (d := some 118) rfl rfl (by kernel_rfl) (by kernel_rfl) (by kernel_rfl) (fun _ _ _ h => h) (by kernel_rfl) trivial ?_
      try simp only [Act.put, List.setIfInBounds_toArray, List.set_cons_zero, List.set_cons_succ]
      refine skip_op (i := 23) (d := some 119) rfl rfl (by kernel_rfl) (by kernel_rfl) (by kernel_rfl) (fun _ _ _ h => h) (by kernel_rfl) trivial ?_
      try simp only [Act.put, List.setIfInBounds_toArray, List.set_cons_zero, List.set_cons_succ]
      refine skip_op (i := 24) (d := some 120) rfl rfl (by kernel_rfl) (by kernel_rfl) (by kernel_rfl) (fun _ _ _ h => h) (by kernel_rfl) trivial ?_
      try simp only [Act.put, List.setIfInBounds_toArray, List.set_cons_zero, List.set_cons_succ]
      refine skip_op (i := 25) (d := some 121) rfl rfl (by kernel_rfl) (by kernel_rfl) (by kernel_rfl) (fun _ _ _ h => h) (by kernel_rfl) trivial ?_
      try simp only [Act.put, List.setIfInBounds_toArray, List.set_cons_zero, List.set_cons_succ]
      refine skip_op (i := 26) (d := some 122) rfl rfl (by kernel_rfl) (by kernel_rfl) (by kernel_rfl) (fun _ _ _ h => h) (by kernel_rfl) trivial ?_
      try simp only [Act.put, List.setIfInBounds_toArray, List.set_cons_zero, List.set_cons_succ]
      refine skip_op (i := 27) (d := some 123) rfl rfl (by kernel_rfl) (by kernel_rfl) (by kernel_rfl) (fun _ _ _ h => h) (by kernel_rfl) trivial ?_
      try simp only [Act.put, List.setIfInBounds_toArray, List.set_cons_zero, List.set_cons_succ]
      refine skip_op (i := 28) (d := some 124) rfl rfl (by kernel_rfl) (by kernel_rfl) (by kernel_rfl) (fun _ _ _ h => h) (by kernel_rfl) trivial ?_
      try simp only [Act.put, List.setIfInBounds_toArray, List.set_cons_zero, List.set_cons_succ]
      refine skip_op (i := 29) (d := some 125) rfl rfl (by kernel_rfl) (by kernel_rfl) (by kernel_rfl) (fun _ _ _ h => h) (by kernel_rfl) trivial ?_
      try simp only [Act.put, List.setIfInBounds_toArray, List.set_cons_zero, List.set_cons_succ]
      refine skip_op (i := 30) (d := some 126) rfl rfl (by kernel_rfl) (by kernel_rfl) (by kernel_rfl) (fun _ _ _ h => h) (by kernel_rfl) trivial ?_
      try simp only [Act.put, List.setIfInBounds_toArray, List.set_cons_zero, List.set_cons_succ]
      refine take_op (i := 31) (d := some 127) (v := ?_) rfl rfl (by kernel_rfl) (by kernel_rfl) (by kernel_rfl) (fun _ _ _ h => h) (Or.inl ⟨by kernel_rfl, ?_⟩) trivial ?_
      rotate_left
      · intro W hSw; go_simp; with_reducible rfl
      try simp only [Act.put, List.setIfInBounds_toArray, List.set_cons_zero, List.set_cons_succ]
      refine take_op (i := 32) (d := some 128) (v := ?_) rfl rfl (by kernel_rfl) (by kernel_rfl) (by kernel_rfl) (fun _ _ _ h => h) (Or.inl ⟨by kernel_rfl, ?_⟩) trivial ?_
      rotate_left
      · intro W hSw; go_simp; with_reducible rfl
      try simp only [Act.put, List.setIfInBounds_toArray, List.set_cons_zero, List.set_cons_succ]
      refine wpAnyH_ready (rs := [33]) (by kernel_rfl) (by simp) (AllReadyH.cons rfl (fun KK hK => ?_) AllReadyH.nil)
      go_simp
      refine (HFX.out _).mono ?_
      rintro e w6 ⟨rfl, hb6⟩
      go_wp2_with fail
      refine hK.out _ _ trivial (fun _ => ?_)
      clear hK KK
      try simp only [Act.put, List.setIfInBounds_toArray, List.set_cons_zero, List.set_cons_succ]
      refine take_op (i := 34) (d := some 130) (v := ?_) rfl rfl (by kernel_rfl) (by kernel_rfl) (by kernel_rfl) (fun _ _ _ h => h) (Or.inl ⟨by kernel_rfl, ?_⟩) trivial ?_
      rotate_left
      · intro W hSw; go_simp; with_reducible rfl
      try simp only [Act.put, List.setIfInBounds_toArray, List.set_cons_zero, List.set_cons_succ]
      refine take_op (i := 35) (d := some 6) (v := ?_) rfl rfl (by kernel_rfl) (by kernel_rfl) (by kernel_rfl) (fun _ _ _ h => h) (Or.inl ⟨by kernel_rfl, ?_⟩) trivial ?_
      rotate_left
      · intro W hSw; go_simp; with_reducible rfl
      try simp only [Act.put, List.setIfInBounds_toArray, List.set_cons_zero, List.set_cons_succ]
      refine wpAnyH_done (by kernel_rfl) ?_ _
      go_wp2_with fail
      go_ret
      exact ⟨rfl, (below_drewN HB5.out _).trans' (below_of_drew hb6)⟩
  · have e1 : putVV T (pv O V L P) = .tuple #[.string ⟨#[]⟩, .int .i64 3] := if_neg (fun h => hR h.2)
    have e2 : putVV T' (pv O V L P) = .tuple #[.string ⟨#[]⟩, .int .i64 3] := if_neg (fun h => hR h.2)
    rw [e1] at HPV1
    rw [e2] at HPV2
    clear e1 e2 hR hc
    by_cases hKk : 1 ≤ k ∧ k ≤ 4095
    · obtain ⟨kk, hkk⟩ := Int.eq_ofNat_of_zero_le (show 0 ≤ k by omega)
      have e3 : putKV k T = .tuple #[.string (kidS kk T), .int .i64 0] := by
        rw [hkk]; exact if_pos ⟨by omega, by omega, by omega⟩
      have e4 : putKV k T' = .tuple #[.string (kidS kk T'), .int .i64 0] := by
        rw [hkk]; exact if_pos ⟨by omega, by omega, by omega⟩
      rw [e3] at HPK1
      rw [e4] at HPK2
      obtain ⟨hk1, hk2, hk3, hk4, hk5⟩ := hk kk
      generalize kidS kk T = D1 at *
      generalize kidS kk T' = D2 at *
      obtain ⟨y1, hy1⟩ : ∃ z, D1.size = z := ⟨_, rfl⟩
      obtain ⟨y2, hy2⟩ : ∃ z, D2.size = z := ⟨_, rfl⟩
      rw [hy1, hy2] at hk1 hk4
      rw [hy1] at hk5
      rw [hy2] at hk2
      have p1 : IntKind.i64.wrap ((y2 : Int) + n) = y1 := by rw [show (y2 : Int) + n = y1 by omega]; exact IntWalk.i64_in _ (by omega)
      have p2 : (4 : Int) ≤ y1 := by omega
      have p3 : (4 : Int) ≤ y2 := by omega
      have p4 : (n5 : Int) ≤ y1 := by omega
      have p5 : (5 : Int) ≤ y2 := by omega
      have p6 : (0 : Int) ≤ n5 := by omega
      have p7 : decide ((5 : Int) ≤ y2) = true := decide_eq_true p5
      have p8 : decide (5 ≤ y2) = true := decide_eq_true hk2
      clear e3 e4 hk hKk hkk hk1 hk2 hk5 hn5 hfs hV wa hx0 hx2 hnx ht1 hl hl' hu hn1 hTs hTs' HSAY ws
      go_enter Try.func8, Try.ntmps8
      go_wp2_with fail
      refine (HCUT.out _).mono ?_
      rintro e w1 ⟨rfl, hb1⟩
      have L0 := HK0.out.below hb1
      have X1 := HX0.out.below hb1
      have hbL := hb0.trans' hb1
      clear hb1 HK0 HX0 hb0 HCUT
      obtain ⟨a0, a1, a2, a3⟩ := L0.cells
      obtain ⟨b0, b1, b2, b3⟩ := L0.free
      have K1 := set4_box L0 O V L P
      have X2 : Blk (w.heap.size + 1) #[.int .u16 (x : Int), .int .u8 c, .int .i64 k] 46 (set4 w1 w.heap.size O V L P) := (set4_other (by omega) O V L P).trans X1
      have hbW := set4_below hbL (Nat.le_refl _) O V L P
      obtain ⟨W, hW⟩ : ∃ W, set4 w1 w.heap.size O V L P = W := ⟨_, rfl⟩
      rw [hW] at K1 hbW X2
      unfold set4 at hW
      obtain ⟨k0, k1, k2, k3⟩ := K1.cells
      have x0 := X2.cell 0 (.int .u16 (x : Int)) rfl
      have HBW := Lib.hid hbW
      have HK1 := Lib.hid K1
      have HX2 := Lib.hid X2
      clear L0 X1 hbL K1 hbW X2
      go_wp2_with fail
      refine (HPV1.out _).mono ?_
      rintro e w2 ⟨rfl, hb2⟩
      have HK2 := Lib.hid (HK1.out.below hb2)
      have HX3 := Lib.hid (HX2.out.below hb2)
      have HB2 := Lib.hid (HBW.out.trans' hb2)
      clear hb2 HK1 HBW HX2 a0 a1 a2 a3 b0 b1 b2 b3 hW k0 k1 k2 k3 x0
      have hG2 := HST.out w2 HK2.out HX3.out
      go_wp2_with fail
      go_region_held3 (fun Z => Hid (Bx 23 w.heap.size O V L P Z) ∧ Hid (Blk (w.heap.size + 1) #[.int .u16 (x : Int), .int .u8 c, .int .i64 k] 46 Z) ∧ Z.cell? ⟨w.heap.size, 0, none⟩ = some (.bool O) ∧ Z.cell? ⟨w.heap.size, 1, none⟩ = some (.string V) ∧ Z.cell? ⟨w.heap.size, 2, none⟩ = some (.int .i64 L) ∧ Z.cell? ⟨w.heap.size, 3, none⟩ = some (.int .i64 P) ∧ Z.cell? ⟨w.heap.size + 1, 2, none⟩ = some (.int .i64 k))
        (first | assumption | exact hG2 | exact HKE.out _ _ (by assumption) (by assumption))
        (first
          | (go_at_call 10; refine (HPV2.out _).mono ?_; rintro e w3 ⟨rfl, hb3⟩)
          | fail "no arm")
      have hb3' := below_of_drew hb3
      have HK3 := Lib.hid (HK2.out.below hb3')
      have HX4 := Lib.hid (HX3.out.below hb3')
      have HB3 := Lib.hid (HB2.out.trans' hb3')
      clear hb3 hb3' hG2 HK2 HX3 HB2
      have x2 := HX4.out.cell 2 (.int .i64 k) rfl
      go_wp2_with fail
      refine (HPK1.out _).mono ?_
      rintro e w4 ⟨rfl, hb4⟩
      have HK4 := Lib.hid (HK3.out.below hb4)
      have HX5 := Lib.hid (HX4.out.below hb4)
      have HB4 := Lib.hid (HB3.out.trans' hb4)
      clear hb4 HK3 HX4 HB3 x2
      have hG4 := HST.out w4 HK4.out HX5.out
      go_wp2_with fail
      go_region_held3 (fun Z => Hid (Bx 23 w.heap.size O V L P Z) ∧ Hid (Blk (w.heap.size + 1) #[.int .u16 (x : Int), .int .u8 c, .int .i64 k] 46 Z) ∧ Z.cell? ⟨w.heap.size, 0, none⟩ = some (.bool O) ∧ Z.cell? ⟨w.heap.size, 1, none⟩ = some (.string V) ∧ Z.cell? ⟨w.heap.size, 2, none⟩ = some (.int .i64 L) ∧ Z.cell? ⟨w.heap.size, 3, none⟩ = some (.int .i64 P) ∧ Z.cell? ⟨w.heap.size + 1, 2, none⟩ = some (.int .i64 k))
        (first | assumption | exact hG4 | exact HKE.out _ _ (by assumption) (by assumption))
        (first
          | (go_at_call 13; refine (HPK2.out _).mono ?_; rintro e w5 ⟨rfl, hb5⟩)
          | fail "no arm")
      have HB5 := Lib.hid (HB4.out.trans' (below_of_drew hb5))
      clear hb5 hG4 HK4 HX5 HB4
      go_wp2_with fail
      go_quiet (fail)
      go_wp2_with fail
      go_region_held3 (fun _ => True) (trivial)
        (first
          | (go_at_call 21; refine (HFX.out _).mono ?_; rintro e w6 ⟨rfl, hb6⟩)
          | fail "no arm")
      go_wp2_with fail
      go_ret
      exact ⟨rfl, (below_drewN HB5.out _).trans' (below_of_drew hb6)⟩
    · have e3 : putKV k T = .tuple #[.string ⟨#[]⟩, .int .i64 3] := if_neg (fun h => hKk ⟨h.1, h.2.1⟩)
      have e4 : putKV k T' = .tuple #[.string ⟨#[]⟩, .int .i64 3] := if_neg (fun h => hKk ⟨h.1, h.2.1⟩)
      rw [e3] at HPK1
      rw [e4] at HPK2
      clear e3 e4 hk hKk hn5 hfs hV wa hx0 hx2 hnx ht1 hl hl' hu hn1 hTs hTs' HSAY ws
      go_enter Try.func8, Try.ntmps8
      go_wp2_with fail
      refine (HCUT.out _).mono ?_
      rintro e w1 ⟨rfl, hb1⟩
      have L0 := HK0.out.below hb1
      have X1 := HX0.out.below hb1
      have hbL := hb0.trans' hb1
      clear hb1 HK0 HX0 hb0 HCUT
      obtain ⟨a0, a1, a2, a3⟩ := L0.cells
      obtain ⟨b0, b1, b2, b3⟩ := L0.free
      have K1 := set4_box L0 O V L P
      have X2 : Blk (w.heap.size + 1) #[.int .u16 (x : Int), .int .u8 c, .int .i64 k] 46 (set4 w1 w.heap.size O V L P) := (set4_other (by omega) O V L P).trans X1
      have hbW := set4_below hbL (Nat.le_refl _) O V L P
      obtain ⟨W, hW⟩ : ∃ W, set4 w1 w.heap.size O V L P = W := ⟨_, rfl⟩
      rw [hW] at K1 hbW X2
      unfold set4 at hW
      obtain ⟨k0, k1, k2, k3⟩ := K1.cells
      have x0 := X2.cell 0 (.int .u16 (x : Int)) rfl
      have HBW := Lib.hid hbW
      have HK1 := Lib.hid K1
      have HX2 := Lib.hid X2
      clear L0 X1 hbL K1 hbW X2
      go_wp2_with fail
      refine (HPV1.out _).mono ?_
      rintro e w2 ⟨rfl, hb2⟩
      have HK2 := Lib.hid (HK1.out.below hb2)
      have HX3 := Lib.hid (HX2.out.below hb2)
      have HB2 := Lib.hid (HBW.out.trans' hb2)
      clear hb2 HK1 HBW HX2 a0 a1 a2 a3 b0 b1 b2 b3 hW k0 k1 k2 k3 x0
      have hG2 := HST.out w2 HK2.out HX3.out
      go_wp2_with fail
      go_region_held3 (fun Z => Hid (Bx 23 w.heap.size O V L P Z) ∧ Hid (Blk (w.heap.size + 1) #[.int .u16 (x : Int), .int .u8 c, .int .i64 k] 46 Z) ∧ Z.cell? ⟨w.heap.size, 0, none⟩ = some (.bool O) ∧ Z.cell? ⟨w.heap.size, 1, none⟩ = some (.string V) ∧ Z.cell? ⟨w.heap.size, 2, none⟩ = some (.int .i64 L) ∧ Z.cell? ⟨w.heap.size, 3, none⟩ = some (.int .i64 P) ∧ Z.cell? ⟨w.heap.size + 1, 2, none⟩ = some (.int .i64 k))
        (first | assumption | exact hG2 | exact HKE.out _ _ (by assumption) (by assumption))
        (first
          | (go_at_call 10; refine (HPV2.out _).mono ?_; rintro e w3 ⟨rfl, hb3⟩)
          | fail "no arm")
      have hb3' := below_of_drew hb3
      have HK3 := Lib.hid (HK2.out.below hb3')
      have HX4 := Lib.hid (HX3.out.below hb3')
      have HB3 := Lib.hid (HB2.out.trans' hb3')
      clear hb3 hb3' hG2 HK2 HX3 HB2
      have x2 := HX4.out.cell 2 (.int .i64 k) rfl
      go_wp2_with fail
      refine (HPK1.out _).mono ?_
      rintro e w4 ⟨rfl, hb4⟩
      have HK4 := Lib.hid (HK3.out.below hb4)
      have HX5 := Lib.hid (HX4.out.below hb4)
      have HB4 := Lib.hid (HB3.out.trans' hb4)
      clear hb4 HK3 HX4 HB3 x2
      have hG4 := HST.out w4 HK4.out HX5.out
      go_wp2_with fail
      go_region_held3 (fun Z => Hid (Bx 23 w.heap.size O V L P Z) ∧ Hid (Blk (w.heap.size + 1) #[.int .u16 (x : Int), .int .u8 c, .int .i64 k] 46 Z) ∧ Z.cell? ⟨w.heap.size, 0, none⟩ = some (.bool O) ∧ Z.cell? ⟨w.heap.size, 1, none⟩ = some (.string V) ∧ Z.cell? ⟨w.heap.size, 2, none⟩ = some (.int .i64 L) ∧ Z.cell? ⟨w.heap.size, 3, none⟩ = some (.int .i64 P) ∧ Z.cell? ⟨w.heap.size + 1, 2, none⟩ = some (.int .i64 k))
        (first | assumption | exact hG4 | exact HKE.out _ _ (by assumption) (by assumption))
        (first
          | (go_at_call 13; refine (HPK2.out _).mono ?_; rintro e w5 ⟨rfl, hb5⟩)
          | fail "no arm")
      have HB5 := Lib.hid (HB4.out.trans' (below_of_drew hb5))
      clear hb5 hG4 HK4 HX5 HB4
      go_wp2_with fail
      go_quiet (fail)
      go_wp2_with fail
      refine wp_region_held_drew (S := fun _ => True) (by kernel_rfl) trivial (fun hHeld => ?_)
      refine take_op (i := 0) (d := some 96) (v := ?_) rfl rfl (by kernel_rfl) (by kernel_rfl) (by kernel_rfl) (fun _ _ _ h => h) (Or.inl ⟨by kernel_rfl, ?_⟩) trivial ?_
      rotate_left
      · intro W hSw; go_simp; with_reducible rfl
      try simp only [Act.put, List.setIfInBounds_toArray, List.set_cons_zero, List.set_cons_succ]
      refine take_op (i := 1) (d := some 97) (v := ?_) rfl rfl (by kernel_rfl) (by kernel_rfl) (by kernel_rfl) (fun _ _ _ h => h) (Or.inl ⟨by kernel_rfl, ?_⟩) trivial ?_
      rotate_left
      · intro W hSw; go_simp; with_reducible rfl
      try simp only [Act.put, List.setIfInBounds_toArray, List.set_cons_zero, List.set_cons_succ]
      refine take_op (i := 2) (d := some 98) (v := ?_) rfl rfl (by kernel_rfl) (by kernel_rfl) (by kernel_rfl) (fun _ _ _ h => h) (Or.inl ⟨by kernel_rfl, ?_⟩) trivial ?_
      rotate_left
      · intro W hSw; go_simp; with_reducible rfl
      try simp only [Act.put, List.setIfInBounds_toArray, List.set_cons_zero, List.set_cons_succ]
      refine skip_op (i := 3) (d := some 99) rfl rfl (by kernel_rfl) (by kernel_rfl) (by kernel_rfl) (fun _ _ _ h => h) (by kernel_rfl) trivial ?_
      try simp only [Act.put, List.setIfInBounds_toArray, List.set_cons_zero, List.set_cons_succ]
      refine skip_op (i := 4) (d := some 100) rfl rfl (by kernel_rfl) (by kernel_rfl) (by kernel_rfl) (fun _ _ _ h => h) (by kernel_rfl) trivial ?_
      try simp only [Act.put, List.setIfInBounds_toArray, List.set_cons_zero, List.set_cons_succ]
      refine skip_op (i := 5) (d := some 101) rfl rfl (by kernel_rfl) (by kernel_rfl) (by kernel_rfl) (fun _ _ _ h => h) (by kernel_rfl) trivial ?_
      try simp only [Act.put, List.setIfInBounds_toArray, List.set_cons_zero, List.set_cons_succ]
      refine skip_op (i := 6) (d := some 102) rfl rfl (by kernel_rfl) (by kernel_rfl) (by kernel_rfl) (fun _ _ _ h => h) (by kernel_rfl) trivial ?_
      try simp only [Act.put, List.setIfInBounds_toArray, List.set_cons_zero, List.set_cons_succ]
      refine skip_op (i := 7) (d := some 103) rfl rfl (by kernel_rfl) (by kernel_rfl) (by kernel_rfl) (fun _ _ _ h => h) (by kernel_rfl) trivial ?_
      try simp only [Act.put, List.setIfInBounds_toArray, List.set_cons_zero, List.set_cons_succ]
      refine skip_op (i := 8) (d := some 104) rfl rfl (by kernel_rfl) (by kernel_rfl) (by kernel_rfl) (fun _ _ _ h => h) (by kernel_rfl) trivial ?_
      try simp only [Act.put, List.setIfInBounds_toArray, List.set_cons_zero, List.set_cons_succ]
      refine skip_op (i := 9) (d := some 105) rfl rfl (by kernel_rfl) (by kernel_rfl) (by kernel_rfl) (fun _ _ _ h => h) (by kernel_rfl) trivial ?_
      try simp only [Act.put, List.setIfInBounds_toArray, List.set_cons_zero, List.set_cons_succ]
      refine skip_op (i := 10) (d := some 106) rfl rfl (by kernel_rfl) (by kernel_rfl) (by kernel_rfl) (fun _ _ _ h => h) (by kernel_rfl) trivial ?_
      try simp only [Act.put, List.setIfInBounds_toArray, List.set_cons_zero, List.set_cons_succ]
      refine skip_op (i := 11) (d := some 107) rfl rfl (by kernel_rfl) (by kernel_rfl) (by kernel_rfl) (fun _ _ _ h => h) (by kernel_rfl) trivial ?_
      try simp only [Act.put, List.setIfInBounds_toArray, List.set_cons_zero, List.set_cons_succ]
      refine skip_op (i := 12) (d := some 108) rfl rfl (by kernel_rfl) (by kernel_rfl) (by kernel_rfl) (fun _ _ _ h => h) (by kernel_rfl) trivial ?_
      try simp only [Act.put, List.setIfInBounds_toArray, List.set_cons_zero, List.set_cons_succ]
      refine skip_op (i := 13) (d := some 109) rfl rfl (by kernel_rfl) (by kernel_rfl) (by kernel_rfl) (fun _ _ _ h => h) (by kernel_rfl) trivial ?_
      try simp only [Act.put, List.setIfInBounds_toArray, List.set_cons_zero, List.set_cons_succ]
      refine skip_op (i := 14) (d := some 110) rfl rfl (by kernel_rfl) (by kernel_rfl) (by kernel_rfl) (fun _ _ _ h => h) (by kernel_rfl) trivial ?_
      try simp only [Act.put, List.setIfInBounds_toArray, List.set_cons_zero, List.set_cons_succ]
      refine skip_op (i := 15) (d := some 111) rfl rfl (by kernel_rfl) (by kernel_rfl) (by kernel_rfl) (fun _ _ _ h => h) (by kernel_rfl) trivial ?_
      try simp only [Act.put, List.setIfInBounds_toArray, List.set_cons_zero, List.set_cons_succ]
      refine skip_op (i := 16) (d := some 112) rfl rfl (by kernel_rfl) (by kernel_rfl) (by kernel_rfl) (fun _ _ _ h => h) (by kernel_rfl) trivial ?_
      try simp only [Act.put, List.setIfInBounds_toArray, List.set_cons_zero, List.set_cons_succ]
      refine skip_op (i := 17) (d := some 113) rfl rfl (by kernel_rfl) (by kernel_rfl) (by kernel_rfl) (fun _ _ _ h => h) (by kernel_rfl) trivial ?_
      try simp only [Act.put, List.setIfInBounds_toArray, List.set_cons_zero, List.set_cons_succ]
      refine skip_op (i := 18) (d := some 114) rfl rfl (by kernel_rfl) (by kernel_rfl) (by kernel_rfl) (fun _ _ _ h => h) (by kernel_rfl) trivial ?_
      try simp only [Act.put, List.setIfInBounds_toArray, List.set_cons_zero, List.set_cons_succ]
      refine skip_op (i := 19) (d := some 115) rfl rfl (by kernel_rfl) (by kernel_rfl) (by kernel_rfl) (fun _ _ _ h => h) (by kernel_rfl) trivial ?_
      try simp only [Act.put, List.setIfInBounds_toArray, List.set_cons_zero, List.set_cons_succ]
      refine skip_op (i := 20) (d := some 116) rfl rfl (by kernel_rfl) (by kernel_rfl) (by kernel_rfl) (fun _ _ _ h => h) (by kernel_rfl) trivial ?_
      try simp only [Act.put, List.setIfInBounds_toArray, List.set_cons_zero, List.set_cons_succ]
      refine skip_op (i := 21) (d := some 117) rfl rfl (by kernel_rfl) (by kernel_rfl) (by kernel_rfl) (fun _ _ _ h => h) (by kernel_rfl) trivial ?_
      try simp only [Act.put, List.setIfInBounds_toArray, List.set_cons_zero, List.set_cons_succ]
      refine skip_op (i := 22) (d := some 118) rfl rfl (by kernel_rfl) (by kernel_rfl) (by kernel_rfl) (fun _ _ _ h => h) (by kernel_rfl) trivial ?_
      try simp only [Act.put, List.setIfInBounds_toArray, List.set_cons_zero, List.set_cons_succ]
      refine skip_op (i := 23) (d := some 119) rfl rfl (by kernel_rfl) (by kernel_rfl) (by kernel_rfl) (fun _ _ _ h => h) (by kernel_rfl) trivial ?_
      try simp only [Act.put, List.setIfInBounds_toArray, List.set_cons_zero, List.set_cons_succ]
      refine skip_op (i := 24) (d := some 120) rfl rfl (by kernel_rfl) (by kernel_rfl) (by kernel_rfl) (fun _ _ _ h => h) (by kernel_rfl) trivial ?_
      try simp only [Act.put, List.setIfInBounds_toArray, List.set_cons_zero, List.set_cons_succ]
      refine skip_op (i := 25) (d := some 121) rfl rfl (by kernel_rfl) (by kernel_rfl) (by kernel_rfl) (fun _ _ _ h => h) (by kernel_rfl) trivial ?_
      try simp only [Act.put, List.setIfInBounds_toArray, List.set_cons_zero, List.set_cons_succ]
      refine skip_op (i := 26) (d := some 122) rfl rfl (by kernel_rfl) (by kernel_rfl) (by kernel_rfl) (fun _ _ _ h => h) (by kernel_rfl) trivial ?_
      try simp only [Act.put, List.setIfInBounds_toArray, List.set_cons_zero, List.set_cons_succ]
      refine skip_op (i := 27) (d := some 123) rfl rfl (by kernel_rfl) (by kernel_rfl) (by kernel_rfl) (fun _ _ _ h => h) (by kernel_rfl) trivial ?_
      try simp only [Act.put, List.setIfInBounds_toArray, List.set_cons_zero, List.set_cons_succ]
      refine skip_op (i := 28) (d := some 124) rfl rfl (by kernel_rfl) (by kernel_rfl) (by kernel_rfl) (fun _ _ _ h => h) (by kernel_rfl) trivial ?_
      try simp only [Act.put, List.setIfInBounds_toArray, List.set_cons_zero, List.set_cons_succ]
      refine skip_op (i := 29) (d := some 125) rfl rfl (by kernel_rfl) (by kernel_rfl) (by kernel_rfl) (fun _ _ _ h => h) (by kernel_rfl) trivial ?_
      try simp only [Act.put, List.setIfInBounds_toArray, List.set_cons_zero, List.set_cons_succ]
      refine skip_op (i := 30) (d := some 126) rfl rfl (by kernel_rfl) (by kernel_rfl) (by kernel_rfl) (fun _ _ _ h => h) (by kernel_rfl) trivial ?_
      try simp only [Act.put, List.setIfInBounds_toArray, List.set_cons_zero, List.set_cons_succ]
      refine take_op (i := 31) (d := some 127) (v := ?_) rfl rfl (by kernel_rfl) (by kernel_rfl) (by kernel_rfl) (fun _ _ _ h => h) (Or.inl ⟨by kernel_rfl, ?_⟩) trivial ?_
      rotate_left
      · intro W hSw; go_simp; with_reducible rfl
      try simp only [Act.put, List.setIfInBounds_toArray, List.set_cons_zero, List.set_cons_succ]
      refine take_op (i := 32) (d := some 128) (v := ?_) rfl rfl (by kernel_rfl) (by kernel_rfl) (by kernel_rfl) (fun _ _ _ h => h) (Or.inl ⟨by kernel_rfl, ?_⟩) trivial ?_
      rotate_left
      · intro W hSw; go_simp; with_reducible rfl
      try simp only [Act.put, List.setIfInBounds_toArray, List.set_cons_zero, List.set_cons_succ]
      refine wpAnyH_ready (rs := [33]) (by kernel_rfl) (by simp) (AllReadyH.cons rfl (fun KK hK => ?_) AllReadyH.nil)
      go_simp
      refine (HFX.out _).mono ?_
      rintro e w6 ⟨rfl, hb6⟩
      go_wp2_with fail
      refine hK.out _ _ trivial (fun _ => ?_)
      clear hK KK
      try simp only [Act.put, List.setIfInBounds_toArray, List.set_cons_zero, List.set_cons_succ]
      refine take_op (i := 34) (d := some 130) (v := ?_) rfl rfl (by kernel_rfl) (by kernel_rfl) (by kernel_rfl) (fun _ _ _ h => h) (Or.inl ⟨by kernel_rfl, ?_⟩) trivial ?_
      rotate_left
      · intro W hSw; go_simp; with_reducible rfl
      try simp only [Act.put, List.setIfInBounds_toArray, List.set_cons_zero, List.set_cons_succ]
      refine take_op (i := 35) (d := some 6) (v := ?_) rfl rfl (by kernel_rfl) (by kernel_rfl) (by kernel_rfl) (fun _ _ _ h => h) (Or.inl ⟨by kernel_rfl, ?_⟩) trivial ?_
      rotate_left
      · intro W hSw; go_simp; with_reducible rfl
      try simp only [Act.put, List.setIfInBounds_toArray, List.set_cons_zero, List.set_cons_succ]
      refine wpAnyH_done (by kernel_rfl) ?_ _
      go_wp2_with fail
      go_ret
      exact ⟨rfl, (below_drewN HB5.out _).trans' (below_of_drew hb6)⟩
end Go.Proofs.Ytppnchjmbeinkaa
