/-
  The walk of the law KeyBack.
-/
import Derived.Test.YtdcijbclafpkmaaDoorKFixed
namespace Go.Proofs.YtdcijbclafpkmaaDoor
open Go.RowKit
set_option linter.unusedVariables false
set_option linter.unusedSimpArgs false

/-- The bytes of a key of few small columns. -/
theorem body_small : ∀ m : List QC, Small m → KP.All (cols m) → (KP.body (cols m)).length ≤ 130 * m.length
  | [], _, _ => by simp [KP.body, cols]
  | c :: m, hs, ha => by
    have h1 := CP.put_le ha.head.1 ha.head.2
    have h2 := body_small m (fun d hd => hs d (by simp [hd])) ha.tail
    have h3 := (hs c (by simp)).2
    have h4 : c.col.s.length = c.s.size := by simp [QC.col]
    show (CP.put c.col ++ KP.body (cols m)).length ≤ _
    rw [List.length_append, List.length_cons]
    omega
theorem key_size {m : List QC} (hs : Small m) (hl : m.length ≤ 8) (hr : allRt m = true) : (KP.key (cols m)).length ≤ 1041 := by
  have h := body_small m hs (allRt_all hr hs.ok)
  simp only [KP.key, List.length_append, List.length_cons, List.length_nil]
  omega
/-- key.Put of few small columns that may be; and of others. -/
theorem kput_yes {G : Option Addr} {m : List QC} {cap : Nat} {W : World} (M : MaxIs W) (h : Lies W W.heap.size G m) (hs : Small m) (hl : m.length ≤ 8) (hr : allRt m = true) (Z : ByteArray) (hZ : Z = ⟨(KP.key (cols m)).toArray⟩) :
    Calls Tryd.prog 10 #[.slice G m.length cap] W fun e w' => e = .returned (.tuple #[.string Z, .int .i64 0]) ∧ Below W.heap.size W w' ∧ MaxIs w' :=
  kput G m cap _ (by rw [keyV, if_pos hr, hZ]) hs.ok (by omega) W M h
theorem kput_no {G : Option Addr} {m : List QC} {cap : Nat} {W : World} (M : MaxIs W) (h : Lies W W.heap.size G m) (hs : Small m) (hl : m.length ≤ 8) (hr : allRt m = false) :
    Calls Tryd.prog 10 #[.slice G m.length cap] W fun e w' => e = .returned (.tuple #[.string ⟨#[]⟩, .int .i64 3]) ∧ Below W.heap.size W w' ∧ MaxIs w' :=
  kput G m cap _ (by rw [keyV, if_neg (by rw [hr]; decide)]) hs.ok (by omega) W M h
theorem kright {G : Option Addr} {m : List QC} {cap : Nat} {W : World} (M : MaxIs W) (h : Lies W W.heap.size G m) (hs : Small m) (hl : m.length ≤ 8) (b : Bool) (hr : allRt m = b) :
    Calls Tryd.prog 17 #[.slice G m.length cap] W fun e w' => e = .returned (.bool b) ∧ Below W.heap.size W w' ∧ MaxIs w' :=
  (right4_any G m cap W h hs.ok (by omega)).mono fun e w' ⟨he, hb⟩ => ⟨by rw [he, hr], hb, M.below hb⟩
theorem kcut {A : Option Addr} {l : List QC} {ca : Nat} {W : World} (M : MaxIs W) (h : Lies W W.heap.size A l) (hs : ∀ c ∈ l, c.s.size ≤ maxLen) (hl : l.length ≤ maxLen) (m : List QC) (hm : m = cut8 l) :
    Calls Tryd.prog 9 #[.slice A l.length ca] W fun e w' => ∃ G cap, e = .returned (.slice G m.length cap) ∧ m.length ≤ cap ∧ Lies w' w'.heap.size G m ∧ Below W.heap.size W w' ∧ MaxIs w' := by
  subst hm
  refine (cut4_any A l ca W h hs hl).mono fun e w' ⟨G, cap, he, ho, hb⟩ => ⟨G, cap, he, ?_, lies_own ho rfl, hb, M.below hb⟩
  rcases ho.2 with ⟨h1, h2⟩ | ⟨g, cap', cur, h1, _, _, h2, _⟩
  · omega
  · injection h1 with _ _ h3; omega
theorem kref {A : Option Addr} {l : List QC} {ca : Nat} {W : World} (M : MaxIs W) (h : Lies W W.heap.size A l) (hl : l.length ≤ 1000) :
    Calls Tryd.prog 12 #[.slice A l.length ca] W fun e w' => ∃ G cap, e = .returned (.slice G l.length cap) ∧ Lies w' w'.heap.size G l ∧ Below W.heap.size W w' ∧ MaxIs w' :=
  (ref4_any A l ca W h hl).mono fun e w' ⟨G, cap, he, ho, hb⟩ => ⟨G, cap, he, lies_own ho rfl, hb, M.below hb⟩
theorem ksame {A B : Option Addr} {l m : List QC} {ca cb : Nat} {W : World} (M : MaxIs W) (ha : Lies W W.heap.size A l) (hb : Lies W W.heap.size B m) (hl : l.length ≤ 1000) (hm : m.length ≤ 1000) (b : Bool) (hr : sameL l m = b) :
    Calls Tryd.prog 20 #[.slice A l.length ca, .slice B m.length cb] W fun e w' => e = .returned (.bool b) ∧ Below W.heap.size W w' ∧ MaxIs w' :=
  (same4_any A B l m ca cb W ha hb hl hm).mono fun e w' ⟨he, hb⟩ => ⟨by rw [he, hr], hb, M.below hb⟩
theorem kcmp {A B : Option Addr} {l m : List QC} {ca cb : Nat} {W : World} (M : MaxIs W) (ha : Lies W W.heap.size A l) (hb : Lies W W.heap.size B m) (hl : l.length ≤ 1000) (hm : m.length ≤ 1000) (z : Int) (hr : KP.cmp (cols l) (cols m) = z) :
    Calls Tryd.prog 18 #[.slice A l.length ca, .slice B m.length cb] W fun e w' => e = .returned (.int .i64 z) ∧ Below W.heap.size W w' ∧ MaxIs w' :=
  (keyCmp_any A B l m ca cb W ha hb hl hm).mono fun e w' ⟨he, hb⟩ => ⟨by rw [he, hr], hb, M.below hb⟩
theorem lies_on {B : Nat} {W W' : World} {A : Option Addr} {l : List QC} (h : Lies W W.heap.size A l) (b : Below W.heap.size W W') : Lies W' W'.heap.size A l := (h.below b).more b.size

set_option maxHeartbeats 1000000 in
set_option maxRecDepth 100000 in
theorem keyBack_walk (A : Option Addr) (l : List QC) (ca : Nat) (a c : Int) (w : World) (M : MaxIs w) (hA : Lies w w.heap.size A l) (hok : ∀ c ∈ l, CP.Ok c.col) (hs : ∀ c ∈ l, c.s.size ≤ maxLen) (hl : l.length ≤ maxLen) (wa : (Lit.int .u8 a).wf = true) (wc : (Lit.int .u8 c).wf = true) :
    Calls Tryd.prog 5 #[.slice A l.length ca, .int .u8 a, .int .u8 c] w fun e w' => e = .returned (.bool true) ∧ Below w.heap.size w w' := by
  obtain ⟨m, hm⟩ : ∃ m, m = cut8 l := ⟨_, rfl⟩
  have hsm : Small m := by rw [hm]; exact cut8_small l hok
  have hml : m.length ≤ 8 := by rw [hm, cut8_length]; omega
  have HCUT := Lib.hid (kcut M hA hs hl m hm (ca := ca))
  have HF := Lib.hid fixed4_tells
  have HSM := Lib.hid hsm
  have hab := bounds_u8 wa
  have hcb := bounds_u8 wc
  generalize l.length = n at *
  clear hA hok hs hl hm wa wc
  go_enter Tryd.func5, Tryd.ntmps5
  go_wp2_with fail
  refine HCUT.out.mono ?_
  rintro e w1 ⟨G, cap, rfl, hcap, hL, hb1, M1⟩
  have HL := Lib.hid hL
  have HMO : Hid (∀ W, Below w1.heap.size w1 W → Lies W W.heap.size G m) := Lib.hid (fun W hW => lies_on (B := 0) HL.out hW)
  clear HCUT hL hcap
  cases hr : allRt m with
  | false =>
    have HP := Lib.hid (kput_no M1 HL.out hsm hml hr (cap := cap))
    have HR : Hid (∀ W, Below w1.heap.size w1 W → Calls Tryd.prog 17 #[.slice G m.length cap] W fun e w' => e = .returned (.bool false) ∧ Below W.heap.size W w' ∧ MaxIs w') := Lib.hid (fun W hW => kright (M1.below hW) (HMO.out W hW) HSM.out hml false hr)
    clear hr hsm HL HMO
    generalize m.length = q at *
    go_wp2_with fail
    refine HP.out.mono ?_
    rintro e w2 ⟨rfl, hb2, M2⟩
    go_wp2_with fail
    refine (HR.out _ hb2).mono ?_
    rintro e w3 ⟨rfl, hb3, M3⟩
    go_wp2_with fail
    refine (HF.out _ M3).mono ?_
    rintro e w4 ⟨rfl, hb4, _⟩
    go_wp2_with fail
    go_ret
    exact ⟨rfl, ((hb1.trans' hb2).trans' hb3).trans' hb4⟩
  | true =>
    obtain ⟨Z, hZ⟩ : ∃ Z : ByteArray, Z = ⟨(KP.key (cols m)).toArray⟩ := ⟨_, rfl⟩
    have hZl : Z.data.toList = KP.key (cols m) := by rw [hZ]
    have hZs : Z.size = (KP.key (cols m)).length := by rw [← hZl]; simp
    have hall := allRt_all hr hsm.ok
    have hz0 : 0 < Z.size := by rw [hZs]; simp [KP.key]
    have hz9 : Z.size ≤ 1041 := by rw [hZs]; exact key_size hsm hml hr
    have HP := Lib.hid (kput_yes M1 HL.out hsm hml hr Z hZ (cap := cap))
    have HG1 : Hid (∀ W, MaxIs W → Calls Tryd.prog 13 #[.string Z] W fun e w' => ∃ G cap, e = .returned (.tuple #[.slice G m.length cap, .int .i64 0]) ∧ m.length ≤ cap ∧ Lies w' w'.heap.size G m ∧ Below W.heap.size W w' ∧ MaxIs w') := Lib.hid (fun W MW => kget Z m 0 (by omega) (by rw [hZl]; exact KP.get_key _ hall) W MW)
    obtain ⟨k, hk⟩ : ∃ k : Nat, k = a.toNat % Z.size := ⟨_, rfl⟩
    have hkl : k < Z.size := by rw [hk]; exact Nat.mod_lt _ hz0
    have hka : (a.tmod (Z.size : Int)) = (k : Int) := by
      obtain ⟨b, rfl⟩ := Int.eq_ofNat_of_zero_le hab.1
      rw [hk, Int.toNat_natCast]
      rfl
    have hes : (Z.extract 0 k).size = k := by simp; omega
    have HG2 : Hid (∀ W, MaxIs W → Calls Tryd.prog 13 #[.string (Z.extract 0 k)] W fun e w' => ∃ G cap, e = .returned (.tuple #[.slice G 0 cap, .int .i64 7]) ∧ 0 ≤ cap ∧ Lies w' w'.heap.size G [] ∧ Below W.heap.size W w' ∧ MaxIs w') := Lib.hid (fun W MW => kget (Z.extract 0 k) [] 7 (by omega) (by
      rw [Lib.extract_data, hZl, List.drop_zero, Nat.sub_zero, KP.get_cut _ _ hall (by rw [← hZs]; exact hkl)]
      rfl) W MW)
    have hYl : (strOfNums [c]).data.toList = [UInt8.ofNat c.toNat] := rfl
    have hYs : (strOfNums [c]).size = 1 := rfl
    have hc := fun (W : World) a => conv_new W [a] 45 5 9 Tryd.underlying45 Tryd.underlying5 Tryd.underlying9
    simp only [List.length_cons, List.length_nil, List.map_cons, List.map_nil, Nat.zero_add] at hc
    have hno : ¬ 9223372036854775807 < Z.size + (strOfNums [c]).size := by omega
    have HG3 : Hid (∀ W, MaxIs W → Calls Tryd.prog 13 #[.string (Z ++ strOfNums [c])] W fun e w' => ∃ G cap, e = .returned (.tuple #[.slice G 0 cap, .int .i64 3]) ∧ 0 ≤ cap ∧ Lies w' w'.heap.size G [] ∧ Below W.heap.size W w' ∧ MaxIs w') := Lib.hid (fun W MW => kget (Z ++ strOfNums [c]) [] 3 (by rw [ByteArray.size_append]; omega) (by
      rw [show (Z ++ strOfNums [c]).data.toList = KP.key (cols m) ++ [UInt8.ofNat c.toNat] by rw [← hZl, ← hYl]; simp, KP.get_more _ _ hall]
      rfl) W MW)
    have HSame := Lib.hid (sameL_yes (l := m) (m := m) rfl)
    have q1 : ((Z.size : Int) == 0) = false := beq_eq_false_iff_ne.2 (by omega)
    clear hr hall hZ hZl hZs hk hYl hsm HSM hYs hes
    go_wp2_with fail
    refine HP.out.mono ?_
    rintro e w2 ⟨rfl, hb2, M2⟩
    go_wp2_with fail
    refine (HG1.out _ M2).mono ?_
    rintro e w3 ⟨G3, cap3, rfl, hcap3, hL3, hb3, M3⟩
    have HL3 := Lib.hid hL3
    clear hL3
    go_wp2_with fail
    refine (HG2.out _ M3).mono ?_
    rintro e w4 ⟨G4, cap4, rfl, _, _, hb4, M4⟩
    go_wp2_with fail
    refine (HG3.out _ (M4.alloc _)).mono ?_
    rintro e w5 ⟨G5, cap5, rfl, _, _, hb5, M5⟩
    have b5 := (hb4.trans' (below_alloc _ _)).trans' hb5
    have HL5 := Lib.hid (lies_on (B := 0) HL3.out b5)
    have c5 := (hb2.trans' hb3).trans' b5
    clear hc HL3
    go_wp2_with fail
    refine (kref M5 HL5.out (by omega)).mono ?_
    rintro e w6 ⟨G6, cap6, rfl, hL6, hb6, M6⟩
    have HL6 := Lib.hid hL6
    clear hL6
    go_wp2_with fail
    refine (kref M6 (HMO.out _ (c5.trans' hb6)) (by omega)).mono ?_
    rintro e w7 ⟨G7, cap7, rfl, hL7, hb7, M7⟩
    have HL7 := Lib.hid hL7
    clear hL7
    go_wp2_with fail
    refine (ksame M7 (lies_on (B := 0) HL6.out hb7) HL7.out (by omega) (by omega) true HSame.out).mono ?_
    rintro e w8 ⟨rfl, hb8, M8⟩
    go_wp2_with fail
    refine (HF.out _ M8).mono ?_
    rintro e w9 ⟨rfl, hb9, _⟩
    go_wp2_with fail
    go_ret
    exact ⟨rfl, ((((hb1.trans' c5).trans' hb6).trans' hb7).trans' hb8).trans' hb9⟩
end Go.Proofs.YtdcijbclafpkmaaDoor
