/-
  The walk of inner.May.
  The fixed bytes and the cells of an inner page, as texts; a region that draws in a round.
  Walks of the program's fields, within, Right.
  The walk of the program's laid.
  Walks of the program's sealable, sealed, Seal.
  Walks of the program's read, of strings.Clone.
  The walk of the document's Unpack.
  The walk of slot.cut.
-/
import Derived.Test.YtembccehokodeaaGreatDoorJIEnds1
import Derived.Test.YtembccehokodeaaGreatDoorJHSize
import Derived.Test.YtembccehokodeaaGreatDoorJ04
import Derived.Test.YtembccehokodeaaGreatDoorJHIs
import Derived.Deep.RegionHeld3
import Derived.Test.YtembccehokodeaaGreatDoorShelf
import Derived.Test.YtembccehokodeaaGreatDoorJFrame
import Derived.Lib.Repeat
import Derived.Lib.BitFns
import Derived.Laws.BitsAllLaws
import Derived.Test.YtembccehokodeaaGreatDoorJ02
namespace Go.Proofs.YtembccehokodeaaGreatDoor
open Go.RowKit IP
set_option linter.unusedVariables false
set_option linter.unusedSimpArgs false

theorem may_parts {F L R : Int} {H : ByteArray} {ks : List Int} {ss : List ByteArray} {p : Int} : May ⟨F, L, R, H, ks, ss⟩ p ↔ L7.mayBe p = true ∧ NumOk' F L R ∧ KidsOk' ks ss.length ∧ EndsQ R H ss p := Iff.rfl
set_option maxHeartbeats 2000000 in
set_option maxRecDepth 100000 in
theorem may_any (F L R : Int) (H : ByteArray) (A : Option Addr) (n ca : Nat) (C : Option Addr) (m cb : Nat) (ks : List Int) (ss : List ByteArray) (p : Int) (w : World) (hs : L7.Sizes w) (hr : Rows2 w A n ca C m cb ks ss) (hn : n ≤ 100000) (hm : m ≤ 100000) :
    Calls Tryz.prog 15 #[nv F L R H A n ca C m cb, .int .i64 p] w fun e w' => e = .returned (.bool (decide (May ⟨F, L, R, H, ks, ss⟩ p))) ∧ Below w.heap.size w w' := by
  have hb := nbox_below 25 F L R H A n ca C m cb w
  have HB := Lib.hid hb
  have HK := Lib.hid (nbox_new 25 F L R H A n ca C m cb w)
  have HS := Lib.hid (hs.below hs.lt hb)
  have HR := Lib.hid (hr.on hb)
  have HSZ := Lib.hid (fun W (h : L7.Sizes W) => L7.size_any p W h)
  have HNU := Lib.hid (fun W => nums_any F L R H A n ca C m cb W)
  have HKI := Lib.hid (fun W (h : Rows2 W A n ca C m cb ks ss) => kids_any F L R H A n ca C m cb ks W h.kids h.nk (by omega) (by omega))
  have hms := hr.nm
  by_cases c1 : L7.mayBe p = true
  · by_cases c2 : NumOk' F L R
    · rw [decide_eq_true c2] at HNU
      by_cases c3 : KidsOk' ks m
      · rw [decide_eq_true c3] at HKI
        have hp := mayBe_le c1
        obtain ⟨q, rfl⟩ : ∃ q : Nat, p = q := Int.eq_ofNat_of_zero_le (by omega)
        have HEN := Lib.hid (fun W (h : Rows2 W A n ca C m cb ks ss) => rightEnds_any F L R H A n ca C m cb ss q W h.seps (h.nk.symm.trans c3.1) h.nm h.cm hm (by omega))
        have e : decide (EndsQ R H ss q) = decide (May ⟨F, L, R, H, ks, ss⟩ q) := by
          by_cases hq : EndsQ R H ss q
          · rw [decide_eq_true hq, decide_eq_true (may_parts.2 ⟨c1, c2, by rw [hms]; exact c3, hq⟩)]
          · rw [decide_eq_false hq, decide_eq_false (fun h => hq (may_parts.1 h).2.2.2)]
        rw [e] at HEN
        rw [c1] at HSZ
        generalize decide (May ⟨F, L, R, H, ks, ss⟩ q) = r at *
        clear hb hs hr hms c1 c2 c3 e hp
        go_enter Tryz.func15, Tryz.ntmps15
        go_wp2_with fail
        refine (HSZ.out _ HS.out).mono ?_
        rintro e w2 ⟨rfl, rfl⟩
        obtain ⟨x0, x1, x2, x3, x4, x5⟩ := HK.out.cells
        go_wp2_with fail
        refine (HNU.out _).mono ?_
        rintro e w3 ⟨rfl, hb3⟩
        obtain ⟨y0, y1, y2, y3, y4, y5⟩ := (HK.out.below hb3).cells
        have HR3 := Lib.hid (HR.out.on hb3)
        have HB3 := Lib.hid (HB.out.trans' hb3)
        have HK3 := Lib.hid (HK.out.below hb3)
        clear hb3 x0 x1 x2 x3 x4 x5
        go_wp2_with fail
        refine (HKI.out _ HR3.out).mono ?_
        rintro e w4 ⟨rfl, hb4⟩
        clear y0 y1 y2 y3 y4 y5
        obtain ⟨z0, z1, z2, z3, z4, z5⟩ := (HK3.out.below hb4).cells
        have HR4 := Lib.hid (HR3.out.on hb4)
        have HB4 := Lib.hid (HB3.out.trans' hb4)
        clear hb4
        go_wp2_with fail
        refine (HEN.out _ HR4.out).mono ?_
        rintro e w5 ⟨rfl, hb5⟩
        go_wp2_with fail
        go_ret
        exact ⟨rfl, HB4.out.trans' hb5⟩
      · rw [decide_eq_false c3] at HKI
        rw [decide_eq_false (fun h : May ⟨F, L, R, H, ks, ss⟩ p => c3 (by have := (may_parts.1 h).2.2.1; rwa [hms] at this)), ]
        rw [c1] at HSZ
        clear hb hs hr hms c1 c2 c3
        go_enter Tryz.func15, Tryz.ntmps15
        go_wp2_with fail
        refine (HSZ.out _ HS.out).mono ?_
        rintro e w2 ⟨rfl, rfl⟩
        obtain ⟨x0, x1, x2, x3, x4, x5⟩ := HK.out.cells
        go_wp2_with fail
        refine (HNU.out _).mono ?_
        rintro e w3 ⟨rfl, hb3⟩
        obtain ⟨y0, y1, y2, y3, y4, y5⟩ := (HK.out.below hb3).cells
        have HR3 := Lib.hid (HR.out.on hb3)
        have HB3 := Lib.hid (HB.out.trans' hb3)
        clear hb3 x0 x1 x2 x3 x4 x5
        go_wp2_with fail
        refine (HKI.out _ HR3.out).mono ?_
        rintro e w4 ⟨rfl, hb4⟩
        go_wp2_with fail
        go_ret
        exact ⟨rfl, HB3.out.trans' hb4⟩
    · rw [decide_eq_false c2] at HNU
      rw [decide_eq_false (fun h : May ⟨F, L, R, H, ks, ss⟩ p => c2 (may_parts.1 h).2.1)]
      rw [c1] at HSZ
      clear hb hs hr hms c1 c2
      go_enter Tryz.func15, Tryz.ntmps15
      go_wp2_with fail
      refine (HSZ.out _ HS.out).mono ?_
      rintro e w2 ⟨rfl, rfl⟩
      obtain ⟨x0, x1, x2, x3, x4, x5⟩ := HK.out.cells
      go_wp2_with fail
      refine (HNU.out _).mono ?_
      rintro e w3 ⟨rfl, hb3⟩
      go_wp2_with fail
      go_ret
      exact ⟨rfl, HB.out.trans' hb3⟩
  · rw [decide_eq_false (fun h : May ⟨F, L, R, H, ks, ss⟩ p => c1 (may_parts.1 h).1)]
    have c1' : L7.mayBe p = false := by simpa using c1
    rw [c1'] at HSZ
    clear hb hs hr hms c1 c1'
    go_enter Tryz.func15, Tryz.ntmps15
    go_wp2_with fail
    refine (HSZ.out _ HS.out).mono ?_
    rintro e w2 ⟨rfl, rfl⟩
    go_wp2_with fail
    go_ret
    exact ⟨rfl, HB.out⟩
end Go.Proofs.YtembccehokodeaaGreatDoor

namespace Go.Proofs.YtembccehokodeaaGreatDoor
open Go.RowKit IP
set_option linter.unusedVariables false
set_option linter.unusedSimpArgs false

def fixedS (H : ByteArray) (ss : List ByteArray) : ByteArray := L9.textS (L5.headS ss) ++ L9.textS H
def cellAt (ks : List Int) (rs : List ByteArray) (i : Nat) : ByteArray := L9.kidS (ks.getD i 0).toNat (loAt ⟨#[]⟩ rs i)
def cellsS (ks : List Int) (ss : List ByteArray) : List ByteArray := List.zipWith (fun (k : Int) t => L9.kidS k.toNat t) ks (⟨#[]⟩ :: L5.bares ss)
theorem cellsS_length {ks : List Int} {ss : List ByteArray} (h : ks.length = ss.length + 1) : (cellsS ks ss).length = ks.length := by simp [cellsS, L5.bares_length, h]
theorem cells_range {ks : List Int} {ss : List ByteArray} (h : ks.length = ss.length + 1) : (List.range ks.length).map (cellAt ks (L5.bares ss)) = cellsS ks ss := by
  unfold cellsS
  apply List.ext_getElem
  · simp [L5.bares_length, h]
  · intro i h1 h2
    have hi : i < ks.length := by simpa using h1
    have hb : i < ((⟨#[]⟩ : ByteArray) :: L5.bares ss).length := by simp [L5.bares_length]; omega
    rw [List.getElem_map, List.getElem_range]
    unfold cellAt
    rw [List.getElem_zipWith]
    have e1 : ks.getD i 0 = ks[i] := by rw [List.getD_eq_getElem?_getD, List.getElem?_eq_getElem hi]; rfl
    have e2 : loAt ⟨#[]⟩ (L5.bares ss) i = ((⟨#[]⟩ : ByteArray) :: L5.bares ss)[i] := by
      cases i with
      | zero => rfl
      | succ j =>
        have hj : j < (L5.bares ss).length := by simpa using hb
        show (L5.bares ss).getD j ⟨#[]⟩ = (L5.bares ss)[j]
        rw [List.getD_eq_getElem?_getD, List.getElem?_eq_getElem hj]
        rfl
    rw [e1, e2]
theorem bare_list (p : Nat) (s : ByteArray) : L5.B (L5.bare p s) = (L5.B s).drop p := by
  show (s.extract p s.size).data.toList = _
  rw [Lib.extract_data, List.take_of_length_le (by simp)]
theorem bares_list (ss : List ByteArray) : L5.Bs (L5.bares ss) = (L5.Bs ss).map (List.drop (L5.EP.span (L5.Bs ss))) := by
  unfold L5.bares L5.Bs
  rw [List.map_map, List.map_map]
  exact List.map_congr_left fun s _ => bare_list _ s
theorem zip_list : ∀ (ks : List Int) (rs : List ByteArray), L5.Bs (List.zipWith (fun (k : Int) t => L9.kidS k.toNat t) ks rs) = cellsOf ks (L5.Bs rs)
  | [], _ => rfl
  | _ :: _, [] => rfl
  | k :: ks, r :: rs => by
    have ih := zip_list ks rs
    unfold cellsOf at ih ⊢
    show L5.B (L9.kidS k.toNat r) :: L5.Bs _ = L9.VP.cellK k.toNat (L5.B r) :: _
    rw [ih]
    rfl
theorem cellsS_list (ks : List Int) (ss : List ByteArray) : L5.Bs (cellsS ks ss) = cellsOf ks (rests ss) := by
  unfold cellsS
  rw [zip_list]
  show cellsOf ks ([] :: L5.Bs (L5.bares ss)) = _
  rw [bares_list]
  rfl
theorem head_com (ss : List ByteArray) : (L5.headS ss).data.toList = com ss := by
  cases ss with
  | nil => rfl
  | cons x l =>
    show (x.extract 0 (L5.sp (x :: l))).data.toList = (L5.B x).take _
    rw [Lib.extract_data]
    rfl
theorem fixedS_list (F L R : Int) (H : ByteArray) (ks : List Int) (ss : List ByteArray) : (fixedS H ss).data.toList = fixed ⟨F, L, R, H, ks, ss⟩ := by
  have h := head_com ss
  simp only [fixedS, fixed, L9.textS, h]
  simp
theorem size_eq (F L R : Int) (H : ByteArray) (ks : List Int) (ss : List ByteArray) : L8.LP.need (fixedS H ss).size (L5.Bs (cellsS ks ss)) = size ⟨F, L, R, H, ks, ss⟩ := by
  unfold size
  rw [cellsS_list, ← fixedS_list F L R H ks ss]
  congr 1
/-- What parts asks. -/
structure Fit (H : ByteArray) (ks : List Int) (ss : List ByteArray) : Prop where
  few : ss.length ≤ 1000
  len : ks.length = ss.length + 1
  kids : ∀ k ∈ ks, KidOk k
  sep : ∀ s ∈ ss, s.size ≤ 128
  high : H.size ≤ 1000
theorem May.fit {F L R : Int} {H : ByteArray} {ks : List Int} {ss : List ByteArray} {p : Int} (h : May ⟨F, L, R, H, ks, ss⟩ p) (hn : ss.length ≤ 1000) : Fit H ks ss := by
  have hp := mayBe_le h.1
  refine ⟨hn, h.2.2.1.1, h.2.2.1.2, fun s hs => ?_, ?_⟩
  · have := (h.2.2.2.2.2 s hs).2
    omega
  · by_cases h0 : R = 0
    · rw [show H.size = 0 from h.2.2.2.1.1 h0]; omega
    · have : (H.size : Int) ≤ p / 8 := (h.2.2.2.1.2 h0).2.1
      omega
theorem headS_size {ss : List ByteArray} (h : ∀ s ∈ ss, s.size ≤ 128) : (L5.headS ss).size ≤ 128 := by
  cases ss with
  | nil => exact Nat.zero_le _
  | cons x l =>
    have := h x (List.mem_cons_self)
    show (x.extract 0 _).size ≤ 128
    simp
    omega
theorem fixedS_size {H : ByteArray} {ks : List Int} {ss : List ByteArray} (hf : Fit H ks ss) : (fixedS H ss).size ≤ 1300 := by
  have z3 := headS_size hf.sep
  have z4 := hf.high
  have z1 := L9.textS_size (L5.headS ss) (by omega)
  have z2 := L9.textS_size H (by omega)
  unfold fixedS
  simp only [ByteArray.size_append]
  omega
theorem lo_size {rs : List ByteArray} (h : ∀ s ∈ rs, s.size ≤ 128) (i : Nat) : (loAt ⟨#[]⟩ rs i).size ≤ 128 := by
  cases i with
  | zero => exact Nat.zero_le _
  | succ j =>
    show (rs.getD j ⟨#[]⟩).size ≤ 128
    rw [List.getD_eq_getElem?_getD]
    cases hj : rs[j]? with
    | none => exact Nat.zero_le _
    | some s => exact h s (List.mem_of_getElem? hj)
theorem bares_size {ss : List ByteArray} (h : ∀ s ∈ ss, s.size ≤ 128) : ∀ s ∈ L5.bares ss, s.size ≤ 128 := by
  intro s hs
  obtain ⟨t, ht, rfl⟩ := List.mem_map.1 hs
  have := h t ht
  show (t.extract _ t.size).size ≤ 128
  simp
  omega
theorem kidS_size (k : Nat) (t : ByteArray) (h : t.size ≤ 128) : (L9.kidS k t).size ≤ 135 := by
  have h1 : (L9.kidS k t).data.toList.length = (L9.kidS k t).size := by simp
  have h2 : t.data.toList.length = t.size := by simp
  have h3 := cellK_few k t.data.toList (by omega)
  have e : (L9.kidS k t).data.toList = L9.VP.cellK k t.data.toList := by simp [L9.kidS]
  rw [← h1, e]
  omega
theorem cellsS_size {H : ByteArray} {ks : List Int} {ss : List ByteArray} (hf : Fit H ks ss) : ∀ s ∈ cellsS ks ss, s.size ≤ 135 := by
  intro s hs
  rw [← cells_range hf.len] at hs
  obtain ⟨i, -, rfl⟩ := List.mem_map.1 hs
  exact kidS_size _ _ (lo_size (bares_size hf.sep) i)
theorem putk_ok {k : Int} {t : ByteArray} (hk : KidOk k) (ht : t.size ≤ 128) : L9.putKV k t = .tuple #[.string (L9.kidS k.toNat t), .int .i64 0] := by
  unfold L9.putKV
  unfold KidOk at hk
  have hl : t.data.toList.length = t.size := by simp
  rw [if_pos ⟨hk.1, hk.2, by omega⟩]
theorem NBx.own {t : TypeId} {g : Nat} {F L R : Int} {H : ByteArray} {A : Option Addr} {n ca : Nat} {C : Option Addr} {m cb : Nat} {X Y : World} {row : Option Nat} (h : NBx t g F L R H A n ca C m cb X) (hg : X.grownBy Y row) (hr : ∀ r, row = some r → ∃ o : Obj, X.heap[r]? = some o ∧ o.isCells = false) : NBx t g F L R H A n ca C m cb Y := by
  refine (hg.block g h.lt (fun e => ?_)).trans h
  obtain ⟨o, ho, hc⟩ := hr g e.symm
  unfold NBx at h
  rw [h] at ho
  cases ho
  cases hc

/-! A region that draws, in a round: out of the plain law. -/
section
variable {l n : Nat} {P : Program} {ops : Array Oper} {Q : Exit → Act → World → Prop} {md : Region.Mode} {S : World → Prop}
theorem rows_round {row : String} {args : Array Value} {w : World} {R : Value → World → Prop} (h : Rows P row args w R) : RowsIn (Fence.wide.inRound l) n P row args w R :=
  fun c cs _ => let ⟨v, w', r, s⟩ := h c cs; ⟨v, w', r, stepsIn_wide.2 s⟩
theorem calls_round {f : FuncId} {args : Array Value} {w : World} {R : Ending → World → Prop} (h : Calls P f args w R) : CallsIn (Fence.wide.inRound l) n P f args w R := CallsIn.inRound l (callsIn_wide.2 h)
theorem wp_round {o : Oper} {K : Act → World → Prop} {a : Act} {w : World} (hnd : ∀ c, o.op ≠ .defer c) (h : o.wp P a w K Q) : o.wpIn (Fence.wide.inRound l) n P a w K Q := by
  refine ⟨fun f _ => trivial, ?_⟩
  rw [Oper.semAt_eq _ _ _ hnd]
  unfold Oper.wp at h
  generalize (execOp a.eval o).run P w = r at *
  cases r with
  | ok x w' =>
    cases x <;> simp only [Oper.upon, Oper.uponIn] at h ⊢ <;>
      first
        | exact h
        | exact ⟨fun h => (by cases h), calls_round h⟩
        | exact ⟨fun h => (by cases h), rows_round h⟩
  | halt x w' => cases x <;> simp only [Oper.upon, Oper.uponIn] at h ⊢ <;> exact h
theorem wpOp_round {i : Nat} {K : Act → World → Prop} {a : Act} {w : World} (hnd : ∀ o, ops[i]? = some o → ∀ c, o.op ≠ .defer c) (hQ : ¬ LetsOut Q) (h : wpOp P ops Q i K a w) : wpOpIn (Fence.wide.inRound l) n P ops Q i K a w := by
  unfold wpOp at h
  unfold wpOpIn
  cases ho : ops[i]? with
  | none => rw [ho] at h; exact h
  | some o =>
    rw [ho] at h
    simp only at h ⊢
    split
    · rename_i hw
      rw [if_pos hw] at h
      rcases h with h | h
      · exact wp_round (hnd o ho) h
      · exact absurd h.2 hQ
    · rename_i hw
      rw [if_neg hw] at h
      exact ⟨fun f _ => trivial, h⟩
theorem wpAny_round (hnd : ∀ (i : Nat) (o : Oper), ops[i]? = some o → ∀ c, o.op ≠ .defer c) (hQ : ¬ LetsOut Q) : ∀ (fuel : Nat) (listed : Array Bool) (a : Act) (w : World), wpAny P md ops Q fuel listed a w → wpAnyIn (Fence.wide.inRound l) n P md ops Q fuel listed a w
  | 0, _, _, _, h => h
  | fuel + 1, listed, a, w, h => ⟨h.1, fun i hi => wpOpIn_mono (fun a' w' h' => wpAny_round hnd hQ fuel _ a' w' h') (wpOp_round (hnd i) hQ (h.2 i hi))⟩
theorem rows_wideC {row : String} {args : Array Value} {w : World} {R : Value → World → Prop} (h : Rows P row args w R) : RowsIn Fence.wide n P row args w R :=
  fun c cs _ => let ⟨v, w', r, s⟩ := h c cs; ⟨v, w', r, stepsIn_wide.2 s⟩
theorem calls_wideC {f : FuncId} {args : Array Value} {w : World} {R : Ending → World → Prop} (h : Calls P f args w R) : CallsIn Fence.wide n P f args w R := callsIn_wide.2 h
theorem wp_wideC {o : Oper} {K : Act → World → Prop} {a : Act} {w : World} (hnd : ∀ c, o.op ≠ .defer c) (h : o.wp P a w K Q) : o.wpIn Fence.wide n P a w K Q := by
  refine ⟨fun f _ => trivial, ?_⟩
  rw [Oper.semAt_eq _ _ _ hnd]
  unfold Oper.wp at h
  generalize (execOp a.eval o).run P w = r at *
  cases r with
  | ok x w' =>
    cases x <;> simp only [Oper.upon, Oper.uponIn] at h ⊢ <;>
      first
        | exact h
        | exact ⟨fun h => (by cases h), calls_wideC h⟩
        | exact ⟨fun h => (by cases h), rows_wideC h⟩
  | halt x w' => cases x <;> simp only [Oper.upon, Oper.uponIn] at h ⊢ <;> exact h
theorem wpOp_wideC {i : Nat} {K : Act → World → Prop} {a : Act} {w : World} (hnd : ∀ o, ops[i]? = some o → ∀ c, o.op ≠ .defer c) (hQ : ¬ LetsOut Q) (h : wpOp P ops Q i K a w) : wpOpIn Fence.wide n P ops Q i K a w := by
  unfold wpOp at h
  unfold wpOpIn
  cases ho : ops[i]? with
  | none => rw [ho] at h; exact h
  | some o =>
    rw [ho] at h
    simp only at h ⊢
    split
    · rename_i hw
      rw [if_pos hw] at h
      rcases h with h | h
      · exact wp_wideC (hnd o ho) h
      · exact absurd h.2 hQ
    · rename_i hw
      rw [if_neg hw] at h
      exact ⟨fun f _ => trivial, h⟩
theorem wpAny_wideC (hnd : ∀ (i : Nat) (o : Oper), ops[i]? = some o → ∀ c, o.op ≠ .defer c) (hQ : ¬ LetsOut Q) : ∀ (fuel : Nat) (listed : Array Bool) (a : Act) (w : World), wpAny P md ops Q fuel listed a w → wpAnyIn Fence.wide n P md ops Q fuel listed a w
  | 0, _, _, _, h => h
  | fuel + 1, listed, a, w, h => ⟨h.1, fun i hi => wpOpIn_mono (fun a' w' h' => wpAny_wideC hnd hQ fuel _ a' w' h') (wpOp_wideC (hnd i) hQ (h.2 i hi))⟩
def noDefer (ops : Array Oper) : Bool := ops.toList.all fun o => match o.op with | .defer _ => false | _ => true
theorem noDefer_spec (h : noDefer ops = true) : ∀ (i : Nat) (o : Oper), ops[i]? = some o → ∀ c, o.op ≠ .defer c := fun i o ho c e => by
  have h1 : o ∈ ops.toList := by rw [Array.mem_toList_iff]; exact Array.mem_of_getElem? ho
  have h2 := List.all_eq_true.1 h o h1
  rw [e] at h2
  cases h2
theorem wpIn_region_held {id : Nat} {a : Act} {w : World} (hm : P.follows .mixedOrders = true) (hnd : noDefer ops = true) (hQ : ¬ LetsOut Q) (hS : S w.drew)
    (h : S w.drew → wpAnyH P .any ops Q S ops.size (Array.replicate ops.size false) a w.drew) : (Code.region id ops true).wpIn (Fence.wide.inRound l) n P Q a w :=
  wpIn_region_any hm (wpAny_round (noDefer_spec hnd) hQ _ _ _ _ (wpAny_of_held _ _ _ _ (h hS)))
theorem wpIn_region_heldW {id : Nat} {a : Act} {w : World} (hm : P.follows .mixedOrders = true) (hnd : noDefer ops = true) (hQ : ¬ LetsOut Q) (hS : S w.drew)
    (h : S w.drew → wpAnyH P .any ops Q S ops.size (Array.replicate ops.size false) a w.drew) : (Code.region id ops true).wpIn Fence.wide n P Q a w :=
  wpIn_region_any hm (wpAny_wideC (noDefer_spec hnd) hQ _ _ _ _ (wpAny_of_held _ _ _ _ (h hS)))
end
/-- One operation that yields. -/
theorem take_op {P : Program} {ops : Array Oper} {Q : Exit → Act → World → Prop} {md : Region.Mode} {S : World → Prop} {i : Nat} {oi : Oper} {d : Option Tmp} {v : Value} {fuel : Nat} {listed : Array Bool} {a : Act} {w : World} (hi : ops[i]? = some oi) (hd : oi.dst = d)
    (hs : Region.noSelect ops = true) (hf : Region.free md ops listed i = true) (hr : (Region.ready md ops listed).contains i = true)
    (hQ : ∀ c a w, Q (.panic c) (a.put d v) w → Q (.panic c) a w) (hy : YieldsIf P ops S oi v a) (hS : S w)
    (h : wpAnyH P md ops Q S fuel (listed.setIfInBounds i true) (a.put d v) w) : wpAnyH P md ops Q S (fuel + 1) listed a w := by
  subst hd
  exact wpAnyH_take hi hs hf hr hQ hy hS h
end Go.Proofs.YtembccehokodeaaGreatDoor

namespace Go.Proofs.YtembccehokodeaaGreatDoor.L7
open Go.RowKit
set_option linter.unusedVariables false
set_option linter.unusedSimpArgs false

/-- One of the numbers that a page begins with. -/
structure Fd where
  nm : ByteArray
  n : Int
  lo : Int
  hi : Int
  sz : Nat
def fd (h : HP.H) : Nat → Fd
  | 0 => ⟨⟨#[75, 105, 110, 100]⟩, h.k, 1, 4, 1⟩
  | 1 => ⟨⟨#[76, 101, 118, 101, 108]⟩, h.l, 0, 255, 1⟩
  | 2 => ⟨⟨#[67, 111, 117, 110, 116]⟩, h.c, 0, 65535, 2⟩
  | 3 => ⟨⟨#[82, 105, 103, 104, 116]⟩, h.r, 0, 4095, 4⟩
  | _ => ⟨⟨#[83, 101, 108, 102]⟩, h.s, 0, 4095, 4⟩
theorem right_fd (h : HP.H) : HP.right h = true ↔ ∀ k, k < 5 → (fd h k).lo ≤ (fd h k).n ∧ (fd h k).n ≤ (fd h k).hi := by
  rw [HP.right_iff]
  unfold HP.Ok
  constructor
  · rintro ⟨h1, h2, h3, h4, h5, h6, h7, h8, h9, h10⟩ k hk
    rcases (show k = 0 ∨ k = 1 ∨ k = 2 ∨ k = 3 ∨ k = 4 by omega) with rfl | rfl | rfl | rfl | rfl <;> simp only [fd] <;> omega
  · intro H
    have a0 := H 0 (by omega)
    have a1 := H 1 (by omega)
    have a2 := H 2 (by omega)
    have a3 := H 3 (by omega)
    have a4 := H 4 (by omega)
    simp only [fd] at a0 a1 a2 a3 a4
    omega
/-- A field's cells at a place. -/
def At5 (w : World) (a : Addr) (f : Fd) : Prop :=
  w.cell? a = some (.string f.nm) ∧ w.cell? ⟨a.block, a.off + 1, none⟩ = some (.int .i64 f.n) ∧ w.cell? ⟨a.block, a.off + 2, none⟩ = some (.int .i64 f.lo) ∧ w.cell? ⟨a.block, a.off + 3, none⟩ = some (.int .i64 f.hi) ∧ w.cell? ⟨a.block, a.off + 4, none⟩ = some (.int .i64 f.sz)
def FL (w : World) (a : Addr) (h : HP.H) : Prop := a.block < w.heap.size ∧ ∀ k, k < 5 → (a.add (k * 5)).block = a.block ∧ At5 w (a.add (k * 5)) (fd h k)
theorem FL.below {w w' : World} {a : Addr} {h : HP.H} (H : FL w a h) (b : Below w.heap.size w w') : FL w' a h := by
  refine ⟨Nat.lt_of_lt_of_le H.1 b.size, fun k hk => ?_⟩
  obtain ⟨e, x0, x1, x2, x3, x4⟩ := H.2 k hk
  have c : ∀ p : Addr, p.block = a.block → w'.cell? p = w.cell? p := fun p hp => by
    unfold World.cell?
    rw [hp, b.block _ H.1]
  exact ⟨e, (c _ e).trans x0, (c ⟨_, _, none⟩ e).trans x1, (c ⟨_, _, none⟩ e).trans x2, (c ⟨_, _, none⟩ e).trans x3, (c ⟨_, _, none⟩ e).trans x4⟩
/-- All fields' cells. -/
def fcells (h : HP.H) : Array Value := #[.string ⟨#[75, 105, 110, 100]⟩, .int .i64 h.k, .int .i64 1, .int .i64 4, .int .i64 1, .string ⟨#[76, 101, 118, 101, 108]⟩, .int .i64 h.l, .int .i64 0, .int .i64 255, .int .i64 1, .string ⟨#[67, 111, 117, 110, 116]⟩, .int .i64 h.c, .int .i64 0, .int .i64 65535, .int .i64 2, .string ⟨#[82, 105, 103, 104, 116]⟩, .int .i64 h.r, .int .i64 0, .int .i64 4095, .int .i64 4, .string ⟨#[83, 101, 108, 102]⟩, .int .i64 h.s, .int .i64 0, .int .i64 4095, .int .i64 4]
theorem fl_of {w : World} {g : Nat} {h : HP.H} {t : TypeId} (H : w.heap[g]? = some (.cells (fcells h) t (0, 0))) : FL w ⟨g, 0, none⟩ h := by
  refine ⟨(Array.getElem?_eq_some_iff.1 H).1, fun k hk => ?_⟩
  have e : (⟨g, 0, none⟩ : Addr).add (k * 5) = ⟨g, k * 5, none⟩ := by
    unfold Addr.add
    split <;> simp_all
  rw [e]
  refine ⟨rfl, ?_⟩
  unfold At5
  simp only [World.cell?, H]
  rcases (show k = 0 ∨ k = 1 ∨ k = 2 ∨ k = 3 ∨ k = 4 by omega) with rfl | rfl | rfl | rfl | rfl <;> simp [fcells, fd]

theorem heap_alloc_new2 (w : World) (o p : Obj) : ((w.alloc o).alloc p).heap[w.heap.size + 1]? = some p := by
  have h := heap_alloc_new (w.alloc o) p
  simpa using h
set_option maxHeartbeats 1000000 in
set_option maxRecDepth 100000 in
theorem fields_any (h : HP.H) (w : World) :
    Calls Tryz.prog 91 #[hv h] w fun e w' => ∃ a : Addr, e = .returned (.slice (some a) 5 5) ∧ FL w' a h ∧ Below w.heap.size w w' := by
  obtain ⟨k, l, c, r, s⟩ := h
  unfold hv
  go_enter Tryz.func91, Tryz.ntmps91
  go_wp2_with fail
  go_ret
  exact ⟨_, rfl, fl_of (h := ⟨k, l, c, r, s⟩) (heap_alloc_new2 w _ _), (below_alloc _ _).trans' (below_alloc _ _)⟩

set_option maxHeartbeats 2000000 in
set_option maxRecDepth 100000 in
theorem within_any (h : HP.H) (a : Addr) (w : World) (ha : FL w a h) :
    Calls Tryz.prog 90 #[.slice (some a) 5 5] w fun e w' => ∃ v, e = .returned v ∧ Below w.heap.size w w' ∧ ((HP.right h = true ∧ v = .nilIface) ∨ (HP.right h = false ∧ ∃ nm, v = fa nm (er 3))) := by
  have HA := Lib.hid ha
  clear ha
  go_enter Tryz.func90, Tryz.ntmps90
  go_wp2_with fail
  go_loopw [7] (fun iv wr => ∃ k : Nat, k ≤ 5 ∧ iv = .int .i64 k ∧ Hid (∀ j, j < k → (fd h j).lo ≤ (fd h j).n ∧ (fd h j).n ≤ (fd h j).hi) ∧ Below w.heap.size w wr) (fun iv _ => 5 - (intOf iv).toNat)
  case atStart => exact ⟨0, by omega, rfl, Lib.hid (fun j hj => absurd hj (by omega)), Below.refl _ _⟩
  case round =>
    obtain ⟨k, hk, rfl, HK, hbw⟩ := hrel
    by_cases hlt : k < 5
    · have hF := (HA.out.below hbw).2 k hlt
      obtain ⟨f, hf⟩ : ∃ f, f = fd h k := ⟨_, rfl⟩
      rw [← hf] at hF
      have HFD := Lib.hid hf
      clear hf
      obtain ⟨nm, n, lo, hi, sz⟩ := f
      obtain ⟨hab, x0, x1, x2, x3, x4⟩ := hF
      simp only at x0 x1 x2 x3 x4
      have HNO : Hid (n < lo ∨ hi < n → HP.right h = false) := Lib.hid (fun hn => by
        cases hr : HP.right h with
        | false => rfl
        | true =>
          have := (right_fd h).1 hr k hlt
          rw [← HFD.out] at this
          simp only at this
          omega)
      clear hab
      by_cases h1 : n < lo
      · go_wp2_with fail
        go_ret
        exact ⟨_, rfl, hbw.trans' (below_alloc _ _), .inr ⟨HNO.out (.inl h1), nm, rfl⟩⟩
      · by_cases h2 : hi < n
        · go_wp2_with fail
          go_ret
          exact ⟨_, rfl, hbw.trans' (below_alloc _ _), .inr ⟨HNO.out (.inr h2), nm, rfl⟩⟩
        · go_wp2_with fail
          go_roundw
          case rel =>
            refine ⟨k + 1, by omega, by go_num, Lib.hid (fun j hj => ?_), hbw.trans' (below_alloc _ _)⟩
            rcases (show j < k ∨ j = k by omega) with hj | rfl
            · exact HK.out j hj
            · rw [← HFD.out]
              simp only
              omega
          case measure => simp [intOf]; omega
    · obtain rfl : k = 5 := by omega
      go_wp2_with fail
      go_ret
      exact ⟨_, rfl, hbw, .inl ⟨(right_fd h).2 HK.out, rfl⟩⟩

end Go.Proofs.YtembccehokodeaaGreatDoor.L7

namespace Go.Proofs.YtembccehokodeaaGreatDoor.L7
open Go.RowKit
set_option linter.unusedVariables false
set_option linter.unusedSimpArgs false

def piece (h : HP.H) (k : Nat) : List UInt8 := (Lib.leBytes 4 (fd h k).n.toNat).take (fd h k).sz
def outAt (h : HP.H) (k : Nat) : List UInt8 := (List.range k).flatMap (piece h)
theorem outAt_succ (h : HP.H) (k : Nat) : outAt h (k + 1) = outAt h k ++ piece h k := by simp [outAt, List.range_succ]
theorem piece_length (h : HP.H) (k : Nat) : (piece h k).length ≤ 4 := by simp [piece, Lib.leBytes_length]; omega
theorem outAt_length (h : HP.H) : ∀ k, (outAt h k).length ≤ 4 * k
  | 0 => by simp [outAt]
  | k + 1 => by
    rw [outAt_succ, List.length_append]
    have := outAt_length h k
    have := piece_length h k
    omega
theorem outAt_all (h : HP.H) (hh : HP.Ok h) : outAt h 5 = HP.front h := by
  obtain ⟨k, l, c, r, s⟩ := h
  obtain ⟨h1, h2, h3, h4, h5, h6, h7, h8, h9, h10⟩ := hh
  simp only at h1 h2 h3 h4 h5 h6 h7 h8 h9 h10
  obtain ⟨k, rfl⟩ := Int.eq_ofNat_of_zero_le (show 0 ≤ k by omega)
  obtain ⟨l, rfl⟩ := Int.eq_ofNat_of_zero_le h3
  obtain ⟨c, rfl⟩ := Int.eq_ofNat_of_zero_le h5
  obtain ⟨r, rfl⟩ := Int.eq_ofNat_of_zero_le h7
  obtain ⟨s, rfl⟩ := Int.eq_ofNat_of_zero_le h9
  have e : ∀ v : Nat, (Lib.leBytes 4 v).take 4 = Lib.leBytes 4 v := fun v => List.take_of_length_le (by rw [Lib.leBytes_length]; exact Nat.le_refl _)
  have e1 : ∀ v : Nat, v < 256 → (Lib.leBytes 4 v).take 1 = [HP.u8 v] := fun v hv => by
    simp only [Lib.leBytes, List.take_succ_cons, List.take_zero, HP.u8]
    rw [u8n v v rfl]
    congr 1
    apply UInt8.toNat_inj.1
    simp [Nat.toUInt8]
  have e2 : ∀ v : Nat, v < 65536 → (Lib.leBytes 4 v).take 2 = [HP.u8 (v % 256), HP.u8 (v / 256)] := fun v hv => by
    simp only [Lib.leBytes, List.take_succ_cons, List.take_zero, HP.u8]
    rw [show (v % 256).toUInt8 = UInt8.ofNat (v % 256) from rfl, show (v / 256 % 256).toUInt8 = UInt8.ofNat (v / 256 % 256) from rfl, Nat.mod_eq_of_lt (show v / 256 < 256 by omega)]
  simp only [outAt, List.range, List.range.loop, List.flatMap_cons, List.flatMap_nil, piece, fd, Int.toNat_natCast, e, HP.front]
  rw [e1 k (by omega), e1 l (by omega), e2 c (by omega)]
  simp
/-- What is laid behind k rounds, as a text. -/
def outS (h : HP.H) (k : Nat) : ByteArray := ⟨(outAt h k).toArray⟩
theorem outS_succ (h : HP.H) (k : Nat) : outS h k ++ (⟨(Lib.leBytes 4 (fd h k).n.toNat).toArray⟩ : ByteArray).extract 0 (fd h k).sz = outS h (k + 1) := by
  unfold outS
  rw [outAt_succ]
  apply ByteArray.ext
  simp [piece]
theorem outS_size (h : HP.H) (k : Nat) : (outS h k).size ≤ 4 * k := by
  have := outAt_length h k
  simpa [outS, ByteArray.size] using this
theorem fd_sz (h : HP.H) (k : Nat) (hk : k < 5) : (fd h k).sz ≤ 4 := by
  rcases (show k = 0 ∨ k = 1 ∨ k = 2 ∨ k = 3 ∨ k = 4 by omega) with rfl | rfl | rfl | rfl | rfl <;> simp [fd]
theorem fd_n (h : HP.H) (hh : HP.Ok h) (k : Nat) (hk : k < 5) : 0 ≤ (fd h k).n ∧ (fd h k).n ≤ 65535 := by
  obtain ⟨h1, h2, h3, h4, h5, h6, h7, h8, h9, h10⟩ := hh
  rcases (show k = 0 ∨ k = 1 ∨ k = 2 ∨ k = 3 ∨ k = 4 by omega) with rfl | rfl | rfl | rfl | rfl <;> simp only [fd] <;> omega
/-- A field's box. -/
def Fx (g : Nat) (f : Fd) (w : World) : Prop := w.heap[g]? = some (.cells #[.string f.nm, .int .i64 f.n, .int .i64 f.lo, .int .i64 f.hi, .int .i64 f.sz] 150 (0, 0))
theorem Fx.cells {g : Nat} {f : Fd} {w : World} (k : Fx g f w) : w.cell? ⟨g, 1, none⟩ = some (.int .i64 f.n) ∧ w.cell? ⟨g, 4, none⟩ = some (.int .i64 f.sz) := by
  unfold Fx at k
  refine ⟨?_, ?_⟩ <;> simp [World.cell?, k]
theorem Fx.lt {g : Nat} {f : Fd} {w : World} (k : Fx g f w) : g < w.heap.size := (Array.getElem?_eq_some_iff.1 k).1
theorem Fx.below {g : Nat} {f : Fd} {w w' : World} (k : Fx g f w) (b : Below w.heap.size w w') : Fx g f w' := (b.block g k.lt).trans k
theorem hasFx {g : Nat} {f : Fd} {w : World} (k : Fx g f w) : Hid (Fx g f w) ∧ w.cell? ⟨g, 1, none⟩ = some (.int .i64 f.n) ∧ w.cell? ⟨g, 4, none⟩ = some (.int .i64 f.sz) := ⟨Lib.hid k, k.cells⟩

set_option maxHeartbeats 2000000 in
set_option maxRecDepth 100000 in
theorem laid_any (h : HP.H) (hh : HP.Ok h) (a : Addr) (w : World) (ha : FL w a h) :
    Calls Tryz.prog 94 #[.slice (some a) 5 5] w fun e w' => e = .returned (.string ⟨(HP.front h).toArray⟩) ∧ Below w.heap.size w w' := by
  have HA := Lib.hid ha
  clear ha
  have HE : Hid (outS h 5 = ⟨(HP.front h).toArray⟩) := Lib.hid (by unfold outS; rw [outAt_all h hh])
  rw [← HE.out]
  clear HE
  have hz0 : outS h 0 = ⟨#[]⟩ := rfl
  go_enter Tryz.func94, Tryz.ntmps94
  go_wp2_with fail
  go_loopw [3, 8] (fun ov iv wr => ∃ k : Nat, k ≤ 5 ∧ iv = .int .i64 k ∧ ov = .string (outS h k) ∧ Below w.heap.size w wr) (fun _ iv _ => 5 - (intOf iv).toNat)
  case atStart => exact ⟨0, by omega, rfl, rfl, Below.refl _ _⟩
  case round =>
    obtain ⟨k, hk, rfl, rfl, hbw⟩ := hrel
    by_cases hlt : k < 5
    · have hF := (HA.out.below hbw).2 k hlt
      have hsz := fd_sz h k hlt
      have hn := fd_n h hh k hlt
      have hos := outS_size h k
      have HS := Lib.hid (outS_succ h k)
      obtain ⟨f, hf⟩ : ∃ f, fd h k = f := ⟨_, rfl⟩
      rw [hf] at hF hsz hn HS
      clear hf
      obtain ⟨nm, n, lo, hi, sz⟩ := f
      obtain ⟨hab, x0, x1, x2, x3, x4⟩ := hF
      simp only at x0 x1 x2 x3 x4 hsz hn HS
      clear hab
      obtain ⟨n, rfl⟩ := Int.eq_ofNat_of_zero_le hn.1
      obtain ⟨T, hT⟩ : ∃ T : ByteArray, ⟨(Lib.leBytes 4 n).toArray⟩ = T := ⟨_, rfl⟩
      have sT : T.size = 4 := by rw [← hT]; simp [ByteArray.size, Lib.leBytes_length]
      have HF : Hid (∀ W, Calls Tryz.prog 86 #[.int .u32 (n : Int)] W fun e w' => e = .returned (.string T) ∧ Below W.heap.size W w') := Lib.hid (fun W => by
        have h := four_any (n : Int) W (by omega) (by omega)
        rw [Int.toNat_natCast, hT] at h
        exact h)
      rw [Int.toNat_natCast, hT] at HS
      clear hT
      obtain ⟨O, hO⟩ : ∃ O, outS h k = O := ⟨_, rfl⟩
      rw [hO] at HS hos ⊢
      clear hO
      have q1 : IntKind.u32.wrap (n : Int) = n := IntWalk.u32_in _ (by omega)
      obtain ⟨U, hU⟩ : ∃ U, T.extract 0 sz = U := ⟨_, rfl⟩
      have sU : U.size = sz := by rw [← hU]; simp; omega
      have HS2 : Hid (O ++ U = outS h (k + 1)) := Lib.hid (by rw [← hU]; exact HS.out)
      have b1 : (0 : Int) ≤ (sz : Int) := by omega
      have b2 : (sz : Int) ≤ (T.size : Int) := by omega
      have b3 : sz ≤ T.size := by omega
      have b5 : ¬ 9223372036854775807 < O.size + U.size := by omega
      have b6 : ¬ (9223372036854775807 : Int) < (O.size : Int) + (U.size : Int) := by omega
      clear sT sU hos HS hsz
      have hfx : Fx wr.heap.size ⟨nm, n, lo, hi, sz⟩ (wr.alloc (.cells #[.string nm, .int .i64 n, .int .i64 lo, .int .i64 hi, .int .i64 sz] 150)) := heap_alloc_new wr _
      have hb0 := hbw.trans' (below_alloc wr (.cells #[.string nm, .int .i64 n, .int .i64 lo, .int .i64 hi, .int .i64 sz] 150))
      have HSB : Hid (∀ V V' : World, Below V.heap.size V V' → (Hid (Fx wr.heap.size ⟨nm, n, lo, hi, sz⟩ V) ∧ V.cell? ⟨wr.heap.size, 1, none⟩ = some (.int .i64 n) ∧ V.cell? ⟨wr.heap.size, 4, none⟩ = some (.int .i64 sz)) → (Hid (Fx wr.heap.size ⟨nm, n, lo, hi, sz⟩ V') ∧ V'.cell? ⟨wr.heap.size, 1, none⟩ = some (.int .i64 n) ∧ V'.cell? ⟨wr.heap.size, 4, none⟩ = some (.int .i64 sz))) := Lib.hid (fun V V' hb hh => hasFx (hh.1.out.below hb))
      have hSV := hasFx hfx
      have hSd := HSB.out _ _ (below_drewN (Below.refl _ (wr.alloc (.cells #[.string nm, .int .i64 n, .int .i64 lo, .int .i64 hi, .int .i64 sz] 150))) 1) hSV
      have HB0 := Lib.hid hb0
      clear hfx hb0
      go_wp2_with fail
      go_region_held3 (fun V => Hid (Fx wr.heap.size ⟨nm, n, lo, hi, sz⟩ V) ∧ V.cell? ⟨wr.heap.size, 1, none⟩ = some (.int .i64 n) ∧ V.cell? ⟨wr.heap.size, 4, none⟩ = some (.int .i64 sz))
        (first | assumption | exact hSd)
        (first
          | (go_at_call 86; refine (HF.out _).mono ?_; rintro e V2 ⟨rfl, hb2⟩; have HB2 := Lib.hid (below_of_drew hb2); have hSV2 := HSB.out _ _ (below_of_drew hb2) (by assumption))
          | fail "no arm")
      rw [HS2.out]
      go_wp2_with fail
      go_roundw
      case rel => exact ⟨k + 1, by omega, by go_num, rfl, HB0.out.trans' HB2.out⟩
      case measure => simp [intOf]; omega
    · obtain rfl : k = 5 := by omega
      go_wp2_with fail
      go_ret
      exact ⟨rfl, hbw⟩
end Go.Proofs.YtembccehokodeaaGreatDoor.L7

namespace Go.Proofs.YtembccehokodeaaGreatDoor.L7
open Go.RowKit
set_option linter.unusedVariables false
set_option linter.unusedSimpArgs false

theorem Sizes.kept {w w' : World} (h : Sizes w) (k : Below w.heap.size w w') : Sizes w' := h.below h.lt k
theorem Sizes.alloc {w : World} (h : Sizes w) (o : Obj) : Sizes (w.alloc o) := h.kept (below_alloc w o)

/-- What sealable answers. -/
def Why (h : HP.H) (b : ByteArray) (p : Int) (v : Value) : Prop :=
  (mayBe p = false ∧ ∃ a, v = fa a (er 4)) ∨ (mayBe p = true ∧ HP.right h = false ∧ ∃ a c, v = fa a (fa c (er 3))) ∨ (mayBe p = true ∧ HP.right h = true ∧ p - 16 < (b.size : Int) ∧ ∃ a, v = fa a (er 8)) ∨ (mayBe p = true ∧ HP.right h = true ∧ ¬ p - 16 < (b.size : Int) ∧ v = .nilIface)

set_option maxHeartbeats 2000000 in
set_option maxRecDepth 100000 in
theorem sealable_any (h : HP.H) (b : ByteArray) (p : Int) (w : World) (hs : Sizes w) (hp : (Lit.int .i64 p).wf = true) (hb : b.size ≤ maxLen) :
    Calls Tryz.prog 61 #[hv h, .string b, .int .i64 p] w fun e w' => ∃ v, e = .returned v ∧ Below w.heap.size w w' ∧ Why h b p v := by
  have hpb := bounds_i64 hp
  unfold maxLen at hb
  have HZ : ∀ W, Sizes W → Calls Tryz.prog 32 #[.int .i64 p] W fun e w' => e = .returned (.bool (mayBe p)) ∧ W = w' := fun W hW => size_any p W hW
  have HF := Lib.hid (fields_any h)
  have HW := Lib.hid (within_any h)
  obtain ⟨bo, hbo⟩ : ∃ bo : Obj, bo = .cells #[.int .i64 h.k, .int .i64 h.l, .int .i64 h.c, .int .i64 h.r, .int .i64 h.s] 70 := ⟨_, rfl⟩
  have hs1 : Sizes (w.alloc (.cells #[.int .i64 h.k, .int .i64 h.l, .int .i64 h.c, .int .i64 h.r, .int .i64 h.s] 70)) := hs.alloc _
  have HB0 := Lib.hid (below_alloc w (.cells #[.int .i64 h.k, .int .i64 h.l, .int .i64 h.c, .int .i64 h.r, .int .i64 h.s] 70))
  clear hbo
  cases hm : mayBe p with
  | false =>
    have HZ2 := Lib.hid (HZ _ hs1)
    rw [hm] at HZ2
    have HM := Lib.hid hm
    clear HZ hm hs hs1 hp
    unfold hv
    go_enter Tryz.func61, Tryz.ntmps61
    go_wp2_with fail
    refine HZ2.out.mono ?_
    rintro e w1 ⟨rfl, rfl⟩
    go_wp2_with fail
    go_ret
    exact ⟨_, rfl, HB0.out, .inl ⟨HM.out, _, rfl⟩⟩
  | true =>
    have hpb2 := HP.mayBe_bd hm
    have HZ2 := Lib.hid (HZ _ hs1)
    rw [hm] at HZ2
    have HM := Lib.hid hm
    clear HZ hm hs hs1 hp
    obtain ⟨q, hq⟩ : ∃ q, HP.right h = q := ⟨_, rfl⟩
    rw [hq] at HW
    have HQ := Lib.hid hq
    clear hq
    unfold hv at *
    go_enter Tryz.func61, Tryz.ntmps61
    go_wp2_with fail
    refine HZ2.out.mono ?_
    rintro e w1 ⟨rfl, rfl⟩
    go_wp2_with fail
    refine (HF.out _).mono ?_
    rintro e w1 ⟨a, rfl, hL, hb1⟩
    have HB1 := Lib.hid (HB0.out.trans' hb1)
    clear hb1
    go_wp2_with fail
    refine (HW.out a _ hL).mono ?_
    rintro e w2 ⟨v, rfl, hb2, hv2⟩
    have HB2 := Lib.hid (HB1.out.trans' hb2)
    clear hb2 hL
    rcases hv2 with ⟨rfl, rfl⟩ | ⟨rfl, nm, rfl⟩
    · by_cases hbig : p - 16 < (b.size : Int)
      · have HG := Lib.hid hbig
        go_wp2_with fail
        go_ret
        exact ⟨_, rfl, HB2.out, .inr (.inr (.inl ⟨HM.out, HQ.out, HG.out, _, rfl⟩))⟩
      · have HG := Lib.hid hbig
        go_wp2_with fail
        go_ret
        exact ⟨_, rfl, HB2.out, .inr (.inr (.inr ⟨HM.out, HQ.out, Int.not_lt.2 HG.out, rfl⟩))⟩
    · unfold fa
      go_wp2_with fail
      go_ret
      exact ⟨_, rfl, HB2.out, .inr (.inl ⟨HM.out, HQ.out, _, nm, rfl⟩)⟩

theorem zeros_repeat (m : Nat) : Lib.repeatL [0] m = List.replicate m 0 := by
  have h := Lib.repeatL_replicate 0 1 m
  rw [Nat.mul_one] at h
  exact h
theorem repeat_zeros (n : Nat) (w : World) (hn : n ≤ 100000) :
    Calls Tryz.prog 95 #[.string ⟨#[0]⟩, .int .i64 n] w fun e w' => e = .returned (.string ⟨(List.replicate n (0 : UInt8)).toArray⟩) ∧ Below w.heap.size w w' := by
  refine (Tryz.strings_Repeat ⟨#[0]⟩ n w (by omega) (by show 1 * n ≤ _; omega)).mono fun e w' ⟨he, hw⟩ => ⟨?_, hw⟩
  rw [he, show (⟨#[0]⟩ : ByteArray).data.toList = [0] from rfl, zeros_repeat]

set_option maxHeartbeats 2000000 in
set_option maxRecDepth 100000 in
theorem sealed_any (h : HP.H) (b : ByteArray) (p : Nat) (w : World) (hr : HP.Ok h) (hb : b.size + 16 ≤ p) (hp : p ≤ 1024) :
    Calls Tryz.prog 63 #[hv h, .string b, .int .i64 p] w fun e w' => e = .returned (.string ⟨(HP.page (HP.front h) (HP.rest b.data.toList p)).toArray⟩) ∧ Below w.heap.size w w' := by
  have HFi := Lib.hid (fields_any h)
  have HLa := Lib.hid (laid_any h hr)
  obtain ⟨F, hF⟩ : ∃ F : ByteArray, ⟨(HP.front h).toArray⟩ = F := ⟨_, rfl⟩
  rw [hF] at HLa
  have sF : F.size = 12 := by rw [← hF]; simp [ByteArray.size, HP.front_length]
  obtain ⟨n, hn⟩ : ∃ n : Nat, n = p - 16 - b.size := ⟨_, rfl⟩
  have hn2 : (p : Int) - 16 - b.size = n := by omega
  obtain ⟨Z, hZ⟩ : ∃ Z : ByteArray, Z = ⟨(List.replicate n (0 : UInt8)).toArray⟩ := ⟨_, rfl⟩
  have HZ : Hid (∀ W, Calls Tryz.prog 95 #[.string ⟨#[0]⟩, .int .i64 n] W fun e w' => e = .returned (.string Z) ∧ Below W.heap.size W w') := Lib.hid (fun W => by have h := repeat_zeros n W (by omega); rw [hZ]; exact h)
  obtain ⟨R, hR⟩ : ∃ R, b ++ Z = R := ⟨_, rfl⟩
  have hRd : R = ⟨(HP.rest b.data.toList p).toArray⟩ := by
    rw [← hR, hZ]
    apply ByteArray.ext
    simp [HP.rest, hn]
  have sZ : Z.size = n := by rw [hZ]; simp [ByteArray.size]
  have sR : R.size = p - 16 := by rw [← hR, ByteArray.size_append]; omega
  obtain ⟨O, hO⟩ : ∃ O : ByteArray, O = ⟨(Lib.leBytes 4 0).toArray⟩ := ⟨_, rfl⟩
  have HO : Hid (∀ W, Calls Tryz.prog 86 #[.int .u32 0] W fun e w' => e = .returned (.string O) ∧ Below W.heap.size W w') := Lib.hid (fun W => by have h := four_any 0 W (by omega) (by omega); rw [hO]; exact h)
  have sO : O.size = 4 := by rw [hO, le4_size]
  obtain ⟨X, hX⟩ : ∃ X, F ++ O = X := ⟨_, rfl⟩
  have sX : X.size = 16 := by rw [← hX, ByteArray.size_append]; omega
  obtain ⟨Y, hY⟩ : ∃ Y, X ++ R = Y := ⟨_, rfl⟩
  have sY : Y.size = p := by rw [← hY, ByteArray.size_append]; omega
  obtain ⟨v, hv_⟩ : ∃ v : Nat, v = HP.crc (HP.front h) (HP.rest b.data.toList p) := ⟨_, rfl⟩
  have hvl : v < 4294967296 := by rw [hv_]; exact HP.crc_lt _ _
  have HSum : Hid (∀ W, Calls Tryz.prog 96 #[.string Y] W fun e w' => e = .returned (.int .u32 v) ∧ Below W.heap.size W w') := Lib.hid (fun W => by
    have h := table_any Y W (by unfold maxLen; omega)
    have e : SP.sum Y.data.toList = v := by
      rw [hv_, ← hY, ← hX, hRd, ← hF, hO]
      simp [HP.crc, Lib.leBytes]
    rwa [e] at h)
  obtain ⟨C, hC⟩ : ∃ C : ByteArray, C = ⟨(Lib.leBytes 4 v).toArray⟩ := ⟨_, rfl⟩
  have sC : C.size = 4 := by rw [hC, le4_size]
  have HC : Hid (∀ W, Calls Tryz.prog 86 #[.int .u32 (v : Int)] W fun e w' => e = .returned (.string C) ∧ Below W.heap.size W w') := Lib.hid (fun W => by have h := four_any (v : Int) W (by omega) (by omega); rw [hC]; exact h)
  obtain ⟨G, hG⟩ : ∃ G, F ++ C = G := ⟨_, rfl⟩
  have sG : G.size = 16 := by rw [← hG, ByteArray.size_append]; omega
  obtain ⟨E, hE⟩ : ∃ E, G ++ R = E := ⟨_, rfl⟩
  have hEd : E = ⟨(HP.page (HP.front h) (HP.rest b.data.toList p)).toArray⟩ := by
    rw [← hE, ← hG, hRd, hC, ← hF, hv_]
    apply ByteArray.ext
    simp [HP.page]
  rw [← hEd]
  have a3 : ¬ 9223372036854775807 < b.size + Z.size := by omega
  have a4 : ¬ 9223372036854775807 < F.size + O.size := by omega
  have a5 : ¬ 9223372036854775807 < X.size + R.size := by omega
  have a6 : ¬ 9223372036854775807 < F.size + C.size := by omega
  have a7 : ¬ 9223372036854775807 < G.size + R.size := by omega
  have hw1 : IntKind.i64.wrap ((p : Int) - 16) = (p : Int) - 16 := IntWalk.i64_in _ (by omega)
  have hw2 : IntKind.i64.wrap ((p : Int) - 16 - b.size) = n := by rw [hn2]; exact IntWalk.i64_in _ (by omega)
  have HB0 := Lib.hid (below_alloc w (.cells #[.int .i64 h.k, .int .i64 h.l, .int .i64 h.c, .int .i64 h.r, .int .i64 h.s] 70))
  clear hF hn hZ hRd sZ sR hO sO sX sY hv_ hvl hC sC sG hEd
  unfold hv at *
  go_enter Tryz.func63, Tryz.ntmps63
  go_wp2_with fail
  refine (HFi.out _).mono ?_
  rintro e w1 ⟨a, rfl, hL, hb1⟩
  have HB1 := Lib.hid (HB0.out.trans' hb1)
  clear hb1
  go_wp2_with fail
  refine (HLa.out a _ hL).mono ?_
  rintro e w2 ⟨rfl, hb2⟩
  have HB2 := Lib.hid (HB1.out.trans' hb2)
  clear hb2 hL
  go_wp2_with fail
  refine (HZ.out _).mono ?_
  rintro e w3 ⟨rfl, hb3⟩
  have HB3 := Lib.hid (HB2.out.trans' hb3)
  clear hb3
  go_wp2_with fail
  refine (HO.out _).mono ?_
  rintro e w4 ⟨rfl, hb4⟩
  have HB4 := Lib.hid (HB3.out.trans' hb4)
  clear hb4
  go_wp2_with fail
  refine (HSum.out _).mono ?_
  rintro e w5 ⟨rfl, hb5⟩
  have HB5 := Lib.hid (HB4.out.trans' hb5)
  clear hb5
  go_wp2_with fail
  refine (HC.out _).mono ?_
  rintro e w6 ⟨rfl, hb6⟩
  have HB6 := Lib.hid (HB5.out.trans' hb6)
  clear hb6
  go_wp2_with fail
  go_ret
  exact ⟨rfl, HB6.out⟩

theorem jx0 : ∀ W : World, (Instr.index 103 (.agg #[.int .i64 4, .int .i64 3, .int .i64 8]) (.int .i64 0)).run Tryz.prog W = .ok (.int .i64 4) W := fun W => by kernel_rfl
theorem jx1 : ∀ W : World, (Instr.index 103 (.agg #[.int .i64 4, .int .i64 3, .int .i64 8]) (.int .i64 1)).run Tryz.prog W = .ok (.int .i64 3) W := fun W => by kernel_rfl
theorem jx2 : ∀ W : World, (Instr.index 103 (.agg #[.int .i64 4, .int .i64 3, .int .i64 8]) (.int .i64 2)).run Tryz.prog W = .ok (.int .i64 8) W := fun W => by kernel_rfl

set_option maxHeartbeats 4000000 in
set_option maxRecDepth 100000 in
theorem seal_any (h : HP.H) (b : ByteArray) (p : Int) (w : World) (hs : Sizes w) (hp : (Lit.int .i64 p).wf = true) (hb : b.size ≤ maxLen) :
    Calls Tryz.prog 35 #[hv h, .string b, .int .i64 p] w fun e w' => e = .returned (.tuple #[.string (HP.sea h b p).1, .int .i64 (HP.sea h b p).2]) ∧ Below w.heap.size w w' := by
  have HB0 := Lib.hid (below_alloc w (.cells #[.int .i64 h.k, .int .i64 h.l, .int .i64 h.c, .int .i64 h.r, .int .i64 h.s] 70))
  have HSE := Lib.hid (sealable_any h b p _ (hs.alloc (.cells #[.int .i64 h.k, .int .i64 h.l, .int .i64 h.c, .int .i64 h.r, .int .i64 h.s] 70)) hp hb)
  have hbx := heap_alloc_new w (.cells #[.int .i64 h.k, .int .i64 h.l, .int .i64 h.c, .int .i64 h.r, .int .i64 h.s] 70)
  obtain ⟨x0, x1, x2, x3, x4⟩ := Bx.cells (h := h) (t := 70) hbx
  have HBX : Hid (Bx 70 w.heap.size h (w.alloc (.cells #[.int .i64 h.k, .int .i64 h.l, .int .i64 h.c, .int .i64 h.r, .int .i64 h.s] 70))) := Lib.hid hbx
  obtain ⟨S1, hS1⟩ : ∃ x, (HP.sea h b p).1 = x := ⟨_, rfl⟩
  obtain ⟨e1, he1⟩ : ∃ x, (HP.sea h b p).2 = x := ⟨_, rfl⟩
  have HSe : Hid (HP.sea h b p = (S1, e1)) := Lib.hid (by rw [← hS1, ← he1])
  rw [hS1, he1]
  clear hS1 he1
  have jx0 := jx0
  have jx1 := jx1
  have jx2 := jx2
  clear hs hp hbx
  unfold hv at *
  generalize hw0 : w.alloc (.cells #[.int .i64 h.k, .int .i64 h.l, .int .i64 h.c, .int .i64 h.r, .int .i64 h.s] 70) = W0 at *
  go_enter Tryz.func35, Tryz.ntmps35
  go_wp2_with fail
  refine HSE.out.mono ?_
  rintro e w1 ⟨v, rfl, hb1, hwhy⟩
  have hbx1 := HBX.out.below hb1
  have HB1 := Lib.hid (HB0.out.trans' hb1)
  clear hb1 x0 x1 x2 x3 x4 HSE
  rcases hwhy with ⟨hm, a, rfl⟩ | ⟨hm, hr, a, c, rfl⟩ | ⟨hm, hr, hg, a, rfl⟩ | ⟨hm, hr, hg, rfl⟩
  · obtain ⟨rfl, rfl⟩ := Prod.mk.inj (HSe.out.symm.trans (HP.seal_arg h b hm))
    have HI := Lib.hid (Is_fa1 a 4)
    clear hm hbx1
    unfold er at *
    go_wp2_with fail
    refine wp_loop_rounds 4 ?_
    rw [rounds_succ]
    go_wp2_with fail
    refine (HI.out _ _).mono ?_
    rintro e w2 ⟨rfl, hb2⟩
    have HB2 := Lib.hid (HB1.out.trans' hb2)
    clear hb2
    go_wp2_with fail
    go_ret2
    exact ⟨rfl, HB2.out⟩
  · obtain ⟨rfl, rfl⟩ := Prod.mk.inj (HSe.out.symm.trans (HP.seal_form b hm hr))
    have HI := Lib.hid (Is_fa2 a c 3)
    clear hm hr hbx1
    unfold er at *
    go_wp2_with fail
    refine wp_loop_rounds 4 ?_
    rw [rounds_succ]
    go_wp2_with fail
    refine (HI.out _ _).mono ?_
    rintro e w2 ⟨rfl, hb2⟩
    have HB2 := Lib.hid (HB1.out.trans' hb2)
    clear hb2
    go_wp2_with fail
    rw [rounds_succ]
    go_wp2_with fail
    refine (HI.out _ _).mono ?_
    rintro e w3 ⟨rfl, hb3⟩
    have HB3 := Lib.hid (HB2.out.trans' hb3)
    clear hb3
    go_wp2_with fail
    go_ret2
    exact ⟨rfl, HB3.out⟩
  · obtain ⟨rfl, rfl⟩ := Prod.mk.inj (HSe.out.symm.trans (HP.seal_big hm hr hg))
    have HI := Lib.hid (Is_fa1 a 8)
    clear hm hr hg hbx1
    unfold er at *
    go_wp2_with fail
    refine wp_loop_rounds 4 ?_
    rw [rounds_succ]
    go_wp2_with fail
    refine (HI.out _ _).mono ?_
    rintro e w2 ⟨rfl, hb2⟩
    have HB2 := Lib.hid (HB1.out.trans' hb2)
    clear hb2
    go_wp2_with fail
    rw [rounds_succ]
    go_wp2_with fail
    refine (HI.out _ _).mono ?_
    rintro e w3 ⟨rfl, hb3⟩
    have HB3 := Lib.hid (HB2.out.trans' hb3)
    clear hb3
    go_wp2_with fail
    rw [rounds_succ]
    go_wp2_with fail
    refine (HI.out _ _).mono ?_
    rintro e w4 ⟨rfl, hb4⟩
    have HB4 := Lib.hid (HB3.out.trans' hb4)
    clear hb4
    go_wp2_with fail
    go_ret2
    exact ⟨rfl, HB4.out⟩
  · obtain ⟨hS, rfl⟩ := Prod.mk.inj (HSe.out.symm.trans (HP.seal_good hm hr hg))
    have hpb := HP.mayBe_bd hm
    obtain ⟨q, rfl⟩ := Int.eq_ofNat_of_zero_le (show 0 ≤ p by omega)
    have HSD := Lib.hid (fun W => sealed_any h b q W (HP.right_iff.1 hr) (by omega) (by omega))
    unfold hv at HSD
    rw [Int.toNat_natCast] at hS
    rw [← hS] at HSD
    clear hS
    have HI := Lib.hid Is_nil
    obtain ⟨x0, x1, x2, x3, x4⟩ := hbx1.cells
    clear hm hr hg hbx1 hpb
    unfold er at *
    go_wp2_with fail
    refine wp_loop_rounds 4 ?_
    rw [rounds_succ]
    go_wp2_with fail
    refine (HI.out _ _).mono ?_
    rintro e w2 ⟨rfl, rfl⟩
    go_wp2_with fail
    rw [rounds_succ]
    go_wp2_with fail
    refine (HI.out _ _).mono ?_
    rintro e w3 ⟨rfl, rfl⟩
    go_wp2_with fail
    rw [rounds_succ]
    go_wp2_with fail
    refine (HI.out _ _).mono ?_
    rintro e w4 ⟨rfl, rfl⟩
    go_wp2_with fail
    rw [rounds_succ]
    go_wp2_with fail
    refine (HSD.out _).mono ?_
    rintro e w5 ⟨rfl, hb5⟩
    have HB5 := Lib.hid (HB1.out.trans' hb5)
    clear hb5
    go_wp2_with fail
    go_ret2
    exact ⟨rfl, HB5.out⟩
end Go.Proofs.YtembccehokodeaaGreatDoor.L7

namespace Go.Proofs.YtembccehokodeaaGreatDoor.L7
open Go.RowKit
set_option linter.unusedVariables false
set_option linter.unusedSimpArgs false

theorem mask32 (v : Nat) (h : v < 4294967296) : bits .and .u32 (v : Int) 255 = ((v % 256 : Nat) : Int) := by
  have e := u32_and_nat v 255 h (by omega)
  rw [show (255 : Int) = ((255 : Nat) : Int) from rfl, e, show (255 : Nat) = 2 ^ 8 - 1 from rfl, Nat.and_two_pow_sub_one_eq_mod]
theorem headOf_num (s : List UInt8) (hs : 12 ≤ s.length) : HP.headOf s = ⟨((Lib.leNat (s.take 4) % 256 : Nat) : Int), ((Lib.leNat (s.take 4) / 256 % 256 : Nat) : Int), ((Lib.leNat (s.take 4) / 65536 : Nat) : Int), ((Lib.leNat ((s.drop 4).take 4) : Nat) : Int), ((Lib.leNat ((s.drop 8).take 4) : Nat) : Int)⟩ := by
  obtain ⟨a, b, c, d, t, rfl⟩ : ∃ a b c d t, s = a :: b :: c :: d :: t := by
    match s, hs with
    | a :: b :: c :: d :: t, _ => exact ⟨a, b, c, d, t, rfl⟩
  have e0 : Lib.leNat ((a :: b :: c :: d :: t).take 4) = a.toNat + 256 * (b.toNat + 256 * (c.toNat + 256 * d.toNat)) := by
    simp [Lib.leNat]
  have ha := a.toNat_lt
  have hb := b.toNat_lt
  have hc := c.toNat_lt
  have hd := d.toNat_lt
  unfold HP.headOf
  rw [e0]
  simp only [List.getD_cons_zero, List.getD_cons_succ]
  congr 1 <;> omega

set_option maxHeartbeats 2000000 in
set_option maxRecDepth 100000 in
theorem headRead_any (s : ByteArray) (w : World) (h1 : 128 ≤ s.size) (h2 : s.size ≤ 1024) :
    Calls Tryz.prog 99 #[.string s] w fun e w' => e = .returned (hv (HP.headOf s.data.toList)) ∧ Below w.heap.size w w' := by
  rw [headOf_num s.data.toList (by simp; omega)]
  have HR0 := Lib.hid (fun W => read_any s 0 W (by omega) (by omega) (by unfold maxLen; omega))
  have HR4 := Lib.hid (fun W => read_any s 4 W (by omega) (by omega) (by unfold maxLen; omega))
  have HR8 := Lib.hid (fun W => read_any s 8 W (by omega) (by omega) (by unfold maxLen; omega))
  rw [show ((0 : Int)).toNat = 0 from rfl, List.drop_zero] at HR0
  rw [show ((4 : Int)).toNat = 4 from rfl] at HR4
  rw [show ((8 : Int)).toNat = 8 from rfl] at HR8
  have b0 : Lib.leNat (s.data.toList.take 4) < 4294967296 := Nat.lt_of_lt_of_le (WP.leNat_lt _) (by rw [show (4294967296 : Nat) = 256 ^ 4 from rfl]; exact Nat.pow_le_pow_right (by omega) (by simp; omega))
  have b4 : Lib.leNat ((s.data.toList.drop 4).take 4) < 4294967296 := Nat.lt_of_lt_of_le (WP.leNat_lt _) (by rw [show (4294967296 : Nat) = 256 ^ 4 from rfl]; exact Nat.pow_le_pow_right (by omega) (by simp; omega))
  have b8 : Lib.leNat ((s.data.toList.drop 8).take 4) < 4294967296 := Nat.lt_of_lt_of_le (WP.leNat_lt _) (by rw [show (4294967296 : Nat) = 256 ^ 4 from rfl]; exact Nat.pow_le_pow_right (by omega) (by simp; omega))
  generalize Lib.leNat (s.data.toList.take 4) = n at *
  generalize Lib.leNat ((s.data.toList.drop 4).take 4) = r at *
  generalize Lib.leNat ((s.data.toList.drop 8).take 4) = f at *
  have m0 : bits .and .u32 (n : Int) 255 = (n : Int) % 256 := by rw [mask32 n b0]; omega
  have m1 : bits .and .u32 ((n : Int) / 256) 255 = (n : Int) / 256 % 256 := by
    have e := mask32 (n / 256) (by omega)
    rw [show ((n / 256 : Nat) : Int) = (n : Int) / 256 by omega] at e
    rw [e]
    omega
  have m2 : bits .and .u32 ((n : Int) / 256 % 4294967296) 255 = (n : Int) / 256 % 256 := by
    rw [Int.emod_eq_of_lt (by omega) (by omega)]; exact m1
  unfold hv
  go_enter Tryz.func99, Tryz.ntmps99
  go_wp2_with fail
  refine (HR0.out _).mono ?_
  rintro e w1 ⟨rfl, rfl⟩
  go_wp2_with fail
  refine (HR4.out _).mono ?_
  rintro e w1 ⟨rfl, rfl⟩
  go_wp2_with fail
  refine (HR8.out _).mono ?_
  rintro e w1 ⟨rfl, rfl⟩
  go_wp2_with fail
  refine bodyPost_ret (v := .agg #[.int .i64 ((n : Int) % 256), .int .i64 ((n : Int) / 256 % 256), .int .i64 ((n : Int) / 65536), .int .i64 r, .int .i64 f]) (by simp [results, Tryz.results99, go_sem]) rfl ⟨?_, ?_⟩
  · rw [show ((n % 256 : Nat) : Int) = (n : Int) % 256 by omega, show ((n / 256 % 256 : Nat) : Int) = (n : Int) / 256 % 256 by omega, show ((n / 65536 : Nat) : Int) = (n : Int) / 65536 by omega]
  · exact below_alloc _ _
end Go.Proofs.YtembccehokodeaaGreatDoor.L7

namespace Go.Proofs.YtembccehokodeaaGreatDoor.L8
open Go.Proofs.YtembccehokodeaaGreatDoor.L5
open Go.RowKit
set_option linter.unusedVariables false
set_option linter.unusedSimpArgs false

def cutB (b : ByteArray) (i : Nat) : ByteArray := b.extract (LP.at_ (B b) i) (LP.at_ (B b) (i + 1))
def cellsB (b : ByteArray) (n : Nat) : List ByteArray := (List.range n).map (cutB b)
theorem cellsB_length (b : ByteArray) (n : Nat) : (cellsB b n).length = n := by simp [cellsB]
theorem cellsB_succ (b : ByteArray) (n : Nat) : cellsB b (n + 1) = cellsB b n ++ [cutB b n] := by simp [cellsB, List.range_succ]
theorem bs_cellsB (b : ByteArray) (n : Nat) : Bs (cellsB b n) = LP.cells (B b) n := by
  simp only [Bs, cellsB, LP.cells, List.map_map]
  congr 1
  funext i
  exact b_extract b _ _
theorem cellsB_size (b : ByteArray) (n : Nat) : ∀ s ∈ cellsB b n, s.size ≤ b.size := fun s hs => by
  obtain ⟨i, _, rfl⟩ := List.mem_map.1 hs
  simp only [cutB, ByteArray.size_extract]
  omega
/-- The places of a body that is one rise, and stay in it. -/
theorem good_at {b : List UInt8} {k n : Nat} (hb : b.length < 65536) (h : LP.good b k n) (i : Nat) (hi : i < n) : LP.at_ b i ≤ LP.at_ b (i + 1) ∧ LP.at_ b (i + 1) ≤ b.length := by
  obtain ⟨h1, h2, h3⟩ := h
  have hk : (b.take k).length = k := by rw [List.length_take]; omega
  have hn : (LP.cells b n).length = n := LP.cells_length b n
  have e1 := LP.at_pack b.length (b.take k) (LP.cells b n) hb (by rw [hk]; exact h2) i (by omega)
  have e2 := LP.at_pack b.length (b.take k) (LP.cells b n) hb (by rw [hk]; exact h2) (i + 1) (by omega)
  rw [h3, hk] at e1 e2
  have h4 := LP.sum_take_succ (LP.cells b n) i (by omega)
  have h5 := LP.sum_take_le (LP.cells b n) (i + 1)
  unfold LP.need at h2
  unfold LP.place at e1 e2
  omega
theorem good_few {b : List UInt8} {k n : Nat} (h : LP.good b k n) : k + 2 + 2 * n ≤ b.length := by
  have h2 := h.2.1
  unfold LP.need at h2
  rw [LP.cells_length] at h2
  omega
/-- A body is what is packed of its cells, or is none. -/
theorem unpack_end (b : ByteArray) (k n : Nat) (hb : b.size ≤ 65535) (hk : k ≤ b.size) :
    (LP.good (B b) k n ∧ packV b.size (b.extract 0 k) (cellsB b n) = .tuple #[.string b, .int .i64 0]) ∨
    (¬ LP.good (B b) k n ∧ packV b.size (b.extract 0 k) (cellsB b n) = .tuple #[.string ⟨#[]⟩, .int .i64 8]) ∨
    (¬ LP.good (B b) k n ∧ ∃ P : ByteArray, P ≠ b ∧ packV b.size (b.extract 0 k) (cellsB b n) = .tuple #[.string P, .int .i64 0]) := by
  have hf : B (b.extract 0 k) = (B b).take k := by rw [b_extract]; simp
  have hfs : (b.extract 0 k).size = k := by simp; omega
  have hbl : (B b).length = b.size := b_size b
  unfold packV packS
  rw [if_neg (by omega), hfs, bs_cellsB, hf, Int.toNat_natCast]
  by_cases h1 : (b.size : Int) < (LP.need k (LP.cells (B b) n) : Nat)
  · right; left
    refine ⟨fun h => ?_, by rw [if_pos h1]⟩
    have := h.2.1
    omega
  · rw [if_neg h1]
    by_cases h2 : LP.pack b.size ((B b).take k) (LP.cells (B b) n) = B b
    · left
      refine ⟨⟨by omega, by omega, by rw [hbl]; exact h2⟩, ?_⟩
      rw [h2]
    · right; right
      refine ⟨fun h => h2 (by have := h.2.2; rwa [hbl] at this), _, fun e => h2 ?_, rfl⟩
      have e3 := congrArg B e
      simpa [B] using e3

/-- What Unpack answers. -/
def Unp (b : ByteArray) (k n : Int) (w : World) (e : Ending) (w' : World) : Prop :=
  ((k < 0 ∨ n < 0 ∨ 65535 < b.size) ∧ e = .returned (.tuple #[.slice none 0 0, .int .i64 4])) ∨
  (¬ (k < 0 ∨ n < 0 ∨ 65535 < b.size) ∧ ¬ LP.good (B b) k.toNat n.toNat ∧ e = .returned (.tuple #[.slice none 0 0, .int .i64 3])) ∨
  (¬ (k < 0 ∨ n < 0 ∨ 65535 < b.size) ∧ LP.good (B b) k.toNat n.toNat ∧ ∃ g cap, e = .returned (.tuple #[.slice (some ⟨g, 0, none⟩) n.toNat cap, .int .i64 0]) ∧ w.heap.size ≤ g ∧ n.toNat ≤ cap ∧ Lies w' w'.heap.size (some ⟨g, 0, none⟩) (cellsB b n.toNat))
theorem own_block {w : World} {base e n g cap : Nat} {xs : List Value} (h : w.ownsRow base e 1 (.slice (some ⟨g, 0, none⟩) n cap) n xs) (hn : 0 < n) : base ≤ g := by
  rcases h.2 with ⟨_, h0⟩ | ⟨g', c, cur, e, hb, _⟩
  · omega
  · simp only [Value.slice.injEq, Option.some.injEq, Addr.mk.injEq] at e
    omega

set_option maxHeartbeats 2000000 in
set_option maxRecDepth 100000 in
theorem unpack8_any (b : ByteArray) (kf n : Int) (w : World) (hk : (Lit.int .i64 kf).wf = true) (hn : (Lit.int .i64 n).wf = true) (hb : b.size ≤ maxLen) :
    Calls Tryz.prog 41 #[.string b, .int .i64 kf, .int .i64 n] w fun e w' => Unp b kf n w e w' ∧ Below w.heap.size w w' := by
  unfold maxLen at hb
  by_cases a1 : kf < 0
  · have HU := Lib.hid (fun e w' (h : e = .returned (.tuple #[.slice none 0 0, .int .i64 4])) => (.inl ⟨.inl a1, h⟩ : Unp b kf n w e w'))
    clear hk hn
    go_enter Tryz.func41, Tryz.ntmps41
    go_wp2_with fail
    go_ret2
    exact ⟨HU.out _ _ rfl, Below.refl _ _⟩
  by_cases a2 : n < 0
  · have HU := Lib.hid (fun e w' (h : e = .returned (.tuple #[.slice none 0 0, .int .i64 4])) => (.inl ⟨.inr (.inl a2), h⟩ : Unp b kf n w e w'))
    clear hk hn
    go_enter Tryz.func41, Tryz.ntmps41
    go_wp2_with fail
    go_ret2
    exact ⟨HU.out _ _ rfl, Below.refl _ _⟩
  by_cases a3 : 65535 < b.size
  · have HU := Lib.hid (fun e w' (h : e = .returned (.tuple #[.slice none 0 0, .int .i64 4])) => (.inl ⟨.inr (.inr a3), h⟩ : Unp b kf n w e w'))
    have d1 : decide (65535 < b.size) = true := decide_eq_true a3
    have d2 : decide ((65535 : Int) < (b.size : Int)) = true := decide_eq_true (by omega)
    clear hk hn
    go_enter Tryz.func41, Tryz.ntmps41
    go_wp2_with fail
    go_ret2
    exact ⟨HU.out _ _ rfl, Below.refl _ _⟩
  obtain ⟨k, rfl⟩ := Int.eq_ofNat_of_zero_le (show 0 ≤ kf by omega)
  obtain ⟨n, rfl⟩ := Int.eq_ofNat_of_zero_le (show 0 ≤ n by omega)
  have hno : ¬ ((k : Int) < 0 ∨ (n : Int) < 0 ∨ 65535 < b.size) := by omega
  have HBAD : Hid (¬ LP.good (B b) k n → ∀ e w', e = .returned (.tuple #[.slice none 0 0, .int .i64 3]) → Unp b k n w e w') := Lib.hid (fun hg e w' h => .inr (.inl ⟨hno, hg, h⟩))
  have HOK : Hid (LP.good (B b) k n → ∀ w' g cap, w.heap.size ≤ g → n ≤ cap → Lies w' w'.heap.size (some ⟨g, 0, none⟩) (cellsB b n) → Unp b k n w (.returned (.tuple #[.slice (some ⟨g, 0, none⟩) n cap, .int .i64 0])) w') := Lib.hid (fun hg w' g cap h1 h2 h3 => .inr (.inr ⟨hno, hg, g, cap, rfl, h1, h2, h3⟩))
  have hbl : (B b).length = b.size := b_size b
  have d1 : decide (65535 < b.size) = false := decide_eq_false a3
  have d2 : decide ((65535 : Int) < (b.size : Int)) = false := decide_eq_false (by omega)
  clear hno hk hn
  by_cases c1 : b.size < k
  · have HB2 := Lib.hid (HBAD.out (fun h => by have := h.1; omega))
    have d3 : decide (b.size < k) = true := decide_eq_true c1
    have d4 : decide ((b.size : Int) < (k : Int)) = true := decide_eq_true (by omega)
    clear HBAD HOK hbl
    go_enter Tryz.func41, Tryz.ntmps41
    go_wp2_with fail
    go_ret2
    exact ⟨HB2.out _ _ rfl, Below.refl _ _⟩
  have d3 : decide (b.size < k) = false := decide_eq_false c1
  have d4 : decide ((b.size : Int) < (k : Int)) = false := decide_eq_false (by omega)
  by_cases c2 : b.size / 2 ≤ n
  · have HB2 := Lib.hid (HBAD.out (fun h => by have := good_few h; omega))
    have d5 : decide (b.size / 2 ≤ n) = true := decide_eq_true c2
    have d6 : decide ((b.size : Int) / 2 ≤ (n : Int)) = true := decide_eq_true (by omega)
    clear HBAD HOK hbl
    go_enter Tryz.func41, Tryz.ntmps41
    go_wp2_with fail
    go_ret2
    exact ⟨HB2.out _ _ rfl, Below.refl _ _⟩
  have d5 : decide (b.size / 2 ≤ n) = false := decide_eq_false c2
  have d6 : decide ((b.size : Int) / 2 ≤ (n : Int)) = false := decide_eq_false (by omega)
  obtain ⟨i0, hi, hz0, hz1, hz2⟩ := info_parts Tryz.infoStr
  go_enter Tryz.func41, Tryz.ntmps41
  go_wp2_with fail
  go_loopw [8, 9] (fun ov iv wr => ∃ (i g cap : Nat), i ≤ n ∧ iv = .int .i64 i ∧ ov = .slice (some ⟨g, 0, none⟩) i cap ∧ Hid (Owns wr w.heap.size (.slice (some ⟨g, 0, none⟩) i cap) i (cellsB b i)) ∧ w.heap.size ≤ g ∧ i ≤ cap ∧ Below w.heap.size w wr) (fun _ iv _ => n - (intOf iv).toNat)
  case atStart => exact ⟨0, w.heap.size, 0, by omega, rfl, rfl, Lib.hid (own_empty w _), Nat.le_refl _, by omega, below_alloc _ _⟩
  case round =>
    obtain ⟨i, g, cap, hin, rfl, rfl, HO, hg, hcap, hbw⟩ := hrel
    have hbs := hbw.size
    by_cases hlt : i < n
    · obtain ⟨p, hp⟩ : ∃ p, LP.at_ (B b) i = p := ⟨_, rfl⟩
      obtain ⟨q, hq⟩ : ∃ q, LP.at_ (B b) (i + 1) = q := ⟨_, rfl⟩
      have HA1 := Lib.hid (fun W => at_any b i W (by omega) (by omega))
      have HA2 := Lib.hid (fun W => at_any b (i + 1) W (by omega) (by omega))
      rw [hp] at HA1
      rw [hq] at HA2
      have HW1 : IntKind.i64.wrap ((i : Int) + 1) = (i : Int) + 1 := IntWalk.i64_in _ (by omega)
      have e1 : (((i + 1 : Nat)) : Int) = (i : Int) + 1 := by omega
      rw [e1] at HA2
      have hB : (B b).length < 65536 := by omega
      by_cases hpq : p ≤ q ∧ q ≤ b.size
      · obtain ⟨c, hc⟩ : ∃ c, b.extract p q = c := ⟨_, rfl⟩
        have HC := Lib.hid (show cellsB b (i + 1) = cellsB b i ++ [c] by rw [cellsB_succ, cutB, hp, hq, hc])
        have d7 : decide (q < p) = false := decide_eq_false (by omega)
        have d8 : decide ((q : Int) < (p : Int)) = false := decide_eq_false (by omega)
        have d9 : decide (b.size < q) = false := decide_eq_false (by omega)
        have d10 : decide ((b.size : Int) < (q : Int)) = false := decide_eq_false (by omega)
        have j1 : (0 : Int) ≤ (p : Int) ∧ (p : Int) ≤ (q : Int) ∧ (q : Int) ≤ (b.size : Int) := by omega
        have j2 : p ≤ q := hpq.1
        have j3 : q ≤ b.size := hpq.2
        clear hp hq hpq hB
        go_wp2_with fail
        refine (HA1.out _).mono ?_
        rintro e w1 ⟨rfl, hb1⟩
        go_wp2_with fail
        refine (HA2.out _).mono ?_
        rintro e w2 ⟨rfl, hb2⟩
        have hO2 := own_below (own_below HO.out hb1) hb2
        have hbw2 := (hbw.trans' hb1).trans' hb2
        have hbs2 := hbw2.size
        go_wp2_with (first
          | (at_builtin; refine wpList_append_lies _ rfl _ _ 23 rfl w.heap.size 9 i0 (.string ⟨#[]⟩) 1 16 Tryz.underlying23 hi hz0 hz1 hz2 rfl (by decide) (.slice (some ⟨g, 0, none⟩) i cap) i _ rfl (hO2.alloc _) ⟨w2.heap.size, 0, none⟩ 1 1 [.string c] rfl rfl (World.news_of_block (cs := #[.string c]) (t := 9) (fr := (0, 0)) (heap_alloc_new w2 _)) (by simp [Value.oneCell']) (by omega) (by unfold maxLen; omega) (by omega) (by simp; omega) (w2.heap.size + 1) (by simp) ?_; intro g' cap' w3 hown1 hgrow hat hlt1))
        have hg' : w.heap.size ≤ g' := own_block hown1 (by omega)
        have hcap' := own_cap hown1
        have hb3 : Below w.heap.size w w3 := (hbw2.trans' (below_alloc w2 (.cells #[.string c] 9))).trans (own_apart (hO2.alloc _) hgrow (Nat.le_refl _) (by simp; omega))
        clear hat hlt1
        go_roundw
        case rel => exact ⟨i + 1, g', cap', by omega, by go_num, rfl, Lib.hid (by rw [HC.out, Owns, strCells_snoc]; exact hown1), hg', hcap', hb3⟩
        case measure => simp [intOf]; omega
      · have HB2 := Lib.hid (HBAD.out (fun h => by
          have := good_at hB h i hlt
          rw [hp, hq, hbl] at this
          exact hpq this))
        clear hp hq HBAD HOK hB
        by_cases h7 : q < p
        · have d7 : decide (q < p) = true := decide_eq_true h7
          have d8 : decide ((q : Int) < (p : Int)) = true := decide_eq_true (by omega)
          clear hpq
          go_wp2_with fail
          refine (HA1.out _).mono ?_
          rintro e w1 ⟨rfl, hb1⟩
          go_wp2_with fail
          refine (HA2.out _).mono ?_
          rintro e w2 ⟨rfl, hb2⟩
          go_wp2_with fail
          go_ret2
          exact ⟨HB2.out _ _ rfl, (hbw.trans' hb1).trans' hb2⟩
        · have d7 : decide (q < p) = false := decide_eq_false h7
          have d8 : decide ((q : Int) < (p : Int)) = false := decide_eq_false (by omega)
          have d9 : decide (b.size < q) = true := decide_eq_true (by omega)
          have d10 : decide ((b.size : Int) < (q : Int)) = true := decide_eq_true (by omega)
          clear hpq
          go_wp2_with fail
          refine (HA1.out _).mono ?_
          rintro e w1 ⟨rfl, hb1⟩
          go_wp2_with fail
          refine (HA2.out _).mono ?_
          rintro e w2 ⟨rfl, hb2⟩
          go_wp2_with fail
          go_ret2
          exact ⟨HB2.out _ _ rfl, (hbw.trans' hb1).trans' hb2⟩
    · obtain rfl : i = n := by omega
      have hlen := cellsB_length b i
      have HL := lies_own HO.out hlen.symm
      obtain ⟨f, hf⟩ : ∃ f, b.extract 0 k = f := ⟨_, rfl⟩
      have sf : f.size = k := by rw [← hf]; simp; omega
      have HPK := Lib.hid (by have h := pack8_any (b.size : Int) f (some ⟨g, 0, none⟩) (cellsB b i) cap wr HL (by rw [hlen]; omega) (by omega) (fun s hs => Nat.le_trans (cellsB_size b i s hs) (by omega)); rw [hlen] at h; exact h)
      have hend := unpack_end b k i (by omega) (by omega)
      rw [hf] at hend
      have HLL := Lib.hid HL
      have d11 : decide ((i : Int) < (i : Int)) = false := decide_eq_false (by omega)
      have j1 : (0 : Int) ≤ (k : Int) ∧ (k : Int) ≤ (b.size : Int) := by omega
      have j2 : k ≤ b.size := by omega
      have hss : (b.toList == b.toList) = true := beq_self_eq_true _
      rcases hend with ⟨hgd, hv⟩ | ⟨hgd, hv⟩ | ⟨hgd, P, hne, hv⟩
      · rw [hv] at HPK
        have HO2 := Lib.hid (HOK.out hgd)
        clear hv hgd HBAD HOK hlen HL sf
        go_wp2_with fail
        refine HPK.out.mono ?_
        rintro e w1 ⟨rfl, hb1⟩
        go_wp2_with fail
        go_ret2
        exact ⟨HO2.out _ _ _ hg hcap (HLL.out.on hb1), hbw.trans' hb1⟩
      · rw [hv] at HPK
        have HB2 := Lib.hid (HBAD.out hgd)
        clear hv hgd HBAD HOK hlen HL sf
        go_wp2_with fail
        refine HPK.out.mono ?_
        rintro e w1 ⟨rfl, hb1⟩
        go_wp2_with fail
        go_ret2
        exact ⟨HB2.out _ _ rfl, hbw.trans' hb1⟩
      · rw [hv] at HPK
        have HB2 := Lib.hid (HBAD.out hgd)
        have hneq : (P.toList == b.toList) = false := by
          rw [Lib.toList_data, Lib.toList_data]
          exact beq_eq_false_iff_ne.2 fun e => hne (ByteArray.ext (Array.toList_inj.1 e))
        clear hv hgd HBAD HOK hlen HL sf hne
        go_wp2_with fail
        refine HPK.out.mono ?_
        rintro e w1 ⟨rfl, hb1⟩
        go_wp2_with fail
        go_ret2
        exact ⟨HB2.out _ _ rfl, hbw.trans' hb1⟩
end Go.Proofs.YtembccehokodeaaGreatDoor.L8

namespace Go.Proofs.YtembccehokodeaaGreatDoor.L8
open Go.Proofs.YtembccehokodeaaGreatDoor.L5
open Go.RowKit
set_option linter.unusedVariables false
set_option linter.unusedSimpArgs false

theorem num2_at (b : List UInt8) (i : Nat) (h : 2 * i + 2 ≤ b.length) : num2 b (b.length - 2 * i - 2) = LP.at_ b i := by
  unfold num2 LP.at_
  rw [show b.length - 2 * i - 2 + 1 = b.length - 2 * i - 1 by omega]
/-- The row of cells, k of which are cut. -/
def cutTo8 (b : ByteArray) (n k : Nat) : List Value := strCells (cellsB b k) ++ List.replicate (n - k) (.string ⟨#[]⟩)
theorem cutTo8_zero (b : ByteArray) (n : Nat) : cutTo8 b n 0 = List.replicate n (.string ⟨#[]⟩) := by simp [cutTo8, strCells, cellsB]
theorem cutTo8_full (b : ByteArray) (n : Nat) : cutTo8 b n n = strCells (cellsB b n) := by simp [cutTo8]
theorem cutTo8_set (b : ByteArray) (n k : Nat) (h : k < n) : (cutTo8 b n k).set k (.string (cutB b k)) = cutTo8 b n (k + 1) := by
  have hlen : (strCells (cellsB b k)).length = k := by rw [strCells_length, cellsB_length]
  rw [cutTo8, List.set_append_right _ _ (by omega), hlen, Nat.sub_self, cutTo8, cellsB_succ, show n - k = (n - (k + 1)) + 1 by omega, List.replicate_succ, List.set_cons_zero]
  simp [strCells]
theorem cutTo8_at (b : ByteArray) (n k : Nat) (h : k < n) : (cutTo8 b n k)[k]? = some (.string ⟨#[]⟩) := by
  have hlen : (strCells (cellsB b k)).length = k := by rw [strCells_length, cellsB_length]
  rw [cutTo8, List.getElem?_append_right (by omega), hlen, Nat.sub_self, List.getElem?_replicate, if_pos (by omega)]
theorem made_blank (m : Nat) : (madeCells (Value.string ⟨#[]⟩).cells (m * 1)).toList = List.replicate m (.string ⟨#[]⟩) := by
  apply List.ext_getElem
  · simp [madeCells]
  · intro i h1 h2
    simp [madeCells, Value.cells, Nat.mod_one]
/-- A part of a row of bytes, as a text. -/
theorem conv_part {P : Program} {w : World} {t e s : TypeId} {g : Nat} {b : ByteArray} (ht : P.underlying t = some (.slice e)) (he : P.underlying e = some (.int .u8)) (hs : P.underlying s = some .string)
    (h : ∀ j c, (B b)[j]? = some c → w.cell? ⟨g, j, none⟩ = some (.int .u8 (c.toNat : Nat))) (p q : Nat) (hpq : p ≤ q) (hq : q ≤ b.size) (cap : Nat) : (convert t s (.slice (some ⟨g, p, none⟩) (q - p) cap)).run P w = .ok (.string (b.extract p q)) w := by
  have hl : (((B b).drop p).take (q - p)).length = q - p := by rw [List.length_take, List.length_drop, b_size]; omega
  have h1 := run_convert_bytes_back (P := P) w t s e ⟨g, p, none⟩ cap (((B b).drop p).take (q - p)) ht he hs (fun j hj => by
    rw [hl] at hj
    have h2 : (⟨g, p, none⟩ : Addr).add j = ⟨g, p + j, none⟩ := by
      unfold Addr.add
      by_cases h3 : j = 0 <;> simp [h3]
    rw [h2, h (p + j) _ (List.getElem?_eq_getElem (by rw [b_size]; omega))]
    simp)
  rw [hl] at h1
  rw [h1]
  congr 2
  rw [← b_extract]

set_option maxHeartbeats 2000000 in
set_option maxRecDepth 100000 in
theorem cut8_any (b : ByteArray) (g n cap : Nat) (w : World) (h : ∀ j c, (B b)[j]? = some c → w.cell? ⟨g, j, none⟩ = some (.int .u8 (c.toNat : Nat))) (hg : w.heap.size = g + 1) (hb : b.size ≤ 65535) (hcap : b.size ≤ cap) (hn : 2 * n + 2 ≤ b.size) :
    Calls Tryz.prog 101 #[.slice (some ⟨g, 0, none⟩) b.size cap, .int .i64 n] w fun e w' =>
      ((¬ (∀ i, i < n → LP.at_ (B b) i ≤ LP.at_ (B b) (i + 1) ∧ LP.at_ (B b) (i + 1) ≤ b.size) ∧ e = .returned (.tuple #[.slice none 0 0, .bool false])) ∨
        ((∀ i, i < n → LP.at_ (B b) i ≤ LP.at_ (B b) (i + 1) ∧ LP.at_ (B b) (i + 1) ≤ b.size) ∧ ∃ r, g < r ∧ e = .returned (.tuple #[.slice (some ⟨r, 0, none⟩) n n, .bool true]) ∧ Lies w' w'.heap.size (some ⟨r, 0, none⟩) (cellsB b n))) ∧ Below g w w' := by
  obtain ⟨i0, hi, hz0, hz1, hz2⟩ := info_parts Tryz.infoStr
  have hbl : (B b).length = b.size := b_size b
  have HRD := Lib.hid (by have h := reader_any g cap (B b) w h hg; rw [hbl] at h; exact h)
  have HNX : Hid (∀ (i : Nat) (W : World), 2 * i + 2 ≤ b.size → Hid (Rd W g (B b) cap (b.size - 2 * i)) → Calls Tryz.prog 131 #[.pointer (some ⟨g + 2, 0, none⟩), .pointer (some ⟨g + 1, 0, none⟩)] W fun e w' => e = .returned (.int .i64 (LP.at_ (B b) i : Nat)) ∧ Hid (Rd w' g (B b) cap (b.size - 2 * (i + 1))) ∧ Below g W w' ∧ W.grownBy w' (some (g + 2))) := Lib.hid (fun i W h1 h2 => by
    have h3 := next_any g (b.size - 2 * i - 2) cap (B b) W (by rw [show b.size - 2 * i - 2 + 2 = b.size - 2 * i by omega]; exact h2) (by omega) (by omega)
    rw [← hbl, num2_at (B b) i (by omega), hbl] at h3
    rw [show b.size - 2 * (i + 1) = b.size - 2 * i - 2 by omega]
    exact h3)
  have HBAD : Hid (∀ i, i < n → ¬ (LP.at_ (B b) i ≤ LP.at_ (B b) (i + 1) ∧ LP.at_ (B b) (i + 1) ≤ b.size) → ¬ (∀ i, i < n → LP.at_ (B b) i ≤ LP.at_ (B b) (i + 1) ∧ LP.at_ (B b) (i + 1) ≤ b.size)) := Lib.hid (fun i h1 h2 h3 => h2 (h3 i h1))
  obtain ⟨Ok, hOk⟩ : ∃ p : Prop, p = (∀ i, i < n → LP.at_ (B b) i ≤ LP.at_ (B b) (i + 1) ∧ LP.at_ (B b) (i + 1) ≤ b.size) := ⟨_, rfl⟩
  have HOK := Lib.hid (show (∀ i, i < n → LP.at_ (B b) i ≤ LP.at_ (B b) (i + 1) ∧ LP.at_ (B b) (i + 1) ≤ b.size) → Ok from fun h => by rw [hOk]; exact h)
  rw [← hOk] at HBAD ⊢
  clear hOk h
  go_enter Tryz.func101, Tryz.ntmps101
  go_wp2_with fail
  refine HRD.out.mono ?_
  rintro e w1 ⟨rfl, hW1, hb1⟩
  clear HRD
  go_wp2_with (at_make; refine wpList_make_full _ rfl _ _ 23 rfl w1.heap.size 9 i0 (.string ⟨#[]⟩) 1 Tryz.underlying23 hi hz0 hz1 _ _ _ _ n rfl rfl rfl rfl (by rw [hz2]; omega) (by unfold maxLen; omega) (Nat.le_refl _) ?_; intro w2 hown2 hg2)
  have hs1 := hW1.out.1
  have hb1 := hb1.mono (show g ≤ w.heap.size by omega)
  have hb2 : Below g w w2 := hb1.grown hg2 (by omega) (by simp)
  have hW2 := Lib.hid (rd_grown hW1.out hg2 (by simp))
  rw [made_blank, ← cutTo8_zero b] at hown2
  have HO2 := Lib.hid hown2
  obtain ⟨r, hr⟩ : ∃ r, r = w1.heap.size := ⟨_, rfl⟩
  rw [← hr] at HO2 hs1 ⊢
  clear hown2 hg2 hW1 hb1 hr
  have h0 := HNX.out 0 w2 (by omega) hW2
  have H0 := Lib.hid h0
  go_wp2_with fail
  refine H0.out.mono ?_
  rintro e w3 ⟨rfl, hW3, hb3, hg3⟩
  have HO3 := Lib.hid (HO2.out.kept hg3 (.inr (by simp [Value.ownBlock]; omega)))
  have hb3' := hb2.trans hb3
  clear h0 H0 hb2 hb3 hg3 HO2 hW2
  go_wp2_with fail
  go_loopw [8, 19] (fun fv iv wr => ∃ k : Nat, k ≤ n ∧ iv = .int .i64 k ∧ fv = .int .i64 (LP.at_ (B b) k : Nat) ∧ Hid (∀ i, i < k → LP.at_ (B b) i ≤ LP.at_ (B b) (i + 1) ∧ LP.at_ (B b) (i + 1) ≤ b.size) ∧ Hid (Rd wr g (B b) cap (b.size - 2 * (k + 1))) ∧ Hid (wr.ownsRow r 9 1 (.slice (some ⟨r, 0, none⟩) n n) n (cutTo8 b n k)) ∧ Below g w wr) (fun _ iv _ => n - (intOf iv).toNat)
  case atStart => exact ⟨0, Nat.zero_le _, rfl, rfl, Lib.hid (fun i hi => by omega), hW3, HO3, hb3'⟩
  case round =>
    obtain ⟨k, hk, rfl, rfl, HR, HW, HO, hbw⟩ := hrel
    by_cases hlt : k < n
    · have HX := Lib.hid (HNX.out (k + 1) wr (by omega) HW)
      obtain ⟨p, hp⟩ : ∃ p, LP.at_ (B b) k = p := ⟨_, rfl⟩
      obtain ⟨q, hq⟩ : ∃ q, LP.at_ (B b) (k + 1) = q := ⟨_, rfl⟩
      by_cases hpq : p ≤ q ∧ q ≤ b.size
      · obtain ⟨c, hc⟩ : ∃ c, b.extract p q = c := ⟨_, rfl⟩
        have HC := Lib.hid (show cutB b k = c by rw [cutB, hp, hq, hc])
        have HR2 : Hid (∀ i, i < k + 1 → LP.at_ (B b) i ≤ LP.at_ (B b) (i + 1) ∧ LP.at_ (B b) (i + 1) ≤ b.size) := Lib.hid (fun i hi => by
          by_cases h1 : i = k
          · subst h1; rw [hp, hq]; exact hpq
          · exact HR.out i (by omega))
        have HQ := Lib.hid hq
        have hce : Hid (q = p → c = ⟨#[]⟩) := Lib.hid (fun e => by
          subst e
          rw [← hc]
          exact b_inj (by rw [b_extract]; simp))
        have HCV := Lib.hid (fun (W : World) (h : ∀ j c, (B b)[j]? = some c → W.cell? ⟨g, j, none⟩ = some (.int .u8 (c.toNat : Nat))) (cap : Nat) => conv_part (P := Tryz.prog) (t := 94) (e := 5) (s := 9) Tryz.underlying94 Tryz.underlying5 Tryz.underlying9 h p q hpq.1 hpq.2 cap)
        rw [hc] at HCV
        rw [hq] at HX
        rw [hp]
        have d7 : decide (q < p) = false := decide_eq_false (by omega)
        have d8 : decide ((q : Int) < (p : Int)) = false := decide_eq_false (by omega)
        have d9 : decide (b.size < q) = false := decide_eq_false (by omega)
        have d10 : decide ((b.size : Int) < (q : Int)) = false := decide_eq_false (by omega)
        have j1 : (0 : Int) ≤ (p : Int) ∧ (p : Int) ≤ (q : Int) ∧ (q : Int) ≤ (cap : Int) := by omega
        have j2 : p ≤ q := hpq.1
        have j3 : q ≤ cap := by omega
        clear hp hq hpq hc
        go_wp2_with fail
        refine HX.out.mono ?_
        rintro e w4 ⟨rfl, hW4, hb4, hg4⟩
        have HO4 := Lib.hid (HO.out.kept hg4 (.inr (by simp [Value.ownBlock]; omega)))
        have hcell : w4.cell? ⟨r, k, none⟩ = some (.string ⟨#[]⟩) := by
          rw [HO4.out.cellAt k (by omega), cutTo8_at b n k hlt]
        have hfr := HO4.out.frozenAt k
        have cv := fun cap => HCV.out w4 hW4.out.2.1 cap
        have hbw4 := hbw.trans hb4
        have cv0 : q = p → (convert 94 9 (.slice (some ⟨g, 0, none⟩) 0 0)).run Tryz.prog w4 = .ok (.string c) w4 := fun e => by
          have h1 := run_convert_bytes_back (P := Tryz.prog) w4 94 9 5 ⟨g, 0, none⟩ 0 [] Tryz.underlying94 Tryz.underlying5 Tryz.underlying9 (fun j hj => by simp at hj)
          rw [hce.out e]
          exact h1
        clear hb4 hg4
        have HEND : Hid (Rd (w4.setCell ⟨r, k, none⟩ (.string c)) g (B b) cap (b.size - 2 * (k + 1 + 1))) := Lib.hid (rd_grown hW4.out (grown_setCell w4 ⟨r, k, none⟩ (.string c)) (by simp; omega))
        have HOE : Hid ((w4.setCell ⟨r, k, none⟩ (.string c)).ownsRow r 9 1 (.slice (some ⟨r, 0, none⟩) n n) n (cutTo8 b n (k + 1))) := Lib.hid (by
          have h := (HO4.out.stored k (.string c)).1
          rwa [← HC.out, cutTo8_set b n k hlt, HC.out] at h)
        have hbE : Below g w (w4.setCell ⟨r, k, none⟩ (.string c)) := hbw4.setCell (by show g ≤ r; omega) _
        by_cases hqp : q = p
        · have cv1 := cv0 hqp
          clear cv cv0
          subst hqp
          go_wp2_with fail
          go_roundw
          case rel => exact ⟨k + 1, by omega, by go_num, by rw [HQ.out], HR2, HEND, HOE, hbE⟩
          case measure => simp [intOf]; omega
        · clear cv0
          go_wp2_with fail
          go_roundw
          case rel => exact ⟨k + 1, by omega, by go_num, by rw [HQ.out], HR2, HEND, HOE, hbE⟩
          case measure => simp [intOf]; omega
      · have HB2 := HBAD.out k hlt (by rw [hp, hq]; exact hpq)
        rw [hq] at HX
        rw [hp]
        clear hp hq
        by_cases h7 : q < p
        · have d7 : decide (q < p) = true := decide_eq_true h7
          have d8 : decide ((q : Int) < (p : Int)) = true := decide_eq_true (by omega)
          clear hpq
          go_wp2_with fail
          refine HX.out.mono ?_
          rintro e w4 ⟨rfl, hW4, hb4, hg4⟩
          go_wp2_with fail
          go_ret2
          exact ⟨.inl ⟨HB2, rfl⟩, hbw.trans hb4⟩
        · have d7 : decide (q < p) = false := decide_eq_false h7
          have d8 : decide ((q : Int) < (p : Int)) = false := decide_eq_false (by omega)
          have d9 : decide (b.size < q) = true := decide_eq_true (by omega)
          have d10 : decide ((b.size : Int) < (q : Int)) = true := decide_eq_true (by omega)
          clear hpq
          go_wp2_with fail
          refine HX.out.mono ?_
          rintro e w4 ⟨rfl, hW4, hb4, hg4⟩
          go_wp2_with fail
          go_ret2
          exact ⟨.inl ⟨HB2, rfl⟩, hbw.trans hb4⟩
    · obtain rfl : k = n := by omega
      have HL := Lib.hid (show Lies wr wr.heap.size (some ⟨r, 0, none⟩) (cellsB b k) from by
        have h := HO.out
        rw [cutTo8_full] at h
        exact lies_own h (cellsB_length b k).symm)
      have HT := HOK.out HR.out
      go_wp2_with fail
      go_ret2
      exact ⟨.inr ⟨HT, r, by omega, rfl, HL.out⟩, hbw⟩
end Go.Proofs.YtembccehokodeaaGreatDoor.L8
