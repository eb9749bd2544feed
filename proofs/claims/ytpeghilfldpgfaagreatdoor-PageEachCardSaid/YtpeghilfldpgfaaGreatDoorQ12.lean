import Derived.Test.YtpeghilfldpgfaaGreatDoorQ11
import Derived.Test.YtpeghilfldpgfaaGreatDoorQIEnds1
namespace Go.Proofs.YtpeghilfldpgfaaGreatDoor.L10
open Go.RowKit NP
set_option linter.unusedVariables false
set_option linter.unusedSimpArgs false
def WR (ti tt : TypeId) (F R : Int) (H : ByteArray) (A : Option Addr) (n ca : Nat) (w : World) : World := (lbox ti F R H A n ca w).alloc (.cells #[.int .i64 0, .int .i64 0, .string ⟨#[]⟩, .slice none 0 0] tt)
theorem WR_size (ti tt : TypeId) (F R : Int) (H : ByteArray) (A : Option Addr) (n ca : Nat) (w : World) : (WR ti tt F R H A n ca w).heap.size = w.heap.size + 1 + 1 := by simp [WR, lbox]
theorem WR_boxes (ti tt : TypeId) (F R : Int) (H : ByteArray) (A : Option Addr) (n ca : Nat) (w : World) :
    LBx ti w.heap.size F R H A n ca (WR ti tt F R H A n ca w) ∧ LBx tt (w.heap.size + 1) 0 0 ⟨#[]⟩ none 0 0 (WR ti tt F R H A n ca w) ∧ Below w.heap.size w (WR ti tt F R H A n ca w) := by
  have h1 := lbox_new ti F R H A n ca w
  have h2 := lbox_new tt 0 0 ⟨#[]⟩ none 0 0 (lbox ti F R H A n ca w)
  rw [lbox_size] at h2
  exact ⟨h1.below (L5.below_alloc _ _), h2, (lbox_below _ _ _ _ _ _ _ _).trans' (L5.below_alloc _ _)⟩
theorem own5_block {w : World} {base e n g : Nat} {v : Value} {xs : List Value} (h : w.ownsRow base e 5 v n xs) (hv : v.ownBlock = some g) : base ≤ g := by
  rcases h.2 with ⟨rfl, _⟩ | ⟨g', cap, cur, rfl, hg', _⟩
  · simp [Value.ownBlock] at hv
  · simp [Value.ownBlock] at hv; omega
theorem own5_set {w : World} {base e n q o : Nat} {v : Value} {xs : List Value} {u : Value} (h : w.ownsRow base e 5 v n xs) (hq : q < base) : (w.setCell ⟨q, o, none⟩ u).ownsRow base e 5 v n xs := by
  refine h.kept (row := some q) ⟨rfl, rfl, rfl, by simp, fun i hi hr => Below.heap_setCell w ⟨q, o, none⟩ u i (fun e => hr (by simp [e]))⟩ ?_
  cases hv : v.ownBlock with
  | none => exact .inl rfl
  | some x => exact .inr (by have := own5_block h hv; simp; omega)
theorem LBx.set3 {t : TypeId} {w : World} {g : Nat} {F R : Int} {H : ByteArray} {A : Option Addr} {n ca : Nat} (k : LBx t g F R H A n ca w) (A' : Option Addr) (n' ca' : Nat) : LBx t g F R H A' n' ca' (w.setCell ⟨g, 3, none⟩ (.slice A' n' ca')) := by
  unfold LBx at *
  exact heap_setCell_same w g 3 _ _ (.slice A' n' ca') k
theorem drew_below {c : Nat} {w v : World} (h : Below c w v) : Below c w v.drew := L5.below_drewN h 1
theorem take_op' {P : Program} {ops : Array Oper} {Q : Exit → Act → World → Prop} {md : Region.Mode} {S : World → Prop} {i : Nat} {oi : Oper} {d : Option Tmp} {v : Value} {fuel : Nat} {listed : Array Bool} {a : Act} {w : World} (hi : ops[i]? = some oi) (hd : oi.dst = d)
    (hs : Region.noSelect ops = true) (hf : Region.free md ops listed i = true) (hr : (Region.ready md ops listed).contains i = true)
    (hQ : ∀ c a w, Q (.panic c) (a.put d v) w → Q (.panic c) a w) (hy : YieldsIf P ops S oi v a) (hS : S w)
    (h : wpAnyH P md ops Q S fuel (listed.setIfInBounds i true) (a.put d v) w) : wpAnyH P md ops Q S (fuel + 1) listed a w := by
  subst hd
  exact wpAnyH_take hi hs hf hr hQ hy hS h
end Go.Proofs.YtpeghilfldpgfaaGreatDoor.L10
namespace Go.Proofs.YtpeghilfldpgfaaGreatDoor.L11
open Go.RowKit IP
set_option linter.unusedVariables false
set_option linter.unusedSimpArgs false
theorem may_parts {F L R : Int} {H : ByteArray} {ks : List Int} {ss : List ByteArray} {p : Int} : May ⟨F, L, R, H, ks, ss⟩ p ↔ L7.mayBe p = true ∧ NumOk' F L R ∧ KidsOk' ks ss.length ∧ EndsQ R H ss p := Iff.rfl
set_option maxHeartbeats 2000000 in
set_option maxRecDepth 100000 in
theorem may_any (F L R : Int) (H : ByteArray) (A : Option Addr) (n ca : Nat) (C : Option Addr) (m cb : Nat) (ks : List Int) (ss : List ByteArray) (p : Int) (w : World) (hs : L7.Sizes w) (hr : Rows2 w A n ca C m cb ks ss) (hn : n ≤ 100000) (hm : m ≤ 100000) :
    Calls Tryz.prog 69 #[nv F L R H A n ca C m cb, .int .i64 p] w fun e w' => e = .returned (.bool (decide (May ⟨F, L, R, H, ks, ss⟩ p))) ∧ Below w.heap.size w w' := by
  have hb := nbox_below 29 F L R H A n ca C m cb w
  have HB := Lib.hid hb
  have HK := Lib.hid (nbox_new 29 F L R H A n ca C m cb w)
  have HS := Lib.hid (hs.below hs.lt hb)
  have HR := Lib.hid (hr.on hb)
  have HSZ := Lib.hid (fun W (h : L7.Sizes W) => L7.size_any p W h)
  have HNU := Lib.hid (fun W => nums_any F L R H A n ca C m cb W)
  have HKI := Lib.hid (fun W (h : Rows2 W A n ca C m cb ks ss) => kids_any F L R H A n ca C m cb ks W h.kids h.nk (by omega) (by omega))
  have hms := hr.nm
  by_cases c1 : L7.mayBe p = true
  · by_cases c2 : NumOk' F L R
    · rw [decide_eq_true c2] at HNU
      by_cases c3 : KidsOk' ks m
      · rw [decide_eq_true c3] at HKI
        have hp := mayBe_le c1
        obtain ⟨q, rfl⟩ : ∃ q : Nat, p = q := Int.eq_ofNat_of_zero_le (by omega)
        have HEN := Lib.hid (fun W (h : Rows2 W A n ca C m cb ks ss) => rightEnds_any F L R H A n ca C m cb ss q W h.seps (h.nk.symm.trans c3.1) h.nm h.cm hm (by omega))
        have e : decide (EndsQ R H ss q) = decide (May ⟨F, L, R, H, ks, ss⟩ q) := by
          by_cases hq : EndsQ R H ss q
          · rw [decide_eq_true hq, decide_eq_true (may_parts.2 ⟨c1, c2, by rw [hms]; exact c3, hq⟩)]
          · rw [decide_eq_false hq, decide_eq_false (fun h => hq (may_parts.1 h).2.2.2)]
        rw [e] at HEN
        rw [c1] at HSZ
        generalize decide (May ⟨F, L, R, H, ks, ss⟩ q) = r at *
        clear hb hs hr hms c1 c2 c3 e hp
        go_enter Tryz.func69, Tryz.ntmps69
        go_wp2_with fail
        refine (HSZ.out _ HS.out).mono ?_
        rintro e w2 ⟨rfl, rfl⟩
        obtain ⟨x0, x1, x2, x3, x4, x5⟩ := HK.out.cells
        go_wp2_with fail
        refine (HNU.out _).mono ?_
        rintro e w3 ⟨rfl, hb3⟩
        obtain ⟨y0, y1, y2, y3, y4, y5⟩ := (HK.out.below hb3).cells
        have HR3 := Lib.hid (HR.out.on hb3)
        have HB3 := Lib.hid (HB.out.trans' hb3)
        have HK3 := Lib.hid (HK.out.below hb3)
        clear hb3 x0 x1 x2 x3 x4 x5
        go_wp2_with fail
        refine (HKI.out _ HR3.out).mono ?_
        rintro e w4 ⟨rfl, hb4⟩
        clear y0 y1 y2 y3 y4 y5
        obtain ⟨z0, z1, z2, z3, z4, z5⟩ := (HK3.out.below hb4).cells
        have HR4 := Lib.hid (HR3.out.on hb4)
        have HB4 := Lib.hid (HB3.out.trans' hb4)
        clear hb4
        go_wp2_with fail
        refine (HEN.out _ HR4.out).mono ?_
        rintro e w5 ⟨rfl, hb5⟩
        go_wp2_with fail
        go_ret
        exact ⟨rfl, HB4.out.trans' hb5⟩
      · rw [decide_eq_false c3] at HKI
        rw [decide_eq_false (fun h : May ⟨F, L, R, H, ks, ss⟩ p => c3 (by have := (may_parts.1 h).2.2.1; rwa [hms] at this)), ]
        rw [c1] at HSZ
        clear hb hs hr hms c1 c2 c3
        go_enter Tryz.func69, Tryz.ntmps69
        go_wp2_with fail
        refine (HSZ.out _ HS.out).mono ?_
        rintro e w2 ⟨rfl, rfl⟩
        obtain ⟨x0, x1, x2, x3, x4, x5⟩ := HK.out.cells
        go_wp2_with fail
        refine (HNU.out _).mono ?_
        rintro e w3 ⟨rfl, hb3⟩
        obtain ⟨y0, y1, y2, y3, y4, y5⟩ := (HK.out.below hb3).cells
        have HR3 := Lib.hid (HR.out.on hb3)
        have HB3 := Lib.hid (HB.out.trans' hb3)
        clear hb3 x0 x1 x2 x3 x4 x5
        go_wp2_with fail
        refine (HKI.out _ HR3.out).mono ?_
        rintro e w4 ⟨rfl, hb4⟩
        go_wp2_with fail
        go_ret
        exact ⟨rfl, HB3.out.trans' hb4⟩
    · rw [decide_eq_false c2] at HNU
      rw [decide_eq_false (fun h : May ⟨F, L, R, H, ks, ss⟩ p => c2 (may_parts.1 h).2.1)]
      rw [c1] at HSZ
      clear hb hs hr hms c1 c2
      go_enter Tryz.func69, Tryz.ntmps69
      go_wp2_with fail
      refine (HSZ.out _ HS.out).mono ?_
      rintro e w2 ⟨rfl, rfl⟩
      obtain ⟨x0, x1, x2, x3, x4, x5⟩ := HK.out.cells
      go_wp2_with fail
      refine (HNU.out _).mono ?_
      rintro e w3 ⟨rfl, hb3⟩
      go_wp2_with fail
      go_ret
      exact ⟨rfl, HB.out.trans' hb3⟩
  · rw [decide_eq_false (fun h : May ⟨F, L, R, H, ks, ss⟩ p => c1 (may_parts.1 h).1)]
    have c1' : L7.mayBe p = false := by simpa using c1
    rw [c1'] at HSZ
    clear hb hs hr hms c1 c1'
    go_enter Tryz.func69, Tryz.ntmps69
    go_wp2_with fail
    refine (HSZ.out _ HS.out).mono ?_
    rintro e w2 ⟨rfl, rfl⟩
    go_wp2_with fail
    go_ret
    exact ⟨rfl, HB.out⟩
end Go.Proofs.YtpeghilfldpgfaaGreatDoor.L11
namespace Go.Proofs.YtpeghilfldpgfaaGreatDoor.L11
open Go.RowKit IP
set_option linter.unusedVariables false
set_option linter.unusedSimpArgs false
def fixedS (H : ByteArray) (ss : List ByteArray) : ByteArray := L9.textS (L5.headS ss) ++ L9.textS H
def cellAt (ks : List Int) (rs : List ByteArray) (i : Nat) : ByteArray := L9.kidS (ks.getD i 0).toNat (loAt ⟨#[]⟩ rs i)
def cellsS (ks : List Int) (ss : List ByteArray) : List ByteArray := List.zipWith (fun (k : Int) t => L9.kidS k.toNat t) ks (⟨#[]⟩ :: L5.bares ss)
theorem cellsS_length {ks : List Int} {ss : List ByteArray} (h : ks.length = ss.length + 1) : (cellsS ks ss).length = ks.length := by simp [cellsS, L5.bares_length, h]
theorem cells_range {ks : List Int} {ss : List ByteArray} (h : ks.length = ss.length + 1) : (List.range ks.length).map (cellAt ks (L5.bares ss)) = cellsS ks ss := by
  unfold cellsS
  apply List.ext_getElem
  · simp [L5.bares_length, h]
  · intro i h1 h2
    have hi : i < ks.length := by simpa using h1
    have hb : i < ((⟨#[]⟩ : ByteArray) :: L5.bares ss).length := by simp [L5.bares_length]; omega
    rw [List.getElem_map, List.getElem_range]
    unfold cellAt
    rw [List.getElem_zipWith]
    have e1 : ks.getD i 0 = ks[i] := by rw [List.getD_eq_getElem?_getD, List.getElem?_eq_getElem hi]; rfl
    have e2 : loAt ⟨#[]⟩ (L5.bares ss) i = ((⟨#[]⟩ : ByteArray) :: L5.bares ss)[i] := by
      cases i with
      | zero => rfl
      | succ j =>
        have hj : j < (L5.bares ss).length := by simpa using hb
        show (L5.bares ss).getD j ⟨#[]⟩ = (L5.bares ss)[j]
        rw [List.getD_eq_getElem?_getD, List.getElem?_eq_getElem hj]
        rfl
    rw [e1, e2]
theorem bare_list (p : Nat) (s : ByteArray) : L5.B (L5.bare p s) = (L5.B s).drop p := by
  show (s.extract p s.size).data.toList = _
  rw [Lib.extract_data, List.take_of_length_le (by simp)]
theorem bares_list (ss : List ByteArray) : L5.Bs (L5.bares ss) = (L5.Bs ss).map (List.drop (L5.EP.span (L5.Bs ss))) := by
  unfold L5.bares L5.Bs
  rw [List.map_map, List.map_map]
  exact List.map_congr_left fun s _ => bare_list _ s
theorem zip_list : ∀ (ks : List Int) (rs : List ByteArray), L5.Bs (List.zipWith (fun (k : Int) t => L9.kidS k.toNat t) ks rs) = cellsOf ks (L5.Bs rs)
  | [], _ => rfl
  | _ :: _, [] => rfl
  | k :: ks, r :: rs => by
    have ih := zip_list ks rs
    unfold cellsOf at ih ⊢
    show L5.B (L9.kidS k.toNat r) :: L5.Bs _ = L9.VP.cellK k.toNat (L5.B r) :: _
    rw [ih]
    rfl
theorem cellsS_list (ks : List Int) (ss : List ByteArray) : L5.Bs (cellsS ks ss) = cellsOf ks (rests ss) := by
  unfold cellsS
  rw [zip_list]
  show cellsOf ks ([] :: L5.Bs (L5.bares ss)) = _
  rw [bares_list]
  rfl
theorem head_com (ss : List ByteArray) : (L5.headS ss).data.toList = com ss := by
  cases ss with
  | nil => rfl
  | cons x l =>
    show (x.extract 0 (L5.sp (x :: l))).data.toList = (L5.B x).take _
    rw [Lib.extract_data]
    rfl
theorem fixedS_list (F L R : Int) (H : ByteArray) (ks : List Int) (ss : List ByteArray) : (fixedS H ss).data.toList = fixed ⟨F, L, R, H, ks, ss⟩ := by
  have h := head_com ss
  simp only [fixedS, fixed, L9.textS, h]
  simp
theorem size_eq (F L R : Int) (H : ByteArray) (ks : List Int) (ss : List ByteArray) : L8.LP.need (fixedS H ss).size (L5.Bs (cellsS ks ss)) = size ⟨F, L, R, H, ks, ss⟩ := by
  unfold size
  rw [cellsS_list, ← fixedS_list F L R H ks ss]
  congr 1
structure Fit (H : ByteArray) (ks : List Int) (ss : List ByteArray) : Prop where
  few : ss.length ≤ 1000
  len : ks.length = ss.length + 1
  kids : ∀ k ∈ ks, KidOk k
  sep : ∀ s ∈ ss, s.size ≤ 128
  high : H.size ≤ 1000
theorem May.fit {F L R : Int} {H : ByteArray} {ks : List Int} {ss : List ByteArray} {p : Int} (h : May ⟨F, L, R, H, ks, ss⟩ p) (hn : ss.length ≤ 1000) : Fit H ks ss := by
  have hp := mayBe_le h.1
  refine ⟨hn, h.2.2.1.1, h.2.2.1.2, fun s hs => ?_, ?_⟩
  · have := (h.2.2.2.2.2 s hs).2
    omega
  · by_cases h0 : R = 0
    · rw [show H.size = 0 from h.2.2.2.1.1 h0]; omega
    · have : (H.size : Int) ≤ p / 8 := (h.2.2.2.1.2 h0).2.1
      omega
theorem headS_size {ss : List ByteArray} (h : ∀ s ∈ ss, s.size ≤ 128) : (L5.headS ss).size ≤ 128 := by
  cases ss with
  | nil => exact Nat.zero_le _
  | cons x l =>
    have := h x (List.mem_cons_self)
    show (x.extract 0 _).size ≤ 128
    simp
    omega
theorem fixedS_size {H : ByteArray} {ks : List Int} {ss : List ByteArray} (hf : Fit H ks ss) : (fixedS H ss).size ≤ 1300 := by
  have z3 := headS_size hf.sep
  have z4 := hf.high
  have z1 := L9.textS_size (L5.headS ss) (by omega)
  have z2 := L9.textS_size H (by omega)
  unfold fixedS
  simp only [ByteArray.size_append]
  omega
theorem lo_size {rs : List ByteArray} (h : ∀ s ∈ rs, s.size ≤ 128) (i : Nat) : (loAt ⟨#[]⟩ rs i).size ≤ 128 := by
  cases i with
  | zero => exact Nat.zero_le _
  | succ j =>
    show (rs.getD j ⟨#[]⟩).size ≤ 128
    rw [List.getD_eq_getElem?_getD]
    cases hj : rs[j]? with
    | none => exact Nat.zero_le _
    | some s => exact h s (List.mem_of_getElem? hj)
theorem bares_size {ss : List ByteArray} (h : ∀ s ∈ ss, s.size ≤ 128) : ∀ s ∈ L5.bares ss, s.size ≤ 128 := by
  intro s hs
  obtain ⟨t, ht, rfl⟩ := List.mem_map.1 hs
  have := h t ht
  show (t.extract _ t.size).size ≤ 128
  simp
  omega
theorem kidS_size (k : Nat) (t : ByteArray) (h : t.size ≤ 128) : (L9.kidS k t).size ≤ 135 := by
  have h1 : (L9.kidS k t).data.toList.length = (L9.kidS k t).size := by simp
  have h2 : t.data.toList.length = t.size := by simp
  have h3 := cellK_few k t.data.toList (by omega)
  have e : (L9.kidS k t).data.toList = L9.VP.cellK k t.data.toList := by simp [L9.kidS]
  rw [← h1, e]
  omega
theorem cellsS_size {H : ByteArray} {ks : List Int} {ss : List ByteArray} (hf : Fit H ks ss) : ∀ s ∈ cellsS ks ss, s.size ≤ 135 := by
  intro s hs
  rw [← cells_range hf.len] at hs
  obtain ⟨i, -, rfl⟩ := List.mem_map.1 hs
  exact kidS_size _ _ (lo_size (bares_size hf.sep) i)
theorem putk_ok {k : Int} {t : ByteArray} (hk : KidOk k) (ht : t.size ≤ 128) : L9.putKV k t = .tuple #[.string (L9.kidS k.toNat t), .int .i64 0] := by
  unfold L9.putKV
  unfold KidOk at hk
  have hl : t.data.toList.length = t.size := by simp
  rw [if_pos ⟨hk.1, hk.2, by omega⟩]
theorem NBx.own {t : TypeId} {g : Nat} {F L R : Int} {H : ByteArray} {A : Option Addr} {n ca : Nat} {C : Option Addr} {m cb : Nat} {X Y : World} {row : Option Nat} (h : NBx t g F L R H A n ca C m cb X) (hg : X.grownBy Y row) (hr : ∀ r, row = some r → ∃ o : Obj, X.heap[r]? = some o ∧ o.isCells = false) : NBx t g F L R H A n ca C m cb Y := by
  refine (hg.block g h.lt (fun e => ?_)).trans h
  obtain ⟨o, ho, hc⟩ := hr g e.symm
  unfold NBx at h
  rw [h] at ho
  cases ho
  cases hc
section
variable {l n : Nat} {P : Program} {ops : Array Oper} {Q : Exit → Act → World → Prop} {md : Region.Mode} {S : World → Prop}
theorem rows_round {row : String} {args : Array Value} {w : World} {R : Value → World → Prop} (h : Rows P row args w R) : RowsIn (Fence.wide.inRound l) n P row args w R :=
  fun c cs _ => let ⟨v, w', r, s⟩ := h c cs; ⟨v, w', r, stepsIn_wide.2 s⟩
theorem calls_round {f : FuncId} {args : Array Value} {w : World} {R : Ending → World → Prop} (h : Calls P f args w R) : CallsIn (Fence.wide.inRound l) n P f args w R := CallsIn.inRound l (callsIn_wide.2 h)
theorem wp_round {o : Oper} {K : Act → World → Prop} {a : Act} {w : World} (hnd : ∀ c, o.op ≠ .defer c) (h : o.wp P a w K Q) : o.wpIn (Fence.wide.inRound l) n P a w K Q := by
  refine ⟨fun f _ => trivial, ?_⟩
  rw [Oper.semAt_eq _ _ _ hnd]
  unfold Oper.wp at h
  generalize (execOp a.eval o).run P w = r at *
  cases r with
  | ok x w' =>
    cases x <;> simp only [Oper.upon, Oper.uponIn] at h ⊢ <;>
      first
        | exact h
        | exact ⟨fun h => (by cases h), calls_round h⟩
        | exact ⟨fun h => (by cases h), rows_round h⟩
  | halt x w' => cases x <;> simp only [Oper.upon, Oper.uponIn] at h ⊢ <;> exact h
theorem wpOp_round {i : Nat} {K : Act → World → Prop} {a : Act} {w : World} (hnd : ∀ o, ops[i]? = some o → ∀ c, o.op ≠ .defer c) (hQ : ¬ LetsOut Q) (h : wpOp P ops Q i K a w) : wpOpIn (Fence.wide.inRound l) n P ops Q i K a w := by
  unfold wpOp at h
  unfold wpOpIn
  cases ho : ops[i]? with
  | none => rw [ho] at h; exact h
  | some o =>
    rw [ho] at h
    simp only at h ⊢
    split
    · rename_i hw
      rw [if_pos hw] at h
      rcases h with h | h
      · exact wp_round (hnd o ho) h
      · exact absurd h.2 hQ
    · rename_i hw
      rw [if_neg hw] at h
      exact ⟨fun f _ => trivial, h⟩
theorem wpAny_round (hnd : ∀ (i : Nat) (o : Oper), ops[i]? = some o → ∀ c, o.op ≠ .defer c) (hQ : ¬ LetsOut Q) : ∀ (fuel : Nat) (listed : Array Bool) (a : Act) (w : World), wpAny P md ops Q fuel listed a w → wpAnyIn (Fence.wide.inRound l) n P md ops Q fuel listed a w
  | 0, _, _, _, h => h
  | fuel + 1, listed, a, w, h => ⟨h.1, fun i hi => wpOpIn_mono (fun a' w' h' => wpAny_round hnd hQ fuel _ a' w' h') (wpOp_round (hnd i) hQ (h.2 i hi))⟩
theorem rows_wideC {row : String} {args : Array Value} {w : World} {R : Value → World → Prop} (h : Rows P row args w R) : RowsIn Fence.wide n P row args w R :=
  fun c cs _ => let ⟨v, w', r, s⟩ := h c cs; ⟨v, w', r, stepsIn_wide.2 s⟩
theorem calls_wideC {f : FuncId} {args : Array Value} {w : World} {R : Ending → World → Prop} (h : Calls P f args w R) : CallsIn Fence.wide n P f args w R := callsIn_wide.2 h
theorem wp_wideC {o : Oper} {K : Act → World → Prop} {a : Act} {w : World} (hnd : ∀ c, o.op ≠ .defer c) (h : o.wp P a w K Q) : o.wpIn Fence.wide n P a w K Q := by
  refine ⟨fun f _ => trivial, ?_⟩
  rw [Oper.semAt_eq _ _ _ hnd]
  unfold Oper.wp at h
  generalize (execOp a.eval o).run P w = r at *
  cases r with
  | ok x w' =>
    cases x <;> simp only [Oper.upon, Oper.uponIn] at h ⊢ <;>
      first
        | exact h
        | exact ⟨fun h => (by cases h), calls_wideC h⟩
        | exact ⟨fun h => (by cases h), rows_wideC h⟩
  | halt x w' => cases x <;> simp only [Oper.upon, Oper.uponIn] at h ⊢ <;> exact h
theorem wpOp_wideC {i : Nat} {K : Act → World → Prop} {a : Act} {w : World} (hnd : ∀ o, ops[i]? = some o → ∀ c, o.op ≠ .defer c) (hQ : ¬ LetsOut Q) (h : wpOp P ops Q i K a w) : wpOpIn Fence.wide n P ops Q i K a w := by
  unfold wpOp at h
  unfold wpOpIn
  cases ho : ops[i]? with
  | none => rw [ho] at h; exact h
  | some o =>
    rw [ho] at h
    simp only at h ⊢
    split
    · rename_i hw
      rw [if_pos hw] at h
      rcases h with h | h
      · exact wp_wideC (hnd o ho) h
      · exact absurd h.2 hQ
    · rename_i hw
      rw [if_neg hw] at h
      exact ⟨fun f _ => trivial, h⟩
theorem wpAny_wideC (hnd : ∀ (i : Nat) (o : Oper), ops[i]? = some o → ∀ c, o.op ≠ .defer c) (hQ : ¬ LetsOut Q) : ∀ (fuel : Nat) (listed : Array Bool) (a : Act) (w : World), wpAny P md ops Q fuel listed a w → wpAnyIn Fence.wide n P md ops Q fuel listed a w
  | 0, _, _, _, h => h
  | fuel + 1, listed, a, w, h => ⟨h.1, fun i hi => wpOpIn_mono (fun a' w' h' => wpAny_wideC hnd hQ fuel _ a' w' h') (wpOp_wideC (hnd i) hQ (h.2 i hi))⟩
def noDefer (ops : Array Oper) : Bool := ops.toList.all fun o => match o.op with | .defer _ => false | _ => true
theorem noDefer_spec (h : noDefer ops = true) : ∀ (i : Nat) (o : Oper), ops[i]? = some o → ∀ c, o.op ≠ .defer c := fun i o ho c e => by
  have h1 : o ∈ ops.toList := by rw [Array.mem_toList_iff]; exact Array.mem_of_getElem? ho
  have h2 := List.all_eq_true.1 h o h1
  rw [e] at h2
  cases h2
theorem wpIn_region_held {id : Nat} {a : Act} {w : World} (hm : P.follows .mixedOrders = true) (hnd : noDefer ops = true) (hQ : ¬ LetsOut Q) (hS : S w.drew)
    (h : S w.drew → wpAnyH P .any ops Q S ops.size (Array.replicate ops.size false) a w.drew) : (Code.region id ops true).wpIn (Fence.wide.inRound l) n P Q a w :=
  wpIn_region_any hm (wpAny_round (noDefer_spec hnd) hQ _ _ _ _ (wpAny_of_held _ _ _ _ (h hS)))
theorem wpIn_region_heldW {id : Nat} {a : Act} {w : World} (hm : P.follows .mixedOrders = true) (hnd : noDefer ops = true) (hQ : ¬ LetsOut Q) (hS : S w.drew)
    (h : S w.drew → wpAnyH P .any ops Q S ops.size (Array.replicate ops.size false) a w.drew) : (Code.region id ops true).wpIn Fence.wide n P Q a w :=
  wpIn_region_any hm (wpAny_wideC (noDefer_spec hnd) hQ _ _ _ _ (wpAny_of_held _ _ _ _ (h hS)))
end
theorem take_op {P : Program} {ops : Array Oper} {Q : Exit → Act → World → Prop} {md : Region.Mode} {S : World → Prop} {i : Nat} {oi : Oper} {d : Option Tmp} {v : Value} {fuel : Nat} {listed : Array Bool} {a : Act} {w : World} (hi : ops[i]? = some oi) (hd : oi.dst = d)
    (hs : Region.noSelect ops = true) (hf : Region.free md ops listed i = true) (hr : (Region.ready md ops listed).contains i = true)
    (hQ : ∀ c a w, Q (.panic c) (a.put d v) w → Q (.panic c) a w) (hy : YieldsIf P ops S oi v a) (hS : S w)
    (h : wpAnyH P md ops Q S fuel (listed.setIfInBounds i true) (a.put d v) w) : wpAnyH P md ops Q S (fuel + 1) listed a w := by
  subst hd
  exact wpAnyH_take hi hs hf hr hQ hy hS h
end Go.Proofs.YtpeghilfldpgfaaGreatDoor.L11
