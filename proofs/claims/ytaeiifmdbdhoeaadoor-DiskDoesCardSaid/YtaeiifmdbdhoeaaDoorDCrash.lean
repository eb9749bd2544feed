/-
  The document's disk: the walk of its Crash.
-/
import Derived.Test.YtaeiifmdbdhoeaaDoorDCalls2
import Derived.Deep.RegionLaw
import Derived.BigRegion
namespace Go.Proofs.YtaeiifmdbdhoeaaDoor
open Go.RowKit
open DP (W D C)
open Go.ChangeShapes
set_option linter.unusedVariables false
set_option linter.unusedSimpArgs false

/-- Behind an address stand these choices. -/
def LiesC (w : World) (A : Option Addr) (cs : List C) : Prop :=
  ∀ i x, cs[i]? = some x → ∃ a, A = some a ∧ w.cell? (a.add (i * 2)) = some (.int .i64 x.k) ∧ w.cell? ⟨(a.add (i * 2)).block, (a.add (i * 2)).off + 1, none⟩ = some (.int .i64 x.at_)
theorem LiesC.stays {w w' : World} {A : Option Addr} {cs : List C} (h : LiesC w A cs) (hb : ∀ a, A = some a → w'.heap[a.block]? = w.heap[a.block]?) : LiesC w' A cs := fun i x hx => by
  obtain ⟨a, e, h0, h1⟩ := h i x hx
  have hk : ∀ p : Addr, p.block = a.block → w'.cell? p = w.cell? p := fun p hp => World.cell?_of_block (by rw [hp]; exact hb a e)
  exact ⟨a, e, (hk _ (addr_block _ _)).trans h0, (hk _ (by show (a.add (i * 2)).block = _; exact addr_block _ _)).trans h1⟩
theorem own_len (K : Option Addr) (x y kc kd : Nat) : (Value.slice K x kc).ownBlock = (Value.slice K y kd).ownBlock := by cases K <;> rfl
/-- A disk in the midst of a crash. -/
def mid (d : D) (cs : List C) (k : Nat) : D := { d with kept := DP.crash d.p d.kept (d.q.take k) (cs.take k) }
theorem mid_ok {d : D} (h : d.Ok) (cs : List C) (k : Nat) : (mid d cs k).Ok :=
  ⟨h.sized.crash (fun w hw => h.whole w (List.mem_of_mem_take hw)), DP.crash_length _ _ _ _ _ h.fits (fun w hw => h.inside w (List.mem_of_mem_take hw)), h.whole, h.inside⟩
theorem mid_succ (d : D) (cs : List C) (k : Nat) (x : W) (c : C) (hx : d.q[k]? = some x) (hc : cs[k]? = some c) : (mid d cs (k + 1)).kept = DP.chosen d.p (mid d cs k).kept x c := by
  have h1 : d.q.take (k + 1) = d.q.take k ++ [x] := take_succ_w d.q k x hx
  have h2 : cs.take (k + 1) = cs.take k ++ [c] := by rw [List.take_add_one, hc]; rfl
  have hq := (List.getElem?_eq_some_iff.1 hx).1
  have hl := (List.getElem?_eq_some_iff.1 hc).1
  show DP.crash d.p d.kept (d.q.take (k + 1)) (cs.take (k + 1)) = _
  rw [h1, h2]
  exact DP.crash_snoc _ _ _ _ _ _ (by simp; omega)

set_option maxHeartbeats 2000000 in
set_option maxRecDepth 100000 in
theorem crashRef_any (b : Nat) (d : D) (A : Option Addr) (cs : List C) (ca : Nat) (c : Nat) (F : Nat → Prop) (w : World) (h : Has w c F b d) (ha : LiesC w A cs) (hF : ∀ a, A = some a → ¬ F a.block ∧ a.block < w.heap.size) (hq : d.q.length ≤ 5000) (hl : cs.length ≤ 5000) (hc : c ≤ w.heap.size) :
    Calls Tryd.prog 37 #[.pointer (some ⟨b, 0, none⟩), .slice A cs.length ca] w fun e w' => e = .returned (.tuple #[]) ∧ ∃ F', Has w' c F' b (d.crash cs) ∧ Chg F w w' ∧ Own w F F' := by
  have HQ := Lib.hid (fun k x hx => (List.getElem?_eq_some_iff.1 (show d.q[k]? = some x from hx)).1)
  have H := Lib.hid h
  have HA := Lib.hid ha
  have HF := Lib.hid hF
  have HSUC := Lib.hid (mid_succ d cs)
  have HMID : Hid (∀ k, (mid d cs k).q = d.q ∧ (mid d cs k).p = d.p ∧ (mid d cs k).left = d.left) := Lib.hid (fun k => ⟨rfl, rfl, rfl⟩)
  have HM0 : Hid (mid d cs 0 = d) := Lib.hid rfl
  obtain ⟨m, hm⟩ : ∃ m, m = d.q.length := ⟨_, rfl⟩
  have HM := Lib.hid hm
  obtain ⟨n, hn⟩ : ∃ n, n = cs.length := ⟨_, rfl⟩
  have HN := Lib.hid hn
  rw [← hn]
  rw [← hm] at hq
  rw [← hn] at hl
  clear h ha hF hm hn
  go_enter Tryd.func37, Tryd.ntmps37
  go_wp2_with fail
  go_loopw [4] (fun iv wr => ∃ k : Nat, k ≤ m ∧ k ≤ n ∧ iv = .int .i64 k ∧ Hid (∃ F', Has wr c F' b (mid d cs k) ∧ Own w F F') ∧ Hid (Chg F w wr)) (fun iv _ => m - (intOf iv).toNat)
  case atStart => exact ⟨0, by omega, by omega, rfl, Lib.hid ⟨F, by rw [HM0.out]; exact H.out, fun k _ hk => hk⟩, Lib.hid (Chg.refl F w)⟩
  case round =>
    obtain ⟨k, hk, hkn, rfl, HH, HC⟩ := hrel
    obtain ⟨F', hhas, hown⟩ := HH.out
    obtain ⟨K, P, kc, pc, h6, hK, hP, fK, fP⟩ := hhas.parts
    obtain ⟨c0, c1, c2, c3, c4, c5⟩ := h6.cells
    rw [(HMID.out k).2.1] at c0
    rw [(HMID.out k).1, ← HM.out] at c4
    have HH6 := Lib.hid h6
    have HHK := Lib.hid hK
    have HHP := Lib.hid hP
    have HHAS := Lib.hid hhas
    have HOWN := Lib.hid hown
    have HFK := Lib.hid fK
    have HFP := Lib.hid fP
    clear hhas hown h6 hK hP fK fP HH
    by_cases hlt : k < m ∧ k < n
    · obtain ⟨h1, h2⟩ := hlt
      have d1 : decide ((k : Int) < m) = true := by simp; omega
      have d2 : decide ((k : Int) < n) = true := by simp; omega
      obtain ⟨x, hx⟩ : ∃ y, d.q[k]? = some y := ⟨_, List.getElem?_eq_getElem (by have := HM.out; omega)⟩
      obtain ⟨y, hy⟩ : ∃ y, cs[k]? = some y := ⟨_, List.getElem?_eq_getElem (by have := HN.out; omega)⟩
      have hxx : (mid d cs k).q[k]? = some x := by rw [(HMID.out k).1]; exact hx
      obtain ⟨a, rfl, hab, x0, x1⟩ := liesW_own HHP.out rfl k x hxx
      have HX := Lib.hid hx
      have HY := Lib.hid hy
      obtain ⟨a', rfl, y0, y1⟩ := HA.out.stays (fun a e => HC.out.block _ (HF.out a e).2 (HF.out a e).1) k y hy
      have hk0 : (0 : Int) ≤ k := by omega
      clear hx hy hxx hab
      obtain ⟨xi, xs⟩ := x
      obtain ⟨yk, ya⟩ := y
      simp only at x0 x1 y0 y1
      have hb0 := below_alloc wr (.cells #[.int .i64 (xi : Int), .string xs] 80)
      have y0' := (hb0.cell (World.block_lt_of_cell? _ _ y0)).trans y0
      have y1' := (hb0.cell (World.block_lt_of_cell? _ _ y1)).trans y1
      have HH6' := Lib.hid (HH6.out.below hb0)
      have e0 := HH6'.out.cells.1
      have e3 := HH6'.out.cells.2.2.2.1
      have f3 := HH6'.out.free 3
      obtain ⟨z0, z1⟩ := dpair_cells (heap_alloc_new wr (.cells #[.int .i64 (xi : Int), .string xs] 80))
      have hw1 := HH6'.out.lt
      have hsm := HHAS.out.small
      have hfit := HHAS.out.ok.fits
      have hin := H.out.ok.inside _ (List.mem_of_getElem? HX.out)
      have hsml := H.out.small
      have hkl : (mid d cs k).kept.length ≤ 4096 := by have := hsm.2.1; omega
      have HKN : Hid (K = none → kc = 0 ∧ (mid d cs k).kept = []) := Lib.hid (fun e => by
        subst e
        rcases HHK.out.2 with ⟨q1, q2⟩ | ⟨g, cap, cur, q1, _⟩
        · simp only [Value.slice.injEq] at q1
          exact ⟨q1.2.2, List.eq_nil_of_length_eq_zero q2⟩
        · simp at q1)
      have HPT : Hid (∀ (sx : ByteArray) (W : World), Lies W W.heap.size K (mid d cs k).kept → Calls Tryd.prog 41 #[.slice K (mid d cs k).kept.length kc, .int .i64 d.p, .agg #[.int .i64 xi, .string sx]] W fun e w' => ∃ g cap, e = .returned (.slice (some ⟨g, 0, none⟩) (DP.put (DP.zero d.p) (mid d cs k).kept ⟨xi, sx⟩).length cap) ∧ w'.ownsRow W.heap.size 9 1 (.slice (some ⟨g, 0, none⟩) (DP.put (DP.zero d.p) (mid d cs k).kept ⟨xi, sx⟩).length cap) (DP.put (DP.zero d.p) (mid d cs k).kept ⟨xi, sx⟩).length (strCells (DP.put (DP.zero d.p) (mid d cs k).kept ⟨xi, sx⟩)) ∧ Below W.heap.size W w') := Lib.hid (fun sx W hW => put_any K _ kc d.p xi sx W (fun e => (HKN.out e).1) hW (by omega) hsml.1 (by have := hsml.2.1; simp only at hin; omega) (fun e => (HKN.out e).2))
      have HLW : Hid (∀ W, Below wr.heap.size wr W → Lies W W.heap.size K (mid d cs k).kept) := Lib.hid (fun W hW => lies_own (own_below HHK.out hW) rfl)
      have HOK := Lib.hid (mid_ok H.out.ok cs (k + 1))
      have HSTEP : Hid (∀ (l' : List ByteArray) (w2 : World) (g cap : Nat), (mid d cs (k + 1)).kept = l' → Below wr.heap.size wr w2 → w2.ownsRow wr.heap.size 9 1 (.slice (some ⟨g, 0, none⟩) l'.length cap) l'.length (strCells l') →
          (∃ F'', Has (w2.setCell ⟨b, 3, none⟩ (.slice (some ⟨g, 0, none⟩) l'.length cap)) c F'' b (mid d cs (k + 1)) ∧ Own w F F'') ∧ Chg F w (w2.setCell ⟨b, 3, none⟩ (.slice (some ⟨g, 0, none⟩) l'.length cap))) := Lib.hid (fun l' w2 g cap he hb ho => by
        have hs6 := HH6.out.below hb
        have hcw : c ≤ wr.heap.size := Nat.le_trans hc HC.out.size
        have hgl := ho.lt g rfl
        refine ⟨⟨fun x => F' x ∨ x = g, ⟨⟨some ⟨g, 0, none⟩, some a, cap, pc, ?_, ?_, own_set (own_below HHP.out hb) (hs6.ne_own (own_below HHP.out hb) (by decide)), fun g' hg' => .inr ?_, fun g' hg' => .inl (HFP.out g' hg')⟩, .inl HHAS.out.mine, fun x hx => ?_, fun x hx => ?_, HOK.out, HHAS.out.small⟩, fun x hx hx' => ?_⟩, ((HC.out.trans' (Chg.of_below hb)).set H.out.mine _ _)⟩
        · have h1 := hs6.set3 (.slice (some ⟨g, 0, none⟩) l'.length cap)
          rw [he]
          exact h1
        · rw [he]
          exact own_set (own_weaken ho hcw) (hs6.ne_own ho (by decide))
        · simp [Value.ownBlock] at hg'; exact hg'.symm
        · rcases hx with hx | hx
          · exact HHAS.out.low x hx
          · subst hx; omega
        · rw [World.size_setCell]
          rcases hx with hx | hx
          · exact Nat.lt_of_lt_of_le (HHAS.out.high x hx) hb.size
          · subst hx; exact hgl.2
        · rcases hx' with hx' | hx'
          · exact HOWN.out x hx hx'
          · have := HC.out.size; omega)
      have HSAME : Hid ((mid d cs (k + 1)).kept = (mid d cs k).kept → ∀ w2, Below wr.heap.size wr w2 → (∃ F'', Has w2 c F'' b (mid d cs (k + 1)) ∧ Own w F F'') ∧ Chg F w w2) := Lib.hid (fun he w2 hb => by
        have e : mid d cs (k + 1) = mid d cs k := by
          show ({ d with kept := (mid d cs (k + 1)).kept } : D) = { d with kept := (mid d cs k).kept }
          rw [he]
        rw [e]
        exact ⟨⟨F', HHAS.out.below hb, HOWN.out⟩, HC.out.trans' (Chg.of_below hb)⟩)
      have HCH := Lib.hid (HSUC.out k _ _ HX.out HY.out)
      clear hsm hfit hin hsml
      by_cases hk1 : yk = 1
      · subst hk1
        have HKP : Hid ((mid d cs (k + 1)).kept = DP.put (DP.zero d.p) (mid d cs k).kept ⟨xi, xs⟩) := Lib.hid (by rw [HCH.out]; rfl)
        go_wp2_with fail
        generalize hw0 : wr.alloc (.cells #[.int .i64 (xi : Int), .string xs] 80) = w0 at *
        clear y0 y1 y0' y1' c0 c1 c2 c3 c4 c5 x0 x1 hw0
        go_region_law (first
          | (go_simp; go_at_call 41; refine (HPT.out xs _ (HLW.out _ (by exact hb0.drew))).mono ?_; rintro e w2 ⟨g', cap', rfl, hown2, hb2⟩; have E3 := (HH6'.out.below (below_of_drew hb2)).cells.2.2.2.1; have F3 := (HH6'.out.below (below_of_drew hb2)).free 3))
        all_goals
          have hb3 : Below wr.heap.size wr w2 := hb0.trans' (below_of_drew hb2)
          have HFIN := Lib.hid (HSTEP.out _ w2 g' cap' HKP.out hb3 (own_weaken hown2 hb0.size))
          clear hown2 hb2 hb3
          go_wp2_with fail
          go_roundw
          case rel => exact ⟨k + 1, by omega, by omega, by simp, Lib.hid HFIN.out.1, Lib.hid HFIN.out.2⟩
          case measure => simp [intOf]; omega
      have k1 : (yk == 1) = false := beq_eq_false_iff_ne.2 hk1
      by_cases hk2 : yk = 2
      · subst hk2
        obtain ⟨at_, hat⟩ : ∃ at_, at_ = DP.clamp d.p ya := ⟨_, rfl⟩
        have hmx : max 0 (min ya (d.p : Int)) = (at_ : Int) := by rw [hat]; unfold DP.clamp; omega
        have hmx2 : max (min ya (d.p : Int)) 0 = (at_ : Int) := by omega
        have hatp : at_ ≤ d.p := by rw [hat]; unfold DP.clamp; omega
        obtain ⟨was, hwas⟩ : ∃ was, was = DP.page (DP.zero d.p) (mid d cs k).kept xi := ⟨_, rfl⟩
        have hwz : was.size = d.p := by rw [hwas]; exact HHAS.out.ok.sized.page xi
        have hxz : xs.size = d.p := H.out.ok.whole _ (List.mem_of_getElem? HX.out)
        have HKP : Hid ((mid d cs (k + 1)).kept = DP.put (DP.zero d.p) (mid d cs k).kept ⟨xi, xs.extract 0 at_ ++ was.extract at_ d.p⟩) := Lib.hid (by rw [HCH.out, DP.chosen, if_neg (by show ¬ (2 : Int) = 1; decide), if_pos rfl, hwas, hat]; rfl)
        obtain ⟨w0, hw0⟩ : ∃ w0, w0 = wr.alloc (.cells #[.int .i64 (xi : Int), .string xs] 80) := ⟨_, rfl⟩
        rw [← hw0] at hb0 y0' y1' HH6' e0 e3 f3 z0 z1
        have hsz0 : w0.heap.size = wr.heap.size + 1 := by rw [hw0]; simp
        have HW : Hid (∀ W, Below w0.heap.size w0 W → W.cell? ⟨b, 0, none⟩ = some (.int .i64 (d.p : Int)) ∧ W.cell? ⟨b, 3, none⟩ = some (.slice K (mid d cs k).kept.length kc) ∧ W.cell? ⟨wr.heap.size, 0, none⟩ = some (.int .i64 (xi : Int)) ∧ W.cell? ⟨wr.heap.size, 1, none⟩ = some (.string xs) ∧ W.cell? (a'.add (k * 2)) = some (.int .i64 2) ∧ W.cell? ⟨(a'.add (k * 2)).block, (a'.add (k * 2)).off + 1, none⟩ = some (.int .i64 ya) ∧ W.frozen? ⟨wr.heap.size, 1, none⟩ = false) := Lib.hid (fun W hW => by
          have h6 := (HH6'.out.below hW).cells
          exact ⟨h6.1, h6.2.2.2.1, (hW.cell (by show wr.heap.size < _; omega)).trans z0, (hW.cell (by show wr.heap.size < _; omega)).trans z1, (hW.cell (World.block_lt_of_cell? _ _ y0')).trans y0', (hW.cell (World.block_lt_of_cell? _ _ y1')).trans y1', by
            have h7 : W.heap[wr.heap.size]? = some (.cells #[.int .i64 (xi : Int), .string xs] 80 (0, 0)) := by
              rw [hW.block _ (by omega), hw0]
              exact heap_alloc_new wr _
            simp [World.frozen?, h7]⟩)
        have HB7 : Hid (∀ W, Below w0.heap.size w0 W → W.heap[wr.heap.size]? = some (.cells #[.int .i64 (xi : Int), .string xs] 80 (0, 0))) := Lib.hid (fun W hW => by
          rw [hW.block _ (by omega), hw0]
          exact heap_alloc_new wr _)
        have HYW : Hid (∀ W, Below wr.heap.size wr W → W.cell? (a'.add (k * 2)) = some (.int .i64 2)) := Lib.hid (fun W hW => (hW.cell (World.block_lt_of_cell? _ _ y0)).trans y0)
        have HREP := Lib.hid (fun W => zero_any d.p W H.out.small.1)
        have HWAS : Hid (was = if xi < (mid d cs k).kept.length then (mid d cs k).kept.getD xi (DP.zero d.p) else DP.zero d.p) := Lib.hid (by
          rw [hwas, DP.page]
          split
          · rfl
          · rw [List.getD_eq_getElem?_getD, List.getElem?_eq_none (by omega)]; rfl)
        clear hat hwas
        rw [hw0] at y0' y1' e0 e3 f3 z0 z1
        go_wp2_with fail
        rw [← hw0] at y0' y1' e0 e3 f3 z0 z1 ⊢
        clear y0 y1 c0 c1 c2 c3 c4 c5 x0 x1
        refine (HREP.out _).mono ?_
        rintro e w1 ⟨rfl, hb1⟩
        clear e0 e3 z0 z1 y0' y1' f3
        obtain ⟨e0, e3, z0, z1, y0, y1, zf⟩ := HW.out w1 hb1
        by_cases hxl : xi < (mid d cs k).kept.length
        · have d3 : decide (xi < (mid d cs k).kept.length) = true := by simpa using hxl
          obtain ⟨u, hu⟩ : ∃ u, (mid d cs k).kept[xi]? = some u := ⟨_, List.getElem?_eq_getElem hxl⟩
          obtain rfl : was = u := by rw [HWAS.out, if_pos hxl, List.getD_eq_getElem?_getD, hu]; rfl
          obtain ⟨kb, hKb, _, _⟩ := HLW.out wr (Below.refl _ _) xi was hu
          subst hKb
          have HKC : Hid (∀ W, Below w0.heap.size w0 W → W.cell? (kb.add xi) = some (.string was)) := Lib.hid (fun W hW => by
            obtain ⟨_, e, _, h⟩ := HLW.out W (hb0.trans' hW) xi was hu
            obtain rfl := Option.some.inj e
            exact h)
          have hxi0 : (0 : Int) ≤ (xi : Int) := by omega
          have hxil : (xi : Int) < (mid d cs k).kept.length := by omega
          clear hu
          go_wp2_with fail
          go_quiet (fail)
          have hb2 := below_drewN hb1 nq
          generalize w1.drewN nq = w2 at hb2 ⊢
          clear e0 e3 z0 z1 y0 y1 zf hb1
          obtain ⟨e0, e3, z0, z1, y0, y1, zf⟩ := HW.out w2 hb2
          have kc2 := HKC.out w2 hb2
          go_wp2_with fail
          go_quiet (fail)
          have hb3 := below_drewN hb2 nq
          generalize w2.drewN nq = w3 at hb3 ⊢
          clear e0 e3 z0 z1 y0 y1 zf hb2
          obtain ⟨e0, e3, z0, z1, y0, y1, zf⟩ := HW.out w3 hb3
          go_wp2_with fail
          go_quiet (fail)
          have hb4 := below_drewN hb3 nq
          generalize w3.drewN nq = w4 at hb4 ⊢
          clear e0 e3 z0 z1 y0 y1 zf hb3
          obtain ⟨e0, e3, z0, z1, y0, y1, zf⟩ := HW.out w4 hb4
          have hdp := H.out.small.1
          have s5 : ¬ 9223372036854775807 < d.p := by omega
          have s6 : ¬ (9223372036854775807 : Int) < (d.p : Int) := by omega
          have s3 : (0 : Int) ≤ (at_ : Int) := by omega
          have s4 : (at_ : Int) ≤ (d.p : Int) := by omega
          go_wp2_with fail
          go_region
          obtain ⟨new, hnew⟩ : ∃ new, new = xs.extract 0 at_ ++ was.extract at_ d.p := ⟨_, rfl⟩
          rw [← hnew] at HKP ⊢
          have hb5 : Below wr.heap.size wr ((w4.setCell ⟨wr.heap.size, 1, none⟩ (.string new)).drew) := (((hb0.trans' hb4)).setCell (Nat.le_refl _) _).drew
          have hbx : (w4.setCell ⟨wr.heap.size, 1, none⟩ (.string new)).drew.heap[wr.heap.size]? = some (.cells #[.int .i64 (xi : Int), .string new] 80 (0, 0)) := heap_setCell_same w4 wr.heap.size 1 _ _ _ (HB7.out w4 hb4)
          generalize (w4.setCell ⟨wr.heap.size, 1, none⟩ (.string new)).drew = v at hb5 hbx ⊢
          clear e0 e3 z0 z1 y0 y1 zf hb4 hnew s3 s4 s5 s6
          obtain ⟨z0, z1⟩ := dpair_cells hbx
          have HV6 := Lib.hid (HH6.out.below hb5)
          have e0 := HV6.out.cells.1
          have e3 := HV6.out.cells.2.2.2.1
          have y0 := HYW.out v hb5
          clear hbx
          go_wp2_with fail
          go_region_law (first
            | (go_simp; go_at_call 41; refine (HPT.out new _ (HLW.out _ (by exact hb5.drew))).mono ?_; rintro e w2' ⟨g', cap', rfl, hown2, hbp⟩; have E3 := (HV6.out.below (below_of_drew hbp)).cells.2.2.2.1; have F3 := (HV6.out.below (below_of_drew hbp)).free 3))
          all_goals
            have hb6 : Below wr.heap.size wr w2' := hb5.trans' (below_of_drew hbp)
            have HFIN := Lib.hid (HSTEP.out _ w2' g' cap' HKP.out hb6 (own_weaken hown2 hb5.size))
            clear hown2 hbp hb6
            go_wp2_with fail
            go_roundw
            case rel => exact ⟨k + 1, by omega, by omega, by simp, Lib.hid HFIN.out.1, Lib.hid HFIN.out.2⟩
            case measure => simp [intOf]; omega
        · have d3 : decide (xi < (mid d cs k).kept.length) = false := by simpa using hxl
          obtain rfl : was = DP.zero d.p := by rw [HWAS.out, if_neg hxl]
          go_wp2_with fail
          go_quiet (fail)
          have hb2 := below_drewN hb1 nq
          generalize w1.drewN nq = w2 at hb2 ⊢
          clear e0 e3 z0 z1 y0 y1 zf hb1
          obtain ⟨e0, e3, z0, z1, y0, y1, zf⟩ := HW.out w2 hb2
          go_wp2_with fail
          go_quiet (fail)
          have hb3 := below_drewN hb2 nq
          generalize w2.drewN nq = w3 at hb3 ⊢
          clear e0 e3 z0 z1 y0 y1 zf hb2
          obtain ⟨e0, e3, z0, z1, y0, y1, zf⟩ := HW.out w3 hb3
          have hdp := H.out.small.1
          have s5 : ¬ 9223372036854775807 < d.p := by omega
          have s6 : ¬ (9223372036854775807 : Int) < (d.p : Int) := by omega
          have s3 : (0 : Int) ≤ (at_ : Int) := by omega
          have s4 : (at_ : Int) ≤ (d.p : Int) := by omega
          go_wp2_with fail
          go_region
          obtain ⟨new, hnew⟩ : ∃ new, new = xs.extract 0 at_ ++ (DP.zero d.p).extract at_ d.p := ⟨_, rfl⟩
          rw [← hnew] at HKP ⊢
          have hb5 : Below wr.heap.size wr ((w3.setCell ⟨wr.heap.size, 1, none⟩ (.string new)).drew) := (((hb0.trans' hb3)).setCell (Nat.le_refl _) _).drew
          have hbx : (w3.setCell ⟨wr.heap.size, 1, none⟩ (.string new)).drew.heap[wr.heap.size]? = some (.cells #[.int .i64 (xi : Int), .string new] 80 (0, 0)) := heap_setCell_same w3 wr.heap.size 1 _ _ _ (HB7.out w3 hb3)
          generalize (w3.setCell ⟨wr.heap.size, 1, none⟩ (.string new)).drew = v at hb5 hbx ⊢
          clear e0 e3 z0 z1 y0 y1 zf hb3 hnew s3 s4 s5 s6
          obtain ⟨z0, z1⟩ := dpair_cells hbx
          have HV6 := Lib.hid (HH6.out.below hb5)
          have e0 := HV6.out.cells.1
          have e3 := HV6.out.cells.2.2.2.1
          have y0 := HYW.out v hb5
          clear hbx
          go_wp2_with fail
          go_region_law (first
            | (go_simp; go_at_call 41; refine (HPT.out new _ (HLW.out _ (by exact hb5.drew))).mono ?_; rintro e w2' ⟨g', cap', rfl, hown2, hbp⟩; have E3 := (HV6.out.below (below_of_drew hbp)).cells.2.2.2.1; have F3 := (HV6.out.below (below_of_drew hbp)).free 3))
          all_goals
            have hb6 : Below wr.heap.size wr w2' := hb5.trans' (below_of_drew hbp)
            have HFIN := Lib.hid (HSTEP.out _ w2' g' cap' HKP.out hb6 (own_weaken hown2 hb5.size))
            clear hown2 hbp hb6
            go_wp2_with fail
            go_roundw
            case rel => exact ⟨k + 1, by omega, by omega, by simp, Lib.hid HFIN.out.1, Lib.hid HFIN.out.2⟩
            case measure => simp [intOf]; omega
      · have k2 : (yk == 2) = false := beq_eq_false_iff_ne.2 hk2
        have HKP : Hid ((mid d cs (k + 1)).kept = (mid d cs k).kept) := Lib.hid (by rw [HCH.out, DP.chosen, if_neg hk1, if_neg hk2])
        have HFIN := Lib.hid (HSAME.out HKP.out _ hb0)
        clear hk1 hk2
        go_wp2_with fail
        go_roundw
        case rel => exact ⟨k + 1, by omega, by omega, by simp, Lib.hid HFIN.out.1, Lib.hid HFIN.out.2⟩
        case measure => simp [intOf]; omega
    · have hend : Hid (DP.crash d.p d.kept (d.q.take k) (cs.take k) = DP.crash d.p d.kept d.q cs) := Lib.hid (DP.crash_take d.p k d.q cs d.kept (by have := HM.out; have := HN.out; omega))
      have HS6 := Lib.hid HH6.out
      have f4 := HH6.out.free 4
      have f5 := HH6.out.free 5
      have f5' := (HH6.out.set4 (.slice none 0 0)).free 5
      have HEND : Hid (∃ F'', Has ((wr.setCell ⟨b, 4, none⟩ (.slice none 0 0)).setCell ⟨b, 5, none⟩ (.int .i64 (-1))) c F'' b (d.crash cs) ∧ Chg F w ((wr.setCell ⟨b, 4, none⟩ (.slice none 0 0)).setCell ⟨b, 5, none⟩ (.int .i64 (-1))) ∧ Own w F F'') := Lib.hid (by
        have hne := HH6.out.ne_own HHK.out (by decide)
        refine ⟨F', ⟨⟨K, none, kc, 0, ?_, ?_, World.ownsRow_nil _ _ _ _, fun g hg => HFK.out g (by rw [← hg]; exact own_len _ _ _ _ _), fun g hg => by simp [Value.ownBlock] at hg⟩, HHAS.out.mine, HHAS.out.low, fun x hx => by simpa using HHAS.out.high x hx, H.out.ok.crash cs, H.out.small.1, H.out.small.2.1, fun j hj => by cases hj⟩, ((HC.out.set H.out.mine _ _).set H.out.mine _ _), HOWN.out⟩
        · have h1 := (HH6.out.set4 (.slice none 0 0)).set5 (-1)
          show Six _ b d.p d.room d.reads (.slice K (DP.crash d.p d.kept d.q cs).length kc) (.slice none 0 0) (-1)
          rw [← hend.out]
          exact h1
        · show World.ownsRow _ c 9 1 (.slice K (DP.crash d.p d.kept d.q cs).length kc) (DP.crash d.p d.kept d.q cs).length (strCells (DP.crash d.p d.kept d.q cs))
          rw [← hend.out]
          exact own_set (own_set HHK.out hne) hne)
      by_cases h1 : k < m
      · have d1 : decide ((k : Int) < m) = true := by simp; omega
        have d2 : decide ((k : Int) < n) = false := by simp; omega
        have d2n : decide (k < n) = false := by simp; omega
        have d1n : decide (k < m) = true := by simp; omega
        clear hlt
        go_wp2_with fail
        go_end0
        exact ⟨rfl, HEND.out⟩
      · have d1 : decide ((k : Int) < m) = false := by simp; omega
        clear hlt
        go_wp2_with fail
        go_end0
        exact ⟨rfl, HEND.out⟩
end Go.Proofs.YtaeiifmdbdhoeaaDoor
