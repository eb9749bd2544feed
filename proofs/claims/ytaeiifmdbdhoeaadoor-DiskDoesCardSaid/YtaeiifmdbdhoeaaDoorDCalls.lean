/-
  The document's disk as an object with blocks of its own; the walks of its Limit, Write, Sync.
-/
import Derived.Test.YtaeiifmdbdhoeaaDoorDAll
import Derived.OpenShut
namespace Go.Proofs.YtaeiifmdbdhoeaaDoor
open Go.RowKit
open DP (W D)
open Go.ChangeShapes
set_option linter.unusedVariables false
set_option linter.unusedSimpArgs false

theorem Tryd.infoWrite : (Tryd.prog.info? 80).map (fun i => (i.zero, i.size, i.bytes)) = some (some (.agg #[.int .i64 0, .string ⟨#[]⟩]), 2, 24) := by kernel_rfl

/-- What the disk has left, as a number: -1 where there is no limit. -/
def leftV : Option Nat → Int
  | none => -1
  | some n => n
/-- A disk of the document: its block b, its rows, all of them in F, none of them below c. -/
structure Has (w : World) (c : Nat) (F : Nat → Prop) (b : Nat) (d : D) : Prop where
  parts : ∃ K P kc pc, Six w b d.p d.room d.reads (.slice K d.kept.length kc) (.slice P d.q.length pc) (leftV d.left) ∧
    w.ownsRow c 9 1 (.slice K d.kept.length kc) d.kept.length (strCells d.kept) ∧
    w.ownsRow c 80 2 (.slice P d.q.length pc) d.q.length (wCells d.q) ∧
    (∀ g, (Value.slice K d.kept.length kc).ownBlock = some g → F g) ∧ (∀ g, (Value.slice P d.q.length pc).ownBlock = some g → F g)
  mine : F b
  low : ∀ k, F k → c ≤ k
  high : ∀ k, F k → k < w.heap.size
  ok : d.Ok
  small : d.p ≤ 1024 ∧ d.room ≤ 4096 ∧ ∀ n, d.left = some n → n ≤ 9223372036854775807

theorem Six.ne_own {w : World} {b : Nat} {p room reads lf : Int} {K P : Value} {c e size n : Nat} {v : Value} {xs : List Value} (h : Six w b p room reads K P lf) (ho : w.ownsRow c e size v n xs) (he : e ≠ 42) : ∀ g, v.ownBlock = some g → g ≠ b := fun g hg hb => by
  subst hb
  obtain ⟨cur, h1⟩ := own_type ho hg
  unfold Six at h
  rw [h] at h1
  simp at h1
  exact he h1.2.symm
theorem own_ne_own {w : World} {c c' e e' size size' n n' : Nat} {v v' : Value} {xs xs' : List Value} (h : w.ownsRow c e size v n xs) (h' : w.ownsRow c' e' size' v' n' xs') (he : e ≠ e') : ∀ g, v.ownBlock = some g → v'.ownBlock ≠ some g := fun g hg hg' => by
  obtain ⟨cur, h1⟩ := own_type h hg
  obtain ⟨cur', h2⟩ := own_type h' hg'
  rw [h1] at h2
  simp at h2
  exact he h2.2
theorem own_set {w : World} {b i : Nat} {x : Value} {c e size n : Nat} {v : Value} {xs : List Value} (h : w.ownsRow c e size v n xs) (hne : ∀ g, v.ownBlock = some g → g ≠ b) : (w.setCell ⟨b, i, none⟩ x).ownsRow c e size v n xs :=
  own_stays h fun g hg => heap_setCell_other _ _ _ _ (hne g hg)
/-- A disk stays where its blocks stay. -/
theorem Has.stays {w w' : World} {c : Nat} {F : Nat → Prop} {b : Nat} {d : D} (h : Has w c F b d) (hs : w.heap.size ≤ w'.heap.size) (hb : ∀ k, F k → w'.heap[k]? = w.heap[k]?) : Has w' c F b d := by
  obtain ⟨K, P, kc, pc, h6, hK, hP, fK, fP⟩ := h.parts
  exact ⟨⟨K, P, kc, pc, h6.stays (hb b h.mine), own_stays hK fun g hg => hb g (fK g hg), own_stays hP fun g hg => hb g (fP g hg), fK, fP⟩, h.mine, h.low, fun k hk => Nat.lt_of_lt_of_le (h.high k hk) hs, h.ok, h.small⟩
theorem Has.below {w w' : World} {c : Nat} {F : Nat → Prop} {b : Nat} {d : D} (h : Has w c F b d) (k : Below w.heap.size w w') : Has w' c F b d := h.stays k.size fun g hg => k.block g (h.high g hg)
/-- .. and where another one's blocks alone are changed. -/
theorem Has.chg {w w' : World} {c : Nat} {F G : Nat → Prop} {b : Nat} {d : D} (h : Has w c F b d) (k : Chg G w w') (hd : ∀ i, F i → ¬ G i) : Has w' c F b d := h.stays k.size fun g hg => k.block g (h.high g hg) (hd g hg)
theorem Has.rd {w : World} {c : Nat} {F : Nat → Prop} {b : Nat} {d : D} (h : Has w c F b d) (hq : d.q.length ≤ 5000) : ∃ K P kc pc, Rd w b d K P kc pc (leftV d.left) := by
  obtain ⟨K, P, kc, pc, h6, hK, hP, _, _⟩ := h.parts
  refine ⟨K, P, kc, pc, h6, lies_own hK rfl, liesW_own hP rfl, fun e => ?_, by have := h.ok.fits; have := h.small.2.1; omega, hq, h.small.1, fun x hx => by have := h.ok.inside x hx; have := h.small.2.1; omega⟩
  subst e
  rcases hK.2 with ⟨h1, h2⟩ | ⟨g, cap, cur, h1, _⟩
  · simp only [Value.slice.injEq] at h1
    exact ⟨h1.2.2, List.eq_nil_of_length_eq_zero h2⟩
  · simp at h1
/-- Less is left. -/
theorem less_small {d : D} (h : ∀ n, d.left = some n → n ≤ 9223372036854775807) : ∀ n, d.less = some n → n ≤ 9223372036854775807 := fun n hn => by
  unfold D.less at hn
  cases hl : d.left with
  | none => rw [hl] at hn; cases hn
  | some m =>
    rw [hl] at hn
    have h1 := h m hl
    have h2 : m - 1 = n := Option.some.inj hn
    omega

set_option maxRecDepth 100000 in
theorem limitRef_any (b : Nat) (d : D) (n : Int) (c : Nat) (F : Nat → Prop) (w : World) (h : Has w c F b d) (hn : (Lit.int .i64 n).wf = true) :
    Calls Tryd.prog 36 #[.pointer (some ⟨b, 0, none⟩), .int .i64 n] w fun e w' => e = .returned (.tuple #[]) ∧ Has w' c F b (d.limit n) ∧ Chg F w w' := by
  obtain ⟨K, P, kc, pc, h6, hK, hP, fK, fP⟩ := h.parts
  obtain ⟨c0, c1, c2, c3, c4, c5⟩ := h6.cells
  have hfr := h6.free 5
  have hb := bounds_i64 hn
  have HK := Lib.hid hK
  have HP := Lib.hid hP
  have H6 := Lib.hid h6
  have H := Lib.hid h
  clear hK hP h6 h
  go_enter Tryd.func36, Tryd.ntmps36
  go_wp2_with fail
  go_end0
  refine ⟨rfl, ⟨⟨K, P, kc, pc, ?_, own_set HK.out (H6.out.ne_own HK.out (by decide)), own_set HP.out (H6.out.ne_own HP.out (by decide)), fK, fP⟩, H.out.mine, H.out.low, fun k hk => by simpa using H.out.high k hk, H.out.ok.limit n, H.out.small.1, H.out.small.2.1, fun j hj => ?_⟩, (Chg.refl F w).set H.out.mine _ _⟩
  · have h2 := H6.out.set5 (max 0 n)
    have e : leftV (d.limit n).left = max 0 n := by show ((n.toNat : Nat) : Int) = max 0 n; omega
    rw [e]
    exact h2
  · have h3 : some n.toNat = some j := hj
    have := Option.some.inj h3
    omega

/-- What a call leaves of the blocks: those that were there are its own. -/
def Own (w : World) (F F' : Nat → Prop) : Prop := ∀ k, k < w.heap.size → F' k → F k

theorem dwrite_left (b : Nat) (d : D) (i : Int) (s : ByteArray) (h : d.left = some 0) : d.write i s = (d, 9) := by unfold D.write; rw [if_pos h]
theorem dwrite_arg (d : D) (i : Int) (s : ByteArray) (h : d.left ≠ some 0) (k : i < 0 ∨ s.size ≠ d.p) : d.write i s = (d, 4) := by unfold D.write; rw [if_neg h, if_pos k]
theorem dwrite_full (d : D) (i : Int) (s : ByteArray) (h : d.left ≠ some 0) (k : 0 ≤ i) (k' : s.size = d.p) (hi : (d.room : Int) ≤ i) : d.write i s = (d, 2) := by unfold D.write; rw [if_neg h, if_neg (by omega), if_pos hi]
theorem left_zero {d : D} (h : d.left = some 0) : leftV d.left = 0 := by rw [h]; rfl
theorem left_more {d : D} (h : d.left ≠ some 0) : leftV d.left = -1 ∧ d.less = none ∨ ∃ m : Nat, leftV d.left = (m : Int) + 1 ∧ d.less = some m ∧ d.left = some (m + 1) := by
  cases hl : d.left with
  | none => exact .inl ⟨rfl, by unfold D.less; rw [hl]; rfl⟩
  | some n =>
    cases n with
    | zero => exact absurd hl h
    | succ m => exact .inr ⟨m, rfl, by unfold D.less; rw [hl]; rfl, rfl⟩

set_option maxHeartbeats 1000000 in
set_option maxRecDepth 100000 in
theorem writeRef_any (b : Nat) (d : D) (i : Int) (s : ByteArray) (c : Nat) (F : Nat → Prop) (w : World) (h : Has w c F b d) (hi : (Lit.int .i64 i).wf = true) (hs : s.size ≤ maxLen) (hq : d.q.length ≤ 4000) (hc : c ≤ w.heap.size) :
    Calls Tryd.prog 34 #[.pointer (some ⟨b, 0, none⟩), .int .i64 i, .string s] w fun e w' => e = .returned (.int .i64 (d.write i s).2) ∧ ∃ F', Has w' c F' b (d.write i s).1 ∧ Chg F w w' ∧ Own w F F' := by
  obtain ⟨i0, hi0, hz0, hz1, hz2⟩ := info_parts Tryd.infoWrite
  obtain ⟨K, P, kc, pc, h6, hK, hP, fK, fP⟩ := h.parts
  have hib := bounds_i64 hi
  unfold maxLen at hs
  have HK := Lib.hid hK
  have HP := Lib.hid hP
  have H6 := Lib.hid h6
  have H := Lib.hid h
  have FK := Lib.hid fK
  have FP := Lib.hid fP
  obtain ⟨c0, c1, c2, c3, c4, c5⟩ := h6.cells
  have same : Has w c F b d ∧ Chg F w w ∧ Own w F F := ⟨h, Chg.refl F w, fun k _ hk => hk⟩
  have HSame := Lib.hid same
  clear same
  by_cases hl : d.left = some 0
  · rw [dwrite_left b d i s hl]
    rw [left_zero hl] at c5
    clear hl hK hP h6 h fK fP
    go_enter Tryd.func34, Tryd.ntmps34
    go_wp2_with fail
    go_ret
    exact ⟨rfl, F, HSame.out⟩
  have hl0 : (leftV d.left == 0) = false := by
    rw [beq_eq_false_iff_ne]
    rcases left_more hl with ⟨h1, _⟩ | ⟨m, h1, _, _⟩ <;> omega
  by_cases h1 : i < 0
  · rw [dwrite_arg d i s hl (.inl h1)]
    have d1 : decide (i < 0) = true := by simpa using h1
    clear hl hK hP h6 h fK fP
    go_enter Tryd.func34, Tryd.ntmps34
    go_wp2_with fail
    go_ret
    exact ⟨rfl, F, HSame.out⟩
  have d1 : decide (i < 0) = false := by simpa using h1
  by_cases h2 : s.size = d.p
  rotate_left
  · rw [dwrite_arg d i s hl (.inr h2)]
    have d2 : ((s.size : Int) != (d.p : Int)) = true := by rw [bne_iff_ne]; omega
    clear hl hK hP h6 h fK fP h2
    go_enter Tryd.func34, Tryd.ntmps34
    go_wp2_with fail
    go_ret
    exact ⟨rfl, F, HSame.out⟩
  have d2 : ((s.size : Int) != (d.p : Int)) = false := by rw [h2]; simp
  by_cases h3 : (d.room : Int) ≤ i
  · rw [dwrite_full d i s hl (by omega) h2 h3]
    have d3 : decide ((d.room : Int) ≤ i) = true := by simpa using h3
    clear hl hK hP h6 h fK fP h2
    go_enter Tryd.func34, Tryd.ntmps34
    go_wp2_with fail
    go_ret
    exact ⟨rfl, F, HSame.out⟩
  have d3 : decide ((d.room : Int) ≤ i) = false := by simpa using h3
  obtain ⟨j, rfl⟩ := Int.eq_ofNat_of_zero_le (show 0 ≤ i by omega)
  have HW := Lib.hid (D.write_ok d j s hl h2 (by omega))
  have HL := Lib.hid (left_more hl)
  have HOk : Hid (d.write j s).1.Ok := Lib.hid (h.ok.write j s)
  rw [HW.out]
  rw [HW.out] at HOk
  have hbl := h6.lt
  have HNE : Hid (some b ≠ (Value.slice P d.q.length pc).ownBlock) := Lib.hid (fun e => h6.ne_own hP (by decide) b e.symm rfl)
  have HNK : Hid ((Value.slice K d.kept.length kc).ownBlock = none ∨ (Value.slice K d.kept.length kc).ownBlock ≠ (Value.slice P d.q.length pc).ownBlock) := Lib.hid (by
    cases hg : (Value.slice K d.kept.length kc).ownBlock with
    | none => exact .inl rfl
    | some g => exact .inr (fun e => own_ne_own hK hP (by decide) g hg e.symm))
  have HLK : Hid (∀ g, (Value.slice K d.kept.length kc).ownBlock = some g → g ≠ b) := Lib.hid (h6.ne_own hK (by decide))
  generalize hlf : leftV d.left = LF at *
  have HQN : Hid ((d.q ++ [(⟨j, s⟩ : W)]).length = d.q.length + 1) := Lib.hid (by simp)
  obtain ⟨qn, hqn⟩ : ∃ qn, qn = d.q.length := ⟨_, rfl⟩
  have HQ := Lib.hid hqn
  rw [← hqn] at HQN hq c4 HNE HNK H6 HP FP
  have d4 : (0 : Int) ≤ (j : Int) := by omega
  have d3n : decide (d.room ≤ j) = false := by simp; omega
  -- what the disk is behind the call, from the parts
  have HFIN : Hid (∀ (w3 : World) (g' cap' : Nat) (L : Int), Six w3 b d.p d.room d.reads (.slice K d.kept.length kc) (.slice (some ⟨g', 0, none⟩) (qn + 1 : Nat) cap') L → L = leftV d.less →
      w3.ownsRow c 9 1 (.slice K d.kept.length kc) d.kept.length (strCells d.kept) → w3.ownsRow c 80 2 (.slice (some ⟨g', 0, none⟩) (qn + 1 : Nat) cap') (qn + 1) (wCells (d.q ++ [(⟨j, s⟩ : W)])) → Chg F w w3 → (∀ k, k < w.heap.size → k = g' → F k) →
      ∃ F', Has w3 c F' b { d with q := d.q ++ [(⟨j, s⟩ : W)], left := d.less } ∧ Chg F w w3 ∧ Own w F F') := Lib.hid (fun w3 g' cap' L h6' hL hK' hP' hch hg => by
    subst hL
    refine ⟨fun k => F k ∨ k = g', ⟨⟨K, some ⟨g', 0, none⟩, kc, cap', ?_, hK', ?_, fun g hg' => .inl (FK.out g hg'), fun g hg' => .inr ?_⟩, .inl H.out.mine, fun k hk => ?_, fun k hk => ?_, HOk.out, H.out.small.1, H.out.small.2.1, less_small H.out.small.2.2⟩, hch, fun k hk hk' => ?_⟩
    · show Six w3 b d.p d.room d.reads (.slice K d.kept.length kc) (.slice (some ⟨g', 0, none⟩) (d.q ++ [(⟨j, s⟩ : W)]).length cap') (leftV d.less)
      rw [HQN.out]; exact h6'
    · show w3.ownsRow c 80 2 (.slice (some ⟨g', 0, none⟩) (d.q ++ [(⟨j, s⟩ : W)]).length cap') (d.q ++ [(⟨j, s⟩ : W)]).length (wCells (d.q ++ [(⟨j, s⟩ : W)]))
      rw [HQN.out]; exact hP'
    · simp [Value.ownBlock] at hg'; exact hg'.symm
    · rcases hk with hk | hk
      · exact H.out.low k hk
      · subst hk; exact (hP'.lt k rfl).1
    · rcases hk with hk | hk
      · exact Nat.lt_of_lt_of_le (H.out.high k hk) hch.size
      · subst hk; exact (hP'.lt k rfl).2
    · rcases hk' with hk' | hk'
      · exact hk'
      · exact hg k hk hk')
  clear hK hP h6 h fK fP h2 HSame HW HOk hqn hl h1 h3
  rcases HL.out with ⟨hL, hD⟩ | ⟨mm, hL, hD, hE⟩
  · obtain rfl : LF = -1 := by omega
    have HDL : Hid ((-1 : Int) = leftV d.less) := Lib.hid (by rw [hD]; try rfl)
    clear hL hD hlf HL
    go_enter Tryd.func34, Tryd.ntmps34
    go_wp2_with (first
      | (at_builtin; refine wpList_append_lies _ rfl _ _ 40 rfl c 80 i0 (.agg #[.int .i64 0, .string ⟨#[]⟩]) 2 24 Tryd.underlying40 hi0 hz0 hz1 hz2 rfl (by decide) (.slice P qn pc) qn _ rfl (HP.out.alloc _) ⟨w.heap.size, 0, none⟩ 1 1 [.int .i64 j, .string s] rfl rfl (World.news_of_block (cs := #[.int .i64 j, .string s]) (t := 80) (fr := (0, 0)) (heap_alloc_new w _)) (by simp [Value.oneCell']) (by omega) (by unfold maxLen; omega) (by omega) (by simp; omega) (w.heap.size + 1) (by simp) ?_; intro g' cap' w2 hown2 hgrow2 hat2 hlt2;
          have SIX2 : Hid (Six w2 b d.p d.room d.reads (.slice K d.kept.length kc) (.slice P qn pc) (-1)) := Lib.hid ((H6.out.below (below_alloc w _)).stays (hgrow2.block b (by simp; omega) (HNE.out)));
          have hf4 := SIX2.out.free 4;
          have e5a := SIX2.out.cells.2.2.2.2.2;
          have e4a := SIX2.out.cells.2.2.2.2.1;
          have hf5a := SIX2.out.free 5;
          have e5 := (SIX2.out.set4 (.slice (some ⟨g', 0, none⟩) (qn + 1 : Nat) cap')).cells.2.2.2.2.2;
          have hf5 := (SIX2.out.set4 (.slice (some ⟨g', 0, none⟩) (qn + 1 : Nat) cap')).free 5))
    have hkk : Hid (w2.ownsRow c 9 1 (.slice K d.kept.length kc) d.kept.length (strCells d.kept)) := Lib.hid ((HK.out.alloc _).kept hgrow2 (HNK.out))
    have hgw : Hid (∀ k, k < w.heap.size → k = g' → F k) := Lib.hid (fun k hk e => by
      rcases hat2 with h1 | h1
      · rw [e]; exact FP.out g' h1
      · omega)
    have hch : Hid (Chg F w w2) := Lib.hid ((Chg.of_below (F := F) (below_alloc w _)).grown hgrow2 (fun g hg => FP.out g hg))
    have hpp : Hid (w2.ownsRow c 80 2 (.slice (some ⟨g', 0, none⟩) (qn + 1 : Nat) cap') (qn + 1) (wCells (d.q ++ [(⟨j, s⟩ : W)]))) := Lib.hid (by rw [wCells_snoc]; exact hown2)
    go_wp2_with fail
    go_ret
    refine ⟨rfl, HFIN.out _ g' cap' (-1) (SIX2.out.set4 _) HDL.out (own_set hkk.out HLK.out) (own_set hpp.out ((SIX2.out.ne_own hpp.out (by decide)))) (hch.out.set H.out.mine _ _) hgw.out⟩
  · obtain rfl : LF = (mm : Int) + 1 := by omega
    have HDL : Hid ((mm : Int) = leftV d.less) := Lib.hid (by rw [hD]; rfl)
    have d5 : decide ((0 : Int) < (mm : Int) + 1) = true := by simp only [decide_eq_true_eq]; omega
    have hmm := H.out.small.2.2 (mm + 1) hE
    have hw64 : wrap64 (mm : Int) = mm := by rw [← IntWalk.i64_left]; exact IntWalk.i64_in _ (by omega)
    clear hL hD HL hlf hE
    go_enter Tryd.func34, Tryd.ntmps34
    go_wp2_with (first
      | (at_builtin; refine wpList_append_lies _ rfl _ _ 40 rfl c 80 i0 (.agg #[.int .i64 0, .string ⟨#[]⟩]) 2 24 Tryd.underlying40 hi0 hz0 hz1 hz2 rfl (by decide) (.slice P qn pc) qn _ rfl (HP.out.alloc _) ⟨w.heap.size, 0, none⟩ 1 1 [.int .i64 j, .string s] rfl rfl (World.news_of_block (cs := #[.int .i64 j, .string s]) (t := 80) (fr := (0, 0)) (heap_alloc_new w _)) (by simp [Value.oneCell']) (by omega) (by unfold maxLen; omega) (by omega) (by simp; omega) (w.heap.size + 1) (by simp) ?_; intro g' cap' w2 hown2 hgrow2 hat2 hlt2;
          have SIX2 : Hid (Six w2 b d.p d.room d.reads (.slice K d.kept.length kc) (.slice P qn pc) ((mm : Int) + 1)) := Lib.hid ((H6.out.below (below_alloc w _)).stays (hgrow2.block b (by simp; omega) (HNE.out)));
          have hf4 := SIX2.out.free 4;
          have e5a := SIX2.out.cells.2.2.2.2.2;
          have e4a := SIX2.out.cells.2.2.2.2.1;
          have hf5a := SIX2.out.free 5;
          have e5 := (SIX2.out.set4 (.slice (some ⟨g', 0, none⟩) (qn + 1 : Nat) cap')).cells.2.2.2.2.2;
          have hf5 := (SIX2.out.set4 (.slice (some ⟨g', 0, none⟩) (qn + 1 : Nat) cap')).free 5))
    have hkk : Hid (w2.ownsRow c 9 1 (.slice K d.kept.length kc) d.kept.length (strCells d.kept)) := Lib.hid ((HK.out.alloc _).kept hgrow2 (HNK.out))
    have hgw : Hid (∀ k, k < w.heap.size → k = g' → F k) := Lib.hid (fun k hk e => by
      rcases hat2 with h1 | h1
      · rw [e]; exact FP.out g' h1
      · omega)
    have hch : Hid (Chg F w w2) := Lib.hid ((Chg.of_below (F := F) (below_alloc w _)).grown hgrow2 (fun g hg => FP.out g hg))
    have hpp : Hid (w2.ownsRow c 80 2 (.slice (some ⟨g', 0, none⟩) (qn + 1 : Nat) cap') (qn + 1) (wCells (d.q ++ [(⟨j, s⟩ : W)]))) := Lib.hid (by rw [wCells_snoc]; exact hown2)
    go_wp2_with fail
    go_ret
    have six3 := SIX2.out.set4 (.slice (some ⟨g', 0, none⟩) (qn + 1 : Nat) cap')
    refine ⟨rfl, HFIN.out _ g' cap' mm (six3.set5 mm) HDL.out (own_set (own_set hkk.out HLK.out) HLK.out) (own_set (own_set hpp.out (SIX2.out.ne_own hpp.out (by decide))) (SIX2.out.ne_own hpp.out (by decide))) ((hch.out.set H.out.mine _ _).set H.out.mine _ _) hgw.out⟩
end Go.Proofs.YtaeiifmdbdhoeaaDoor
