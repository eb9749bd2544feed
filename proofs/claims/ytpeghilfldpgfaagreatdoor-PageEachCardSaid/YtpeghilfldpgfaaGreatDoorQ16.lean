import Derived.Test.YtpeghilfldpgfaaGreatDoorQ15
namespace Go.Proofs.YtpeghilfldpgfaaGreatDoor
open Go.RowKit
set_option linter.unusedVariables false
set_option linter.unusedSimpArgs false
theorem pat_any (A : Option Addr) (l : List ByteArray) (ca : Nat) (i : Int) (w : World) (hg : L10.Glo w) (ha : L5.Lies w w.heap.size A l) (hs : ∀ s ∈ l, s.size ≤ 1000000) :
    Calls Tryz.prog 10 #[.slice A l.length ca, .int .i64 i] w fun e w' => AtG l i w.heap.size e w' ∧ Below w.heap.size w w' := by
  by_cases h : 0 ≤ i ∧ i < l.length
  · obtain ⟨n, rfl⟩ := Int.eq_ofNat_of_zero_le h.1
    exact pat_in A l ca n w hg ha (by omega) hs
  · exact pat_out A l ca i w h
theorem AtG.kind {l : List ByteArray} {i : Nat} {B : Nat} {e : Ending} {w' : World} (h : AtG l i B e w') : ∃ k a b c m r, e = .returned (.tuple #[gv k a b c m, .int .i64 r]) ∧ k = GP.kindAt l i ∧ ((r = 0) ∨ ((r == 0) = false ∧ k = 0)) := by
  rcases h with ⟨k, a, b, c, m, x, h1, rfl, h2, _⟩ | ⟨r, h1, h2, rfl⟩
  · exact ⟨k, a, b, c, m, 0, rfl, by unfold GP.kindAt; rw [h1]; exact h2.kind, .inl rfl⟩
  · refine ⟨0, LV0, NV0, CV0, Mv0, r, rfl, by unfold GP.kindAt; rw [h1], .inr ⟨?_, rfl⟩⟩
    rcases h2 with rfl | rfl <;> rfl
theorem own_on {w w' : World} {b e s n : Nat} {v : Value} {xs : List Value} (h : w.ownsRow b e s v n xs) (k : Below w.heap.size w w') : w'.ownsRow b e s v n xs :=
  h.kept (row := none) ⟨k.os, k.tape, k.output, k.size, fun i hi _ => k.block i hi⟩ (by cases v.ownBlock <;> simp)
theorem Tryz.infoInt : (Tryz.prog.info? 3).map (fun i => (i.zero, i.size, i.bytes)) = some (some (.int .i64 0), 1, 8) := by kernel_rfl
def surv (l : List ByteArray) (n k : Nat) : List Int := (List.range n).map fun j => if j < k then GP.kindAt l j else 0
theorem surv_length (l : List ByteArray) (n k : Nat) : (surv l n k).length = n := by simp [surv]
theorem surv_zero (l : List ByteArray) (n : Nat) : L11.numCells (surv l n 0) = List.replicate n (.int .i64 0) := by
  apply List.ext_getElem
  · simp [L11.numCells, surv]
  · intro i h1 h2
    simp [L11.numCells, surv]
theorem surv_all (l : List ByteArray) : surv l l.length l.length = GP.survey l := by
  unfold surv GP.survey
  apply List.map_congr_left
  intro j hj
  rw [if_pos (List.mem_range.1 hj)]
theorem surv_at {l : List ByteArray} {n k : Nat} (h : k < n) : (L11.numCells (surv l n k))[k]? = some (.int .i64 0) := by simp [L11.numCells, surv, h]
theorem surv_set {l : List ByteArray} {n k : Nat} (h : k < n) : (L11.numCells (surv l n k)).set k (.int .i64 (GP.kindAt l k)) = L11.numCells (surv l n (k + 1)) := by
  apply List.ext_getElem?
  intro i
  rw [List.getElem?_set]
  by_cases e : k = i
  · subst e
    simp [L11.numCells, surv, h]
  · rw [if_neg e]
    simp only [L11.numCells, surv, List.getElem?_map]
    by_cases hi : i < n
    · rw [List.getElem?_range hi]
      simp only [Option.map_some]
      have : (i < k + 1) ↔ i < k := by omega
      simp only [this]
    · simp [hi]
set_option maxHeartbeats 4000000 in
set_option maxRecDepth 100000 in
theorem psurvey_any (A : Option Addr) (l : List ByteArray) (ca : Nat) (w : World) (hg : L10.Glo w) (ha : L5.Lies w w.heap.size A l) (hl : l.length ≤ 1000) (hs : ∀ s ∈ l, s.size ≤ 1000000) :
    Calls Tryz.prog 15 #[.slice A l.length ca] w fun e w' => ∃ G cap, e = .returned (.slice G l.length cap) ∧ L11.LiesN w' w'.heap.size G (GP.survey l) ∧ Below w.heap.size w w' := by
  obtain ⟨i0, hi, hz0, hz1, hz2⟩ := info_parts Tryz.infoInt
  have HAT := Lib.hid (fun (k : Nat) W (h : Below w.heap.size w W) => pat_any A l ca k W (hg.on h) (ha.on h) hs)
  have HSV := Lib.hid (surv_all l)
  obtain ⟨n, hn⟩ : ∃ n, n = l.length := ⟨_, rfl⟩
  rw [← hn] at hl HAT HSV ⊢
  clear hg ha hs hn
  go_enter Tryz.func15, Tryz.ntmps15
  go_wp2_with (at_make; refine wpList_make_full _ rfl _ _ 27 rfl w.heap.size 3 i0 (.int .i64 0) 1 Tryz.underlying27 hi hz0 hz1 _ _ _ _ n rfl rfl rfl rfl (by rw [hz2]; omega) (by unfold maxLen; omega) (Nat.le_refl _) ?_; intro w1 hown1 hg1)
  have HB1 : Hid (Below w.heap.size w w1) := Lib.hid ((Below.refl _ w).grown hg1 (Nat.le_refl _) (by simp))
  have HO1 : Hid (w1.ownsRow w.heap.size 3 1 (.slice (some ⟨w.heap.size, 0, none⟩) n n) n (L11.numCells (surv l n 0))) := Lib.hid (by
    rw [surv_zero]
    have h := hown1
    rw [Nat.mul_one, show (Value.int IntKind.i64 0).cells = #[.int .i64 0] from rfl, toList_madeCells_one] at h
    exact h)
  clear hown1 hg1
  go_loopw [12] (fun iv wr => ∃ k : Nat, k ≤ n ∧ iv = .int .i64 k ∧ Hid (wr.ownsRow w.heap.size 3 1 (.slice (some ⟨w.heap.size, 0, none⟩) n n) n (L11.numCells (surv l n k))) ∧ Hid (Below w.heap.size w wr)) (fun iv _ => n - (intOf iv).toNat)
  case atStart => exact ⟨0, Nat.zero_le _, rfl, HO1, HB1⟩
  case round =>
    obtain ⟨k, hk, rfl, HO, HB⟩ := hrel
    by_cases hlt : k < n
    · have d1 : decide ((k : Int) < n) = true := decide_eq_true (by omega)
      have HST := Lib.hid (@surv_set l n k hlt)
      have HS0 := Lib.hid (@surv_at l n k hlt)
      have q1 : (0 : Int) ≤ k := by omega
      have q2 : (k : Int) < n := by omega
      go_wp2_with fail
      refine (HAT.out k _ HB.out).mono ?_
      rintro e V ⟨hd, hb⟩
      obtain ⟨kd, a, b, c, m, r, rfl, hkd, -⟩ := hd.kind
      rw [← hkd] at HST
      clear hd hkd
      have hba := gbox_below 35 kd a b c m V
      have x0 := (gbox_new 35 kd a b c m V).cells.1
      have hsz := gbox_size 35 kd a b c m V
      have HOX := Lib.hid (own_on HO.out (hb.trans' hba))
      have HBX : Hid (Below w.heap.size w (gbox 35 kd a b c m V)) := Lib.hid (HB.out.trans ((hb.trans' hba).mono HB.out.size))
      have c1 : (gbox 35 kd a b c m V).cell? ⟨w.heap.size, k, none⟩ = some (.int .i64 0) := (HOX.out.cellAt k (by omega)).trans HS0.out
      have f1 : (gbox 35 kd a b c m V).frozen? ⟨w.heap.size, k, none⟩ = false := HOX.out.frozenAt k
      clear hb hba hsz
      go_wp2_with (with_reducible refine store_page Tryz.sizeG rfl _ _ rfl V.heap.size kd a b c m rfl rfl (gbox_zero 35 V) ?_; rw [setG_alloc]; generalize gbox 35 kd a b c m V = V1 at *)
      have HON := Lib.hid (HOX.out.stored k (.int .i64 kd)).1
      rw [HST.out] at HON
      have HBN := Lib.hid (HBX.out.setCell (p := ⟨w.heap.size, k, none⟩) (Nat.le_refl _) (.int .i64 kd))
      clear c1 f1 x0
      go_roundw
      case rel => exact ⟨k + 1, by omega, by go_num, HON, HBN⟩
      case measure => simp [intOf]; omega
    · have hkn : k = n := by omega
      have HL : Hid (L11.LiesN wr wr.heap.size (some ⟨w.heap.size, 0, none⟩) (GP.survey l)) := Lib.hid (by
        have h := HO.out
        rw [hkn, HSV.out] at h
        exact L11.liesN_own h (by rw [← HSV.out, surv_length]))
      have d1 : decide ((k : Int) < n) = false := decide_eq_false (by omega)
      have d0 : decide (k < n) = false := decide_eq_false hlt
      clear hkn hlt
      go_wp2_with fail
      go_ret
      exact ⟨_, _, rfl, HL.out, HB.out⟩
end Go.Proofs.YtpeghilfldpgfaaGreatDoor
namespace Go.Proofs.YtpeghilfldpgfaaGreatDoor
open Go.RowKit
set_option linter.unusedVariables false
set_option linter.unusedSimpArgs false
structure Small (x : GP.Pg) : Prop where
  i : x.l.items.length ≤ 1000000
  k : x.n.kids.length ≤ 1000000
  s : x.n.seps.length ≤ 1000000
theorem small0 : Small GP.Pg0 := ⟨by decide, by decide, by decide⟩
theorem small_dec {s : ByteArray} {x : GP.Pg} (h : GP.dec s = some x) : Small x := by
  have Z : (0 : Nat) ≤ 1000000 := by decide
  rcases GP.dec_cases s with ⟨l, h1, -, -, -, h5⟩ | ⟨n, -, h1, -, -, h5⟩ | ⟨c, -, -, -, -, h5⟩ | ⟨m, -, -, -, -, h5⟩ | ⟨-, -, -, -, h5⟩
  · obtain rfl := Option.some.inj (h5.symm.trans h)
    obtain ⟨a, b, _⟩ := L10.NP.enc_ok ((L10.NP.dec_iff s l).1 h1)
    exact ⟨Nat.le_trans (a.fits b).2 (by decide), Z, Z⟩
  · obtain rfl := Option.some.inj (h5.symm.trans h)
    obtain ⟨a, b, _⟩ := L11.IP.enc_ok ((L11.IP.dec_iff s n).1 h1)
    have h2 := (a.fits b).2
    have h3 := a.2.2.1.1
    exact ⟨Z, Nat.le_trans h2 (by decide), by show n.seps.length ≤ 1000000; omega⟩
  · obtain rfl := Option.some.inj (h5.symm.trans h)
    exact ⟨Z, Z, Z⟩
  · obtain rfl := Option.some.inj (h5.symm.trans h)
    exact ⟨Z, Z, Z⟩
  · rw [h5] at h
    cases h
theorem same_parts {x y : GP.Pg} : x = y ↔ x.k = y.k ∧ x.l = y.l ∧ x.n = y.n ∧ x.c = y.c ∧ x.m = y.m := by
  cases x
  cases y
  simp
theorem psameL {w : World} {a a' : LV} {l l' : L10.NP.Lf} (h : HasL w a l) (h' : HasL w a' l') (s : l.items.length ≤ 1000000) (s' : l'.items.length ≤ 1000000) : ∃ q : Bool, (q = true ↔ l = l') ∧
    Hid (∀ W, Below w.heap.size w W → Calls Tryz.prog 29 #[lvO a, lvO a'] W fun e w' => e = .returned (.bool q) ∧ Below W.heap.size W w') := by
  refine ⟨decide ((a.F = a'.F ∧ a.R = a'.R ∧ a.H = a'.H) ∧ l.items = l'.items), ?_, Lib.hid fun W hb => ?_⟩
  · rw [decide_eq_true_eq, h.f, h.r, h.h, h'.f, h'.r, h'.h]
    obtain ⟨b1, b2, b3, b4⟩ := l
    obtain ⟨c1, c2, c3, c4⟩ := l'
    simp [and_assoc]
  · have k := L10.same_any a.F a.R a'.F a'.R a.H a'.H a.A a'.A l.items l'.items a.ca a'.ca W (h.rows.on hb) (h'.rows.on hb) s s'
    rw [← h.n, ← h'.n] at k
    exact k
theorem psameN {w : World} {a a' : NV} {l l' : L11.IP.Inn} (h : HasN w a l) (h' : HasN w a' l') (s : l.kids.length ≤ 1000000) (s1 : l.seps.length ≤ 1000000) (s' : l'.kids.length ≤ 1000000) (s1' : l'.seps.length ≤ 1000000) : ∃ q : Bool, (q = true ↔ l = l') ∧
    Hid (∀ W, Below w.heap.size w W → Calls Tryz.prog 30 #[nvO a, nvO a'] W fun e w' => e = .returned (.bool q) ∧ Below W.heap.size W w') := by
  have e1 : l = ⟨a.F, a.L, a.R, a.H, l.kids, l.seps⟩ := by rw [h.f, h.l, h.r, h.h]
  have e2 : l' = ⟨a'.F, a'.L, a'.R, a'.H, l'.kids, l'.seps⟩ := by rw [h'.f, h'.l, h'.r, h'.h]
  have k := fun W hb => L11.same_any a.F a.L a.R a.H a.A a.n a.ca a.C a.m a.cb l.kids l.seps a'.F a'.L a'.R a'.H a'.A a'.n a'.ca a'.C a'.m a'.cb l'.kids l'.seps W (h.rows.on hb) (h'.rows.on hb) (by rw [← h.rows.nk]; exact s) (by rw [← h.rows.nm]; exact s1) (by rw [← h'.rows.nk]; exact s') (by rw [← h'.rows.nm]; exact s1')
  rw [← e1, ← e2] at k
  exact ⟨_, decide_eq_true_iff, Lib.hid k⟩
theorem peqC (c c' : CV) : ∃ q : Bool, (q = true ↔ (c.F, c.N, c.D) = (c'.F, c'.N, c'.D)) ∧ ∀ W, (binOp .eql 31 (.agg #[.int .i64 c.F, .int .i64 c.N, .string c.D]) (.agg #[.int .i64 c'.F, .int .i64 c'.N, .string c'.D])).run Tryz.prog W = .ok (.bool q) W := by
  refine ⟨c.F == c'.F && (c.N == c'.N && (c.D.toList == c'.D.toList)), by simp [Lib.toList_data, ByteArray.ext_iff], fun W => ?_⟩
  rw [run_eql_struct]
  simp [go_sem, Tryz.underlying31]
  by_cases h1 : c.F = c'.F
  · by_cases h2 : c.N = c'.N
    · by_cases h3 : c.D.toList = c'.D.toList
      · simp [h1, h2, h3]
      · simp [h1, h2, h3]
    · simp [h1, h2]
  · simp [h1]
theorem peqM (m m' : Mv) : ∃ q : Bool, (q = true ↔ m = m') ∧ ∀ W, (binOp .eql 33 (.agg #[.int .i64 m.p, .int .i64 m.pg, .int .i64 m.r, .int .i64 m.l, .int .i64 m.n]) (.agg #[.int .i64 m'.p, .int .i64 m'.pg, .int .i64 m'.r, .int .i64 m'.l, .int .i64 m'.n])).run Tryz.prog W = .ok (.bool q) W := by
  refine ⟨m.p == m'.p && (m.pg == m'.pg && (m.r == m'.r && (m.l == m'.l && m.n == m'.n))), by cases m; cases m'; simp, fun W => ?_⟩
  rw [run_eql_struct]
  simp [go_sem, Tryz.underlying33]
  by_cases h1 : m.p = m'.p
  · by_cases h2 : m.pg = m'.pg
    · by_cases h3 : m.r = m'.r
      · by_cases h4 : m.l = m'.l
        · by_cases h5 : m.n = m'.n
          · simp [h1, h2, h3, h4, h5]
          · simp [h1, h2, h3, h4, h5]
        · simp [h1, h2, h3, h4]
      · simp [h1, h2, h3]
    · simp [h1, h2]
  · simp [h1]
set_option maxHeartbeats 4000000 in
set_option maxRecDepth 100000 in
theorem psame_any {k k' : Int} {a a' : LV} {b b' : NV} {c c' : CV} {m m' : Mv} {x y : GP.Pg} (w : World) (h : HasG w k a b c m x) (h' : HasG w k' a' b' c' m' y) (s : Small x) (s' : Small y) {q : Bool} (hq : q = true ↔ x = y) :
    Calls Tryz.prog 23 #[gv k a b c m, gv k' a' b' c' m'] w fun e w' => e = .returned (.bool q) ∧ Below w.heap.size w w' := by
  obtain ⟨q0, d0, e0⟩ : ∃ q0 : Bool, (k == k') = q0 ∧ (q0 = true ↔ x.k = y.k) := ⟨_, rfl, by simp [h.kind, h'.kind]⟩
  obtain ⟨q1, e1, H1⟩ := psameL h.l h'.l s.i s'.i
  obtain ⟨q2, e2, H2⟩ := psameN h.n h'.n s.k s.s s'.k s'.s
  obtain ⟨q3, e3, f3⟩ := peqC c c'
  obtain ⟨q4, e4, f4⟩ := peqM m m'
  obtain rfl : q = (q0 && (q1 && (q2 && (q3 && q4)))) := by
    rw [Bool.eq_iff_iff, hq, same_parts, ← e0, ← e1, ← e2, ← h.c, ← h'.c, ← e3, ← h.m, ← h'.m, ← e4]
    simp
  have hb0 := gbox_below 35 k a b c m w
  have hb1 := gbox_below 35 k' a' b' c' m' (gbox 35 k a b c m w)
  have HX := Lib.hid ((gbox_new 35 k a b c m w).below hb1)
  have hy := gbox_new 35 k' a' b' c' m' (gbox 35 k a b c m w)
  rw [gbox_size] at hy
  have HY := Lib.hid hy
  have HB := Lib.hid (hb0.trans' hb1)
  clear h h' s s' hq e0 e1 e2 e3 e4 hb0 hb1 hy
  obtain ⟨x0, x1, x2, x3, x4, -⟩ := HX.out.cells
  obtain ⟨y0, y1, y2, y3, y4, -⟩ := HY.out.cells
  cases q0 with
  | false =>
    go_enter Tryz.func23, Tryz.ntmps23
    go_wp2_with fail
    go_ret
    exact ⟨rfl, HB.out⟩
  | true =>
  go_enter Tryz.func23, Tryz.ntmps23
  go_wp2_with fail
  refine (H1.out _ HB.out).mono ?_
  rintro e V ⟨rfl, hb⟩
  replace HX := Lib.hid (HX.out.below hb)
  replace HY := Lib.hid (HY.out.below hb)
  replace HB := Lib.hid (HB.out.trans' hb)
  clear x0 x1 x2 x3 x4 y0 y1 y2 y3 y4 d0 hb H1
  obtain ⟨-, -, -, -, -, x5, x6, x7, x8, x9, x10, -⟩ := HX.out.cells
  obtain ⟨-, -, -, -, -, y5, y6, y7, y8, y9, y10, -⟩ := HY.out.cells
  cases q1 with
  | false =>
    go_wp2_with fail
    go_ret
    exact ⟨rfl, HB.out⟩
  | true =>
  go_wp2_with fail
  refine (H2.out _ HB.out).mono ?_
  rintro e U ⟨rfl, hb⟩
  replace HX := Lib.hid (HX.out.below hb)
  replace HY := Lib.hid (HY.out.below hb)
  replace HB := Lib.hid (HB.out.trans' hb)
  clear x5 x6 x7 x8 x9 x10 y5 y6 y7 y8 y9 y10 hb H2
  obtain ⟨-, -, -, -, -, -, -, -, -, -, -, x11, x12, x13, x14, x15, x16, x17, x18⟩ := HX.out.cells
  obtain ⟨-, -, -, -, -, -, -, -, -, -, -, y11, y12, y13, y14, y15, y16, y17, y18⟩ := HY.out.cells
  cases q2
  · go_wp2_with fail
    go_ret
    exact ⟨rfl, HB.out⟩
  cases q3
  all_goals
    go_wp2_with fail
    go_ret
    exact ⟨rfl, HB.out⟩
end Go.Proofs.YtpeghilfldpgfaaGreatDoor
namespace Go.Proofs.YtpeghilfldpgfaaGreatDoor
open Go.RowKit
set_option linter.unusedVariables false
set_option linter.unusedSimpArgs false
def Page1 (f : FuncId) (args : Array Value) (x : GP.Pg) (W : World) : Prop :=
  Calls Tryz.prog f args W fun e w' => ∃ k a b c m, e = .returned (.tuple #[gv k a b c m, .int .i64 0]) ∧ HasG w' k a b c m x ∧ Own W.heap.size a b ∧ Below W.heap.size W w'
def Page0 (f : FuncId) (args : Array Value) (r : Int) (W : World) : Prop :=
  Calls Tryz.prog f args W fun e w' => e = .returned (.tuple #[gv 0 LV0 NV0 CV0 Mv0, .int .i64 r]) ∧ Below W.heap.size W w'
section
variable {s : ByteArray} {x : GP.Pg} {W : World}
theorem DecG.one {B : Nat} {e : Ending} {w' : World} (h : DecG s B e w') (hd : GP.dec s = some x) : ∃ k a b c m, e = .returned (.tuple #[gv k a b c m, .int .i64 0]) ∧ HasG w' k a b c m x ∧ Own B a b := by
  rcases h with ⟨k, a, b, c, m, y, h1, h2, h3, h4⟩ | ⟨h1, _⟩
  · obtain rfl := Option.some.inj (h1.symm.trans hd)
    exact ⟨k, a, b, c, m, h2, h3, h4⟩
  · rw [h1] at hd
    cases hd
theorem DecG.zero {B : Nat} {e : Ending} {w' : World} (h : DecG s B e w') (hd : GP.dec s = none) : e = .returned (.tuple #[gv 0 LV0 NV0 CV0 Mv0, .int .i64 3]) := by
  rcases h with ⟨k, a, b, c, m, y, h1, _⟩ | ⟨_, h⟩
  · rw [h1] at hd
    cases hd
  · exact h
theorem pdec1 (hd : GP.dec s = some x) (hs : s.size ≤ 1000000) (hg : L10.Glo W) : Page1 17 #[.string s] x W :=
  (pgdec_any s W hg hs).mono fun e w' ⟨h, hb⟩ => by
    obtain ⟨k, a, b, c, m, h1, h2, h3⟩ := h.one hd
    exact ⟨k, a, b, c, m, h1, h2, h3, hb⟩
theorem pdec0 (hd : GP.dec s = none) (hs : s.size ≤ 1000000) (hg : L10.Glo W) : Page0 17 #[.string s] 3 W :=
  (pgdec_any s W hg hs).mono fun e w' ⟨h, hb⟩ => ⟨h.zero hd, hb⟩
theorem AtG.one {l : List ByteArray} {i : Int} {B : Nat} {e : Ending} {w' : World} (h : AtG l i B e w') (hd : GP.at_ l i = .ok x) : ∃ k a b c m, e = .returned (.tuple #[gv k a b c m, .int .i64 0]) ∧ HasG w' k a b c m x ∧ Own B a b := by
  rcases h with ⟨k, a, b, c, m, y, h1, h2, h3, h4⟩ | ⟨r, h1, _⟩
  · obtain rfl := Except.ok.inj (h1.symm.trans hd)
    exact ⟨k, a, b, c, m, h2, h3, h4⟩
  · rw [h1] at hd
    cases hd
theorem AtG.zero {l : List ByteArray} {i r : Int} {B : Nat} {e : Ending} {w' : World} (h : AtG l i B e w') (hd : GP.at_ l i = .error r) : e = .returned (.tuple #[gv 0 LV0 NV0 CV0 Mv0, .int .i64 r]) := by
  rcases h with ⟨k, a, b, c, m, y, h1, _⟩ | ⟨r', h1, _, h⟩
  · rw [h1] at hd
    cases hd
  · obtain rfl := Except.error.inj (h1.symm.trans hd)
    exact h
variable {A : Option Addr} {l : List ByteArray} {n ca : Nat} {i r : Int}
theorem pat1 (hd : GP.at_ l i = .ok x) (hn : l.length = n) (hs : ∀ s ∈ l, s.size ≤ 1000000) (hg : L10.Glo W) (ha : L5.Lies W W.heap.size A l) : Page1 10 #[.slice A n ca, .int .i64 i] x W := by
  subst hn
  exact (pat_any A l ca i W hg ha hs).mono fun e w' ⟨h, hb⟩ => by
    obtain ⟨k, a, b, c, m, h1, h2, h3⟩ := h.one hd
    exact ⟨k, a, b, c, m, h1, h2, h3, hb⟩
theorem pat0 (hd : GP.at_ l i = .error r) (hn : l.length = n) (hs : ∀ s ∈ l, s.size ≤ 1000000) (hg : L10.Glo W) (ha : L5.Lies W W.heap.size A l) : Page0 10 #[.slice A n ca, .int .i64 i] r W := by
  subst hn
  exact (pat_any A l ca i W hg ha hs).mono fun e w' ⟨h, hb⟩ => ⟨h.zero hd, hb⟩
theorem pself1 {k : Int} {a : LV} {b : NV} {c : CV} {m : Mv} {w : World} {v : Int} (h : HasG w k a b c m x) (hv : GP.self x = v) : Hid (∀ W, Calls Tryz.prog 19 #[gv k a b c m] W fun e w' => e = .returned (.int .i64 v) ∧ Below W.heap.size W w') := Lib.hid fun W => by
  have h1 := pself_any k a b c m W
  rw [selfV_of h, hv] at h1
  exact h1
theorem pright1 {k : Int} {a : LV} {b : NV} {c : CV} {m : Mv} {w : World} {v : Int} (h : HasG w k a b c m x) (hv : GP.right x = v) : Hid (∀ W, Calls Tryz.prog 21 #[gv k a b c m] W fun e w' => e = .returned (.int .i64 v) ∧ Below W.heap.size W w') := Lib.hid fun W => by
  have h1 := pright_any k a b c m W
  rw [rightV_of h, hv] at h1
  exact h1
theorem psurvey1 (hn : l.length = n) (h30 : n ≤ 1000) (hs : ∀ s ∈ l, s.size ≤ 1000000) (hg : L10.Glo W) (ha : L5.Lies W W.heap.size A l) :
    Calls Tryz.prog 15 #[.slice A n ca] W fun e w' => ∃ G cap, e = .returned (.slice G n cap) ∧ L11.LiesN w' w'.heap.size G (GP.survey l) ∧ Below W.heap.size W w' := by
  subst hn
  exact psurvey_any A l ca W hg ha h30 hs
theorem ints1 {A C : Option Addr} {l m : List Int} {n k ca cb : Nat} {q : Bool} (hl : l.length = n) (hm : m.length = k) (hn : n ≤ 1000000) (hk : k ≤ 1000000) (hq : q = true ↔ l = m) (ha : L11.LiesN W W.heap.size A l) (hb : L11.LiesN W W.heap.size C m) :
    Calls Tryz.prog 14 #[.slice A n ca, .slice C k cb] W fun e w' => e = .returned (.bool q) ∧ Below W.heap.size W w' := by
  subst hl hm
  have h := L11.ints_any A C l m ca cb W ha hb hn hk
  rw [show decide (l = m) = q from by rw [Bool.eq_iff_iff, hq]; exact decide_eq_true_iff] at h
  exact h
end
theorem load_wantedP0 {ops : Array Oper} {rest : List Oper} {o : Oper} {q : Act} {w : World} {Q : Exit → Act → World → Prop} (x : Operand) (ho : o.op = .load 35 x)
    {g : Nat} {t : TypeId} {k : Int} {a : LV} {b : NV} {c : CV} {m : Mv} (hg : Gx t g k a b c m w) (hx : q.eval x = .pointer (some ⟨g, 0, none⟩)) (hw : Region.wanted o (yielded ops q.tmps) = true)
    (h : wpList Tryz.prog ops Q rest (q.put o.dst (gv k a b c m)) w) : wpList Tryz.prog ops Q (o :: rest) q w := load_wanted Tryz.underlying35 rfl Tryz.sizeG hw x ho g hx hg h
end Go.Proofs.YtpeghilfldpgfaaGreatDoor
namespace Go.Proofs.YtpeghilfldpgfaaGreatDoor
open Go.RowKit
set_option linter.unusedVariables false
set_option linter.unusedSimpArgs false
def l3 : L10.NP.Lf := ⟨3, 2, ⟨#[98]⟩, []⟩
def m9 : L13.MP.Mt := ⟨128, 9, 4, 0, 0⟩
theorem l3_may : L10.NP.May l3 128 := of_decide_eq_true (by kernel_rfl)
theorem l3_enc : ∃ S : ByteArray, L10.NP.enc l3 128 = (S, 0) ∧ S.size = 128 ∧ L10.NP.dec S = some l3 := by
  have hz : L10.NP.size l3 ≤ 112 := by decide +kernel
  have h := L10.NP.enc_good l3_may (by omega)
  have hs : (⟨(L10.NP.page l3 (128 : Int).toNat).toArray⟩ : ByteArray).size = 128 := by
    show (L10.NP.page l3 128).toArray.size = 128
    rw [List.size_toArray]
    exact L10.NP.page_length (by decide) hz
  exact ⟨_, h, hs, (L10.NP.dec_iff _ _).2 (by rw [hs]; exact h)⟩
theorem m9_may : L13.MP.May m9 := of_decide_eq_true (by kernel_rfl)
theorem m9_enc : ∃ T : ByteArray, L13.MP.enc m9 = (T, 0) ∧ T.size = 128 ∧ L13.MP.dec T = some m9 := by
  have h := L13.MP.enc_good m9_may
  have hs := L13.MP.enc_size h
  exact ⟨_, h, by have : m9.p = 128 := rfl; omega, (L13.MP.dec_iff _ _).2 h⟩
theorem dec_blank : GP.dec ⟨#[]⟩ = none := by
  cases h : GP.dec ⟨#[]⟩ with
  | none => rfl
  | some x =>
    have := GP.dec_size h
    have e : (⟨#[]⟩ : ByteArray).size = 0 := rfl
    omega
theorem four_at {T S : ByteArray} (hS : GP.dec S = some (GP.ofL l3)) (hT : GP.dec T = some (GP.ofM m9)) :
    GP.at_ [T, S, ⟨#[]⟩, S] 3 = .ok (GP.ofL l3) ∧ GP.at_ [T, S, ⟨#[]⟩, S] 1 = .error 3 ∧ GP.at_ [T, S, ⟨#[]⟩, S] 4 = .error 4 ∧ GP.at_ [T, S, ⟨#[]⟩, S] 2 = .error 3 ∧ GP.at_ [T, S, ⟨#[]⟩, S] 0 = .ok (GP.ofM m9) ∧ GP.survey [T, S, ⟨#[]⟩, S] = [1, 0, 0, 2] := by
  have a3 := GP.at_ok (l := [T, S, ⟨#[]⟩, S]) (i := 3) rfl hS rfl
  have a1 := GP.at_moved (l := [T, S, ⟨#[]⟩, S]) (i := 1) rfl hS (by decide)
  have a4 := GP.at_arg (l := [T, S, ⟨#[]⟩, S]) (i := 4) (by simp)
  have a2 := GP.at_none (l := [T, S, ⟨#[]⟩, S]) (i := 2) rfl dec_blank
  have a0 := GP.at_ok (l := [T, S, ⟨#[]⟩, S]) (i := 0) rfl hT rfl
  refine ⟨a3, a1, a4, a2, a0, ?_⟩
  show [GP.kindAt _ 0, GP.kindAt _ 1, GP.kindAt _ 2, GP.kindAt _ 3] = _
  unfold GP.kindAt
  rw [a0, a1, a2, a3]
  rfl
def Fixes : Prop := ∀ w, L10.Glo w → Calls Tryz.prog 24 #[] w fun e w' => e = .returned (.bool true) ∧ Below w.heap.size w w'
set_option maxHeartbeats 8000000 in
set_option maxRecDepth 100000 in
theorem fixed_any : Fixes := fun w hg => by
  obtain ⟨S, hS1, hS2, hS3⟩ := l3_enc
  obtain ⟨T, hT1, hT2, hT3⟩ := m9_enc
  have hS := GP.dec_l hS3
  have hT := GP.dec_m hT3
  obtain ⟨a3, a1, a4, a2, a0, hsv⟩ := four_at hS hT
  have hsz : ∀ s ∈ [T, S, ⟨#[]⟩, S], s.size ≤ 1000000 := by
    intro s h
    simp only [List.mem_cons, List.not_mem_nil, or_false] at h
    rcases h with rfl | rfl | rfl | rfl
    · omega
    · omega
    · decide
    · omega
  have E1 : Hid (∀ W, Below w.heap.size w W → Calls Tryz.prog 32 #[L10.lv 3 2 ⟨#[98]⟩ none 0 0, .int .i64 128] W fun e w' => e = .returned (.tuple #[.string S, .int .i64 0]) ∧ Below W.heap.size W w') := Lib.hid fun W hb => by
    have h := L10.enc_any 3 2 ⟨#[98]⟩ none [] 0 128 W (hg.on hb).sizes (L10.Lies5.nil _ _ _) (by decide) (by decide)
    rw [L10.encV, show L10.NP.enc ⟨3, 2, ⟨#[98]⟩, []⟩ 128 = (S, 0) from hS1] at h
    exact h
  have E2 : Hid (∀ W, Below w.heap.size w W → Calls Tryz.prog 31 #[L13.mv 128 9 4 0 0] W fun e w' => e = .returned (.tuple #[.string T, .int .i64 0]) ∧ Below W.heap.size W w') := Lib.hid fun W hb => by
    have h := L13.enc_any 128 9 4 0 0 W (hg.on hb).sizes
    rw [L13.encV, show L13.MP.enc ⟨128, 9, 4, 0, 0⟩ = (T, 0) from hT1] at h
    exact h
  have D := Lib.hid (fun W (hb : Below w.heap.size w W) => pdec1 hS (by omega) (hg.on hb))
  have P3 := Lib.hid (fun W (hb : Below w.heap.size w W) A ca (ha : L5.Lies W W.heap.size A _) => pat1 (ca := ca) (n := 4) a3 rfl hsz (hg.on hb) ha)
  have P1 := Lib.hid (fun W (hb : Below w.heap.size w W) A ca (ha : L5.Lies W W.heap.size A _) => pat0 (ca := ca) (n := 4) a1 rfl hsz (hg.on hb) ha)
  have P4 := Lib.hid (fun W (hb : Below w.heap.size w W) A ca (ha : L5.Lies W W.heap.size A _) => pat0 (ca := ca) (n := 4) a4 rfl hsz (hg.on hb) ha)
  have P2 := Lib.hid (fun W (hb : Below w.heap.size w W) A ca (ha : L5.Lies W W.heap.size A _) => pat0 (ca := ca) (n := 4) a2 rfl hsz (hg.on hb) ha)
  have P0 := Lib.hid (fun W (hb : Below w.heap.size w W) A ca (ha : L5.Lies W W.heap.size A _) => pat1 (ca := ca) (n := 4) a0 rfl hsz (hg.on hb) ha)
  have SV : Hid (∀ W, Below w.heap.size w W → ∀ A ca, L5.Lies W W.heap.size A [T, S, ⟨#[]⟩, S] → Calls Tryz.prog 15 #[.slice A 4 ca] W fun e w' => ∃ G cap, e = .returned (.slice G 4 cap) ∧ L11.LiesN w' w'.heap.size G [1, 0, 0, 2] ∧ Below W.heap.size W w') := Lib.hid fun W hb A ca ha => by
    have h := psurvey1 (ca := ca) (n := 4) rfl (by decide) hsz (hg.on hb) ha
    rw [hsv] at h
    exact h
  have SX : Small (GP.ofL l3) := ⟨by decide, by decide, by decide⟩
  have SZ : Small (GP.ofM m9) := ⟨by decide, by decide, by decide⟩
  have HB := Lib.hid (Below.refl w.heap.size w)
  clear hS1 hS2 hS3 hT1 hT2 hT3 hS hT a3 a1 a4 a2 a0 hsv hsz hg
  go_enter Tryz.func24, Tryz.ntmps24
  go_wp2_with fail
  refine (E1.out _ HB.out).mono ?_
  rintro e V ⟨rfl, hb⟩
  replace HB := Lib.hid (HB.out.trans' hb)
  clear hb E1
  go_wp2_with fail
  refine (E2.out _ HB.out).mono ?_
  rintro e V ⟨rfl, hb⟩
  have HL : Hid (L5.Lies (V.alloc (.cells #[.string T, .string S, .string ⟨#[]⟩, .string S] 9)) (V.alloc (.cells #[.string T, .string S, .string ⟨#[]⟩, .string S] 9)).heap.size (some ⟨V.heap.size, 0, none⟩) [T, S, ⟨#[]⟩, S]) := Lib.hid (L5.lies_own (World.ownsRow_lit V #[.string T, .string S, .string ⟨#[]⟩, .string S] 4 (Nat.le_refl _) (by decide) rfl) rfl)
  replace HB := Lib.hid (HB.out.trans' (hb.trans' (L5.below_alloc V (.cells #[.string T, .string S, .string ⟨#[]⟩, .string S] 9))))
  clear hb E2
  go_wp2_with fail
  generalize V.alloc (.cells #[.string T, .string S, .string ⟨#[]⟩, .string S] 9) = U at *
  generalize V.heap.size = gl at *
  refine (D.out _ HB.out).mono ?_
  rintro e V ⟨kp, ap, bp, cp, mp, rfl, hG, hO, hb⟩
  have hba := gbox_below 35 kp ap bp cp mp V
  have hbb := hb.trans' hba
  replace HB := Lib.hid (HB.out.trans' hbb)
  replace HL := Lib.hid (HL.out.on hbb)
  have HX := Lib.hid (gbox_new 35 kp ap bp cp mp V)
  have HXG := Lib.hid (hG.on hba)
  clear hG hO hb hba hbb
  obtain rfl : kp = 2 := HXG.out.kind
  go_wp2_with (refine store_page Tryz.sizeG rfl _ _ rfl V.heap.size 2 ap bp cp mp rfl rfl (gbox_zero 35 V) ?_; rw [setG_alloc]; generalize gbox 35 2 ap bp cp mp V = V1 at *)
  generalize V.heap.size = gp at *
  refine (P3.out _ HB.out _ _ HL.out).mono ?_
  rintro e V ⟨kq, aq, bq, cq, mq, rfl, hG, hO, hb⟩
  have hba := gbox_below 35 kq aq bq cq mq V
  have hbb := hb.trans' hba
  replace HB := Lib.hid (HB.out.trans' hbb)
  replace HL := Lib.hid (HL.out.on hbb)
  replace HX := Lib.hid (HX.out.below hbb)
  replace HXG := Lib.hid (HXG.out.on hbb)
  have HY := Lib.hid (gbox_new 35 kq aq bq cq mq V)
  have HYG := Lib.hid (hG.on hba)
  clear hG hO hb hba hbb
  obtain rfl : kq = 2 := HYG.out.kind
  go_wp2_with (refine store_page Tryz.sizeG rfl _ _ rfl V.heap.size 2 aq bq cq mq rfl rfl (gbox_zero 35 V) ?_; rw [setG_alloc]; generalize gbox 35 2 aq bq cq mq V = V1 at *)
  generalize V.heap.size = gq at *
  refine (P1.out _ HB.out _ _ HL.out).mono ?_
  rintro e V ⟨rfl, hb⟩
  have hba := gbox_below 35 0 LV0 NV0 CV0 Mv0 V
  have hbb := hb.trans' hba
  replace HB := Lib.hid (HB.out.trans' hbb)
  replace HL := Lib.hid (HL.out.on hbb)
  replace HX := Lib.hid (HX.out.below hbb)
  replace HXG := Lib.hid (HXG.out.on hbb)
  replace HY := Lib.hid (HY.out.below hbb)
  replace HYG := Lib.hid (HYG.out.on hbb)
  clear hb hba hbb
  go_wp2_with (refine store_page Tryz.sizeG rfl _ _ rfl V.heap.size 0 LV0 NV0 CV0 Mv0 rfl rfl (gbox_zero 35 V) ?_; rw [setG_alloc]; generalize gbox 35 0 LV0 NV0 CV0 Mv0 V = V1 at *)
  refine (P4.out _ HB.out _ _ HL.out).mono ?_
  rintro e V ⟨rfl, hb⟩
  have hba := gbox_below 35 0 LV0 NV0 CV0 Mv0 V
  have hbb := hb.trans' hba
  replace HB := Lib.hid (HB.out.trans' hbb)
  replace HL := Lib.hid (HL.out.on hbb)
  replace HX := Lib.hid (HX.out.below hbb)
  replace HXG := Lib.hid (HXG.out.on hbb)
  replace HY := Lib.hid (HY.out.below hbb)
  replace HYG := Lib.hid (HYG.out.on hbb)
  clear hb hba hbb
  go_wp2_with (refine store_page Tryz.sizeG rfl _ _ rfl V.heap.size 0 LV0 NV0 CV0 Mv0 rfl rfl (gbox_zero 35 V) ?_; rw [setG_alloc]; generalize gbox 35 0 LV0 NV0 CV0 Mv0 V = V1 at *)
  refine (P2.out _ HB.out _ _ HL.out).mono ?_
  rintro e V ⟨rfl, hb⟩
  have hba := gbox_below 35 0 LV0 NV0 CV0 Mv0 V
  have hbb := hb.trans' hba
  replace HB := Lib.hid (HB.out.trans' hbb)
  replace HL := Lib.hid (HL.out.on hbb)
  replace HX := Lib.hid (HX.out.below hbb)
  replace HXG := Lib.hid (HXG.out.on hbb)
  replace HY := Lib.hid (HY.out.below hbb)
  replace HYG := Lib.hid (HYG.out.on hbb)
  clear hb hba hbb
  go_wp2_with (refine store_page Tryz.sizeG rfl _ _ rfl V.heap.size 0 LV0 NV0 CV0 Mv0 rfl rfl (gbox_zero 35 V) ?_; rw [setG_alloc]; generalize gbox 35 0 LV0 NV0 CV0 Mv0 V = V1 at *)
  refine (P0.out _ HB.out _ _ HL.out).mono ?_
  rintro e V ⟨kr, ar, br, cr, mr, rfl, hG, hO, hb⟩
  have hba := gbox_below 35 kr ar br cr mr V
  have hbb := hb.trans' hba
  replace HB := Lib.hid (HB.out.trans' hbb)
  replace HL := Lib.hid (HL.out.on hbb)
  replace HX := Lib.hid (HX.out.below hbb)
  replace HXG := Lib.hid (HXG.out.on hbb)
  replace HY := Lib.hid (HY.out.below hbb)
  replace HYG := Lib.hid (HYG.out.on hbb)
  have HZ := Lib.hid (gbox_new 35 kr ar br cr mr V)
  have HZG := Lib.hid (hG.on hba)
  clear hG hO hb hba hbb
  obtain rfl : kr = 1 := HZG.out.kind
  simp only [List.append_eq, List.cons_append, List.nil_append] at *
  obtain ⟨x0, -⟩ := HX.out.cells
  have hself := pself1 HXG.out (show GP.self (GP.ofL l3) = 3 from rfl)
  have hright := pright1 HXG.out (show GP.right (GP.ofL l3) = 2 from rfl)
  have zself := pself1 HZG.out (show GP.self (GP.ofM m9) = 0 from rfl)
  have zright := pright1 HZG.out (show GP.right (GP.ofM m9) = 4 from rfl)
  obtain ⟨z0, -⟩ := HZ.out.cells
  go_wp2_with (first | (refine store_page Tryz.sizeG rfl _ _ rfl V.heap.size 1 ar br cr mr rfl rfl (gbox_zero 35 V) ?_; rw [setG_alloc]; generalize gbox 35 1 ar br cr mr V = V1 at *) | (refine load_wantedP0 (.tmp 6) rfl HX.out rfl (by rfl) ?_))
  clear x0 z0
  generalize V.heap.size = gr at *
  refine (hself.out _).mono ?_
  rintro e V ⟨rfl, hb⟩
  replace HB := Lib.hid (HB.out.trans' hb)
  replace HL := Lib.hid (HL.out.on hb)
  replace HX := Lib.hid (HX.out.below hb)
  replace HXG := Lib.hid (HXG.out.on hb)
  replace HY := Lib.hid (HY.out.below hb)
  replace HYG := Lib.hid (HYG.out.on hb)
  replace HZ := Lib.hid (HZ.out.below hb)
  replace HZG := Lib.hid (HZG.out.on hb)
  clear hb
  go_wp2_with (first | (refine load_wantedP0 (.tmp 6) rfl HX.out rfl (by rfl) ?_) | (refine load_wantedP0 (.tmp 8) rfl HY.out rfl (by rfl) ?_) | (refine load_wantedP0 (.tmp 16) rfl HZ.out rfl (by rfl) ?_))
  refine (hright.out _).mono ?_
  rintro e V ⟨rfl, hb⟩
  replace HB := Lib.hid (HB.out.trans' hb)
  replace HL := Lib.hid (HL.out.on hb)
  replace HX := Lib.hid (HX.out.below hb)
  replace HXG := Lib.hid (HXG.out.on hb)
  replace HY := Lib.hid (HY.out.below hb)
  replace HYG := Lib.hid (HYG.out.on hb)
  replace HZ := Lib.hid (HZ.out.below hb)
  replace HZG := Lib.hid (HZG.out.on hb)
  clear hb
  go_wp2_with (first | (refine load_wantedP0 (.tmp 6) rfl HX.out rfl (by rfl) ?_) | (refine load_wantedP0 (.tmp 8) rfl HY.out rfl (by rfl) ?_) | (refine load_wantedP0 (.tmp 16) rfl HZ.out rfl (by rfl) ?_))
  refine (psame_any _ HXG.out HYG.out SX SX (q := true) (by simp)).mono ?_
  rintro e V ⟨rfl, hb⟩
  replace HB := Lib.hid (HB.out.trans' hb)
  replace HL := Lib.hid (HL.out.on hb)
  replace HX := Lib.hid (HX.out.below hb)
  replace HXG := Lib.hid (HXG.out.on hb)
  replace HY := Lib.hid (HY.out.below hb)
  replace HYG := Lib.hid (HYG.out.on hb)
  replace HZ := Lib.hid (HZ.out.below hb)
  replace HZG := Lib.hid (HZG.out.on hb)
  clear hb
  obtain ⟨z0, -⟩ := HZ.out.cells
  go_wp2_with (first | (refine load_wantedP0 (.tmp 6) rfl HX.out rfl (by rfl) ?_) | (refine load_wantedP0 (.tmp 8) rfl HY.out rfl (by rfl) ?_) | (refine load_wantedP0 (.tmp 16) rfl HZ.out rfl (by rfl) ?_))
  clear z0
  refine (zself.out _).mono ?_
  rintro e V ⟨rfl, hb⟩
  replace HB := Lib.hid (HB.out.trans' hb)
  replace HL := Lib.hid (HL.out.on hb)
  replace HX := Lib.hid (HX.out.below hb)
  replace HXG := Lib.hid (HXG.out.on hb)
  replace HY := Lib.hid (HY.out.below hb)
  replace HYG := Lib.hid (HYG.out.on hb)
  replace HZ := Lib.hid (HZ.out.below hb)
  replace HZG := Lib.hid (HZG.out.on hb)
  clear hb
  go_wp2_with (first | (refine load_wantedP0 (.tmp 6) rfl HX.out rfl (by rfl) ?_) | (refine load_wantedP0 (.tmp 8) rfl HY.out rfl (by rfl) ?_) | (refine load_wantedP0 (.tmp 16) rfl HZ.out rfl (by rfl) ?_))
  refine (zright.out _).mono ?_
  rintro e V ⟨rfl, hb⟩
  replace HB := Lib.hid (HB.out.trans' hb)
  replace HL := Lib.hid (HL.out.on hb)
  replace HX := Lib.hid (HX.out.below hb)
  replace HXG := Lib.hid (HXG.out.on hb)
  replace HY := Lib.hid (HY.out.below hb)
  replace HYG := Lib.hid (HYG.out.on hb)
  replace HZ := Lib.hid (HZ.out.below hb)
  replace HZG := Lib.hid (HZG.out.on hb)
  clear hb
  go_wp2_with (first | (refine load_wantedP0 (.tmp 6) rfl HX.out rfl (by rfl) ?_) | (refine load_wantedP0 (.tmp 8) rfl HY.out rfl (by rfl) ?_) | (refine load_wantedP0 (.tmp 16) rfl HZ.out rfl (by rfl) ?_))
  refine (SV.out _ HB.out _ _ HL.out).mono ?_
  rintro e V ⟨G, cap, rfl, hl, hb⟩
  have hba := L5.below_alloc V (.cells #[.int .i64 1, .int .i64 0, .int .i64 0, .int .i64 2] 3)
  have hbb := hb.trans' hba
  replace HB := Lib.hid (HB.out.trans' hbb)
  replace HL := Lib.hid (HL.out.on hbb)
  replace HX := Lib.hid (HX.out.below hbb)
  replace HXG := Lib.hid (HXG.out.on hbb)
  replace HY := Lib.hid (HY.out.below hbb)
  replace HYG := Lib.hid (HYG.out.on hbb)
  replace HZ := Lib.hid (HZ.out.below hbb)
  replace HZG := Lib.hid (HZG.out.on hbb)
  have HI := Lib.hid (hl.on hba)
  have HJ : Hid (L11.LiesN (V.alloc (.cells #[.int .i64 1, .int .i64 0, .int .i64 0, .int .i64 2] 3)) (V.alloc (.cells #[.int .i64 1, .int .i64 0, .int .i64 0, .int .i64 2] 3)).heap.size (some ⟨V.heap.size, 0, none⟩) [1, 0, 0, 2]) := Lib.hid (L11.liesN_own (World.ownsRow_lit V #[.int .i64 1, .int .i64 0, .int .i64 0, .int .i64 2] 4 (Nat.le_refl _) (by decide) rfl) rfl)
  clear hl hb hba hbb
  go_wp2_with fail
  refine (ints1 (n := 4) (k := 4) (q := true) rfl rfl (by decide) (by decide) (by simp) HI.out HJ.out).mono ?_
  rintro e V2 ⟨rfl, hb⟩
  replace HB := Lib.hid (HB.out.trans' hb)
  replace HL := Lib.hid (HL.out.on hb)
  replace HX := Lib.hid (HX.out.below hb)
  replace HXG := Lib.hid (HXG.out.on hb)
  replace HY := Lib.hid (HY.out.below hb)
  replace HYG := Lib.hid (HYG.out.on hb)
  replace HZ := Lib.hid (HZ.out.below hb)
  replace HZG := Lib.hid (HZG.out.on hb)
  clear hb HI HJ
  go_wp2_with (first | (refine load_wantedP0 (.tmp 6) rfl HX.out rfl (by rfl) ?_) | (refine load_wantedP0 (.tmp 8) rfl HY.out rfl (by rfl) ?_) | (refine load_wantedP0 (.tmp 16) rfl HZ.out rfl (by rfl) ?_))
  refine (psame_any _ HXG.out HZG.out SX SZ (q := false) (by simp [GP.ofL, GP.ofM])).mono ?_
  rintro e V3 ⟨rfl, hb⟩
  replace HB := Lib.hid (HB.out.trans' hb)
  clear hb HX HY HZ HXG HYG HZG HL
  go_wp2_with fail
  refine ((pself1 (hasG0 w) (show GP.self GP.Pg0 = 0 from rfl)).out _).mono ?_
  rintro e V4 ⟨rfl, hb⟩
  replace HB := Lib.hid (HB.out.trans' hb)
  clear hb
  go_wp2_with fail
  refine ((pright1 (hasG0 w) (show GP.right GP.Pg0 = 0 from rfl)).out _).mono ?_
  rintro e V5 ⟨rfl, hb⟩
  replace HB := Lib.hid (HB.out.trans' hb)
  clear hb
  go_wp2_with fail
  go_ret
  exact ⟨rfl, HB.out⟩
end Go.Proofs.YtpeghilfldpgfaaGreatDoor
