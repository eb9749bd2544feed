import Derived.Test.YtpeghilfldpgfaaGreatDoorQT
import Derived.Test.YtpeghilfldpgfaaGreatDoorT12
set_option linter.unusedVariables false
set_option linter.unusedSimpArgs false
set_option maxHeartbeats 8000000
set_option maxRecDepth 100000
namespace Go.Proofs.YtpeghilfldpgfaaGreatDoor.L11
open Go.RowKit IP
attribute [local go_sem] Oper.semAt_some
theorem wpListIn_append_lies {F : Fence} {n : Nat} {P : Program} (w : World) {ops : Array Oper} {rest : List Oper} {o : Oper} {a : Act} {Q : Exit → Act → World → Prop}
  (hg : o.guard = none) (s x : Operand) (t : TypeId) (hop : o.op = Op.call { callee := Callee.builtin Builtin.append, args := #[s, x], argTypes := #[t, t] })
  (base : Nat) (e : TypeId) (i : TypeInfo) (z : Value) (size bytes : Nat) (h1 : P.underlying t = some (.slice e)) (h2 : P.info? e = some i) (h3 : i.zero = some z) (h4 : i.size = size) (h5 : i.bytes = bytes) (h6 : z.cells.size = size) (h7 : 0 < size)
  (v : Value) (k : Nat) (xs : List Value) (hs : a.eval s = v) (hown : w.ownsRow base e size v k xs) (ad : Addr) (m c : Nat) (news : List Value) (hx : a.eval x = .slice (some ad) m c) (hn : news.length = m * size)
  (hc : ∀ j u, news[j]? = some u → w.cell? (ad.add j) = some u) (h1c : ∀ u ∈ news, u.oneCell' = true) (hm : 0 < m) (b1 : k + m ≤ maxLen) (b2 : (k + m) * bytes ≤ 140737488355328) (b3 : base ≤ w.heap.size)
  (hK : ∀ g cap w', w'.ownsRow base e size (.slice (some ⟨g, 0, none⟩) (k + m) cap) (k + m) (xs ++ news) → w.grownBy w' v.ownBlock → (v.ownBlock = some g ∨ g = w.heap.size) → wpListIn F n P ops Q rest (a.put o.dst (.slice (some ⟨g, 0, none⟩) (k + m) cap)) w') :
  wpListIn F n P ops Q (o :: rest) a w := by
 refine wpListIn_plain hg fun K hK' => ?_; obtain ⟨g, cap, w', hrun, r1, r2, r3, _⟩ := run_append_lies (P := P) (w := w) t o.type base e i z size bytes h1 h2 h3 h4 h5 h6 h7 v k xs hown ad m c news hn hc h1c hm b1 b2 b3 w.heap.size rfl; unfold Oper.wpIn; refine ⟨?_, ?_⟩
 ·simp [Oper.about, hop, resolve, Target.leads, Sem.run_pure]
 ·rw [Oper.semAt_plain F _ _ (by rw [hop]; intro c hc'; cases hc')]
  simp [execOp, hop, resolve, invoke, builtin, hs, hx, hrun, Result.andThen]; exact hK' _ _ (hK g cap w' r1 r2 r3)
theorem kpR_append {X n₀ k g cap : Nat} {t e : TypeId} {v : Value} {xs : List Value} {W w1 : World} {tmp : Obj} (hv : Boxed W X t v) (hrow : W.ownsRow n₀ e 1 v k xs) (hgrow : (W.alloc tmp).grownBy w1 v.ownBlock) (hat : v.ownBlock = some g ∨ g = W.heap.size + 1) (hv2 : Boxed (w1.setCell ⟨X, 0, none⟩ (.slice (some ⟨g, 0, none⟩) (k + 1) cap)) X t (.slice (some ⟨g, 0, none⟩) (k + 1) cap)) :
  KpR X W (w1.setCell ⟨X, 0, none⟩ (.slice (some ⟨g, 0, none⟩) (k + 1) cap)) := fun hX => by
 have hs := hgrow.size
 have hsz : W.heap.size ≤ (w1.setCell ⟨X, 0, none⟩ (.slice (some ⟨g, 0, none⟩) (k + 1) cap)).heap.size := by
  have h2 : (W.alloc tmp).heap.size = W.heap.size + 1 := by simp
  have h3 : (w1.setCell ⟨X, 0, none⟩ (.slice (some ⟨g, 0, none⟩) (k + 1) cap)).heap.size = w1.heap.size := by simp
  omega
 have hrowAt : ∀ j, v.ownBlock = some j → RowAt X W j := fun j hj => by
  rcases hrow.2 with ⟨rfl, _⟩ | ⟨g', c', cur, rfl, _⟩
  ·simp [Value.ownBlock] at hj
  ·simp [Value.ownBlock] at hj
   subst hj; exact ⟨_, _, _, hv.cell, rfl⟩
 refine ⟨⟨_, _, _, hv2⟩, hsz, fun j hj hne hr => ?_, fun j hj => ?_⟩
 ·have h1 : (w1.setCell ⟨X, 0, none⟩ (.slice (some ⟨g, 0, none⟩) (k + 1) cap)).heap[j]? = w1.heap[j]? := Below.heap_setCell w1 ⟨X, 0, none⟩ _ j hne
  have h2 := hgrow.block j (by simp; have := hj.lt; omega) (fun e => hr (hrowAt j e.symm)); rw [h1, h2]; exact Below.heap_alloc W tmp j hj.lt
 ·obtain ⟨a, n, c, h1, h2⟩ := hj
  rw [hv2.cell] at h1; simp only [Option.some.injEq, Value.slice.injEq] at h1; obtain ⟨h3, _, _⟩ := h1; subst h3; subst h2; rcases hat with h | h
  ·exact .inl (hrowAt _ h)
  ·exact .inr (by show W.heap.size ≤ g; omega)
def cellsP (ks : List Int) (rs : List ByteArray) {n : Nat} (pre : List (Pl n)) : List Value := L5.strCells (pre.map fun x => cellAt ks rs x.1)
theorem cellsP_snoc (ks : List Int) (rs : List ByteArray) {n : Nat} (pre : List (Pl n)) (x : Pl n) : cellsP ks rs (pre ++ [x]) = cellsP ks rs pre ++ [.string (cellAt ks rs x.1)] := by unfold cellsP; rw [List.map_append, List.map_cons, List.map_nil, L5.strCells_snoc]
theorem cellsP_all (ks : List Int) (rs : List ByteArray) {n : Nat} {xs : List (Pl n)} (h : xs.map (·.1) = List.range n) : cellsP ks rs xs = L5.strCells ((List.range n).map (cellAt ks rs)) := by unfold cellsP; rw [← h, List.map_map]; rfl
theorem parts_any (F L R : Int) (H : ByteArray) (A : Option Addr) (n ca : Nat) (C : Option Addr) (m cb : Nat) (ks : List Int) (ss : List ByteArray) (w : World) (hr : Rows2 w A n ca C m cb ks ss) (hf : Fit H ks ss) :
  Calls Tryz.prog 70 #[nv F L R H A n ca C m cb] w fun e w' => ∃ G cap, e = .returned (.tuple #[.string (fixedS H ss), .slice G n cap]) ∧ L5.Lies w' w'.heap.size G (cellsS ks ss) ∧ Below w.heap.size w w' := by
 obtain ⟨i0, hi0, hz0, hz1, hz2⟩ := info_parts L5.Tryz.infoStr
 have hnm : n = m + 1 := by rw [← hr.nk, ← hr.nm]; exact hf.len
 have hms := hr.nm; have hks := hr.nk
 have hm1000 : m ≤ 1000 := by rw [← hms]; exact hf.few
 have HKID : Hid (∀ i (hi : i < n), ∃ k, ks[i]? = some k ∧ KidOk k ∧ ks.getD i 0 = k) := zj (fun i hi => by
  have h1 : ks[i]? = some ks[i] := List.getElem?_eq_getElem (by omega)
  exact ⟨_, h1, hf.kids _ (List.mem_of_getElem? h1), by rw [List.getD_eq_getElem?_getD, h1]; rfl⟩)
 have HLO : Hid (∀ i, (loAt ⟨#[]⟩ (L5.bares ss) i).size ≤ 128) := zj (fun i => lo_size (bares_size hf.sep) i); have HCR : Hid ((List.range n).map (cellAt ks (L5.bares ss)) = cellsS ks ss) := zj (by rw [← hks]; exact cells_range hf.len); have HCL : Hid (n = (cellsS ks ss).length) := zj (by rw [cellsS_length hf.len, hks]); have HPK := zj (fun (k : Int) (t : ByteArray) (hk : KidOk k) (ht : t.size ≤ 128) W => (by have h := L9.putk_any k t W (by omega); rw [putk_ok hk ht] at h; exact h : Calls Tryz.prog 126 #[.int .i64 k, .string t] W fun e w' => e = .returned (.tuple #[.string (L9.kidS k.toNat t), .int .i64 0]) ∧ Below W.heap.size W w')); have HST := zj (fun W (h : L5.Lies W W.heap.size C ss) => L5.strip_any C ss cb W h (by omega) (fun s hs => by have := hf.sep s hs; omega) (by rw [hms]; exact hr.cm)); rw [hms] at HST; have HT1 := zj (fun W => text_any (L5.headS ss) W (by have := headS_size hf.sep; omega)); have HT2 := zj (fun W => text_any H W (by have := hf.high; omega)); have HZ : Hid (L9.textS (L5.headS ss) ++ L9.textS H = fixedS H ss) := zj rfl; have z1 := L9.textS_size (L5.headS ss) (by have := headS_size hf.sep; omega); have z2 := L9.textS_size H (by have := hf.high; omega); have z3 := headS_size hf.sep; have z4 := hf.high; have HBL : Hid ((L5.bares ss).length = m) := zj (by rw [L5.bares_length, hms]); generalize L9.textS (L5.headS ss) = Z1 at *; generalize L9.textS H = Z2 at *
 have hzs : ¬ 9223372036854775807 < Z1.size + Z2.size := by omega
 have hzs' : ¬ (9223372036854775807 : Int) < (Z1.size : Int) + (Z2.size : Int) := by omega
 have HNM := zj hnm; have hb1 := nbox_below 29 F L R H A n ca C m cb w; have HB1 := zj hb1; have HK1 := zj (nbox_new 29 F L R H A n ca C m cb w); have HR1 := zj (hr.on hb1); have HR0 := zj hr; clear z1 z2 z3 z4 hnm hms hks hb1 hr hf; refine (callsIn_wide (n := 5)).1 ?_; refine callsIn_of_wp_marks Tryz.func70 rfl trivial ?_ rfl; simp only [Tryz.ntmps70, List.size_toArray, List.length_cons, List.length_nil, Nat.reduceAdd, Nat.reduceSub, Array.replicate_succ, Array.replicate_zero, List.push_toArray, List.append_toArray, List.nil_append, List.cons_append]
 gi_wp2_with fail
 refine ⟨trivial, ?_⟩; refine (callsIn_wide.2 (HST.out _ HR1.out.seps)).mono ?_; rintro e V1 ⟨G, gc, rfl, hgc, hLG, hV1, hGN⟩; have HV1 := zj hV1; have HKV := zj (HK1.out.below hV1); obtain ⟨c0, c1, c2, c3, c4, c5⟩ := HKV.out.cells; obtain ⟨f0, f1, f2, f3, f4, f5⟩ := HKV.out.free; obtain ⟨x0, x1, x2, x3, x4, x5⟩ := (HKV.out.set5 G m gc).cells; have HK2 := zj ((HKV.out.set5 G m gc).below (L5.below_alloc _ (.cells #[.slice none 0 0] 22))); obtain ⟨y0, y1, y2, y3, y4, y5⟩ := HK2.out.cells; have hBV : Below w.heap.size w (V1.setCell ⟨w.heap.size, 5, none⟩ (.slice G m gc)) := (HB1.out.trans' hV1).setCell (p := ⟨w.heap.size, 5, none⟩) (Nat.le_refl _) _; have HBV := zj hBV
 have hsv : (V1.setCell ⟨w.heap.size, 5, none⟩ (.slice G m gc)).heap.size = V1.heap.size := by simp
 have HSV := zj hsv; have HGA : Hid (L5.Lies (V1.setCell ⟨w.heap.size, 5, none⟩ (.slice G m gc)) V1.heap.size G (L5.bares ss)) := zj (lies_apart hLG (g := w.heap.size) ?gne (fun q hq => Below.heap_setCell V1 ⟨w.heap.size, 5, none⟩ _ q hq))
 case gne =>
  intro a ha h; have h1 := hGN a ha; rw [nbox_size] at h1; omega
 have HGN : Hid (G = none → m = 0) := zj (fun h => by
  subst h; have h1 := HBL.out
  cases hb : L5.bares ss with
  | nil => rw [hb] at h1; exact h1.symm
  | cons s l =>
   rw [hb] at hLG; obtain ⟨a, e, _⟩ := hLG 0 s rfl
   cases e)
 have HX1 : Hid (w.heap.size < V1.heap.size) := zj HKV.out.lt; have HK2' := zj (HKV.out.set5 G m gc); clear hV1 hLG hBV hsv hGN
 gi_wp2_with fail
 clear c0 c1 c2 c3 c4 c5 f0 f1 f2 f3 f4 f5 x0 x1 x2 x3 x4 x5 y0 y1 y2 y3 y4 y5 HKV HV1 HST HB1 HK1 HR1 HK2; generalize V1.setCell ⟨w.heap.size, 5, none⟩ (.slice G m gc) = V2 at *; generalize V1.heap.size = X at *; refine ⟨trivial, ?_⟩; refine (callsIn_wide.2 (spans_any F L R H A n ca G m gc ⟨#[]⟩ _)).mono ?_; rintro e w1 ⟨rfl, rfl⟩; have b2 := ((Boxed.new V2 22 (.slice none 0 0)).alloc (.cells #[.int .i64 F, .int .i64 L, .int .i64 R, .string H, .slice A n ca, .slice G m gc] 29)).alloc (.cells #[.string ⟨#[]⟩] 9); have b3 := (nbox_new 29 F L R H A n ca G m gc (V2.alloc (.cells #[.slice none 0 0] 22))).below (L5.below_alloc _ (.cells #[.string ⟨#[]⟩] 9)); have b4 := Boxed.new (nbox 29 F L R H A n ca G m gc (V2.alloc (.cells #[.slice none 0 0] 22))) 9 (.string ⟨#[]⟩)
 have hB2 : Below V2.heap.size V2 ((nbox 29 F L R H A n ca G m gc (V2.alloc (.cells #[.slice none 0 0] 22))).alloc (.cells #[.string ⟨#[]⟩] 9)) :=
  ((L5.below_alloc _ _).trans' (nbox_below 29 F L R H A n ca G m gc _)).trans' (L5.below_alloc _ _)
 have HSZ : Hid (((nbox 29 F L R H A n ca G m gc (V2.alloc (.cells #[.slice none 0 0] 22))).alloc (.cells #[.string ⟨#[]⟩] 9)).heap.size = X + 3) := zj (by simp [HSV.out]); have HB0 := zj (HBV.out.trans (hB2.mono (by have := HSV.out; have := HX1.out; omega))); have b1 := HK2'.out.below hB2; have HGL := zj (lies_below' HGA.out hB2 (by rw [HSV.out]; exact Nat.le_refl _))
 gi_wp2_with fail
 simp only [World.size_alloc, nbox, HSV.out] at b1 b2 b3 b4 HB0 HGL ⊢; simp only [nbox] at HSZ; clear hB2; obtain ⟨W0, hW0⟩ : ∃ W0, ((V2.alloc (.cells #[.slice none 0 0] 22)).alloc (.cells #[.int .i64 F, .int .i64 L, .int .i64 R, .string H, .slice A n ca, .slice G m gc] 29)).alloc (.cells #[.string ⟨#[]⟩] 9) = W0 := ⟨_, rfl⟩; rw [hW0] at b1 b2 b3 b4 HB0 HSZ HGL ⊢; clear hW0 HK2' HSV HBV HGA; have hsz := HSZ.out; have hX1 := HX1.out
 have hnoR : ∀ k, ¬ RowAt X W0 k := fun k ⟨a, n, c, h1, _⟩ => by
  rw [b2.cell] at h1; cases h1
 refine wpIn_rangeFunc_ownH rfl (by omega) (gf := 177) (lb := #[.pointer (some ⟨X + 1, 0, none⟩), .pointer (some ⟨X + 1 + 1, 0, none⟩)]) rfl trivial (enters_of Tryz.func177 (by kernel_rfl) rfl)
  (spans_stops _ (by omega) (X + 1) (X + 1 + 1) X F L R H A n ca G m gc (L5.bares ss) ⟨#[]⟩ HGN.out HNM.out HBL.out hgc (by omega) W0 b3 b4 (HGL.out.more (by omega)) ⟨_, _, _, b2⟩ hnoR (by omega)) (fun h k => h.trans k) (kpR_b _) (Below.refl _ _) (fun x => rfl)
  (fun (pre : List (Pl n)) W => (∃ v, Boxed W X 22 v ∧ W.ownsRow X 9 1 v pre.length (cellsP ks (L5.bares ss) pre) ∧ True) ∧ NBx 29 w.heap.size F L R H A n ca G m gc W ∧ Below w.heap.size w W)
  (fun c (pre : List (Pl n)) W => False)
  (OwnFrom.and (Own.from (holdsRow_own X X 22 9 1 (fun pre : List (Pl n) => pre.length) (fun pre => cellsP ks (L5.bares ss) pre) (fun _ _ => True)) _) (OwnFrom.and (fun x Y Z row hs hg hr => NBx.own hs hg (fun r e => (hr r e).2)) (ownFrom_below (Nat.le_refl _) (by omega))))
  (fun c x Y Z row hs hg hr => hs)
  ⟨⟨_, b2, World.ownsRow_nil _ _ _ _, trivial⟩, b1, HB0.out⟩
  (fun x a' W => ∃ Bx, SBx Bx (loAt ⟨#[]⟩ (L5.bares ss) x.1) (hiAt (L5.bares ss) H x.1) (doesAt m R x.1) W ∧ a' = { tmps := #[nv F L R H A n ca C m cb, .pointer (some ⟨w.heap.size, 0, none⟩), .string ⟨#[]⟩, .slice none 0 0, .string (L5.headS ss), .slice G m gc, .pointer (some ⟨X, 0, none⟩), .int .i64 x.1, .pointer (some ⟨Bx, 0, none⟩), undef, undef, .tuple #[.string (L5.headS ss), .slice G m gc], .pointer (some ⟨w.heap.size, 5, none⟩), .slice C m cb, .tuple #[.string (L5.headS ss), .slice G m gc], .string (L5.headS ss), .slice G m gc, .slice G m gc, .pointer (some ⟨w.heap.size, 5, none⟩), .agg #[.int .i64 F, .int .i64 L, .int .i64 R, .string H, .slice A n ca, .slice G m gc], .func (.func 177) #[] #[.pointer (some ⟨X + 1, 0, none⟩), .pointer (some ⟨X + 1 + 1, 0, none⟩)], .int .i64 x.1, .agg #[.string (loAt ⟨#[]⟩ (L5.bares ss) x.1), .string (hiAt (L5.bares ss) H x.1), .bool (doesAt m R x.1)], undef, undef, undef, undef, undef, undef, undef, undef, undef, undef, undef, undef, undef, undef, undef, undef, undef, undef, undef, undef, undef, undef], defers := [] })
  (fun x a' _ Y Z row hs hg hr => by
   obtain ⟨Bx, h2, h3⟩ := hs
   exact ⟨Bx, h2.own hg (fun r e => (hr r e).2), h3⟩)
  ?assign ?body ?done ?stop
 case assign =>
  rintro l pre x W K ⟨⟨v, hv, hrow, _⟩, hN, hB⟩ hK; simp only [spVals]
  gi_wp2
  exact hK _ _ ((KeepsOthers.alloc _ _).from _) (KpR.of_below (L5.below_alloc _ _)) ⟨⟨v, hv.alloc _, hrow.alloc _, trivial⟩, hN.below (L5.below_alloc _ _), hB.alloc hB.size _⟩ ⟨W.heap.size, SBx.new _ _ _ W, rfl⟩
 case stop =>
  rintro D c pre W hD _ hf hK; exact hf.elim
 case body =>
  rintro l pre x a' W hl ⟨rr, hr⟩ ⟨⟨v, hv, hrow, _⟩, hN, hB⟩ ⟨Bx, bX, rfl⟩ hlt; have hXW := hv.lt; have HN1 := zj hN; have HB := zj hB; have HV := zj hv; have HRW := zj hrow; have HBX := zj bX; have HSNOC := zj (cellsP_snoc ks (L5.bares ss) pre x); have HLEN : Hid ((pre ++ [x]).length = pre.length + 1) := zj (by simp); obtain ⟨k, hki, hkid, hkd⟩ := HKID.out x.1 x.2; obtain ⟨a, rfl, hab, hcell⟩ := (HR0.out.kids.below hB) x.1 k hki; have HCA : Hid (L9.kidS k.toNat (loAt ⟨#[]⟩ (L5.bares ss) x.1) = cellAt ks (L5.bares ss) x.1) := zj (by unfold cellAt; rw [hkd]); have hlo := HLO.out x.1; have HPC := zj (HPK.out k (loAt ⟨#[]⟩ (L5.bares ss) x.1) hkid hlo); obtain ⟨c0, c1, c2⟩ := bX.cells; obtain ⟨-, -, -, -, e4, -⟩ := hN.cells
  have hplen : pre.length ≤ 1002 := by have := HNM.out; omega
  obtain ⟨i, hi⟩ := x; simp only at c0 c1 c2 hcell HPC HCA HSNOC hlo ⊢
  have h0 : (0 : Int) ≤ i := by omega
  have hin : (i : Int) < n := by omega
  generalize loAt ⟨#[]⟩ (L5.bares ss) i = lo at *; generalize hiAt (L5.bares ss) H i = hh at *; generalize doesAt m R i = d at *; generalize cellAt ks (L5.bares ss) i = cc at *
  have HS : Hid (∀ V, Below W.heap.size W V → (Hid (Below W.heap.size W V) ∧ V.cell? ⟨w.heap.size, 4, none⟩ = some (.slice (some a) n ca) ∧ V.cell? (a.add i) = some (.int .i64 k) ∧ V.cell? ⟨Bx, 0, none⟩ = some (.string lo))) := zj (fun V hb =>
   ⟨zj hb, (hb.cell (p := ⟨w.heap.size, 4, none⟩) HN1.out.lt).trans e4, (hb.cell (by rw [L5.addr_block]; exact Nat.lt_of_lt_of_le hab HB.out.size)).trans hcell, (hb.cell (p := ⟨Bx, 0, none⟩) HBX.out.lt).trans c0⟩)
  have hDrew := HS.out W.drew (L5.below_drewN (Below.refl _ W) 1); clear hv hrow hN hB bX hki hkid hkd hlt c0 c1 c2 e4 hcell hab hr
  gi_wp2_with fail
  refine wpIn_region_held (S := fun V => Hid (Below W.heap.size W V) ∧ V.cell? ⟨w.heap.size, 4, none⟩ = some (.slice (some a) n ca) ∧ V.cell? (a.add i) = some (.int .i64 k) ∧ V.cell? ⟨Bx, 0, none⟩ = some (.string lo)) (by kernel_rfl) (by kernel_rfl) ?nolets hDrew (fun hHeld => ?_)
  case nolets => rintro ⟨a0, w0, h0⟩; exact h0
  clear hDrew; refine tk 0 (some 24) ?_ rfl rfl ?_ ?_; rotate_left
  ·intro W h; (try dsimp only at h); go_simp; (try with_reducible rfl)
  try simp only [Act.put, jA, jZ, jS]
  refine tk 1 (some 25) ?_ rfl rfl ?_ ?_; rotate_left
  ·intro W h; (try dsimp only at h); go_simp; (try with_reducible rfl)
  try simp only [Act.put, jA, jZ, jS]
  refine tk 2 (some 26) ?_ rfl rfl ?_ ?_; rotate_left
  ·intro W h; (try dsimp only at h); go_simp; (try with_reducible rfl)
  try simp only [Act.put, jA, jZ, jS]
  refine tk 3 (some 27) ?_ rfl rfl ?_ ?_; rotate_left
  ·intro W h; (try dsimp only at h); go_simp; (try with_reducible rfl)
  try simp only [Act.put, jA, jZ, jS]
  refine tk 4 (some 28) ?_ rfl rfl ?_ ?_; rotate_left
  ·intro W h; (try dsimp only at h); go_simp; (try with_reducible rfl)
  try simp only [Act.put, jA, jZ, jS]
  refine tk 5 (some 29) ?_ rfl rfl ?_ ?_; rotate_left
  ·intro W h; (try dsimp only at h); go_simp; (try with_reducible rfl)
  try simp only [Act.put, jA, jZ, jS]
  refine tk 6 (some 30) ?_ rfl rfl ?_ ?_; rotate_left
  ·intro W h; (try dsimp only at h); go_simp; (try with_reducible rfl)
  try simp only [Act.put, jA, jZ, jS]
  refine rd1 7 rfl (fun KK hK => ?_); go_simp; refine (HPC.out _).mono ?_; rintro e V ⟨rfl, hbV⟩; have HWV := zj (hHeld.1.out.trans' hbV); have hH2 := HS.out _ HWV.out; clear hHeld hbV; have hHeld := hH2; clear hH2; go_wp2_with fail; refine hK.out _ _ hHeld (fun _ => ?_); clear hK KK; try simp only [Act.put, jA, jZ, jS]
  refine tk 8 (some 23) ?_ rfl rfl ?_ ?_; rotate_left
  ·intro W h; (try dsimp only at h); go_simp; (try with_reducible rfl)
  try simp only [Act.put, jA, jZ, jS]
  refine tk 9 (some 32) ?_ rfl rfl ?_ ?_; rotate_left
  ·intro W h; (try dsimp only at h); go_simp; (try with_reducible rfl)
  try simp only [Act.put, jA, jZ, jS]
  refine tk 10 (some 33) ?_ rfl rfl ?_ ?_; rotate_left
  ·intro W h; (try dsimp only at h); go_simp; (try with_reducible rfl)
  try simp only [Act.put, jA, jZ, jS]
  refine tk 11 (some 9) ?_ rfl rfl ?_ ?_; rotate_left
  ·intro W h; (try dsimp only at h); go_simp; (try with_reducible rfl)
  try simp only [Act.put, jA, jZ, jS]
  refine tk 12 (some 10) ?_ rfl rfl ?_ ?_; rotate_left
  ·intro W h; (try dsimp only at h); go_simp; (try with_reducible rfl)
  try simp only [Act.put, jA, jZ, jS]
  refine wpAnyH_done (by kernel_rfl) ?_ _; clear hHeld; have hvV := HV.out.kept (row := none) ⟨HWV.out.os, HWV.out.tape, HWV.out.output, HWV.out.size, fun k hk _ => HWV.out.block k hk⟩ (by simp); have hrV := L5.own_below HRW.out HWV.out; have HRV := zj hrV; have HVV := zj hvV; have cv := hvV.cell; have hXV : X < V.heap.size := hvV.lt; clear hrV hvV
  gi_wp2_with (gi_at_builtin; refine wpListIn_append_lies _ rfl _ _ 22 rfl X 9 i0 (.string ⟨#[]⟩) 1 16 Tryz.underlying22 hi0 hz0 hz1 hz2 rfl (by decide) v pre.length _ rfl (HRV.out.alloc _) ⟨V.heap.size, 0, none⟩ 1 1 [.string (L9.kidS k.toNat lo)] rfl rfl (World.news_of_block (cs := #[.string (L9.kidS k.toNat lo)]) (t := 9) (fr := (0, 0)) (heap_alloc_new V _)) (L5.str_one _) (by omega) (by unfold maxLen; omega) (by omega) (by simp; omega) ?_; intro g' cap' w1 hown' hgrow hat; obtain ⟨hv1, hv2, hr2, hk2, hb2⟩ := HVV.out.appended (by decide) HRV.out (by omega) (Nat.le_refl _) hown' hgrow; have hc1 := hv1.cell; have hf1 := hv1.frozen)
  have hsV := HWV.out.size; have HKF : Hid (KeepsFrom W0.heap.size W V) := zj (KeepsFrom.of_grownBy (row := none) ⟨HWV.out.os, HWV.out.tape, HWV.out.output, HWV.out.size, fun k hk _ => HWV.out.block k hk⟩ (fun j h => by cases h)); refine ⟨HKF.out.trans (hk2.from _), (KpR.of_below HWV.out).trans (kpR_append HVV.out HRV.out hgrow (hat.imp id (fun h => by simpa using h)) hv2), ⟨⟨_, hv2, ?_, trivial⟩, ?_, ?_⟩⟩
  ·rw [HLEN.out, HSNOC.out, ← HCA.out]
   exact hr2
  ·exact (HN1.out.below HWV.out).on hb2 (by omega)
  ·exact (HB.out.trans (HWV.out.mono HB.out.size)).trans (hb2.mono (by omega))
 case done =>
  rintro D xs W hD hall ⟨⟨v, hv, hrow, _⟩, hN, hB⟩ hK
  have hlen : xs.length = n := by
   have := congrArg List.length hall
   simpa using this
  rw [cellsP_all ks (L5.bares ss) hall, HCR.out, hlen] at hrow; obtain ⟨g, cap, rfl, _, _⟩ := hrow.form (by have := HNM.out; omega); have HRW := zj hrow; have HV := zj hv; have HB := zj hB; have HN1 := zj hN; have HKD := zj hK
  have HS : Hid (∀ V, Below W.heap.size W V → (Hid (Below W.heap.size W V) ∧ V.cell? ⟨w.heap.size, 3, none⟩ = some (.string H) ∧ V.cell? ⟨X, 0, none⟩ = some (.slice (some ⟨g, 0, none⟩) n cap))) := zj (fun V hb =>
   ⟨zj hb, (hb.cell (p := ⟨w.heap.size, 3, none⟩) HN1.out.lt).trans HN1.out.cells.2.2.2.1, (hb.cell (p := ⟨X, 0, none⟩) HV.out.lt).trans HV.out.cell⟩)
  have hDrew := HS.out W.drew (L5.below_drewN (Below.refl _ W) 1); clear hall hlen hrow hv hB hN hK
  gi_wp2_with fail
  refine Code.wpIn_mono NoPanic.imp ?_; refine wpIn_region_heldW (S := fun V => Hid (Below W.heap.size W V) ∧ V.cell? ⟨w.heap.size, 3, none⟩ = some (.string H) ∧ V.cell? ⟨X, 0, none⟩ = some (.slice (some ⟨g, 0, none⟩) n cap)) (by kernel_rfl) (by kernel_rfl) ?nolets hDrew (fun hHeld => ?_)
  case nolets => rintro ⟨a0, w0, ⟨_, _, h0, _⟩⟩; cases h0
  clear hDrew; refine tk 0 (some 38) ?_ rfl rfl ?_ ?_; rotate_left
  ·intro W h; (try dsimp only at h); go_simp; (try with_reducible rfl)
  try simp only [Act.put, jA, jZ, jS]
  refine tk 2 (some 40) ?_ rfl rfl ?_ ?_; rotate_left
  ·intro W h; (try dsimp only at h); go_simp; (try with_reducible rfl)
  try simp only [Act.put, jA, jZ, jS]
  refine tk 3 (some 41) ?_ rfl rfl ?_ ?_; rotate_left
  ·intro W h; (try dsimp only at h); go_simp; (try with_reducible rfl)
  try simp only [Act.put, jA, jZ, jS]
  refine tk 6 (some 44) ?_ rfl rfl ?_ ?_; rotate_left
  ·intro W h; (try dsimp only at h); go_simp; (try with_reducible rfl)
  try simp only [Act.put, jA, jZ, jS]
  refine rd1 1 rfl (fun KK hK => ?_); go_simp; refine (HT1.out _).mono ?_; rintro e V ⟨rfl, hbV⟩; have HWV := zj (hHeld.1.out.trans' hbV); have hH2 := HS.out _ HWV.out; clear hHeld hbV; have hHeld := hH2; clear hH2; go_wp2_with fail; refine hK.out _ _ hHeld (fun _ => ?_); clear hK KK; try simp only [Act.put, jA, jZ, jS]
  refine rd1 4 rfl (fun KK hK => ?_); go_simp; refine (HT2.out _).mono ?_; rintro e V ⟨rfl, hbV⟩; have HWV := zj (hHeld.1.out.trans' hbV); have hH2 := HS.out _ HWV.out; clear hHeld hbV; have hHeld := hH2; clear hH2; go_wp2_with fail; refine hK.out _ _ hHeld (fun _ => ?_); clear hK KK; try simp only [Act.put, jA, jZ, jS]
  refine tk 5 (some 43) ?_ rfl rfl ?_ ?_; rotate_left
  ·intro W h; (try dsimp only at h); go_simp; (try with_reducible rfl)
  try simp only [Act.put, jA, jZ, jS]
  refine tk 7 (some 2) ?_ rfl rfl ?_ ?_; rotate_left
  ·intro W h; (try dsimp only at h); go_simp; (try with_reducible rfl)
  try simp only [Act.put, jA, jZ, jS]
  refine tk 8 (some 3) ?_ rfl rfl ?_ ?_; rotate_left
  ·intro W h; (try dsimp only at h); go_simp; (try with_reducible rfl)
  try simp only [Act.put, jA, jZ, jS]
  refine wpAnyH_done (by kernel_rfl) ?_ _; refine NoPanic.normal ?_; clear hHeld
  gi_wp2
  have hD1 : (V.heap[D]?) = some (.deferred (some [])) := (HWV.out.block D (Array.getElem?_eq_some_iff.1 HKD.out).1).trans HKD.out; refine ⟨by simp, .inl ⟨_, _, rfl, run_takeDeferred hD1, ?_⟩⟩; refine ⟨.tuple #[.string (fixedS H ss), .slice (some ⟨g, 0, none⟩) n cap], by simp [results, Tryz.results70, go_sem, HZ.out], some ⟨g, 0, none⟩, cap, rfl, ?_, ?_⟩
  ·exact L5.lies_own (ownsRow_putObj (L5.own_below HRW.out HWV.out) _ hD1 rfl) HCL.out
  ·exact (HB.out.trans (HWV.out.mono HB.out.size)).trans (belowK_b (w := w) (Nat.le_refl _) V D _ _ (by omega) hD1 rfl rfl)
end Go.Proofs.YtpeghilfldpgfaaGreatDoor.L11
