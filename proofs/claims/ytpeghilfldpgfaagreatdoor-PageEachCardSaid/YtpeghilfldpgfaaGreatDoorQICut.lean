import Derived.Test.YtpeghilfldpgfaaGreatDoorQ15
namespace Go.Proofs.YtpeghilfldpgfaaGreatDoor.L11
open Go.RowKit IP
set_option linter.unusedVariables false
set_option linter.unusedSimpArgs false
def cutH (H : ByteArray) : ByteArray := H.extract 0 (min H.size 140)
def cutSs (ss : List ByteArray) : List ByteArray := match ss with | [] => [] | s :: _ => (L5.cutL ss).set 0 (cutH s)
theorem cut_m (s : ByteArray) : ∃ m : Nat, min (s.size : Int) 140 = m ∧ m ≤ 140 ∧ m ≤ s.size ∧ cutH s = s.extract 0 m := ⟨min s.size 140, by omega, by omega, by omega, rfl⟩
theorem cut_30 (n : Nat) : ∃ k : Nat, min (n : Int) 30 = k ∧ k ≤ 30 ∧ k ≤ n ∧ k = min 30 n := ⟨min 30 n, by omega, by omega, by omega, rfl⟩
theorem step_append_none {P : Program} (w : World) {ops : Array Oper} {o : Oper} {a : Act} {K : Act → World → Prop} {Q : Exit → Act → World → Prop} {E : Prop} (hgd : o.guard = none) (s x : Operand) (t : TypeId)
    (ho : o.op = .call { callee := .builtin .append, args := #[s, x], argTypes := #[t, t] })
    (e : TypeId) (i : TypeInfo) (ht : P.underlying t = some (.slice e)) (hi : P.info? e = some i) (A : Option Addr) (n c : Nat) (hs : a.eval s = .slice A n c) (hle : n ≤ c) (B : Option Addr) (cb : Nat) (hx : a.eval x = .slice B 0 cb)
    (h : K (a.put o.dst (.slice A n c)) w) :
    if Region.wanted o (yielded ops a.tmps) = true then Oper.wp P o a w K Q else E := by
  have hw : Region.wanted o (yielded ops a.tmps) = true := by simp [Region.wanted, hgd]
  rw [if_pos hw]
  have hsrc : Src P i.size t (.slice B 0 cb) 0 [] w := by
    cases B with
    | none => exact Src.ofNil w ht cb
    | some b => exact Src.ofSlice w ht b 0 cb [] (by simp) (fun j u hu => by simp at hu) (by simp)
  have hr := run_append_nothing (P := P) w t t o.type e i ht hi A n c hle (.slice B 0 cb) hsrc
  unfold Oper.wp execOp
  simp only [ho, resolve, invoke, builtin, Sem.run_bind, Sem.run_pure, Result.andThen_ok, List.map_toArray, List.map_cons, List.map_nil, hs, hx, hr]
  exact h
theorem step_kids {P : Program} (w : World) {ops : Array Oper} {o : Oper} {a : Act} {K : Act → World → Prop} {Q : Exit → Act → World → Prop} {E : Prop} (hgd : o.guard = none) (s x : Operand) (t : TypeId)
    (ho : o.op = .call { callee := .builtin .append, args := #[s, x], argTypes := #[t, t] })
    (base : Nat) (e : TypeId) (i : TypeInfo) (z : Value) (ht : P.underlying t = some (.slice e)) (hi : P.info? e = some i) (hz : i.zero = some z)
    (hsize : i.size = 1) (hby : i.bytes = 8) (hzs : z.cells.size = 1) (g0 : Nat) (hs : a.eval s = .slice (some ⟨g0, 0, none⟩) 0 0) (hown : w.ownsRow base e 1 (.slice (some ⟨g0, 0, none⟩) 0 0) 0 [])
    (A : Option Addr) (k c : Nat) (news : List Value) (hx : a.eval x = .slice A k c) (hA : A = none → k = 0) (hl : news.length = k) (hnews : ∀ ad, A = some ad → ∀ j u, news[j]? = some u → w.cell? (ad.add j) = some u) (h1 : ∀ u ∈ news, u.oneCell' = true)
    (hk : k ≤ 30) (hbase : base ≤ w.heap.size)
    (h : ∀ g cap w', w'.ownsRow base e 1 (.slice (some ⟨g, 0, none⟩) k cap) k news → w.grownBy w' (some g0) → K (a.put o.dst (.slice (some ⟨g, 0, none⟩) k cap)) w') :
    if Region.wanted o (yielded ops a.tmps) = true then Oper.wp P o a w K Q else E := by
  rcases Nat.eq_zero_or_pos k with hk0 | hk0
  · subst hk0
    obtain rfl := List.eq_nil_of_length_eq_zero hl
    exact step_append_none w hgd s x t ho e i ht hi (some ⟨g0, 0, none⟩) 0 0 hs (Nat.le_refl _) A c hx (h g0 0 w hown ⟨rfl, rfl, rfl, Nat.le_refl _, fun _ _ _ => rfl⟩)
  · cases A with
    | none => exact absurd (hA rfl) (by omega)
    | some ad =>
      refine step_append_lies w hgd s x t ho base e i z 1 8 ht hi hz hsize hby hzs (by decide) (.slice (some ⟨g0, 0, none⟩) 0 0) 0 [] hs hown ad k c news hx (by omega) (hnews ad rfl) h1 hk0 (by unfold maxLen; omega) (by omega) hbase w.heap.size rfl ?_
      intro g cap w' h2 h3 _ _
      rw [Nat.zero_add] at h2 ⊢
      exact h g cap w' h2 h3
theorem cutSs_set {s : ByteArray} {l : List ByteArray} : L5.strCells (cutSs (s :: l)) = (L5.strCells (L5.cutL (s :: l))).set 0 (.string (cutH s)) := by
  unfold cutSs L5.strCells
  simp only [List.map_set]
theorem NBx.grown {t e : TypeId} {s0 g0 base k n : Nat} {F L R : Int} {H : ByteArray} {A : Option Addr} {ca : Nat} {C : Option Addr} {m cb : Nat} {cap : Nat} {xs : List Value} {X Y : World} (h : NBx t s0 F L R H A n ca C m cb X) (ho : X.ownsRow base e 1 (.slice (some ⟨g0, 0, none⟩) k cap) k xs) (he : e ≠ t) (hg : X.grownBy Y (some g0)) : NBx t s0 F L R H A n ca C m cb Y := by
  refine (hg.block s0 h.lt (fun e' => ?_)).trans h
  obtain ⟨-, cur, fz, h2⟩ := own1_block ho (g := g0) rfl
  obtain rfl := Option.some.inj e'
  unfold NBx at h
  rw [h] at h2
  injection h2 with h2
  injection h2 with _ h3
  exact he h3.symm
theorem own_setN {t e : TypeId} {s0 g0 base k n : Nat} {F L R F' L' R' : Int} {H H' : ByteArray} {A A' : Option Addr} {ca n' ca' : Nat} {C C' : Option Addr} {m cb m' cb' : Nat} {cap : Nat} {xs : List Value} {X : World} (h : NBx t s0 F L R H A n ca C m cb X) (ho : X.ownsRow base e 1 (.slice (some ⟨g0, 0, none⟩) k cap) k xs) (he : e ≠ t) : (setN X s0 F' L' R' H' A' n' ca' C' m' cb').ownsRow base e 1 (.slice (some ⟨g0, 0, none⟩) k cap) k xs := by
  have hne : (Value.slice (some ⟨g0, 0, none⟩) k cap).ownBlock ≠ some s0 := fun e' => by
    have e'' : g0 = s0 := Option.some.inj e'
    subst e''
    obtain ⟨-, cur, fz, h2⟩ := own1_block ho (g := g0) rfl
    unfold NBx at h
    rw [h] at h2
    injection h2 with h2
    injection h2 with _ h3
    exact he h3.symm
  unfold setN
  exact ownsRow_setCell_other (a := ⟨s0, 5, none⟩) (ownsRow_setCell_other (a := ⟨s0, 4, none⟩) (ownsRow_setCell_other (a := ⟨s0, 3, none⟩) (ownsRow_setCell_other (a := ⟨s0, 2, none⟩) (ownsRow_setCell_other (a := ⟨s0, 1, none⟩) (ownsRow_setCell_other (a := ⟨s0, 0, none⟩) ho hne _) hne _) hne _) hne _) hne _) hne _
theorem drew_below {c : Nat} {w v : World} (h : Below c w v) : Below c w v.drew := L5.below_drewN h 1
theorem cut_share {G : Prop} {A T : Nat → Nat → Nat → Nat → Nat → Nat → World → Prop} (main : (∀ a b c d e f U, A a b c d e f U → T a b c d e f U) → G) (tail : ∀ a b c d e f U, A a b c d e f U → T a b c d e f U) : G := main tail
set_option maxHeartbeats 4000000 in
set_option maxRecDepth 100000 in
theorem cutO_any (F L R : Int) (H : ByteArray) (A : Option Addr) (n ca : Nat) (C : Option Addr) (m cb : Nat) (ks : List Int) (ss : List ByteArray) (w : World) (hr : Rows2 w A n ca C m cb ks ss) (hn : n ≤ maxLen) (hca : ca ≤ maxLen) (hm : m ≤ maxLen) (hH : H.size ≤ maxLen) (hs : ∀ s ∈ ss, s.size ≤ maxLen) :
    Calls Tryz.prog 35 #[nv F L R H A n ca C m cb] w fun e w' => ∃ G gc D dc, e = .returned (nv F L R (cutH H) (some ⟨G, 0, none⟩) (min 30 n) gc (some ⟨D, 0, none⟩) (min 30 m) dc) ∧ w'.ownsRow w.heap.size 3 1 (.slice (some ⟨G, 0, none⟩) (min 30 n) gc) (min 30 n) (numCells (ks.take 30)) ∧ L5.Owns w' w.heap.size (.slice (some ⟨D, 0, none⟩) (min 30 m) dc) (min 30 m) (cutSs ss) ∧ Below w.heap.size w w' := by
  obtain ⟨i0, hi, hz0, hz1, hz2⟩ := info_parts Tryz.infoNum
  obtain ⟨B1, B2, hb0⟩ := WN_boxes 29 29 F L R H A n ca C m cb w
  have H1 := Lib.hid B1
  have H2 := Lib.hid B2
  have HZ := Lib.hid hb0
  have HA := Lib.hid (hr.kids.below hb0)
  have HSS := Lib.hid (hr.seps.below hb0)
  have HC := Lib.hid (fun V (h : Below (w.heap.size + 1 + 1) (WN 29 29 F L R H A n ca C m cb w) V) => L5.cutO_any C ss cb V ((lies_below' (hr.seps.below hb0) h (by omega)).more (by have := h.size; have := WN_size 29 29 F L R H A n ca C m cb w; omega)) (by rw [hr.nm]; exact hm) hs)
  rw [hr.nm, L5.cutL_length, hr.nm] at HC
  have hsz := WN_size 29 29 F L R H A n ca C m cb w
  obtain ⟨hq, hq1, hq2, hq3, hq4⟩ := cut_m H
  obtain ⟨HH, hHH⟩ : ∃ HH, H.extract 0 hq = HH := ⟨_, rfl⟩
  rw [hq4, hHH]
  obtain ⟨kn, hk1, hk2, hk3, hk4⟩ := cut_30 n
  have hkc : kn ≤ ca := by have := hr.ck; omega
  have HKL : Hid ((numCells (ks.take 30)).length = kn) := Lib.hid (by rw [numCells_length, List.length_take, hr.nk, hk4])
  have HN1 : Hid (∀ u ∈ numCells (ks.take 30), u.oneCell' = true) := Lib.hid (fun u hu => by
    obtain ⟨k, _, rfl⟩ := List.mem_map.1 hu
    simp [Value.oneCell'])
  have HAN : Hid (A = none → n = 0) := Lib.hid (fun h => by
    cases hks : ks with
    | nil => rw [← hr.nk, hks]; rfl
    | cons x l =>
      obtain ⟨a, ha, _⟩ := hr.kids 0 x (by rw [hks]; rfl)
      rw [h] at ha
      cases ha)
  have HSM := Lib.hid hr.nm
  have HSZ := Lib.hid (fun s (h : s ∈ ss) => hs s h)
  rw [← hk4]
  obtain ⟨mn, hmn⟩ : ∃ mn, min 30 m = mn := ⟨_, rfl⟩
  have HMN := Lib.hid hmn
  rw [hmn] at HC ⊢
  unfold maxLen at hn hca hH hm
  clear hq4 hr B1 B2 hb0 hk4 hmn hs
  go_enter Tryz.func35, Tryz.ntmps35
  go_wp2_with fail
  change Code.wp _ _ _ _ (WN 29 29 F L R H A n ca C m cb w)
  generalize WN 29 29 F L R H A n ca C m cb w = w1 at *
  generalize hqw : w.heap.size = q at *
  have HQW := Lib.hid hqw
  clear hqw
  have HNW : Hid (∀ V, Below (q + 1 + 1) w1 V → ∀ a, A = some a → ∀ j u, (numCells (ks.take 30))[j]? = some u → V.cell? (a.add j) = some u) := Lib.hid (fun V hb a ha j u hu => by
    unfold numCells at hu
    rw [List.getElem?_map] at hu
    obtain ⟨k, hk, rfl⟩ := Option.map_eq_some_iff.1 hu
    obtain ⟨a', ha', _, h2⟩ := ((HA.out.below' hb (by omega)).take 30) j k hk
    rw [ha] at ha'
    obtain rfl := Option.some.inj ha'
    exact h2)
  have HST : Hid (∀ V, Below (q + 1 + 1) w1 V → (Hid (Below (q + 1 + 1) w1 V) ∧ V.cell? ⟨q, 0, none⟩ = some (.int .i64 F) ∧ V.cell? ⟨q, 1, none⟩ = some (.int .i64 L) ∧ V.cell? ⟨q, 2, none⟩ = some (.int .i64 R) ∧ V.cell? ⟨q, 3, none⟩ = some (.string H) ∧ V.cell? ⟨q, 4, none⟩ = some (.slice A n ca) ∧ V.cell? ⟨q, 5, none⟩ = some (.slice C m cb))) := Lib.hid (fun V hb => ⟨Lib.hid hb, (H1.out.on hb (by omega)).cells⟩)
  have HSW := Lib.hid hsz
  have HWD := Lib.hid (drew_below (Below.refl (q + 1 + 1) w1))
  have hSd := HST.out _ HWD.out
  have hszd : w1.drew.heap.size = q + 1 + 1 := hsz
  clear hsz
  cases A with
  | none =>
    have HK0 : Hid (kn = 0) := Lib.hid (by have := HAN.out rfl; omega)
    refine wp_region_held_drew (S := fun V => Hid (Below (q + 1 + 1) w1 V) ∧ V.cell? ⟨q, 0, none⟩ = some (.int .i64 F) ∧ V.cell? ⟨q, 1, none⟩ = some (.int .i64 L) ∧ V.cell? ⟨q, 2, none⟩ = some (.int .i64 R) ∧ V.cell? ⟨q, 3, none⟩ = some (.string H) ∧ V.cell? ⟨q, 4, none⟩ = some (.slice none n ca) ∧ V.cell? ⟨q, 5, none⟩ = some (.slice C m cb)) (by kernel_rfl) hSd (fun hHeld => ?_)
    have HW := HWD
    clear hSd hszd HWD
    generalize w1.drew = V0 at *
    refine take_op (i := 0) (d := (some 4)) (v := ?_) rfl rfl (by kernel_rfl) (by kernel_rfl) (by kernel_rfl) (fun _ _ _ h => h) (Or.inl ⟨by kernel_rfl, ?_⟩) (by assumption) ?_
    rotate_left
    · intro W hSw; (try dsimp only at hSw); go_simp; (first | done | with_reducible rfl)
    try simp only [Act.put, List.setIfInBounds_toArray, List.set_cons_zero, List.set_cons_succ]
    refine take_op (i := 1) (d := (some 5)) (v := ?_) rfl rfl (by kernel_rfl) (by kernel_rfl) (by kernel_rfl) (fun _ _ _ h => h) (Or.inl ⟨by kernel_rfl, ?_⟩) (by assumption) ?_
    rotate_left
    · intro W hSw; (try dsimp only at hSw); go_simp; (first | done | with_reducible rfl)
    try simp only [Act.put, List.setIfInBounds_toArray, List.set_cons_zero, List.set_cons_succ]
    refine take_op (i := 2) (d := (some 6)) (v := ?_) rfl rfl (by kernel_rfl) (by kernel_rfl) (by kernel_rfl) (fun _ _ _ h => h) (Or.inl ⟨by kernel_rfl, ?_⟩) (by assumption) ?_
    rotate_left
    · intro W hSw; (try dsimp only at hSw); go_simp; (first | done | with_reducible rfl)
    try simp only [Act.put, List.setIfInBounds_toArray, List.set_cons_zero, List.set_cons_succ]
    refine take_op (i := 3) (d := (some 7)) (v := ?_) rfl rfl (by kernel_rfl) (by kernel_rfl) (by kernel_rfl) (fun _ _ _ h => h) (Or.inl ⟨by kernel_rfl, ?_⟩) (by assumption) ?_
    rotate_left
    · intro W hSw; (try dsimp only at hSw); go_simp; (first | done | with_reducible rfl)
    try simp only [Act.put, List.setIfInBounds_toArray, List.set_cons_zero, List.set_cons_succ]
    refine take_op (i := 4) (d := (some 8)) (v := ?_) rfl rfl (by kernel_rfl) (by kernel_rfl) (by kernel_rfl) (fun _ _ _ h => h) (Or.inl ⟨by kernel_rfl, ?_⟩) (by assumption) ?_
    rotate_left
    · intro W hSw; (try dsimp only at hSw); go_simp; (first | done | with_reducible rfl)
    try simp only [Act.put, List.setIfInBounds_toArray, List.set_cons_zero, List.set_cons_succ]
    refine take_op (i := 5) (d := (some 9)) (v := ?_) rfl rfl (by kernel_rfl) (by kernel_rfl) (by kernel_rfl) (fun _ _ _ h => h) (Or.inl ⟨by kernel_rfl, ?_⟩) (by assumption) ?_
    rotate_left
    · intro W hSw; (try dsimp only at hSw); go_simp; (first | done | with_reducible rfl)
    try simp only [Act.put, List.setIfInBounds_toArray, List.set_cons_zero, List.set_cons_succ]
    refine take_op (i := 6) (d := (some 10)) (v := ?_) rfl rfl (by kernel_rfl) (by kernel_rfl) (by kernel_rfl) (fun _ _ _ h => h) (Or.inl ⟨by kernel_rfl, ?_⟩) (by assumption) ?_
    rotate_left
    · intro W hSw; (try dsimp only at hSw); go_simp; (first | done | with_reducible rfl)
    try simp only [Act.put, List.setIfInBounds_toArray, List.set_cons_zero, List.set_cons_succ]
    refine take_op (i := 7) (d := (some 11)) (v := ?_) rfl rfl (by kernel_rfl) (by kernel_rfl) (by kernel_rfl) (fun _ _ _ h => h) (Or.inl ⟨by kernel_rfl, ?_⟩) (by assumption) ?_
    rotate_left
    · intro W hSw; (try dsimp only at hSw); go_simp; (first | done | with_reducible rfl)
    try simp only [Act.put, List.setIfInBounds_toArray, List.set_cons_zero, List.set_cons_succ]
    refine take_op (i := 8) (d := (some 12)) (v := ?_) rfl rfl (by kernel_rfl) (by kernel_rfl) (by kernel_rfl) (fun _ _ _ h => h) (Or.inl ⟨by kernel_rfl, ?_⟩) (by assumption) ?_
    rotate_left
    · intro W hSw; (try dsimp only at hSw); go_simp; (first | done | with_reducible rfl)
    try simp only [Act.put, List.setIfInBounds_toArray, List.set_cons_zero, List.set_cons_succ]
    refine take_op (i := 9) (d := (some 13)) (v := ?_) rfl rfl (by kernel_rfl) (by kernel_rfl) (by kernel_rfl) (fun _ _ _ h => h) (Or.inl ⟨by kernel_rfl, ?_⟩) (by assumption) ?_
    rotate_left
    · intro W hSw; (try dsimp only at hSw); go_simp; (first | done | with_reducible rfl)
    try simp only [Act.put, List.setIfInBounds_toArray, List.set_cons_zero, List.set_cons_succ]
    refine take_op (i := 10) (d := (some 14)) (v := ?_) rfl rfl (by kernel_rfl) (by kernel_rfl) (by kernel_rfl) (fun _ _ _ h => h) (Or.inl ⟨by kernel_rfl, ?_⟩) (by assumption) ?_
    rotate_left
    · intro W hSw; (try dsimp only at hSw); go_simp; (first | done | with_reducible rfl)
    try simp only [Act.put, List.setIfInBounds_toArray, List.set_cons_zero, List.set_cons_succ]
    refine take_op (i := 11) (d := (some 15)) (v := ?_) rfl rfl (by kernel_rfl) (by kernel_rfl) (by kernel_rfl) (fun _ _ _ h => h) (Or.inl ⟨by kernel_rfl, ?_⟩) (by assumption) ?_
    rotate_left
    · intro W hSw; (try dsimp only at hSw); go_simp; (first | done | with_reducible rfl)
    try simp only [Act.put, List.setIfInBounds_toArray, List.set_cons_zero, List.set_cons_succ]
    refine take_op (i := 12) (d := (some 16)) (v := ?_) rfl rfl (by kernel_rfl) (by kernel_rfl) (by kernel_rfl) (fun _ _ _ h => h) (Or.inl ⟨by kernel_rfl, ?_⟩) (by assumption) ?_
    rotate_left
    · intro W hSw; (try dsimp only at hSw); go_simp; (first | done | with_reducible rfl)
    try simp only [Act.put, List.setIfInBounds_toArray, List.set_cons_zero, List.set_cons_succ]
    refine take_op (i := 14) (d := (some 18)) (v := ?_) rfl rfl (by kernel_rfl) (by kernel_rfl) (by kernel_rfl) (fun _ _ _ h => h) (Or.inl ⟨by kernel_rfl, ?_⟩) (by assumption) ?_
    rotate_left
    · intro W hSw; (try dsimp only at hSw); go_simp; (first | done | with_reducible rfl)
    try simp only [Act.put, List.setIfInBounds_toArray, List.set_cons_zero, List.set_cons_succ]
    refine take_op (i := 15) (d := (some 19)) (v := ?_) rfl rfl (by kernel_rfl) (by kernel_rfl) (by kernel_rfl) (fun _ _ _ h => h) (Or.inl ⟨by kernel_rfl, ?_⟩) (by assumption) ?_
    rotate_left
    · intro W hSw; (try dsimp only at hSw); go_simp; (first | done | with_reducible rfl)
    try simp only [Act.put, List.setIfInBounds_toArray, List.set_cons_zero, List.set_cons_succ]
    refine take_op (i := 16) (d := (some 20)) (v := ?_) rfl rfl (by kernel_rfl) (by kernel_rfl) (by kernel_rfl) (fun _ _ _ h => h) (Or.inl ⟨by kernel_rfl, ?_⟩) (by assumption) ?_
    rotate_left
    · intro W hSw; (try dsimp only at hSw); go_simp; (first | done | with_reducible rfl)
    try simp only [Act.put, List.setIfInBounds_toArray, List.set_cons_zero, List.set_cons_succ]
    refine take_op (i := 17) (d := (some 21)) (v := ?_) rfl rfl (by kernel_rfl) (by kernel_rfl) (by kernel_rfl) (fun _ _ _ h => h) (Or.inl ⟨by kernel_rfl, ?_⟩) (by assumption) ?_
    rotate_left
    · intro W hSw; (try dsimp only at hSw); go_simp; (first | done | with_reducible rfl)
    try simp only [Act.put, List.setIfInBounds_toArray, List.set_cons_zero, List.set_cons_succ]
    refine take_op (i := 18) (d := (some 22)) (v := ?_) rfl rfl (by kernel_rfl) (by kernel_rfl) (by kernel_rfl) (fun _ _ _ h => h) (Or.inl ⟨by kernel_rfl, ?_⟩) (by assumption) ?_
    rotate_left
    · intro W hSw; (try dsimp only at hSw); go_simp; (first | done | with_reducible rfl)
    try simp only [Act.put, List.setIfInBounds_toArray, List.set_cons_zero, List.set_cons_succ]
    refine take_op (i := 19) (d := (some 23)) (v := ?_) rfl rfl (by kernel_rfl) (by kernel_rfl) (by kernel_rfl) (fun _ _ _ h => h) (Or.inl ⟨by kernel_rfl, ?_⟩) (by assumption) ?_
    rotate_left
    · intro W hSw; (try dsimp only at hSw); go_simp; (first | done | with_reducible rfl)
    try simp only [Act.put, List.setIfInBounds_toArray, List.set_cons_zero, List.set_cons_succ]
    refine take_op (i := 20) (d := (some 24)) (v := ?_) rfl rfl (by kernel_rfl) (by kernel_rfl) (by kernel_rfl) (fun _ _ _ h => h) (Or.inl ⟨by kernel_rfl, ?_⟩) (by assumption) ?_
    rotate_left
    · intro W hSw; (try dsimp only at hSw); go_simp; (first | done | with_reducible rfl)
    try simp only [Act.put, List.setIfInBounds_toArray, List.set_cons_zero, List.set_cons_succ]
    refine take_op (i := 22) (d := (some 26)) (v := ?_) rfl rfl (by kernel_rfl) (by kernel_rfl) (by kernel_rfl) (fun _ _ _ h => h) (Or.inl ⟨by kernel_rfl, ?_⟩) (by assumption) ?_
    rotate_left
    · intro W hSw; (try dsimp only at hSw); go_simp; (first | done | with_reducible rfl)
    try simp only [Act.put, List.setIfInBounds_toArray, List.set_cons_zero, List.set_cons_succ]
    refine take_op (i := 23) (d := (some 27)) (v := ?_) rfl rfl (by kernel_rfl) (by kernel_rfl) (by kernel_rfl) (fun _ _ _ h => h) (Or.inl ⟨by kernel_rfl, ?_⟩) (by assumption) ?_
    rotate_left
    · intro W hSw; (try dsimp only at hSw); go_simp; (first | done | with_reducible rfl)
    try simp only [Act.put, List.setIfInBounds_toArray, List.set_cons_zero, List.set_cons_succ]
    apply cut_share (A := fun g0 g' cap' g2 cap2 s0 U => Hid (Below (q + 1 + 1) w1 U) ∧ Hid (NBx 29 s0 F L R HH (some ⟨g', 0, none⟩) kn cap' (some ⟨g2, 0, none⟩) mn cap2 U) ∧ Hid (U.ownsRow (q + 1 + 1) 3 1 (.slice (some ⟨g', 0, none⟩) kn cap') kn (numCells (ks.take 30))) ∧ Hid (L5.Owns U (q + 1 + 1) (.slice (some ⟨g2, 0, none⟩) mn cap2) mn (L5.cutL ss)) ∧ q + 1 + 1 ≤ s0)
    · intro J0
      have J := Lib.hid J0
      clear J0
      have hsV0 : q + 1 + 1 ≤ V0.heap.size := by have := HW.out.size; have := HSW.out; omega
      refine wpAnyH_ready (rs := [13, 26]) (by kernel_rfl) (by simp) (AllReadyH.cons rfl (fun QQ hK => ?_) (AllReadyH.cons rfl (fun QQ hK => ?_) AllReadyH.nil))
      · go_simp
        have hb := L5.below_alloc V0 (.cells #[] 3)
        have hnew := own_less (L5.own_empty V0 3) (show q + 1 + 1 ≤ V0.heap.size by have := hsV0; omega)
        replace HW := Lib.hid (HW.out.trans (hb.mono hsV0))
        have hsV1 : q + 1 + 1 ≤ (V0.alloc (.cells #[] 3)).heap.size := by have := hb.size; omega
        have hHeld := HST.out _ HW.out
        refine hK.out _ _ hHeld (fun _ => ?_)
        clear hK hb
        generalize V0.alloc (.cells #[] 3) = V1 at *
        generalize V0.heap.size = g0 at *
        have HOE := Lib.hid hnew
        clear hnew
        try simp only [Act.put, List.setIfInBounds_toArray, List.set_cons_zero, List.set_cons_succ]
        refine wpAnyH_ready (rs := [21, 26]) (by kernel_rfl) (by simp) (AllReadyH.cons rfl (fun QQ hK => ?_) (AllReadyH.cons rfl (fun QQ hK => ?_) AllReadyH.nil))
        · refine step_kids _ (by rfl) _ _ _ (by rfl) (q + 1 + 1) 3 i0 (.int .i64 0) Tryz.underlying27 hi hz0 hz1 hz2 rfl g0 (by rfl) HOE.out none kn ca (numCells (ks.take 30)) (by rfl) (by first | exact fun _ => HK0.out | exact fun h => nomatch h) HKL.out (HNW.out _ HW.out) HN1.out (by omega) hsV1 ?_
          intro g' cap' V2 hown3 hgrow3
          have hbA : Below (q + 1 + 1) V1 V2 := L5.own_apart HOE.out hgrow3 (Nat.le_refl _) hsV1
          replace HW := Lib.hid (HW.out.trans hbA)
          have HO3 := Lib.hid hown3
          have hsV2 : q + 1 + 1 ≤ V2.heap.size := by have := hbA.size; omega
          have hHeld := HST.out _ HW.out
          refine hK.out _ _ hHeld (fun _ => ?_)
          clear hK hbA hown3 hgrow3 HOE
          try simp only [Act.put, List.setIfInBounds_toArray, List.set_cons_zero, List.set_cons_succ]
          refine wpAnyH_ready (rs := [24, 26]) (by kernel_rfl) (by simp) (AllReadyH.cons rfl (fun QQ hK => ?_) (AllReadyH.cons rfl (fun QQ hK => ?_) AllReadyH.nil))
          · go_simp
            refine (HC.out _ HW.out).mono ?_
            rintro e V3 ⟨g2, cap2, rfl, hcap2, hL2, hb, hO2⟩
            dsimp only
            replace HO3 := Lib.hid (L5.own_below HO3.out hb)
            have HO2 := Lib.hid (own_less hO2 (show q + 1 + 1 ≤ V2.heap.size from hsV2))
            replace HW := Lib.hid (HW.out.trans (hb.mono hsV2))
            have hsV3 : q + 1 + 1 ≤ V3.heap.size := by have := hb.size; omega
            have hHeld := HST.out _ HW.out
            refine hK.out _ _ hHeld (fun _ => ?_)
            clear hK hb hcap2 hL2 hO2
            try simp only [Act.put, List.setIfInBounds_toArray, List.set_cons_zero, List.set_cons_succ]
            refine take_op (i := 25) (d := (some 29)) (v := ?_) rfl rfl (by kernel_rfl) (by kernel_rfl) (by kernel_rfl) (fun _ _ _ h => h) (Or.inl ⟨by kernel_rfl, ?_⟩) (by assumption) ?_
            rotate_left
            · intro W hSw; (try dsimp only at hSw); go_simp; (first | done | with_reducible rfl)
            try simp only [Act.put, List.setIfInBounds_toArray, List.set_cons_zero, List.set_cons_succ]
            refine wpAnyH_ready (rs := [26]) (by kernel_rfl) (by simp) (AllReadyH.cons rfl (fun QQ hK => ?_) AllReadyH.nil)
            go_simp
            have hb := L5.below_alloc V3 (.cells #[.int .i64 0, .int .i64 0, .int .i64 0, .string ⟨#[]⟩, .slice none 0 0, .slice none 0 0] 29)
            have hnew := nbox_new 29 0 0 0 ⟨#[]⟩ none 0 0 none 0 0 V3
            simp only [nbox] at hnew
            have hs0 : q + 1 + 1 ≤ V3.heap.size := hsV3
            replace HO3 := Lib.hid (L5.own_below HO3.out hb)
            replace HO2 := Lib.hid (L5.own_below HO2.out hb)
            replace HW := Lib.hid (HW.out.trans (hb.mono hsV3))
            have hsV4 : q + 1 + 1 ≤ (V3.alloc (.cells #[.int .i64 0, .int .i64 0, .int .i64 0, .string ⟨#[]⟩, .slice none 0 0, .slice none 0 0] 29)).heap.size := by have := hb.size; omega
            have hHeld := HST.out _ HW.out
            refine hK.out _ _ hHeld (fun _ => ?_)
            clear hK hb
            generalize V3.alloc (.cells #[.int .i64 0, .int .i64 0, .int .i64 0, .string ⟨#[]⟩, .slice none 0 0, .slice none 0 0] 29) = V4 at *
            generalize V3.heap.size = s0 at *
            have HX := Lib.hid hnew
            clear hnew
            try simp only [Act.put, List.setIfInBounds_toArray, List.set_cons_zero, List.set_cons_succ]
            refine wpAnyH_ready (rs := [27]) (by kernel_rfl) (by simp) (AllReadyH.cons rfl (fun QQ hK => ?_) AllReadyH.nil)
            obtain ⟨e0, e1, e2, e3, e4, e5⟩ := HX.out.cells
            obtain ⟨f0, f1, f2, f3, f4, f5⟩ := HX.out.free
            go_simp
            have HWN := Lib.hid (setN_below HW.out hs0 F L R HH (some ⟨g', 0, none⟩) kn cap' (some ⟨g2, 0, none⟩) mn cap2)
            have HON := Lib.hid (own_setN (F' := F) (L' := L) (R' := R) (H' := HH) (A' := some ⟨g', 0, none⟩) (n' := kn) (ca' := cap') (C' := some ⟨g2, 0, none⟩) (m' := mn) (cb' := cap2) HX.out HO3.out (by decide))
            have HPN := Lib.hid (own_setN (F' := F) (L' := L) (R' := R) (H' := HH) (A' := some ⟨g', 0, none⟩) (n' := kn) (ca' := cap') (C' := some ⟨g2, 0, none⟩) (m' := mn) (cb' := cap2) HX.out HO2.out (by decide))
            have HXN := Lib.hid (setN_box HX.out F L R HH (some ⟨g', 0, none⟩) kn cap' (some ⟨g2, 0, none⟩) mn cap2)
            have hHeld := HST.out _ HWN.out
            refine hK.out _ _ hHeld (fun _ => ?_)
            clear hK e0 e1 e2 e3 e4 e5 f0 f1 f2 f3 f4 f5
            unfold setN at HWN HON HPN HXN
            try simp only [Act.put, List.setIfInBounds_toArray, List.set_cons_zero, List.set_cons_succ]
            refine wpAnyH_done (by kernel_rfl) ?_ _
            exact J.out g0 g' cap' g2 cap2 s0 _ ⟨HWN, HXN, HON, HPN, hs0⟩
          · go_simp
            have hb := L5.below_alloc V2 (.cells #[.int .i64 0, .int .i64 0, .int .i64 0, .string ⟨#[]⟩, .slice none 0 0, .slice none 0 0] 29)
            have hnew := nbox_new 29 0 0 0 ⟨#[]⟩ none 0 0 none 0 0 V2
            simp only [nbox] at hnew
            have hs0 : q + 1 + 1 ≤ V2.heap.size := hsV2
            replace HO3 := Lib.hid (L5.own_below HO3.out hb)
            replace HW := Lib.hid (HW.out.trans (hb.mono hsV2))
            have hsV3 : q + 1 + 1 ≤ (V2.alloc (.cells #[.int .i64 0, .int .i64 0, .int .i64 0, .string ⟨#[]⟩, .slice none 0 0, .slice none 0 0] 29)).heap.size := by have := hb.size; omega
            have hHeld := HST.out _ HW.out
            refine hK.out _ _ hHeld (fun _ => ?_)
            clear hK hb
            generalize V2.alloc (.cells #[.int .i64 0, .int .i64 0, .int .i64 0, .string ⟨#[]⟩, .slice none 0 0, .slice none 0 0] 29) = V3 at *
            generalize V2.heap.size = s0 at *
            have HX := Lib.hid hnew
            clear hnew
            try simp only [Act.put, List.setIfInBounds_toArray, List.set_cons_zero, List.set_cons_succ]
            refine wpAnyH_ready (rs := [24]) (by kernel_rfl) (by simp) (AllReadyH.cons rfl (fun QQ hK => ?_) AllReadyH.nil)
            go_simp
            refine (HC.out _ HW.out).mono ?_
            rintro e V4 ⟨g2, cap2, rfl, hcap2, hL2, hb, hO2⟩
            dsimp only
            replace HO3 := Lib.hid (L5.own_below HO3.out hb)
            replace HX := Lib.hid (HX.out.below hb)
            have HO2 := Lib.hid (own_less hO2 (show q + 1 + 1 ≤ V3.heap.size from hsV3))
            replace HW := Lib.hid (HW.out.trans (hb.mono hsV3))
            have hsV4 : q + 1 + 1 ≤ V4.heap.size := by have := hb.size; omega
            have hHeld := HST.out _ HW.out
            refine hK.out _ _ hHeld (fun _ => ?_)
            clear hK hb hcap2 hL2 hO2
            try simp only [Act.put, List.setIfInBounds_toArray, List.set_cons_zero, List.set_cons_succ]
            refine take_op (i := 25) (d := (some 29)) (v := ?_) rfl rfl (by kernel_rfl) (by kernel_rfl) (by kernel_rfl) (fun _ _ _ h => h) (Or.inl ⟨by kernel_rfl, ?_⟩) (by assumption) ?_
            rotate_left
            · intro W hSw; (try dsimp only at hSw); go_simp; (first | done | with_reducible rfl)
            try simp only [Act.put, List.setIfInBounds_toArray, List.set_cons_zero, List.set_cons_succ]
            refine wpAnyH_ready (rs := [27]) (by kernel_rfl) (by simp) (AllReadyH.cons rfl (fun QQ hK => ?_) AllReadyH.nil)
            obtain ⟨e0, e1, e2, e3, e4, e5⟩ := HX.out.cells
            obtain ⟨f0, f1, f2, f3, f4, f5⟩ := HX.out.free
            go_simp
            have HWN := Lib.hid (setN_below HW.out hs0 F L R HH (some ⟨g', 0, none⟩) kn cap' (some ⟨g2, 0, none⟩) mn cap2)
            have HON := Lib.hid (own_setN (F' := F) (L' := L) (R' := R) (H' := HH) (A' := some ⟨g', 0, none⟩) (n' := kn) (ca' := cap') (C' := some ⟨g2, 0, none⟩) (m' := mn) (cb' := cap2) HX.out HO3.out (by decide))
            have HPN := Lib.hid (own_setN (F' := F) (L' := L) (R' := R) (H' := HH) (A' := some ⟨g', 0, none⟩) (n' := kn) (ca' := cap') (C' := some ⟨g2, 0, none⟩) (m' := mn) (cb' := cap2) HX.out HO2.out (by decide))
            have HXN := Lib.hid (setN_box HX.out F L R HH (some ⟨g', 0, none⟩) kn cap' (some ⟨g2, 0, none⟩) mn cap2)
            have hHeld := HST.out _ HWN.out
            refine hK.out _ _ hHeld (fun _ => ?_)
            clear hK e0 e1 e2 e3 e4 e5 f0 f1 f2 f3 f4 f5
            unfold setN at HWN HON HPN HXN
            try simp only [Act.put, List.setIfInBounds_toArray, List.set_cons_zero, List.set_cons_succ]
            refine wpAnyH_done (by kernel_rfl) ?_ _
            exact J.out g0 g' cap' g2 cap2 s0 _ ⟨HWN, HXN, HON, HPN, hs0⟩
        · go_simp
          have hb := L5.below_alloc V1 (.cells #[.int .i64 0, .int .i64 0, .int .i64 0, .string ⟨#[]⟩, .slice none 0 0, .slice none 0 0] 29)
          have hnew := nbox_new 29 0 0 0 ⟨#[]⟩ none 0 0 none 0 0 V1
          simp only [nbox] at hnew
          have hs0 : q + 1 + 1 ≤ V1.heap.size := hsV1
          replace HOE := Lib.hid (L5.own_below HOE.out hb)
          replace HW := Lib.hid (HW.out.trans (hb.mono hsV1))
          have hsV2 : q + 1 + 1 ≤ (V1.alloc (.cells #[.int .i64 0, .int .i64 0, .int .i64 0, .string ⟨#[]⟩, .slice none 0 0, .slice none 0 0] 29)).heap.size := by have := hb.size; omega
          have hHeld := HST.out _ HW.out
          refine hK.out _ _ hHeld (fun _ => ?_)
          clear hK hb
          generalize V1.alloc (.cells #[.int .i64 0, .int .i64 0, .int .i64 0, .string ⟨#[]⟩, .slice none 0 0, .slice none 0 0] 29) = V2 at *
          generalize V1.heap.size = s0 at *
          have HX := Lib.hid hnew
          clear hnew
          try simp only [Act.put, List.setIfInBounds_toArray, List.set_cons_zero, List.set_cons_succ]
          refine wpAnyH_ready (rs := [21]) (by kernel_rfl) (by simp) (AllReadyH.cons rfl (fun QQ hK => ?_) AllReadyH.nil)
          refine step_kids _ (by rfl) _ _ _ (by rfl) (q + 1 + 1) 3 i0 (.int .i64 0) Tryz.underlying27 hi hz0 hz1 hz2 rfl g0 (by rfl) HOE.out none kn ca (numCells (ks.take 30)) (by rfl) (by first | exact fun _ => HK0.out | exact fun h => nomatch h) HKL.out (HNW.out _ HW.out) HN1.out (by omega) hsV2 ?_
          intro g' cap' V3 hown3 hgrow3
          have hbA : Below (q + 1 + 1) V2 V3 := L5.own_apart HOE.out hgrow3 (Nat.le_refl _) hsV2
          replace HX := Lib.hid (HX.out.grown HOE.out (by decide) hgrow3)
          replace HW := Lib.hid (HW.out.trans hbA)
          have HO3 := Lib.hid hown3
          have hsV3 : q + 1 + 1 ≤ V3.heap.size := by have := hbA.size; omega
          have hHeld := HST.out _ HW.out
          refine hK.out _ _ hHeld (fun _ => ?_)
          clear hK hbA hown3 hgrow3 HOE
          try simp only [Act.put, List.setIfInBounds_toArray, List.set_cons_zero, List.set_cons_succ]
          refine wpAnyH_ready (rs := [24]) (by kernel_rfl) (by simp) (AllReadyH.cons rfl (fun QQ hK => ?_) AllReadyH.nil)
          go_simp
          refine (HC.out _ HW.out).mono ?_
          rintro e V4 ⟨g2, cap2, rfl, hcap2, hL2, hb, hO2⟩
          dsimp only
          replace HO3 := Lib.hid (L5.own_below HO3.out hb)
          replace HX := Lib.hid (HX.out.below hb)
          have HO2 := Lib.hid (own_less hO2 (show q + 1 + 1 ≤ V3.heap.size from hsV3))
          replace HW := Lib.hid (HW.out.trans (hb.mono hsV3))
          have hsV4 : q + 1 + 1 ≤ V4.heap.size := by have := hb.size; omega
          have hHeld := HST.out _ HW.out
          refine hK.out _ _ hHeld (fun _ => ?_)
          clear hK hb hcap2 hL2 hO2
          try simp only [Act.put, List.setIfInBounds_toArray, List.set_cons_zero, List.set_cons_succ]
          refine take_op (i := 25) (d := (some 29)) (v := ?_) rfl rfl (by kernel_rfl) (by kernel_rfl) (by kernel_rfl) (fun _ _ _ h => h) (Or.inl ⟨by kernel_rfl, ?_⟩) (by assumption) ?_
          rotate_left
          · intro W hSw; (try dsimp only at hSw); go_simp; (first | done | with_reducible rfl)
          try simp only [Act.put, List.setIfInBounds_toArray, List.set_cons_zero, List.set_cons_succ]
          refine wpAnyH_ready (rs := [27]) (by kernel_rfl) (by simp) (AllReadyH.cons rfl (fun QQ hK => ?_) AllReadyH.nil)
          obtain ⟨e0, e1, e2, e3, e4, e5⟩ := HX.out.cells
          obtain ⟨f0, f1, f2, f3, f4, f5⟩ := HX.out.free
          go_simp
          have HWN := Lib.hid (setN_below HW.out hs0 F L R HH (some ⟨g', 0, none⟩) kn cap' (some ⟨g2, 0, none⟩) mn cap2)
          have HON := Lib.hid (own_setN (F' := F) (L' := L) (R' := R) (H' := HH) (A' := some ⟨g', 0, none⟩) (n' := kn) (ca' := cap') (C' := some ⟨g2, 0, none⟩) (m' := mn) (cb' := cap2) HX.out HO3.out (by decide))
          have HPN := Lib.hid (own_setN (F' := F) (L' := L) (R' := R) (H' := HH) (A' := some ⟨g', 0, none⟩) (n' := kn) (ca' := cap') (C' := some ⟨g2, 0, none⟩) (m' := mn) (cb' := cap2) HX.out HO2.out (by decide))
          have HXN := Lib.hid (setN_box HX.out F L R HH (some ⟨g', 0, none⟩) kn cap' (some ⟨g2, 0, none⟩) mn cap2)
          have hHeld := HST.out _ HWN.out
          refine hK.out _ _ hHeld (fun _ => ?_)
          clear hK e0 e1 e2 e3 e4 e5 f0 f1 f2 f3 f4 f5
          unfold setN at HWN HON HPN HXN
          try simp only [Act.put, List.setIfInBounds_toArray, List.set_cons_zero, List.set_cons_succ]
          refine wpAnyH_done (by kernel_rfl) ?_ _
          exact J.out g0 g' cap' g2 cap2 s0 _ ⟨HWN, HXN, HON, HPN, hs0⟩
      · go_simp
        have hb := L5.below_alloc V0 (.cells #[.int .i64 0, .int .i64 0, .int .i64 0, .string ⟨#[]⟩, .slice none 0 0, .slice none 0 0] 29)
        have hnew := nbox_new 29 0 0 0 ⟨#[]⟩ none 0 0 none 0 0 V0
        simp only [nbox] at hnew
        have hs0 : q + 1 + 1 ≤ V0.heap.size := hsV0
        replace HW := Lib.hid (HW.out.trans (hb.mono hsV0))
        have hsV1 : q + 1 + 1 ≤ (V0.alloc (.cells #[.int .i64 0, .int .i64 0, .int .i64 0, .string ⟨#[]⟩, .slice none 0 0, .slice none 0 0] 29)).heap.size := by have := hb.size; omega
        have hHeld := HST.out _ HW.out
        refine hK.out _ _ hHeld (fun _ => ?_)
        clear hK hb
        generalize V0.alloc (.cells #[.int .i64 0, .int .i64 0, .int .i64 0, .string ⟨#[]⟩, .slice none 0 0, .slice none 0 0] 29) = V1 at *
        generalize V0.heap.size = s0 at *
        have HX := Lib.hid hnew
        clear hnew
        try simp only [Act.put, List.setIfInBounds_toArray, List.set_cons_zero, List.set_cons_succ]
        refine wpAnyH_ready (rs := [13]) (by kernel_rfl) (by simp) (AllReadyH.cons rfl (fun QQ hK => ?_) AllReadyH.nil)
        go_simp
        have hb := L5.below_alloc V1 (.cells #[] 3)
        have hnew := own_less (L5.own_empty V1 3) (show q + 1 + 1 ≤ V1.heap.size by have := hsV1; omega)
        replace HX := Lib.hid (HX.out.below hb)
        replace HW := Lib.hid (HW.out.trans (hb.mono hsV1))
        have hsV2 : q + 1 + 1 ≤ (V1.alloc (.cells #[] 3)).heap.size := by have := hb.size; omega
        have hHeld := HST.out _ HW.out
        refine hK.out _ _ hHeld (fun _ => ?_)
        clear hK hb
        generalize V1.alloc (.cells #[] 3) = V2 at *
        generalize V1.heap.size = g0 at *
        have HOE := Lib.hid hnew
        clear hnew
        try simp only [Act.put, List.setIfInBounds_toArray, List.set_cons_zero, List.set_cons_succ]
        refine wpAnyH_ready (rs := [21]) (by kernel_rfl) (by simp) (AllReadyH.cons rfl (fun QQ hK => ?_) AllReadyH.nil)
        refine step_kids _ (by rfl) _ _ _ (by rfl) (q + 1 + 1) 3 i0 (.int .i64 0) Tryz.underlying27 hi hz0 hz1 hz2 rfl g0 (by rfl) HOE.out none kn ca (numCells (ks.take 30)) (by rfl) (by first | exact fun _ => HK0.out | exact fun h => nomatch h) HKL.out (HNW.out _ HW.out) HN1.out (by omega) hsV2 ?_
        intro g' cap' V3 hown3 hgrow3
        have hbA : Below (q + 1 + 1) V2 V3 := L5.own_apart HOE.out hgrow3 (Nat.le_refl _) hsV2
        replace HX := Lib.hid (HX.out.grown HOE.out (by decide) hgrow3)
        replace HW := Lib.hid (HW.out.trans hbA)
        have HO3 := Lib.hid hown3
        have hsV3 : q + 1 + 1 ≤ V3.heap.size := by have := hbA.size; omega
        have hHeld := HST.out _ HW.out
        refine hK.out _ _ hHeld (fun _ => ?_)
        clear hK hbA hown3 hgrow3 HOE
        try simp only [Act.put, List.setIfInBounds_toArray, List.set_cons_zero, List.set_cons_succ]
        refine wpAnyH_ready (rs := [24]) (by kernel_rfl) (by simp) (AllReadyH.cons rfl (fun QQ hK => ?_) AllReadyH.nil)
        go_simp
        refine (HC.out _ HW.out).mono ?_
        rintro e V4 ⟨g2, cap2, rfl, hcap2, hL2, hb, hO2⟩
        dsimp only
        replace HO3 := Lib.hid (L5.own_below HO3.out hb)
        replace HX := Lib.hid (HX.out.below hb)
        have HO2 := Lib.hid (own_less hO2 (show q + 1 + 1 ≤ V3.heap.size from hsV3))
        replace HW := Lib.hid (HW.out.trans (hb.mono hsV3))
        have hsV4 : q + 1 + 1 ≤ V4.heap.size := by have := hb.size; omega
        have hHeld := HST.out _ HW.out
        refine hK.out _ _ hHeld (fun _ => ?_)
        clear hK hb hcap2 hL2 hO2
        try simp only [Act.put, List.setIfInBounds_toArray, List.set_cons_zero, List.set_cons_succ]
        refine take_op (i := 25) (d := (some 29)) (v := ?_) rfl rfl (by kernel_rfl) (by kernel_rfl) (by kernel_rfl) (fun _ _ _ h => h) (Or.inl ⟨by kernel_rfl, ?_⟩) (by assumption) ?_
        rotate_left
        · intro W hSw; (try dsimp only at hSw); go_simp; (first | done | with_reducible rfl)
        try simp only [Act.put, List.setIfInBounds_toArray, List.set_cons_zero, List.set_cons_succ]
        refine wpAnyH_ready (rs := [27]) (by kernel_rfl) (by simp) (AllReadyH.cons rfl (fun QQ hK => ?_) AllReadyH.nil)
        obtain ⟨e0, e1, e2, e3, e4, e5⟩ := HX.out.cells
        obtain ⟨f0, f1, f2, f3, f4, f5⟩ := HX.out.free
        go_simp
        have HWN := Lib.hid (setN_below HW.out hs0 F L R HH (some ⟨g', 0, none⟩) kn cap' (some ⟨g2, 0, none⟩) mn cap2)
        have HON := Lib.hid (own_setN (F' := F) (L' := L) (R' := R) (H' := HH) (A' := some ⟨g', 0, none⟩) (n' := kn) (ca' := cap') (C' := some ⟨g2, 0, none⟩) (m' := mn) (cb' := cap2) HX.out HO3.out (by decide))
        have HPN := Lib.hid (own_setN (F' := F) (L' := L) (R' := R) (H' := HH) (A' := some ⟨g', 0, none⟩) (n' := kn) (ca' := cap') (C' := some ⟨g2, 0, none⟩) (m' := mn) (cb' := cap2) HX.out HO2.out (by decide))
        have HXN := Lib.hid (setN_box HX.out F L R HH (some ⟨g', 0, none⟩) kn cap' (some ⟨g2, 0, none⟩) mn cap2)
        have hHeld := HST.out _ HWN.out
        refine hK.out _ _ hHeld (fun _ => ?_)
        clear hK e0 e1 e2 e3 e4 e5 f0 f1 f2 f3 f4 f5
        unfold setN at HWN HON HPN HXN
        try simp only [Act.put, List.setIfInBounds_toArray, List.set_cons_zero, List.set_cons_succ]
        refine wpAnyH_done (by kernel_rfl) ?_ _
        exact J.out g0 g' cap' g2 cap2 s0 _ ⟨HWN, HXN, HON, HPN, hs0⟩
    · clear HW hHeld
      rintro g0 g' cap' g2 cap2 s0 U ⟨HW, HX, HO3, HO2, hs0⟩
      have HQ := Lib.hid (H1.out.on HW.out (by omega))
      have HT := Lib.hid (H2.out.on HW.out (by omega))
      have HBW := Lib.hid (HZ.out.trans (HW.out.mono (by omega)))
      have hq1n : (q : Nat) ≤ q + 1 := by omega
      clear HC HNW HST HA HKL HN1
      obtain ⟨x0, x1, x2, x3, x4, x5⟩ := HQ.out.cells
      by_cases hm0 : 0 < m
      · obtain ⟨s, hss⟩ : ∃ s, ss[0]? = some s := ⟨_, List.getElem?_eq_getElem (by have := HSM.out; omega)⟩
        obtain ⟨c, rfl, hcb, z0⟩ := (lies_below' HSS.out HW.out (by omega)) 0 s hss
        rw [show c.add ((0 : Nat) : Nat) = c from by cases c; simp [Addr.add]] at z0
        obtain ⟨m1, e1, e2, e3, e4⟩ := cut_m s
        obtain ⟨l, hl⟩ : ∃ l, ss = s :: l := by
          cases ss with
          | nil => simp at hss
          | cons x l => simp at hss; exact ⟨l, by rw [hss]⟩
        have hss0 := HSZ.out s (List.mem_of_getElem? hss)
        unfold maxLen at hss0
        have hmn0 : 0 < mn := by have := HMN.out; omega
        have hmn1 : (0 : Int) < (mn : Int) := by omega
        have hm01 : (0 : Int) < (m : Int) := by omega
        have hm02 : ¬ (m : Int) ≤ 0 := by omega
        have u0 : U.cell? ⟨g2, 0, none⟩ = some (.string (L5.cutS s)) := HO2.out.cells (g := g2) rfl 0 _ (by rw [hl]; rfl)
        have u1 : U.frozen? ⟨g2, 0, none⟩ = false := HO2.out.frozenAt 0
        obtain ⟨S1, hS1⟩ : ∃ S1, s.extract 0 m1 = S1 := ⟨_, rfl⟩
        have HS1 : Hid (cutH s = S1) := Lib.hid (by rw [e4, hS1])
        have hst := HO2.out.stored 0 (.string S1)
        have hne2 : s0 ≠ g2 := fun e => by
          obtain ⟨-, cur, fz, h2⟩ := own1_block HO2.out (g := g2) rfl
          have h := HX.out
          unfold NBx at h
          rw [← e, h] at h2
          injection h2 with h2
          injection h2 with _ h3
          exact absurd h3 (by decide)
        have hne3 : q + 1 ≠ g2 := fun e => by have := (own1_block HO2.out (g := g2) rfl).1; omega
        have HXU := Lib.hid (show NBx 29 s0 F L R HH (some ⟨g', 0, none⟩) kn cap' (some ⟨g2, 0, none⟩) mn cap2 (U.setCell ⟨g2, 0, none⟩ (.string S1)).drew from NBx.other (o := 0) HX.out hne2 (.string S1))
        have HTU := Lib.hid (show NBx 29 (q + 1) 0 0 0 ⟨#[]⟩ none 0 0 none 0 0 (U.setCell ⟨g2, 0, none⟩ (.string S1)).drew from NBx.other (o := 0) HT.out hne3 (.string S1))
        have HO3U := Lib.hid ((HO3.out.kept hst.2 (own1_parts HO3.out HO2.out (by decide))).drew)
        have HO2U : Hid (L5.Owns (U.setCell ⟨g2, 0, none⟩ (.string S1)).drew (q + 1 + 1) (.slice (some ⟨g2, 0, none⟩) mn cap2) mn (cutSs ss)) := Lib.hid (by
          have h := hst.1
          rw [hl] at h ⊢
          unfold L5.Owns
          rw [cutSs_set, HS1.out]
          exact h.drew)
        have HBU := Lib.hid (drew_below (HBW.out.setCell (p := ⟨g2, 0, none⟩) (show q ≤ g2 by have := (own1_block HO2.out (g := g2) rfl).1; omega) (.string S1)))
        obtain ⟨y0, y1, y2, y3, y4, y5⟩ := HXU.out.cells
        obtain ⟨f0, f1, f2, f3, f4, f5⟩ := HTU.out.free
        obtain ⟨d0, d1, d2, d3, d4, d5⟩ := HTU.out.cells
        obtain ⟨yy0, yy1, yy2, yy3, yy4, yy5⟩ := HX.out.cells
        clear hst hss hcb hl e4 hne2 hne3 hHH HSS HSZ HSM
        go_wp2_with fail
        go_region
        clear yy0 yy1 yy2 yy3 yy4 yy5 u0 u1
        generalize (U.setCell ⟨g2, 0, none⟩ (.string S1)).drew = U9 at *
        go_wp2_with fail
        obtain ⟨r0, r1, r2, r3, r4, r5⟩ := (setN_box HTU.out F L R HH (some ⟨g', 0, none⟩) kn cap' (some ⟨g2, 0, none⟩) mn cap2).cells
        unfold setN at r0 r1 r2 r3 r4 r5
        refine bodyPost_ret (v := nv F L R HH (some ⟨g', 0, none⟩) kn cap' (some ⟨g2, 0, none⟩) mn cap2) (by simp [results, Tryz.results35, go_sem, r0, r1, r2, r3, r4, r5]) rfl ⟨g', cap', g2, cap2, rfl, own_less (own_setN HTU.out HO3U.out (by decide)) (by have := HQW.out; omega), own_less (own_setN HTU.out HO2U.out (by decide)) (by have := HQW.out; omega), ?_⟩
        rw [HQW.out]
        exact setN_below HBU.out hq1n F L R HH _ kn cap' _ mn cap2
      · have hss : ss = [] := List.eq_nil_of_length_eq_zero (by have := HSM.out; omega)
        have hm01 : ¬ (0 : Int) < (m : Int) := by omega
        have hm02 : ¬ 0 < m := hm0
        have HO2U : Hid (L5.Owns U (q + 1 + 1) (.slice (some ⟨g2, 0, none⟩) mn cap2) mn (cutSs ss)) := Lib.hid (by
          have h := HO2.out
          rw [hss] at h ⊢
          exact h)
        obtain ⟨y0, y1, y2, y3, y4, y5⟩ := HX.out.cells
        obtain ⟨f0, f1, f2, f3, f4, f5⟩ := HT.out.free
        obtain ⟨d0, d1, d2, d3, d4, d5⟩ := HT.out.cells
        clear hss hHH HSS HSZ HSM hm0
        go_wp2_with fail
        obtain ⟨r0, r1, r2, r3, r4, r5⟩ := (setN_box HT.out F L R HH (some ⟨g', 0, none⟩) kn cap' (some ⟨g2, 0, none⟩) mn cap2).cells
        unfold setN at r0 r1 r2 r3 r4 r5
        refine bodyPost_ret (v := nv F L R HH (some ⟨g', 0, none⟩) kn cap' (some ⟨g2, 0, none⟩) mn cap2) (by simp [results, Tryz.results35, go_sem, r0, r1, r2, r3, r4, r5]) rfl ⟨g', cap', g2, cap2, rfl, own_less (own_setN HT.out HO3.out (by decide)) (by have := HQW.out; omega), own_less (own_setN HT.out HO2U.out (by decide)) (by have := HQW.out; omega), ?_⟩
        rw [HQW.out]
        exact setN_below HBW.out hq1n F L R HH _ kn cap' _ mn cap2
  | some a =>
    refine wp_region_held_drew (S := fun V => Hid (Below (q + 1 + 1) w1 V) ∧ V.cell? ⟨q, 0, none⟩ = some (.int .i64 F) ∧ V.cell? ⟨q, 1, none⟩ = some (.int .i64 L) ∧ V.cell? ⟨q, 2, none⟩ = some (.int .i64 R) ∧ V.cell? ⟨q, 3, none⟩ = some (.string H) ∧ V.cell? ⟨q, 4, none⟩ = some (.slice (some a) n ca) ∧ V.cell? ⟨q, 5, none⟩ = some (.slice C m cb)) (by kernel_rfl) hSd (fun hHeld => ?_)
    have HW := HWD
    clear hSd hszd HWD
    generalize w1.drew = V0 at *
    refine take_op (i := 0) (d := (some 4)) (v := ?_) rfl rfl (by kernel_rfl) (by kernel_rfl) (by kernel_rfl) (fun _ _ _ h => h) (Or.inl ⟨by kernel_rfl, ?_⟩) (by assumption) ?_
    rotate_left
    · intro W hSw; (try dsimp only at hSw); go_simp; (first | done | with_reducible rfl)
    try simp only [Act.put, List.setIfInBounds_toArray, List.set_cons_zero, List.set_cons_succ]
    refine take_op (i := 1) (d := (some 5)) (v := ?_) rfl rfl (by kernel_rfl) (by kernel_rfl) (by kernel_rfl) (fun _ _ _ h => h) (Or.inl ⟨by kernel_rfl, ?_⟩) (by assumption) ?_
    rotate_left
    · intro W hSw; (try dsimp only at hSw); go_simp; (first | done | with_reducible rfl)
    try simp only [Act.put, List.setIfInBounds_toArray, List.set_cons_zero, List.set_cons_succ]
    refine take_op (i := 2) (d := (some 6)) (v := ?_) rfl rfl (by kernel_rfl) (by kernel_rfl) (by kernel_rfl) (fun _ _ _ h => h) (Or.inl ⟨by kernel_rfl, ?_⟩) (by assumption) ?_
    rotate_left
    · intro W hSw; (try dsimp only at hSw); go_simp; (first | done | with_reducible rfl)
    try simp only [Act.put, List.setIfInBounds_toArray, List.set_cons_zero, List.set_cons_succ]
    refine take_op (i := 3) (d := (some 7)) (v := ?_) rfl rfl (by kernel_rfl) (by kernel_rfl) (by kernel_rfl) (fun _ _ _ h => h) (Or.inl ⟨by kernel_rfl, ?_⟩) (by assumption) ?_
    rotate_left
    · intro W hSw; (try dsimp only at hSw); go_simp; (first | done | with_reducible rfl)
    try simp only [Act.put, List.setIfInBounds_toArray, List.set_cons_zero, List.set_cons_succ]
    refine take_op (i := 4) (d := (some 8)) (v := ?_) rfl rfl (by kernel_rfl) (by kernel_rfl) (by kernel_rfl) (fun _ _ _ h => h) (Or.inl ⟨by kernel_rfl, ?_⟩) (by assumption) ?_
    rotate_left
    · intro W hSw; (try dsimp only at hSw); go_simp; (first | done | with_reducible rfl)
    try simp only [Act.put, List.setIfInBounds_toArray, List.set_cons_zero, List.set_cons_succ]
    refine take_op (i := 5) (d := (some 9)) (v := ?_) rfl rfl (by kernel_rfl) (by kernel_rfl) (by kernel_rfl) (fun _ _ _ h => h) (Or.inl ⟨by kernel_rfl, ?_⟩) (by assumption) ?_
    rotate_left
    · intro W hSw; (try dsimp only at hSw); go_simp; (first | done | with_reducible rfl)
    try simp only [Act.put, List.setIfInBounds_toArray, List.set_cons_zero, List.set_cons_succ]
    refine take_op (i := 6) (d := (some 10)) (v := ?_) rfl rfl (by kernel_rfl) (by kernel_rfl) (by kernel_rfl) (fun _ _ _ h => h) (Or.inl ⟨by kernel_rfl, ?_⟩) (by assumption) ?_
    rotate_left
    · intro W hSw; (try dsimp only at hSw); go_simp; (first | done | with_reducible rfl)
    try simp only [Act.put, List.setIfInBounds_toArray, List.set_cons_zero, List.set_cons_succ]
    refine take_op (i := 7) (d := (some 11)) (v := ?_) rfl rfl (by kernel_rfl) (by kernel_rfl) (by kernel_rfl) (fun _ _ _ h => h) (Or.inl ⟨by kernel_rfl, ?_⟩) (by assumption) ?_
    rotate_left
    · intro W hSw; (try dsimp only at hSw); go_simp; (first | done | with_reducible rfl)
    try simp only [Act.put, List.setIfInBounds_toArray, List.set_cons_zero, List.set_cons_succ]
    refine take_op (i := 8) (d := (some 12)) (v := ?_) rfl rfl (by kernel_rfl) (by kernel_rfl) (by kernel_rfl) (fun _ _ _ h => h) (Or.inl ⟨by kernel_rfl, ?_⟩) (by assumption) ?_
    rotate_left
    · intro W hSw; (try dsimp only at hSw); go_simp; (first | done | with_reducible rfl)
    try simp only [Act.put, List.setIfInBounds_toArray, List.set_cons_zero, List.set_cons_succ]
    refine take_op (i := 9) (d := (some 13)) (v := ?_) rfl rfl (by kernel_rfl) (by kernel_rfl) (by kernel_rfl) (fun _ _ _ h => h) (Or.inl ⟨by kernel_rfl, ?_⟩) (by assumption) ?_
    rotate_left
    · intro W hSw; (try dsimp only at hSw); go_simp; (first | done | with_reducible rfl)
    try simp only [Act.put, List.setIfInBounds_toArray, List.set_cons_zero, List.set_cons_succ]
    refine take_op (i := 10) (d := (some 14)) (v := ?_) rfl rfl (by kernel_rfl) (by kernel_rfl) (by kernel_rfl) (fun _ _ _ h => h) (Or.inl ⟨by kernel_rfl, ?_⟩) (by assumption) ?_
    rotate_left
    · intro W hSw; (try dsimp only at hSw); go_simp; (first | done | with_reducible rfl)
    try simp only [Act.put, List.setIfInBounds_toArray, List.set_cons_zero, List.set_cons_succ]
    refine take_op (i := 11) (d := (some 15)) (v := ?_) rfl rfl (by kernel_rfl) (by kernel_rfl) (by kernel_rfl) (fun _ _ _ h => h) (Or.inl ⟨by kernel_rfl, ?_⟩) (by assumption) ?_
    rotate_left
    · intro W hSw; (try dsimp only at hSw); go_simp; (first | done | with_reducible rfl)
    try simp only [Act.put, List.setIfInBounds_toArray, List.set_cons_zero, List.set_cons_succ]
    refine take_op (i := 12) (d := (some 16)) (v := ?_) rfl rfl (by kernel_rfl) (by kernel_rfl) (by kernel_rfl) (fun _ _ _ h => h) (Or.inl ⟨by kernel_rfl, ?_⟩) (by assumption) ?_
    rotate_left
    · intro W hSw; (try dsimp only at hSw); go_simp; (first | done | with_reducible rfl)
    try simp only [Act.put, List.setIfInBounds_toArray, List.set_cons_zero, List.set_cons_succ]
    refine take_op (i := 14) (d := (some 18)) (v := ?_) rfl rfl (by kernel_rfl) (by kernel_rfl) (by kernel_rfl) (fun _ _ _ h => h) (Or.inl ⟨by kernel_rfl, ?_⟩) (by assumption) ?_
    rotate_left
    · intro W hSw; (try dsimp only at hSw); go_simp; (first | done | with_reducible rfl)
    try simp only [Act.put, List.setIfInBounds_toArray, List.set_cons_zero, List.set_cons_succ]
    refine take_op (i := 15) (d := (some 19)) (v := ?_) rfl rfl (by kernel_rfl) (by kernel_rfl) (by kernel_rfl) (fun _ _ _ h => h) (Or.inl ⟨by kernel_rfl, ?_⟩) (by assumption) ?_
    rotate_left
    · intro W hSw; (try dsimp only at hSw); go_simp; (first | done | with_reducible rfl)
    try simp only [Act.put, List.setIfInBounds_toArray, List.set_cons_zero, List.set_cons_succ]
    refine take_op (i := 16) (d := (some 20)) (v := ?_) rfl rfl (by kernel_rfl) (by kernel_rfl) (by kernel_rfl) (fun _ _ _ h => h) (Or.inl ⟨by kernel_rfl, ?_⟩) (by assumption) ?_
    rotate_left
    · intro W hSw; (try dsimp only at hSw); go_simp; (first | done | with_reducible rfl)
    try simp only [Act.put, List.setIfInBounds_toArray, List.set_cons_zero, List.set_cons_succ]
    refine take_op (i := 17) (d := (some 21)) (v := ?_) rfl rfl (by kernel_rfl) (by kernel_rfl) (by kernel_rfl) (fun _ _ _ h => h) (Or.inl ⟨by kernel_rfl, ?_⟩) (by assumption) ?_
    rotate_left
    · intro W hSw; (try dsimp only at hSw); go_simp; (first | done | with_reducible rfl)
    try simp only [Act.put, List.setIfInBounds_toArray, List.set_cons_zero, List.set_cons_succ]
    refine take_op (i := 18) (d := (some 22)) (v := ?_) rfl rfl (by kernel_rfl) (by kernel_rfl) (by kernel_rfl) (fun _ _ _ h => h) (Or.inl ⟨by kernel_rfl, ?_⟩) (by assumption) ?_
    rotate_left
    · intro W hSw; (try dsimp only at hSw); go_simp; (first | done | with_reducible rfl)
    try simp only [Act.put, List.setIfInBounds_toArray, List.set_cons_zero, List.set_cons_succ]
    refine take_op (i := 19) (d := (some 23)) (v := ?_) rfl rfl (by kernel_rfl) (by kernel_rfl) (by kernel_rfl) (fun _ _ _ h => h) (Or.inl ⟨by kernel_rfl, ?_⟩) (by assumption) ?_
    rotate_left
    · intro W hSw; (try dsimp only at hSw); go_simp; (first | done | with_reducible rfl)
    try simp only [Act.put, List.setIfInBounds_toArray, List.set_cons_zero, List.set_cons_succ]
    refine take_op (i := 20) (d := (some 24)) (v := ?_) rfl rfl (by kernel_rfl) (by kernel_rfl) (by kernel_rfl) (fun _ _ _ h => h) (Or.inl ⟨by kernel_rfl, ?_⟩) (by assumption) ?_
    rotate_left
    · intro W hSw; (try dsimp only at hSw); go_simp; (first | done | with_reducible rfl)
    try simp only [Act.put, List.setIfInBounds_toArray, List.set_cons_zero, List.set_cons_succ]
    refine take_op (i := 22) (d := (some 26)) (v := ?_) rfl rfl (by kernel_rfl) (by kernel_rfl) (by kernel_rfl) (fun _ _ _ h => h) (Or.inl ⟨by kernel_rfl, ?_⟩) (by assumption) ?_
    rotate_left
    · intro W hSw; (try dsimp only at hSw); go_simp; (first | done | with_reducible rfl)
    try simp only [Act.put, List.setIfInBounds_toArray, List.set_cons_zero, List.set_cons_succ]
    refine take_op (i := 23) (d := (some 27)) (v := ?_) rfl rfl (by kernel_rfl) (by kernel_rfl) (by kernel_rfl) (fun _ _ _ h => h) (Or.inl ⟨by kernel_rfl, ?_⟩) (by assumption) ?_
    rotate_left
    · intro W hSw; (try dsimp only at hSw); go_simp; (first | done | with_reducible rfl)
    try simp only [Act.put, List.setIfInBounds_toArray, List.set_cons_zero, List.set_cons_succ]
    apply cut_share (A := fun g0 g' cap' g2 cap2 s0 U => Hid (Below (q + 1 + 1) w1 U) ∧ Hid (NBx 29 s0 F L R HH (some ⟨g', 0, none⟩) kn cap' (some ⟨g2, 0, none⟩) mn cap2 U) ∧ Hid (U.ownsRow (q + 1 + 1) 3 1 (.slice (some ⟨g', 0, none⟩) kn cap') kn (numCells (ks.take 30))) ∧ Hid (L5.Owns U (q + 1 + 1) (.slice (some ⟨g2, 0, none⟩) mn cap2) mn (L5.cutL ss)) ∧ q + 1 + 1 ≤ s0)
    · intro J0
      have J := Lib.hid J0
      clear J0
      have hsV0 : q + 1 + 1 ≤ V0.heap.size := by have := HW.out.size; have := HSW.out; omega
      refine wpAnyH_ready (rs := [13, 26]) (by kernel_rfl) (by simp) (AllReadyH.cons rfl (fun QQ hK => ?_) (AllReadyH.cons rfl (fun QQ hK => ?_) AllReadyH.nil))
      · go_simp
        have hb := L5.below_alloc V0 (.cells #[] 3)
        have hnew := own_less (L5.own_empty V0 3) (show q + 1 + 1 ≤ V0.heap.size by have := hsV0; omega)
        replace HW := Lib.hid (HW.out.trans (hb.mono hsV0))
        have hsV1 : q + 1 + 1 ≤ (V0.alloc (.cells #[] 3)).heap.size := by have := hb.size; omega
        have hHeld := HST.out _ HW.out
        refine hK.out _ _ hHeld (fun _ => ?_)
        clear hK hb
        generalize V0.alloc (.cells #[] 3) = V1 at *
        generalize V0.heap.size = g0 at *
        have HOE := Lib.hid hnew
        clear hnew
        try simp only [Act.put, List.setIfInBounds_toArray, List.set_cons_zero, List.set_cons_succ]
        refine wpAnyH_ready (rs := [21, 26]) (by kernel_rfl) (by simp) (AllReadyH.cons rfl (fun QQ hK => ?_) (AllReadyH.cons rfl (fun QQ hK => ?_) AllReadyH.nil))
        · refine step_kids _ (by rfl) _ _ _ (by rfl) (q + 1 + 1) 3 i0 (.int .i64 0) Tryz.underlying27 hi hz0 hz1 hz2 rfl g0 (by rfl) HOE.out (some a) kn ca (numCells (ks.take 30)) (by rfl) (by first | exact fun _ => HK0.out | exact fun h => nomatch h) HKL.out (HNW.out _ HW.out) HN1.out (by omega) hsV1 ?_
          intro g' cap' V2 hown3 hgrow3
          have hbA : Below (q + 1 + 1) V1 V2 := L5.own_apart HOE.out hgrow3 (Nat.le_refl _) hsV1
          replace HW := Lib.hid (HW.out.trans hbA)
          have HO3 := Lib.hid hown3
          have hsV2 : q + 1 + 1 ≤ V2.heap.size := by have := hbA.size; omega
          have hHeld := HST.out _ HW.out
          refine hK.out _ _ hHeld (fun _ => ?_)
          clear hK hbA hown3 hgrow3 HOE
          try simp only [Act.put, List.setIfInBounds_toArray, List.set_cons_zero, List.set_cons_succ]
          refine wpAnyH_ready (rs := [24, 26]) (by kernel_rfl) (by simp) (AllReadyH.cons rfl (fun QQ hK => ?_) (AllReadyH.cons rfl (fun QQ hK => ?_) AllReadyH.nil))
          · go_simp
            refine (HC.out _ HW.out).mono ?_
            rintro e V3 ⟨g2, cap2, rfl, hcap2, hL2, hb, hO2⟩
            dsimp only
            replace HO3 := Lib.hid (L5.own_below HO3.out hb)
            have HO2 := Lib.hid (own_less hO2 (show q + 1 + 1 ≤ V2.heap.size from hsV2))
            replace HW := Lib.hid (HW.out.trans (hb.mono hsV2))
            have hsV3 : q + 1 + 1 ≤ V3.heap.size := by have := hb.size; omega
            have hHeld := HST.out _ HW.out
            refine hK.out _ _ hHeld (fun _ => ?_)
            clear hK hb hcap2 hL2 hO2
            try simp only [Act.put, List.setIfInBounds_toArray, List.set_cons_zero, List.set_cons_succ]
            refine take_op (i := 25) (d := (some 29)) (v := ?_) rfl rfl (by kernel_rfl) (by kernel_rfl) (by kernel_rfl) (fun _ _ _ h => h) (Or.inl ⟨by kernel_rfl, ?_⟩) (by assumption) ?_
            rotate_left
            · intro W hSw; (try dsimp only at hSw); go_simp; (first | done | with_reducible rfl)
            try simp only [Act.put, List.setIfInBounds_toArray, List.set_cons_zero, List.set_cons_succ]
            refine wpAnyH_ready (rs := [26]) (by kernel_rfl) (by simp) (AllReadyH.cons rfl (fun QQ hK => ?_) AllReadyH.nil)
            go_simp
            have hb := L5.below_alloc V3 (.cells #[.int .i64 0, .int .i64 0, .int .i64 0, .string ⟨#[]⟩, .slice none 0 0, .slice none 0 0] 29)
            have hnew := nbox_new 29 0 0 0 ⟨#[]⟩ none 0 0 none 0 0 V3
            simp only [nbox] at hnew
            have hs0 : q + 1 + 1 ≤ V3.heap.size := hsV3
            replace HO3 := Lib.hid (L5.own_below HO3.out hb)
            replace HO2 := Lib.hid (L5.own_below HO2.out hb)
            replace HW := Lib.hid (HW.out.trans (hb.mono hsV3))
            have hsV4 : q + 1 + 1 ≤ (V3.alloc (.cells #[.int .i64 0, .int .i64 0, .int .i64 0, .string ⟨#[]⟩, .slice none 0 0, .slice none 0 0] 29)).heap.size := by have := hb.size; omega
            have hHeld := HST.out _ HW.out
            refine hK.out _ _ hHeld (fun _ => ?_)
            clear hK hb
            generalize V3.alloc (.cells #[.int .i64 0, .int .i64 0, .int .i64 0, .string ⟨#[]⟩, .slice none 0 0, .slice none 0 0] 29) = V4 at *
            generalize V3.heap.size = s0 at *
            have HX := Lib.hid hnew
            clear hnew
            try simp only [Act.put, List.setIfInBounds_toArray, List.set_cons_zero, List.set_cons_succ]
            refine wpAnyH_ready (rs := [27]) (by kernel_rfl) (by simp) (AllReadyH.cons rfl (fun QQ hK => ?_) AllReadyH.nil)
            obtain ⟨e0, e1, e2, e3, e4, e5⟩ := HX.out.cells
            obtain ⟨f0, f1, f2, f3, f4, f5⟩ := HX.out.free
            go_simp
            have HWN := Lib.hid (setN_below HW.out hs0 F L R HH (some ⟨g', 0, none⟩) kn cap' (some ⟨g2, 0, none⟩) mn cap2)
            have HON := Lib.hid (own_setN (F' := F) (L' := L) (R' := R) (H' := HH) (A' := some ⟨g', 0, none⟩) (n' := kn) (ca' := cap') (C' := some ⟨g2, 0, none⟩) (m' := mn) (cb' := cap2) HX.out HO3.out (by decide))
            have HPN := Lib.hid (own_setN (F' := F) (L' := L) (R' := R) (H' := HH) (A' := some ⟨g', 0, none⟩) (n' := kn) (ca' := cap') (C' := some ⟨g2, 0, none⟩) (m' := mn) (cb' := cap2) HX.out HO2.out (by decide))
            have HXN := Lib.hid (setN_box HX.out F L R HH (some ⟨g', 0, none⟩) kn cap' (some ⟨g2, 0, none⟩) mn cap2)
            have hHeld := HST.out _ HWN.out
            refine hK.out _ _ hHeld (fun _ => ?_)
            clear hK e0 e1 e2 e3 e4 e5 f0 f1 f2 f3 f4 f5
            unfold setN at HWN HON HPN HXN
            try simp only [Act.put, List.setIfInBounds_toArray, List.set_cons_zero, List.set_cons_succ]
            refine wpAnyH_done (by kernel_rfl) ?_ _
            exact J.out g0 g' cap' g2 cap2 s0 _ ⟨HWN, HXN, HON, HPN, hs0⟩
          · go_simp
            have hb := L5.below_alloc V2 (.cells #[.int .i64 0, .int .i64 0, .int .i64 0, .string ⟨#[]⟩, .slice none 0 0, .slice none 0 0] 29)
            have hnew := nbox_new 29 0 0 0 ⟨#[]⟩ none 0 0 none 0 0 V2
            simp only [nbox] at hnew
            have hs0 : q + 1 + 1 ≤ V2.heap.size := hsV2
            replace HO3 := Lib.hid (L5.own_below HO3.out hb)
            replace HW := Lib.hid (HW.out.trans (hb.mono hsV2))
            have hsV3 : q + 1 + 1 ≤ (V2.alloc (.cells #[.int .i64 0, .int .i64 0, .int .i64 0, .string ⟨#[]⟩, .slice none 0 0, .slice none 0 0] 29)).heap.size := by have := hb.size; omega
            have hHeld := HST.out _ HW.out
            refine hK.out _ _ hHeld (fun _ => ?_)
            clear hK hb
            generalize V2.alloc (.cells #[.int .i64 0, .int .i64 0, .int .i64 0, .string ⟨#[]⟩, .slice none 0 0, .slice none 0 0] 29) = V3 at *
            generalize V2.heap.size = s0 at *
            have HX := Lib.hid hnew
            clear hnew
            try simp only [Act.put, List.setIfInBounds_toArray, List.set_cons_zero, List.set_cons_succ]
            refine wpAnyH_ready (rs := [24]) (by kernel_rfl) (by simp) (AllReadyH.cons rfl (fun QQ hK => ?_) AllReadyH.nil)
            go_simp
            refine (HC.out _ HW.out).mono ?_
            rintro e V4 ⟨g2, cap2, rfl, hcap2, hL2, hb, hO2⟩
            dsimp only
            replace HO3 := Lib.hid (L5.own_below HO3.out hb)
            replace HX := Lib.hid (HX.out.below hb)
            have HO2 := Lib.hid (own_less hO2 (show q + 1 + 1 ≤ V3.heap.size from hsV3))
            replace HW := Lib.hid (HW.out.trans (hb.mono hsV3))
            have hsV4 : q + 1 + 1 ≤ V4.heap.size := by have := hb.size; omega
            have hHeld := HST.out _ HW.out
            refine hK.out _ _ hHeld (fun _ => ?_)
            clear hK hb hcap2 hL2 hO2
            try simp only [Act.put, List.setIfInBounds_toArray, List.set_cons_zero, List.set_cons_succ]
            refine take_op (i := 25) (d := (some 29)) (v := ?_) rfl rfl (by kernel_rfl) (by kernel_rfl) (by kernel_rfl) (fun _ _ _ h => h) (Or.inl ⟨by kernel_rfl, ?_⟩) (by assumption) ?_
            rotate_left
            · intro W hSw; (try dsimp only at hSw); go_simp; (first | done | with_reducible rfl)
            try simp only [Act.put, List.setIfInBounds_toArray, List.set_cons_zero, List.set_cons_succ]
            refine wpAnyH_ready (rs := [27]) (by kernel_rfl) (by simp) (AllReadyH.cons rfl (fun QQ hK => ?_) AllReadyH.nil)
            obtain ⟨e0, e1, e2, e3, e4, e5⟩ := HX.out.cells
            obtain ⟨f0, f1, f2, f3, f4, f5⟩ := HX.out.free
            go_simp
            have HWN := Lib.hid (setN_below HW.out hs0 F L R HH (some ⟨g', 0, none⟩) kn cap' (some ⟨g2, 0, none⟩) mn cap2)
            have HON := Lib.hid (own_setN (F' := F) (L' := L) (R' := R) (H' := HH) (A' := some ⟨g', 0, none⟩) (n' := kn) (ca' := cap') (C' := some ⟨g2, 0, none⟩) (m' := mn) (cb' := cap2) HX.out HO3.out (by decide))
            have HPN := Lib.hid (own_setN (F' := F) (L' := L) (R' := R) (H' := HH) (A' := some ⟨g', 0, none⟩) (n' := kn) (ca' := cap') (C' := some ⟨g2, 0, none⟩) (m' := mn) (cb' := cap2) HX.out HO2.out (by decide))
            have HXN := Lib.hid (setN_box HX.out F L R HH (some ⟨g', 0, none⟩) kn cap' (some ⟨g2, 0, none⟩) mn cap2)
            have hHeld := HST.out _ HWN.out
            refine hK.out _ _ hHeld (fun _ => ?_)
            clear hK e0 e1 e2 e3 e4 e5 f0 f1 f2 f3 f4 f5
            unfold setN at HWN HON HPN HXN
            try simp only [Act.put, List.setIfInBounds_toArray, List.set_cons_zero, List.set_cons_succ]
            refine wpAnyH_done (by kernel_rfl) ?_ _
            exact J.out g0 g' cap' g2 cap2 s0 _ ⟨HWN, HXN, HON, HPN, hs0⟩
        · go_simp
          have hb := L5.below_alloc V1 (.cells #[.int .i64 0, .int .i64 0, .int .i64 0, .string ⟨#[]⟩, .slice none 0 0, .slice none 0 0] 29)
          have hnew := nbox_new 29 0 0 0 ⟨#[]⟩ none 0 0 none 0 0 V1
          simp only [nbox] at hnew
          have hs0 : q + 1 + 1 ≤ V1.heap.size := hsV1
          replace HOE := Lib.hid (L5.own_below HOE.out hb)
          replace HW := Lib.hid (HW.out.trans (hb.mono hsV1))
          have hsV2 : q + 1 + 1 ≤ (V1.alloc (.cells #[.int .i64 0, .int .i64 0, .int .i64 0, .string ⟨#[]⟩, .slice none 0 0, .slice none 0 0] 29)).heap.size := by have := hb.size; omega
          have hHeld := HST.out _ HW.out
          refine hK.out _ _ hHeld (fun _ => ?_)
          clear hK hb
          generalize V1.alloc (.cells #[.int .i64 0, .int .i64 0, .int .i64 0, .string ⟨#[]⟩, .slice none 0 0, .slice none 0 0] 29) = V2 at *
          generalize V1.heap.size = s0 at *
          have HX := Lib.hid hnew
          clear hnew
          try simp only [Act.put, List.setIfInBounds_toArray, List.set_cons_zero, List.set_cons_succ]
          refine wpAnyH_ready (rs := [21]) (by kernel_rfl) (by simp) (AllReadyH.cons rfl (fun QQ hK => ?_) AllReadyH.nil)
          refine step_kids _ (by rfl) _ _ _ (by rfl) (q + 1 + 1) 3 i0 (.int .i64 0) Tryz.underlying27 hi hz0 hz1 hz2 rfl g0 (by rfl) HOE.out (some a) kn ca (numCells (ks.take 30)) (by rfl) (by first | exact fun _ => HK0.out | exact fun h => nomatch h) HKL.out (HNW.out _ HW.out) HN1.out (by omega) hsV2 ?_
          intro g' cap' V3 hown3 hgrow3
          have hbA : Below (q + 1 + 1) V2 V3 := L5.own_apart HOE.out hgrow3 (Nat.le_refl _) hsV2
          replace HX := Lib.hid (HX.out.grown HOE.out (by decide) hgrow3)
          replace HW := Lib.hid (HW.out.trans hbA)
          have HO3 := Lib.hid hown3
          have hsV3 : q + 1 + 1 ≤ V3.heap.size := by have := hbA.size; omega
          have hHeld := HST.out _ HW.out
          refine hK.out _ _ hHeld (fun _ => ?_)
          clear hK hbA hown3 hgrow3 HOE
          try simp only [Act.put, List.setIfInBounds_toArray, List.set_cons_zero, List.set_cons_succ]
          refine wpAnyH_ready (rs := [24]) (by kernel_rfl) (by simp) (AllReadyH.cons rfl (fun QQ hK => ?_) AllReadyH.nil)
          go_simp
          refine (HC.out _ HW.out).mono ?_
          rintro e V4 ⟨g2, cap2, rfl, hcap2, hL2, hb, hO2⟩
          dsimp only
          replace HO3 := Lib.hid (L5.own_below HO3.out hb)
          replace HX := Lib.hid (HX.out.below hb)
          have HO2 := Lib.hid (own_less hO2 (show q + 1 + 1 ≤ V3.heap.size from hsV3))
          replace HW := Lib.hid (HW.out.trans (hb.mono hsV3))
          have hsV4 : q + 1 + 1 ≤ V4.heap.size := by have := hb.size; omega
          have hHeld := HST.out _ HW.out
          refine hK.out _ _ hHeld (fun _ => ?_)
          clear hK hb hcap2 hL2 hO2
          try simp only [Act.put, List.setIfInBounds_toArray, List.set_cons_zero, List.set_cons_succ]
          refine take_op (i := 25) (d := (some 29)) (v := ?_) rfl rfl (by kernel_rfl) (by kernel_rfl) (by kernel_rfl) (fun _ _ _ h => h) (Or.inl ⟨by kernel_rfl, ?_⟩) (by assumption) ?_
          rotate_left
          · intro W hSw; (try dsimp only at hSw); go_simp; (first | done | with_reducible rfl)
          try simp only [Act.put, List.setIfInBounds_toArray, List.set_cons_zero, List.set_cons_succ]
          refine wpAnyH_ready (rs := [27]) (by kernel_rfl) (by simp) (AllReadyH.cons rfl (fun QQ hK => ?_) AllReadyH.nil)
          obtain ⟨e0, e1, e2, e3, e4, e5⟩ := HX.out.cells
          obtain ⟨f0, f1, f2, f3, f4, f5⟩ := HX.out.free
          go_simp
          have HWN := Lib.hid (setN_below HW.out hs0 F L R HH (some ⟨g', 0, none⟩) kn cap' (some ⟨g2, 0, none⟩) mn cap2)
          have HON := Lib.hid (own_setN (F' := F) (L' := L) (R' := R) (H' := HH) (A' := some ⟨g', 0, none⟩) (n' := kn) (ca' := cap') (C' := some ⟨g2, 0, none⟩) (m' := mn) (cb' := cap2) HX.out HO3.out (by decide))
          have HPN := Lib.hid (own_setN (F' := F) (L' := L) (R' := R) (H' := HH) (A' := some ⟨g', 0, none⟩) (n' := kn) (ca' := cap') (C' := some ⟨g2, 0, none⟩) (m' := mn) (cb' := cap2) HX.out HO2.out (by decide))
          have HXN := Lib.hid (setN_box HX.out F L R HH (some ⟨g', 0, none⟩) kn cap' (some ⟨g2, 0, none⟩) mn cap2)
          have hHeld := HST.out _ HWN.out
          refine hK.out _ _ hHeld (fun _ => ?_)
          clear hK e0 e1 e2 e3 e4 e5 f0 f1 f2 f3 f4 f5
          unfold setN at HWN HON HPN HXN
          try simp only [Act.put, List.setIfInBounds_toArray, List.set_cons_zero, List.set_cons_succ]
          refine wpAnyH_done (by kernel_rfl) ?_ _
          exact J.out g0 g' cap' g2 cap2 s0 _ ⟨HWN, HXN, HON, HPN, hs0⟩
      · go_simp
        have hb := L5.below_alloc V0 (.cells #[.int .i64 0, .int .i64 0, .int .i64 0, .string ⟨#[]⟩, .slice none 0 0, .slice none 0 0] 29)
        have hnew := nbox_new 29 0 0 0 ⟨#[]⟩ none 0 0 none 0 0 V0
        simp only [nbox] at hnew
        have hs0 : q + 1 + 1 ≤ V0.heap.size := hsV0
        replace HW := Lib.hid (HW.out.trans (hb.mono hsV0))
        have hsV1 : q + 1 + 1 ≤ (V0.alloc (.cells #[.int .i64 0, .int .i64 0, .int .i64 0, .string ⟨#[]⟩, .slice none 0 0, .slice none 0 0] 29)).heap.size := by have := hb.size; omega
        have hHeld := HST.out _ HW.out
        refine hK.out _ _ hHeld (fun _ => ?_)
        clear hK hb
        generalize V0.alloc (.cells #[.int .i64 0, .int .i64 0, .int .i64 0, .string ⟨#[]⟩, .slice none 0 0, .slice none 0 0] 29) = V1 at *
        generalize V0.heap.size = s0 at *
        have HX := Lib.hid hnew
        clear hnew
        try simp only [Act.put, List.setIfInBounds_toArray, List.set_cons_zero, List.set_cons_succ]
        refine wpAnyH_ready (rs := [13]) (by kernel_rfl) (by simp) (AllReadyH.cons rfl (fun QQ hK => ?_) AllReadyH.nil)
        go_simp
        have hb := L5.below_alloc V1 (.cells #[] 3)
        have hnew := own_less (L5.own_empty V1 3) (show q + 1 + 1 ≤ V1.heap.size by have := hsV1; omega)
        replace HX := Lib.hid (HX.out.below hb)
        replace HW := Lib.hid (HW.out.trans (hb.mono hsV1))
        have hsV2 : q + 1 + 1 ≤ (V1.alloc (.cells #[] 3)).heap.size := by have := hb.size; omega
        have hHeld := HST.out _ HW.out
        refine hK.out _ _ hHeld (fun _ => ?_)
        clear hK hb
        generalize V1.alloc (.cells #[] 3) = V2 at *
        generalize V1.heap.size = g0 at *
        have HOE := Lib.hid hnew
        clear hnew
        try simp only [Act.put, List.setIfInBounds_toArray, List.set_cons_zero, List.set_cons_succ]
        refine wpAnyH_ready (rs := [21]) (by kernel_rfl) (by simp) (AllReadyH.cons rfl (fun QQ hK => ?_) AllReadyH.nil)
        refine step_kids _ (by rfl) _ _ _ (by rfl) (q + 1 + 1) 3 i0 (.int .i64 0) Tryz.underlying27 hi hz0 hz1 hz2 rfl g0 (by rfl) HOE.out (some a) kn ca (numCells (ks.take 30)) (by rfl) (by first | exact fun _ => HK0.out | exact fun h => nomatch h) HKL.out (HNW.out _ HW.out) HN1.out (by omega) hsV2 ?_
        intro g' cap' V3 hown3 hgrow3
        have hbA : Below (q + 1 + 1) V2 V3 := L5.own_apart HOE.out hgrow3 (Nat.le_refl _) hsV2
        replace HX := Lib.hid (HX.out.grown HOE.out (by decide) hgrow3)
        replace HW := Lib.hid (HW.out.trans hbA)
        have HO3 := Lib.hid hown3
        have hsV3 : q + 1 + 1 ≤ V3.heap.size := by have := hbA.size; omega
        have hHeld := HST.out _ HW.out
        refine hK.out _ _ hHeld (fun _ => ?_)
        clear hK hbA hown3 hgrow3 HOE
        try simp only [Act.put, List.setIfInBounds_toArray, List.set_cons_zero, List.set_cons_succ]
        refine wpAnyH_ready (rs := [24]) (by kernel_rfl) (by simp) (AllReadyH.cons rfl (fun QQ hK => ?_) AllReadyH.nil)
        go_simp
        refine (HC.out _ HW.out).mono ?_
        rintro e V4 ⟨g2, cap2, rfl, hcap2, hL2, hb, hO2⟩
        dsimp only
        replace HO3 := Lib.hid (L5.own_below HO3.out hb)
        replace HX := Lib.hid (HX.out.below hb)
        have HO2 := Lib.hid (own_less hO2 (show q + 1 + 1 ≤ V3.heap.size from hsV3))
        replace HW := Lib.hid (HW.out.trans (hb.mono hsV3))
        have hsV4 : q + 1 + 1 ≤ V4.heap.size := by have := hb.size; omega
        have hHeld := HST.out _ HW.out
        refine hK.out _ _ hHeld (fun _ => ?_)
        clear hK hb hcap2 hL2 hO2
        try simp only [Act.put, List.setIfInBounds_toArray, List.set_cons_zero, List.set_cons_succ]
        refine take_op (i := 25) (d := (some 29)) (v := ?_) rfl rfl (by kernel_rfl) (by kernel_rfl) (by kernel_rfl) (fun _ _ _ h => h) (Or.inl ⟨by kernel_rfl, ?_⟩) (by assumption) ?_
        rotate_left
        · intro W hSw; (try dsimp only at hSw); go_simp; (first | done | with_reducible rfl)
        try simp only [Act.put, List.setIfInBounds_toArray, List.set_cons_zero, List.set_cons_succ]
        refine wpAnyH_ready (rs := [27]) (by kernel_rfl) (by simp) (AllReadyH.cons rfl (fun QQ hK => ?_) AllReadyH.nil)
        obtain ⟨e0, e1, e2, e3, e4, e5⟩ := HX.out.cells
        obtain ⟨f0, f1, f2, f3, f4, f5⟩ := HX.out.free
        go_simp
        have HWN := Lib.hid (setN_below HW.out hs0 F L R HH (some ⟨g', 0, none⟩) kn cap' (some ⟨g2, 0, none⟩) mn cap2)
        have HON := Lib.hid (own_setN (F' := F) (L' := L) (R' := R) (H' := HH) (A' := some ⟨g', 0, none⟩) (n' := kn) (ca' := cap') (C' := some ⟨g2, 0, none⟩) (m' := mn) (cb' := cap2) HX.out HO3.out (by decide))
        have HPN := Lib.hid (own_setN (F' := F) (L' := L) (R' := R) (H' := HH) (A' := some ⟨g', 0, none⟩) (n' := kn) (ca' := cap') (C' := some ⟨g2, 0, none⟩) (m' := mn) (cb' := cap2) HX.out HO2.out (by decide))
        have HXN := Lib.hid (setN_box HX.out F L R HH (some ⟨g', 0, none⟩) kn cap' (some ⟨g2, 0, none⟩) mn cap2)
        have hHeld := HST.out _ HWN.out
        refine hK.out _ _ hHeld (fun _ => ?_)
        clear hK e0 e1 e2 e3 e4 e5 f0 f1 f2 f3 f4 f5
        unfold setN at HWN HON HPN HXN
        try simp only [Act.put, List.setIfInBounds_toArray, List.set_cons_zero, List.set_cons_succ]
        refine wpAnyH_done (by kernel_rfl) ?_ _
        exact J.out g0 g' cap' g2 cap2 s0 _ ⟨HWN, HXN, HON, HPN, hs0⟩
    · clear HW hHeld
      rintro g0 g' cap' g2 cap2 s0 U ⟨HW, HX, HO3, HO2, hs0⟩
      have HQ := Lib.hid (H1.out.on HW.out (by omega))
      have HT := Lib.hid (H2.out.on HW.out (by omega))
      have HBW := Lib.hid (HZ.out.trans (HW.out.mono (by omega)))
      have hq1n : (q : Nat) ≤ q + 1 := by omega
      clear HC HNW HST HA HKL HN1
      obtain ⟨x0, x1, x2, x3, x4, x5⟩ := HQ.out.cells
      by_cases hm0 : 0 < m
      · obtain ⟨s, hss⟩ : ∃ s, ss[0]? = some s := ⟨_, List.getElem?_eq_getElem (by have := HSM.out; omega)⟩
        obtain ⟨c, rfl, hcb, z0⟩ := (lies_below' HSS.out HW.out (by omega)) 0 s hss
        rw [show c.add ((0 : Nat) : Nat) = c from by cases c; simp [Addr.add]] at z0
        obtain ⟨m1, e1, e2, e3, e4⟩ := cut_m s
        obtain ⟨l, hl⟩ : ∃ l, ss = s :: l := by
          cases ss with
          | nil => simp at hss
          | cons x l => simp at hss; exact ⟨l, by rw [hss]⟩
        have hss0 := HSZ.out s (List.mem_of_getElem? hss)
        unfold maxLen at hss0
        have hmn0 : 0 < mn := by have := HMN.out; omega
        have hmn1 : (0 : Int) < (mn : Int) := by omega
        have hm01 : (0 : Int) < (m : Int) := by omega
        have hm02 : ¬ (m : Int) ≤ 0 := by omega
        have u0 : U.cell? ⟨g2, 0, none⟩ = some (.string (L5.cutS s)) := HO2.out.cells (g := g2) rfl 0 _ (by rw [hl]; rfl)
        have u1 : U.frozen? ⟨g2, 0, none⟩ = false := HO2.out.frozenAt 0
        obtain ⟨S1, hS1⟩ : ∃ S1, s.extract 0 m1 = S1 := ⟨_, rfl⟩
        have HS1 : Hid (cutH s = S1) := Lib.hid (by rw [e4, hS1])
        have hst := HO2.out.stored 0 (.string S1)
        have hne2 : s0 ≠ g2 := fun e => by
          obtain ⟨-, cur, fz, h2⟩ := own1_block HO2.out (g := g2) rfl
          have h := HX.out
          unfold NBx at h
          rw [← e, h] at h2
          injection h2 with h2
          injection h2 with _ h3
          exact absurd h3 (by decide)
        have hne3 : q + 1 ≠ g2 := fun e => by have := (own1_block HO2.out (g := g2) rfl).1; omega
        have HXU := Lib.hid (show NBx 29 s0 F L R HH (some ⟨g', 0, none⟩) kn cap' (some ⟨g2, 0, none⟩) mn cap2 (U.setCell ⟨g2, 0, none⟩ (.string S1)).drew from NBx.other (o := 0) HX.out hne2 (.string S1))
        have HTU := Lib.hid (show NBx 29 (q + 1) 0 0 0 ⟨#[]⟩ none 0 0 none 0 0 (U.setCell ⟨g2, 0, none⟩ (.string S1)).drew from NBx.other (o := 0) HT.out hne3 (.string S1))
        have HO3U := Lib.hid ((HO3.out.kept hst.2 (own1_parts HO3.out HO2.out (by decide))).drew)
        have HO2U : Hid (L5.Owns (U.setCell ⟨g2, 0, none⟩ (.string S1)).drew (q + 1 + 1) (.slice (some ⟨g2, 0, none⟩) mn cap2) mn (cutSs ss)) := Lib.hid (by
          have h := hst.1
          rw [hl] at h ⊢
          unfold L5.Owns
          rw [cutSs_set, HS1.out]
          exact h.drew)
        have HBU := Lib.hid (drew_below (HBW.out.setCell (p := ⟨g2, 0, none⟩) (show q ≤ g2 by have := (own1_block HO2.out (g := g2) rfl).1; omega) (.string S1)))
        obtain ⟨y0, y1, y2, y3, y4, y5⟩ := HXU.out.cells
        obtain ⟨f0, f1, f2, f3, f4, f5⟩ := HTU.out.free
        obtain ⟨d0, d1, d2, d3, d4, d5⟩ := HTU.out.cells
        obtain ⟨yy0, yy1, yy2, yy3, yy4, yy5⟩ := HX.out.cells
        clear hst hss hcb hl e4 hne2 hne3 hHH HSS HSZ HSM
        go_wp2_with fail
        go_region
        clear yy0 yy1 yy2 yy3 yy4 yy5 u0 u1
        generalize (U.setCell ⟨g2, 0, none⟩ (.string S1)).drew = U9 at *
        go_wp2_with fail
        obtain ⟨r0, r1, r2, r3, r4, r5⟩ := (setN_box HTU.out F L R HH (some ⟨g', 0, none⟩) kn cap' (some ⟨g2, 0, none⟩) mn cap2).cells
        unfold setN at r0 r1 r2 r3 r4 r5
        refine bodyPost_ret (v := nv F L R HH (some ⟨g', 0, none⟩) kn cap' (some ⟨g2, 0, none⟩) mn cap2) (by simp [results, Tryz.results35, go_sem, r0, r1, r2, r3, r4, r5]) rfl ⟨g', cap', g2, cap2, rfl, own_less (own_setN HTU.out HO3U.out (by decide)) (by have := HQW.out; omega), own_less (own_setN HTU.out HO2U.out (by decide)) (by have := HQW.out; omega), ?_⟩
        rw [HQW.out]
        exact setN_below HBU.out hq1n F L R HH _ kn cap' _ mn cap2
      · have hss : ss = [] := List.eq_nil_of_length_eq_zero (by have := HSM.out; omega)
        have hm01 : ¬ (0 : Int) < (m : Int) := by omega
        have hm02 : ¬ 0 < m := hm0
        have HO2U : Hid (L5.Owns U (q + 1 + 1) (.slice (some ⟨g2, 0, none⟩) mn cap2) mn (cutSs ss)) := Lib.hid (by
          have h := HO2.out
          rw [hss] at h ⊢
          exact h)
        obtain ⟨y0, y1, y2, y3, y4, y5⟩ := HX.out.cells
        obtain ⟨f0, f1, f2, f3, f4, f5⟩ := HT.out.free
        obtain ⟨d0, d1, d2, d3, d4, d5⟩ := HT.out.cells
        clear hss hHH HSS HSZ HSM hm0
        go_wp2_with fail
        obtain ⟨r0, r1, r2, r3, r4, r5⟩ := (setN_box HT.out F L R HH (some ⟨g', 0, none⟩) kn cap' (some ⟨g2, 0, none⟩) mn cap2).cells
        unfold setN at r0 r1 r2 r3 r4 r5
        refine bodyPost_ret (v := nv F L R HH (some ⟨g', 0, none⟩) kn cap' (some ⟨g2, 0, none⟩) mn cap2) (by simp [results, Tryz.results35, go_sem, r0, r1, r2, r3, r4, r5]) rfl ⟨g', cap', g2, cap2, rfl, own_less (own_setN HT.out HO3.out (by decide)) (by have := HQW.out; omega), own_less (own_setN HT.out HO2U.out (by decide)) (by have := HQW.out; omega), ?_⟩
        rw [HQW.out]
        exact setN_below HBW.out hq1n F L R HH _ kn cap' _ mn cap2
end Go.Proofs.YtpeghilfldpgfaaGreatDoor.L11
