import Derived.Test.YtpeghilfldpgfaaGreatDoorQ12
namespace Go.Proofs.YtpeghilfldpgfaaGreatDoor.L10
open Go.RowKit NP
set_option linter.unusedVariables false
set_option linter.unusedSimpArgs false
def cutH (H : ByteArray) : ByteArray := H.extract 0 (min H.size 140)
def cutIt (x : It) : It := ⟨cutH x.k, x.o, L9.cutV x.s, x.l, x.p⟩
def cut20 (l : List It) : List It := (l.take 20).map cutIt
theorem cut20_length (l : List It) : (cut20 l).length = min 20 l.length := by simp [cut20]
theorem cut20_snoc (l : List It) (k : Nat) (x : It) (hc : l[k]? = some x) : fives ((l.take (k + 1)).map cutIt) = fives ((l.take k).map cutIt) ++ five (cutIt x) := by
  rw [take_snoc hc, List.map_append, fives_append, List.map_cons, List.map_nil, fives_one]
theorem cut_m (s : ByteArray) : ∃ m : Nat, min (s.size : Int) 140 = m ∧ m ≤ 140 ∧ m ≤ s.size ∧ cutH s = s.extract 0 m := ⟨min s.size 140, by omega, by omega, by omega, rfl⟩
theorem own5_setL {w : World} {base e n q : Nat} {v : Value} {xs : List Value} (h : w.ownsRow base e 5 v n xs) (hq : q < base) (F R : Int) (H : ByteArray) (A : Option Addr) (m ca : Nat) : (setL w q F R H A m ca).ownsRow base e 5 v n xs := by
  unfold setL
  exact own5_set (own5_set (own5_set (own5_set h hq) hq) hq) hq
theorem own5_base {w : World} {base base' e n : Nat} {v : Value} {xs : List Value} (h : w.ownsRow base e 5 v n xs) (hb : base' ≤ base) : w.ownsRow base' e 5 v n xs := by
  refine ⟨h.1, ?_⟩
  rcases h.2 with h' | ⟨g, cap, cur, h1, h2, h3⟩
  · exact .inl h'
  · exact .inr ⟨g, cap, cur, h1, by omega, h3⟩
set_option maxHeartbeats 4000000 in
set_option maxRecDepth 100000 in
theorem cutO_any (F R : Int) (H : ByteArray) (A : Option Addr) (l : List It) (ca : Nat) (w : World) (ha : Lies5 w w.heap.size A l) (hl : l.length ≤ 9223372036854775807) (hH : H.size ≤ maxLen) (hs : ∀ x ∈ l, x.k.size ≤ maxLen ∧ x.s.size ≤ maxLen) :
    Calls Tryz.prog 33 #[lv F R H A l.length ca] w fun e w' => ∃ G cap, e = .returned (lv F R (cutH H) G (cut20 l).length cap) ∧ w'.ownsRow w.heap.size 127 5 (.slice G (cut20 l).length cap) (cut20 l).length (fives (cut20 l)) ∧ Below w.heap.size w w' := by
  obtain ⟨i0, hi, hz0, hz1, hz2⟩ := info_parts Tryz.infoItem
  obtain ⟨B1, B2, hb0⟩ := WR_boxes 26 26 F R H A l.length ca w
  have HA := Lib.hid (ha.below hb0)
  have HS := Lib.hid hs
  obtain ⟨hm, hm1, hm2, hm3, hm4⟩ := cut_m H
  obtain ⟨HH, hHH⟩ : ∃ HH, H.extract 0 hm = HH := ⟨_, rfl⟩
  rw [hm4, hHH]
  unfold maxLen at hH
  clear hs hm4
  obtain ⟨n, hn⟩ : ∃ n, n = l.length := ⟨_, rfl⟩
  have HN := Lib.hid hn
  rw [← hn]
  rw [← hn] at hl B1 B2 hb0 HA
  have H1 := Lib.hid B1
  have H2 := Lib.hid B2
  have HZ := Lib.hid hb0
  have HWS := Lib.hid (WR_size 26 26 F R H A n ca w)
  clear ha hn B1 B2 hb0
  go_enter Tryz.func33, Tryz.ntmps33
  go_wp2_with fail
  change Code.wp _ _ _ _ (WR 26 26 F R H A n ca w)
  obtain ⟨p0, p1, p2, p3⟩ := H1.out.cells
  obtain ⟨q0, q1, q2, q3⟩ := (H1.out.below (L5.below_alloc _ (.cells #[.int .i64 0, .int .i64 0, .string ⟨#[]⟩, .slice none 0 0] 26))).cells
  go_region
  rw [show (WR 26 26 F R H A n ca w).heap.size = w.heap.size + 1 + 1 from HWS.out]
  have HBs := Lib.hid (show LBx 26 (w.heap.size + 1 + 1) F R HH none 0 0 ((WR 26 26 F R H A n ca w).alloc (.cells #[.int .i64 F, .int .i64 R, .string HH, .slice none 0 0] 26)).drew from by
    have h := lbox_new 26 F R HH none 0 0 (WR 26 26 F R H A n ca w)
    rw [HWS.out] at h
    exact h)
  have HWs := Lib.hid (drew_below (show Below (w.heap.size + 1 + 1) (WR 26 26 F R H A n ca w) ((WR 26 26 F R H A n ca w).alloc (.cells #[.int .i64 F, .int .i64 R, .string HH, .slice none 0 0] 26)) from by
    have h := lbox_below 26 F R HH none 0 0 (WR 26 26 F R H A n ca w)
    rw [HWS.out] at h
    exact h))
  have hszs : w.heap.size + 1 + 1 + 1 ≤ ((WR 26 26 F R H A n ca w).alloc (.cells #[.int .i64 F, .int .i64 R, .string HH, .slice none 0 0] 26)).drew.heap.size := by
    show _ ≤ ((WR 26 26 F R H A n ca w).alloc (.cells #[.int .i64 F, .int .i64 R, .string HH, .slice none 0 0] 26)).heap.size
    simp [HWS.out]
  clear p0 p1 p2 p3 q0 q1 q2 q3
  generalize ((WR 26 26 F R H A n ca w).alloc (.cells #[.int .i64 F, .int .i64 R, .string HH, .slice none 0 0] 26)).drew = D0 at *
  go_wp2_with fail
  go_loopw [4] (fun iv wr => ∃ (k : Nat) (K : Option Addr) (kc : Nat), k ≤ n ∧ k ≤ 20 ∧ iv = .int .i64 k ∧ Hid (LBx 26 (w.heap.size + 1 + 1) F R HH K k kc wr) ∧ Hid (wr.ownsRow (w.heap.size + 1 + 1 + 1) 127 5 (.slice K k kc) k (fives ((l.take k).map cutIt))) ∧ Hid (Below (w.heap.size + 1 + 1) (WR 26 26 F R H A n ca w) wr) ∧ w.heap.size + 1 + 1 + 1 ≤ wr.heap.size) (fun iv _ => n - (intOf iv).toNat)
  case atStart =>
    exact ⟨0, none, 0, by omega, by omega, rfl, HBs, Lib.hid (own5_nil _ _ _), HWs, hszs⟩
  case round =>
    obtain ⟨k, K, kc, hk, hk20, rfl, HB, HO, HW, hsz⟩ := hrel
    have HI := Lib.hid (H1.out.on HW.out (by omega))
    obtain ⟨p0, p1, p2, p3⟩ := HI.out.cells
    obtain ⟨q0, q1, q2, q3⟩ := HB.out.cells
    by_cases hlt : k < n ∧ k < 20
    · obtain ⟨⟨KK, O, S, L, P⟩, hc⟩ : ∃ c, l[k]? = some c := ⟨_, List.getElem?_eq_getElem (by have := HN.out; omega)⟩
      obtain ⟨a, rfl, hab, x0, x1, x2, x3, x4⟩ := (HA.out.below' HW.out (by omega)).load hc
      have hab2 : (a.add (k * 5)).block < w.heap.size := by rw [L5.addr_block]; exact hab
      have h0 : (0 : Int) ≤ k := by omega
      have hkn : (k : Int) < n := by omega
      have hlt1 := hlt.1
      have hlt2 := hlt.2
      obtain ⟨m, mm1, mm2, mm3, mm4⟩ := cut_m KK
      obtain ⟨hk1, hk2⟩ := HS.out _ (List.mem_of_getElem? hc)
      simp only at hk1 hk2
      have HRF := Lib.hid (fun W => L9.vcut_any O S L P W hk2)
      have d1 : decide ((k : Int) < n) = true := decide_eq_true hkn
      have d2 : decide ((k : Int) < 20) = true := decide_eq_true (by omega)
      unfold maxLen at hk1
      have HSX : Hid (five (cutIt ⟨KK, O, S, L, P⟩) = [.string (KK.extract 0 m), .bool O, .string (L9.cutV S), .int .i64 L, .int .i64 P]) := Lib.hid (by simp only [five, cutIt, mm4])
      generalize hSX : L9.cutV S = SS at *
      generalize hKX : KK.extract 0 m = KQ at *
      clear hSX mm4 hk2
      have HC := Lib.hid ((cut20_snoc l k _ hc).trans (by rw [HSX.out]))
      have HCC := Lib.hid hc
      clear hc hab
      have HNE : Hid (∀ g, (Value.slice K k kc).ownBlock = some g → g ≠ w.heap.size + 1 + 1) := Lib.hid (fun g hg => by have := own5_block HO.out hg; omega)
      have HSV : Hid (∀ V, Below (w.heap.size + 1 + 1) (WR 26 26 F R H (some a) n ca w) V → (Hid (Below (w.heap.size + 1 + 1) (WR 26 26 F R H (some a) n ca w) V) ∧ V.cell? ⟨w.heap.size, 3, none⟩ = some (.slice (some a) n ca) ∧ V.cell? (a.add (k * 5)) = some (.string KK) ∧ V.cell? ⟨(a.add (k * 5)).block, (a.add (k * 5)).off + 1, none⟩ = some (.bool O) ∧ V.cell? ⟨(a.add (k * 5)).block, (a.add (k * 5)).off + 2, none⟩ = some (.string S) ∧ V.cell? ⟨(a.add (k * 5)).block, (a.add (k * 5)).off + 3, none⟩ = some (.int .i64 L) ∧ V.cell? ⟨(a.add (k * 5)).block, (a.add (k * 5)).off + 4, none⟩ = some (.int .i64 P))) := Lib.hid (fun V hb => by
        obtain ⟨z0, z1, z2, z3⟩ := (H1.out.on hb (by omega)).cells
        obtain ⟨b, e, hbb, u0, u1, u2, u3, u4⟩ := (HA.out.below' hb (by omega)).load HCC.out
        obtain rfl := Option.some.inj e
        exact ⟨Lib.hid hb, z3, u0, u1, u2, u3, u4⟩)
      have hS0 := HSV.out _ HW.out
      have hSd := HSV.out _ (drew_below HW.out)
      clear p0 p1 p2 p3 x0 x1 x2 x3 x4
      go_wp2_with fail
      have HB := Lib.hid (show LBx 26 (w.heap.size + 1 + 1) F R HH (K) k kc wr.drew from HB.out)
      have HO := Lib.hid HO.out.drew
      have HW := Lib.hid (drew_below HW.out)
      have hsz : w.heap.size + 1 + 1 + 1 ≤ wr.drew.heap.size := hsz
      refine wp_region_held_drew (S := fun V => Hid (Below (w.heap.size + 1 + 1) (WR 26 26 F R H (some a) n ca w) V) ∧ V.cell? ⟨w.heap.size, 3, none⟩ = some (.slice (some a) n ca) ∧ V.cell? (a.add (k * 5)) = some (.string KK) ∧ V.cell? ⟨(a.add (k * 5)).block, (a.add (k * 5)).off + 1, none⟩ = some (.bool O) ∧ V.cell? ⟨(a.add (k * 5)).block, (a.add (k * 5)).off + 2, none⟩ = some (.string S) ∧ V.cell? ⟨(a.add (k * 5)).block, (a.add (k * 5)).off + 3, none⟩ = some (.int .i64 L) ∧ V.cell? ⟨(a.add (k * 5)).block, (a.add (k * 5)).off + 4, none⟩ = some (.int .i64 P)) (by kernel_rfl) hSd (fun hHeld => ?_)
      clear hSd hS0 q0 q1 q2 q3
      generalize wr.drew = D at *
      refine take_op' (i := 0) (d := some 28) (v := ?_) rfl rfl (by kernel_rfl) (by kernel_rfl) (by kernel_rfl) (fun _ _ _ h => h) (Or.inl ⟨by kernel_rfl, ?_⟩) (by assumption) ?_
      rotate_left
      · intro W hSw; (try dsimp only at hSw); go_simp; (first | done | with_reducible rfl)
      try simp only [Act.put, List.setIfInBounds_toArray, List.set_cons_zero, List.set_cons_succ]
      refine take_op' (i := 2) (d := some 30) (v := ?_) rfl rfl (by kernel_rfl) (by kernel_rfl) (by kernel_rfl) (fun _ _ _ h => h) (Or.inl ⟨by kernel_rfl, ?_⟩) (by assumption) ?_
      rotate_left
      · intro W hSw; (try dsimp only at hSw); go_simp; (first | done | with_reducible rfl)
      try simp only [Act.put, List.setIfInBounds_toArray, List.set_cons_zero, List.set_cons_succ]
      refine take_op' (i := 3) (d := some 31) (v := ?_) rfl rfl (by kernel_rfl) (by kernel_rfl) (by kernel_rfl) (fun _ _ _ h => h) (Or.inl ⟨by kernel_rfl, ?_⟩) (by assumption) ?_
      rotate_left
      · intro W hSw; (try dsimp only at hSw); go_simp; (first | done | with_reducible rfl)
      try simp only [Act.put, List.setIfInBounds_toArray, List.set_cons_zero, List.set_cons_succ]
      refine take_op' (i := 4) (d := some 32) (v := ?_) rfl rfl (by kernel_rfl) (by kernel_rfl) (by kernel_rfl) (fun _ _ _ h => h) (Or.inl ⟨by kernel_rfl, ?_⟩) (by assumption) ?_
      rotate_left
      · intro W hSw; (try dsimp only at hSw); go_simp; (first | done | with_reducible rfl)
      try simp only [Act.put, List.setIfInBounds_toArray, List.set_cons_zero, List.set_cons_succ]
      refine take_op' (i := 5) (d := some 33) (v := ?_) rfl rfl (by kernel_rfl) (by kernel_rfl) (by kernel_rfl) (fun _ _ _ h => h) (Or.inl ⟨by kernel_rfl, ?_⟩) (by assumption) ?_
      rotate_left
      · intro W hSw; (try dsimp only at hSw); go_simp; (first | done | with_reducible rfl)
      try simp only [Act.put, List.setIfInBounds_toArray, List.set_cons_zero, List.set_cons_succ]
      refine take_op' (i := 6) (d := some 34) (v := ?_) rfl rfl (by kernel_rfl) (by kernel_rfl) (by kernel_rfl) (fun _ _ _ h => h) (Or.inl ⟨by kernel_rfl, ?_⟩) (by assumption) ?_
      rotate_left
      · intro W hSw; (try dsimp only at hSw); go_simp; (first | done | with_reducible rfl)
      try simp only [Act.put, List.setIfInBounds_toArray, List.set_cons_zero, List.set_cons_succ]
      refine take_op' (i := 7) (d := some 35) (v := ?_) rfl rfl (by kernel_rfl) (by kernel_rfl) (by kernel_rfl) (fun _ _ _ h => h) (Or.inl ⟨by kernel_rfl, ?_⟩) (by assumption) ?_
      rotate_left
      · intro W hSw; (try dsimp only at hSw); go_simp; (first | done | with_reducible rfl)
      try simp only [Act.put, List.setIfInBounds_toArray, List.set_cons_zero, List.set_cons_succ]
      refine take_op' (i := 8) (d := some 36) (v := ?_) rfl rfl (by kernel_rfl) (by kernel_rfl) (by kernel_rfl) (fun _ _ _ h => h) (Or.inl ⟨by kernel_rfl, ?_⟩) (by assumption) ?_
      rotate_left
      · intro W hSw; (try dsimp only at hSw); go_simp; (first | done | with_reducible rfl)
      try simp only [Act.put, List.setIfInBounds_toArray, List.set_cons_zero, List.set_cons_succ]
      refine take_op' (i := 9) (d := some 37) (v := ?_) rfl rfl (by kernel_rfl) (by kernel_rfl) (by kernel_rfl) (fun _ _ _ h => h) (Or.inl ⟨by kernel_rfl, ?_⟩) (by assumption) ?_
      rotate_left
      · intro W hSw; (try dsimp only at hSw); go_simp; (first | done | with_reducible rfl)
      try simp only [Act.put, List.setIfInBounds_toArray, List.set_cons_zero, List.set_cons_succ]
      refine take_op' (i := 10) (d := some 38) (v := ?_) rfl rfl (by kernel_rfl) (by kernel_rfl) (by kernel_rfl) (fun _ _ _ h => h) (Or.inl ⟨by kernel_rfl, ?_⟩) (by assumption) ?_
      rotate_left
      · intro W hSw; (try dsimp only at hSw); go_simp; (first | done | with_reducible rfl)
      try simp only [Act.put, List.setIfInBounds_toArray, List.set_cons_zero, List.set_cons_succ]
      refine take_op' (i := 11) (d := some 39) (v := ?_) rfl rfl (by kernel_rfl) (by kernel_rfl) (by kernel_rfl) (fun _ _ _ h => h) (Or.inl ⟨by kernel_rfl, ?_⟩) (by assumption) ?_
      rotate_left
      · intro W hSw; (try dsimp only at hSw); go_simp; (first | done | with_reducible rfl)
      try simp only [Act.put, List.setIfInBounds_toArray, List.set_cons_zero, List.set_cons_succ]
      refine take_op' (i := 12) (d := some 40) (v := ?_) rfl rfl (by kernel_rfl) (by kernel_rfl) (by kernel_rfl) (fun _ _ _ h => h) (Or.inl ⟨by kernel_rfl, ?_⟩) (by assumption) ?_
      rotate_left
      · intro W hSw; (try dsimp only at hSw); go_simp; (first | done | with_reducible rfl)
      try simp only [Act.put, List.setIfInBounds_toArray, List.set_cons_zero, List.set_cons_succ]
      refine take_op' (i := 13) (d := some 41) (v := ?_) rfl rfl (by kernel_rfl) (by kernel_rfl) (by kernel_rfl) (fun _ _ _ h => h) (Or.inl ⟨by kernel_rfl, ?_⟩) (by assumption) ?_
      rotate_left
      · intro W hSw; (try dsimp only at hSw); go_simp; (first | done | with_reducible rfl)
      try simp only [Act.put, List.setIfInBounds_toArray, List.set_cons_zero, List.set_cons_succ]
      refine take_op' (i := 14) (d := some 42) (v := ?_) rfl rfl (by kernel_rfl) (by kernel_rfl) (by kernel_rfl) (fun _ _ _ h => h) (Or.inl ⟨by kernel_rfl, ?_⟩) (by assumption) ?_
      rotate_left
      · intro W hSw; (try dsimp only at hSw); go_simp; (first | done | with_reducible rfl)
      try simp only [Act.put, List.setIfInBounds_toArray, List.set_cons_zero, List.set_cons_succ]
      refine take_op' (i := 15) (d := some 43) (v := ?_) rfl rfl (by kernel_rfl) (by kernel_rfl) (by kernel_rfl) (fun _ _ _ h => h) (Or.inl ⟨by kernel_rfl, ?_⟩) (by assumption) ?_
      rotate_left
      · intro W hSw; (try dsimp only at hSw); go_simp; (first | done | with_reducible rfl)
      try simp only [Act.put, List.setIfInBounds_toArray, List.set_cons_zero, List.set_cons_succ]
      refine take_op' (i := 16) (d := some 44) (v := ?_) rfl rfl (by kernel_rfl) (by kernel_rfl) (by kernel_rfl) (fun _ _ _ h => h) (Or.inl ⟨by kernel_rfl, ?_⟩) (by assumption) ?_
      rotate_left
      · intro W hSw; (try dsimp only at hSw); go_simp; (first | done | with_reducible rfl)
      try simp only [Act.put, List.setIfInBounds_toArray, List.set_cons_zero, List.set_cons_succ]
      refine take_op' (i := 17) (d := some 45) (v := ?_) rfl rfl (by kernel_rfl) (by kernel_rfl) (by kernel_rfl) (fun _ _ _ h => h) (Or.inl ⟨by kernel_rfl, ?_⟩) (by assumption) ?_
      rotate_left
      · intro W hSw; (try dsimp only at hSw); go_simp; (first | done | with_reducible rfl)
      try simp only [Act.put, List.setIfInBounds_toArray, List.set_cons_zero, List.set_cons_succ]
      refine take_op' (i := 18) (d := some 46) (v := ?_) rfl rfl (by kernel_rfl) (by kernel_rfl) (by kernel_rfl) (fun _ _ _ h => h) (Or.inl ⟨by kernel_rfl, ?_⟩) (by assumption) ?_
      rotate_left
      · intro W hSw; (try dsimp only at hSw); go_simp; (first | done | with_reducible rfl)
      try simp only [Act.put, List.setIfInBounds_toArray, List.set_cons_zero, List.set_cons_succ]
      refine take_op' (i := 19) (d := some 47) (v := ?_) rfl rfl (by kernel_rfl) (by kernel_rfl) (by kernel_rfl) (fun _ _ _ h => h) (Or.inl ⟨by kernel_rfl, ?_⟩) (by assumption) ?_
      rotate_left
      · intro W hSw; (try dsimp only at hSw); go_simp; (first | done | with_reducible rfl)
      try simp only [Act.put, List.setIfInBounds_toArray, List.set_cons_zero, List.set_cons_succ]
      refine take_op' (i := 20) (d := some 48) (v := ?_) rfl rfl (by kernel_rfl) (by kernel_rfl) (by kernel_rfl) (fun _ _ _ h => h) (Or.inl ⟨by kernel_rfl, ?_⟩) (by assumption) ?_
      rotate_left
      · intro W hSw; (try dsimp only at hSw); go_simp; (first | done | with_reducible rfl)
      try simp only [Act.put, List.setIfInBounds_toArray, List.set_cons_zero, List.set_cons_succ]
      refine take_op' (i := 21) (d := some 49) (v := ?_) rfl rfl (by kernel_rfl) (by kernel_rfl) (by kernel_rfl) (fun _ _ _ h => h) (Or.inl ⟨by kernel_rfl, ?_⟩) (by assumption) ?_
      rotate_left
      · intro W hSw; (try dsimp only at hSw); go_simp; (first | done | with_reducible rfl)
      try simp only [Act.put, List.setIfInBounds_toArray, List.set_cons_zero, List.set_cons_succ]
      refine take_op' (i := 22) (d := some 50) (v := ?_) rfl rfl (by kernel_rfl) (by kernel_rfl) (by kernel_rfl) (fun _ _ _ h => h) (Or.inl ⟨by kernel_rfl, ?_⟩) (by assumption) ?_
      rotate_left
      · intro W hSw; (try dsimp only at hSw); go_simp; (first | done | with_reducible rfl)
      try simp only [Act.put, List.setIfInBounds_toArray, List.set_cons_zero, List.set_cons_succ]
      clear hm1 hm2 hm3 hHH mm1 mm2 mm3 hKX hk1 hlt hlt1 d1 d2 h0 hH
      refine wpAnyH_ready (rs := [1, 23]) (by kernel_rfl) (by simp) (AllReadyH.cons rfl (fun QQ hK => ?_) (AllReadyH.cons rfl (fun QQ hK => ?_) AllReadyH.nil))
      · have qq := HB.out.cells.2.2.2
        go_simp
        refine hK.out _ _ hHeld (fun _ => ?_)
        clear qq hK
        try simp only [Act.put, List.setIfInBounds_toArray, List.set_cons_zero, List.set_cons_succ]
        refine wpAnyH_ready (rs := [23]) (by kernel_rfl) (by simp) (AllReadyH.cons rfl (fun QQ hK => ?_) AllReadyH.nil)
        go_simp
        refine (HRF.out _).mono ?_
        rintro e V ⟨rfl, hb⟩
        go_wp2_with fail
        have HB := Lib.hid (HB.out.below hb)
        have HO := Lib.hid (own5_below HO.out hb)
        have HW := Lib.hid (HW.out.trans (hb.mono (by omega)))
        have hs2 := hb.size
        have hsz : w.heap.size + 1 + 1 + 1 ≤ V.heap.size := by omega
        have hHeld := HSV.out _ HW.out
        refine hK.out _ _ hHeld (fun _ => ?_)
        clear hK hb hs2
        try simp only [Act.put, List.setIfInBounds_toArray, List.set_cons_zero, List.set_cons_succ]
        refine take_op' (i := 24) (d := some 52) (v := ?_) rfl rfl (by kernel_rfl) (by kernel_rfl) (by kernel_rfl) (fun _ _ _ h => h) (Or.inl ⟨by kernel_rfl, ?_⟩) (by assumption) ?_
        rotate_left
        · intro W hSw; (try dsimp only at hSw); go_simp; (first | done | with_reducible rfl)
        try simp only [Act.put, List.setIfInBounds_toArray, List.set_cons_zero, List.set_cons_succ]
        refine wpAnyH_ready (rs := [25]) (by kernel_rfl) (by simp) (AllReadyH.cons rfl (fun QQ hK => ?_) AllReadyH.nil)
        go_simp
        have hb := L5.below_alloc V (.cells #[.string KQ, .bool O, .string SS, .int .i64 L, .int .i64 P] 127)
        have hblk := heap_alloc_new V (.cells #[.string KQ, .bool O, .string SS, .int .i64 L, .int .i64 P] 127)
        have hq : (V.alloc (.cells #[.string KQ, .bool O, .string SS, .int .i64 L, .int .i64 P] 127)).heap.size = V.heap.size + 1 := by simp
        have HB := Lib.hid (HB.out.below hb)
        have HO := Lib.hid (own5_below HO.out hb)
        have HW := Lib.hid (HW.out.trans (hb.mono (by omega)))
        have hs2 := hb.size
        have hsz : w.heap.size + 1 + 1 + 1 ≤ (V.alloc (.cells #[.string KQ, .bool O, .string SS, .int .i64 L, .int .i64 P] 127)).heap.size := by omega
        have hHeld := HSV.out _ HW.out
        refine hK.out _ _ hHeld (fun _ => ?_)
        clear hK hb hs2
        generalize V.alloc (.cells #[.string KQ, .bool O, .string SS, .int .i64 L, .int .i64 P] 127) = V3 at *
        generalize V.heap.size = q at *
        try simp only [Act.put, List.setIfInBounds_toArray, List.set_cons_zero, List.set_cons_succ]
        refine wpAnyH_ready (rs := [26]) (by kernel_rfl) (by simp) (AllReadyH.cons rfl (fun QQ hK => ?_) AllReadyH.nil)
        refine step_append_lies _ (by rfl) _ _ _ (by rfl) (w.heap.size + 1 + 1 + 1) 127 i0 (.agg #[.string ⟨#[]⟩, .bool false, .string ⟨#[]⟩, .int .i64 0, .int .i64 0]) 5 56 Tryz.underlying24 hi hz0 hz1 hz2 rfl (by decide) (.slice K k kc) k _ (by rfl) HO.out ⟨q, 0, none⟩ 1 1 [.string KQ, .bool O, .string SS, .int .i64 L, .int .i64 P] (by rfl) (by rfl) (World.news_of_block (cs := #[.string KQ, .bool O, .string SS, .int .i64 L, .int .i64 P]) (t := 127) (fr := (0, 0)) hblk) (five_one _ _ _ _ _) (by omega) (by unfold maxLen; omega) (by omega) (by omega) V3.heap.size rfl ?_
        intro g' cap' w3 hown3 hgrow3 hat3 hlt3
        have hbA := own5_apart (q := w.heap.size + 1 + 1) HO.out hgrow3 (by omega) (by omega)
        have HBX := Lib.hid (show LBx 26 (w.heap.size + 1 + 1) F R HH (K) k kc w3 from (hgrow3.block (w.heap.size + 1 + 1) (by omega) (fun e => HNE.out _ e.symm rfl)).trans HB.out)
        have HW := Lib.hid (HW.out.trans hbA)
        have hs3 := hgrow3.size
        have hHeld := HSV.out _ HW.out
        refine hK.out _ _ hHeld (fun _ => ?_)
        clear hK hat3 hlt3 hgrow3 hbA
        try simp only [Act.put, List.setIfInBounds_toArray, List.set_cons_zero, List.set_cons_succ]
        refine take_op' (i := 27) (d := some 55) (v := ?_) rfl rfl (by kernel_rfl) (by kernel_rfl) (by kernel_rfl) (fun _ _ _ h => h) (Or.inl ⟨by kernel_rfl, ?_⟩) (by assumption) ?_
        rotate_left
        · intro W hSw; (try dsimp only at hSw); go_simp; (first | done | with_reducible rfl)
        try simp only [Act.put, List.setIfInBounds_toArray, List.set_cons_zero, List.set_cons_succ]
        refine wpAnyH_ready (rs := [28]) (by kernel_rfl) (by simp) (AllReadyH.cons rfl (fun QQ hK => ?_) AllReadyH.nil)
        have E6 := HBX.out.cells.2.2.2
        have F6 := HBX.out.free.2.2.2
        go_simp
        have HWN := Lib.hid (HW.out.setCell (p := ⟨w.heap.size + 1 + 1, 3, none⟩) (Nat.le_refl _) (.slice (some ⟨g', 0, none⟩) (k + 1) cap'))
        have hHeld := HSV.out _ HWN.out
        refine hK.out _ _ hHeld (fun _ => ?_)
        clear hK E6 F6
        try simp only [Act.put, List.setIfInBounds_toArray, List.set_cons_zero, List.set_cons_succ]
        refine wpAnyH_done (by kernel_rfl) ?_ _
        have HON : Hid ((w3.setCell ⟨w.heap.size + 1 + 1, 3, none⟩ (.slice (some ⟨g', 0, none⟩) (k + 1) cap')).ownsRow (w.heap.size + 1 + 1 + 1) 127 5 (.slice (some ⟨g', 0, none⟩) (k + 1) cap') (k + 1) (fives ((l.take (k + 1)).map cutIt))) := Lib.hid (own5_set (by rw [HC.out]; exact hown3) (by omega))
        have HBN := Lib.hid (HBX.out.set3 (some ⟨g', 0, none⟩) (k + 1) cap')
        have hszN : w.heap.size + 1 + 1 + 1 ≤ (w3.setCell ⟨w.heap.size + 1 + 1, 3, none⟩ (.slice (some ⟨g', 0, none⟩) (k + 1) cap')).heap.size := by simp; omega
        clear hown3
        go_wp2_with fail
        refine ⟨⟨k + 1, some ⟨g', 0, none⟩, cap', by omega, by omega, by simp, HBN, HON, HWN, hszN⟩, ?_⟩
        clear HBN HON HWN hszN HW HO HB HBX hHeld hsz hs3 hq hblk HSV hab2
        (try clear HWs HBs hszs)
        simp only [intOf]
        omega
      · go_simp
        refine (HRF.out _).mono ?_
        rintro e V ⟨rfl, hb⟩
        go_wp2_with fail
        have HB := Lib.hid (HB.out.below hb)
        have HO := Lib.hid (own5_below HO.out hb)
        have HW := Lib.hid (HW.out.trans (hb.mono (by omega)))
        have hs2 := hb.size
        have hsz : w.heap.size + 1 + 1 + 1 ≤ V.heap.size := by omega
        have hHeld := HSV.out _ HW.out
        refine hK.out _ _ hHeld (fun _ => ?_)
        clear hK hb hs2
        try simp only [Act.put, List.setIfInBounds_toArray, List.set_cons_zero, List.set_cons_succ]
        refine take_op' (i := 24) (d := some 52) (v := ?_) rfl rfl (by kernel_rfl) (by kernel_rfl) (by kernel_rfl) (fun _ _ _ h => h) (Or.inl ⟨by kernel_rfl, ?_⟩) (by assumption) ?_
        rotate_left
        · intro W hSw; (try dsimp only at hSw); go_simp; (first | done | with_reducible rfl)
        try simp only [Act.put, List.setIfInBounds_toArray, List.set_cons_zero, List.set_cons_succ]
        refine wpAnyH_ready (rs := [1, 25]) (by kernel_rfl) (by simp) (AllReadyH.cons rfl (fun QQ hK => ?_) (AllReadyH.cons rfl (fun QQ hK => ?_) AllReadyH.nil))
        · have qq := HB.out.cells.2.2.2
          go_simp
          refine hK.out _ _ hHeld (fun _ => ?_)
          clear qq hK
          try simp only [Act.put, List.setIfInBounds_toArray, List.set_cons_zero, List.set_cons_succ]
          refine wpAnyH_ready (rs := [25]) (by kernel_rfl) (by simp) (AllReadyH.cons rfl (fun QQ hK => ?_) AllReadyH.nil)
          go_simp
          have hb := L5.below_alloc V (.cells #[.string KQ, .bool O, .string SS, .int .i64 L, .int .i64 P] 127)
          have hblk := heap_alloc_new V (.cells #[.string KQ, .bool O, .string SS, .int .i64 L, .int .i64 P] 127)
          have hq : (V.alloc (.cells #[.string KQ, .bool O, .string SS, .int .i64 L, .int .i64 P] 127)).heap.size = V.heap.size + 1 := by simp
          have HB := Lib.hid (HB.out.below hb)
          have HO := Lib.hid (own5_below HO.out hb)
          have HW := Lib.hid (HW.out.trans (hb.mono (by omega)))
          have hs2 := hb.size
          have hsz : w.heap.size + 1 + 1 + 1 ≤ (V.alloc (.cells #[.string KQ, .bool O, .string SS, .int .i64 L, .int .i64 P] 127)).heap.size := by omega
          have hHeld := HSV.out _ HW.out
          refine hK.out _ _ hHeld (fun _ => ?_)
          clear hK hb hs2
          generalize V.alloc (.cells #[.string KQ, .bool O, .string SS, .int .i64 L, .int .i64 P] 127) = V3 at *
          generalize V.heap.size = q at *
          try simp only [Act.put, List.setIfInBounds_toArray, List.set_cons_zero, List.set_cons_succ]
          refine wpAnyH_ready (rs := [26]) (by kernel_rfl) (by simp) (AllReadyH.cons rfl (fun QQ hK => ?_) AllReadyH.nil)
          refine step_append_lies _ (by rfl) _ _ _ (by rfl) (w.heap.size + 1 + 1 + 1) 127 i0 (.agg #[.string ⟨#[]⟩, .bool false, .string ⟨#[]⟩, .int .i64 0, .int .i64 0]) 5 56 Tryz.underlying24 hi hz0 hz1 hz2 rfl (by decide) (.slice K k kc) k _ (by rfl) HO.out ⟨q, 0, none⟩ 1 1 [.string KQ, .bool O, .string SS, .int .i64 L, .int .i64 P] (by rfl) (by rfl) (World.news_of_block (cs := #[.string KQ, .bool O, .string SS, .int .i64 L, .int .i64 P]) (t := 127) (fr := (0, 0)) hblk) (five_one _ _ _ _ _) (by omega) (by unfold maxLen; omega) (by omega) (by omega) V3.heap.size rfl ?_
          intro g' cap' w3 hown3 hgrow3 hat3 hlt3
          have hbA := own5_apart (q := w.heap.size + 1 + 1) HO.out hgrow3 (by omega) (by omega)
          have HBX := Lib.hid (show LBx 26 (w.heap.size + 1 + 1) F R HH (K) k kc w3 from (hgrow3.block (w.heap.size + 1 + 1) (by omega) (fun e => HNE.out _ e.symm rfl)).trans HB.out)
          have HW := Lib.hid (HW.out.trans hbA)
          have hs3 := hgrow3.size
          have hHeld := HSV.out _ HW.out
          refine hK.out _ _ hHeld (fun _ => ?_)
          clear hK hat3 hlt3 hgrow3 hbA
          try simp only [Act.put, List.setIfInBounds_toArray, List.set_cons_zero, List.set_cons_succ]
          refine take_op' (i := 27) (d := some 55) (v := ?_) rfl rfl (by kernel_rfl) (by kernel_rfl) (by kernel_rfl) (fun _ _ _ h => h) (Or.inl ⟨by kernel_rfl, ?_⟩) (by assumption) ?_
          rotate_left
          · intro W hSw; (try dsimp only at hSw); go_simp; (first | done | with_reducible rfl)
          try simp only [Act.put, List.setIfInBounds_toArray, List.set_cons_zero, List.set_cons_succ]
          refine wpAnyH_ready (rs := [28]) (by kernel_rfl) (by simp) (AllReadyH.cons rfl (fun QQ hK => ?_) AllReadyH.nil)
          have E6 := HBX.out.cells.2.2.2
          have F6 := HBX.out.free.2.2.2
          go_simp
          have HWN := Lib.hid (HW.out.setCell (p := ⟨w.heap.size + 1 + 1, 3, none⟩) (Nat.le_refl _) (.slice (some ⟨g', 0, none⟩) (k + 1) cap'))
          have hHeld := HSV.out _ HWN.out
          refine hK.out _ _ hHeld (fun _ => ?_)
          clear hK E6 F6
          try simp only [Act.put, List.setIfInBounds_toArray, List.set_cons_zero, List.set_cons_succ]
          refine wpAnyH_done (by kernel_rfl) ?_ _
          have HON : Hid ((w3.setCell ⟨w.heap.size + 1 + 1, 3, none⟩ (.slice (some ⟨g', 0, none⟩) (k + 1) cap')).ownsRow (w.heap.size + 1 + 1 + 1) 127 5 (.slice (some ⟨g', 0, none⟩) (k + 1) cap') (k + 1) (fives ((l.take (k + 1)).map cutIt))) := Lib.hid (own5_set (by rw [HC.out]; exact hown3) (by omega))
          have HBN := Lib.hid (HBX.out.set3 (some ⟨g', 0, none⟩) (k + 1) cap')
          have hszN : w.heap.size + 1 + 1 + 1 ≤ (w3.setCell ⟨w.heap.size + 1 + 1, 3, none⟩ (.slice (some ⟨g', 0, none⟩) (k + 1) cap')).heap.size := by simp; omega
          clear hown3
          go_wp2_with fail
          refine ⟨⟨k + 1, some ⟨g', 0, none⟩, cap', by omega, by omega, by simp, HBN, HON, HWN, hszN⟩, ?_⟩
          clear HBN HON HWN hszN HW HO HB HBX hHeld hsz hs3 hq hblk HSV hab2
          (try clear HWs HBs hszs)
          simp only [intOf]
          omega
        · go_simp
          have hb := L5.below_alloc V (.cells #[.string KQ, .bool O, .string SS, .int .i64 L, .int .i64 P] 127)
          have hblk := heap_alloc_new V (.cells #[.string KQ, .bool O, .string SS, .int .i64 L, .int .i64 P] 127)
          have hq : (V.alloc (.cells #[.string KQ, .bool O, .string SS, .int .i64 L, .int .i64 P] 127)).heap.size = V.heap.size + 1 := by simp
          have HB := Lib.hid (HB.out.below hb)
          have HO := Lib.hid (own5_below HO.out hb)
          have HW := Lib.hid (HW.out.trans (hb.mono (by omega)))
          have hs2 := hb.size
          have hsz : w.heap.size + 1 + 1 + 1 ≤ (V.alloc (.cells #[.string KQ, .bool O, .string SS, .int .i64 L, .int .i64 P] 127)).heap.size := by omega
          have hHeld := HSV.out _ HW.out
          refine hK.out _ _ hHeld (fun _ => ?_)
          clear hK hb hs2
          generalize V.alloc (.cells #[.string KQ, .bool O, .string SS, .int .i64 L, .int .i64 P] 127) = V3 at *
          generalize V.heap.size = q at *
          try simp only [Act.put, List.setIfInBounds_toArray, List.set_cons_zero, List.set_cons_succ]
          refine wpAnyH_ready (rs := [1]) (by kernel_rfl) (by simp) (AllReadyH.cons rfl (fun QQ hK => ?_) AllReadyH.nil)
          have qq := HB.out.cells.2.2.2
          go_simp
          refine hK.out _ _ hHeld (fun _ => ?_)
          clear qq hK
          try simp only [Act.put, List.setIfInBounds_toArray, List.set_cons_zero, List.set_cons_succ]
          refine wpAnyH_ready (rs := [26]) (by kernel_rfl) (by simp) (AllReadyH.cons rfl (fun QQ hK => ?_) AllReadyH.nil)
          refine step_append_lies _ (by rfl) _ _ _ (by rfl) (w.heap.size + 1 + 1 + 1) 127 i0 (.agg #[.string ⟨#[]⟩, .bool false, .string ⟨#[]⟩, .int .i64 0, .int .i64 0]) 5 56 Tryz.underlying24 hi hz0 hz1 hz2 rfl (by decide) (.slice K k kc) k _ (by rfl) HO.out ⟨q, 0, none⟩ 1 1 [.string KQ, .bool O, .string SS, .int .i64 L, .int .i64 P] (by rfl) (by rfl) (World.news_of_block (cs := #[.string KQ, .bool O, .string SS, .int .i64 L, .int .i64 P]) (t := 127) (fr := (0, 0)) hblk) (five_one _ _ _ _ _) (by omega) (by unfold maxLen; omega) (by omega) (by omega) V3.heap.size rfl ?_
          intro g' cap' w3 hown3 hgrow3 hat3 hlt3
          have hbA := own5_apart (q := w.heap.size + 1 + 1) HO.out hgrow3 (by omega) (by omega)
          have HBX := Lib.hid (show LBx 26 (w.heap.size + 1 + 1) F R HH (K) k kc w3 from (hgrow3.block (w.heap.size + 1 + 1) (by omega) (fun e => HNE.out _ e.symm rfl)).trans HB.out)
          have HW := Lib.hid (HW.out.trans hbA)
          have hs3 := hgrow3.size
          have hHeld := HSV.out _ HW.out
          refine hK.out _ _ hHeld (fun _ => ?_)
          clear hK hat3 hlt3 hgrow3 hbA
          try simp only [Act.put, List.setIfInBounds_toArray, List.set_cons_zero, List.set_cons_succ]
          refine take_op' (i := 27) (d := some 55) (v := ?_) rfl rfl (by kernel_rfl) (by kernel_rfl) (by kernel_rfl) (fun _ _ _ h => h) (Or.inl ⟨by kernel_rfl, ?_⟩) (by assumption) ?_
          rotate_left
          · intro W hSw; (try dsimp only at hSw); go_simp; (first | done | with_reducible rfl)
          try simp only [Act.put, List.setIfInBounds_toArray, List.set_cons_zero, List.set_cons_succ]
          refine wpAnyH_ready (rs := [28]) (by kernel_rfl) (by simp) (AllReadyH.cons rfl (fun QQ hK => ?_) AllReadyH.nil)
          have E6 := HBX.out.cells.2.2.2
          have F6 := HBX.out.free.2.2.2
          go_simp
          have HWN := Lib.hid (HW.out.setCell (p := ⟨w.heap.size + 1 + 1, 3, none⟩) (Nat.le_refl _) (.slice (some ⟨g', 0, none⟩) (k + 1) cap'))
          have hHeld := HSV.out _ HWN.out
          refine hK.out _ _ hHeld (fun _ => ?_)
          clear hK E6 F6
          try simp only [Act.put, List.setIfInBounds_toArray, List.set_cons_zero, List.set_cons_succ]
          refine wpAnyH_done (by kernel_rfl) ?_ _
          have HON : Hid ((w3.setCell ⟨w.heap.size + 1 + 1, 3, none⟩ (.slice (some ⟨g', 0, none⟩) (k + 1) cap')).ownsRow (w.heap.size + 1 + 1 + 1) 127 5 (.slice (some ⟨g', 0, none⟩) (k + 1) cap') (k + 1) (fives ((l.take (k + 1)).map cutIt))) := Lib.hid (own5_set (by rw [HC.out]; exact hown3) (by omega))
          have HBN := Lib.hid (HBX.out.set3 (some ⟨g', 0, none⟩) (k + 1) cap')
          have hszN : w.heap.size + 1 + 1 + 1 ≤ (w3.setCell ⟨w.heap.size + 1 + 1, 3, none⟩ (.slice (some ⟨g', 0, none⟩) (k + 1) cap')).heap.size := by simp; omega
          clear hown3
          go_wp2_with fail
          refine ⟨⟨k + 1, some ⟨g', 0, none⟩, cap', by omega, by omega, by simp, HBN, HON, HWN, hszN⟩, ?_⟩
          clear HBN HON HWN hszN HW HO HB HBX hHeld hsz hs3 hq hblk HSV hab2
          (try clear HWs HBs hszs)
          simp only [intOf]
          omega
    · have HLN : Hid ((l.take k).map cutIt = cut20 l) := Lib.hid (by
        have h1 := HN.out
        have h2 : l.take k = l.take 20 := by
          by_cases h3 : k = 20
          · rw [h3]
          · rw [List.take_of_length_le (by omega), List.take_of_length_le (by omega)]
        rw [cut20, h2])
      have HKN : Hid (k = (cut20 l).length) := Lib.hid (by have h1 := HN.out; rw [cut20_length]; omega)
      have HLI : Hid (Lies5 wr wr.heap.size K (cut20 l)) := Lib.hid (by
        have h := HO.out
        rw [HLN.out] at h
        exact lies5_own h HKN.out)
      have HKB := Lib.hid (H2.out.on HW.out (by omega))
      have HBW := Lib.hid (HZ.out.trans (HW.out.mono (by omega)))
      have HKL : Hid (∀ a, K = some a → a.block ≠ w.heap.size + 1) := Lib.hid (fun a h => by
        subst h
        rcases HO.out.2 with ⟨h', _⟩ | ⟨g, cap, cur, h', hg, _⟩
        · simp at h'
        · simp only [Value.slice.injEq, Option.some.injEq] at h'
          rw [h'.1]
          show g ≠ _
          omega)
      obtain ⟨y0, y1, y2, y3⟩ := HKB.out.cells
      obtain ⟨f0, f1, f2, f3⟩ := HKB.out.free
      by_cases h1 : k < n
      · have d1 : decide ((k : Int) < n) = true := decide_eq_true (by omega)
        have d2 : decide ((k : Int) < 20) = false := decide_eq_false (by omega)
        clear hlt hk hk20
        go_wp2_with fail
        obtain ⟨r0, r1, r2, r3⟩ := (setL_box HKB.out F R HH K k kc).cells
        unfold setL at r0 r1 r2 r3
        refine bodyPost_ret (v := lv F R HH K k kc) (by simp [results, Tryz.results33, go_sem, r0, r1, r2, r3]) rfl ?_
        have hown := own5_setL (q := w.heap.size + 1) (show wr.ownsRow (w.heap.size + 1 + 1 + 1) 127 5 (.slice K k kc) k (fives (cut20 l)) by have h := HO.out; rw [HLN.out] at h; exact h) (by omega) F R HH K k kc
        exact ⟨K, kc, by rw [HKN.out], by rw [← HKN.out]; exact own5_base hown (by omega), setL_below (g := w.heap.size + 1) HBW.out (by omega) F R HH K k kc⟩
      · have d1 : decide ((k : Int) < n) = false := decide_eq_false (by omega)
        have d1n : decide (k < n) = false := decide_eq_false (by omega)
        have hlt' : ¬ (k : Int) < n := by omega
        clear hlt hk hk20 h1
        go_wp2_with fail
        obtain ⟨r0, r1, r2, r3⟩ := (setL_box HKB.out F R HH K k kc).cells
        unfold setL at r0 r1 r2 r3
        refine bodyPost_ret (v := lv F R HH K k kc) (by simp [results, Tryz.results33, go_sem, r0, r1, r2, r3]) rfl ?_
        have hown := own5_setL (q := w.heap.size + 1) (show wr.ownsRow (w.heap.size + 1 + 1 + 1) 127 5 (.slice K k kc) k (fives (cut20 l)) by have h := HO.out; rw [HLN.out] at h; exact h) (by omega) F R HH K k kc
        exact ⟨K, kc, by rw [HKN.out], by rw [← HKN.out]; exact own5_base hown (by omega), setL_below (g := w.heap.size + 1) HBW.out (by omega) F R HH K k kc⟩
end Go.Proofs.YtpeghilfldpgfaaGreatDoor.L10
