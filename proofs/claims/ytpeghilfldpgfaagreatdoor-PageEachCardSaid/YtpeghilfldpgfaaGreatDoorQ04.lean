import Derived.Test.YtpeghilfldpgfaaGreatDoorQ03
import Derived.Test.YtpeghilfldpgfaaGreatDoorQWLen
import Derived.RangeFuncBox
import Derived.Lib.ItoaLen
namespace Go.Proofs.YtpeghilfldpgfaaGreatDoor.L9
open Go.RowKit
set_option maxHeartbeats 400000 in
theorem follow_any (b : Int) (w : World) (h0 : 0 ≤ b) (h1 : b ≤ 255) :
    Calls Tryz.prog 189 #[.int .u8 b] w fun e w' => e = .returned (.int .i64 (WP.flw b)) ∧ w = w' := by
  go_enter Tryz.func189, Tryz.ntmps189
  go_wp2
  all_goals
    go_ret
    refine ⟨ret_int ?_, rfl⟩
    simp only [beq_iff_eq, beq_eq_false_iff_ne, ne_eq] at *
    unfold WP.flw
    split
    · omega
    · split <;> omega
set_option maxHeartbeats 400000 in
theorem byteLen_any (x : Int) (w : World) (h0 : 0 ≤ x) (h1 : x ≤ 18446744073709551615) :
    Calls Tryz.prog 204 #[.int .u64 x] w fun e w' => e = .returned (.int .i64 (WP.bl x.toNat)) ∧ w = w' := by
  have hb : Lib.bitLen x.toNat ≤ 64 := Lib.bitLen_le _ 64 (by omega) (by omega)
  go_enter Tryz.func204, Tryz.ntmps204
  go_wp2_with (go_at_call 212; refine (len64_any _ _ h0 h1).mono ?_; rintro e w' ⟨rfl, rfl⟩)
  go_ret
  refine ⟨ret_int ?_, rfl⟩
  have := WP.bl_of x.toNat (by omega)
  omega
end Go.Proofs.YtpeghilfldpgfaaGreatDoor.L9
namespace Go.Proofs.YtpeghilfldpgfaaGreatDoor.L9
open Go.RowKit
theorem Tryz.infoU8 : (Tryz.prog.info? 5).map (fun i => (i.zero, i.size, i.bytes)) = some (some (.int .u8 0), 1, 1) := by kernel_rfl
theorem addr_at (b j : Nat) : (⟨b, 0, none⟩ : Addr).add j = ⟨b, j, none⟩ := by
  unfold Addr.add
  split <;> simp_all
theorem made_zeros (m : Nat) : (madeCells (Value.int .u8 0).cells (m * 1)).toList = List.replicate m (.int .u8 0) := by
  apply List.ext_getElem
  · simp [madeCells]
  · intro i h1 h2
    simp [madeCells, Value.cells, Nat.mod_one]
set_option maxHeartbeats 400000 in
theorem highFirst_any (n c : Int) (w : World) (h0 : 0 ≤ n) (h1 : n ≤ 18446744073709551615) (hc0 : 1 ≤ c) (hc1 : c ≤ 8) :
    Calls Tryz.prog 203 #[.int .u64 n, .int .i64 c] w fun e w' => e = .returned (.string ⟨(Lib.beBytes c.toNat n.toNat).toArray⟩) ∧ Below w.heap.size w w' := by
  obtain ⟨m, rfl⟩ := Int.eq_ofNat_of_zero_le (show 0 ≤ c by omega)
  obtain ⟨i0, hi, hz0, hz1, hz2⟩ := info_parts Tryz.infoU8
  go_enter Tryz.func203, Tryz.ntmps203
  go_wp2_with (at_make; refine wpList_make_full _ rfl _ _ 86 rfl w.heap.size 5 i0 (.int .u8 0) 1 Tryz.underlying86 hi hz0 hz1 _ _ _ _ m rfl rfl rfl rfl (by rw [hz2]; omega) (by unfold maxLen; omega) (Nat.le_refl _) ?_; intro w1 hown1 hg1)
  go_loopw [10] (fun i wr => ∃ k : Nat, k ≤ m ∧ i = .int .i64 k ∧ wr.ownsRow w.heap.size 5 1 (.slice (some ⟨w.heap.size, 0, none⟩) m m) m (WP.cellsAt n m k) ∧ Below w.heap.size w wr) (fun i _ => m - (intOf i).toNat)
  case atStart =>
    refine ⟨0, Nat.zero_le _, rfl, ?_, (Below.refl _ w).grown hg1 (Nat.le_refl _) (by simp)⟩
    rw [WP.cellsAt_zero]
    rwa [made_zeros] at hown1
  case round =>
    obtain ⟨k, hk, rfl, hown, hb⟩ := hrel
    by_cases hlt : k < m
    · have hcell : wr.cell? ⟨w.heap.size, k, none⟩ = some (.int .u8 0) := by
        rw [hown.cellAt k (by omega)]
        simp [WP.cellsAt, hlt]
      have hfr := hown.frozenAt k
      go_wp2
      go_roundw
      case rel =>
        refine ⟨k + 1, by omega, by go_num, ?_, ?_⟩
        · have h := (hown.stored k (.int .u8 (n / 2 ^ (8 * (m - 1 - k)) % 256))).1
          rwa [WP.cellsAt_succ] at h
        · exact hb.setCell (Nat.le_refl _) _
      case measure => simp [intOf]; omega
    · obtain rfl : k = m := by omega
      obtain ⟨v, rfl⟩ := Int.eq_ofNat_of_zero_le h0
      have hcv : (convert 86 9 (.slice (some ⟨w.heap.size, 0, none⟩) k k)).run Tryz.prog wr = .ok (.string ⟨(Lib.beBytes k v).toArray⟩) wr := by
        have h := run_convert_bytes_back (P := Tryz.prog) wr 86 9 5 ⟨w.heap.size, 0, none⟩ k (Lib.beBytes k v) Tryz.underlying86 Tryz.underlying5 Tryz.underlying9 (fun j hj => by
          have hj' : j < k := by simpa [Lib.beBytes_length] using hj
          have e := hown.cellAt j (by omega)
          rw [WP.cellsAt_full v k j hj] at e
          rwa [addr_at])
        rwa [Lib.beBytes_length] at h
      go_wp2
      go_ret
      exact ⟨by simp, hb⟩
end Go.Proofs.YtpeghilfldpgfaaGreatDoor.L9
namespace Go.Proofs.YtpeghilfldpgfaaGreatDoor.L9
open Go.RowKit
set_option maxHeartbeats 400000 in
theorem put_any (n : Int) (w : World) (h0 : 0 ≤ n) (h1 : n ≤ 18446744073709551615) :
    Calls Tryz.prog 174 #[.int .u64 n] w fun e w' => e = .returned (.string ⟨(WP.put n.toNat).toArray⟩) ∧ Below w.heap.size w w' := by
  rcases (show n ≤ 240 ∨ (240 < n ∧ n ≤ 2287) ∨ (2287 < n ∧ n ≤ 67823) ∨ 67823 < n by omega) with h | h | h | h
  · have Hp := Lib.hid (WP.put_1 n.toNat (by omega))
    go_enter Tryz.func174, Tryz.ntmps174
    go_wp2_with fail
    refine (highFirst_any _ _ _ (by omega) (by omega) (by omega) (by omega)).mono ?_
    rintro e w' ⟨rfl, hb⟩
    go_wp2_with fail
    go_ret
    exact ⟨by rw [Hp.out]; rfl, hb⟩
  · have Hp := Lib.hid (WP.put_2 n.toNat (by omega) (by omega))
    go_enter Tryz.func174, Tryz.ntmps174
    go_wp2_with fail
    refine (highFirst_any _ _ _ (by omega) (by omega) (by omega) (by omega)).mono ?_
    rintro e w' ⟨rfl, hb⟩
    go_wp2_with fail
    go_ret
    refine ⟨?_, hb⟩
    rw [Hp.out, show 61696 + (n.toNat - 240) = (61696 + (n - 240)).toNat by omega]
    rfl
  · have Hp := Lib.hid (WP.put_3 n.toNat (by omega) (by omega))
    go_enter Tryz.func174, Tryz.ntmps174
    go_wp2_with fail
    refine (highFirst_any _ _ _ (by omega) (by omega) (by omega) (by omega)).mono ?_
    rintro e w' ⟨rfl, hb⟩
    go_wp2_with fail
    go_ret
    refine ⟨?_, hb⟩
    rw [Hp.out, show 16318464 + (n.toNat - 2288) = (16318464 + (n - 2287 - 1)).toNat by omega]
    rfl
  · have Hp := Lib.hid (WP.put_4 n.toNat (by omega))
    have hb8 := WP.bl_le8 n.toNat
    have hb3 := WP.bl_ge3 n.toNat (by omega)
    go_enter Tryz.func174, Tryz.ntmps174
    go_wp2_with fail
    refine (byteLen_any _ _ (by omega) (by omega)).mono ?_
    rintro e w' ⟨rfl, rfl⟩
    go_wp2_with fail
    refine (highFirst_any _ _ _ (by omega) (by omega) (by omega) (by omega)).mono ?_
    rintro e w1 ⟨rfl, hb⟩
    go_wp2_with fail
    refine (highFirst_any _ _ _ (by omega) (by omega) (by omega) (by omega)).mono ?_
    rintro e w2 ⟨rfl, hb2⟩
    have hl : ¬ 9223372036854775807 < (Lib.beBytes 1 (247 + WP.bl n.toNat)).length + (Lib.beBytes (WP.bl n.toNat) n.toNat).length := by rw [Lib.beBytes_length, Lib.beBytes_length]; omega
    go_wp2_with fail
    go_ret
    refine ⟨?_, hb.trans (hb2.mono hb.size)⟩
    rw [Hp.out, ← WP.bytes_add]
    rfl
set_option maxHeartbeats 400000 in
theorem told_any (b : Int) (s : ByteArray) (w : World) (h0 : 0 ≤ b) (h1 : b ≤ 255) (hs : (s.size : Int) = WP.flw b) :
    Calls Tryz.prog 190 #[.int .u8 b, .string s] w fun e w' => e = .returned (.int .u64 (WP.told b.toNat s.data.toList)) ∧ w = w' := by
  have HS := Lib.hid hs
  clear hs
  have hs : s.size ≤ 8 := by have := HS.out; unfold WP.flw at this; split at this; omega; split at this <;> omega
  go_enter Tryz.func190, Tryz.ntmps190
  go_wp2
  go_loop [5, 9] (fun n i => ∃ k : Nat, k ≤ s.size ∧ i = .int .i64 k ∧ n = .int .u64 (Lib.beNat (s.data.toList.take k) : Nat)) (fun _ i => s.size - (intOf i).toNat)
  case atStart => exact ⟨0, Nat.zero_le _, rfl, rfl⟩
  case round =>
    obtain ⟨k, hk, rfl, rfl⟩ := hrel
    have hlt0 := WP.beNat_lt (s.data.toList.take k)
    have hl : (s.data.toList.take k).length = k := by simp; omega
    rw [hl] at hlt0
    by_cases hlt : k < s.size
    · have hp := WP.pow256 k (by omega)
      have HB := Lib.hid (WP.beNat_snoc (s.data.toList.take k) s[k])
      rw [← WP.take_snoc s k hlt] at HB
      have HO := Lib.hid (WP.or_hi (Lib.beNat (s.data.toList.take k) : Nat) s[k].toNat (by omega) (by omega) (by omega) (by have := s[k].toNat_lt; omega))
      have hby := s[k].toNat_lt
      clear hl
      generalize Lib.beNat (s.data.toList.take k) = v at *
      go_wp2
      go_round
      case rel =>
        refine ⟨k + 1, by omega, by go_num, ?_⟩
        rw [HB.out, HO.out]
        go_num
      case measure => simp [intOf]; omega
    · obtain rfl : k = s.size := by omega
      have ht : s.data.toList.take s.size = s.data.toList := List.take_of_length_le (by simp)
      rw [ht] at hlt0 ⊢
      have HV : Hid (∃ u, u = Lib.beNat s.data.toList) := Lib.hid ⟨_, rfl⟩
      have hf := HS.out
      clear ht hl
      unfold WP.flw at hf
      rcases (show b < 241 ∨ (241 ≤ b ∧ b < 249) ∨ b = 249 ∨ 249 < b by omega) with h | h | h | h
      · have H := Lib.hid (WP.told_1 b.toNat s.data.toList (by omega))
        clear hf
        generalize Lib.beNat s.data.toList = v at *
        go_wp2
        go_ret
        exact ⟨ret_int (by rw [H.out]; omega), rfl⟩
      · have H := Lib.hid (WP.told_2 b.toNat s.data.toList (by omega) (by omega))
        rw [if_neg (by omega), if_pos (by omega)] at hf
        obtain hf : s.size = 1 := by omega
        rw [hf] at hlt0
        clear hf
        generalize Lib.beNat s.data.toList = v at *
        go_wp2
        go_ret
        exact ⟨ret_int (by rw [H.out]; omega), rfl⟩
      · have H := Lib.hid (WP.told_3 b.toNat s.data.toList (by omega))
        rw [if_neg (by omega), if_neg (by omega)] at hf
        obtain hf : s.size = 2 := by omega
        rw [hf] at hlt0
        clear hf
        generalize Lib.beNat s.data.toList = v at *
        have hne : (b == 249) = true := beq_iff_eq.2 h
        have hge : 249 ≤ b := by omega
        clear h
        go_wp2
        go_ret
        exact ⟨ret_int (by rw [H.out]; omega), rfl⟩
      · have H := Lib.hid (WP.told_4 b.toNat s.data.toList (by omega))
        clear hf
        have hne : (b == 249) = false := beq_eq_false_iff_ne.2 (by omega)
        generalize Lib.beNat s.data.toList = v at *
        go_wp2
        go_ret
        exact ⟨ret_int (by rw [H.out]), rfl⟩
end Go.Proofs.YtpeghilfldpgfaaGreatDoor.L9
namespace Go.Proofs.YtpeghilfldpgfaaGreatDoor.L9
open Go.RowKit
theorem quiet_of_eq {P : Program} {f : FuncId} {args : Array Value} {w : World} {n : Nat} {v : Value}
    (h : Calls P f args (w.drewN n) fun e w' => e = .returned v ∧ w.drewN n = w') : Calls P f args (w.drewN n) fun e w'' => e = .returned v ∧ ∃ m, w'' = w.drewN m :=
  h.mono fun _ _ ⟨he, hm⟩ => ⟨he, n, hm.symm⟩
theorem below_of_drewN {w w2 : World} {n : Nat} (h : Below (w.drewN n).heap.size (w.drewN n) w2) : Below w.heap.size w w2 := ⟨h.os, h.tape, h.output, h.size, h.block⟩
set_option maxHeartbeats 400000 in
theorem get_end (s : ByteArray) (i : Int) (w : World) (h1 : i = s.size) :
    Calls Tryz.prog 148 #[.string s, .int .i64 i] w fun e w' => e = .returned (.tuple #[.int .u64 0, .int .i64 0, .int .i64 7]) ∧ w = w' := by
  subst h1
  go_enter Tryz.func148, Tryz.ntmps148
  go_wp2_with fail
  go_ret3
  exact ⟨rfl, rfl⟩
set_option maxHeartbeats 400000 in
theorem get_short (s : ByteArray) (i : Nat) (w : World) (h1 : i < s.size) (h3 : (s.size : Int) - i ≤ WP.flw s[i].toNat) (h2 : s.size ≤ maxLen) :
    Calls Tryz.prog 148 #[.string s, .int .i64 i] w fun e w' => e = .returned (.tuple #[.int .u64 0, .int .i64 0, .int .i64 7]) ∧ w = w' := by
  unfold maxLen at h2
  have hne : ((i : Int) == s.size) = false := beq_eq_false_iff_ne.2 (by omega)
  have hby := s[i].toNat_lt
  go_enter Tryz.func148, Tryz.ntmps148
  go_wp2_with fail
  refine (follow_any _ _ (by omega) (by omega)).mono ?_
  rintro e w' ⟨rfl, rfl⟩
  go_wp2_with fail
  go_ret3
  exact ⟨rfl, rfl⟩
set_option maxHeartbeats 1000000 in
theorem get_go (s : ByteArray) (i : Nat) (w : World) (h1 : i < s.size) (f v : Nat) (hf : (f : Int) = WP.flw s[i].toNat) (h3 : i + f < s.size) (h2 : s.size ≤ maxLen)
    (hv : v = WP.told s[i].toNat (s.extract (i + 1) (i + 1 + f)).data.toList) (hvb : v ≤ 18446744073709551615) (q : Bool) (hq : (WP.put v == (s.extract i (i + 1 + f)).toList) = q) :
    Calls Tryz.prog 148 #[.string s, .int .i64 i] w fun e w' => e = .returned (bif q then .tuple #[.int .u64 v, .int .i64 (i + 1 + f : Nat), .int .i64 0] else .tuple #[.int .u64 0, .int .i64 0, .int .i64 3]) ∧ Below w.heap.size w w' := by
  unfold maxLen at h2
  have hne : ((i : Int) == s.size) = false := beq_eq_false_iff_ne.2 (by omega)
  have hby := s[i].toNat_lt
  have HF := Lib.hid hf
  have HT : Hid (∀ W, Calls Tryz.prog 190 #[.int .u8 s[i].toNat, .string (s.extract (i + 1) (i + 1 + f))] W fun e w' => e = .returned (.int .u64 v) ∧ W = w') :=
    Lib.hid (fun W => by
      have h := told_any (s[i].toNat : Int) (s.extract (i + 1) (i + 1 + f)) W (by omega) (by omega) (by rw [← hf]; simp; omega)
      rw [Int.toNat_natCast, ← hv] at h
      exact h)
  have HP : Hid (∀ W, Calls Tryz.prog 174 #[.int .u64 v] W fun e w' => e = .returned (.string ⟨(WP.put v).toArray⟩) ∧ Below W.heap.size W w') :=
    Lib.hid (fun W => by
      have h := put_any (v : Int) W (by omega) (by omega)
      rwa [Int.toNat_natCast] at h)
  clear hf hv
  have hlt : i + 1 + f ≤ s.size := by omega
  generalize WP.put v = pv at *
  cases q
  all_goals
    go_enter Tryz.func148, Tryz.ntmps148
    go_wp2_with fail
    refine (follow_any _ _ (by omega) (by omega)).mono ?_
    rintro e w' ⟨rfl, rfl⟩
    rw [← HF.out]
    go_wp2_with fail
    refine (follow_any _ _ (by omega) (by omega)).mono ?_
    rintro e w' ⟨rfl, rfl⟩
    rw [← HF.out]
    go_wp2_with fail
    have q1 : IntKind.i64.wrap ((i : Int) + 1) = (i : Int) + 1 := IntWalk.i64_in _ (by omega)
    have q2 : (0 : Int) ≤ (i : Int) + 1 := by omega
    have q3 : ((i : Int) + 1).toNat = i + 1 := by omega
    have q4 : ((i : Int) + 1 + f).toNat = i + 1 + f := by omega
    have q5 : (0 : Int) ≤ (i : Int) + 1 + f := by omega
    have q6 : (i : Int) + 1 + f ≤ s.size := by omega
    have q7 : (i : Int) + 1 ≤ (i : Int) + 1 + f := by omega
    go_quiet ((go_at_call 190; exact quiet_of_eq (HT.out _)))
    go_wp2_with fail
    go_region_with (go_at_call 174; refine (HP.out _).mono ?_; rintro e w2 ⟨rfl, hb2⟩)
    all_goals clear q1 q2 q3 q4 q5 q6 q7
    all_goals go_wp2_with fail
    all_goals go_ret3
    all_goals refine ⟨?_, ?_⟩
  all_goals first
    | exact rfl
    | exact below_of_drewN hb2
theorem get_any (s : ByteArray) (i : Int) (w : World) (h0 : 0 ≤ i) (h1 : i ≤ s.size) (h2 : s.size ≤ maxLen) :
    Calls Tryz.prog 148 #[.string s, .int .i64 i] w fun e w' => e = .returned (.tuple #[.int .u64 (WP.get s.data.toList i.toNat).1, .int .i64 (WP.get s.data.toList i.toNat).2.1, .int .i64 (WP.get s.data.toList i.toNat).2.2]) ∧ Below w.heap.size w w' := by
  obtain ⟨a, rfl⟩ := Int.eq_ofNat_of_zero_le h0
  rw [Int.toNat_natCast]
  by_cases he : a < s.size
  · have hn := WP.flw_nn s[a].toNat
    by_cases hs : (s.size : Int) - a ≤ WP.flw s[a].toNat
    · rw [WP.get_short s a he hs]
      exact (get_short s a w he hs h2).mono fun e w' ⟨h, h'⟩ => ⟨h, h' ▸ Below.refl _ _⟩
    · obtain ⟨f, hf⟩ := Int.eq_ofNat_of_zero_le hn
      have hl : (((s.extract (a + 1) (a + 1 + f)).data.toList.length : Nat) : Int) = WP.flw s[a].toNat := by rw [Lib.extract_data]; simp; omega
      have hvb := WP.told_le s[a].toNat _ (by have := s[a].toNat_lt; omega) hl
      rw [WP.get_rest s a f he hf.symm (by omega)]
      have H := get_go s a w he f _ hf.symm (by omega) h2 rfl hvb _ rfl
      by_cases hq : WP.put (WP.told s[a].toNat (s.extract (a + 1) (a + 1 + f)).data.toList) = (s.extract a (a + 1 + f)).toList
      · rw [if_pos hq]
        rw [beq_iff_eq.2 hq] at H
        exact H
      · rw [if_neg hq]
        rw [beq_eq_false_iff_ne.2 hq] at H
        exact H
  · rw [WP.get_end _ a (by simp; omega)]
    exact (get_end s a w (by omega)).mono fun e w' ⟨h, h'⟩ => ⟨h, h' ▸ Below.refl _ _⟩
end Go.Proofs.YtpeghilfldpgfaaGreatDoor.L9
namespace Go.Proofs.YtpeghilfldpgfaaGreatDoor.L9
open Go.RowKit
set_option maxHeartbeats 400000 in
theorem four_any (n : Int) (w : World) (h0 : 0 ≤ n) (h1 : n ≤ 4294967295) :
    Calls Tryz.prog 61 #[.int .u32 n] w fun e w' => e = .returned (.string ⟨(Lib.leBytes 4 n.toNat).toArray⟩) ∧ Below w.heap.size w w' := by
  go_enter Tryz.func61, Tryz.ntmps61
  go_wp2
  go_loopw [5] (fun i wr => ∃ k : Nat, k ≤ 4 ∧ i = .int .i64 k ∧ Hid (wr.heap[w.heap.size]? = some (.cells (WP.fourAt n k) 85 (0, 0))) ∧ Below w.heap.size w wr) (fun i _ => 4 - (intOf i).toNat)
  case atStart =>
    exact ⟨0, Nat.zero_le _, rfl, Lib.hid (heap_alloc_new _ _), (Below.refl _ w).alloc (Nat.le_refl _) _⟩
  case round =>
    obtain ⟨k, hk, rfl, hh, hb⟩ := hrel
    by_cases hlt : k < 4
    · have hcell : wr.cell? ⟨w.heap.size, k, none⟩ = some (.int .u8 0) := by
        rw [cell_of_row _ _ k _ _ _ hh.out]
        exact WP.fourAt_get n k k (Nat.le_refl _) hlt
      have hfr := frozen_of_row _ _ k _ _ hh.out
      go_wp2
      go_roundw
      case rel =>
        refine ⟨k + 1, by omega, by go_num, ?_, ?_⟩
        · have h := heap_setCell_same wr _ k _ _ (.int .u8 (n / 2 ^ (8 * k) % 256)) hh.out
          rw [WP.fourAt_succ] at h
          exact Lib.hid h
        · exact hb.setCell (Nat.le_refl _) _
      case measure => simp [intOf]; omega
    · obtain rfl : k = 4 := by omega
      obtain ⟨v, rfl⟩ := Int.eq_ofNat_of_zero_le h0
      have hcv : ∀ c, (convert 86 9 (.slice (some ⟨w.heap.size, 0, none⟩) 4 c)).run Tryz.prog wr = .ok (.string ⟨(Lib.leBytes 4 v).toArray⟩) wr := fun c =>
        run_convert_bytes_back (P := Tryz.prog) wr 86 9 5 ⟨w.heap.size, 0, none⟩ c (Lib.leBytes 4 v) Tryz.underlying86 Tryz.underlying5 Tryz.underlying9 (fun j hj => by
          have e := cell_of_row _ _ j _ _ _ hh.out
          rw [WP.fourAt_full v j hj] at e
          rwa [addr_at])
      go_wp2
      go_ret
      exact ⟨by simp, hb⟩
set_option maxHeartbeats 400000 in
theorem read_any (s : ByteArray) (i : Int) (w : World) (h0 : 0 ≤ i) (h1 : i + 4 ≤ s.size) (h2 : s.size ≤ maxLen) :
    Calls Tryz.prog 99 #[.string s, .int .i64 i] w fun e w' => e = .returned (.tuple #[.int .u32 (Lib.leNat ((s.data.toList.drop i.toNat).take 4)), .int .i64 0]) ∧ w = w' := by
  obtain ⟨a, rfl⟩ := Int.eq_ofNat_of_zero_le h0
  unfold maxLen at h2
  have d1 : decide ((a : Int) < 0) = false := decide_eq_false (by omega)
  have d2 : decide (s.size < a) = false := decide_eq_false (by omega)
  have d3 : decide ((s.size : Int) - a < 4) = false := decide_eq_false (by omega)
  go_enter Tryz.func99, Tryz.ntmps99
  go_wp2
  go_loop [6, 21] (fun n i => ∃ k : Nat, k ≤ 4 ∧ i = .int .i64 k ∧ n = .int .u32 (Lib.leNat ((s.data.toList.drop a).take k) : Nat)) (fun _ i => 4 - (intOf i).toNat)
  case atStart => exact ⟨0, Nat.zero_le _, rfl, rfl⟩
  case round =>
    obtain ⟨k, hk, rfl, rfl⟩ := hrel
    by_cases hlt : k < 4
    · have HO := Lib.hid (WP.rd_step s a k (by omega) hlt)
      go_wp2
      go_round
      case rel =>
        refine ⟨k + 1, by omega, by go_num, ?_⟩
        rw [← HO.out]
      case measure => simp [intOf]; omega
    · obtain rfl : k = 4 := by omega
      go_wp2
      go_ret2
      exact ⟨rfl, rfl⟩
set_option maxHeartbeats 400000 in
theorem read_short (s : ByteArray) (i : Int) (w : World) (h0 : 0 ≤ i) (h1 : i ≤ s.size) (h3 : (s.size : Int) < i + 4) :
    Calls Tryz.prog 99 #[.string s, .int .i64 i] w fun e w' => e = .returned (.tuple #[.int .u32 0, .int .i64 7]) ∧ w = w' := by
  go_enter Tryz.func99, Tryz.ntmps99
  go_wp2
  go_ret2
  exact ⟨rfl, rfl⟩
end Go.Proofs.YtpeghilfldpgfaaGreatDoor.L9
namespace Go.Proofs.YtpeghilfldpgfaaGreatDoor.L9
open Go.RowKit
set_option linter.unusedVariables false
theorem below_alloc (w : World) (o : Obj) : Below w.heap.size w (w.alloc o) := (Below.refl _ w).alloc (Nat.le_refl _) o
theorem below_of_drew {w w2 : World} (h : Below w.drew.heap.size w.drew w2) : Below w.heap.size w w2 := ⟨h.os, h.tape, h.output, h.size, h.block⟩
theorem cut_min (s : ByteArray) (c : Int) (hc : 0 ≤ c) : ∃ m : Nat, min (s.size : Int) c = m ∧ (m : Int) ≤ c ∧ m ≤ s.size ∧ min m s.size = m ∧ (s.extract 0 m).size = m := by
  refine ⟨min s.size c.toNat, by omega, by omega, by omega, by omega, ?_⟩
  simp
end Go.Proofs.YtpeghilfldpgfaaGreatDoor.L9
namespace Go.Proofs.YtpeghilfldpgfaaGreatDoor.L9
open Go.RowKit
set_option linter.unusedVariables false
abbrev vv (O : Bool) (S : ByteArray) (L P : Int) : Value := .agg #[.bool O, .string S, .int .i64 L, .int .i64 P]
abbrev pv (O : Bool) (S : ByteArray) (L P : Int) : VP.V := ⟨O, S.data.toList, L, P⟩
def Bx (t : TypeId) (g : Nat) (O : Bool) (S : ByteArray) (L P : Int) (w : World) : Prop := w.heap[g]? = some (.cells #[.bool O, .string S, .int .i64 L, .int .i64 P] t (0, 0))
section
variable {t : TypeId} {g : Nat} {O : Bool} {S : ByteArray} {L P : Int} {w w' : World}
theorem Bx.cells (k : Bx t g O S L P w) : w.cell? ⟨g, 0, none⟩ = some (.bool O) ∧ w.cell? ⟨g, 1, none⟩ = some (.string S) ∧ w.cell? ⟨g, 2, none⟩ = some (.int .i64 L) ∧ w.cell? ⟨g, 3, none⟩ = some (.int .i64 P) := by
  unfold Bx at k
  refine ⟨?_, ?_, ?_, ?_⟩ <;> simp [World.cell?, k]
theorem Bx.free (k : Bx t g O S L P w) : w.frozen? ⟨g, 0, none⟩ = false ∧ w.frozen? ⟨g, 1, none⟩ = false ∧ w.frozen? ⟨g, 2, none⟩ = false ∧ w.frozen? ⟨g, 3, none⟩ = false := by
  unfold Bx at k
  refine ⟨?_, ?_, ?_, ?_⟩ <;> simp [World.frozen?, k]
theorem Bx.lt (k : Bx t g O S L P w) : g < w.heap.size := (Array.getElem?_eq_some_iff.1 k).1
theorem Bx.below (k : Bx t g O S L P w) (b : Below w.heap.size w w') : Bx t g O S L P w' := (b.block g k.lt).trans k
def HasBx (t : TypeId) (g : Nat) (O : Bool) (S : ByteArray) (L P : Int) (w : World) : Prop := Hid (Bx t g O S L P w) ∧ w.cell? ⟨g, 0, none⟩ = some (.bool O) ∧ w.cell? ⟨g, 1, none⟩ = some (.string S) ∧ w.cell? ⟨g, 2, none⟩ = some (.int .i64 L) ∧ w.cell? ⟨g, 3, none⟩ = some (.int .i64 P)
theorem hasBx (k : Bx t g O S L P w) : HasBx t g O S L P w := ⟨Lib.hid k, k.cells⟩
theorem HasBx.below (k : HasBx t g O S L P w) (b : Below w.heap.size w w') : HasBx t g O S L P w' := hasBx (k.1.out.below b)
end
theorem Bx.new (t : TypeId) (O : Bool) (S : ByteArray) (L P : Int) (w : World) : Bx t w.heap.size O S L P (w.alloc (.cells #[.bool O, .string S, .int .i64 L, .int .i64 P] t)) := heap_alloc_new _ _
def set4 (w : World) (g : Nat) (O : Bool) (S : ByteArray) (L P : Int) : World := (((w.setCell ⟨g, 0, none⟩ (.bool O)).setCell ⟨g, 1, none⟩ (.string S)).setCell ⟨g, 2, none⟩ (.int .i64 L)).setCell ⟨g, 3, none⟩ (.int .i64 P)
theorem set4_box {t : TypeId} {w : World} {g : Nat} {O : Bool} {S : ByteArray} {L P : Int} (k : Bx t g O S L P w) (O' : Bool) (S' : ByteArray) (L' P' : Int) : Bx t g O' S' L' P' (set4 w g O' S' L' P') := by
  unfold Bx at *
  unfold set4
  have h0 := heap_setCell_same w g 0 _ _ (.bool O') k
  have h1 := heap_setCell_same _ g 1 _ _ (.string S') h0
  have h2 := heap_setCell_same _ g 2 _ _ (.int .i64 L') h1
  have h3 := heap_setCell_same _ g 3 _ _ (.int .i64 P') h2
  exact h3
theorem set4_below {w W : World} {c g : Nat} (h : Below c w W) (hg : c ≤ g) (O : Bool) (S : ByteArray) (L P : Int) : Below c w (set4 W g O S L P) :=
  (((h.setCell (p := ⟨g, 0, none⟩) hg _).setCell (p := ⟨g, 1, none⟩) hg _).setCell (p := ⟨g, 2, none⟩) hg _).setCell (p := ⟨g, 3, none⟩) hg _
end Go.Proofs.YtpeghilfldpgfaaGreatDoor.L9
namespace Go.Proofs.YtpeghilfldpgfaaGreatDoor.L10
open Go.RowKit NP
set_option linter.unusedVariables false
def five (x : It) : List Value := [.string x.k, .bool x.o, .string x.s, .int .i64 x.l, .int .i64 x.p]
def fives (l : List It) : List Value := l.flatMap five
theorem fives_append (l m : List It) : fives (l ++ m) = fives l ++ fives m := by simp [fives]
theorem fives_one (c : It) : fives [c] = five c := by simp [fives]
theorem fives_length : ∀ (l : List It), (fives l).length = l.length * 5
  | [] => rfl
  | c :: l => by
    have := fives_length l
    simp only [fives, List.flatMap_cons, List.length_append, List.length_cons] at *
    rw [this]
    simp [five]
    omega
theorem fives_get : ∀ (l : List It) (i j : Nat) (c : It) (v : Value), l[i]? = some c → (five c)[j]? = some v → (fives l)[i * 5 + j]? = some v
  | [], i, j, c, v, h, _ => by simp at h
  | d :: l, 0, j, c, v, h, hv => by
    simp at h
    subst h
    have hj : j < (five d).length := (List.getElem?_eq_some_iff.1 hv).1
    rw [fives, List.flatMap_cons, List.getElem?_append_left (by simpa using hj)]
    simpa using hv
  | d :: l, i + 1, j, c, v, h, hv => by
    have := fives_get l i j c v (by simpa using h) hv
    rw [fives, List.flatMap_cons, List.getElem?_append_right (by simp [five]; omega)]
    rw [show (i + 1) * 5 + j - (five d).length = i * 5 + j by simp [five]; omega]
    exact this
theorem five_one (K : ByteArray) (O : Bool) (S : ByteArray) (L P : Int) : ∀ u ∈ [Value.string K, .bool O, .string S, .int .i64 L, .int .i64 P], u.oneCell' = true := by simp [Value.oneCell']
def Lies5 (w : World) (B : Nat) (A : Option Addr) (l : List It) : Prop :=
  ∀ i c, l[i]? = some c → ∃ a, A = some a ∧ a.block < B ∧ ∀ j v, (five c)[j]? = some v → w.cell? ((a.add (i * 5)).add j) = some v
section
variable {w w' : World} {B B' : Nat} {A : Option Addr} {l : List It}
theorem Lies5.nil (w : World) (B : Nat) (A : Option Addr) : Lies5 w B A [] := fun i c h => by simp at h
theorem Lies5.keep (h : Lies5 w B A l) (hk : ∀ p : Addr, p.block < B → w'.cell? p = w.cell? p) : Lies5 w' B A l := fun i c hc => by
  obtain ⟨a, e, hb, hx⟩ := h i c hc
  exact ⟨a, e, hb, fun j v hv => (hk _ (by rw [L5.addr_block, L5.addr_block]; exact hb)).trans (hx j v hv)⟩
theorem Lies5.more (h : Lies5 w B A l) (hB : B ≤ B') : Lies5 w B' A l := fun i c hc => by
  obtain ⟨a, e, hb, hx⟩ := h i c hc
  exact ⟨a, e, by omega, hx⟩
theorem Lies5.below (h : Lies5 w B A l) (b : Below B w w') : Lies5 w' B A l := h.keep fun _ hp => b.cell hp
theorem Lies5.below' {C : Nat} (h : Lies5 w B A l) (b : Below C w w') (hC : B ≤ C) : Lies5 w' B A l := h.keep fun _ hp => b.cell (by omega)
theorem Lies5.on (h : Lies5 w w.heap.size A l) (b : Below w.heap.size w w') : Lies5 w' w'.heap.size A l := (h.below b).more b.size
def At5 (w : World) (a : Addr) (K : ByteArray) (O : Bool) (S : ByteArray) (L P : Int) : Prop :=
  w.cell? a = some (.string K) ∧ w.cell? ⟨a.block, a.off + 1, none⟩ = some (.bool O) ∧ w.cell? ⟨a.block, a.off + 2, none⟩ = some (.string S) ∧ w.cell? ⟨a.block, a.off + 3, none⟩ = some (.int .i64 L) ∧ w.cell? ⟨a.block, a.off + 4, none⟩ = some (.int .i64 P)
theorem Lies5.load (h : Lies5 w B A l) {i : Nat} {K : ByteArray} {O : Bool} {S : ByteArray} {L P : Int} (hc : l[i]? = some ⟨K, O, S, L, P⟩) : ∃ a, A = some a ∧ a.block < B ∧ At5 w (a.add (i * 5)) K O S L P := by
  obtain ⟨a, e, hb, hx⟩ := h i _ hc
  exact ⟨a, e, hb, hx 0 _ rfl, hx 1 _ rfl, hx 2 _ rfl, hx 3 _ rfl, hx 4 _ rfl⟩
end
theorem lies5_own {w : World} {base e : Nat} {A : Option Addr} {n cap : Nat} {l : List It} (h : w.ownsRow base e 5 (.slice A n cap) n (fives l)) (hn : n = l.length) : Lies5 w w.heap.size A l := fun i c hc => by
  have hi : i < l.length := (List.getElem?_eq_some_iff.1 hc).1
  obtain ⟨g, cap', hv, _, hlt⟩ := h.form (by omega)
  have hA : A = some ⟨g, 0, none⟩ := by injection hv
  subst hA
  refine ⟨_, rfl, hlt, fun j v hv => ?_⟩
  rw [L5.addr_add]
  exact h.cells (g := g) rfl _ _ (fives_get l i j c v hc hv)
theorem own5_below {base e n : Nat} {v : Value} {xs : List Value} {w w' : World} (h : w.ownsRow base e 5 v n xs) (k : Below w.heap.size w w') : w'.ownsRow base e 5 v n xs := by
  refine h.kept (row := none) ⟨k.os, k.tape, k.output, k.size, fun i hi _ => k.block i hi⟩ ?_
  cases hv : v.ownBlock with
  | none => exact .inl rfl
  | some x => exact .inr (by simp)
theorem own5_nil (w : World) (base e : Nat) : w.ownsRow base e 5 (.slice none 0 0) 0 [] := ⟨by simp, .inl ⟨rfl, rfl⟩⟩
theorem own5_apart {w w' : World} {base e n q : Nat} {v : Value} {xs : List Value} (h : w.ownsRow base e 5 v n xs) (hg : w.grownBy w' v.ownBlock) (hb : q ≤ base) (hq : q ≤ w.heap.size) : Below q w w' :=
  (Below.refl q w).grown hg hq (fun k hk => by
    rcases h.2 with ⟨rfl, _⟩ | ⟨g, cap, cur, rfl, hg', _⟩
    · simp [Value.ownBlock] at hk
    · simp [Value.ownBlock] at hk; omega)
abbrev lv (F R : Int) (H : ByteArray) (A : Option Addr) (n cap : Nat) : Value := .agg #[.int .i64 F, .int .i64 R, .string H, .slice A n cap]
def LBx (t : TypeId) (g : Nat) (F R : Int) (H : ByteArray) (A : Option Addr) (n cap : Nat) (w : World) : Prop := w.heap[g]? = some (.cells #[.int .i64 F, .int .i64 R, .string H, .slice A n cap] t (0, 0))
section
variable {t : TypeId} {g : Nat} {F R : Int} {H : ByteArray} {A : Option Addr} {n cap : Nat} {w w' : World}
theorem LBx.cells (k : LBx t g F R H A n cap w) : w.cell? ⟨g, 0, none⟩ = some (.int .i64 F) ∧ w.cell? ⟨g, 1, none⟩ = some (.int .i64 R) ∧ w.cell? ⟨g, 2, none⟩ = some (.string H) ∧ w.cell? ⟨g, 3, none⟩ = some (.slice A n cap) := by
  unfold LBx at k
  refine ⟨?_, ?_, ?_, ?_⟩ <;> simp [World.cell?, k]
theorem LBx.free (k : LBx t g F R H A n cap w) : w.frozen? ⟨g, 0, none⟩ = false ∧ w.frozen? ⟨g, 1, none⟩ = false ∧ w.frozen? ⟨g, 2, none⟩ = false ∧ w.frozen? ⟨g, 3, none⟩ = false := by
  unfold LBx at k
  refine ⟨?_, ?_, ?_, ?_⟩ <;> simp [World.frozen?, k]
theorem LBx.lt (k : LBx t g F R H A n cap w) : g < w.heap.size := (Array.getElem?_eq_some_iff.1 k).1
theorem LBx.below (k : LBx t g F R H A n cap w) (b : Below w.heap.size w w') : LBx t g F R H A n cap w' := (b.block g k.lt).trans k
theorem LBx.on {c : Nat} (k : LBx t g F R H A n cap w) (b : Below c w w') (hg : g < c) : LBx t g F R H A n cap w' := (b.block g hg).trans k
end
theorem LBx.new (t : TypeId) (F R : Int) (H : ByteArray) (A : Option Addr) (n cap : Nat) (w : World) : LBx t w.heap.size F R H A n cap (w.alloc (.cells #[.int .i64 F, .int .i64 R, .string H, .slice A n cap] t)) := heap_alloc_new _ _
end Go.Proofs.YtpeghilfldpgfaaGreatDoor.L10
namespace Go.Proofs.YtpeghilfldpgfaaGreatDoor.L10
open Go.RowKit NP
set_option linter.unusedVariables false
abbrev iv (K : ByteArray) (O : Bool) (S : ByteArray) (L P : Int) : Value := .agg #[.string K, .bool O, .string S, .int .i64 L, .int .i64 P]
def IBx (t : TypeId) (g : Nat) (K : ByteArray) (O : Bool) (S : ByteArray) (L P : Int) (w : World) : Prop := w.heap[g]? = some (.cells #[.string K, .bool O, .string S, .int .i64 L, .int .i64 P] t (0, 0))
section
variable {t : TypeId} {g : Nat} {K : ByteArray} {O : Bool} {S : ByteArray} {L P : Int} {w w' : World}
theorem IBx.cells (k : IBx t g K O S L P w) : w.cell? ⟨g, 0, none⟩ = some (.string K) ∧ w.cell? ⟨g, 1, none⟩ = some (.bool O) ∧ w.cell? ⟨g, 2, none⟩ = some (.string S) ∧ w.cell? ⟨g, 3, none⟩ = some (.int .i64 L) ∧ w.cell? ⟨g, 4, none⟩ = some (.int .i64 P) := by
  unfold IBx at k
  refine ⟨?_, ?_, ?_, ?_, ?_⟩ <;> simp [World.cell?, k]
theorem IBx.free (k : IBx t g K O S L P w) : w.frozen? ⟨g, 0, none⟩ = false ∧ w.frozen? ⟨g, 1, none⟩ = false ∧ w.frozen? ⟨g, 2, none⟩ = false ∧ w.frozen? ⟨g, 3, none⟩ = false ∧ w.frozen? ⟨g, 4, none⟩ = false := by
  unfold IBx at k
  refine ⟨?_, ?_, ?_, ?_, ?_⟩ <;> simp [World.frozen?, k]
theorem IBx.lt (k : IBx t g K O S L P w) : g < w.heap.size := (Array.getElem?_eq_some_iff.1 k).1
theorem IBx.below (k : IBx t g K O S L P w) (b : Below w.heap.size w w') : IBx t g K O S L P w' := (b.block g k.lt).trans k
end
theorem IBx.new (t : TypeId) (K : ByteArray) (O : Bool) (S : ByteArray) (L P : Int) (w : World) : IBx t w.heap.size K O S L P (w.alloc (.cells #[.string K, .bool O, .string S, .int .i64 L, .int .i64 P] t)) := heap_alloc_new _ _
def setI (w : World) (g : Nat) (K : ByteArray) (O : Bool) (S : ByteArray) (L P : Int) : World := ((((w.setCell ⟨g, 0, none⟩ (.string K)).setCell ⟨g, 1, none⟩ (.bool O)).setCell ⟨g, 2, none⟩ (.string S)).setCell ⟨g, 3, none⟩ (.int .i64 L)).setCell ⟨g, 4, none⟩ (.int .i64 P)
theorem setI_box {t : TypeId} {w : World} {g : Nat} {K : ByteArray} {O : Bool} {S : ByteArray} {L P : Int} (k : IBx t g K O S L P w) (K' : ByteArray) (O' : Bool) (S' : ByteArray) (L' P' : Int) : IBx t g K' O' S' L' P' (setI w g K' O' S' L' P') := by
  unfold IBx at *
  unfold setI
  have h0 := heap_setCell_same w g 0 _ _ (.string K') k
  have h1 := heap_setCell_same _ g 1 _ _ (.bool O') h0
  have h2 := heap_setCell_same _ g 2 _ _ (.string S') h1
  have h3 := heap_setCell_same _ g 3 _ _ (.int .i64 L') h2
  have h4 := heap_setCell_same _ g 4 _ _ (.int .i64 P') h3
  exact h4
theorem setI_below {w W : World} {c g : Nat} (h : Below c w W) (hg : c ≤ g) (K : ByteArray) (O : Bool) (S : ByteArray) (L P : Int) : Below c w (setI W g K O S L P) :=
  ((((h.setCell (p := ⟨g, 0, none⟩) hg _).setCell (p := ⟨g, 1, none⟩) hg _).setCell (p := ⟨g, 2, none⟩) hg _).setCell (p := ⟨g, 3, none⟩) hg _).setCell (p := ⟨g, 4, none⟩) hg _
abbrev lbox (t : TypeId) (F R : Int) (H : ByteArray) (A : Option Addr) (n cap : Nat) (w : World) : World := w.alloc (.cells #[.int .i64 F, .int .i64 R, .string H, .slice A n cap] t)
theorem lbox_size (t : TypeId) (F R : Int) (H : ByteArray) (A : Option Addr) (n cap : Nat) (w : World) : (lbox t F R H A n cap w).heap.size = w.heap.size + 1 := by simp [lbox]
theorem lbox_below (t : TypeId) (F R : Int) (H : ByteArray) (A : Option Addr) (n cap : Nat) (w : World) : Below w.heap.size w (lbox t F R H A n cap w) := L5.below_alloc _ _
theorem lbox_new (t : TypeId) (F R : Int) (H : ByteArray) (A : Option Addr) (n cap : Nat) (w : World) : LBx t w.heap.size F R H A n cap (lbox t F R H A n cap w) := heap_alloc_new _ _
end Go.Proofs.YtpeghilfldpgfaaGreatDoor.L10
namespace Go.Proofs.YtpeghilfldpgfaaGreatDoor.L11
open Go.RowKit IP
set_option linter.unusedVariables false
def numCells (l : List Int) : List Value := l.map fun k => .int .i64 k
theorem numCells_length (l : List Int) : (numCells l).length = l.length := by simp [numCells]
theorem numCells_snoc (l : List Int) (k : Int) : numCells (l ++ [k]) = numCells l ++ [.int .i64 k] := by simp [numCells]
theorem numCells_get (l : List Int) (i : Nat) (k : Int) (h : l[i]? = some k) : (numCells l)[i]? = some (.int .i64 k) := by simp [numCells, h]
theorem num_one (k : Int) : ∀ u ∈ [Value.int .i64 k], u.oneCell' = true := by simp [Value.oneCell']
def LiesN (w : World) (b : Nat) (A : Option Addr) (l : List Int) : Prop :=
  ∀ i k, l[i]? = some k → ∃ a, A = some a ∧ a.block < b ∧ w.cell? (a.add i) = some (.int .i64 k)
section
variable {w w' : World} {b b' : Nat} {A : Option Addr} {l : List Int}
theorem LiesN.nil (w : World) (b : Nat) (A : Option Addr) : LiesN w b A [] := fun i c h => by simp at h
theorem LiesN.keep (h : LiesN w b A l) (hk : ∀ p : Addr, p.block < b → w'.cell? p = w.cell? p) : LiesN w' b A l := fun i c hc => by
  obtain ⟨a, e, hb, hx⟩ := h i c hc
  exact ⟨a, e, hb, (hk _ (by rw [L5.addr_block]; exact hb)).trans hx⟩
theorem LiesN.more (h : LiesN w b A l) (hB : b ≤ b') : LiesN w b' A l := fun i c hc => by
  obtain ⟨a, e, hb, hx⟩ := h i c hc
  exact ⟨a, e, by omega, hx⟩
theorem LiesN.below (h : LiesN w b A l) (k : Below b w w') : LiesN w' b A l := h.keep fun _ hp => k.cell hp
theorem LiesN.below' {c : Nat} (h : LiesN w b A l) (k : Below c w w') (hc : b ≤ c) : LiesN w' b A l := h.keep fun _ hp => k.cell (by omega)
theorem LiesN.on (h : LiesN w w.heap.size A l) (k : Below w.heap.size w w') : LiesN w' w'.heap.size A l := (h.below k).more k.size
theorem LiesN.take (h : LiesN w b A l) (k : Nat) : LiesN w b A (l.take k) := fun i c hc => by
  refine h i c ?_
  rw [List.getElem?_take] at hc
  split at hc
  · exact hc
  · simp at hc
end
theorem liesN_own {w : World} {base e : Nat} {A : Option Addr} {n cap : Nat} {l : List Int} (h : w.ownsRow base e 1 (.slice A n cap) n (numCells l)) (hn : n = l.length) : LiesN w w.heap.size A l := fun i c hc => by
  have hi : i < l.length := (List.getElem?_eq_some_iff.1 hc).1
  obtain ⟨g, cap', hv, _, hlt⟩ := h.form (by omega)
  have hA : A = some ⟨g, 0, none⟩ := by injection hv
  subst hA
  exact ⟨_, rfl, hlt, h.cells (g := g) rfl _ _ (numCells_get l i c hc)⟩
theorem lies_below' {w w' : World} {b c : Nat} {A : Option Addr} {l : List ByteArray} (h : L5.Lies w b A l) (k : Below c w w') (hc : b ≤ c) : L5.Lies w' b A l := h.keep fun _ hp => k.cell (by omega)
abbrev nv (F L R : Int) (H : ByteArray) (A : Option Addr) (n ca : Nat) (C : Option Addr) (m cb : Nat) : Value := .agg #[.int .i64 F, .int .i64 L, .int .i64 R, .string H, .slice A n ca, .slice C m cb]
structure Rows2 (w : World) (A : Option Addr) (n ca : Nat) (C : Option Addr) (m cb : Nat) (ks : List Int) (ss : List ByteArray) : Prop where
  kids : LiesN w w.heap.size A ks
  seps : L5.Lies w w.heap.size C ss
  nk : ks.length = n
  nm : ss.length = m
  ck : n ≤ ca
  cm : m ≤ cb
theorem Rows2.on {w w' : World} {A : Option Addr} {n ca : Nat} {C : Option Addr} {m cb : Nat} {ks : List Int} {ss : List ByteArray} (h : Rows2 w A n ca C m cb ks ss) (k : Below w.heap.size w w') : Rows2 w' A n ca C m cb ks ss := ⟨h.kids.on k, h.seps.on k, h.nk, h.nm, h.ck, h.cm⟩
def NBx (t : TypeId) (g : Nat) (F L R : Int) (H : ByteArray) (A : Option Addr) (n ca : Nat) (C : Option Addr) (m cb : Nat) (w : World) : Prop := w.heap[g]? = some (.cells #[.int .i64 F, .int .i64 L, .int .i64 R, .string H, .slice A n ca, .slice C m cb] t (0, 0))
section
variable {t : TypeId} {g : Nat} {F L R : Int} {H : ByteArray} {A : Option Addr} {n ca : Nat} {C : Option Addr} {m cb : Nat} {w w' : World}
theorem NBx.cells (k : NBx t g F L R H A n ca C m cb w) : w.cell? ⟨g, 0, none⟩ = some (.int .i64 F) ∧ w.cell? ⟨g, 1, none⟩ = some (.int .i64 L) ∧ w.cell? ⟨g, 2, none⟩ = some (.int .i64 R) ∧ w.cell? ⟨g, 3, none⟩ = some (.string H) ∧ w.cell? ⟨g, 4, none⟩ = some (.slice A n ca) ∧ w.cell? ⟨g, 5, none⟩ = some (.slice C m cb) := by
  unfold NBx at k
  refine ⟨?_, ?_, ?_, ?_, ?_, ?_⟩ <;> simp [World.cell?, k]
theorem NBx.free (k : NBx t g F L R H A n ca C m cb w) : w.frozen? ⟨g, 0, none⟩ = false ∧ w.frozen? ⟨g, 1, none⟩ = false ∧ w.frozen? ⟨g, 2, none⟩ = false ∧ w.frozen? ⟨g, 3, none⟩ = false ∧ w.frozen? ⟨g, 4, none⟩ = false ∧ w.frozen? ⟨g, 5, none⟩ = false := by
  unfold NBx at k
  refine ⟨?_, ?_, ?_, ?_, ?_, ?_⟩ <;> simp [World.frozen?, k]
theorem NBx.lt (k : NBx t g F L R H A n ca C m cb w) : g < w.heap.size := (Array.getElem?_eq_some_iff.1 k).1
theorem NBx.below (k : NBx t g F L R H A n ca C m cb w) (b : Below w.heap.size w w') : NBx t g F L R H A n ca C m cb w' := (b.block g k.lt).trans k
theorem NBx.on {c : Nat} (k : NBx t g F L R H A n ca C m cb w) (b : Below c w w') (hg : g < c) : NBx t g F L R H A n ca C m cb w' := (b.block g hg).trans k
theorem NBx.set0 (k : NBx t g F L R H A n ca C m cb w) (F' : Int) : NBx t g F' L R H A n ca C m cb (w.setCell ⟨g, 0, none⟩ (.int .i64 F')) := by
  unfold NBx at *
  exact heap_setCell_same w g 0 _ _ (.int .i64 F') k
theorem NBx.set1 (k : NBx t g F L R H A n ca C m cb w) (L' : Int) : NBx t g F L' R H A n ca C m cb (w.setCell ⟨g, 1, none⟩ (.int .i64 L')) := by
  unfold NBx at *
  exact heap_setCell_same w g 1 _ _ (.int .i64 L') k
theorem NBx.set2 (k : NBx t g F L R H A n ca C m cb w) (R' : Int) : NBx t g F L R' H A n ca C m cb (w.setCell ⟨g, 2, none⟩ (.int .i64 R')) := by
  unfold NBx at *
  exact heap_setCell_same w g 2 _ _ (.int .i64 R') k
theorem NBx.set3 (k : NBx t g F L R H A n ca C m cb w) (H' : ByteArray) : NBx t g F L R H' A n ca C m cb (w.setCell ⟨g, 3, none⟩ (.string H')) := by
  unfold NBx at *
  exact heap_setCell_same w g 3 _ _ (.string H') k
theorem NBx.set4 (k : NBx t g F L R H A n ca C m cb w) (A' : Option Addr) (n' ca' : Nat) : NBx t g F L R H A' n' ca' C m cb (w.setCell ⟨g, 4, none⟩ (.slice A' n' ca')) := by
  unfold NBx at *
  exact heap_setCell_same w g 4 _ _ (.slice A' n' ca') k
theorem NBx.set5 (k : NBx t g F L R H A n ca C m cb w) (C' : Option Addr) (m' cb' : Nat) : NBx t g F L R H A n ca C' m' cb' (w.setCell ⟨g, 5, none⟩ (.slice C' m' cb')) := by
  unfold NBx at *
  exact heap_setCell_same w g 5 _ _ (.slice C' m' cb') k
theorem NBx.other {q o : Nat} (k : NBx t g F L R H A n ca C m cb w) (hq : g ≠ q) (v : Value) : NBx t g F L R H A n ca C m cb (w.setCell ⟨q, o, none⟩ v) := by
  unfold NBx at *
  rw [Below.heap_setCell w ⟨q, o, none⟩ v g hq]
  exact k
end
abbrev nbox (t : TypeId) (F L R : Int) (H : ByteArray) (A : Option Addr) (n ca : Nat) (C : Option Addr) (m cb : Nat) (w : World) : World := w.alloc (.cells #[.int .i64 F, .int .i64 L, .int .i64 R, .string H, .slice A n ca, .slice C m cb] t)
theorem nbox_size (t : TypeId) (F L R : Int) (H : ByteArray) (A : Option Addr) (n ca : Nat) (C : Option Addr) (m cb : Nat) (w : World) : (nbox t F L R H A n ca C m cb w).heap.size = w.heap.size + 1 := by simp [nbox]
theorem nbox_below (t : TypeId) (F L R : Int) (H : ByteArray) (A : Option Addr) (n ca : Nat) (C : Option Addr) (m cb : Nat) (w : World) : Below w.heap.size w (nbox t F L R H A n ca C m cb w) := L5.below_alloc _ _
theorem nbox_new (t : TypeId) (F L R : Int) (H : ByteArray) (A : Option Addr) (n ca : Nat) (C : Option Addr) (m cb : Nat) (w : World) : NBx t w.heap.size F L R H A n ca C m cb (nbox t F L R H A n ca C m cb w) := heap_alloc_new _ _
def setN (w : World) (g : Nat) (F L R : Int) (H : ByteArray) (A : Option Addr) (n ca : Nat) (C : Option Addr) (m cb : Nat) : World := (((((w.setCell ⟨g, 0, none⟩ (.int .i64 F)).setCell ⟨g, 1, none⟩ (.int .i64 L)).setCell ⟨g, 2, none⟩ (.int .i64 R)).setCell ⟨g, 3, none⟩ (.string H)).setCell ⟨g, 4, none⟩ (.slice A n ca)).setCell ⟨g, 5, none⟩ (.slice C m cb)
theorem setN_box {t : TypeId} {w : World} {g : Nat} {F L R : Int} {H : ByteArray} {A : Option Addr} {n ca : Nat} {C : Option Addr} {m cb : Nat} (k : NBx t g F L R H A n ca C m cb w) (F' L' R' : Int) (H' : ByteArray) (A' : Option Addr) (n' ca' : Nat) (C' : Option Addr) (m' cb' : Nat) : NBx t g F' L' R' H' A' n' ca' C' m' cb' (setN w g F' L' R' H' A' n' ca' C' m' cb') :=
  (((((k.set0 F').set1 L').set2 R').set3 H').set4 A' n' ca').set5 C' m' cb'
theorem setN_size (w : World) (g : Nat) (F L R : Int) (H : ByteArray) (A : Option Addr) (n ca : Nat) (C : Option Addr) (m cb : Nat) : (setN w g F L R H A n ca C m cb).heap.size = w.heap.size := by
  unfold setN
  simp
theorem setN_other {w : World} {g q : Nat} (h : q ≠ g) (F L R : Int) (H : ByteArray) (A : Option Addr) (n ca : Nat) (C : Option Addr) (m cb : Nat) : (setN w g F L R H A n ca C m cb).heap[q]? = w.heap[q]? := by
  unfold setN
  have hh : ∀ (W : World) (o : Nat) (v : Value), (W.setCell ⟨g, o, none⟩ v).heap[q]? = W.heap[q]? := fun W o v => Below.heap_setCell W ⟨g, o, none⟩ v q (fun e' => h (by first | exact e' | exact e'.symm))
  rw [hh, hh, hh, hh, hh, hh]
theorem setN_below {w W : World} {c g : Nat} (h : Below c w W) (hg : c ≤ g) (F L R : Int) (H : ByteArray) (A : Option Addr) (n ca : Nat) (C : Option Addr) (m cb : Nat) : Below c w (setN W g F L R H A n ca C m cb) :=
  (((((h.setCell (p := ⟨g, 0, none⟩) hg _).setCell (p := ⟨g, 1, none⟩) hg _).setCell (p := ⟨g, 2, none⟩) hg _).setCell (p := ⟨g, 3, none⟩) hg _).setCell (p := ⟨g, 4, none⟩) hg _).setCell (p := ⟨g, 5, none⟩) hg _
theorem cell_otherblock {w w' : World} {p : Addr} (h : w'.heap[p.block]? = w.heap[p.block]?) : w'.cell? p = w.cell? p := by
  unfold World.cell?
  rw [h]
theorem LiesN.apart {w w' : World} {b : Nat} {A : Option Addr} {l : List Int} {g : Nat} (h : LiesN w b A l) (hg : ∀ a, A = some a → a.block ≠ g) (hk : ∀ q, q ≠ g → w'.heap[q]? = w.heap[q]?) : LiesN w' b A l := fun i c hc => by
  obtain ⟨a, e, hb, hx⟩ := h i c hc
  exact ⟨a, e, hb, (cell_otherblock (hk _ (by rw [L5.addr_block]; exact hg a e))).trans hx⟩
theorem lies_apart {w w' : World} {b : Nat} {A : Option Addr} {l : List ByteArray} {g : Nat} (h : L5.Lies w b A l) (hg : ∀ a, A = some a → a.block ≠ g) (hk : ∀ q, q ≠ g → w'.heap[q]? = w.heap[q]?) : L5.Lies w' b A l := fun i c hc => by
  obtain ⟨a, e, hb, hx⟩ := h i c hc
  exact ⟨a, e, hb, (cell_otherblock (hk _ (by rw [L5.addr_block]; exact hg a e))).trans hx⟩
end Go.Proofs.YtpeghilfldpgfaaGreatDoor.L11
namespace Go.Proofs.YtpeghilfldpgfaaGreatDoor.L12
open Go.RowKit CP
set_option linter.unusedVariables false
abbrev cv (F N : Int) (D : ByteArray) : Value := .agg #[.int .i64 F, .int .i64 N, .string D]
abbrev cv0 : Value := .agg #[.int .i64 0, .int .i64 0, .string ⟨#[]⟩]
def Cx (t : TypeId) (g : Nat) (F N : Int) (D : ByteArray) (w : World) : Prop := w.heap[g]? = some (.cells #[.int .i64 F, .int .i64 N, .string D] t (0, 0))
section
variable {t : TypeId} {g : Nat} {F N : Int} {D : ByteArray} {w w' : World}
theorem Cx.cells (k : Cx t g F N D w) : w.cell? ⟨g, 0, none⟩ = some (.int .i64 F) ∧ w.cell? ⟨g, 1, none⟩ = some (.int .i64 N) ∧ w.cell? ⟨g, 2, none⟩ = some (.string D) := by
  unfold Cx at k
  refine ⟨?_, ?_, ?_⟩ <;> simp [World.cell?, k]
theorem Cx.free (k : Cx t g F N D w) : w.frozen? ⟨g, 0, none⟩ = false ∧ w.frozen? ⟨g, 1, none⟩ = false ∧ w.frozen? ⟨g, 2, none⟩ = false := by
  unfold Cx at k
  refine ⟨?_, ?_, ?_⟩ <;> simp [World.frozen?, k]
theorem Cx.lt (k : Cx t g F N D w) : g < w.heap.size := (Array.getElem?_eq_some_iff.1 k).1
theorem Cx.below (k : Cx t g F N D w) (b : Below w.heap.size w w') : Cx t g F N D w' := (b.block g k.lt).trans k
theorem Cx.set0 (k : Cx t g F N D w) (F' : Int) : Cx t g F' N D (w.setCell ⟨g, 0, none⟩ (.int .i64 F')) := by
  unfold Cx at *
  exact heap_setCell_same w g 0 _ _ (.int .i64 F') k
theorem Cx.set1 (k : Cx t g F N D w) (N' : Int) : Cx t g F N' D (w.setCell ⟨g, 1, none⟩ (.int .i64 N')) := by
  unfold Cx at *
  exact heap_setCell_same w g 1 _ _ (.int .i64 N') k
theorem Cx.set2 (k : Cx t g F N D w) (D' : ByteArray) : Cx t g F N D' (w.setCell ⟨g, 2, none⟩ (.string D')) := by
  unfold Cx at *
  exact heap_setCell_same w g 2 _ _ (.string D') k
end
abbrev cbox (t : TypeId) (F N : Int) (D : ByteArray) (w : World) : World := w.alloc (.cells #[.int .i64 F, .int .i64 N, .string D] t)
theorem cbox_size (t : TypeId) (F N : Int) (D : ByteArray) (w : World) : (cbox t F N D w).heap.size = w.heap.size + 1 := by simp [cbox]
theorem cbox_below (t : TypeId) (F N : Int) (D : ByteArray) (w : World) : Below w.heap.size w (cbox t F N D w) := L5.below_alloc _ _
theorem cbox_new (t : TypeId) (F N : Int) (D : ByteArray) (w : World) : Cx t w.heap.size F N D (cbox t F N D w) := heap_alloc_new _ _
def setC (w : World) (g : Nat) (F N : Int) (D : ByteArray) : World := ((w.setCell ⟨g, 0, none⟩ (.int .i64 F)).setCell ⟨g, 1, none⟩ (.int .i64 N)).setCell ⟨g, 2, none⟩ (.string D)
theorem setC_box {t : TypeId} {w : World} {g : Nat} {F N : Int} {D : ByteArray} (k : Cx t g F N D w) (F' N' : Int) (D' : ByteArray) : Cx t g F' N' D' (setC w g F' N' D') := ((k.set0 F').set1 N').set2 D'
theorem setC_below {w W : World} {c g : Nat} (h : Below c w W) (hg : c ≤ g) (F N : Int) (D : ByteArray) : Below c w (setC W g F N D) :=
  ((h.setCell (p := ⟨g, 0, none⟩) hg _).setCell (p := ⟨g, 1, none⟩) hg _).setCell (p := ⟨g, 2, none⟩) hg _
end Go.Proofs.YtpeghilfldpgfaaGreatDoor.L12
namespace Go.Proofs.YtpeghilfldpgfaaGreatDoor.L13
open Go.RowKit
set_option linter.unusedVariables false
abbrev mv (P G R L C : Int) : Value := .agg #[.int .i64 P, .int .i64 G, .int .i64 R, .int .i64 L, .int .i64 C]
def Mx (t : TypeId) (g : Nat) (P G R L C : Int) (w : World) : Prop := w.heap[g]? = some (.cells #[.int .i64 P, .int .i64 G, .int .i64 R, .int .i64 L, .int .i64 C] t (0, 0))
section
variable {t : TypeId} {g : Nat} {P G R L C : Int} {w w' : World}
theorem Mx.cells (k : Mx t g P G R L C w) : w.cell? ⟨g, 0, none⟩ = some (.int .i64 P) ∧ w.cell? ⟨g, 1, none⟩ = some (.int .i64 G) ∧ w.cell? ⟨g, 2, none⟩ = some (.int .i64 R) ∧ w.cell? ⟨g, 3, none⟩ = some (.int .i64 L) ∧ w.cell? ⟨g, 4, none⟩ = some (.int .i64 C) := by
  unfold Mx at k
  refine ⟨?_, ?_, ?_, ?_, ?_⟩ <;> simp [World.cell?, k]
theorem Mx.free (k : Mx t g P G R L C w) : w.frozen? ⟨g, 0, none⟩ = false ∧ w.frozen? ⟨g, 1, none⟩ = false ∧ w.frozen? ⟨g, 2, none⟩ = false ∧ w.frozen? ⟨g, 3, none⟩ = false ∧ w.frozen? ⟨g, 4, none⟩ = false := by
  unfold Mx at k
  refine ⟨?_, ?_, ?_, ?_, ?_⟩ <;> simp [World.frozen?, k]
theorem Mx.lt (k : Mx t g P G R L C w) : g < w.heap.size := (Array.getElem?_eq_some_iff.1 k).1
theorem Mx.below (k : Mx t g P G R L C w) (b : Below w.heap.size w w') : Mx t g P G R L C w' := (b.block g k.lt).trans k
theorem Mx.set0 (k : Mx t g P G R L C w) (v : Int) : Mx t g v G R L C (w.setCell ⟨g, 0, none⟩ (.int .i64 v)) := by
  unfold Mx at *
  exact heap_setCell_same w g 0 _ _ (.int .i64 v) k
theorem Mx.set1 (k : Mx t g P G R L C w) (v : Int) : Mx t g P v R L C (w.setCell ⟨g, 1, none⟩ (.int .i64 v)) := by
  unfold Mx at *
  exact heap_setCell_same w g 1 _ _ (.int .i64 v) k
theorem Mx.set2 (k : Mx t g P G R L C w) (v : Int) : Mx t g P G v L C (w.setCell ⟨g, 2, none⟩ (.int .i64 v)) := by
  unfold Mx at *
  exact heap_setCell_same w g 2 _ _ (.int .i64 v) k
theorem Mx.set3 (k : Mx t g P G R L C w) (v : Int) : Mx t g P G R v C (w.setCell ⟨g, 3, none⟩ (.int .i64 v)) := by
  unfold Mx at *
  exact heap_setCell_same w g 3 _ _ (.int .i64 v) k
theorem Mx.set4 (k : Mx t g P G R L C w) (v : Int) : Mx t g P G R L v (w.setCell ⟨g, 4, none⟩ (.int .i64 v)) := by
  unfold Mx at *
  exact heap_setCell_same w g 4 _ _ (.int .i64 v) k
theorem Mx.other {q o : Nat} (k : Mx t g P G R L C w) (hq : g ≠ q) (v : Value) : Mx t g P G R L C (w.setCell ⟨q, o, none⟩ v) := by
  unfold Mx at *
  rw [Below.heap_setCell w ⟨q, o, none⟩ v g hq]
  exact k
end
abbrev mbox (t : TypeId) (P G R L C : Int) (w : World) : World := w.alloc (.cells #[.int .i64 P, .int .i64 G, .int .i64 R, .int .i64 L, .int .i64 C] t)
theorem mbox_size (t : TypeId) (P G R L C : Int) (w : World) : (mbox t P G R L C w).heap.size = w.heap.size + 1 := by simp [mbox]
theorem mbox_below (t : TypeId) (P G R L C : Int) (w : World) : Below w.heap.size w (mbox t P G R L C w) := (Below.refl _ w).alloc (Nat.le_refl _) _
theorem mbox_new (t : TypeId) (P G R L C : Int) (w : World) : Mx t w.heap.size P G R L C (mbox t P G R L C w) := heap_alloc_new _ _
def setM (w : World) (g : Nat) (P G R L C : Int) : World := ((((w.setCell ⟨g, 0, none⟩ (.int .i64 P)).setCell ⟨g, 1, none⟩ (.int .i64 G)).setCell ⟨g, 2, none⟩ (.int .i64 R)).setCell ⟨g, 3, none⟩ (.int .i64 L)).setCell ⟨g, 4, none⟩ (.int .i64 C)
theorem setM_box {t : TypeId} {w : World} {g : Nat} {P G R L C : Int} (k : Mx t g P G R L C w) (P' G' R' L' C' : Int) : Mx t g P' G' R' L' C' (setM w g P' G' R' L' C') := ((((k.set0 P').set1 G').set2 R').set3 L').set4 C'
theorem setM_below {w W : World} {c g : Nat} (h : Below c w W) (hg : c ≤ g) (P G R L C : Int) : Below c w (setM W g P G R L C) :=
  ((((h.setCell (p := ⟨g, 0, none⟩) hg _).setCell (p := ⟨g, 1, none⟩) hg _).setCell (p := ⟨g, 2, none⟩) hg _).setCell (p := ⟨g, 3, none⟩) hg _).setCell (p := ⟨g, 4, none⟩) hg _
end Go.Proofs.YtpeghilfldpgfaaGreatDoor.L13
namespace Go.Proofs.YtpeghilfldpgfaaGreatDoor
open Go.RowKit
set_option linter.unusedVariables false
set_option linter.unusedSimpArgs false
structure LV where
  F : Int
  R : Int
  H : ByteArray
  A : Option Addr
  n : Nat
  ca : Nat
structure NV where
  F : Int
  L : Int
  R : Int
  H : ByteArray
  A : Option Addr
  n : Nat
  ca : Nat
  C : Option Addr
  m : Nat
  cb : Nat
structure CV where
  F : Int
  N : Int
  D : ByteArray
abbrev Mv := L13.MP.Mt
abbrev LV0 : LV := ⟨0, 0, ⟨#[]⟩, none, 0, 0⟩
abbrev NV0 : NV := ⟨0, 0, 0, ⟨#[]⟩, none, 0, 0, none, 0, 0⟩
abbrev CV0 : CV := ⟨0, 0, ⟨#[]⟩⟩
abbrev Mv0 : Mv := ⟨0, 0, 0, 0, 0⟩
abbrev gv (k : Int) (a : LV) (b : NV) (c : CV) (m : Mv) : Value := .agg #[.int .i64 k, .int .i64 a.F, .int .i64 a.R, .string a.H, .slice a.A a.n a.ca, .int .i64 b.F, .int .i64 b.L, .int .i64 b.R, .string b.H, .slice b.A b.n b.ca, .slice b.C b.m b.cb, .int .i64 c.F, .int .i64 c.N, .string c.D, .int .i64 m.p, .int .i64 m.pg, .int .i64 m.r, .int .i64 m.l, .int .i64 m.n]
def Gx (t : TypeId) (g : Nat) (k : Int) (a : LV) (b : NV) (c : CV) (m : Mv) (w : World) : Prop := w.heap[g]? = some (.cells #[.int .i64 k, .int .i64 a.F, .int .i64 a.R, .string a.H, .slice a.A a.n a.ca, .int .i64 b.F, .int .i64 b.L, .int .i64 b.R, .string b.H, .slice b.A b.n b.ca, .slice b.C b.m b.cb, .int .i64 c.F, .int .i64 c.N, .string c.D, .int .i64 m.p, .int .i64 m.pg, .int .i64 m.r, .int .i64 m.l, .int .i64 m.n] t (0, 0))
section
variable {t : TypeId} {g : Nat} {k : Int} {a : LV} {b : NV} {c : CV} {m : Mv} {w w' : World}
theorem Gx.cells (h : Gx t g k a b c m w) : w.cell? ⟨g, 0, none⟩ = some (.int .i64 k) ∧ w.cell? ⟨g, 1, none⟩ = some (.int .i64 a.F) ∧ w.cell? ⟨g, 2, none⟩ = some (.int .i64 a.R) ∧ w.cell? ⟨g, 3, none⟩ = some (.string a.H) ∧ w.cell? ⟨g, 4, none⟩ = some (.slice a.A a.n a.ca) ∧ w.cell? ⟨g, 5, none⟩ = some (.int .i64 b.F) ∧ w.cell? ⟨g, 6, none⟩ = some (.int .i64 b.L) ∧ w.cell? ⟨g, 7, none⟩ = some (.int .i64 b.R) ∧ w.cell? ⟨g, 8, none⟩ = some (.string b.H) ∧ w.cell? ⟨g, 9, none⟩ = some (.slice b.A b.n b.ca) ∧ w.cell? ⟨g, 10, none⟩ = some (.slice b.C b.m b.cb) ∧ w.cell? ⟨g, 11, none⟩ = some (.int .i64 c.F) ∧ w.cell? ⟨g, 12, none⟩ = some (.int .i64 c.N) ∧ w.cell? ⟨g, 13, none⟩ = some (.string c.D) ∧ w.cell? ⟨g, 14, none⟩ = some (.int .i64 m.p) ∧ w.cell? ⟨g, 15, none⟩ = some (.int .i64 m.pg) ∧ w.cell? ⟨g, 16, none⟩ = some (.int .i64 m.r) ∧ w.cell? ⟨g, 17, none⟩ = some (.int .i64 m.l) ∧ w.cell? ⟨g, 18, none⟩ = some (.int .i64 m.n) := by
  unfold Gx at h
  refine ⟨?_, ?_, ?_, ?_, ?_, ?_, ?_, ?_, ?_, ?_, ?_, ?_, ?_, ?_, ?_, ?_, ?_, ?_, ?_⟩ <;> simp [World.cell?, h]
theorem Gx.lt (h : Gx t g k a b c m w) : g < w.heap.size := (Array.getElem?_eq_some_iff.1 h).1
theorem Gx.below (h : Gx t g k a b c m w) (l : Below w.heap.size w w') : Gx t g k a b c m w' := (l.block g h.lt).trans h
end
abbrev gbox (t : TypeId) (k : Int) (a : LV) (b : NV) (c : CV) (m : Mv) (w : World) : World := w.alloc (.cells #[.int .i64 k, .int .i64 a.F, .int .i64 a.R, .string a.H, .slice a.A a.n a.ca, .int .i64 b.F, .int .i64 b.L, .int .i64 b.R, .string b.H, .slice b.A b.n b.ca, .slice b.C b.m b.cb, .int .i64 c.F, .int .i64 c.N, .string c.D, .int .i64 m.p, .int .i64 m.pg, .int .i64 m.r, .int .i64 m.l, .int .i64 m.n] t)
theorem gbox_size (t : TypeId) (k : Int) (a : LV) (b : NV) (c : CV) (m : Mv) (w : World) : (gbox t k a b c m w).heap.size = w.heap.size + 1 := by simp [gbox]
theorem gbox_below (t : TypeId) (k : Int) (a : LV) (b : NV) (c : CV) (m : Mv) (w : World) : Below w.heap.size w (gbox t k a b c m w) := (Below.refl _ w).alloc (Nat.le_refl _) _
theorem gbox_new (t : TypeId) (k : Int) (a : LV) (b : NV) (c : CV) (m : Mv) (w : World) : Gx t w.heap.size k a b c m (gbox t k a b c m w) := heap_alloc_new _ _
def setG (w : World) (g : Nat) (k : Int) (a : LV) (b : NV) (c : CV) (m : Mv) : World := w.setRow g #[.int .i64 k, .int .i64 a.F, .int .i64 a.R, .string a.H, .slice a.A a.n a.ca, .int .i64 b.F, .int .i64 b.L, .int .i64 b.R, .string b.H, .slice b.A b.n b.ca, .slice b.C b.m b.cb, .int .i64 c.F, .int .i64 c.N, .string c.D, .int .i64 m.p, .int .i64 m.pg, .int .i64 m.r, .int .i64 m.l, .int .i64 m.n]
theorem setG_box {t : TypeId} {w : World} {g : Nat} {k : Int} {a : LV} {b : NV} {c : CV} {m : Mv} (h : Gx t g k a b c m w) (k' : Int) (a' : LV) (b' : NV) (c' : CV) (m' : Mv) : Gx t g k' a' b' c' m' (setG w g k' a' b' c' m') := setRow_heap _ _ _ _ t (0, 0) h
theorem setG_heap {w : World} {g q : Nat} (h : q ≠ g) (k : Int) (a : LV) (b : NV) (c : CV) (m : Mv) : (setG w g k a b c m).heap[q]? = w.heap[q]? := setRow_other _ _ _ _ h
theorem setG_size (w : World) (g : Nat) (k : Int) (a : LV) (b : NV) (c : CV) (m : Mv) : (setG w g k a b c m).heap.size = w.heap.size := by simp [setG]
theorem setG_below {w W : World} {q g : Nat} (h : Below q w W) (hg : q ≤ g) (k : Int) (a : LV) (b : NV) (c : CV) (m : Mv) : Below q w (setG W g k a b c m) :=
  h.trans ⟨rfl, rfl, rfl, by rw [setG_size]; exact Nat.le_refl _, fun i hi => setG_heap (by omega) k a b c m⟩
theorem Tryz.sizeG : (Tryz.prog.info? 35).map (·.size) = some 19 := by kernel_rfl
theorem store_page {ops : Array Oper} {rest : List Oper} {o : Oper} {q : Act} {w : World} {Q : Exit → Act → World → Prop} {ty : TypeId} (hi : (Tryz.prog.info? ty).map (·.size) = some 19) (hgd : o.guard = none) (x y : Operand) (ho : o.op = .store ty x y)
    (g : Nat) (k : Int) (a : LV) (b : NV) (c : CV) (m : Mv) (hx : q.eval x = .pointer (some ⟨g, 0, none⟩)) (hy : q.eval y = gv k a b c m) {t : TypeId} {k0 : Int} {a0 : LV} {b0 : NV} {c0 : CV} {m0 : Mv} (hg : Gx t g k0 a0 b0 c0 m0 w)
    (h : wpList Tryz.prog ops Q rest (q.put o.dst undef) (setG w g k a b c m)) : wpList Tryz.prog ops Q (o :: rest) q w :=
  wpList_store_row hgd ty x y ho g _ hx hy t _ hg hi rfl (by simp [Value.oneCell']) h
theorem load_pageP {w : World} {t : TypeId} {g : Nat} {k : Int} {a : LV} {b : NV} {c : CV} {m : Mv} (hg : Gx t g k a b c m w) : (loadVar 35 ⟨g, 0, none⟩).run Tryz.prog w = .ok (gv k a b c m) w := run_loadVar_row w g t _ _ (0, 0) _ hg Tryz.underlying35 rfl Tryz.sizeG
theorem load_wanted {ops : Array Oper} {rest : List Oper} {o : Oper} {q : Act} {w : World} {Q : Exit → Act → World → Prop} {ty : TypeId} {d : TypeDesc} (hu : Tryz.prog.underlying ty = some d) (hd : (match d with | .struct _ | .array _ _ => true | _ => false) = true) (hi : (Tryz.prog.info? ty).map (·.size) = some 19)
    (hw : Region.wanted o (yielded ops q.tmps) = true) (x : Operand) (ho : o.op = .load ty x) (g : Nat) (hx : q.eval x = .pointer (some ⟨g, 0, none⟩)) {t : TypeId} {k : Int} {a : LV} {b : NV} {c : CV} {m : Mv} (hg : Gx t g k a b c m w)
    (h : wpList Tryz.prog ops Q rest (q.put o.dst (gv k a b c m)) w) : wpList Tryz.prog ops Q (o :: rest) q w :=
  wpList_step fun K hK => by rw [if_pos hw]; exact wp_load_row ty x ho g hx t _ (0, 0) d hg hu (by revert hd; cases d <;> simp) hi (hK _ _ h)
theorem results_two {fn : Func} {tmps : Array Value} {w : World} {i j : Nat} {ty : TypeId} {a : Addr} {v : Value} (hr : fn.results = #[.cell i ty, .tmp j]) (hi : tmps.getD i undef = .pointer (some a)) (hl : (loadVar ty a).run Tryz.prog w = .ok v w) :
    (results fn tmps).run Tryz.prog w = .ok (.tuple #[v, tmps.getD j undef]) w := by
  have hi' : tmps[i]?.getD undef = .pointer (some a) := by simpa using hi
  unfold results
  rw [hr]
  simp [hi', hl, asAddr]
theorem results_one {fn : Func} {tmps : Array Value} {w : World} {i : Nat} {ty : TypeId} {a : Addr} {v : Value} (hr : fn.results = #[.cell i ty]) (hi : tmps.getD i undef = .pointer (some a)) (hl : (loadVar ty a).run Tryz.prog w = .ok v w) :
    (results fn tmps).run Tryz.prog w = .ok v w := by
  have hi' : tmps[i]?.getD undef = .pointer (some a) := by simpa using hi
  unfold results
  rw [hr]
  simp [hi', hl, asAddr]
structure HasL (w : World) (a : LV) (l : L10.NP.Lf) : Prop where
  f : a.F = l.self
  r : a.R = l.right
  h : a.H = l.high
  n : a.n = l.items.length
  rows : L10.Lies5 w w.heap.size a.A l.items
structure HasN (w : World) (b : NV) (x : L11.IP.Inn) : Prop where
  f : b.F = x.self
  l : b.L = x.level
  r : b.R = x.right
  h : b.H = x.high
  rows : L11.Rows2 w b.A b.n b.ca b.C b.m b.cb x.kids x.seps
structure HasG (w : World) (k : Int) (a : LV) (b : NV) (c : CV) (m : Mv) (x : GP.Pg) : Prop where
  kind : k = x.k
  l : HasL w a x.l
  n : HasN w b x.n
  c : (c.F, c.N, c.D) = x.c
  m : m = x.m
theorem HasL.on {w w' : World} {a : LV} {l : L10.NP.Lf} (h : HasL w a l) (k : Below w.heap.size w w') : HasL w' a l := ⟨h.f, h.r, h.h, h.n, h.rows.on k⟩
theorem HasN.on {w w' : World} {b : NV} {x : L11.IP.Inn} (h : HasN w b x) (k : Below w.heap.size w w') : HasN w' b x := ⟨h.f, h.l, h.r, h.h, h.rows.on k⟩
theorem HasG.on {w w' : World} {k : Int} {a : LV} {b : NV} {c : CV} {m : Mv} {x : GP.Pg} (h : HasG w k a b c m x) (l : Below w.heap.size w w') : HasG w' k a b c m x := ⟨h.kind, h.l.on l, h.n.on l, h.c, h.m⟩
theorem hasL0 (w : World) : HasL w LV0 L10.NP.Lf0 := ⟨rfl, rfl, rfl, rfl, L10.Lies5.nil _ _ _⟩
theorem hasN0 (w : World) : HasN w NV0 L11.IP.In0 := ⟨rfl, rfl, rfl, rfl, ⟨fun i c h => by simp [L11.IP.In0] at h, L5.Lies.nil _ _ _, rfl, rfl, Nat.le_refl _, Nat.le_refl _⟩⟩
theorem hasG0 (w : World) : HasG w 0 LV0 NV0 CV0 Mv0 GP.Pg0 := ⟨rfl, hasL0 w, hasN0 w, rfl, rfl⟩
end Go.Proofs.YtpeghilfldpgfaaGreatDoor
namespace Go.Proofs.YtpeghilfldpgfaaGreatDoor.L10.NP
open Go.Proofs.YtpeghilfldpgfaaGreatDoor.L5 Go.Proofs.YtpeghilfldpgfaaGreatDoor.L7 Go.Proofs.YtpeghilfldpgfaaGreatDoor.L8 Go.Proofs.YtpeghilfldpgfaaGreatDoor.L9
set_option linter.unusedSimpArgs false
set_option linter.unusedVariables false
theorem rise_one (l : List It) : Rise (l.take 1) := by
  cases l with
  | nil => exact List.Pairwise.nil
  | cons x l => exact List.pairwise_singleton _ _
theorem take_snoc {l : List It} {k : Nat} {x : It} (h : l[k]? = some x) : l.take (k + 1) = l.take k ++ [x] := by rw [List.take_add_one, h]; rfl
theorem rise_next {l : List It} {j : Nat} {x y : It} (hx : l[j]? = some x) (hy : l[j + 1]? = some y) (h : Rise (l.take (j + 1))) (hlt : x.key < y.key) : Rise (l.take (j + 1 + 1)) := by
  rw [take_snoc hy]
  refine List.pairwise_append.2 ⟨h, List.pairwise_singleton _ _, fun a ha b hb => ?_⟩
  obtain rfl := List.mem_singleton.1 hb
  rw [take_snoc hx] at h ha
  rcases List.mem_append.1 ha with ha | ha
  · exact EP.lt_trans ((List.pairwise_append.1 h).2.2 a ha x (List.mem_singleton.2 rfl)) hlt
  · obtain rfl := List.mem_singleton.1 ha
    exact hlt
theorem rise_get {l : List It} (h : Rise l) {i j : Nat} {x y : It} (hx : l[i]? = some x) (hy : l[j]? = some y) (hij : i < j) : x.key < y.key := by
  obtain ⟨h1, rfl⟩ := List.getElem?_eq_some_iff.1 hx
  obtain ⟨h2, rfl⟩ := List.getElem?_eq_some_iff.1 hy
  exact List.pairwise_iff_getElem.1 h i j h1 h2 hij
theorem rise_not {l : List It} {j : Nat} {x y : It} (hx : l[j]? = some x) (hy : l[j + 1]? = some y) (hlt : ¬ x.key < y.key) : ¬ Rise l := fun h => hlt (rise_get h hx hy (by omega))
def HighL (R : Int) (H : ByteArray) (l : List It) (p : Int) : Prop := (R = 0 → H.size = 0) ∧ (R ≠ 0 → H.size ≠ 0 ∧ (H.size : Int) ≤ p / 8 ∧ ∀ x, l[l.length - 1]? = some x → x.key < H.data.toList)
theorem high_last {F R : Int} {H : ByteArray} {l : List It} {p : Int} (hr : Rise l) : HighL R H l p ↔ HighOk ⟨F, R, H, l⟩ p := by
  constructor
  · intro ⟨h1, h2⟩
    refine ⟨h1, fun h0 => ?_⟩
    obtain ⟨h3, h4, h5⟩ := h2 h0
    refine ⟨h3, h4, fun x hx => ?_⟩
    obtain ⟨i, hi, rfl⟩ := List.getElem_of_mem (show x ∈ l from hx)
    have hx' : l[i]? = some l[i] := List.getElem?_eq_getElem hi
    have hl : l[l.length - 1]? = some l[l.length - 1] := List.getElem?_eq_getElem (by omega)
    by_cases e : i = l.length - 1
    · exact h5 _ (by rw [← e]; exact hx')
    · exact EP.lt_trans (rise_get hr hx' hl (by omega)) (h5 _ hl)
  · intro ⟨h1, h2⟩
    refine ⟨h1, fun h0 => ?_⟩
    obtain ⟨h3, h4, h5⟩ := h2 h0
    exact ⟨h3, h4, fun x hx => h5 x (List.mem_of_getElem? hx)⟩
end Go.Proofs.YtpeghilfldpgfaaGreatDoor.L10.NP
namespace Go.Proofs.YtpeghilfldpgfaaGreatDoor.L9.VP
open Go.Proofs.YtpeghilfldpgfaaGreatDoor.L9
set_option linter.unusedSimpArgs false
set_option linter.unusedVariables false
def numF (l : List UInt8) (i : Nat) (b : Bool) : Nat × Nat × Bool := if (WP.get l i).2.2 = 0 ∧ (WP.get l i).1 ≤ 4096 then ((WP.get l i).1, (WP.get l i).2.1, b) else (0, i, true)
def fourF (l : List UInt8) (i : Nat) (b : Bool) : Nat × Nat × Bool := if i + 4 ≤ l.length then (Lib.leNat ((l.drop i).take 4), i + 4, b) else (0, i, true)
def takeF (l : List UInt8) (i : Nat) (b : Bool) (n : Nat) : List UInt8 × Nat × Bool := if i + n ≤ l.length then ((l.drop i).take n, i + n, b) else ([], i, true)
def textF (l : List UInt8) (i : Nat) (b : Bool) : List UInt8 × Nat × Bool := takeF l (numF l i b).2.1 (numF l i b).2.2 (numF l i b).1
def markF (l : List UInt8) (i : Nat) (b : Bool) : UInt8 × Nat × Bool := (if (takeF l i b 1).2.2 then 0 else (takeF l i b 1).1.headD 0, (takeF l i b 1).2)
def readV (l : List UInt8) : (List UInt8 × V) × Nat × Bool :=
  let t := textF l 0 false
  let m := markF l t.2.1 t.2.2
  if m.1 = 1 then
    let n := numF l m.2.1 m.2.2
    let p := fourF l n.2.1 n.2.2
    ((t.1, ⟨true, [], n.1, p.1⟩), p.2)
  else if m.1 = 0 then
    let n := numF l m.2.1 m.2.2
    let u := takeF l n.2.1 n.2.2 n.1
    ((t.1, ⟨false, u.1, 0, 0⟩), u.2)
  else
    let u := takeF l m.2.1 true 0
    ((t.1, ⟨false, u.1, 0, 0⟩), u.2)
def readK (l : List UInt8) : (Nat × List UInt8) × Nat × Bool :=
  let k := fourF l 0 false
  let t := textF l k.2.1 k.2.2
  ((k.1, t.1), t.2)
theorem leBytes_four : ∀ (k : Nat) (l : List UInt8), l.length = k → Lib.leBytes k (Lib.leNat l) = l
  | 0, [], _ => rfl
  | k + 1, x :: l, h => by
    have ih := leBytes_four k l (by simpa using h)
    have hx := x.toNat_lt
    simp only [Lib.leBytes, Lib.leNat]
    have e1 : (x.toNat + 256 * Lib.leNat l) % 256 = x.toNat := by omega
    have e2 : (x.toNat + 256 * Lib.leNat l) / 256 = Lib.leNat l := by omega
    rw [e1, e2, ih]
    simp
-- what good reading says
theorem num_at {l : List UInt8} {i : Nat} {b : Bool} (hi : i ≤ l.length) : (numF l i b).2.1 ≤ l.length ∧ (numF l i b).1 ≤ 4096 ∧ i ≤ (numF l i b).2.1 := by
  unfold numF
  split
  · rename_i h
    rcases WP.get_spec l i with e | e | ⟨n, tu, e, h2, h3, _⟩
    · rw [e] at h; simp at h
    · rw [e] at h; simp at h
    · rw [e] at h ⊢
      exact ⟨h3, h.2, by simp only; omega⟩
  · exact ⟨hi, by simp, Nat.le_refl _⟩
theorem four_at {l : List UInt8} {i : Nat} {b : Bool} (hi : i ≤ l.length) : (fourF l i b).2.1 ≤ l.length := by
  unfold fourF
  split
  · assumption
  · exact hi
theorem take_at {l : List UInt8} {i n : Nat} {b : Bool} (hi : i ≤ l.length) : (takeF l i b n).2.1 ≤ l.length := by
  unfold takeF
  split
  · assumption
  · exact hi
theorem text_at {l : List UInt8} {i : Nat} {b : Bool} (hi : i ≤ l.length) : (textF l i b).2.1 ≤ l.length := take_at (num_at hi).1
theorem mark_at {l : List UInt8} {i : Nat} {b : Bool} (hi : i ≤ l.length) : (markF l i b).2.1 ≤ l.length := take_at hi
theorem num_good {l : List UInt8} {i j n : Nat} {b : Bool} (h : numF l i b = (n, j, false)) : b = false ∧ n ≤ 4096 ∧ l.drop i = WP.put n ++ l.drop j := by
  unfold numF at h
  split at h
  · rename_i hc
    rcases WP.get_spec l i with e | e | ⟨m, tu, e, h2, h3, h4, _⟩
    · rw [e] at hc; simp at hc
    · rw [e] at hc; simp at hc
    · rw [e] at hc h
      simp only [Prod.mk.injEq] at h hc
      obtain ⟨rfl, rfl, rfl⟩ := h
      refine ⟨rfl, hc.2, ?_⟩
      rw [h4, show l.drop tu = (l.drop i).drop (tu - i) by rw [List.drop_drop]; congr 1; omega, List.take_append_drop]
  · simp at h
theorem four_good {l : List UInt8} {i j n : Nat} {b : Bool} (h : fourF l i b = (n, j, false)) : b = false ∧ l.drop i = Lib.leBytes 4 n ++ l.drop j := by
  unfold fourF at h
  split at h
  · rename_i hc
    simp only [Prod.mk.injEq] at h
    obtain ⟨rfl, rfl, rfl⟩ := h
    refine ⟨rfl, ?_⟩
    rw [leBytes_four 4 _ (by simp; omega), ← List.drop_drop, List.take_append_drop]
  · simp at h
theorem take_good {l t : List UInt8} {i j n : Nat} {b : Bool} (h : takeF l i b n = (t, j, false)) : b = false ∧ t.length = n ∧ l.drop i = t ++ l.drop j := by
  unfold takeF at h
  split at h
  · rename_i hc
    simp only [Prod.mk.injEq] at h
    obtain ⟨rfl, rfl, rfl⟩ := h
    refine ⟨rfl, by simp; omega, ?_⟩
    rw [← List.drop_drop, List.take_append_drop]
  · simp at h
theorem text_good {l t : List UInt8} {i j : Nat} {b : Bool} (h : textF l i b = (t, j, false)) : b = false ∧ l.drop i = text t ++ l.drop j := by
  unfold textF at h
  obtain ⟨h1, h2, h3⟩ := take_good h
  obtain ⟨n, k, c, e⟩ : ∃ n k c, numF l i b = (n, k, c) := ⟨_, _, _, rfl⟩
  rw [e] at h1 h2 h3
  simp only at h1 h2 h3
  subst h1
  obtain ⟨g1, _, g2⟩ := num_good e
  refine ⟨g1, ?_⟩
  rw [g2, h3, ← h2, text, List.append_assoc]
theorem mark_good {l : List UInt8} {c : UInt8} {i j : Nat} {b : Bool} (h : markF l i b = (c, j, false)) : b = false ∧ l.drop i = c :: l.drop j := by
  unfold markF at h
  obtain ⟨t, k, d, e⟩ : ∃ t k d, takeF l i b 1 = (t, k, d) := ⟨_, _, _, rfl⟩
  rw [e] at h
  simp only [Prod.mk.injEq] at h
  obtain ⟨h1, rfl, rfl⟩ := h
  obtain ⟨g1, g2, g3⟩ := take_good e
  refine ⟨g1, ?_⟩
  match t, g2 with
  | [x], _ =>
    simp at h1
    rw [g3, h1]
    rfl
-- what is put is read
theorem pos_put (n : Nat) (h : n ≤ 4096) : 1 ≤ (WP.put n).length := by
  obtain ⟨_, _, e, _⟩ := WP.put_form n (by omega)
  rw [e]; simp
theorem split_at {l X : List UInt8} {i : Nat} (h : l.drop i = X) (hX : 1 ≤ X.length) : ∃ Z, l = Z ++ X ∧ Z.length = i := by
  have h1 := congrArg List.length h
  simp only [List.length_drop] at h1
  exact ⟨l.take i, by rw [← h, List.take_append_drop], by simp; omega⟩
theorem num_put {l Y : List UInt8} {i n : Nat} (b : Bool) (hn : n ≤ 4096) (h : l.drop i = WP.put n ++ Y) : numF l i b = (n, i + (WP.put n).length, b) ∧ l.drop (i + (WP.put n).length) = Y := by
  have hp := pos_put n hn
  obtain ⟨Z, e, rfl⟩ := split_at h (by simp; omega)
  have hg := WP.get_put Z Y n (by omega)
  rw [List.append_assoc, ← e] at hg
  refine ⟨by unfold numF; rw [hg]; simp only [if_pos (And.intro trivial hn)], ?_⟩
  rw [← List.drop_drop, h, List.drop_left]
theorem four_put {l Y : List UInt8} {i n : Nat} (b : Bool) (hn : n ≤ 4095) (h : l.drop i = Lib.leBytes 4 n ++ Y) : fourF l i b = (n, i + 4, b) ∧ l.drop (i + 4) = Y := by
  have hl := Lib.leBytes_length 4 n
  have h1 := congrArg List.length h
  simp only [List.length_drop, List.length_append, hl] at h1
  have e : (l.drop i).take 4 = Lib.leBytes 4 n := by rw [h, List.take_append_of_le_length (by omega), List.take_of_length_le (by omega)]
  refine ⟨by unfold fourF; rw [if_pos (by omega), e, Lib.leNat_leBytes 4 n (by omega)], ?_⟩
  have h2 := List.drop_left (l₁ := Lib.leBytes 4 n) (l₂ := Y)
  rw [hl] at h2
  rw [← List.drop_drop, h, h2]
theorem take_put {l t Y : List UInt8} {i : Nat} (b : Bool) (hi : i ≤ l.length) (h : l.drop i = t ++ Y) : takeF l i b t.length = (t, i + t.length, b) ∧ l.drop (i + t.length) = Y := by
  have h1 := congrArg List.length h
  simp only [List.length_drop, List.length_append] at h1
  refine ⟨by unfold takeF; rw [if_pos (by omega), h, List.take_left], ?_⟩
  rw [← List.drop_drop, h, List.drop_left]
theorem text_put {l t Y : List UInt8} {i : Nat} (b : Bool) (ht : t.length ≤ 4096) (h : l.drop i = text t ++ Y) : textF l i b = (t, i + (text t).length, b) ∧ l.drop (i + (text t).length) = Y := by
  rw [text, List.append_assoc] at h
  obtain ⟨e1, e2⟩ := num_put b ht h
  have hi : (i + (WP.put t.length).length) ≤ l.length := by
    have := congrArg List.length h
    have := pos_put t.length ht
    simp only [List.length_drop, List.length_append] at *
    omega
  obtain ⟨e3, e4⟩ := take_put b hi e2
  unfold textF
  rw [e1]
  simp only
  rw [e3, show i + (text t).length = i + (WP.put t.length).length + t.length by simp [text]; omega]
  exact ⟨rfl, e4⟩
theorem mark_put {l Y : List UInt8} {i : Nat} {c : UInt8} (h : l.drop i = c :: Y) : markF l i false = (c, i + 1, false) ∧ l.drop (i + 1) = Y := by
  have h1 := congrArg List.length h
  simp only [List.length_drop, List.length_cons] at h1
  obtain ⟨e1, e2⟩ := take_put (t := [c]) (Y := Y) false (by omega) h
  refine ⟨?_, e2⟩
  unfold markF
  rw [show ([c] : List UInt8).length = 1 from rfl] at e1
  rw [e1]
  rfl
theorem end_at {l : List UInt8} {i : Nat} (hi : i ≤ l.length) (h : l.drop i = []) : i = l.length := by
  have := List.drop_eq_nil_iff.1 h
  omega
theorem readV_put (t : List UInt8) (v : V) (h : OkV t v) : readV (cellV t v) = ((t, v), (cellV t v).length, false) := by
  obtain ⟨ht, hv⟩ := h
  generalize hl : cellV t v = l
  have h0 : l.drop 0 = text t ++ tail v := by rw [List.drop_zero, ← hl]; rfl
  obtain ⟨e1, f1⟩ := text_put false (by omega) h0
  have b1 := text_at (l := l) (i := 0) (b := false) (Nat.zero_le _)
  unfold readV
  simp only [e1]
  rw [e1] at b1
  simp only at b1
  generalize 0 + (text t).length = i at *
  rcases hv with ⟨h1, h2, h3, h4, h5, h6⟩ | ⟨h1, h2, h3, h4⟩
  · rw [tail, if_pos h1] at f1
    obtain ⟨e2, f2⟩ := mark_put f1
    have b2 := mark_at (b := false) b1
    simp only [e2, if_true]
    rw [e2] at b2
    obtain ⟨e3, f3⟩ := num_put false (by omega) f2
    have b3 := (num_at (b := false) b2).1
    simp only at b3
    rw [e3] at b3
    obtain ⟨e4, f4⟩ := four_put (Y := []) false (n := v.page.toNat) (by omega) (by rw [f3, List.append_nil])
    have b4 := four_at (b := false) b3
    simp only at b4
    rw [e4] at b4
    simp only [e3, e4]
    rw [← end_at b4 f4]
    congr 2
    exact V.eq h1.symm h2.symm (by show ((v.len.toNat : Nat) : Int) = _; omega) (by show ((v.page.toNat : Nat) : Int) = _; omega)
  · rw [tail, if_neg (by rw [h1]; decide)] at f1
    obtain ⟨e2, f2⟩ := mark_put f1
    have b2 := mark_at (b := false) b1
    simp only [e2, if_neg (show ¬ (0 : UInt8) = 1 by decide), if_true]
    rw [e2] at b2
    rw [show text v.s = WP.put v.s.length ++ v.s from rfl] at f2
    obtain ⟨e3, f3⟩ := num_put false (by omega) f2
    have b3 := (num_at (b := false) b2).1
    simp only at b3
    rw [e3] at b3
    obtain ⟨e4, f4⟩ := take_put (t := v.s) (Y := []) false b3 (by rw [f3, List.append_nil])
    have b4 := take_at (n := v.s.length) (b := false) b3
    simp only at b4
    rw [e4] at b4
    simp only [e3, e4]
    rw [← end_at b4 f4]
    congr 2
    exact V.eq h1.symm rfl h3.symm h4.symm
theorem triple {α β γ : Type} (x : α × β × γ) : ∃ a b c, x = (a, b, c) := ⟨_, _, _, rfl⟩
theorem readV_good {l t : List UInt8} {v : V} (h : readV l = ((t, v), l.length, false)) : cellV t v = l := by
  unfold readV at h
  obtain ⟨t', i1, b1, e1⟩ := triple (textF l 0 false)
  simp only [e1] at h
  obtain ⟨m, i2, b2, e2⟩ := triple (markF l i1 b1)
  simp only [e2] at h
  obtain ⟨n, i3, b3, e3⟩ := triple (numF l i2 b2)
  simp only [e3] at h
  split at h
  · rename_i hm
    subst hm
    obtain ⟨p, i4, b4, e4⟩ := triple (fourF l i3 b3)
    simp only [e4, Prod.mk.injEq] at h
    obtain ⟨⟨rfl, rfl⟩, rfl, rfl⟩ := h
    obtain ⟨rfl, g4⟩ := four_good e4
    obtain ⟨rfl, _, g3⟩ := num_good e3
    obtain ⟨rfl, g2⟩ := mark_good e2
    obtain ⟨_, g1⟩ := text_good e1
    rw [List.drop_length, List.append_nil] at g4
    rw [List.drop_zero, g2, g3, g4] at g1
    rw [g1, cellV, tail, if_pos rfl]
    simp
  · split at h
    · rename_i _ hm
      subst hm
      obtain ⟨u, i4, b4, e4⟩ := triple (takeF l i3 b3 n)
      simp only [e4, Prod.mk.injEq] at h
      obtain ⟨⟨rfl, rfl⟩, rfl, rfl⟩ := h
      obtain ⟨rfl, hu, g4⟩ := take_good e4
      obtain ⟨rfl, _, g3⟩ := num_good e3
      obtain ⟨rfl, g2⟩ := mark_good e2
      obtain ⟨_, g1⟩ := text_good e1
      rw [List.drop_length, List.append_nil] at g4
      rw [List.drop_zero, g2, g3, g4, ← hu] at g1
      rw [g1, cellV, tail, if_neg (by simp)]
      simp [text]
    · obtain ⟨u, i4, b4, e4⟩ := triple (takeF l i2 true 0)
      simp only [e4, Prod.mk.injEq] at h
      obtain ⟨_, rfl, rfl⟩ := h
      have := (take_good e4).1
      simp at this
theorem getV_read (l : List UInt8) : getV l = if (readV l).2 = (l.length, false) ∧ OkV (readV l).1.1 (readV l).1.2 then some (readV l).1 else none := by
  obtain ⟨t, v, i, b, hr⟩ : ∃ t v i b, readV l = ((t, v), i, b) := ⟨_, _, _, _, rfl⟩
  rw [hr]
  split
  · rename_i h
    simp only [Prod.mk.injEq] at h
    obtain ⟨⟨rfl, rfl⟩, h2⟩ := h
    exact (getV_iff l t v).2 ⟨h2, readV_good hr⟩
  · rename_i h
    refine getV_none fun t' v' hok e => h ?_
    have := readV_put t' v' hok
    rw [e, hr] at this
    simp only [Prod.mk.injEq] at this
    obtain ⟨⟨rfl, rfl⟩, rfl, rfl⟩ := this
    exact ⟨rfl, hok⟩
theorem readK_put (k : Nat) (t : List UInt8) (h : OkK k t) : readK (cellK k t) = ((k, t), (cellK k t).length, false) := by
  obtain ⟨h1, h2, h3⟩ := h
  generalize hl : cellK k t = l
  have h0 : l.drop 0 = Lib.leBytes 4 k ++ text t := by rw [List.drop_zero, ← hl]; rfl
  obtain ⟨e1, f1⟩ := four_put false (by omega) h0
  have b1 := four_at (l := l) (i := 0) (b := false) (Nat.zero_le _)
  rw [e1] at b1
  obtain ⟨e2, f2⟩ := text_put (t := t) (Y := []) false (by omega) (by rw [f1, List.append_nil])
  have b2 := text_at (b := false) b1
  simp only at b2
  rw [e2] at b2
  unfold readK
  simp only [e1, e2]
  rw [← end_at b2 f2]
theorem readK_good {l t : List UInt8} {k : Nat} (h : readK l = ((k, t), l.length, false)) : cellK k t = l := by
  unfold readK at h
  obtain ⟨k', i1, b1, e1⟩ := triple (fourF l 0 false)
  simp only [e1] at h
  obtain ⟨t', i2, b2, e2⟩ := triple (textF l i1 b1)
  simp only [e2, Prod.mk.injEq] at h
  obtain ⟨⟨rfl, rfl⟩, rfl, rfl⟩ := h
  obtain ⟨rfl, g2⟩ := text_good e2
  obtain ⟨_, g1⟩ := four_good e1
  rw [List.drop_length, List.append_nil] at g2
  rw [List.drop_zero, g2] at g1
  rw [g1]
  rfl
theorem getK_read (l : List UInt8) : getK l = if (readK l).2 = (l.length, false) ∧ OkK (readK l).1.1 (readK l).1.2 then some (readK l).1 else none := by
  obtain ⟨k, t, i, b, hr⟩ : ∃ k t i b, readK l = ((k, t), i, b) := ⟨_, _, _, _, rfl⟩
  rw [hr]
  split
  · rename_i h
    simp only [Prod.mk.injEq] at h
    obtain ⟨⟨rfl, rfl⟩, h2⟩ := h
    exact (getK_iff l t k).2 ⟨h2, readK_good hr⟩
  · rename_i h
    refine getK_none fun k' t' hok e => h ?_
    have := readK_put k' t' hok
    rw [e, hr] at this
    simp only [Prod.mk.injEq] at this
    obtain ⟨⟨rfl, rfl⟩, rfl, rfl⟩ := this
    exact ⟨rfl, hok⟩
theorem readV_at (l : List UInt8) : (readV l).2.1 ≤ l.length := by
  have b1 := text_at (l := l) (i := 0) (b := false) (Nat.zero_le _)
  unfold readV
  simp only
  generalize textF l 0 false = x1 at *
  have b2 := mark_at (l := l) (i := x1.2.1) (b := x1.2.2) b1
  generalize markF l x1.2.1 x1.2.2 = x2 at *
  have b3 := (num_at (l := l) (i := x2.2.1) (b := x2.2.2) b2).1
  split
  · exact four_at b3
  · split
    · exact take_at b3
    · exact take_at b2
theorem readK_at (l : List UInt8) : (readK l).2.1 ≤ l.length := by
  have b1 := four_at (l := l) (i := 0) (b := false) (Nat.zero_le _)
  exact text_at b1
end Go.Proofs.YtpeghilfldpgfaaGreatDoor.L9.VP
namespace Go.Proofs.YtpeghilfldpgfaaGreatDoor.L8
open Go.Proofs.YtpeghilfldpgfaaGreatDoor.L5
open Go.RowKit
set_option linter.unusedVariables false
set_option linter.unusedSimpArgs false
set_option maxHeartbeats 1000000 in
theorem size_any (f : ByteArray) (A : Option Addr) (l : List ByteArray) (ca : Nat) (w : World) (ha : Lies w w.heap.size A l) (hl : l.length ≤ 1000000) (hf : f.size ≤ 1000000) (hs : ∀ s ∈ l, s.size ≤ 65535) :
    Calls Tryz.prog 120 #[.string f, .slice A l.length ca] w fun e w' => e = .returned (.int .i64 (LP.need f.size (Bs l) : Nat)) ∧ w = w' := by
  have HA := Lib.hid ha
  have HS := Lib.hid hs
  obtain ⟨n, hn⟩ : ∃ n, n = l.length := ⟨_, rfl⟩
  have HN := Lib.hid hn
  rw [← hn] at hl ⊢
  clear ha hs hn
  go_enter Tryz.func120, Tryz.ntmps120
  go_wp2_with fail
  go_loop [5, 7, 17] (fun nv cv iv => ∃ k : Nat, k ≤ n ∧ iv = .int .i64 k ∧ nv = .int .i64 (f.size + 2 * (n + 1) + LP.sum (Bs (l.take k)) : Nat)) (fun _ _ iv => n - (intOf iv).toNat)
  case atStart => exact ⟨0, Nat.zero_le _, rfl, by simp [Bs, LP.sum]⟩
  case round =>
    obtain ⟨k, hk, rfl, rfl⟩ := hrel
    have hb : LP.sum (Bs (l.take k)) ≤ 65535 * n := Nat.le_trans (sum_bs _ (fun s hs => HS.out s (List.mem_of_mem_take hs))) (Nat.mul_le_mul_left _ (by rw [List.length_take]; omega))
    by_cases hlt : k < n
    · obtain ⟨c, hc⟩ : ∃ c, l[k]? = some c := ⟨_, List.getElem?_eq_getElem (by have := HN.out; omega)⟩
      obtain ⟨a, rfl, hab, hcell⟩ := HA.out k c hc
      have hcs : c.size ≤ 65535 := HS.out c (List.mem_of_getElem? hc)
      have HT := Lib.hid (sum_take l k c hc)
      clear hc hab
      generalize LP.sum (Bs (l.take k)) = q at *
      go_wp2_with fail
      go_round
      case rel => exact ⟨k + 1, by omega, by go_num, by rw [HT.out]; go_num⟩
      case measure => simp [intOf]; omega
    · obtain rfl : k = n := by omega
      have HE : Hid (f.size + 2 * (k + 1) + LP.sum (Bs (l.take k)) = LP.need f.size (Bs l)) := Lib.hid (by
        rw [HN.out, List.take_length]
        unfold LP.need
        rw [bs_length]
        omega)
      rw [HE.out]
      go_wp2_with fail
      go_ret
      exact ⟨rfl, rfl⟩
end Go.Proofs.YtpeghilfldpgfaaGreatDoor.L8
namespace Go.Proofs.YtpeghilfldpgfaaGreatDoor.L10
open Go.RowKit Go.Sort NP
set_option linter.unusedVariables false
set_option linter.unusedSimpArgs false
def Pow (w : World) : Prop := Lib.TabIs Tryz.prog w "internal/strconv.uint64pow10" .u64 Lib.pow10Tab
def ErrT (w : World) : Prop := w.cell? ⟨0, 0, none⟩ = some (.iface 253 (.agg #[.pointer (some ⟨6, 112, none⟩)]))
structure Glo (w : World) : Prop where
  sizes : L7.Sizes w
  pow : Pow w
  errT : ErrT w
theorem pow_named : Tryz.prog.globalNamed "internal/strconv.uint64pow10" = some 3 := by kernel_rfl
theorem Pow.lt {w : World} (h : Pow w) : 3 < w.heap.size := by
  refine Nat.lt_of_not_le fun hn => ?_
  unfold Pow Lib.TabIs World.var? at h
  rw [pow_named] at h
  simp [Array.getElem?_eq_none hn] at h
theorem Pow.on {w w' : World} (h : Pow w) (k : Below w.heap.size w w') : Pow w' := by
  have hl := h.lt
  unfold Pow Lib.TabIs World.var? at *
  rw [pow_named] at *
  simp only [Option.bind_some] at *
  rw [k.block _ hl]
  exact h
theorem ErrT.lt {w : World} (h : ErrT w) : 0 < w.heap.size := by
  refine Nat.lt_of_not_le fun hn => ?_
  unfold ErrT at h
  simp [World.cell?, Array.getElem?_eq_none hn] at h
theorem ErrT.on {w w' : World} (h : ErrT w) (k : Below w.heap.size w w') : ErrT w' := (k.cell (p := ⟨0, 0, none⟩) h.lt).trans h
theorem Glo.on {w w' : World} (h : Glo w) (k : Below w.heap.size w w') : Glo w' := ⟨h.sizes.below h.sizes.lt k, h.pow.on k, h.errT.on k⟩
theorem below_grow (w : World) (k : Nat) (os : Array Obj) : Below w.heap.size w (grow (w.drewN k) os) :=
  ⟨rfl, rfl, rfl, by simp [grow], fun i hi => by
    show (w.heap ++ os)[i]? = w.heap[i]?
    exact Array.getElem?_append_left hi⟩
theorem itoa_any (n : Nat) (hn : n ≤ 1000000) (w : World) (hp : Pow w) : Calls Tryz.prog 150 #[.int .i64 n] w fun e w' => (∃ Z : ByteArray, Z.size ≤ 21 ∧ e = .returned (.string Z)) ∧ Below w.heap.size w w' :=
  (Tryz.strconv_Itoa n (by omega) (by omega) w hp).mono fun e w' ⟨he, k, os, hw⟩ => by
    subst hw
    refine ⟨⟨_, ?_, he⟩, below_grow w k os⟩
    have h := Lib.itoa_length_le n (by omega) (by omega)
    show (Lib.itoa n).toArray.size ≤ 21
    simpa using h
end Go.Proofs.YtpeghilfldpgfaaGreatDoor.L10
