/-
  Walks of package word: functions that only compute.
  Walk of word.highFirst.
  Walks of word.Put, word.told.
  Walk of word.Get.
  Walks of word.Four, word.Read.
  What the walks of layer 9 share.
  A value's box.
  Rows of items: a slice whose elements are items, read and owned; a leaf's box.
  Walks of the document's own answers of layer 1: follow, digits.
  Walks of the document's own answers of layer 1: Put, Read, Get.
-/
import Derived.Test.YtpehkikdmckldaaGreatDoorChecked
import Derived.ProofKit
import Derived.Below
import Derived.Test.YtpehkikdmckldaaGreatDoorJ01
import Derived.Test.YtpehkikdmckldaaGreatDoorJWLen
import Derived.WalkKit
import Derived.WalkSpells
import Derived.WalkLawsBesides
import Derived.Laws.BytesArg
import Derived.Laws.IdiomStrings
import Derived.Lib.Hide
import Derived.Deep.QuietTactic
import Derived.BigQuiet
import Derived.Deep.RegionWith
import Derived.Test.YtpehkikdmckldaaGreatDoorJ02
import Derived.Deep.RegionHeld3
import Derived.Laws.OwnMore
import Derived.Deep.AppendLies
namespace Go.Proofs.YtpehkikdmckldaaGreatDoor.L9
open Go.RowKit

set_option maxHeartbeats 400000 in
theorem follow_any (b : Int) (w : World) (h0 : 0 ≤ b) (h1 : b ≤ 255) :
    Calls Tryz.prog 130 #[.int .u8 b] w fun e w' => e = .returned (.int .i64 (WP.flw b)) ∧ w = w' := by
  go_enter Tryz.func130, Tryz.ntmps130
  go_wp2
  all_goals
    go_ret
    refine ⟨ret_int ?_, rfl⟩
    simp only [beq_iff_eq, beq_eq_false_iff_ne, ne_eq] at *
    unfold WP.flw
    split
    · omega
    · split <;> omega

set_option maxHeartbeats 400000 in
theorem byteLen_any (x : Int) (w : World) (h0 : 0 ≤ x) (h1 : x ≤ 18446744073709551615) :
    Calls Tryz.prog 119 #[.int .u64 x] w fun e w' => e = .returned (.int .i64 (WP.bl x.toNat)) ∧ w = w' := by
  have hb : Lib.bitLen x.toNat ≤ 64 := Lib.bitLen_le _ 64 (by omega) (by omega)
  go_enter Tryz.func119, Tryz.ntmps119
  go_wp2_with (go_at_call 139; refine (len64_any _ _ h0 h1).mono ?_; rintro e w' ⟨rfl, rfl⟩)
  go_ret
  refine ⟨ret_int ?_, rfl⟩
  have := WP.bl_of x.toNat (by omega)
  omega

end Go.Proofs.YtpehkikdmckldaaGreatDoor.L9

namespace Go.Proofs.YtpehkikdmckldaaGreatDoor.L9
open Go.RowKit

theorem Tryz.infoU8 : (Tryz.prog.info? 5).map (fun i => (i.zero, i.size, i.bytes)) = some (some (.int .u8 0), 1, 1) := by kernel_rfl

theorem addr_at (b j : Nat) : (⟨b, 0, none⟩ : Addr).add j = ⟨b, j, none⟩ := by
  unfold Addr.add
  split <;> simp_all
theorem made_zeros (m : Nat) : (madeCells (Value.int .u8 0).cells (m * 1)).toList = List.replicate m (.int .u8 0) := by
  apply List.ext_getElem
  · simp [madeCells]
  · intro i h1 h2
    simp [madeCells, Value.cells, Nat.mod_one]

set_option maxHeartbeats 400000 in
theorem highFirst_any (n c : Int) (w : World) (h0 : 0 ≤ n) (h1 : n ≤ 18446744073709551615) (hc0 : 1 ≤ c) (hc1 : c ≤ 8) :
    Calls Tryz.prog 118 #[.int .u64 n, .int .i64 c] w fun e w' => e = .returned (.string ⟨(Lib.beBytes c.toNat n.toNat).toArray⟩) ∧ Below w.heap.size w w' := by
  obtain ⟨m, rfl⟩ := Int.eq_ofNat_of_zero_le (show 0 ≤ c by omega)
  obtain ⟨i0, hi, hz0, hz1, hz2⟩ := info_parts Tryz.infoU8
  go_enter Tryz.func118, Tryz.ntmps118
  go_wp2_with (at_make; refine wpList_make_full _ rfl _ _ 103 rfl w.heap.size 5 i0 (.int .u8 0) 1 Tryz.underlying103 hi hz0 hz1 _ _ _ _ m rfl rfl rfl rfl (by rw [hz2]; omega) (by unfold maxLen; omega) (Nat.le_refl _) ?_; intro w1 hown1 hg1)
  go_loopw [10] (fun i wr => ∃ k : Nat, k ≤ m ∧ i = .int .i64 k ∧ wr.ownsRow w.heap.size 5 1 (.slice (some ⟨w.heap.size, 0, none⟩) m m) m (WP.cellsAt n m k) ∧ Below w.heap.size w wr) (fun i _ => m - (intOf i).toNat)
  case atStart =>
    refine ⟨0, Nat.zero_le _, rfl, ?_, (Below.refl _ w).grown hg1 (Nat.le_refl _) (by simp)⟩
    rw [WP.cellsAt_zero]
    rwa [made_zeros] at hown1
  case round =>
    obtain ⟨k, hk, rfl, hown, hb⟩ := hrel
    by_cases hlt : k < m
    · have hcell : wr.cell? ⟨w.heap.size, k, none⟩ = some (.int .u8 0) := by
        rw [hown.cellAt k (by omega)]
        simp [WP.cellsAt, hlt]
      have hfr := hown.frozenAt k
      go_wp2
      go_roundw
      case rel =>
        refine ⟨k + 1, by omega, by go_num, ?_, ?_⟩
        · have h := (hown.stored k (.int .u8 (n / 2 ^ (8 * (m - 1 - k)) % 256))).1
          rwa [WP.cellsAt_succ] at h
        · exact hb.setCell (Nat.le_refl _) _
      case measure => simp [intOf]; omega
    · obtain rfl : k = m := by omega
      obtain ⟨v, rfl⟩ := Int.eq_ofNat_of_zero_le h0
      have hcv : (convert 103 9 (.slice (some ⟨w.heap.size, 0, none⟩) k k)).run Tryz.prog wr = .ok (.string ⟨(Lib.beBytes k v).toArray⟩) wr := by
        have h := run_convert_bytes_back (P := Tryz.prog) wr 103 9 5 ⟨w.heap.size, 0, none⟩ k (Lib.beBytes k v) Tryz.underlying103 Tryz.underlying5 Tryz.underlying9 (fun j hj => by
          have hj' : j < k := by simpa [Lib.beBytes_length] using hj
          have e := hown.cellAt j (by omega)
          rw [WP.cellsAt_full v k j hj] at e
          rwa [addr_at])
        rwa [Lib.beBytes_length] at h
      go_wp2
      go_ret
      exact ⟨by simp, hb⟩

end Go.Proofs.YtpehkikdmckldaaGreatDoor.L9

namespace Go.Proofs.YtpehkikdmckldaaGreatDoor.L9
open Go.RowKit

set_option maxHeartbeats 400000 in
theorem put_any (n : Int) (w : World) (h0 : 0 ≤ n) (h1 : n ≤ 18446744073709551615) :
    Calls Tryz.prog 97 #[.int .u64 n] w fun e w' => e = .returned (.string ⟨(WP.put n.toNat).toArray⟩) ∧ Below w.heap.size w w' := by
  rcases (show n ≤ 240 ∨ (240 < n ∧ n ≤ 2287) ∨ (2287 < n ∧ n ≤ 67823) ∨ 67823 < n by omega) with h | h | h | h
  · have Hp := Lib.hid (WP.put_1 n.toNat (by omega))
    go_enter Tryz.func97, Tryz.ntmps97
    go_wp2_with fail
    refine (highFirst_any _ _ _ (by omega) (by omega) (by omega) (by omega)).mono ?_
    rintro e w' ⟨rfl, hb⟩
    go_wp2_with fail
    go_ret
    exact ⟨by rw [Hp.out]; rfl, hb⟩
  · have Hp := Lib.hid (WP.put_2 n.toNat (by omega) (by omega))
    go_enter Tryz.func97, Tryz.ntmps97
    go_wp2_with fail
    refine (highFirst_any _ _ _ (by omega) (by omega) (by omega) (by omega)).mono ?_
    rintro e w' ⟨rfl, hb⟩
    go_wp2_with fail
    go_ret
    refine ⟨?_, hb⟩
    rw [Hp.out, show 61696 + (n.toNat - 240) = (61696 + (n - 240)).toNat by omega]
    rfl
  · have Hp := Lib.hid (WP.put_3 n.toNat (by omega) (by omega))
    go_enter Tryz.func97, Tryz.ntmps97
    go_wp2_with fail
    refine (highFirst_any _ _ _ (by omega) (by omega) (by omega) (by omega)).mono ?_
    rintro e w' ⟨rfl, hb⟩
    go_wp2_with fail
    go_ret
    refine ⟨?_, hb⟩
    rw [Hp.out, show 16318464 + (n.toNat - 2288) = (16318464 + (n - 2287 - 1)).toNat by omega]
    rfl
  · have Hp := Lib.hid (WP.put_4 n.toNat (by omega))
    have hb8 := WP.bl_le8 n.toNat
    have hb3 := WP.bl_ge3 n.toNat (by omega)
    go_enter Tryz.func97, Tryz.ntmps97
    go_wp2_with fail
    refine (byteLen_any _ _ (by omega) (by omega)).mono ?_
    rintro e w' ⟨rfl, rfl⟩
    go_wp2_with fail
    refine (highFirst_any _ _ _ (by omega) (by omega) (by omega) (by omega)).mono ?_
    rintro e w1 ⟨rfl, hb⟩
    go_wp2_with fail
    refine (highFirst_any _ _ _ (by omega) (by omega) (by omega) (by omega)).mono ?_
    rintro e w2 ⟨rfl, hb2⟩
    have hl : ¬ 9223372036854775807 < (Lib.beBytes 1 (247 + WP.bl n.toNat)).length + (Lib.beBytes (WP.bl n.toNat) n.toNat).length := by rw [Lib.beBytes_length, Lib.beBytes_length]; omega
    go_wp2_with fail
    go_ret
    refine ⟨?_, hb.trans (hb2.mono hb.size)⟩
    rw [Hp.out, ← WP.bytes_add]
    rfl

set_option maxHeartbeats 400000 in
theorem told_any (b : Int) (s : ByteArray) (w : World) (h0 : 0 ≤ b) (h1 : b ≤ 255) (hs : (s.size : Int) = WP.flw b) :
    Calls Tryz.prog 131 #[.int .u8 b, .string s] w fun e w' => e = .returned (.int .u64 (WP.told b.toNat s.data.toList)) ∧ w = w' := by
  have HS := Lib.hid hs
  clear hs
  have hs : s.size ≤ 8 := by have := HS.out; unfold WP.flw at this; split at this; omega; split at this <;> omega
  go_enter Tryz.func131, Tryz.ntmps131
  go_wp2
  go_loop [5, 9] (fun n i => ∃ k : Nat, k ≤ s.size ∧ i = .int .i64 k ∧ n = .int .u64 (Lib.beNat (s.data.toList.take k) : Nat)) (fun _ i => s.size - (intOf i).toNat)
  case atStart => exact ⟨0, Nat.zero_le _, rfl, rfl⟩
  case round =>
    obtain ⟨k, hk, rfl, rfl⟩ := hrel
    have hlt0 := WP.beNat_lt (s.data.toList.take k)
    have hl : (s.data.toList.take k).length = k := by simp; omega
    rw [hl] at hlt0
    by_cases hlt : k < s.size
    · have hp := WP.pow256 k (by omega)
      have HB := Lib.hid (WP.beNat_snoc (s.data.toList.take k) s[k])
      rw [← WP.take_snoc s k hlt] at HB
      have HO := Lib.hid (WP.or_hi (Lib.beNat (s.data.toList.take k) : Nat) s[k].toNat (by omega) (by omega) (by omega) (by have := s[k].toNat_lt; omega))
      have hby := s[k].toNat_lt
      clear hl
      generalize Lib.beNat (s.data.toList.take k) = v at *
      go_wp2
      go_round
      case rel =>
        refine ⟨k + 1, by omega, by go_num, ?_⟩
        rw [HB.out, HO.out]
        go_num
      case measure => simp [intOf]; omega
    · obtain rfl : k = s.size := by omega
      have ht : s.data.toList.take s.size = s.data.toList := List.take_of_length_le (by simp)
      rw [ht] at hlt0 ⊢
      have HV : Hid (∃ u, u = Lib.beNat s.data.toList) := Lib.hid ⟨_, rfl⟩
      have hf := HS.out
      clear ht hl
      unfold WP.flw at hf
      rcases (show b < 241 ∨ (241 ≤ b ∧ b < 249) ∨ b = 249 ∨ 249 < b by omega) with h | h | h | h
      · have H := Lib.hid (WP.told_1 b.toNat s.data.toList (by omega))
        clear hf
        generalize Lib.beNat s.data.toList = v at *
        go_wp2
        go_ret
        exact ⟨ret_int (by rw [H.out]; omega), rfl⟩
      · have H := Lib.hid (WP.told_2 b.toNat s.data.toList (by omega) (by omega))
        rw [if_neg (by omega), if_pos (by omega)] at hf
        obtain hf : s.size = 1 := by omega
        rw [hf] at hlt0
        clear hf
        generalize Lib.beNat s.data.toList = v at *
        go_wp2
        go_ret
        exact ⟨ret_int (by rw [H.out]; omega), rfl⟩
      · have H := Lib.hid (WP.told_3 b.toNat s.data.toList (by omega))
        rw [if_neg (by omega), if_neg (by omega)] at hf
        obtain hf : s.size = 2 := by omega
        rw [hf] at hlt0
        clear hf
        generalize Lib.beNat s.data.toList = v at *
        have hne : (b == 249) = true := beq_iff_eq.2 h
        have hge : 249 ≤ b := by omega
        clear h
        go_wp2
        go_ret
        exact ⟨ret_int (by rw [H.out]; omega), rfl⟩
      · have H := Lib.hid (WP.told_4 b.toNat s.data.toList (by omega))
        clear hf
        have hne : (b == 249) = false := beq_eq_false_iff_ne.2 (by omega)
        generalize Lib.beNat s.data.toList = v at *
        go_wp2
        go_ret
        exact ⟨ret_int (by rw [H.out]), rfl⟩

end Go.Proofs.YtpehkikdmckldaaGreatDoor.L9

namespace Go.Proofs.YtpehkikdmckldaaGreatDoor.L9
open Go.RowKit

theorem quiet_of_eq {P : Program} {f : FuncId} {args : Array Value} {w : World} {n : Nat} {v : Value}
    (h : Calls P f args (w.drewN n) fun e w' => e = .returned v ∧ w.drewN n = w') : Calls P f args (w.drewN n) fun e w'' => e = .returned v ∧ ∃ m, w'' = w.drewN m :=
  h.mono fun _ _ ⟨he, hm⟩ => ⟨he, n, hm.symm⟩

theorem below_of_drewN {w w2 : World} {n : Nat} (h : Below (w.drewN n).heap.size (w.drewN n) w2) : Below w.heap.size w w2 := ⟨h.os, h.tape, h.output, h.size, h.block⟩

set_option maxHeartbeats 400000 in
theorem get_end (s : ByteArray) (i : Int) (w : World) (h1 : i = s.size) :
    Calls Tryz.prog 109 #[.string s, .int .i64 i] w fun e w' => e = .returned (.tuple #[.int .u64 0, .int .i64 0, .int .i64 7]) ∧ w = w' := by
  subst h1
  go_enter Tryz.func109, Tryz.ntmps109
  go_wp2_with fail
  go_ret3
  exact ⟨rfl, rfl⟩

set_option maxHeartbeats 400000 in
theorem get_short (s : ByteArray) (i : Nat) (w : World) (h1 : i < s.size) (h3 : (s.size : Int) - i ≤ WP.flw s[i].toNat) (h2 : s.size ≤ maxLen) :
    Calls Tryz.prog 109 #[.string s, .int .i64 i] w fun e w' => e = .returned (.tuple #[.int .u64 0, .int .i64 0, .int .i64 7]) ∧ w = w' := by
  unfold maxLen at h2
  have hne : ((i : Int) == s.size) = false := beq_eq_false_iff_ne.2 (by omega)
  have hby := s[i].toNat_lt
  go_enter Tryz.func109, Tryz.ntmps109
  go_wp2_with fail
  refine (follow_any _ _ (by omega) (by omega)).mono ?_
  rintro e w' ⟨rfl, rfl⟩
  go_wp2_with fail
  go_ret3
  exact ⟨rfl, rfl⟩

set_option maxHeartbeats 1000000 in
theorem get_go (s : ByteArray) (i : Nat) (w : World) (h1 : i < s.size) (f v : Nat) (hf : (f : Int) = WP.flw s[i].toNat) (h3 : i + f < s.size) (h2 : s.size ≤ maxLen)
    (hv : v = WP.told s[i].toNat (s.extract (i + 1) (i + 1 + f)).data.toList) (hvb : v ≤ 18446744073709551615) (q : Bool) (hq : (WP.put v == (s.extract i (i + 1 + f)).toList) = q) :
    Calls Tryz.prog 109 #[.string s, .int .i64 i] w fun e w' => e = .returned (bif q then .tuple #[.int .u64 v, .int .i64 (i + 1 + f : Nat), .int .i64 0] else .tuple #[.int .u64 0, .int .i64 0, .int .i64 3]) ∧ Below w.heap.size w w' := by
  unfold maxLen at h2
  have hne : ((i : Int) == s.size) = false := beq_eq_false_iff_ne.2 (by omega)
  have hby := s[i].toNat_lt
  have HF := Lib.hid hf
  have HT : Hid (∀ W, Calls Tryz.prog 131 #[.int .u8 s[i].toNat, .string (s.extract (i + 1) (i + 1 + f))] W fun e w' => e = .returned (.int .u64 v) ∧ W = w') :=
    Lib.hid (fun W => by
      have h := told_any (s[i].toNat : Int) (s.extract (i + 1) (i + 1 + f)) W (by omega) (by omega) (by rw [← hf]; simp; omega)
      rw [Int.toNat_natCast, ← hv] at h
      exact h)
  have HP : Hid (∀ W, Calls Tryz.prog 97 #[.int .u64 v] W fun e w' => e = .returned (.string ⟨(WP.put v).toArray⟩) ∧ Below W.heap.size W w') :=
    Lib.hid (fun W => by
      have h := put_any (v : Int) W (by omega) (by omega)
      rwa [Int.toNat_natCast] at h)
  clear hf hv
  have hlt : i + 1 + f ≤ s.size := by omega
  generalize WP.put v = pv at *
  cases q
  all_goals
    go_enter Tryz.func109, Tryz.ntmps109
    go_wp2_with fail
    refine (follow_any _ _ (by omega) (by omega)).mono ?_
    rintro e w' ⟨rfl, rfl⟩
    rw [← HF.out]
    go_wp2_with fail
    refine (follow_any _ _ (by omega) (by omega)).mono ?_
    rintro e w' ⟨rfl, rfl⟩
    rw [← HF.out]
    go_wp2_with fail
    have q1 : IntKind.i64.wrap ((i : Int) + 1) = (i : Int) + 1 := IntWalk.i64_in _ (by omega)
    have q2 : (0 : Int) ≤ (i : Int) + 1 := by omega
    have q3 : ((i : Int) + 1).toNat = i + 1 := by omega
    have q4 : ((i : Int) + 1 + f).toNat = i + 1 + f := by omega
    have q5 : (0 : Int) ≤ (i : Int) + 1 + f := by omega
    have q6 : (i : Int) + 1 + f ≤ s.size := by omega
    have q7 : (i : Int) + 1 ≤ (i : Int) + 1 + f := by omega
    go_quiet ((go_at_call 131; exact quiet_of_eq (HT.out _)))
    go_wp2_with fail
    go_region_with (go_at_call 97; refine (HP.out _).mono ?_; rintro e w2 ⟨rfl, hb2⟩)
    all_goals clear q1 q2 q3 q4 q5 q6 q7
    all_goals go_wp2_with fail
    all_goals go_ret3
    all_goals refine ⟨?_, ?_⟩
  all_goals first
    | exact rfl
    | exact below_of_drewN hb2

theorem get_any (s : ByteArray) (i : Int) (w : World) (h0 : 0 ≤ i) (h1 : i ≤ s.size) (h2 : s.size ≤ maxLen) :
    Calls Tryz.prog 109 #[.string s, .int .i64 i] w fun e w' => e = .returned (.tuple #[.int .u64 (WP.get s.data.toList i.toNat).1, .int .i64 (WP.get s.data.toList i.toNat).2.1, .int .i64 (WP.get s.data.toList i.toNat).2.2]) ∧ Below w.heap.size w w' := by
  obtain ⟨a, rfl⟩ := Int.eq_ofNat_of_zero_le h0
  rw [Int.toNat_natCast]
  by_cases he : a < s.size
  · have hn := WP.flw_nn s[a].toNat
    by_cases hs : (s.size : Int) - a ≤ WP.flw s[a].toNat
    · rw [WP.get_short s a he hs]
      exact (get_short s a w he hs h2).mono fun e w' ⟨h, h'⟩ => ⟨h, h' ▸ Below.refl _ _⟩
    · obtain ⟨f, hf⟩ := Int.eq_ofNat_of_zero_le hn
      have hl : (((s.extract (a + 1) (a + 1 + f)).data.toList.length : Nat) : Int) = WP.flw s[a].toNat := by rw [Lib.extract_data]; simp; omega
      have hvb := WP.told_le s[a].toNat _ (by have := s[a].toNat_lt; omega) hl
      rw [WP.get_rest s a f he hf.symm (by omega)]
      have H := get_go s a w he f _ hf.symm (by omega) h2 rfl hvb _ rfl
      by_cases hq : WP.put (WP.told s[a].toNat (s.extract (a + 1) (a + 1 + f)).data.toList) = (s.extract a (a + 1 + f)).toList
      · rw [if_pos hq]
        rw [beq_iff_eq.2 hq] at H
        exact H
      · rw [if_neg hq]
        rw [beq_eq_false_iff_ne.2 hq] at H
        exact H
  · rw [WP.get_end _ a (by simp; omega)]
    exact (get_end s a w (by omega)).mono fun e w' ⟨h, h'⟩ => ⟨h, h' ▸ Below.refl _ _⟩

end Go.Proofs.YtpehkikdmckldaaGreatDoor.L9

namespace Go.Proofs.YtpehkikdmckldaaGreatDoor.L9
open Go.RowKit

set_option maxHeartbeats 400000 in
theorem four_any (n : Int) (w : World) (h0 : 0 ≤ n) (h1 : n ≤ 4294967295) :
    Calls Tryz.prog 96 #[.int .u32 n] w fun e w' => e = .returned (.string ⟨(Lib.leBytes 4 n.toNat).toArray⟩) ∧ Below w.heap.size w w' := by
  go_enter Tryz.func96, Tryz.ntmps96
  go_wp2
  go_loopw [5] (fun i wr => ∃ k : Nat, k ≤ 4 ∧ i = .int .i64 k ∧ Hid (wr.heap[w.heap.size]? = some (.cells (WP.fourAt n k) 192 (0, 0))) ∧ Below w.heap.size w wr) (fun i _ => 4 - (intOf i).toNat)
  case atStart =>
    exact ⟨0, Nat.zero_le _, rfl, Lib.hid (heap_alloc_new _ _), (Below.refl _ w).alloc (Nat.le_refl _) _⟩
  case round =>
    obtain ⟨k, hk, rfl, hh, hb⟩ := hrel
    by_cases hlt : k < 4
    · have hcell : wr.cell? ⟨w.heap.size, k, none⟩ = some (.int .u8 0) := by
        rw [cell_of_row _ _ k _ _ _ hh.out]
        exact WP.fourAt_get n k k (Nat.le_refl _) hlt
      have hfr := frozen_of_row _ _ k _ _ hh.out
      go_wp2
      go_roundw
      case rel =>
        refine ⟨k + 1, by omega, by go_num, ?_, ?_⟩
        · have h := heap_setCell_same wr _ k _ _ (.int .u8 (n / 2 ^ (8 * k) % 256)) hh.out
          rw [WP.fourAt_succ] at h
          exact Lib.hid h
        · exact hb.setCell (Nat.le_refl _) _
      case measure => simp [intOf]; omega
    · obtain rfl : k = 4 := by omega
      obtain ⟨v, rfl⟩ := Int.eq_ofNat_of_zero_le h0
      have hcv : ∀ c, (convert 103 9 (.slice (some ⟨w.heap.size, 0, none⟩) 4 c)).run Tryz.prog wr = .ok (.string ⟨(Lib.leBytes 4 v).toArray⟩) wr := fun c =>
        run_convert_bytes_back (P := Tryz.prog) wr 103 9 5 ⟨w.heap.size, 0, none⟩ c (Lib.leBytes 4 v) Tryz.underlying103 Tryz.underlying5 Tryz.underlying9 (fun j hj => by
          have e := cell_of_row _ _ j _ _ _ hh.out
          rw [WP.fourAt_full v j hj] at e
          rwa [addr_at])
      go_wp2
      go_ret
      exact ⟨by simp, hb⟩

set_option maxHeartbeats 400000 in
theorem read_any (s : ByteArray) (i : Int) (w : World) (h0 : 0 ≤ i) (h1 : i + 4 ≤ s.size) (h2 : s.size ≤ maxLen) :
    Calls Tryz.prog 129 #[.string s, .int .i64 i] w fun e w' => e = .returned (.tuple #[.int .u32 (Lib.leNat ((s.data.toList.drop i.toNat).take 4)), .int .i64 0]) ∧ w = w' := by
  obtain ⟨a, rfl⟩ := Int.eq_ofNat_of_zero_le h0
  unfold maxLen at h2
  have d1 : decide ((a : Int) < 0) = false := decide_eq_false (by omega)
  have d2 : decide (s.size < a) = false := decide_eq_false (by omega)
  have d3 : decide ((s.size : Int) - a < 4) = false := decide_eq_false (by omega)
  go_enter Tryz.func129, Tryz.ntmps129
  go_wp2
  go_loop [6, 21] (fun n i => ∃ k : Nat, k ≤ 4 ∧ i = .int .i64 k ∧ n = .int .u32 (Lib.leNat ((s.data.toList.drop a).take k) : Nat)) (fun _ i => 4 - (intOf i).toNat)
  case atStart => exact ⟨0, Nat.zero_le _, rfl, rfl⟩
  case round =>
    obtain ⟨k, hk, rfl, rfl⟩ := hrel
    by_cases hlt : k < 4
    · have HO := Lib.hid (WP.rd_step s a k (by omega) hlt)
      go_wp2
      go_round
      case rel =>
        refine ⟨k + 1, by omega, by go_num, ?_⟩
        rw [← HO.out]
      case measure => simp [intOf]; omega
    · obtain rfl : k = 4 := by omega
      go_wp2
      go_ret2
      exact ⟨rfl, rfl⟩

set_option maxHeartbeats 400000 in
theorem read_short (s : ByteArray) (i : Int) (w : World) (h0 : 0 ≤ i) (h1 : i ≤ s.size) (h3 : (s.size : Int) < i + 4) :
    Calls Tryz.prog 129 #[.string s, .int .i64 i] w fun e w' => e = .returned (.tuple #[.int .u32 0, .int .i64 7]) ∧ w = w' := by
  go_enter Tryz.func129, Tryz.ntmps129
  go_wp2
  go_ret2
  exact ⟨rfl, rfl⟩

end Go.Proofs.YtpehkikdmckldaaGreatDoor.L9

namespace Go.Proofs.YtpehkikdmckldaaGreatDoor.L9
open Go.RowKit
set_option linter.unusedVariables false

theorem below_alloc (w : World) (o : Obj) : Below w.heap.size w (w.alloc o) := (Below.refl _ w).alloc (Nat.le_refl _) o
theorem below_of_drew {w w2 : World} (h : Below w.drew.heap.size w.drew w2) : Below w.heap.size w w2 := ⟨h.os, h.tape, h.output, h.size, h.block⟩
theorem cut_min (s : ByteArray) (c : Int) (hc : 0 ≤ c) : ∃ m : Nat, min (s.size : Int) c = m ∧ (m : Int) ≤ c ∧ m ≤ s.size ∧ min m s.size = m ∧ (s.extract 0 m).size = m := by
  refine ⟨min s.size c.toNat, by omega, by omega, by omega, by omega, ?_⟩
  simp
end Go.Proofs.YtpehkikdmckldaaGreatDoor.L9

namespace Go.Proofs.YtpehkikdmckldaaGreatDoor.L9
open Go.RowKit
set_option linter.unusedVariables false

/-- A value. -/
abbrev vv (O : Bool) (S : ByteArray) (L P : Int) : Value := .agg #[.bool O, .string S, .int .i64 L, .int .i64 P]
abbrev pv (O : Bool) (S : ByteArray) (L P : Int) : VP.V := ⟨O, S.data.toList, L, P⟩
/-- Its box. -/
def Bx (t : TypeId) (g : Nat) (O : Bool) (S : ByteArray) (L P : Int) (w : World) : Prop := w.heap[g]? = some (.cells #[.bool O, .string S, .int .i64 L, .int .i64 P] t (0, 0))
section
variable {t : TypeId} {g : Nat} {O : Bool} {S : ByteArray} {L P : Int} {w w' : World}
theorem Bx.cells (k : Bx t g O S L P w) : w.cell? ⟨g, 0, none⟩ = some (.bool O) ∧ w.cell? ⟨g, 1, none⟩ = some (.string S) ∧ w.cell? ⟨g, 2, none⟩ = some (.int .i64 L) ∧ w.cell? ⟨g, 3, none⟩ = some (.int .i64 P) := by
  unfold Bx at k
  refine ⟨?_, ?_, ?_, ?_⟩ <;> simp [World.cell?, k]
theorem Bx.free (k : Bx t g O S L P w) : w.frozen? ⟨g, 0, none⟩ = false ∧ w.frozen? ⟨g, 1, none⟩ = false ∧ w.frozen? ⟨g, 2, none⟩ = false ∧ w.frozen? ⟨g, 3, none⟩ = false := by
  unfold Bx at k
  refine ⟨?_, ?_, ?_, ?_⟩ <;> simp [World.frozen?, k]
theorem Bx.lt (k : Bx t g O S L P w) : g < w.heap.size := (Array.getElem?_eq_some_iff.1 k).1
theorem Bx.below (k : Bx t g O S L P w) (b : Below w.heap.size w w') : Bx t g O S L P w' := (b.block g k.lt).trans k
/-- What a region holds of it. -/
def HasBx (t : TypeId) (g : Nat) (O : Bool) (S : ByteArray) (L P : Int) (w : World) : Prop := Hid (Bx t g O S L P w) ∧ w.cell? ⟨g, 0, none⟩ = some (.bool O) ∧ w.cell? ⟨g, 1, none⟩ = some (.string S) ∧ w.cell? ⟨g, 2, none⟩ = some (.int .i64 L) ∧ w.cell? ⟨g, 3, none⟩ = some (.int .i64 P)
theorem hasBx (k : Bx t g O S L P w) : HasBx t g O S L P w := ⟨Lib.hid k, k.cells⟩
theorem HasBx.below (k : HasBx t g O S L P w) (b : Below w.heap.size w w') : HasBx t g O S L P w' := hasBx (k.1.out.below b)
end
theorem Bx.new (t : TypeId) (O : Bool) (S : ByteArray) (L P : Int) (w : World) : Bx t w.heap.size O S L P (w.alloc (.cells #[.bool O, .string S, .int .i64 L, .int .i64 P] t)) := heap_alloc_new _ _
/-- A value is stored into its box. -/
def set4 (w : World) (g : Nat) (O : Bool) (S : ByteArray) (L P : Int) : World := (((w.setCell ⟨g, 0, none⟩ (.bool O)).setCell ⟨g, 1, none⟩ (.string S)).setCell ⟨g, 2, none⟩ (.int .i64 L)).setCell ⟨g, 3, none⟩ (.int .i64 P)
theorem set4_box {t : TypeId} {w : World} {g : Nat} {O : Bool} {S : ByteArray} {L P : Int} (k : Bx t g O S L P w) (O' : Bool) (S' : ByteArray) (L' P' : Int) : Bx t g O' S' L' P' (set4 w g O' S' L' P') := by
  unfold Bx at *
  unfold set4
  have h0 := heap_setCell_same w g 0 _ _ (.bool O') k
  have h1 := heap_setCell_same _ g 1 _ _ (.string S') h0
  have h2 := heap_setCell_same _ g 2 _ _ (.int .i64 L') h1
  have h3 := heap_setCell_same _ g 3 _ _ (.int .i64 P') h2
  exact h3
theorem set4_other {w : World} {g q : Nat} (h : q ≠ g) (O : Bool) (S : ByteArray) (L P : Int) : (set4 w g O S L P).heap[q]? = w.heap[q]? := by
  unfold set4
  have hh : ∀ (W : World) (o : Nat) (v : Value), (W.setCell ⟨g, o, none⟩ v).heap[q]? = W.heap[q]? := fun W o v => Below.heap_setCell W ⟨g, o, none⟩ v q (fun e' => h (by first | exact e' | exact e'.symm))
  rw [hh, hh, hh, hh]
theorem set4_size (w : World) (g : Nat) (O : Bool) (S : ByteArray) (L P : Int) : (set4 w g O S L P).heap.size = w.heap.size := by
  unfold set4
  simp
theorem set4_below {w W : World} {c g : Nat} (h : Below c w W) (hg : c ≤ g) (O : Bool) (S : ByteArray) (L P : Int) : Below c w (set4 W g O S L P) :=
  (((h.setCell (p := ⟨g, 0, none⟩) hg _).setCell (p := ⟨g, 1, none⟩) hg _).setCell (p := ⟨g, 2, none⟩) hg _).setCell (p := ⟨g, 3, none⟩) hg _
end Go.Proofs.YtpehkikdmckldaaGreatDoor.L9

namespace Go.Proofs.YtpehkikdmckldaaGreatDoor
open Go.RowKit NP
set_option linter.unusedVariables false

/-- An item's five cells. -/
def five (x : It) : List Value := [.string x.k, .bool x.o, .string x.s, .int .i64 x.l, .int .i64 x.p]
def fives (l : List It) : List Value := l.flatMap five
theorem fives_append (l m : List It) : fives (l ++ m) = fives l ++ fives m := by simp [fives]
theorem fives_one (c : It) : fives [c] = five c := by simp [fives]
theorem fives_length : ∀ (l : List It), (fives l).length = l.length * 5
  | [] => rfl
  | c :: l => by
    have := fives_length l
    simp only [fives, List.flatMap_cons, List.length_append, List.length_cons] at *
    rw [this]
    simp [five]
    omega
theorem fives_get : ∀ (l : List It) (i j : Nat) (c : It) (v : Value), l[i]? = some c → (five c)[j]? = some v → (fives l)[i * 5 + j]? = some v
  | [], i, j, c, v, h, _ => by simp at h
  | d :: l, 0, j, c, v, h, hv => by
    simp at h
    subst h
    have hj : j < (five d).length := (List.getElem?_eq_some_iff.1 hv).1
    rw [fives, List.flatMap_cons, List.getElem?_append_left (by simpa using hj)]
    simpa using hv
  | d :: l, i + 1, j, c, v, h, hv => by
    have := fives_get l i j c v (by simpa using h) hv
    rw [fives, List.flatMap_cons, List.getElem?_append_right (by simp [five]; omega)]
    rw [show (i + 1) * 5 + j - (five d).length = i * 5 + j by simp [five]; omega]
    exact this
theorem fives_snoc (l : List It) (k : Nat) (c : It) (hc : l[k]? = some c) : fives (l.take (k + 1)) = fives (l.take k) ++ five c := by
  have h : l.take (k + 1) = l.take k ++ [c] := by rw [List.take_add_one, hc]; rfl
  rw [h, fives_append, fives_one]
theorem five_one (K : ByteArray) (O : Bool) (S : ByteArray) (L P : Int) : ∀ u ∈ [Value.string K, .bool O, .string S, .int .i64 L, .int .i64 P], u.oneCell' = true := by simp [Value.oneCell']

/-- Behind an address below block B stand these items. -/
def Lies5 (w : World) (B : Nat) (A : Option Addr) (l : List It) : Prop :=
  ∀ i c, l[i]? = some c → ∃ a, A = some a ∧ a.block < B ∧ ∀ j v, (five c)[j]? = some v → w.cell? ((a.add (i * 5)).add j) = some v
section
variable {w w' : World} {B B' : Nat} {A : Option Addr} {l : List It}
theorem Lies5.nil (w : World) (B : Nat) (A : Option Addr) : Lies5 w B A [] := fun i c h => by simp at h
theorem Lies5.keep (h : Lies5 w B A l) (hk : ∀ p : Addr, p.block < B → w'.cell? p = w.cell? p) : Lies5 w' B A l := fun i c hc => by
  obtain ⟨a, e, hb, hx⟩ := h i c hc
  exact ⟨a, e, hb, fun j v hv => (hk _ (by rw [L5.addr_block, L5.addr_block]; exact hb)).trans (hx j v hv)⟩
theorem Lies5.more (h : Lies5 w B A l) (hB : B ≤ B') : Lies5 w B' A l := fun i c hc => by
  obtain ⟨a, e, hb, hx⟩ := h i c hc
  exact ⟨a, e, by omega, hx⟩
theorem Lies5.below (h : Lies5 w B A l) (b : Below B w w') : Lies5 w' B A l := h.keep fun _ hp => b.cell hp
theorem Lies5.below' {C : Nat} (h : Lies5 w B A l) (b : Below C w w') (hC : B ≤ C) : Lies5 w' B A l := h.keep fun _ hp => b.cell (by omega)
theorem Lies5.on (h : Lies5 w w.heap.size A l) (b : Below w.heap.size w w') : Lies5 w' w'.heap.size A l := (h.below b).more b.size
theorem Lies5.take (h : Lies5 w B A l) (k : Nat) : Lies5 w B A (l.take k) := fun i c hc => by
  refine h i c ?_
  rw [List.getElem?_take] at hc
  split at hc
  · exact hc
  · simp at hc
/-- The cells of one item, as the walk asks for them. -/
def At5 (w : World) (a : Addr) (K : ByteArray) (O : Bool) (S : ByteArray) (L P : Int) : Prop :=
  w.cell? a = some (.string K) ∧ w.cell? ⟨a.block, a.off + 1, none⟩ = some (.bool O) ∧ w.cell? ⟨a.block, a.off + 2, none⟩ = some (.string S) ∧ w.cell? ⟨a.block, a.off + 3, none⟩ = some (.int .i64 L) ∧ w.cell? ⟨a.block, a.off + 4, none⟩ = some (.int .i64 P)
theorem Lies5.load (h : Lies5 w B A l) {i : Nat} {K : ByteArray} {O : Bool} {S : ByteArray} {L P : Int} (hc : l[i]? = some ⟨K, O, S, L, P⟩) : ∃ a, A = some a ∧ a.block < B ∧ At5 w (a.add (i * 5)) K O S L P := by
  obtain ⟨a, e, hb, hx⟩ := h i _ hc
  exact ⟨a, e, hb, hx 0 _ rfl, hx 1 _ rfl, hx 2 _ rfl, hx 3 _ rfl, hx 4 _ rfl⟩
end
/-- A row that the call owns, read. -/
theorem lies5_own {w : World} {base e : Nat} {A : Option Addr} {n cap : Nat} {l : List It} (h : w.ownsRow base e 5 (.slice A n cap) n (fives l)) (hn : n = l.length) : Lies5 w w.heap.size A l := fun i c hc => by
  have hi : i < l.length := (List.getElem?_eq_some_iff.1 hc).1
  obtain ⟨g, cap', hv, _, hlt⟩ := h.form (by omega)
  have hA : A = some ⟨g, 0, none⟩ := by injection hv
  subst hA
  refine ⟨_, rfl, hlt, fun j v hv => ?_⟩
  rw [L5.addr_add]
  exact h.cells (g := g) rfl _ _ (fives_get l i j c v hc hv)
/-- A row of five-celled elements of the call's own stays where what lies below stays. -/
theorem own5_below {base e n : Nat} {v : Value} {xs : List Value} {w w' : World} (h : w.ownsRow base e 5 v n xs) (k : Below w.heap.size w w') : w'.ownsRow base e 5 v n xs := by
  refine h.kept (row := none) ⟨k.os, k.tape, k.output, k.size, fun i hi _ => k.block i hi⟩ ?_
  cases hv : v.ownBlock with
  | none => exact .inl rfl
  | some x => exact .inr (by simp)
theorem own5_empty (w : World) (e : Nat) : (w.alloc (.cells #[] e)).ownsRow w.heap.size e 5 (.slice (some ⟨w.heap.size, 0, none⟩) 0 0) 0 [] :=
  ⟨by simp, .inr ⟨w.heap.size, 0, #[], rfl, Nat.le_refl _, heap_alloc_new w _, by omega, by unfold maxLen; omega, by simp, by simp⟩⟩
theorem own5_nil (w : World) (base e : Nat) : w.ownsRow base e 5 (.slice none 0 0) 0 [] := ⟨by simp, .inl ⟨rfl, rfl⟩⟩
theorem own5_apart {w w' : World} {base e n q : Nat} {v : Value} {xs : List Value} (h : w.ownsRow base e 5 v n xs) (hg : w.grownBy w' v.ownBlock) (hb : q ≤ base) (hq : q ≤ w.heap.size) : Below q w w' :=
  (Below.refl q w).grown hg hq (fun k hk => by
    rcases h.2 with ⟨rfl, _⟩ | ⟨g, cap, cur, rfl, hg', _⟩
    · simp [Value.ownBlock] at hk
    · simp [Value.ownBlock] at hk; omega)
theorem own5_form {w : World} {base e n : Nat} {v : Value} {xs : List Value} (h : w.ownsRow base e 5 v n xs) (hn : 0 < n) : ∃ g cap, v = .slice (some ⟨g, 0, none⟩) n cap := by
  obtain ⟨g, cap', hv, _, hlt⟩ := h.form hn
  exact ⟨g, cap', hv⟩

/-- A leaf. -/
abbrev lv (F R : Int) (H : ByteArray) (A : Option Addr) (n cap : Nat) : Value := .agg #[.int .i64 F, .int .i64 R, .string H, .slice A n cap]
/-- Its box. -/
def LBx (t : TypeId) (g : Nat) (F R : Int) (H : ByteArray) (A : Option Addr) (n cap : Nat) (w : World) : Prop := w.heap[g]? = some (.cells #[.int .i64 F, .int .i64 R, .string H, .slice A n cap] t (0, 0))
section
variable {t : TypeId} {g : Nat} {F R : Int} {H : ByteArray} {A : Option Addr} {n cap : Nat} {w w' : World}
theorem LBx.cells (k : LBx t g F R H A n cap w) : w.cell? ⟨g, 0, none⟩ = some (.int .i64 F) ∧ w.cell? ⟨g, 1, none⟩ = some (.int .i64 R) ∧ w.cell? ⟨g, 2, none⟩ = some (.string H) ∧ w.cell? ⟨g, 3, none⟩ = some (.slice A n cap) := by
  unfold LBx at k
  refine ⟨?_, ?_, ?_, ?_⟩ <;> simp [World.cell?, k]
theorem LBx.free (k : LBx t g F R H A n cap w) : w.frozen? ⟨g, 0, none⟩ = false ∧ w.frozen? ⟨g, 1, none⟩ = false ∧ w.frozen? ⟨g, 2, none⟩ = false ∧ w.frozen? ⟨g, 3, none⟩ = false := by
  unfold LBx at k
  refine ⟨?_, ?_, ?_, ?_⟩ <;> simp [World.frozen?, k]
theorem LBx.lt (k : LBx t g F R H A n cap w) : g < w.heap.size := (Array.getElem?_eq_some_iff.1 k).1
theorem LBx.below (k : LBx t g F R H A n cap w) (b : Below w.heap.size w w') : LBx t g F R H A n cap w' := (b.block g k.lt).trans k
theorem LBx.on {c : Nat} (k : LBx t g F R H A n cap w) (b : Below c w w') (hg : g < c) : LBx t g F R H A n cap w' := (b.block g hg).trans k
/-- What a region holds of it. -/
def HasL (t : TypeId) (g : Nat) (F R : Int) (H : ByteArray) (A : Option Addr) (n cap : Nat) (w : World) : Prop := Hid (LBx t g F R H A n cap w) ∧ w.cell? ⟨g, 0, none⟩ = some (.int .i64 F) ∧ w.cell? ⟨g, 1, none⟩ = some (.int .i64 R) ∧ w.cell? ⟨g, 2, none⟩ = some (.string H) ∧ w.cell? ⟨g, 3, none⟩ = some (.slice A n cap)
theorem hasL (k : LBx t g F R H A n cap w) : HasL t g F R H A n cap w := ⟨Lib.hid k, k.cells⟩
theorem HasL.below (k : HasL t g F R H A n cap w) (b : Below w.heap.size w w') : HasL t g F R H A n cap w' := hasL (k.1.out.below b)
end
theorem LBx.new (t : TypeId) (F R : Int) (H : ByteArray) (A : Option Addr) (n cap : Nat) (w : World) : LBx t w.heap.size F R H A n cap (w.alloc (.cells #[.int .i64 F, .int .i64 R, .string H, .slice A n cap] t)) := heap_alloc_new _ _
end Go.Proofs.YtpehkikdmckldaaGreatDoor

namespace Go.Proofs.YtpehkikdmckldaaGreatDoor.L9
open Go.RowKit
set_option linter.unusedVariables false

set_option maxHeartbeats 400000 in
theorem rfollow_any (b : Int) (w : World) (h0 : 0 ≤ b) (h1 : b ≤ 255) :
    Calls Tryz.prog 90 #[.int .u8 b] w fun e w' => e = .returned (.int .i64 (WP.flw b)) ∧ w = w' := by
  go_enter Tryz.func90, Tryz.ntmps90
  go_wp2
  all_goals
    go_ret
    refine ⟨ret_int ?_, rfl⟩
    try simp only [beq_iff_eq, beq_eq_false_iff_ne, ne_eq] at *
    unfold WP.flw
    (repeat' split) <;> omega

/-- the cells of bytes -/
def byteCells (l : List UInt8) : List Value := l.map fun b => .int .u8 b.toNat

theorem leBytes_snoc : ∀ (k v : Nat), Lib.leBytes (k + 1) v = Lib.leBytes k v ++ [(v / 256 ^ k % 256).toUInt8]
  | 0, v => by simp [Lib.leBytes]
  | k + 1, v => by
    have h := leBytes_snoc k (v / 256)
    rw [show Lib.leBytes (k + 1 + 1) v = (v % 256).toUInt8 :: Lib.leBytes (k + 1) (v / 256) from rfl, h, Nat.div_div_eq_div_mul, Nat.pow_succ, Nat.mul_comm 256]
    rfl
theorem beBytes_succ (k v : Nat) : Lib.beBytes (k + 1) v = (v / 256 ^ k % 256).toUInt8 :: Lib.beBytes k v := by
  unfold Lib.beBytes
  rw [leBytes_snoc]
  simp

theorem own_new {w : World} {base : Nat} {t : TypeId} (c : Value) (h : base ≤ w.heap.size) : (w.alloc (.cells #[c] t)).ownsRow base t 1 (.slice (some ⟨w.heap.size, 0, none⟩) 1 1) 1 [c] :=
  ⟨rfl, .inr ⟨w.heap.size, 1, #[c], rfl, h, heap_alloc_new _ _, Nat.le_refl _, by unfold maxLen; omega, rfl, rfl⟩⟩
theorem own_none {w : World} {base : Nat} {t : TypeId} (h : base ≤ w.heap.size) : (w.alloc (.cells #[] t)).ownsRow base t 1 (.slice (some ⟨w.heap.size, 0, none⟩) 0 0) 0 [] :=
  ⟨rfl, .inr ⟨w.heap.size, 0, #[], rfl, h, heap_alloc_new _ _, Nat.le_refl _, by unfold maxLen; omega, rfl, rfl⟩⟩
theorem own_shape {w : World} {base : Nat} {t : TypeId} {v : Value} {n : Nat} {xs : List Value} (h : w.ownsRow base t 1 v n xs) (h0 : 0 < n) : ∃ g cap, v = .slice (some ⟨g, 0, none⟩) n cap ∧ base ≤ g := by
  rcases h.2 with ⟨_, h⟩ | ⟨g, cap, _, h, hb, _⟩
  · omega
  · exact ⟨g, cap, h, hb⟩

theorem bl_of_div (n k : Nat) (hn : n ≤ 18446744073709551615) (hk : 0 < k) (h1 : 0 < n / 256 ^ (k - 1)) (h2 : n / 256 ^ k = 0) : k = WP.bl n := by
  have hp : 0 < 256 ^ k := Nat.pow_pos (by omega)
  have hlt : n < 256 ^ k := by rcases Nat.lt_or_ge n (256 ^ k) with h | h; exact h; have := Nat.div_pos h hp; omega
  have hge : 256 ^ (k - 1) ≤ n := by rcases Nat.lt_or_ge n (256 ^ (k - 1)) with h | h; rw [Nat.div_eq_of_lt h] at h1; omega; exact h
  have hk8 : k ≤ 8 := by
    rcases Nat.lt_or_ge 8 k with h | h
    · have : 256 ^ 8 ≤ 256 ^ (k - 1) := Nat.pow_le_pow_right (by omega) (by omega)
      omega
    · exact h
  unfold WP.bl
  rcases (show k = 1 ∨ k = 2 ∨ k = 3 ∨ k = 4 ∨ k = 5 ∨ k = 6 ∨ k = 7 ∨ k = 8 by omega) with rfl | rfl | rfl | rfl | rfl | rfl | rfl | rfl
  all_goals
    simp only [Nat.reduceSub, Nat.reducePow, Nat.pow_zero] at hge hlt
    (repeat' split) <;> omega

set_option maxHeartbeats 400000 in
theorem digits_any (n : Nat) (w : World) (h0 : 0 < n) (h1 : n ≤ 18446744073709551615) :
    Calls Tryz.prog 106 #[.int .u64 n] w fun e w' => ∃ g cap, e = .returned (.slice (some ⟨g, 0, none⟩) (WP.bl n) cap) ∧ w'.ownsRow w.heap.size 5 1 (.slice (some ⟨g, 0, none⟩) (WP.bl n) cap) (WP.bl n) (byteCells (Lib.beBytes (WP.bl n) n)) ∧ Below w.heap.size w w' := by
  obtain ⟨i0, hi, hz0, hz1, hz2⟩ := info_parts Tryz.infoU8
  go_enter Tryz.func106, Tryz.ntmps106
  go_wp2_with fail
  go_loopw [0, 3] (fun nv out wr => ∃ (k g cap : Nat), k ≤ 8 ∧ nv = .int .u64 (n / 256 ^ k : Nat) ∧ out = .slice (some ⟨g, 0, none⟩) k cap ∧ wr.ownsRow w.heap.size 5 1 (.slice (some ⟨g, 0, none⟩) k cap) k (byteCells (Lib.beBytes k n)) ∧ Below w.heap.size w wr ∧ Hid (k = 0 ∨ 0 < n / 256 ^ (k - 1))) (fun nv _ _ => (intOf nv).toNat)
  case atStart => exact ⟨0, w.heap.size, 0, by omega, by simp, rfl, own_none (Nat.le_refl _), (Below.refl _ w).alloc (Nat.le_refl _) _, Lib.hid (.inl rfl)⟩
  case round =>
    obtain ⟨k, g, cap, hk, rfl, rfl, hown, hb, hpos⟩ := hrel
    by_cases hlt : 0 < n / 256 ^ k
    · have hk7 : k ≤ 7 := by
        rcases Nat.lt_or_ge k 8 with h | h
        · omega
        · obtain rfl : k = 8 := by omega
          omega
      have HB := Lib.hid (beBytes_succ k n)
      have HD : Hid (n / 256 ^ (k + 1) = n / 256 ^ k / 256) := Lib.hid (by rw [Nat.pow_succ, Nat.div_div_eq_div_mul])
      have hbs := hb.size
      have HP : Hid (0 < n / 256 ^ (k + 1 - 1)) := Lib.hid (by rw [Nat.add_sub_cancel]; exact hlt)
      have hvn : n / 256 ^ k ≤ n := Nat.div_le_self _ _
      have hlen : (byteCells (Lib.beBytes k n)).length = k * 1 := by simp [byteCells, Lib.beBytes_length]
      have hone : ∀ u ∈ byteCells (Lib.beBytes k n), u.oneCell' = true := by
        intro u hu
        simp only [byteCells, List.mem_map] at hu
        obtain ⟨b, _, rfl⟩ := hu
        rfl
      have hcells : ∀ (c : Value) (j : Nat) (u : Value), (byteCells (Lib.beBytes k n))[j]? = some u → (wr.alloc (.cells #[c] 5)).cell? ((⟨g, 0, none⟩ : Addr).add j) = some u := by
        intro c j u hj
        have hjl : j < k := by
          have := (List.getElem?_eq_some_iff.1 hj).1
          rw [hlen] at this; omega
        rw [addr_at, (hown.alloc _).cellAt j (by omega), hj]
      have HLen := Lib.hid hlen
      have HOne := Lib.hid hone
      have HCells := Lib.hid hcells
      clear hlen hone hcells
      generalize n / 256 ^ k = v at *
      go_wp2_with (at_builtin; refine wpList_append_own _ rfl _ _ 103 rfl w.heap.size 5 i0 (.int .u8 0) 1 1 Tryz.underlying103 hi hz0 hz1 hz2 rfl (by decide) _ 1 _ rfl (own_new _ hbs) ⟨g, 0, none⟩ k cap _ rfl HLen.out (HCells.out _) HOne.out (by unfold maxLen; omega) (by omega) (by simp; omega) ?_; intro v' w1 hown' hgrow hnil)
      obtain ⟨g', cap', rfl, hg'⟩ := own_shape hown' (by omega)
      go_roundw
      case rel =>
        refine ⟨k + 1, g', cap', by omega, ?_, ?_, ?_, ?_, Lib.hid (.inr HP.out)⟩
        · rw [HD.out]; go_num
        · rw [Nat.add_comm]
        · rw [HB.out, Nat.add_comm k 1]
          have hbc : byteCells ((v % 256).toUInt8 :: Lib.beBytes k n) = [Value.int .u8 ((v : Int) % 256)] ++ byteCells (Lib.beBytes k n) := by
            simp only [byteCells, List.map_cons, Lib.toUInt8_mod]
            rfl
          rw [hbc]
          exact hown'
        · exact (hb.alloc hbs _).grown hgrow (by simp; omega) (by intro q hq; cases hq; exact hbs)
      case measure => simp [intOf]; omega
    · have hz : n / 256 ^ k = 0 := Nat.eq_zero_of_not_pos hlt
      have HZ := Lib.hid hz
      rw [hz]
      clear hz hlt
      go_wp2_with fail
      go_ret
      obtain ⟨hkp, hkk⟩ : 0 < k ∧ 0 < n / 256 ^ (k - 1) := by
        rcases hpos.out with h | h
        · subst h; have := HZ.out; simp at this; omega
        · rcases Nat.eq_zero_or_pos k with e | e
          · subst e; have := HZ.out; simp at this; omega
          · exact ⟨e, h⟩
      obtain rfl := bl_of_div n k h1 hkp hkk HZ.out
      exact ⟨g, cap, rfl, hown, hb⟩

theorem conv_new (w : World) (xs : List Int) (t e s : TypeId) {P : Program} (ht : P.underlying t = some (.slice e)) (he : P.underlying e = some (.int .u8)) (hs : P.underlying s = some .string) :
    (convert t s (.slice (some ⟨w.heap.size, 0, none⟩) xs.length xs.length)).run P (w.alloc (.cells (xs.map (Value.int .u8)).toArray e)) = .ok (.string (strOfNums xs)) (w.alloc (.cells (xs.map (Value.int .u8)).toArray e)) := by
  refine run_convert_bytes_arg _ t e ht he _ 0 _ _ xs rfl (fun i hi => ?_) s hs
  rw [Nat.zero_add, cell_of_row _ _ i _ _ _ (heap_alloc_new _ _)]
  simp [hi]

theorem u8n (a b : Nat) (h : a % 256 = b % 256) : UInt8.ofNat a = b.toUInt8 := by
  apply UInt8.toNat_inj.1
  simp [Nat.toUInt8, h]
theorem ret_nums {xs : List Int} {l : List UInt8} (h : xs.map (fun n => UInt8.ofNat n.toNat) = l) : Ending.returned (.string (strOfNums xs)) = .returned (.string ⟨l.toArray⟩) := by
  unfold strOfNums
  rw [h]

set_option maxHeartbeats 400000 in
theorem rput_1 (n : Int) (w : World) (h0 : 0 ≤ n) (h : n ≤ 240) :
    Calls Tryz.prog 69 #[.int .u64 n] w fun e w' => e = .returned (.string ⟨(WP.put n.toNat).toArray⟩) ∧ Below w.heap.size w w' := by
  have hc := fun a => conv_new w [a] 103 5 9 Tryz.underlying103 Tryz.underlying5 Tryz.underlying9
  simp only [List.length_cons, List.length_nil, List.map_cons, List.map_nil, Nat.zero_add] at hc
  go_enter Tryz.func69, Tryz.ntmps69
  go_wp2_with fail
  go_ret
  refine ⟨?_, (Below.refl _ w).alloc (Nat.le_refl _) _⟩
  refine (ret_nums (xs := [n]) ?_)
  rw [WP.put_1 _ (by omega), WP.be1]
  simp only [List.map_cons, List.map_nil]
  rw [u8n _ (n.toNat % 256) (by omega)]

set_option maxHeartbeats 400000 in
theorem rput_2 (n : Int) (w : World) (h0 : 240 < n) (h : n ≤ 2287) :
    Calls Tryz.prog 69 #[.int .u64 n] w fun e w' => e = .returned (.string ⟨(WP.put n.toNat).toArray⟩) ∧ Below w.heap.size w w' := by
  have hc := fun a b => conv_new w [a, b] 103 5 9 Tryz.underlying103 Tryz.underlying5 Tryz.underlying9
  simp only [List.length_cons, List.length_nil, List.map_cons, List.map_nil, Nat.zero_add, Nat.reduceAdd] at hc
  go_enter Tryz.func69, Tryz.ntmps69
  go_wp2_with fail
  go_ret
  refine ⟨?_, (Below.refl _ w).alloc (Nat.le_refl _) _⟩
  refine (ret_nums (xs := [241 + (n - 240) / 256, (n - 240) % 256]) ?_)
  rw [WP.put_2 _ (by omega) (by omega), WP.be2]
  simp only [List.map_cons, List.map_nil]
  rw [u8n _ ((61696 + (n.toNat - 240)) / 256 % 256) (by omega), u8n _ ((61696 + (n.toNat - 240)) % 256) (by omega)]

set_option maxHeartbeats 400000 in
theorem rput_3 (n : Int) (w : World) (h0 : 2287 < n) (h : n ≤ 67823) :
    Calls Tryz.prog 69 #[.int .u64 n] w fun e w' => e = .returned (.string ⟨(WP.put n.toNat).toArray⟩) ∧ Below w.heap.size w w' := by
  have hc := fun a b c => conv_new w [a, b, c] 103 5 9 Tryz.underlying103 Tryz.underlying5 Tryz.underlying9
  simp only [List.length_cons, List.length_nil, List.map_cons, List.map_nil, Nat.zero_add, Nat.reduceAdd] at hc
  go_enter Tryz.func69, Tryz.ntmps69
  go_wp2_with fail
  go_ret
  refine ⟨?_, (Below.refl _ w).alloc (Nat.le_refl _) _⟩
  refine (ret_nums (xs := [249, (n - 2288) / 256, (n - 2288) % 256]) ?_)
  rw [WP.put_3 _ (by omega) (by omega), WP.be3]
  simp only [List.map_cons, List.map_nil]
  rw [u8n _ ((16318464 + (n.toNat - 2288)) / 256 / 256 % 256) (by omega), u8n _ ((16318464 + (n.toNat - 2288)) / 256 % 256) (by omega), u8n _ ((16318464 + (n.toNat - 2288)) % 256) (by omega)]

set_option maxHeartbeats 400000 in
theorem rfour_any (n : Int) (w : World) (h0 : 0 ≤ n) (h1 : n ≤ 4294967295) :
    Calls Tryz.prog 72 #[.int .u32 n] w fun e w' => e = .returned (.string ⟨(Lib.leBytes 4 n.toNat).toArray⟩) ∧ Below w.heap.size w w' := by
  have hc := fun a b c d => conv_new w [a, b, c, d] 103 5 9 Tryz.underlying103 Tryz.underlying5 Tryz.underlying9
  simp only [List.length_cons, List.length_nil, List.map_cons, List.map_nil, Nat.zero_add, Nat.reduceAdd] at hc
  go_enter Tryz.func72, Tryz.ntmps72
  go_wp2_with fail
  go_ret
  refine ⟨?_, (Below.refl _ w).alloc (Nat.le_refl _) _⟩
  refine (ret_nums (xs := [n % 256, n / 256 % 256, n / 65536 % 256, n / 16777216]) ?_)
  simp only [List.map_cons, List.map_nil, Lib.leBytes]
  rw [u8n _ (n.toNat % 256) (by omega), u8n _ (n.toNat / 256 % 256) (by omega), u8n _ (n.toNat / 256 / 256 % 256) (by omega), u8n _ (n.toNat / 256 / 256 / 256 % 256) (by omega)]

end Go.Proofs.YtpehkikdmckldaaGreatDoor.L9

namespace Go.Proofs.YtpehkikdmckldaaGreatDoor.L9
open Go.RowKit
set_option linter.unusedVariables false

theorem conv_own {P : Program} {w : World} {base : Nat} {t e s : TypeId} {g n cap : Nat} {l : List UInt8} (ht : P.underlying t = some (.slice e)) (he : P.underlying e = some (.int .u8)) (hs : P.underlying s = some .string)
    (h : w.ownsRow base e 1 (.slice (some ⟨g, 0, none⟩) n cap) n (byteCells l)) (hl : l.length = n) : (convert t s (.slice (some ⟨g, 0, none⟩) n cap)).run P w = .ok (.string ⟨l.toArray⟩) w := by
  subst hl
  refine run_convert_bytes_back w t s e _ cap l ht he hs (fun j hj => ?_)
  rw [addr_at, h.cellAt j (by omega)]
  simp [byteCells, hj]

set_option maxHeartbeats 400000 in
theorem rput_4 (n : Int) (w : World) (h0 : 67823 < n) (h1 : n ≤ 18446744073709551615) :
    Calls Tryz.prog 69 #[.int .u64 n] w fun e w' => e = .returned (.string ⟨(WP.put n.toNat).toArray⟩) ∧ Below w.heap.size w w' := by
  obtain ⟨v, rfl⟩ := Int.eq_ofNat_of_zero_le (show 0 ≤ n by omega)
  rw [Int.toNat_natCast]
  have h8 := WP.bl_le8 v
  have h3 := WP.bl_ge3 v (by omega)
  have Hp := Lib.hid (WP.put_4 v (by omega))
  go_enter Tryz.func69, Tryz.ntmps69
  go_wp2_with fail
  refine (digits_any v w (by omega) (by omega)).mono ?_
  rintro e w1 ⟨g, cap, rfl, hown, hb⟩
  have hc := conv_new w1 [247 + (WP.bl v : Int)] 103 5 9 Tryz.underlying103 Tryz.underlying5 Tryz.underlying9
  simp only [List.length_cons, List.length_nil, List.map_cons, List.map_nil, Nat.zero_add] at hc
  have hc2 := conv_own (w := w1.alloc (.cells #[.int .u8 (247 + (WP.bl v : Int))] 5)) (s := 9) (t := 103) Tryz.underlying103 Tryz.underlying5 Tryz.underlying9 (hown.alloc _) (Lib.beBytes_length _ _)
  have hl : ¬ 9223372036854775807 < (strOfNums [247 + (WP.bl v : Int)]).size + (Lib.beBytes (WP.bl v) v).length := by rw [strOfNums_size, Lib.beBytes_length]; simp; omega
  go_wp2_with fail
  go_ret
  refine ⟨?_, hb.alloc hb.size _⟩
  rw [Hp.out, ← WP.bytes_add, WP.be1]
  have e : strOfNums [247 + (WP.bl v : Int)] = ⟨[((247 + WP.bl v) % 256).toUInt8].toArray⟩ := by
    unfold strOfNums
    simp only [List.map_cons, List.map_nil]
    rw [u8n _ ((247 + WP.bl v) % 256) (by omega)]
  rw [← e]
  rfl

theorem rput_any (n : Int) (w : World) (h0 : 0 ≤ n) (h1 : n ≤ 18446744073709551615) :
    Calls Tryz.prog 69 #[.int .u64 n] w fun e w' => e = .returned (.string ⟨(WP.put n.toNat).toArray⟩) ∧ Below w.heap.size w w' := by
  rcases (show n ≤ 240 ∨ (240 < n ∧ n ≤ 2287) ∨ (2287 < n ∧ n ≤ 67823) ∨ 67823 < n by omega) with h | h | h | h
  · exact rput_1 n w h0 h
  · exact rput_2 n w h.1 h.2
  · exact rput_3 n w h.1 h.2
  · exact rput_4 n w h h1

theorem drop_take_cons (s : ByteArray) (a k : Nat) (h : a < s.size) : (s.data.toList.drop a).take (k + 1) = s[a] :: (s.data.toList.drop (a + 1)).take k := by
  rw [WP.drop_cons s a h, List.take_succ_cons]

set_option maxHeartbeats 400000 in
theorem rread_any (s : ByteArray) (i : Int) (w : World) (h0 : 0 ≤ i) (h1 : i + 4 ≤ s.size) (h2 : s.size ≤ maxLen) :
    Calls Tryz.prog 87 #[.string s, .int .i64 i] w fun e w' => e = .returned (.tuple #[.int .u32 (Lib.leNat ((s.data.toList.drop i.toNat).take 4)), .int .i64 0]) ∧ w = w' := by
  obtain ⟨a, rfl⟩ := Int.eq_ofNat_of_zero_le h0
  rw [Int.toNat_natCast]
  unfold maxLen at h2
  have d1 : decide ((a : Int) < 0) = false := decide_eq_false (by omega)
  have d2 : decide (s.size < a) = false := decide_eq_false (by omega)
  have d3 : decide ((s.size : Int) < a + 4) = false := decide_eq_false (by omega)
  go_enter Tryz.func87, Tryz.ntmps87
  go_wp2_with fail
  go_loop [6, 7] (fun n i => ∃ q : Int, -1 ≤ q ∧ q ≤ 3 ∧ i = .int .i64 q ∧ n = .int .u32 (Lib.leNat ((s.data.toList.drop (a + (q + 1).toNat)).take (3 - q).toNat) : Nat)) (fun _ i => (intOf i + 1).toNat)
  case atStart => exact ⟨3, by omega, by omega, rfl, by simp [Lib.leNat]⟩
  case round =>
    obtain ⟨q, hq0, hq3, rfl, rfl⟩ := hrel
    by_cases hlt : 0 ≤ q
    · obtain ⟨j, rfl⟩ := Int.eq_ofNat_of_zero_le hlt
      rw [show ((j : Int) + 1).toNat = j + 1 by omega, show (3 - (j : Int)).toNat = 3 - j by omega]
      have hb := WP.leNat_lt ((s.data.toList.drop (a + (j + 1))).take (3 - j))
      have hbp : 256 ^ ((s.data.toList.drop (a + (j + 1))).take (3 - j)).length ≤ 256 ^ 3 := Nat.pow_le_pow_right (by omega) (by simp; omega)
      have HE : Hid (Lib.leNat ((s.data.toList.drop (a + j)).take (3 - j + 1)) = (s[a + j]'(by omega)).toNat + 256 * Lib.leNat ((s.data.toList.drop (a + (j + 1))).take (3 - j))) :=
        Lib.hid (by rw [drop_take_cons s (a + j) (3 - j) (by omega)]; simp only [Lib.leNat]; rw [Nat.add_assoc])
      have hv : Lib.leNat ((s.data.toList.drop (a + (j + 1))).take (3 - j)) < 16777216 := by omega
      have hby := (s[a + j]'(by omega)).toNat_lt
      clear hb hbp
      generalize Lib.leNat ((s.data.toList.drop (a + (j + 1))).take (3 - j)) = v at *
      go_wp2_with fail
      go_round
      case rel =>
        refine ⟨(j : Int) - 1, by omega, by omega, rfl, ?_⟩
        rw [show ((j : Int) - 1 + 1).toNat = j by omega, show (3 - ((j : Int) - 1)).toNat = 3 - j + 1 by omega, HE.out]
        go_num
      case measure => simp [intOf]
    · obtain rfl : q = -1 := by omega
      go_wp2_with fail
      go_ret2
      exact ⟨rfl, rfl⟩

set_option maxHeartbeats 400000 in
theorem rread_short (s : ByteArray) (i : Int) (w : World) (h0 : 0 ≤ i) (h1 : i ≤ s.size) (h3 : (s.size : Int) < i + 4) (h2 : s.size ≤ 1000000) :
    Calls Tryz.prog 87 #[.string s, .int .i64 i] w fun e w' => e = .returned (.tuple #[.int .u32 0, .int .i64 7]) ∧ w = w' := by
  go_enter Tryz.func87, Tryz.ntmps87
  go_wp2_with fail
  go_ret2
  exact ⟨rfl, rfl⟩

end Go.Proofs.YtpehkikdmckldaaGreatDoor.L9
