/-
  Walks of the document's own answers of layer 1: follow, digits.
-/
import Derived.Test.YtppnchjmbeinkaaVBase
import Derived.Test.YtppnchjmbeinkaaWMath
import Derived.Deep.QuietTactic
import Derived.BigQuiet
import Derived.Deep.RegionHeld3
namespace Go.Proofs.Ytppnchjmbeinkaa
open Go.RowKit
set_option linter.unusedVariables false

set_option maxHeartbeats 400000 in
theorem rfollow_any (b : Int) (w : World) (h0 : 0 ≤ b) (h1 : b ≤ 255) :
    Calls Try.prog 43 #[.int .u8 b] w fun e w' => e = .returned (.int .i64 (WP.flw b)) ∧ w = w' := by
  go_enter Try.func43, Try.ntmps43
  go_wp2
  all_goals
    go_ret
    refine ⟨ret_int ?_, rfl⟩
    try simp only [beq_iff_eq, beq_eq_false_iff_ne, ne_eq] at *
    unfold WP.flw
    (repeat' split) <;> omega

/-- the cells of bytes -/
def byteCells (l : List UInt8) : List Value := l.map fun b => .int .u8 b.toNat

theorem leBytes_snoc : ∀ (k v : Nat), Lib.leBytes (k + 1) v = Lib.leBytes k v ++ [(v / 256 ^ k % 256).toUInt8]
  | 0, v => by simp [Lib.leBytes]
  | k + 1, v => by
    have h := leBytes_snoc k (v / 256)
    rw [show Lib.leBytes (k + 1 + 1) v = (v % 256).toUInt8 :: Lib.leBytes (k + 1) (v / 256) from rfl, h, Nat.div_div_eq_div_mul, Nat.pow_succ, Nat.mul_comm 256]
    rfl
theorem beBytes_succ (k v : Nat) : Lib.beBytes (k + 1) v = (v / 256 ^ k % 256).toUInt8 :: Lib.beBytes k v := by
  unfold Lib.beBytes
  rw [leBytes_snoc]
  simp

theorem own_new {w : World} {base : Nat} {t : TypeId} (c : Value) (h : base ≤ w.heap.size) : (w.alloc (.cells #[c] t)).ownsRow base t 1 (.slice (some ⟨w.heap.size, 0, none⟩) 1 1) 1 [c] :=
  ⟨rfl, .inr ⟨w.heap.size, 1, #[c], rfl, h, heap_alloc_new _ _, Nat.le_refl _, by unfold maxLen; omega, rfl, rfl⟩⟩
theorem own_none {w : World} {base : Nat} {t : TypeId} (h : base ≤ w.heap.size) : (w.alloc (.cells #[] t)).ownsRow base t 1 (.slice (some ⟨w.heap.size, 0, none⟩) 0 0) 0 [] :=
  ⟨rfl, .inr ⟨w.heap.size, 0, #[], rfl, h, heap_alloc_new _ _, Nat.le_refl _, by unfold maxLen; omega, rfl, rfl⟩⟩
theorem own_shape {w : World} {base : Nat} {t : TypeId} {v : Value} {n : Nat} {xs : List Value} (h : w.ownsRow base t 1 v n xs) (h0 : 0 < n) : ∃ g cap, v = .slice (some ⟨g, 0, none⟩) n cap ∧ base ≤ g := by
  rcases h.2 with ⟨_, h⟩ | ⟨g, cap, _, h, hb, _⟩
  · omega
  · exact ⟨g, cap, h, hb⟩

theorem bl_of_div (n k : Nat) (hn : n ≤ 18446744073709551615) (hk : 0 < k) (h1 : 0 < n / 256 ^ (k - 1)) (h2 : n / 256 ^ k = 0) : k = WP.bl n := by
  have hp : 0 < 256 ^ k := Nat.pow_pos (by omega)
  have hlt : n < 256 ^ k := by rcases Nat.lt_or_ge n (256 ^ k) with h | h; exact h; have := Nat.div_pos h hp; omega
  have hge : 256 ^ (k - 1) ≤ n := by rcases Nat.lt_or_ge n (256 ^ (k - 1)) with h | h; rw [Nat.div_eq_of_lt h] at h1; omega; exact h
  have hk8 : k ≤ 8 := by
    rcases Nat.lt_or_ge 8 k with h | h
    · have : 256 ^ 8 ≤ 256 ^ (k - 1) := Nat.pow_le_pow_right (by omega) (by omega)
      omega
    · exact h
  unfold WP.bl
  rcases (show k = 1 ∨ k = 2 ∨ k = 3 ∨ k = 4 ∨ k = 5 ∨ k = 6 ∨ k = 7 ∨ k = 8 by omega) with rfl | rfl | rfl | rfl | rfl | rfl | rfl | rfl
  all_goals
    simp only [Nat.reduceSub, Nat.reducePow, Nat.pow_zero] at hge hlt
    (repeat' split) <;> omega

set_option maxHeartbeats 400000 in
theorem digits_any (n : Nat) (w : World) (h0 : 0 < n) (h1 : n ≤ 18446744073709551615) :
    Calls Try.prog 36 #[.int .u64 n] w fun e w' => ∃ g cap, e = .returned (.slice (some ⟨g, 0, none⟩) (WP.bl n) cap) ∧ w'.ownsRow w.heap.size 5 1 (.slice (some ⟨g, 0, none⟩) (WP.bl n) cap) (WP.bl n) (byteCells (Lib.beBytes (WP.bl n) n)) ∧ Below w.heap.size w w' := by
  obtain ⟨i0, hi, hz0, hz1, hz2⟩ := info_parts Try.infoU8
  go_enter Try.func36, Try.ntmps36
  go_wp2_with fail
  go_loopw [0, 3] (fun nv out wr => ∃ (k g cap : Nat), k ≤ 8 ∧ nv = .int .u64 (n / 256 ^ k : Nat) ∧ out = .slice (some ⟨g, 0, none⟩) k cap ∧ wr.ownsRow w.heap.size 5 1 (.slice (some ⟨g, 0, none⟩) k cap) k (byteCells (Lib.beBytes k n)) ∧ Below w.heap.size w wr ∧ Hid (k = 0 ∨ 0 < n / 256 ^ (k - 1))) (fun nv _ _ => (intOf nv).toNat)
  case atStart => exact ⟨0, w.heap.size, 0, by omega, by simp, rfl, own_none (Nat.le_refl _), (Below.refl _ w).alloc (Nat.le_refl _) _, Lib.hid (.inl rfl)⟩
  case round =>
    obtain ⟨k, g, cap, hk, rfl, rfl, hown, hb, hpos⟩ := hrel
    by_cases hlt : 0 < n / 256 ^ k
    · have hk7 : k ≤ 7 := by
        rcases Nat.lt_or_ge k 8 with h | h
        · omega
        · obtain rfl : k = 8 := by omega
          omega
      have HB := Lib.hid (beBytes_succ k n)
      have HD : Hid (n / 256 ^ (k + 1) = n / 256 ^ k / 256) := Lib.hid (by rw [Nat.pow_succ, Nat.div_div_eq_div_mul])
      have hbs := hb.size
      have HP : Hid (0 < n / 256 ^ (k + 1 - 1)) := Lib.hid (by rw [Nat.add_sub_cancel]; exact hlt)
      have hvn : n / 256 ^ k ≤ n := Nat.div_le_self _ _
      have hlen : (byteCells (Lib.beBytes k n)).length = k * 1 := by simp [byteCells, Lib.beBytes_length]
      have hone : ∀ u ∈ byteCells (Lib.beBytes k n), u.oneCell' = true := by
        intro u hu
        simp only [byteCells, List.mem_map] at hu
        obtain ⟨b, _, rfl⟩ := hu
        rfl
      have hcells : ∀ (c : Value) (j : Nat) (u : Value), (byteCells (Lib.beBytes k n))[j]? = some u → (wr.alloc (.cells #[c] 5)).cell? ((⟨g, 0, none⟩ : Addr).add j) = some u := by
        intro c j u hj
        have hjl : j < k := by
          have := (List.getElem?_eq_some_iff.1 hj).1
          rw [hlen] at this; omega
        rw [addr_at, (hown.alloc _).cellAt j (by omega), hj]
      have HLen := Lib.hid hlen
      have HOne := Lib.hid hone
      have HCells := Lib.hid hcells
      clear hlen hone hcells
      generalize n / 256 ^ k = v at *
      go_wp2_with (at_builtin; refine wpList_append_own _ rfl _ _ 47 rfl w.heap.size 5 i0 (.int .u8 0) 1 1 Try.underlying47 hi hz0 hz1 hz2 rfl (by decide) _ 1 _ rfl (own_new _ hbs) ⟨g, 0, none⟩ k cap _ rfl HLen.out (HCells.out _) HOne.out (by unfold maxLen; omega) (by omega) (by simp; omega) ?_; intro v' w1 hown' hgrow hnil)
      obtain ⟨g', cap', rfl, hg'⟩ := own_shape hown' (by omega)
      go_roundw
      case rel =>
        refine ⟨k + 1, g', cap', by omega, ?_, ?_, ?_, ?_, Lib.hid (.inr HP.out)⟩
        · rw [HD.out]; go_num
        · rw [Nat.add_comm]
        · rw [HB.out, Nat.add_comm k 1]
          have hbc : byteCells ((v % 256).toUInt8 :: Lib.beBytes k n) = [Value.int .u8 ((v : Int) % 256)] ++ byteCells (Lib.beBytes k n) := by
            simp only [byteCells, List.map_cons, Lib.toUInt8_mod]
            rfl
          rw [hbc]
          exact hown'
        · exact (hb.alloc hbs _).grown hgrow (by simp; omega) (by intro q hq; cases hq; exact hbs)
      case measure => simp [intOf]; omega
    · have hz : n / 256 ^ k = 0 := Nat.eq_zero_of_not_pos hlt
      have HZ := Lib.hid hz
      rw [hz]
      clear hz hlt
      go_wp2_with fail
      go_ret
      obtain ⟨hkp, hkk⟩ : 0 < k ∧ 0 < n / 256 ^ (k - 1) := by
        rcases hpos.out with h | h
        · subst h; have := HZ.out; simp at this; omega
        · rcases Nat.eq_zero_or_pos k with e | e
          · subst e; have := HZ.out; simp at this; omega
          · exact ⟨e, h⟩
      obtain rfl := bl_of_div n k h1 hkp hkk HZ.out
      exact ⟨g, cap, rfl, hown, hb⟩

theorem conv_new (w : World) (xs : List Int) (t e s : TypeId) {P : Program} (ht : P.underlying t = some (.slice e)) (he : P.underlying e = some (.int .u8)) (hs : P.underlying s = some .string) :
    (convert t s (.slice (some ⟨w.heap.size, 0, none⟩) xs.length xs.length)).run P (w.alloc (.cells (xs.map (Value.int .u8)).toArray e)) = .ok (.string (strOfNums xs)) (w.alloc (.cells (xs.map (Value.int .u8)).toArray e)) := by
  refine run_convert_bytes_arg _ t e ht he _ 0 _ _ xs rfl (fun i hi => ?_) s hs
  rw [Nat.zero_add, cell_of_row _ _ i _ _ _ (heap_alloc_new _ _)]
  simp [hi]

theorem u8n (a b : Nat) (h : a % 256 = b % 256) : UInt8.ofNat a = b.toUInt8 := by
  apply UInt8.toNat_inj.1
  simp [Nat.toUInt8, h]
theorem ret_nums {xs : List Int} {l : List UInt8} (h : xs.map (fun n => UInt8.ofNat n.toNat) = l) : Ending.returned (.string (strOfNums xs)) = .returned (.string ⟨l.toArray⟩) := by
  unfold strOfNums
  rw [h]

set_option maxHeartbeats 400000 in
theorem rput_1 (n : Int) (w : World) (h0 : 0 ≤ n) (h : n ≤ 240) :
    Calls Try.prog 22 #[.int .u64 n] w fun e w' => e = .returned (.string ⟨(WP.put n.toNat).toArray⟩) ∧ Below w.heap.size w w' := by
  have hc := fun a => conv_new w [a] 47 5 9 Try.underlying47 Try.underlying5 Try.underlying9
  simp only [List.length_cons, List.length_nil, List.map_cons, List.map_nil, Nat.zero_add] at hc
  go_enter Try.func22, Try.ntmps22
  go_wp2_with fail
  go_ret
  refine ⟨?_, (Below.refl _ w).alloc (Nat.le_refl _) _⟩
  refine (ret_nums (xs := [n]) ?_)
  rw [WP.put_1 _ (by omega), WP.be1]
  simp only [List.map_cons, List.map_nil]
  rw [u8n _ (n.toNat % 256) (by omega)]

set_option maxHeartbeats 400000 in
theorem rput_2 (n : Int) (w : World) (h0 : 240 < n) (h : n ≤ 2287) :
    Calls Try.prog 22 #[.int .u64 n] w fun e w' => e = .returned (.string ⟨(WP.put n.toNat).toArray⟩) ∧ Below w.heap.size w w' := by
  have hc := fun a b => conv_new w [a, b] 47 5 9 Try.underlying47 Try.underlying5 Try.underlying9
  simp only [List.length_cons, List.length_nil, List.map_cons, List.map_nil, Nat.zero_add, Nat.reduceAdd] at hc
  go_enter Try.func22, Try.ntmps22
  go_wp2_with fail
  go_ret
  refine ⟨?_, (Below.refl _ w).alloc (Nat.le_refl _) _⟩
  refine (ret_nums (xs := [241 + (n - 240) / 256, (n - 240) % 256]) ?_)
  rw [WP.put_2 _ (by omega) (by omega), WP.be2]
  simp only [List.map_cons, List.map_nil]
  rw [u8n _ ((61696 + (n.toNat - 240)) / 256 % 256) (by omega), u8n _ ((61696 + (n.toNat - 240)) % 256) (by omega)]

set_option maxHeartbeats 400000 in
theorem rput_3 (n : Int) (w : World) (h0 : 2287 < n) (h : n ≤ 67823) :
    Calls Try.prog 22 #[.int .u64 n] w fun e w' => e = .returned (.string ⟨(WP.put n.toNat).toArray⟩) ∧ Below w.heap.size w w' := by
  have hc := fun a b c => conv_new w [a, b, c] 47 5 9 Try.underlying47 Try.underlying5 Try.underlying9
  simp only [List.length_cons, List.length_nil, List.map_cons, List.map_nil, Nat.zero_add, Nat.reduceAdd] at hc
  go_enter Try.func22, Try.ntmps22
  go_wp2_with fail
  go_ret
  refine ⟨?_, (Below.refl _ w).alloc (Nat.le_refl _) _⟩
  refine (ret_nums (xs := [249, (n - 2288) / 256, (n - 2288) % 256]) ?_)
  rw [WP.put_3 _ (by omega) (by omega), WP.be3]
  simp only [List.map_cons, List.map_nil]
  rw [u8n _ ((16318464 + (n.toNat - 2288)) / 256 / 256 % 256) (by omega), u8n _ ((16318464 + (n.toNat - 2288)) / 256 % 256) (by omega), u8n _ ((16318464 + (n.toNat - 2288)) % 256) (by omega)]

set_option maxHeartbeats 400000 in
theorem rfour_any (n : Int) (w : World) (h0 : 0 ≤ n) (h1 : n ≤ 4294967295) :
    Calls Try.prog 27 #[.int .u32 n] w fun e w' => e = .returned (.string ⟨(Lib.leBytes 4 n.toNat).toArray⟩) ∧ Below w.heap.size w w' := by
  have hc := fun a b c d => conv_new w [a, b, c, d] 47 5 9 Try.underlying47 Try.underlying5 Try.underlying9
  simp only [List.length_cons, List.length_nil, List.map_cons, List.map_nil, Nat.zero_add, Nat.reduceAdd] at hc
  go_enter Try.func27, Try.ntmps27
  go_wp2_with fail
  go_ret
  refine ⟨?_, (Below.refl _ w).alloc (Nat.le_refl _) _⟩
  refine (ret_nums (xs := [n % 256, n / 256 % 256, n / 65536 % 256, n / 16777216]) ?_)
  simp only [List.map_cons, List.map_nil, Lib.leBytes]
  rw [u8n _ (n.toNat % 256) (by omega), u8n _ (n.toNat / 256 % 256) (by omega), u8n _ (n.toNat / 256 / 256 % 256) (by omega), u8n _ (n.toNat / 256 / 256 / 256 % 256) (by omega)]

end Go.Proofs.Ytppnchjmbeinkaa
