/-
  Walks of the document's answers of the layers below: Four, Read, Repeat, Sum, Size.
-/
import Derived.Test.YtnjmkljnjngpkaaDoorTrans
import Derived.Test.YtnjmkljnjngpkaaDoorHSum
import Derived.Test.YtnjmkljnjngpkaaDoorHWord
import Derived.Lib.Walk
import Derived.Deep.AppendLies
import Derived.Laws.OwnMore
import Derived.Deep.QuietTactic
import Derived.BigQuiet
import Derived.Deep.RegionHeld3
namespace Go.Proofs.YtnjmkljnjngpkaaDoor.L7
open Go.RowKit
set_option linter.unusedVariables false

namespace WP
theorem drop_cons (s : ByteArray) (i : Nat) (h : i < s.size) : s.data.toList.drop i = s[i] :: s.data.toList.drop (i + 1) := by
  rw [List.drop_eq_getElem_cons (by simpa using h)]
  rfl
end WP
theorem below_alloc (w : World) (o : Obj) : Below w.heap.size w (w.alloc o) := (Below.refl _ w).alloc (Nat.le_refl _) o
theorem below_drewN {c : Nat} {w v : World} (h : Below c w v) (n : Nat) : Below c w (v.drewN n) := ⟨h.os, h.tape, h.output, h.size, h.block⟩
theorem below_of_drew {w v : World} (h : Below w.drew.heap.size w.drew v) : Below w.heap.size w v := ⟨h.os, h.tape, h.output, h.size, h.block⟩
theorem conv_new (w : World) (xs : List Int) (t e s : TypeId) {P : Program} (ht : P.underlying t = some (.slice e)) (he : P.underlying e = some (.int .u8)) (hs : P.underlying s = some .string) :
    (convert t s (.slice (some ⟨w.heap.size, 0, none⟩) xs.length xs.length)).run P (w.alloc (.cells (xs.map (Value.int .u8)).toArray e)) = .ok (.string (strOfNums xs)) (w.alloc (.cells (xs.map (Value.int .u8)).toArray e)) := by
  refine run_convert_bytes_arg _ t e ht he _ 0 _ _ xs rfl (fun i hi => ?_) s hs
  rw [Nat.zero_add, cell_of_row _ _ i _ _ _ (heap_alloc_new _ _)]
  simp [hi]

theorem u8n (a b : Nat) (h : a % 256 = b % 256) : UInt8.ofNat a = b.toUInt8 := by
  apply UInt8.toNat_inj.1
  simp [Nat.toUInt8, h]

theorem ret_nums {xs : List Int} {l : List UInt8} (h : xs.map (fun n => UInt8.ofNat n.toNat) = l) : Ending.returned (.string (strOfNums xs)) = .returned (.string ⟨l.toArray⟩) := by
  unfold strOfNums
  rw [h]

set_option maxHeartbeats 400000 in
theorem rfour_any (n : Int) (w : World) (h0 : 0 ≤ n) (h1 : n ≤ 4294967295) :
    Calls Tryd.prog 26 #[.int .u32 n] w fun e w' => e = .returned (.string ⟨(Lib.leBytes 4 n.toNat).toArray⟩) ∧ Below w.heap.size w w' := by
  have hc := fun a b c d => conv_new w [a, b, c, d] 63 5 9 Tryd.underlying63 Tryd.underlying5 Tryd.underlying9
  simp only [List.length_cons, List.length_nil, List.map_cons, List.map_nil, Nat.zero_add, Nat.reduceAdd] at hc
  go_enter Tryd.func26, Tryd.ntmps26
  go_wp2_with fail
  go_ret
  refine ⟨?_, (Below.refl _ w).alloc (Nat.le_refl _) _⟩
  refine (ret_nums (xs := [n % 256, n / 256 % 256, n / 65536 % 256, n / 16777216]) ?_)
  simp only [List.map_cons, List.map_nil, Lib.leBytes]
  rw [u8n _ (n.toNat % 256) (by omega), u8n _ (n.toNat / 256 % 256) (by omega), u8n _ (n.toNat / 256 / 256 % 256) (by omega), u8n _ (n.toNat / 256 / 256 / 256 % 256) (by omega)]

/-- the cells of bytes -/
def byteCells (l : List UInt8) : List Value := l.map fun b => .int .u8 b.toNat

theorem own_none {w : World} {base : Nat} {t : TypeId} (h : base ≤ w.heap.size) : (w.alloc (.cells #[] t)).ownsRow base t 1 (.slice (some ⟨w.heap.size, 0, none⟩) 0 0) 0 [] :=
  ⟨rfl, .inr ⟨w.heap.size, 0, #[], rfl, h, heap_alloc_new _ _, Nat.le_refl _, by unfold maxLen; omega, rfl, rfl⟩⟩

theorem conv_own {P : Program} {w : World} {base : Nat} {t e s : TypeId} {g n cap : Nat} {l : List UInt8} (ht : P.underlying t = some (.slice e)) (he : P.underlying e = some (.int .u8)) (hs : P.underlying s = some .string)
    (h : w.ownsRow base e 1 (.slice (some ⟨g, 0, none⟩) n cap) n (byteCells l)) (hl : l.length = n) : (convert t s (.slice (some ⟨g, 0, none⟩) n cap)).run P w = .ok (.string ⟨l.toArray⟩) w := by
  subst hl
  refine run_convert_bytes_back w t s e _ cap l ht he hs (fun j hj => ?_)
  rw [addr_at, h.cellAt j (by omega)]
  simp [byteCells, hj]

theorem Tryd.infoByte : (Tryd.prog.info? 5).map (fun i => (i.zero, i.size, i.bytes)) = some (some (.int .u8 0), 1, 1) := by kernel_rfl

theorem byteCells_snoc (l : List UInt8) (b : UInt8) : byteCells (l ++ [b]) = byteCells l ++ [.int .u8 b.toNat] := by simp [byteCells]

set_option maxHeartbeats 400000 in
theorem refRepeat_any (c : UInt8) (n : Nat) (w : World) (hn : n ≤ 100000) :
    Calls Tryd.prog 19 #[.int .u8 c.toNat, .int .i64 n] w fun e w' => e = .returned (.string ⟨(List.replicate n c).toArray⟩) ∧ Below w.heap.size w w' := by
  obtain ⟨i0, hi, hz0, hz1, hz2⟩ := info_parts Tryd.infoByte
  go_enter Tryd.func19, Tryd.ntmps19
  go_wp2_with fail
  go_loopw [5, 6] (fun v i wr => ∃ (k g cap : Nat), k ≤ n ∧ i = .int .i64 k ∧ v = .slice (some ⟨g, 0, none⟩) k cap ∧ w.heap.size ≤ g ∧ wr.ownsRow w.heap.size 5 1 (.slice (some ⟨g, 0, none⟩) k cap) k (byteCells (List.replicate k c)) ∧ Below w.heap.size w wr) (fun _ i _ => n - (intOf i).toNat)
  case atStart => exact ⟨0, w.heap.size, 0, by omega, rfl, rfl, Nat.le_refl _, own_none (Nat.le_refl _), (Below.refl _ w).alloc (Nat.le_refl _) _⟩
  case round =>
    obtain ⟨k, g, cap, hk, rfl, rfl, hg, hown, hb⟩ := hrel
    have hbs := hb.size
    by_cases hlt : k < n
    · go_wp2_with (at_builtin; refine wpList_append_lies _ rfl _ _ 63 rfl w.heap.size 5 i0 (.int .u8 0) 1 1 Tryd.underlying63 hi hz0 hz1 hz2 rfl (by decide) (.slice (some ⟨g, 0, none⟩) k cap) k _ rfl (hown.alloc _) ⟨wr.heap.size, 0, none⟩ 1 1 [.int .u8 c.toNat] rfl rfl (World.news_of_block (cs := #[.int .u8 c.toNat]) (t := 5) (fr := (0, 0)) (heap_alloc_new wr _)) (by simp [Value.oneCell']) (by omega) (by unfold maxLen; omega) (by omega) (by simp; omega) (wr.heap.size + 1) (by simp) ?_; intro g' cap' w1 hown1 hgrow hat hlt1)
      have hg' : w.heap.size ≤ g' := by rcases hat with h | h; (simp [Value.ownBlock] at h; omega); omega
      have hb' : Below w.heap.size w w1 := (hb.alloc hbs _).grown hgrow (by simp; omega) (fun j e => by simp [Value.ownBlock] at e; omega)
      clear hat hgrow hlt1
      go_roundw
      case rel => exact ⟨k + 1, g', cap', by omega, by go_num, rfl, hg', by rw [List.replicate_succ', byteCells_snoc]; exact hown1, hb'⟩
      case measure => simp [intOf]; omega
    · obtain rfl : k = n := by omega
      have hcv := conv_own Tryd.underlying63 Tryd.underlying5 Tryd.underlying9 hown (by simp)
      go_wp2_with fail
      go_ret
      exact ⟨rfl, hb⟩

set_option maxHeartbeats 400000 in
theorem refOne_any (r : Nat) (c : UInt8) (w : World) (hr : r < 4294967296) :
    Calls Tryd.prog 64 #[.int .u32 r, .int .u8 c.toNat] w fun e w' => e = .returned (.int .u32 (SP.one r c : Nat)) ∧ w = w' := by
  have hx := xor32 r c.toNat hr (SP.u8_lt c)
  have hcl := c.toNat_lt
  have hq := SP.xor_lt r c.toNat hr (SP.u8_lt c)
  have HO := Lib.hid (show SP.one r c = SP.bits (r ^^^ c.toNat) 8 from rfl)
  rw [HO.out]
  generalize r ^^^ c.toNat = Q at hx hq
  go_enter Tryd.func64, Tryd.ntmps64
  go_wp2
  go_loop [0, 5] (fun g i => ∃ k : Nat, k ≤ 8 ∧ i = .int .i64 k ∧ g = .int .u32 (SP.bits Q k : Nat)) (fun _ i => 8 - (intOf i).toNat)
  case atStart => exact ⟨0, Nat.zero_le _, rfl, rfl⟩
  case round =>
    obtain ⟨k, hk, rfl, rfl⟩ := hrel
    clear hx
    have hlt := SP.bits_lt _ hq k
    have HB := Lib.hid (show SP.bits Q (k + 1) = SP.bit (SP.bits Q k) from rfl)
    by_cases h8 : k < 8
    · revert hlt HB
      generalize SP.bits Q k = R
      intro hlt HB
      by_cases h2 : R % 2 = 1
      · have H2 := Lib.hid h2
        have hd : ((R : Int) % 2 == 1) = true := by rw [beq_iff_eq]; omega
        clear h2
        have hx : bits .xor .u32 ((R : Int) / 2) 2197175160 = ((R / 2 ^^^ 2197175160 : Nat) : Int) := xor32 (R / 2) 2197175160 (by omega) (by omega)
        go_wp2
        go_round
        case rel =>
          refine ⟨k + 1, by omega, by go_num, ?_⟩
          rw [HB.out, show SP.bit R = R / 2 ^^^ 2197175160 by unfold SP.bit; rw [if_pos H2.out]]
        case measure => simp [intOf]; omega
      · have H0 : Hid (R % 2 = 0) := Lib.hid (by omega)
        have hd : ((R : Int) % 2 == 1) = false := by rw [beq_eq_false_iff_ne]; omega
        clear h2
        go_wp2
        go_round
        case rel =>
          refine ⟨k + 1, by omega, by go_num, ?_⟩
          rw [HB.out, show SP.bit R = R / 2 by unfold SP.bit; rw [if_neg (by rw [H0.out]; omega)]]
          go_num
        case measure => simp [intOf]; omega
    · obtain rfl : k = 8 := by omega
      go_wp2
      go_ret
      exact ⟨rfl, rfl⟩

theorem sub32 (c : Nat) (hc : c < 4294967296) : (4294967295 : Int) - c = (SP.inv c : Nat) := by rw [SP.inv_sub c hc]; omega

set_option maxHeartbeats 400000 in
theorem refMore_any (c : Nat) (s : ByteArray) (w : World) (hc : c < 4294967296) (hs : s.size ≤ maxLen) :
    Calls Tryd.prog 58 #[.int .u32 c, .string s] w fun e w' => e = .returned (.int .u32 (SP.more c s.data.toList : Nat)) ∧ w = w' := by
  unfold maxLen at hs
  have hx := sub32 c hc
  have hi := SP.inv_lt c hc
  have HM := Lib.hid (show SP.more c s.data.toList = SP.inv (SP.run (SP.inv c) s.data.toList) from rfl)
  rw [HM.out]
  generalize SP.inv c = r at hx hi
  clear HM
  go_enter Tryd.func58, Tryd.ntmps58
  go_wp2
  go_loop [5, 6] (fun g i => ∃ k : Nat, k ≤ s.size ∧ i = .int .i64 k ∧ g = .int .u32 (SP.run r (s.data.toList.take k) : Nat)) (fun _ i => s.size - (intOf i).toNat)
  case atStart => exact ⟨0, Nat.zero_le _, rfl, rfl⟩
  case round =>
    obtain ⟨k, hk, rfl, rfl⟩ := hrel
    clear hx
    have hlt := SP.run_lt (s.data.toList.take k) r hi
    by_cases h : k < s.size
    · have HN := Lib.hid (run_next r s k h)
      revert hlt HN
      generalize SP.run r (s.data.toList.take k) = R
      intro hlt HN
      go_wp2_with fail
      refine (refOne_any R s[k] w hlt).mono ?_
      rintro e w2 ⟨rfl, rfl⟩
      rw [HN.out]
      go_wp2_with fail
      go_round
      case rel => exact ⟨k + 1, by omega, by go_num, rfl⟩
      case measure => simp [intOf]; omega
    · obtain rfl : k = s.size := by omega
      have hx := sub32 _ hlt
      have hi' := SP.inv_lt _ hlt
      rw [take_all] at hx hi' ⊢
      go_wp2_with fail
      go_ret
      exact ⟨rfl, rfl⟩

theorem refSum_any (s : ByteArray) (w : World) (hs : s.size ≤ maxLen) :
    Calls Tryd.prog 43 #[.string s] w fun e w' => e = .returned (.int .u32 (SP.sum s.data.toList : Nat)) ∧ w = w' := by
  go_enter Tryd.func43, Tryd.ntmps43
  go_wp2_with fail
  refine (refMore_any 0 s _ (by omega) hs).mono ?_
  rintro e w1 ⟨rfl, rfl⟩
  go_wp2_with fail
  go_ret
  exact ⟨rfl, rfl⟩

theorem sizeRef_any (p : Int) (w : World) : Calls Tryd.prog 22 #[.int .i64 p] w fun e w' => e = .returned (.bool (decide (p = 128 ∨ p = 256 ∨ p = 512 ∨ p = 1024))) ∧ w = w' := by
  by_cases h1 : p = 128
  · subst h1
    go_enter Tryd.func22, Tryd.ntmps22
    go_wp2_with fail
    go_ret
    exact ⟨rfl, rfl⟩
  have e1 : (p == 128) = false := beq_eq_false_iff_ne.2 h1
  by_cases h2 : p = 256
  · subst h2
    go_enter Tryd.func22, Tryd.ntmps22
    go_wp2_with fail
    go_ret
    exact ⟨rfl, rfl⟩
  have e2 : (p == 256) = false := beq_eq_false_iff_ne.2 h2
  by_cases h3 : p = 512
  · subst h3
    go_enter Tryd.func22, Tryd.ntmps22
    go_wp2_with fail
    go_ret
    exact ⟨rfl, rfl⟩
  have e3 : (p == 512) = false := beq_eq_false_iff_ne.2 h3
  by_cases h4 : p = 1024
  · subst h4
    go_enter Tryd.func22, Tryd.ntmps22
    go_wp2_with fail
    go_ret
    exact ⟨rfl, rfl⟩
  have e4 : (p == 1024) = false := beq_eq_false_iff_ne.2 h4
  have hv : decide (p = 128 ∨ p = 256 ∨ p = 512 ∨ p = 1024) = false := by simp [h1, h2, h3, h4]
  rw [hv]
  clear h1 h2 h3 h4 hv
  go_enter Tryd.func22, Tryd.ntmps22
  go_wp2_with fail
  go_ret
  exact ⟨rfl, rfl⟩

end Go.Proofs.YtnjmkljnjngpkaaDoor.L7
