/-
  Walks of col.oneByte, col.eightBytes, col.puts, col.putText.
-/
import Derived.Test.YtdcijbclafpkmaaDoorCRight
import Derived.Test.YtdcijbclafpkmaaDoorCEsc
import Derived.Test.YtdcijbclafpkmaaDoorWRef2
import Derived.Test.YtdcijbclafpkmaaDoorShelf
namespace Go.Proofs.YtdcijbclafpkmaaDoor
open Go.RowKit
set_option linter.unusedVariables false

/-- internal/bytealg.MaxLen holds some integer. -/
def MaxIs (w : World) : Prop := ∃ m, w.cell? ⟨0, 0, none⟩ = some (.int .i64 m)
theorem MaxIs.below {w w' : World} (h : MaxIs w) (b : Below w.heap.size w w') : MaxIs w' := by
  obtain ⟨m, hm⟩ := h
  refine ⟨m, ?_⟩
  have hl : 0 < w.heap.size := World.block_lt_of_cell? _ _ hm
  unfold World.cell? at hm ⊢
  rw [b.block _ hl]
  exact hm
theorem MaxIs.alloc {w : World} (h : MaxIs w) (o : Obj) : MaxIs (w.alloc o) := h.below (below_alloc _ _)
theorem MaxIs.drew {w : World} (h : MaxIs w) : MaxIs w.drew := h

theorem oneByte_any (b : Int) (w : World) (h0 : 0 ≤ b) (h1 : b ≤ 255) : Calls Tryd.prog 59 #[.int .u8 b] w fun e w' => e = .returned (.string ⟨#[b.toNat.toUInt8]⟩) ∧ Below w.heap.size w w' := by
  have hc := fun a => conv_new w [a] 45 5 9 Tryd.underlying45 Tryd.underlying5 Tryd.underlying9
  simp only [List.length_cons, List.length_nil, List.map_cons, List.map_nil, Nat.zero_add] at hc
  go_enter Tryd.func59, Tryd.ntmps59
  go_wp2_with fail
  go_ret
  refine ⟨?_, below_alloc _ _⟩
  refine (ret_nums (xs := [b]) (l := [b.toNat.toUInt8]) ?_)
  rfl

/-- The eight cells, the first k of them written. -/
def eightAt (n : Int) (k : Nat) : Array Value := ((List.range 8).map fun i => if i < k then Value.int .u8 (n / 2 ^ (8 * (7 - i)) % 256) else .int .u8 0).toArray
theorem eightAt_zero (n : Int) : eightAt n 0 = #[.int .u8 0, .int .u8 0, .int .u8 0, .int .u8 0, .int .u8 0, .int .u8 0, .int .u8 0, .int .u8 0] := rfl
theorem eightAt_get (n : Int) (k j : Nat) (hj : j < 8) : (eightAt n k)[j]? = some (if j < k then Value.int .u8 (n / 2 ^ (8 * (7 - j)) % 256) else .int .u8 0) := by simp [eightAt, hj]
theorem eightAt_size (n : Int) (k : Nat) : (eightAt n k).size = 8 := by simp [eightAt]
theorem eightAt_succ (n : Int) (k : Nat) (hk : k < 8) : (eightAt n k).setIfInBounds k (.int .u8 (n / 2 ^ (8 * (7 - k)) % 256)) = eightAt n (k + 1) := by
  apply Array.ext_getElem?
  intro j
  rw [Array.getElem?_setIfInBounds]
  by_cases hj : j < 8
  · rw [eightAt_get _ _ _ hj, eightAt_get _ _ _ hj]
    by_cases e : k = j
    · subst e; simp [eightAt_size, hk]
    · rw [if_neg e]
      by_cases h : j < k
      · rw [if_pos h, if_pos (by omega)]
      · rw [if_neg h, if_neg (by omega)]
  · have h1 : (eightAt n k)[j]? = none := by rw [Array.getElem?_eq_none]; rw [eightAt_size]; omega
    have h2 : (eightAt n (k + 1))[j]? = none := by rw [Array.getElem?_eq_none]; rw [eightAt_size]; omega
    rw [h1, h2, if_neg (by omega)]
theorem eightAt_full (v j : Nat) (h : j < (Lib.beBytes 8 v).length) : (eightAt (v : Int) 8)[j]? = some (.int .u8 ((Lib.beBytes 8 v)[j].toNat : Int)) := by
  have hj : j < 8 := by simpa [Lib.beBytes_length] using h
  rw [eightAt_get _ _ _ hj, if_pos hj, WP.beBytes_get 8 v j h, WP.pow_cell]

set_option maxHeartbeats 1000000 in
theorem eightBytes_any (n : Int) (w : World) (h0 : 0 ≤ n) (h1 : n ≤ 18446744073709551615) :
    Calls Tryd.prog 62 #[.int .u64 n] w fun e w' => e = .returned (.string ⟨(Lib.beBytes 8 n.toNat).toArray⟩) ∧ Below w.heap.size w w' := by
  go_enter Tryd.func62, Tryd.ntmps62
  go_wp2
  go_loopw [5] (fun i wr => ∃ k : Nat, k ≤ 8 ∧ i = .int .i64 k ∧ Hid (wr.heap[w.heap.size]? = some (.cells (eightAt n k) 117 (0, 0))) ∧ Below w.heap.size w wr) (fun i _ => 8 - (intOf i).toNat)
  case atStart =>
    exact ⟨0, Nat.zero_le _, rfl, Lib.hid (heap_alloc_new _ _), (Below.refl _ w).alloc (Nat.le_refl _) _⟩
  case round =>
    obtain ⟨k, hk, rfl, hh, hb⟩ := hrel
    by_cases hlt : k < 8
    · have hcell : wr.cell? ⟨w.heap.size, k, none⟩ = some (.int .u8 0) := by
        rw [cell_of_row _ _ k _ _ _ hh.out, eightAt_get _ _ _ hlt, if_neg (by omega)]
      have hfr := frozen_of_row _ _ k _ _ hh.out
      go_wp2
      go_roundw
      case rel =>
        refine ⟨k + 1, by omega, by go_num, ?_, ?_⟩
        · have h := heap_setCell_same wr _ k _ _ (.int .u8 (n / 2 ^ (8 * (7 - k)) % 256)) hh.out
          rw [eightAt_succ n k hlt] at h
          rw [show 56 - 8 * k = 8 * (7 - k) by omega]
          exact Lib.hid h
        · exact hb.setCell (Nat.le_refl _) _
      case measure => simp [intOf]; omega
    · obtain rfl : k = 8 := by omega
      obtain ⟨v, rfl⟩ := Int.eq_ofNat_of_zero_le h0
      have hcv : ∀ c, (convert 45 9 (.slice (some ⟨w.heap.size, 0, none⟩) 8 c)).run Tryd.prog wr = .ok (.string ⟨(Lib.beBytes 8 v).toArray⟩) wr := fun c =>
        run_convert_bytes_back (P := Tryd.prog) wr 45 9 5 ⟨w.heap.size, 0, none⟩ c (Lib.beBytes 8 v) Tryd.underlying45 Tryd.underlying5 Tryd.underlying9 (fun j hj => by
          have e := cell_of_row _ _ j _ _ _ hh.out
          rw [eightAt_full v j hj] at e
          rwa [addr_at])
      go_wp2
      go_ret
      exact ⟨by simp, hb⟩

/-- What col.puts answers. -/
def putsV : Array Value := #[.func (.func 58) #[] #[], .func (.func 60) #[] #[], .func (.func 61) #[] #[], .func (.func 63) #[] #[], .func (.func 65) #[] #[]]
theorem puts_any (w : World) : Calls Tryd.prog 46 #[] w fun e w' => e = .returned (.agg putsV) ∧ Below w.heap.size w w' := by
  go_enter Tryd.func46, Tryd.ntmps46
  go_wp2
  refine bodyPost_ret (v := .agg putsV) (by simp [results, Tryd.results46, go_sem, putsV]) rfl ⟨rfl, below_alloc _ _⟩
theorem ixPuts0 (W : World) : (Instr.index 96 (.agg putsV) (.int .i64 0)).run Tryd.prog W = .ok (.func (.func 58) #[] #[]) W := by kernel_rfl
theorem ixPuts1 (W : World) : (Instr.index 96 (.agg putsV) (.int .i64 1)).run Tryd.prog W = .ok (.func (.func 60) #[] #[]) W := by kernel_rfl
theorem ixPuts2 (W : World) : (Instr.index 96 (.agg putsV) (.int .i64 2)).run Tryd.prog W = .ok (.func (.func 61) #[] #[]) W := by kernel_rfl
theorem ixPuts3 (W : World) : (Instr.index 96 (.agg putsV) (.int .i64 3)).run Tryd.prog W = .ok (.func (.func 63) #[] #[]) W := by kernel_rfl
theorem ixPuts4 (W : World) : (Instr.index 96 (.agg putsV) (.int .i64 4)).run Tryd.prog W = .ok (.func (.func 65) #[] #[]) W := by kernel_rfl

/-- The closures' contract: the answer is the bytes of the column. -/
def PutsIt (f : Nat) (K I U : Int) (S : ByteArray) : Prop := ∀ W, MaxIs W → Calls Tryd.prog f #[.agg #[.int .i64 K, .int .i64 I, .int .u64 U, .string S]] W fun e w' => e = .returned (.string ⟨(CP.put ⟨K, I, U, S.data.toList⟩).toArray⟩) ∧ Below W.heap.size W w'

theorem puts0 (I U : Int) (S : ByteArray) : PutsIt 58 0 I U S := fun w _ => by
  go_enter Tryd.func58, Tryd.ntmps58
  go_wp2_with fail
  refine (oneByte_any _ _ (by omega) (by omega)).mono ?_
  rintro e w1 ⟨rfl, hb1⟩
  go_wp2_with fail
  go_ret
  exact ⟨rfl, (below_alloc _ _).trans' hb1⟩
theorem puts1 (I U : Int) (S : ByteArray) (h0 : 0 ≤ U) (h1 : U ≤ 1) : PutsIt 60 1 I U S := fun w _ => by
  go_enter Tryd.func60, Tryd.ntmps60
  go_wp2_with fail
  refine (oneByte_any _ _ (by omega) (by omega)).mono ?_
  rintro e w1 ⟨rfl, hb1⟩
  go_wp2_with fail
  go_ret
  refine ⟨?_, (below_alloc _ _).trans' hb1⟩
  rw [CP.put1 rfl]
  show Ending.returned (.string ⟨#[(32 + U).toNat.toUInt8]⟩) = _
  rw [show (32 + U).toNat = 32 + U.toNat by omega]

theorem wrap64 (x : Int) : IntKind.u64.wrap x = x % 18446744073709551616 := by
  unfold IntKind.wrap
  simp [IntKind.bits, IntKind.signed]
/-- One byte as a text. -/
def one (b : UInt8) : ByteArray := ⟨#[b]⟩
theorem one_any (b : UInt8) (n : Int) (hn : n = b.toNat) : Hid (∀ W, Calls Tryd.prog 59 #[.int .u8 n] W fun e w' => e = .returned (.string (one b)) ∧ Below W.heap.size W w') := Lib.hid (fun W => by
  have hb := b.toNat_lt
  subst hn
  have h := oneByte_any (b.toNat : Int) W (by omega) (by omega)
  rw [Int.toNat_natCast, show b.toNat.toUInt8 = b by apply UInt8.toNat_inj.1; simp] at h
  exact h)
theorem one_size (b : UInt8) : (one b).size = 1 := rfl

set_option maxHeartbeats 1000000 in
set_option maxRecDepth 100000 in
theorem puts3 (I U : Int) (S : ByteArray) (h0 : 0 ≤ U) (h1 : U ≤ 18446744073709551615) : PutsIt 63 3 I U S := fun w _ => by
  have HK0 := Lib.hid (Box.new 3 I U S w)
  have HKeep := held_keep w.heap.size 3 I U S
  have HP := Lib.hid (fun W => put_any U W h0 h1)
  have HO := one_any 64 64 rfl
  have hlen := CP.wput_len U.toNat (by omega)
  have hl : (ByteArray.mk (WP.put U.toNat).toArray).size ≤ 9 := by simp [ByteArray.size]; omega
  have he := CP.put3 (c := ⟨3, I, U, S.data.toList⟩) rfl
  simp only at he
  rw [he, show (⟨(64 :: WP.put U.toNat).toArray⟩ : ByteArray) = one 64 ++ ⟨(WP.put U.toNat).toArray⟩ from (WP.bytes_add [64] _).symm]
  clear he hlen
  generalize (⟨(WP.put U.toNat).toArray⟩ : ByteArray) = P at *
  have hadd : ¬ 9223372036854775807 < (one 64).size + P.size := by rw [one_size]; omega
  clear hl h0 h1
  go_enter Tryd.func63, Tryd.ntmps63
  go_wp2_with fail
  go_region_held3 (fun w' => Hid (Box w.heap.size 3 I U S w') ∧ w'.cell? ⟨w.heap.size, 0, none⟩ = some (.int .i64 3) ∧ w'.cell? ⟨w.heap.size, 1, none⟩ = some (.int .i64 I) ∧ w'.cell? ⟨w.heap.size, 2, none⟩ = some (.int .u64 U) ∧ w'.cell? ⟨w.heap.size, 3, none⟩ = some (.string S))
    (first | assumption | exact ⟨HK0, HK0.out.cells⟩ | exact HKeep.out _ _ (by assumption) (by assumption))
    (first
      | (go_at_call 59; refine (HO.out _).mono ?_; rintro e w1 ⟨rfl, hb1⟩)
      | (go_at_call 64; refine (HP.out _).mono ?_; rintro e w2 ⟨rfl, hb2⟩))
  all_goals
    go_wp2_with fail
    go_ret
    exact ⟨rfl, (below_alloc _ _).trans' ((below_of_drew hb1).trans' hb2)⟩

set_option maxHeartbeats 1000000 in
set_option maxRecDepth 100000 in
theorem puts2 (I U : Int) (S : ByteArray) (h0 : -9223372036854775808 ≤ I) (h1 : I ≤ 9223372036854775807) : PutsIt 61 2 I U S := fun w _ => by
  have HK0 := Lib.hid (Box.new 2 I U S w)
  have HKeep := held_keep w.heap.size 2 I U S
  have HP := Lib.hid (fun W => eightBytes_any (I + 9223372036854775808) W (by omega) (by omega))
  have HO := one_any 48 48 rfl
  have hw : IntKind.u64.wrap (IntKind.u64.wrap I + 9223372036854775808) = I + 9223372036854775808 := by rw [wrap64, wrap64]; omega
  have hl : (ByteArray.mk (Lib.beBytes 8 (I + 9223372036854775808).toNat).toArray).size = 8 := by simp [ByteArray.size, Lib.beBytes_length]
  have he := CP.put2 (c := ⟨2, I, U, S.data.toList⟩) rfl
  simp only at he
  rw [he, show (⟨(48 :: Lib.beBytes 8 (I + 9223372036854775808).toNat).toArray⟩ : ByteArray) = one 48 ++ ⟨(Lib.beBytes 8 (I + 9223372036854775808).toNat).toArray⟩ from (WP.bytes_add [48] _).symm]
  clear he
  generalize (⟨(Lib.beBytes 8 (I + 9223372036854775808).toNat).toArray⟩ : ByteArray) = P at *
  have hadd : ¬ 9223372036854775807 < (one 48).size + P.size := by rw [one_size]; omega
  clear hl
  go_enter Tryd.func61, Tryd.ntmps61
  go_wp2_with fail
  go_region_held3 (fun w' => Hid (Box w.heap.size 2 I U S w') ∧ w'.cell? ⟨w.heap.size, 0, none⟩ = some (.int .i64 2) ∧ w'.cell? ⟨w.heap.size, 1, none⟩ = some (.int .i64 I) ∧ w'.cell? ⟨w.heap.size, 2, none⟩ = some (.int .u64 U) ∧ w'.cell? ⟨w.heap.size, 3, none⟩ = some (.string S))
    (first | assumption | exact ⟨HK0, HK0.out.cells⟩ | exact HKeep.out _ _ (by assumption) (by assumption))
    (first
      | (go_at_call 59; refine (HO.out _).mono ?_; rintro e w1 ⟨rfl, hb1⟩)
      | (go_at_call 62; refine (HP.out _).mono ?_; rintro e w2 ⟨rfl, hb2⟩))
  all_goals
    go_wp2_with fail
    go_ret
    exact ⟨rfl, (below_alloc _ _).trans' ((below_of_drew hb1).trans' hb2)⟩

set_option maxHeartbeats 1000000 in
set_option maxRecDepth 100000 in
theorem puts4 (I U : Int) (S : ByteArray) (hS : S.size ≤ 1000) : PutsIt 65 4 I U S := fun w HM => by
  have HK0 : Hid (∀ W : World, Below (w.alloc (.cells #[.int .i64 4, .int .i64 I, .int .u64 U, .string S] 51)).heap.size (w.alloc (.cells #[.int .i64 4, .int .i64 I, .int .u64 U, .string S] 51)) W → Hid (Box w.heap.size 4 I U S W) ∧ Hid (MaxIs W) ∧ W.cell? ⟨w.heap.size, 3, none⟩ = some (.string S)) :=
    Lib.hid (fun W b => ⟨Lib.hid ((Box.new 4 I U S w).below b), Lib.hid ((HM.alloc _).below b), ((Box.new 4 I U S w).below b).cells.2.2.2⟩)
  have HKeep : Hid (∀ W W' : World, Below W.heap.size W W' → (Hid (Box w.heap.size 4 I U S W) ∧ Hid (MaxIs W) ∧ W.cell? ⟨w.heap.size, 3, none⟩ = some (.string S)) → Hid (Box w.heap.size 4 I U S W') ∧ Hid (MaxIs W') ∧ W'.cell? ⟨w.heap.size, 3, none⟩ = some (.string S)) :=
    Lib.hid (fun W W' b h => ⟨Lib.hid (h.1.out.below b), Lib.hid (h.2.1.out.below b), (h.1.out.below b).cells.2.2.2⟩)
  have HQ : Hid (∀ W : World, (Hid (Box w.heap.size 4 I U S W) ∧ Hid (MaxIs W) ∧ W.cell? ⟨w.heap.size, 3, none⟩ = some (.string S)) → MaxIs W) := Lib.hid (fun W h => h.2.1.out)
  obtain ⟨X, HX⟩ : ∃ X : ByteArray, Hid (X = ⟨(CP.esc S.data.toList).toArray⟩) := ⟨_, Lib.hid rfl⟩
  have hX : X.size ≤ 2000 := by
    rw [HX.out]
    show (CP.esc S.data.toList).toArray.size ≤ 2000
    have h2 := CP.zeros_le S.data.toList
    have h3 : S.data.toList.length = S.size := by simp
    rw [List.size_toArray, CP.esc_length]
    omega
  have HR : Hid (∀ W, MaxIs W → Calls Tryd.prog 80 #[.string S, .string (one 0), .string (one 0 ++ one 255)] W fun e w' => e = .returned (.string X) ∧ Below W.heap.size W w') := Lib.hid (fun W hW => by
    obtain ⟨m, hm⟩ := hW
    have h := Tryd.strings_ReplaceAll S ⟨#[0]⟩ ⟨#[0, 255]⟩ m W (by omega) hm (by decide) (by
      have h1 := Lib.countB_mul_le ⟨#[0]⟩ (by decide) S.size S (Nat.le_refl _)
      have h2 : (⟨#[0]⟩ : ByteArray).size = 1 := rfl
      have h3 : (⟨#[0, 255]⟩ : ByteArray).size = 2 := rfl
      rw [h2] at h1
      rw [h3]
      omega)
    rw [show Lib.replaceAll S.data.toList (⟨#[0]⟩ : ByteArray).data.toList (⟨#[0, 255]⟩ : ByteArray).data.toList = CP.esc S.data.toList from CP.replaceAll_esc _, ← HX.out] at h
    exact h)
  have he := CP.put4 (c := ⟨4, I, U, S.data.toList⟩) rfl
  simp only at he
  rw [he, show (⟨(80 :: (CP.esc S.data.toList ++ [0, 1])).toArray⟩ : ByteArray) = one 80 ++ X ++ one 0 ++ one 1 by
    rw [HX.out]
    apply ByteArray.ext
    apply Array.toList_inj.1
    simp [one]]
  clear he
  have O0 := one_any 0 0 rfl
  have O1 := one_any 1 1 rfl
  have O255 := one_any 255 255 rfl
  have O80 := one_any 80 80 rfl
  have hX1 : (one 80 ++ X).size = 1 + X.size := by rw [ByteArray.size_append, one_size]
  have hX2 : (one 80 ++ X ++ one 0).size = 1 + X.size + 1 := by rw [ByteArray.size_append, hX1, one_size]
  have a1 : ¬ 9223372036854775807 < (one 0).size + (one 255).size := by rw [one_size, one_size]; omega
  have a2 : ¬ 9223372036854775807 < (one 80).size + X.size := by rw [one_size]; omega
  have a3 : ¬ 9223372036854775807 < (one 80).size + X.size + (one 0).size := by rw [one_size, one_size]; omega
  have a4 : ¬ 9223372036854775807 < (one 80).size + X.size + (one 0).size + (one 1).size := by rw [one_size, one_size, one_size]; omega
  clear hX hX1 hX2 hS
  go_enter Tryd.func65, Tryd.ntmps65
  go_wp2_with fail
  refine (O0.out _).mono ?_
  rintro e w1 ⟨rfl, hb1⟩
  have H1 := Lib.hid (HK0.out w1 hb1)
  go_wp2_with fail
  go_region_held3 (fun w' => Hid (Box w.heap.size 4 I U S w') ∧ Hid (MaxIs w') ∧ w'.cell? ⟨w.heap.size, 3, none⟩ = some (.string S))
    (first | assumption | exact H1.out | exact HKeep.out _ _ (by assumption) (by assumption))
    (first
      | (go_at_call 59; refine (O255.out _).mono ?_; rintro e w2 ⟨rfl, hb2⟩)
      | (go_at_call 80; refine (HR.out _ (HQ.out _ (by assumption))).mono ?_; rintro e w3 ⟨rfl, hb3⟩))
  go_wp2_with fail
  refine (O80.out _).mono ?_
  rintro e w4 ⟨rfl, hb4⟩
  go_wp2_with fail
  refine (O1.out _).mono ?_
  rintro e w5 ⟨rfl, hb5⟩
  go_wp2_with fail
  go_ret
  exact ⟨rfl, (below_alloc _ _).trans' (hb1.trans' ((((below_of_drew hb2).trans' hb3).trans' hb4).trans' hb5))⟩
end Go.Proofs.YtdcijbclafpkmaaDoor
