/-
  Walks of the document's Size, two, at, Repeat.
-/
import Derived.Test.YtbkjmcnichpmjaaECut
import Derived.Deep.RegionHeld3
import Derived.Laws.BytesArg
import Derived.BigQuiet
namespace Go.Proofs.Ytbkjmcnichpmjaa
open Go.RowKit
set_option linter.unusedVariables false
set_option linter.unusedSimpArgs false

theorem sum_bs (l : List ByteArray) (h : ∀ s ∈ l, s.size ≤ 65535) : LP.sum (Bs l) ≤ 65535 * l.length := by
  induction l with
  | nil => simp [Bs, LP.sum]
  | cons c l ih =>
    have h1 := h c (by simp)
    have h2 := ih (fun s hs => h s (by simp [hs]))
    simp only [Bs, List.map_cons, LP.sum, List.length_cons] at h2 ⊢
    have := b_size c
    omega
theorem sum_take (l : List ByteArray) (k : Nat) (s : ByteArray) (h : l[k]? = some s) : LP.sum (Bs (l.take (k + 1))) = LP.sum (Bs (l.take k)) + s.size := by
  rw [bs_snoc l k s h, LP.sum_append]
  simp [LP.sum, b_size]

set_option maxHeartbeats 1000000 in
theorem size8_any (f : ByteArray) (A : Option Addr) (l : List ByteArray) (ca : Nat) (w : World) (ha : Lies w w.heap.size A l) (hl : l.length ≤ 1000000) (hf : f.size ≤ 1000000) (hs : ∀ s ∈ l, s.size ≤ 65535) :
    Calls Try.prog 14 #[.string f, .slice A l.length ca] w fun e w' => e = .returned (.int .i64 (LP.need f.size (Bs l) : Nat)) ∧ w = w' := by
  have HA := Lib.hid ha
  have HS := Lib.hid hs
  obtain ⟨n, hn⟩ : ∃ n, n = l.length := ⟨_, rfl⟩
  have HN := Lib.hid hn
  rw [← hn] at hl ⊢
  clear ha hs hn
  go_enter Try.func14, Try.ntmps14
  go_wp2_with fail
  go_loop [5, 6] (fun nv iv => ∃ k : Nat, k ≤ n ∧ iv = .int .i64 k ∧ nv = .int .i64 (f.size + 2 + LP.sum (Bs (l.take k)) + 2 * k : Nat)) (fun _ iv => n - (intOf iv).toNat)
  case atStart => exact ⟨0, Nat.zero_le _, rfl, by simp [Bs, LP.sum]⟩
  case round =>
    obtain ⟨k, hk, rfl, rfl⟩ := hrel
    have hb : LP.sum (Bs (l.take k)) ≤ 65535 * n := Nat.le_trans (sum_bs _ (fun s hs => HS.out s (List.mem_of_mem_take hs))) (Nat.mul_le_mul_left _ (by rw [List.length_take]; omega))
    by_cases hlt : k < n
    · obtain ⟨c, hc⟩ : ∃ c, l[k]? = some c := ⟨_, List.getElem?_eq_getElem (by have := HN.out; omega)⟩
      obtain ⟨a, rfl, hab, hcell⟩ := HA.out k c hc
      have hcs : c.size ≤ 65535 := HS.out c (List.mem_of_getElem? hc)
      have HT := Lib.hid (sum_take l k c hc)
      clear hc hab
      generalize LP.sum (Bs (l.take k)) = q at *
      go_wp2_with fail
      go_round
      case rel => exact ⟨k + 1, by omega, by go_num, by rw [HT.out]; go_num⟩
      case measure => simp [intOf]; omega
    · obtain rfl : k = n := by omega
      have HE : Hid (f.size + 2 + LP.sum (Bs (l.take k)) + 2 * k = LP.need f.size (Bs l)) := Lib.hid (by
        rw [HN.out, List.take_length]
        unfold LP.need
        rw [bs_length])
      rw [HE.out]
      go_wp2_with fail
      go_ret
      exact ⟨rfl, rfl⟩

theorem addr_at (b j : Nat) : (⟨b, 0, none⟩ : Addr).add j = ⟨b, j, none⟩ := by
  unfold Addr.add
  split <;> simp_all
theorem conv_new (w : World) (xs : List Int) (t e s : TypeId) {P : Program} (ht : P.underlying t = some (.slice e)) (he : P.underlying e = some (.int .u8)) (hs : P.underlying s = some .string) :
    (convert t s (.slice (some ⟨w.heap.size, 0, none⟩) xs.length xs.length)).run P (w.alloc (.cells (xs.map (Value.int .u8)).toArray e)) = .ok (.string (strOfNums xs)) (w.alloc (.cells (xs.map (Value.int .u8)).toArray e)) := by
  refine run_convert_bytes_arg _ t e ht he _ 0 _ _ xs rfl (fun i hi => ?_) s hs
  rw [Nat.zero_add, cell_of_row _ _ i _ _ _ (heap_alloc_new _ _)]
  simp [hi]

theorem u8n (a b : Nat) (h : a % 256 = b % 256) : UInt8.ofNat a = b.toUInt8 := by
  apply UInt8.toNat_inj.1
  simp [Nat.toUInt8, h]

theorem ret_nums {xs : List Int} {l : List UInt8} (h : xs.map (fun n => UInt8.ofNat n.toNat) = l) : Ending.returned (.string (strOfNums xs)) = .returned (.string ⟨l.toArray⟩) := by
  unfold strOfNums
  rw [h]

/-- the cells of bytes -/
def byteCells (l : List UInt8) : List Value := l.map fun b => .int .u8 b.toNat

theorem own_new {w : World} {base : Nat} {t : TypeId} (c : Value) (h : base ≤ w.heap.size) : (w.alloc (.cells #[c] t)).ownsRow base t 1 (.slice (some ⟨w.heap.size, 0, none⟩) 1 1) 1 [c] :=
  ⟨rfl, .inr ⟨w.heap.size, 1, #[c], rfl, h, heap_alloc_new _ _, Nat.le_refl _, by unfold maxLen; omega, rfl, rfl⟩⟩

theorem own_none {w : World} {base : Nat} {t : TypeId} (h : base ≤ w.heap.size) : (w.alloc (.cells #[] t)).ownsRow base t 1 (.slice (some ⟨w.heap.size, 0, none⟩) 0 0) 0 [] :=
  ⟨rfl, .inr ⟨w.heap.size, 0, #[], rfl, h, heap_alloc_new _ _, Nat.le_refl _, by unfold maxLen; omega, rfl, rfl⟩⟩

theorem own_shape {w : World} {base : Nat} {t : TypeId} {v : Value} {n : Nat} {xs : List Value} (h : w.ownsRow base t 1 v n xs) (h0 : 0 < n) : ∃ g cap, v = .slice (some ⟨g, 0, none⟩) n cap ∧ base ≤ g := by
  rcases h.2 with ⟨_, h⟩ | ⟨g, cap, _, h, hb, _⟩
  · omega
  · exact ⟨g, cap, h, hb⟩

theorem conv_own {P : Program} {w : World} {base : Nat} {t e s : TypeId} {g n cap : Nat} {l : List UInt8} (ht : P.underlying t = some (.slice e)) (he : P.underlying e = some (.int .u8)) (hs : P.underlying s = some .string)
    (h : w.ownsRow base e 1 (.slice (some ⟨g, 0, none⟩) n cap) n (byteCells l)) (hl : l.length = n) : (convert t s (.slice (some ⟨g, 0, none⟩) n cap)).run P w = .ok (.string ⟨l.toArray⟩) w := by
  subst hl
  refine run_convert_bytes_back w t s e _ cap l ht he hs (fun j hj => ?_)
  rw [addr_at, h.cellAt j (by omega)]
  simp [byteCells, hj]

theorem Try.infoByte : (Try.prog.info? 5).map (fun i => (i.zero, i.size, i.bytes)) = some (some (.int .u8 0), 1, 1) := by kernel_rfl

theorem byteCells_snoc (l : List UInt8) (b : UInt8) : byteCells (l ++ [b]) = byteCells l ++ [.int .u8 b.toNat] := by simp [byteCells]

set_option maxHeartbeats 400000 in
theorem refRepeat_any (c : UInt8) (n : Nat) (w : World) (hn : n ≤ 100000) :
    Calls Try.prog 19 #[.int .u8 c.toNat, .int .i64 n] w fun e w' => e = .returned (.string ⟨(List.replicate n c).toArray⟩) ∧ Below w.heap.size w w' := by
  obtain ⟨i0, hi, hz0, hz1, hz2⟩ := info_parts Try.infoByte
  go_enter Try.func19, Try.ntmps19
  go_wp2_with fail
  go_loopw [5, 6] (fun v i wr => ∃ (k g cap : Nat), k ≤ n ∧ i = .int .i64 k ∧ v = .slice (some ⟨g, 0, none⟩) k cap ∧ w.heap.size ≤ g ∧ wr.ownsRow w.heap.size 5 1 (.slice (some ⟨g, 0, none⟩) k cap) k (byteCells (List.replicate k c)) ∧ Below w.heap.size w wr) (fun _ i _ => n - (intOf i).toNat)
  case atStart => exact ⟨0, w.heap.size, 0, by omega, rfl, rfl, Nat.le_refl _, own_none (Nat.le_refl _), (Below.refl _ w).alloc (Nat.le_refl _) _⟩
  case round =>
    obtain ⟨k, g, cap, hk, rfl, rfl, hg, hown, hb⟩ := hrel
    have hbs := hb.size
    by_cases hlt : k < n
    · go_wp2_with (at_builtin; refine wpList_append_lies _ rfl _ _ 41 rfl w.heap.size 5 i0 (.int .u8 0) 1 1 Try.underlying41 hi hz0 hz1 hz2 rfl (by decide) (.slice (some ⟨g, 0, none⟩) k cap) k _ rfl (hown.alloc _) ⟨wr.heap.size, 0, none⟩ 1 1 [.int .u8 c.toNat] rfl rfl (World.news_of_block (cs := #[.int .u8 c.toNat]) (t := 5) (fr := (0, 0)) (heap_alloc_new wr _)) (by simp [Value.oneCell']) (by omega) (by unfold maxLen; omega) (by omega) (by simp; omega) (wr.heap.size + 1) (by simp) ?_; intro g' cap' w1 hown1 hgrow hat hlt1)
      have hg' : w.heap.size ≤ g' := by rcases hat with h | h; (simp [Value.ownBlock] at h; omega); omega
      have hb' : Below w.heap.size w w1 := (hb.alloc hbs _).grown hgrow (by simp; omega) (fun j e => by simp [Value.ownBlock] at e; omega)
      clear hat hgrow hlt1
      go_roundw
      case rel => exact ⟨k + 1, g', cap', by omega, by go_num, rfl, hg', by rw [List.replicate_succ', byteCells_snoc]; exact hown1, hb'⟩
      case measure => simp [intOf]; omega
    · obtain rfl : k = n := by omega
      have hcv := conv_own Try.underlying41 Try.underlying5 Try.underlying9 hown (by simp)
      go_wp2_with fail
      go_ret
      exact ⟨rfl, hb⟩

theorem repeat0_any (n : Nat) (w : World) (hn : n ≤ 100000) :
    Calls Try.prog 19 #[.int .u8 0, .int .i64 n] w fun e w' => e = .returned (.string ⟨(List.replicate n (0 : UInt8)).toArray⟩) ∧ Below w.heap.size w w' := refRepeat_any 0 n w hn
theorem two_text (n : Nat) (h : n < 65536) : strOfNums [((n % 256 : Nat) : Int), ((n / 256 : Nat) : Int)] = (⟨(LP.two n).toArray⟩ : ByteArray) := by
  apply ByteArray.ext
  simp [strOfNums, LP.two, LP.u8]
  exact ⟨congrArg _ (by omega), congrArg _ (by omega)⟩
set_option maxHeartbeats 400000 in
theorem two_any (n : Nat) (w : World) (h : n < 65536) :
    Calls Try.prog 18 #[.int .i64 n] w fun e w' => e = .returned (.string ⟨(LP.two n).toArray⟩) ∧ Below w.heap.size w w' := by
  have hc := fun a b => conv_new w [a, b] 41 5 9 Try.underlying41 Try.underlying5 Try.underlying9
  simp only [List.length_cons, List.length_nil, List.map_cons, List.map_nil, Nat.zero_add, Nat.reduceAdd] at hc
  have HT := Lib.hid (two_text n h)
  obtain ⟨a, ha⟩ : ∃ a : Nat, a = n % 256 := ⟨_, rfl⟩
  obtain ⟨b, hb⟩ : ∃ b : Nat, b = n / 256 := ⟨_, rfl⟩
  rw [← ha, ← hb] at HT
  have q1 : (n : Int) % 256 = a := by omega
  have q2 : (n : Int).tmod 256 = a := by rw [Int.tmod_eq_emod_of_nonneg (by omega)]; exact q1
  have q3 : (n : Int) / 256 = b := by omega
  have q4 : (n : Int).tdiv 256 = b := by rw [Int.tdiv_eq_ediv_of_nonneg (by omega)]; exact q3
  have q5 : IntKind.i64.wrap (b : Int) = b := IntWalk.i64_in _ (by omega)
  have q6 : IntKind.u8.wrap (a : Int) = a := IntWalk.u8_in _ (by omega)
  have q7 : IntKind.u8.wrap (b : Int) = b := IntWalk.u8_in _ (by omega)
  have q8 : (a : Int) % 256 = a := by omega
  have q9 : (b : Int) % 256 = b := by omega
  clear ha hb
  go_enter Try.func18, Try.ntmps18
  go_wp2_with fail
  go_ret
  exact ⟨by rw [← HT.out]; rfl, (Below.refl _ w).alloc (Nat.le_refl _) _⟩
theorem getD_of (s : ByteArray) (i : Nat) (hi : i < s.size) : s.data.toList.getD i 0 = s[i] := by
  rw [List.getD_eq_getElem?_getD, List.getElem?_eq_getElem (by simpa using hi)]
  rfl
set_option maxHeartbeats 1000000 in
theorem at_any (s : ByteArray) (i : Nat) (w : World) (h : 2 * i + 2 ≤ s.size) (hs : s.size ≤ 65535) :
    Calls Try.prog 21 #[.string s, .int .i64 i] w fun e w' => e = .returned (.int .i64 (LP.at_ (B s) i : Nat)) ∧ Below w.heap.size w w' := by
  obtain ⟨k, hk⟩ : ∃ k : Nat, k = s.size - 2 * i - 2 := ⟨_, rfl⟩
  have i0 : k < s.size := by omega
  have i1 : k + 1 < s.size := by omega
  obtain ⟨b0, hb0⟩ : ∃ c, s[k]'i0 = c := ⟨_, rfl⟩
  obtain ⟨b1, hb1⟩ : ∃ c, s[k + 1]'i1 = c := ⟨_, rfl⟩
  have HV : Hid ((b0.toNat + 256 * b1.toNat : Nat) = LP.at_ (B s) i) := Lib.hid (by
    unfold LP.at_
    rw [show (B s).length = s.size from b_size s, ← hk, show s.size - 2 * i - 1 = k + 1 by omega, getD_of s k i0, getD_of s (k + 1) i1, hb0, hb1])
  rw [← HV.out]
  have l0 : b0.toNat < 256 := b0.toNat_lt
  have l1 : b1.toNat < 256 := b1.toNat_lt
  have r1 : IntKind.i64.wrap (256 * (b1.toNat : Int)) = 256 * (b1.toNat : Int) := IntWalk.i64_in _ (by omega)
  have r2 : IntKind.i64.wrap ((b0.toNat : Int) + 256 * (b1.toNat : Int)) = (b0.toNat : Int) + 256 * (b1.toNat : Int) := IntWalk.i64_in _ (by omega)
  have r3 : IntKind.i64.wrap (b0.toNat : Int) = b0.toNat := IntWalk.i64_in _ (by omega)
  have r4 : IntKind.i64.wrap (b1.toNat : Int) = b1.toNat := IntWalk.i64_in _ (by omega)
  have q1 : IntKind.i64.wrap (2 * (i : Int)) = 2 * (i : Int) := IntWalk.i64_in _ (by omega)
  have q2 : IntKind.i64.wrap ((s.size : Int) - 2 * i) = (s.size : Int) - 2 * i := IntWalk.i64_in _ (by omega)
  have q3 : IntKind.i64.wrap ((s.size : Int) - 2 * i - 2) = (k : Int) := by rw [show (s.size : Int) - 2 * i - 2 = k by omega]; exact IntWalk.i64_in _ (by omega)
  have q4 : (s.size : Int) - 2 * i - 2 = k := by omega
  have q5 : IntKind.i64.wrap (k : Int) = k := IntWalk.i64_in _ (by omega)
  have q6 : IntKind.i64.wrap ((k : Int) + 1) = (k : Int) + 1 := IntWalk.i64_in _ (by omega)
  have j0 : (k : Int) < s.size := by omega
  have j1 : (k : Int) + 1 < s.size := by omega
  have q8 : ((k : Int) + 1).toNat = k + 1 := by omega
  have q9 : (0 : Int) ≤ (k : Int) + 1 := by omega
  clear hk h hs
  go_enter Try.func21, Try.ntmps21
  go_wp2_with fail
  go_quiet (fail)
  go_wp2_with fail
  go_ret
  exact ⟨by go_num, below_drewN (Below.refl _ _) nq⟩
end Go.Proofs.Ytbkjmcnichpmjaa
