/-
  The walk of the law SumLinear.
-/
import Derived.Test.YtepefmgdkkecaaaSBytes
namespace Go.Proofs.Ytepefmgdkkecaaa
open Go.RowKit
set_option linter.unusedVariables false

theorem min_three {P : Program} {w : World} (ts : Array TypeId) (t : TypeId) (k k' k'' : IntKind) (x y z : Int) : (Builtin.min_ ts t #[.int k x, .int k' y, .int k'' z]).run P w = .ok (.int k (min (min x y) z)) w := by
  rw [run_min_int3]
  have : (if z < (if y < x then y else x) then z else (if y < x then y else x)) = min (min x y) z := by split <;> split <;> omega
  rw [this]
attribute [local go_sem high] min_three

/-- The first k bytes of both, taken by exclusive or. -/
def xorTo (s t : ByteArray) (k : Nat) : List UInt8 := List.zipWith (· ^^^ ·) (s.data.toList.take k) (t.data.toList.take k)
theorem xorTo_length (s t : ByteArray) (k : Nat) (hs : k ≤ s.size) (ht : k ≤ t.size) : (xorTo s t k).length = k := by
  have h1 : s.data.toList.length = s.size := by simp
  have h2 : t.data.toList.length = t.size := by simp
  unfold xorTo
  rw [List.length_zipWith, List.length_take, List.length_take, h1, h2]
  omega
theorem xorTo_succ (s t : ByteArray) (k : Nat) (hs : k < s.size) (ht : k < t.size) : xorTo s t (k + 1) = xorTo s t k ++ [s[k] ^^^ t[k]] := by
  unfold xorTo
  have h1 : s.data.toList.length = s.size := by simp
  have h2 : t.data.toList.length = t.size := by simp
  rw [take_snoc s k hs, take_snoc t k ht, List.zipWith_append (by rw [List.length_take, List.length_take, h1, h2]; omega)]
  rfl

theorem own_later {w w' : World} {base g n cap : Nat} {xs : List Value} (h : w.ownsRow base 5 1 (.slice (some ⟨g, 0, none⟩) n cap) n xs) (hb : Below w.heap.size w w') : w'.ownsRow base 5 1 (.slice (some ⟨g, 0, none⟩) n cap) n xs := by
  obtain ⟨h1, h2⟩ := h
  refine ⟨h1, ?_⟩
  rcases h2 with h2 | ⟨g', cap', cur, hv, hg, hh, r⟩
  · exact Or.inl h2
  · exact Or.inr ⟨g', cap', cur, hv, hg, by rw [hb.block g' (lt_of_block hh)]; exact hh, r⟩

theorem below_of_drew {w w2 : World} (h : Below w.drew.heap.size w.drew w2) : Below w.heap.size w w2 := ⟨h.os, h.tape, h.output, h.size, h.block⟩

set_option maxHeartbeats 1000000 in
theorem sumLinear_walk (s t : ByteArray) (w : World) (ws : s.size ≤ maxLen) (wt : t.size ≤ maxLen) :
    Calls Try.prog 8 #[.string s, .string t] w fun e w' => e = .returned (.bool true) ∧ Below w.heap.size w w' := by
  unfold maxLen at ws wt
  obtain ⟨n, hn, hns, hnt, hn4⟩ : ∃ n : Nat, min (min (s.size : Int) (t.size : Int)) 400 = n ∧ n ≤ s.size ∧ n ≤ t.size ∧ n ≤ 400 := ⟨min (min s.size t.size) 400, by omega, by omega, by omega, by omega⟩
  obtain ⟨i0, hi, hz0, hz1, hz2⟩ := info_parts Try.infoU8
  go_enter Try.func8, Try.ntmps8
  go_wp2_with fail
  clear hn
  go_loopw [6, 7] (fun v i wr => ∃ (k g cap : Nat), k ≤ n ∧ i = .int .i64 k ∧ v = .slice (some ⟨g, 0, none⟩) k cap ∧ w.heap.size ≤ g ∧ wr.ownsRow w.heap.size 5 1 (.slice (some ⟨g, 0, none⟩) k cap) k (byteCells (xorTo s t k)) ∧ Below w.heap.size w wr) (fun _ i _ => n - (intOf i).toNat)
  case atStart => exact ⟨0, w.heap.size, 0, by omega, rfl, rfl, Nat.le_refl _, own_none (Nat.le_refl _), (Below.refl _ w).alloc (Nat.le_refl _) _⟩
  case round =>
    obtain ⟨k, g, cap, hk, rfl, rfl, hg, hown, hb⟩ := hrel
    have hbs := hb.size
    by_cases hlt : k < n
    · have hks : k < s.size := by omega
      have hkt : k < t.size := by omega
      have q0 : (0 : Int) ≤ (k : Int) := by omega
      have q1 : (k : Int) < (s.size : Int) := by omega
      have q2 : (k : Int) < (t.size : Int) := by omega
      have HX := Lib.hid (xorTo_succ s t k hks hkt)
      have hx : bits .xor .u8 (s[k].toNat : Int) (t[k].toNat : Int) = ((s[k] ^^^ t[k]).toNat : Int) := by
        rw [UInt8.toNat_xor]; exact u8_xor_nat _ _ s[k].toNat_lt t[k].toNat_lt
      revert hx HX
      generalize s[k] ^^^ t[k] = c
      intro HX hx
      go_wp2_with fail
      go_region_held3 (fun _ => True) (trivial)
        ((refine step_append_lies _ (by rfl) _ _ _ (by rfl) w.heap.size 5 i0 (.int .u8 0) 1 1 Try.underlying31 hi hz0 hz1 hz2 rfl (by decide) (.slice (some ⟨g, 0, none⟩) k cap) k _ (by rfl) ((hown.alloc _).drew) ⟨wr.heap.size, 0, none⟩ 1 1 [.int .u8 c.toNat] (by rfl) (by rfl) (World.news_of_block (cs := #[.int .u8 c.toNat]) (t := 5) (fr := (0, 0)) (heap_alloc_new wr _)) (by simp [Value.oneCell']) (by omega) (by unfold maxLen; omega) (by omega) (by simp; omega) (wr.heap.size + 1) (by simp) ?_; intro g' cap' w1 hown1 hgrow hat hlt1))
      all_goals
        have hg' : w.heap.size ≤ g' := by rcases hat with h | h; (simp [Value.ownBlock] at h; omega); omega
        have hb' : Below w.heap.size w w1 := (hb.alloc hbs _).drew.grown hgrow (by simp; omega) (fun j e => by simp [Value.ownBlock] at e; omega)
        clear hat hgrow hlt1
        go_wp2_with fail
        go_roundw
        case rel => exact ⟨k + 1, g', cap', by omega, by go_num, rfl, hg', by rw [HX.out, byteCells_snoc]; exact hown1, hb'⟩
        case measure => simp [intOf]; omega
    · obtain rfl : k = n := by omega
      have hxl := xorTo_length s t k hns hnt
      have hsx : (s.extract 0 k).data.toList = s.data.toList.take k := by simp
      have htx : (t.extract 0 k).data.toList = t.data.toList.take k := by simp
      have hl1 : (s.data.toList.take k).length = k := by simp; omega
      have hl2 : (t.data.toList.take k).length = k := by simp; omega
      have HS := Lib.hid (SP.sum_xor (s.data.toList.take k) (t.data.toList.take k) (by rw [hl1, hl2]))
      rw [hl1] at HS
      have hq : wr.heap[g]? = wr.heap[g]? := rfl
      obtain ⟨X, HX⟩ : ∃ X : ByteArray, Hid (X = ⟨(xorTo s t k).toArray⟩) := ⟨_, Lib.hid rfl⟩
      have hXs : X.size ≤ maxLen := by rw [HX.out]; unfold maxLen; simp [ByteArray.size]; omega
      have HT1 : Hid (Tells 11 #[.string X] (.int .u32 (SP.sum (xorTo s t k) : Nat))) := Lib.hid (fun W => by
        have h := table_any X W hXs
        rwa [show X.data.toList = xorTo s t k by rw [HX.out]] at h)
      have HT2 : Hid (Tells 11 #[.string (s.extract 0 k)] (.int .u32 (SP.sum (s.data.toList.take k) : Nat))) := Lib.hid (fun W => by
        have h := table_any (s.extract 0 k) W (by unfold maxLen; simp; omega)
        rwa [hsx] at h)
      have HT3 : Hid (Tells 11 #[.string (t.extract 0 k)] (.int .u32 (SP.sum (t.data.toList.take k) : Nat))) := Lib.hid (fun W => by
        have h := table_any (t.extract 0 k) W (by unfold maxLen; simp; omega)
        rwa [htx] at h)
      obtain ⟨Z, HZ⟩ : ∃ Z : ByteArray, Hid (Z = ⟨(List.replicate k 0).toArray⟩) := ⟨_, Lib.hid rfl⟩
      have HR : Hid (Tells 17 #[.int .u8 0, .int .i64 k] (.string Z)) := Lib.hid (fun W => by
        have h := refRepeat_any 0 k W (by omega)
        rw [← HZ.out] at h
        exact h)
      have HB : Hid (Tells 10 #[.string Z] (.int .u32 (SP.sum (List.replicate k 0) : Nat))) := Lib.hid (fun W => by
        have h := bits_any Z W (by rw [HZ.out]; unfold maxLen; simp [ByteArray.size]; omega)
        rwa [show Z.data.toList = List.replicate k 0 by rw [HZ.out]] at h)
      have HF : Hid (Tells 16 #[] (.bool true)) := Lib.hid fixed_any
      have hcv := conv_own hown hxl
      rw [← HX.out] at hcv
      have hx1 := xor32 (SP.sum (s.data.toList.take k)) (SP.sum (t.data.toList.take k)) (SP.sum_lt _) (SP.sum_lt _)
      have hx2 := xor32 (SP.sum (s.data.toList.take k) ^^^ SP.sum (t.data.toList.take k)) (SP.sum (List.replicate k 0)) (SP.xor_lt _ _ (SP.sum_lt _) (SP.sum_lt _)) (SP.sum_lt _)
      have HS' : Hid (SP.sum (s.data.toList.take k) ^^^ SP.sum (t.data.toList.take k) ^^^ SP.sum (List.replicate k 0) = SP.sum (xorTo s t k)) := Lib.hid HS.out.symm
      rw [HS'.out] at hx2
      have HXL := Lib.hid hxl
      clear hsx htx hl1 hl2 HS HS' hq hxl
      generalize SP.sum (xorTo s t k) = x at *
      generalize SP.sum (s.data.toList.take k) = a at *
      generalize SP.sum (t.data.toList.take k) = b at *
      generalize SP.sum (List.replicate k 0) = c at *
      have q0 : (0 : Int) ≤ (k : Int) := by omega
      have q1 : (k : Int) ≤ (s.size : Int) := by omega
      have q2 : (k : Int) ≤ (t.size : Int) := by omega
      have HK0 : Hid (Hid (wr.drew.ownsRow w.heap.size 5 1 (.slice (some ⟨g, 0, none⟩) k cap) k (byteCells (xorTo s t k))) ∧ (convert 31 9 (.slice (some ⟨g, 0, none⟩) k cap)).run Try.prog wr.drew = .ok (.string X) wr.drew) := Lib.hid ⟨Lib.hid hown.drew, by have h := conv_own hown.drew HXL.out; rwa [← HX.out] at h⟩
      have HKeep : Hid (∀ W W' : World, Below W.heap.size W W' → (Hid (W.ownsRow w.heap.size 5 1 (.slice (some ⟨g, 0, none⟩) k cap) k (byteCells (xorTo s t k))) ∧ (convert 31 9 (.slice (some ⟨g, 0, none⟩) k cap)).run Try.prog W = .ok (.string X) W) → Hid (W'.ownsRow w.heap.size 5 1 (.slice (some ⟨g, 0, none⟩) k cap) k (byteCells (xorTo s t k))) ∧ (convert 31 9 (.slice (some ⟨g, 0, none⟩) k cap)).run Try.prog W' = .ok (.string X) W') := Lib.hid (fun W W' h1 h2 => by
        have h3 := own_later h2.1.out h1
        refine ⟨Lib.hid h3, ?_⟩
        have h := conv_own h3 HXL.out
        rwa [← HX.out] at h)
      clear hcv
      go_wp2_with fail
      go_region_held3 (fun w' => Hid (w'.ownsRow w.heap.size 5 1 (.slice (some ⟨g, 0, none⟩) k cap) k (byteCells (xorTo s t k))) ∧ (convert 31 9 (.slice (some ⟨g, 0, none⟩) k cap)).run Try.prog w' = .ok (.string X) w')
        (first | exact HK0.out | exact HKeep.out _ _ (by assumption) (by assumption))
        (first
          | (go_at_call 11; refine (HT1.out _).mono ?_; rintro e w1 ⟨rfl, hb1⟩)
          | (go_at_call 11; refine (HT2.out _).mono ?_; rintro e w2 ⟨rfl, hb2⟩)
          | (go_at_call 11; refine (HT3.out _).mono ?_; rintro e w3 ⟨rfl, hb3⟩)
          | (go_at_call 17; refine (HR.out _).mono ?_; rintro e w4 ⟨rfl, hb4⟩)
          | (go_at_call 10; refine (HB.out _).mono ?_; rintro e w5 ⟨rfl, hb5⟩)
          | (go_at_call 16; refine (HF.out _).mono ?_; rintro e w6 ⟨rfl, hb6⟩))
      go_wp2_with fail
      go_ret
      exact ⟨rfl, hb.trans' ((((((below_of_drew hb1).trans' hb2).trans' hb3).trans' hb4).trans' hb5).trans' hb6)⟩

end Go.Proofs.Ytepefmgdkkecaaa
