/-
  Walks of the document's own answers of layer 1: Put, Read, Get.
-/
import Derived.Test.YtdcijbclafpkmaaDoorWRef
namespace Go.Proofs.YtdcijbclafpkmaaDoor
open Go.RowKit
set_option linter.unusedVariables false

theorem conv_own {P : Program} {w : World} {base : Nat} {t e s : TypeId} {g n cap : Nat} {l : List UInt8} (ht : P.underlying t = some (.slice e)) (he : P.underlying e = some (.int .u8)) (hs : P.underlying s = some .string)
    (h : w.ownsRow base e 1 (.slice (some ⟨g, 0, none⟩) n cap) n (byteCells l)) (hl : l.length = n) : (convert t s (.slice (some ⟨g, 0, none⟩) n cap)).run P w = .ok (.string ⟨l.toArray⟩) w := by
  subst hl
  refine run_convert_bytes_back w t s e _ cap l ht he hs (fun j hj => ?_)
  rw [addr_at, h.cellAt j (by omega)]
  simp [byteCells, hj]

set_option maxHeartbeats 400000 in
theorem rput_4 (n : Int) (w : World) (h0 : 67823 < n) (h1 : n ≤ 18446744073709551615) :
    Calls Tryd.prog 35 #[.int .u64 n] w fun e w' => e = .returned (.string ⟨(WP.put n.toNat).toArray⟩) ∧ Below w.heap.size w w' := by
  obtain ⟨v, rfl⟩ := Int.eq_ofNat_of_zero_le (show 0 ≤ n by omega)
  rw [Int.toNat_natCast]
  have h8 := WP.bl_le8 v
  have h3 := WP.bl_ge3 v (by omega)
  have Hp := Lib.hid (WP.put_4 v (by omega))
  go_enter Tryd.func35, Tryd.ntmps35
  go_wp2_with fail
  refine (digits_any v w (by omega) (by omega)).mono ?_
  rintro e w1 ⟨g, cap, rfl, hown, hb⟩
  have hc := conv_new w1 [247 + (WP.bl v : Int)] 45 5 9 Tryd.underlying45 Tryd.underlying5 Tryd.underlying9
  simp only [List.length_cons, List.length_nil, List.map_cons, List.map_nil, Nat.zero_add] at hc
  have hc2 := conv_own (w := w1.alloc (.cells #[.int .u8 (247 + (WP.bl v : Int))] 5)) (s := 9) (t := 45) Tryd.underlying45 Tryd.underlying5 Tryd.underlying9 (hown.alloc _) (Lib.beBytes_length _ _)
  have hl : ¬ 9223372036854775807 < (strOfNums [247 + (WP.bl v : Int)]).size + (Lib.beBytes (WP.bl v) v).length := by rw [strOfNums_size, Lib.beBytes_length]; simp; omega
  go_wp2_with fail
  go_ret
  refine ⟨?_, hb.alloc hb.size _⟩
  rw [Hp.out, ← WP.bytes_add, WP.be1]
  have e : strOfNums [247 + (WP.bl v : Int)] = ⟨[((247 + WP.bl v) % 256).toUInt8].toArray⟩ := by
    unfold strOfNums
    simp only [List.map_cons, List.map_nil]
    rw [u8n _ ((247 + WP.bl v) % 256) (by omega)]
  rw [← e]
  rfl

theorem rput_any (n : Int) (w : World) (h0 : 0 ≤ n) (h1 : n ≤ 18446744073709551615) :
    Calls Tryd.prog 35 #[.int .u64 n] w fun e w' => e = .returned (.string ⟨(WP.put n.toNat).toArray⟩) ∧ Below w.heap.size w w' := by
  rcases (show n ≤ 240 ∨ (240 < n ∧ n ≤ 2287) ∨ (2287 < n ∧ n ≤ 67823) ∨ 67823 < n by omega) with h | h | h | h
  · exact rput_1 n w h0 h
  · exact rput_2 n w h.1 h.2
  · exact rput_3 n w h.1 h.2
  · exact rput_4 n w h h1

theorem drop_take_cons (s : ByteArray) (a k : Nat) (h : a < s.size) : (s.data.toList.drop a).take (k + 1) = s[a] :: (s.data.toList.drop (a + 1)).take k := by
  rw [WP.drop_cons s a h, List.take_succ_cons]




end Go.Proofs.YtdcijbclafpkmaaDoor
