/-
  The walk of the document's Fixed.
-/
import Derived.Test.YtpehkikdmckldaaGreatDoorJ26
import Derived.Test.YtpehkikdmckldaaGreatDoorJ04
import Derived.Test.YtpehkikdmckldaaGreatDoorJ18
import Derived.Deep.RegionHeld3
namespace Go.Proofs.YtpehkikdmckldaaGreatDoor
open Go.RowKit NP
set_option linter.unusedVariables false
set_option linter.unusedSimpArgs false

theorem rputT (t : ByteArray) (W : World) (h : t.size ≤ 1000) :
    ∃ P : ByteArray, P.size ≤ 9 ∧ P ++ t = L9.textS t ∧ ∀ W, Calls Tryz.prog 69 #[.int .u64 (t.size : Nat)] W fun e w' => e = .returned (.string P) ∧ Below W.heap.size W w' :=
  ⟨_, L9.wput_size t.size (by omega), L9.textS_eq t t.size rfl, fun W => by
    have h2 := L9.rput_any (t.size : Nat) W (by omega) (by omega)
    rw [Int.toNat_natCast] at h2
    exact h2⟩
set_option maxHeartbeats 4000000 in
set_option maxRecDepth 100000 in
theorem rfixed_any (F R : Int) (H : ByteArray) (A : Option Addr) (l : List It) (ca : Nat) (w : World) (ha : Lies5 w w.heap.size A l) (hf : Fit H l) :
    Calls Tryz.prog 37 #[lv F R H A l.length ca] w fun e w' => e = .returned (.string (fixedS H l)) ∧ Below w.heap.size w w' := by
  have hb0 := lbox_below 34 F R H A l.length ca w
  have HB0 := Lib.hid hb0
  have HK := Lib.hid (lbox_new 34 F R H A l.length ca w)
  have HR := Lib.hid (rkeys_any F R H A l ca _ (ha.on hb0) hf.few)
  have HS := Lib.hid (fun G cap W (h : L5.Lies W W.heap.size G (ks l)) => L5.rstrip_any G (ks l) cap W h (by rw [ks_length]; exact hf.few) (fun s hs => by
    obtain ⟨x, hx, rfl⟩ := List.mem_map.1 hs
    exact hf.key x hx))
  have z3 := headS_size hf.key
  have z4 := hf.high
  obtain ⟨P1, p1, q1, c1⟩ := rputT (L5.headS (ks l)) w z3
  obtain ⟨P2, p2, q2, c2⟩ := rputT H w z4
  have HZ : Hid (((P1 ++ L5.headS (ks l)) ++ P2) ++ H = fixedS H l) := Lib.hid (by rw [ByteArray.append_assoc, q1, q2]; rfl)
  have HP1 := Lib.hid c1
  have HP2 := Lib.hid c2
  rw [ks_length] at HS
  obtain ⟨hd, hhd⟩ : ∃ hd, L5.headS (ks l) = hd := ⟨_, rfl⟩
  rw [hhd] at HS HP1 HZ z3
  rw [← HZ.out]
  have e1 : (P1 ++ hd).size = P1.size + hd.size := ByteArray.size_append
  have e2 : ((P1 ++ hd) ++ P2).size = P1.size + hd.size + P2.size := by rw [ByteArray.size_append, e1]
  have hz1 : ¬ 9223372036854775807 < P1.size + hd.size := by omega
  have hz2 : ¬ 9223372036854775807 < P1.size + hd.size + P2.size := by omega
  have hz3 : ¬ 9223372036854775807 < P1.size + hd.size + P2.size + H.size := by omega
  have hz1' : ¬ (9223372036854775807 : Int) < (P1.size : Int) + (hd.size : Int) := by omega
  have hz2' : ¬ (9223372036854775807 : Int) < (P1.size : Int) + (hd.size : Int) + (P2.size : Int) := by omega
  have hz3' : ¬ (9223372036854775807 : Int) < (P1.size : Int) + (hd.size : Int) + (P2.size : Int) + (H.size : Int) := by omega
  have w1 : IntKind.u64.wrap (hd.size : Int) = (hd.size : Int) := IntWalk.u64_in _ (by omega)
  have w2 : IntKind.u64.wrap (H.size : Int) = (H.size : Int) := IntWalk.u64_in _ (by omega)
  generalize l.length = n at *
  simp only [lbox] at HK HR HB0
  clear ha hf hb0 q1 q2 c1 c2 hhd HZ
  go_enter Tryz.func37, Tryz.ntmps37
  go_wp2_with fail
  refine HR.out.mono ?_
  rintro e W2 ⟨G, cap, rfl, hL, hb2⟩
  go_wp2_with fail
  refine (HS.out G cap _ hL).mono ?_
  rintro e W3 ⟨G3, cap3, rfl, hL3, hb3⟩
  have HK3 := Lib.hid ((HK.out.below hb2).below hb3)
  have HB3 := Lib.hid ((HB0.out.trans' hb2).trans' hb3)
  clear hL hb2 hb3 hL3
  have HST : Hid (∀ V, Below W3.heap.size W3 V → (Hid (Below W3.heap.size W3 V) ∧ V.cell? ⟨w.heap.size, 2, none⟩ = some (.string H))) := Lib.hid (fun V hb => ⟨Lib.hid hb, (HK3.out.below hb).cells.2.2.1⟩)
  have hSd := HST.out _ (L5.below_drewN (Below.refl _ W3) 1)
  have hS0 := HST.out _ (Below.refl _ W3)
  go_wp2_with fail
  go_region_held3 (fun V => Hid (Below W3.heap.size W3 V) ∧ V.cell? ⟨w.heap.size, 2, none⟩ = some (.string H))
    (first | assumption | exact hSd)
    (first
      | (go_at_call 69; refine Calls.mono (fit (HP1.out _) (by rfl)) ?_; rintro e V ⟨rfl, hb⟩; have HBV := Lib.hid ((by assumption : Hid (Below W3.heap.size W3 _) ∧ _).1.out.trans' hb); have hSn := HST.out _ HBV.out; clear hb)
      | (go_at_call 69; refine Calls.mono (fit (HP2.out _) (by rfl)) ?_; rintro e V ⟨rfl, hb⟩; have HBV := Lib.hid ((by assumption : Hid (Below W3.heap.size W3 _) ∧ _).1.out.trans' hb); have hSn := HST.out _ HBV.out; clear hb)
      | fail "no arm")
  all_goals
    go_wp2_with fail
    go_ret
    exact ⟨rfl, HB3.out.trans' HBV.out⟩
end Go.Proofs.YtpehkikdmckldaaGreatDoor
