/-
  The walk of the document's Size.
-/
import Derived.Test.YtpehkikdmckldaaGreatDoorJNDFix
import Derived.Test.YtpehkikdmckldaaGreatDoorJNDCells
import Derived.Test.YtpehkikdmckldaaGreatDoorJ11
namespace Go.Proofs.YtpehkikdmckldaaGreatDoor
open Go.RowKit NP
set_option linter.unusedVariables false
set_option linter.unusedSimpArgs false

set_option maxHeartbeats 4000000 in
set_option maxRecDepth 100000 in
theorem rsize_any (F R : Int) (H : ByteArray) (A : Option Addr) (l : List It) (ca : Nat) (w : World) (ha : Lies5 w w.heap.size A l) (hf : Fit H l) :
    Calls Tryz.prog 20 #[lv F R H A l.length ca] w fun e w' => e = .returned (.int .i64 (size ⟨F, R, H, l⟩ : Nat)) ∧ Below w.heap.size w w' := by
  have hb0 := lbox_below 34 F R H A l.length ca w
  have HB0 := Lib.hid hb0
  have HA := Lib.hid (ha.on hb0)
  have HK := Lib.hid (lbox_new 34 F R H A l.length ca w)
  have HF := Lib.hid (fun W (h : Lies5 W W.heap.size A l) => rfixed_any F R H A l ca W h hf)
  have HC := Lib.hid (fun W (h : Lies5 W W.heap.size A l) => rcells_any F R H A l ca W h hf)
  have HS := Lib.hid (fun G cap W (h : L5.Lies W W.heap.size G (cellsS l)) => L8.size8_any (fixedS H l) G (cellsS l) cap W h (by rw [cellsS_length]; have := hf.few; omega) (by have := fixedS_size hf; omega) (fun s hs => by have := cellsS_size hf s hs; omega))
  rw [size_eq F R, cellsS_length] at HS
  generalize size ⟨F, R, H, l⟩ = z at *
  generalize fixedS H l = fx at *
  generalize l.length = n at *
  clear ha hf hb0
  simp only [lbox] at HK HB0 HA
  go_enter Tryz.func20, Tryz.ntmps20
  go_wp2_with fail
  generalize w.alloc (.cells #[.int .i64 F, .int .i64 R, .string H, .slice A n ca] 34) = w1 at *
  have HST : Hid (∀ V, Below w1.heap.size w1 V → (Hid (Below w1.heap.size w1 V) ∧ V.cell? ⟨w.heap.size, 0, none⟩ = some (.int .i64 F) ∧ V.cell? ⟨w.heap.size, 1, none⟩ = some (.int .i64 R) ∧ V.cell? ⟨w.heap.size, 2, none⟩ = some (.string H) ∧ V.cell? ⟨w.heap.size, 3, none⟩ = some (.slice A n ca))) := Lib.hid (fun V hb => ⟨Lib.hid hb, (HK.out.below hb).cells⟩)
  have HLI : Hid (∀ V (X : Prop), (Hid (Below w1.heap.size w1 V) ∧ X) → Lies5 V V.heap.size A l) := Lib.hid (fun V X h => HA.out.on h.1.out)
  have hSd := HST.out _ (L5.below_drewN (Below.refl _ w1) 1)
  go_region_held3 (fun V => Hid (Below w1.heap.size w1 V) ∧ V.cell? ⟨w.heap.size, 0, none⟩ = some (.int .i64 F) ∧ V.cell? ⟨w.heap.size, 1, none⟩ = some (.int .i64 R) ∧ V.cell? ⟨w.heap.size, 2, none⟩ = some (.string H) ∧ V.cell? ⟨w.heap.size, 3, none⟩ = some (.slice A n ca))
    (first | assumption | exact hSd)
    (first
      | (go_at_call 37; refine (HF.out _ (HLI.out _ _ (by assumption))).mono ?_; rintro e V ⟨rfl, hb⟩; have HBV := Lib.hid ((by assumption : Hid (Below w1.heap.size w1 _) ∧ _).1.out.trans' hb); (try have RA := Lib.hid (RA.out.on hb)); have hSn := HST.out _ HBV.out; clear hb)
      | (go_at_call 38; refine (HC.out _ (HLI.out _ _ (by assumption))).mono ?_; rintro e V ⟨G, cap, rfl, hl, hb⟩; have HBV := Lib.hid ((by assumption : Hid (Below w1.heap.size w1 _) ∧ _).1.out.trans' hb); have RA := Lib.hid hl; have hSn := HST.out _ HBV.out; clear hl hb)
      | (go_at_call 51; refine (HS.out _ _ _ RA.out).mono ?_; rintro e V ⟨rfl, rfl⟩)
      | fail "no arm")
  all_goals
    go_wp2_with fail
    go_ret
    exact ⟨rfl, HB0.out.trans' HBV.out⟩
end Go.Proofs.YtpehkikdmckldaaGreatDoor
