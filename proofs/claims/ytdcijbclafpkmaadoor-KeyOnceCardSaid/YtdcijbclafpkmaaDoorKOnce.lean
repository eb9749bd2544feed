/-
  The walk of the law KeyOnce.
-/
import Derived.Test.YtdcijbclafpkmaaDoorKFixed
namespace Go.Proofs.YtdcijbclafpkmaaDoor
open Go.RowKit
set_option linter.unusedVariables false
set_option linter.unusedSimpArgs false

set_option maxHeartbeats 2000000 in
set_option maxRecDepth 100000 in
theorem keyOnce_walk (s : ByteArray) (w : World) (M : MaxIs w) (ws : s.size ≤ maxLen) :
    Calls Tryd.prog 6 #[.string s] w fun e w' => e = .returned (.bool true) ∧ Below w.heap.size w w' := by
  unfold maxLen at ws
  obtain ⟨m, hm, hm1, hms, hm2, hts⟩ := cut_min s 200 (by omega)
  have HTS := Lib.hid hts
  have HF := Lib.hid fixed4_tells
  clear hts
  go_enter Tryd.func6, Tryd.ntmps6
  go_wp2_with fail
  clear hm hm2
  generalize s.extract 0 m = t at *
  obtain rfl := HTS.out
  clear HTS
  have hts : t.size ≤ 1000 := by omega
  have HOK := Lib.hid (fun cs h h0 => got_ok hts (cs := cs) h h0)
  have HON := Lib.hid (fun l h => KP.get_once (s := t.data.toList) (l := l) h)
  have HNO := Lib.hid (fun h => KP.get_no (s := t.data.toList) h)
  refine (keyGet_any t (by omega) w).mono ?_
  rintro e w1 ⟨v, cs, rfl, hcs, hown, hb1⟩
  have M1 := M.below hb1
  obtain ⟨G, cap, rfl, hcap⟩ := got_form hown
  have HL := Lib.hid (lies_own hown rfl)
  generalize KP.get t.data.toList = gg at *
  obtain ⟨l, er⟩ := gg
  simp only at HOK HON HNO hcs ⊢
  by_cases he : er = 0
  · subst he
    obtain ⟨hok, hlen, hall⟩ := HOK.out cs hcs rfl
    have hkey : (⟨(KP.key (cols cs)).toArray⟩ : ByteArray) = t := bytes_of_list (by
      have h := (HON.out l rfl).1
      rw [h, hcs])
    have HP := Lib.hid (kput G cs cap (.tuple #[.string t, .int .i64 0]) (by rw [keyV, if_pos hall, hkey]) hok hlen w1 M1 HL.out)
    have HR : Hid (∀ W, Below w1.heap.size w1 W → Calls Tryd.prog 17 #[.slice G cs.length cap] W fun e w' => e = .returned (.bool true) ∧ Below W.heap.size W w') := Lib.hid (fun W hW => by
      have h := right4_any G cs cap W ((HL.out.below' hW (Nat.le_refl _)).more hW.size) hok hlen
      rwa [hall] at h)
    clear HOK HON HNO hok hall hkey hcs HL hown
    go_wp2_with fail
    refine HP.out.mono ?_
    rintro e w2 ⟨rfl, hb2, M2⟩
    go_wp2_with fail
    refine (HR.out _ hb2).mono ?_
    rintro e w3 ⟨rfl, hb3⟩
    go_wp2_with fail
    refine (HF.out _ (M2.below hb3)).mono ?_
    rintro e w4 ⟨rfl, hb4, _⟩
    go_wp2_with fail
    go_ret
    exact ⟨rfl, ((hb1.trans' hb2).trans' hb3).trans' hb4⟩
  · have hl0 : cs = [] := by
      have h := HNO.out he
      rw [qc_of hcs, h]
      rfl
    subst hl0
    have he2 : ((er : Int) != 0) = true := by simp; omega
    clear HOK HON HNO hcs HL hown
    go_wp2_with fail
    refine (HF.out _ M1).mono ?_
    rintro e w4 ⟨rfl, hb4, _⟩
    go_wp2_with fail
    go_ret
    exact ⟨rfl, hb1.trans' hb4⟩
end Go.Proofs.YtdcijbclafpkmaaDoor
