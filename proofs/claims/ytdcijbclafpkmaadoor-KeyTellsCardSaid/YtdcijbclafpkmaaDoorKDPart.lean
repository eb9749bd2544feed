/-
  Walk of the document's own Part.
-/
import Derived.Test.YtdcijbclafpkmaaDoorKPart
import Derived.Test.YtdcijbclafpkmaaDoorKDocGet
namespace Go.Proofs.YtdcijbclafpkmaaDoor
open Go.RowKit
set_option linter.unusedVariables false
set_option linter.unusedSimpArgs false

set_option maxHeartbeats 2000000 in
set_option maxRecDepth 100000 in
theorem dkeyPart_any (s : ByteArray) (n : Int) (w : World) (hs : s.size ≤ 1200) (hko : ∀ cs : List QC, cols cs = (KP.get s.data.toList).1 → (KP.get s.data.toList).2 = 0 → QOk cs ∧ cs.length ≤ 1000 ∧ allRt cs = true) (hn : (Lit.int .i64 n).wf = true) :
    Calls Tryd.prog 16 #[.string s, .int .i64 n] w fun e w' => e = .returned (partV s n) ∧ Below w.heap.size w w' := by
  have HGET := Lib.hid (dkeyGet_any s hs w)
  have HOK := Lib.hid hko
  have HV : Hid (partV s n = .tuple (if (KP.get s.data.toList).2 ≠ 0 then #[.string ⟨#[]⟩, .int .i64 (KP.get s.data.toList).2] else if n < 0 ∨ ((KP.get s.data.toList).1.length : Int) < n then #[.string ⟨#[]⟩, .int .i64 4]
    else #[.string ⟨(KP.body ((KP.get s.data.toList).1.take n.toNat)).toArray⟩, .int .i64 0])) := Lib.hid rfl
  have HERR := Lib.hid (KP.get_errs s.data.toList)
  generalize partV s n = r at *
  generalize KP.get s.data.toList = gg at *
  obtain ⟨l, er⟩ := gg
  simp only at HGET HOK HV HERR
  have hnb := i64_bd hn
  clear hs hn hko
  go_enter Tryd.func16, Tryd.ntmps16
  go_wp2_with fail
  refine HGET.out.mono ?_
  rintro e w1 ⟨v, cs, rfl, hcs, hown, hb1⟩
  obtain ⟨G, cap, rfl, hcap⟩ := got_form hown
  by_cases he : er = 0
  · subst he
    obtain ⟨hok, hlen, hall⟩ := HOK.out cs hcs rfl
    have hcl : cs.length = l.length := by rw [← hcs, cols_length]
    by_cases hneg : n < 0
    · have HW : Hid (r = .tuple #[.string ⟨#[]⟩, .int .i64 4]) := Lib.hid (by rw [HV.out, if_neg (by simp), if_pos (.inl hneg)])
      go_wp2_with fail
      go_ret2
      exact ⟨by rw [HW.out]; rfl, hb1⟩
    · obtain ⟨m, rfl⟩ := Int.eq_ofNat_of_zero_le (show 0 ≤ n by omega)
      by_cases hbig : l.length < m
      · have HW : Hid (r = .tuple #[.string ⟨#[]⟩, .int .i64 4]) := Lib.hid (by rw [HV.out, if_neg (by simp), if_pos (.inr (by omega))])
        have hb' : (cs.length : Int) < m := by omega
        clear hcl
        go_wp2_with fail
        go_ret2
        exact ⟨by rw [HW.out]; rfl, hb1⟩
      · have hm : m ≤ cs.length := by omega
        have htl : (cs.take m).length = m := by simp; omega
        have HJ := Lib.hid (dkeyPut_any G (cs.take m) cap w1 ((lies_own hown rfl).take m) (hok.take m) (by omega))
        obtain ⟨X, hX⟩ : ∃ X : ByteArray, X = ⟨(KP.body (cols (cs.take m))).toArray⟩ := ⟨_, rfl⟩
        obtain ⟨Z, hZ⟩ : ∃ Z : ByteArray, Z = ⟨(KP.key (cols (cs.take m))).toArray⟩ := ⟨_, rfl⟩
        have hjv : keyV (cs.take m) = .tuple #[.string Z, .int .i64 0] := by rw [keyV, if_pos (allRt_take cs m hall), hZ]
        have hzs : Z.size = X.size + 1 := by rw [hZ, hX]; show (KP.key (cols (cs.take m))).toArray.size = (KP.body (cols (cs.take m))).toArray.size + 1; simp [KP.key]
        have hzx : X.size ≤ 2010000 := by
          have h1 := body_size (cs.take m) (hok.take m) (allRt_take cs m hall)
          rw [hX]
          show (KP.body (cols (cs.take m))).toArray.size ≤ 2010000
          simp at h1 ⊢
          omega
        have HZ : Hid (Z.extract 0 X.size = X) := Lib.hid (bytes_of_list (by
          rw [Lib.extract_data, hZ, hX]
          show ((KP.body (cols (cs.take m)) ++ [1]).drop 0).take ((KP.body (cols (cs.take m))).toArray.size - 0) = KP.body (cols (cs.take m))
          simp))
        have HW : Hid (r = .tuple #[.string X, .int .i64 0]) := Lib.hid (by
          rw [HV.out, if_neg (by simp), if_neg (by omega), hX, cols_take, hcs]
          rfl)
        rw [htl, hjv] at HJ
        have hm2 : ¬ (cs.length : Int) < m := by omega
        have hm3 : ¬ ((cap : Int) < m) := by omega
        clear htl hcl hall hok hcs hbig hX hjv hZ
        go_wp2_with fail
        refine HJ.out.mono ?_
        rintro e w2 ⟨rfl, hb2⟩
        go_wp2_with fail
        go_ret2
        exact ⟨by rw [HW.out]; exact congrArg (fun x => Ending.returned (.tuple #[.string x, .int .i64 0])) HZ.out, hb1.trans' hb2⟩
  · have HW : Hid (r = .tuple #[.string ⟨#[]⟩, .int .i64 er]) := Lib.hid (by rw [HV.out, if_pos he])
    have he2 : ((er : Int) != 0) = true := by simp; omega
    go_wp2_with fail
    go_ret2
    exact ⟨by rw [HW.out]; rfl, hb1⟩
end Go.Proofs.YtdcijbclafpkmaaDoor
