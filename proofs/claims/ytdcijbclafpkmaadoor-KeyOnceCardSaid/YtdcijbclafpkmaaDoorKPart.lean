/-
  Walks of key.Part.
-/
import Derived.Test.YtdcijbclafpkmaaDoorKGet
import Derived.Test.YtdcijbclafpkmaaDoorKList
namespace Go.Proofs.YtdcijbclafpkmaaDoor
open Go.RowKit
set_option linter.unusedVariables false
set_option linter.unusedSimpArgs false

/-- What a Get answers: a row of the call's own. -/
theorem got_form {w : World} {base e n : Nat} {v : Value} {xs : List Value} (h : w.ownsRow base e 4 v n xs) : ∃ G cap, v = .slice G n cap ∧ n ≤ cap := by
  rcases h.2 with ⟨rfl, h0⟩ | ⟨g, cap, cur, rfl, _, _, hc, _⟩
  · exact ⟨none, 0, by rw [h0], by omega⟩
  · exact ⟨some ⟨g, 0, none⟩, cap, rfl, hc⟩
/-- What key.Part answers. -/
def partV (s : ByteArray) (n : Int) : Value :=
  .tuple (if (KP.get s.data.toList).2 ≠ 0 then #[.string ⟨#[]⟩, .int .i64 (KP.get s.data.toList).2] else if n < 0 ∨ ((KP.get s.data.toList).1.length : Int) < n then #[.string ⟨#[]⟩, .int .i64 4]
    else #[.string ⟨(KP.body ((KP.get s.data.toList).1.take n.toNat)).toArray⟩, .int .i64 0])
/-- The columns of a key are few, and may be. -/
theorem got_ok {s : ByteArray} (hs : s.size ≤ 1000) {cs : List QC} (hc : cols cs = (KP.get s.data.toList).1) (h0 : (KP.get s.data.toList).2 = 0) : QOk cs ∧ cs.length ≤ 1000 ∧ allRt cs = true := by
  obtain ⟨h1, h2, h3, h4⟩ := KP.get_once (s := s.data.toList) (l := cols cs) (by rw [hc]; exact Prod.ext rfl h0)
  have hsl : s.data.toList.length = s.size := by simp
  refine ⟨fun c hcm => ⟨(h2 c.col (List.mem_map.2 ⟨c, hcm, rfl⟩)).1, ?_⟩, by rw [cols_length] at h4; omega, allRt_of h2⟩
  have h5 := h3 c.col (List.mem_map.2 ⟨c, hcm, rfl⟩)
  have h6 : c.col.s.length = c.s.size := by simp [QC.col]
  omega

set_option maxHeartbeats 2000000 in
set_option maxRecDepth 100000 in
theorem keyPart_any (s : ByteArray) (n : Int) (w : World) (M : MaxIs w) (hs : s.size ≤ 1200) (hko : ∀ cs : List QC, cols cs = (KP.get s.data.toList).1 → (KP.get s.data.toList).2 = 0 → QOk cs ∧ cs.length ≤ 1000 ∧ allRt cs = true) (hn : (Lit.int .i64 n).wf = true) :
    Calls Tryd.prog 15 #[.string s, .int .i64 n] w fun e w' => e = .returned (partV s n) ∧ Below w.heap.size w w' := by
  have HGET := Lib.hid (keyGet_any s hs w)
  have HOK := Lib.hid hko
  have HV : Hid (partV s n = .tuple (if (KP.get s.data.toList).2 ≠ 0 then #[.string ⟨#[]⟩, .int .i64 (KP.get s.data.toList).2] else if n < 0 ∨ ((KP.get s.data.toList).1.length : Int) < n then #[.string ⟨#[]⟩, .int .i64 4]
    else #[.string ⟨(KP.body ((KP.get s.data.toList).1.take n.toNat)).toArray⟩, .int .i64 0])) := Lib.hid rfl
  have HERR := Lib.hid (KP.get_errs s.data.toList)
  generalize partV s n = r at *
  generalize KP.get s.data.toList = gg at *
  obtain ⟨l, er⟩ := gg
  simp only at HGET HOK HV HERR
  have hnb := i64_bd hn
  clear hs hn hko
  go_enter Tryd.func15, Tryd.ntmps15
  go_wp2_with fail
  refine HGET.out.mono ?_
  rintro e w1 ⟨v, cs, rfl, hcs, hown, hb1⟩
  obtain ⟨G, cap, rfl, hcap⟩ := got_form hown
  by_cases he : er = 0
  · subst he
    obtain ⟨hok, hlen, hall⟩ := HOK.out cs hcs rfl
    have hcl : cs.length = l.length := by rw [← hcs, cols_length]
    by_cases hneg : n < 0
    · have HW : Hid (r = .tuple #[.string ⟨#[]⟩, .int .i64 4]) := Lib.hid (by rw [HV.out, if_neg (by simp), if_pos (.inl hneg)])
      go_wp2_with fail
      go_ret2
      exact ⟨by rw [HW.out]; rfl, hb1⟩
    · obtain ⟨m, rfl⟩ := Int.eq_ofNat_of_zero_le (show 0 ≤ n by omega)
      by_cases hbig : l.length < m
      · have HW : Hid (r = .tuple #[.string ⟨#[]⟩, .int .i64 4]) := Lib.hid (by rw [HV.out, if_neg (by simp), if_pos (.inr (by omega))])
        have hb' : (cs.length : Int) < m := by omega
        clear hcl
        go_wp2_with fail
        go_ret2
        exact ⟨by rw [HW.out]; rfl, hb1⟩
      · have hm : m ≤ cs.length := by omega
        have htl : (cs.take m).length = m := by simp; omega
        have HJ := Lib.hid (joined_any G (cs.take m) cap w1 (M.below hb1) ((lies_own hown rfl).take m) (hok.take m) (by omega))
        obtain ⟨X, hX⟩ : ∃ X : ByteArray, X = ⟨(KP.body (cols (cs.take m))).toArray⟩ := ⟨_, rfl⟩
        have hjv : joinV (cs.take m) = .tuple #[.string X, .int .i64 0] := by rw [joinV, if_pos (allRt_take cs m hall), hX]
        have HW : Hid (r = .tuple #[.string X, .int .i64 0]) := Lib.hid (by
          rw [HV.out, if_neg (by simp), if_neg (by omega), hX, cols_take, hcs]
          rfl)
        rw [htl, hjv] at HJ
        have hm2 : ¬ (cs.length : Int) < m := by omega
        have hm3 : ¬ ((cap : Int) < m) := by omega
        clear htl hcl hall hok hcs hbig hX hjv
        go_wp2_with fail
        refine HJ.out.mono ?_
        rintro e w2 ⟨rfl, hb2⟩
        go_wp2_with fail
        go_ret2
        exact ⟨by rw [HW.out]; rfl, hb1.trans' hb2⟩
  · have HW : Hid (r = .tuple #[.string ⟨#[]⟩, .int .i64 er]) := Lib.hid (by rw [HV.out, if_pos he])
    have he2 : ((er : Int) != 0) = true := by simp; omega
    go_wp2_with fail
    go_ret2
    exact ⟨by rw [HW.out]; rfl, hb1⟩
end Go.Proofs.YtdcijbclafpkmaaDoor
