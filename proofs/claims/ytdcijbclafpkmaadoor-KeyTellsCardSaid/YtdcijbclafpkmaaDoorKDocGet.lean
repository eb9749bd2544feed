/-
  Walk of the document's own Get of a key.
-/
import Derived.Test.YtdcijbclafpkmaaDoorKDoc
import Derived.Test.YtdcijbclafpkmaaDoorCDocGet
namespace Go.Proofs.YtdcijbclafpkmaaDoor
open Go.RowKit
set_option linter.unusedVariables false
set_option linter.unusedSimpArgs false

set_option maxHeartbeats 4000000 in
set_option maxRecDepth 100000 in
theorem dkeyGet_any (s : ByteArray) (hs : s.size ≤ 1200) (w : World) :
    Calls Tryd.prog 14 #[.string s] w fun e w' => ∃ v cs, e = .returned (.tuple #[v, .int .i64 (KP.get s.data.toList).2]) ∧ cols cs = (KP.get s.data.toList).1 ∧ w'.ownsRow w.heap.size 55 4 v cs.length (fours cs) ∧ Below w.heap.size w w' := by
  obtain ⟨i0, hi, hz0, hz1, hz2⟩ := info_parts Tryd.infoRCol
  have hsl : s.data.toList.length = s.size := by simp
  obtain ⟨g, HG0⟩ : ∃ g, Hid (g = KP.get s.data.toList) := ⟨_, Lib.hid rfl⟩
  rw [← HG0.out]
  go_enter Tryd.func14, Tryd.ntmps14
  go_wp2_with fail
  go_loopw [4, 5] (fun ov iv wr => ∃ (k b cap : Nat) (cs : List QC), k ≤ s.size ∧ cs.length ≤ k ∧ iv = .int .i64 k ∧ ov = .slice (some ⟨b, 0, none⟩) cs.length cap ∧ Hid (wr.ownsRow w.heap.size 55 4 (.slice (some ⟨b, 0, none⟩) cs.length cap) cs.length (fours cs)) ∧ Hid (g = KP.glue (cols cs) (KP.kget s.data.toList (s.size + 1) k)) ∧ Below w.heap.size w wr) (fun _ iv _ => s.size - (intOf iv).toNat)
  case atStart =>
    exact ⟨0, w.heap.size, 0, [], by omega, by simp, rfl, rfl, Lib.hid (own4_empty w _), Lib.hid (by rw [HG0.out, show cols [] = [] from rfl, KP.glue_nil (KP.kget_no _ _ _), KP.get, hsl]), below_alloc _ _⟩
  case round =>
    obtain ⟨k, b, cap, cs, hk, hck, rfl, rfl, HO, HG, hbw⟩ := hrel
    have hbs := hbw.size
    by_cases hlt : k < s.size
    · have hd : ((k : Int) == (s.size : Int)) = false := by simp; omega
      have hdr := WP.drop_cons s k hlt
      by_cases h1 : s[k] = 1
      · have hne : ((s[k].toNat : Int) == 1) = true := by rw [h1]; rfl
        rw [h1] at hdr
        by_cases hl : k + 1 = s.size
        · have hdr2 : s.data.toList.drop (k + 1) = [] := List.drop_eq_nil_of_le (by omega)
          have hl2 : ((k : Int) == (s.size : Int) - 1) = true := by simp; omega
          rw [hdr2] at hdr
          have HE : Hid (g = (cols cs, 0)) := Lib.hid (by rw [HG.out, KP.kget_one hdr (by omega)]; simp [KP.glue])
          clear hdr hdr2 h1 HG
          go_wp2_with fail
          go_ret2
          exact ⟨_, cs, by rw [HE.out]; rfl, by rw [HE.out], HO.out, hbw⟩
        · have hdr2 : s.data.toList.drop (k + 1) ≠ [] := fun e => by
            have h2 : (s.data.toList.drop (k + 1)).length = s.size - (k + 1) := by simp
            rw [e] at h2
            simp at h2
            omega
          have hl2 : ((k : Int) == (s.size : Int) - 1) = false := by simp; omega
          have HE : Hid (g = ([], 3)) := Lib.hid (by rw [HG.out, KP.kget_one hdr (by omega), if_neg hdr2]; simp [KP.glue])
          clear hdr hdr2 h1 HG
          go_wp2_with fail
          go_ret2
          exact ⟨_, [], by rw [HE.out]; rfl, by rw [HE.out]; rfl, World.ownsRow_nil _ _ _ _, hbw⟩
      · have hne : ((s[k].toNat : Int) == 1) = false := by
          simp only [beq_eq_false_iff_ne, ne_eq]
          intro e
          exact h1 (UInt8.toNat_inj.1 (by show s[k].toNat = 1; omega))
        have hg := fun W => dget_any s k W (by omega) (by omega)
        rcases CP.get_spec s.data.toList k with h | h | ⟨⟨K, I, U, S⟩, to, h, ho, hrt, hto, h2, h3, h4⟩
        · have HE : Hid (g = ([], 7)) := Lib.hid (by rw [HG.out, KP.kget_err hdr h1 (by omega) (by omega) h]; simp [KP.glue])
          have HGET : Hid (∀ W, Calls Tryd.prog 27 #[.string s, .int .i64 k] W fun e w' => e = .returned (.tuple #[.agg #[.int .i64 0, .int .i64 0, .int .u64 0, .string ⟨#[]⟩], .int .i64 0, .int .i64 7]) ∧ Below W.heap.size W w') := Lib.hid (by rw [h] at hg; exact hg)
          clear hdr h hg h1 HG
          go_wp2_with fail
          refine (HGET.out _).mono ?_
          rintro e w2 ⟨rfl, hb2⟩
          go_wp2_with fail
          go_ret2
          exact ⟨_, [], by rw [HE.out]; rfl, by rw [HE.out]; rfl, World.ownsRow_nil _ _ _ _, (hbw.trans' hb2).trans' (below_alloc _ _)⟩
        · have HE : Hid (g = ([], 3)) := Lib.hid (by rw [HG.out, KP.kget_err hdr h1 (by omega) (by omega) h]; simp [KP.glue])
          have HGET : Hid (∀ W, Calls Tryd.prog 27 #[.string s, .int .i64 k] W fun e w' => e = .returned (.tuple #[.agg #[.int .i64 0, .int .i64 0, .int .u64 0, .string ⟨#[]⟩], .int .i64 0, .int .i64 3]) ∧ Below W.heap.size W w') := Lib.hid (by rw [h] at hg; exact hg)
          clear hdr h hg h1 HG
          go_wp2_with fail
          refine (HGET.out _).mono ?_
          rintro e w2 ⟨rfl, hb2⟩
          go_wp2_with fail
          go_ret2
          exact ⟨_, [], by rw [HE.out]; rfl, by rw [HE.out]; rfl, World.ownsRow_nil _ _ _ _, (hbw.trans' hb2).trans' (below_alloc _ _)⟩
        · have HE : Hid (g = KP.glue (cols (cs ++ [⟨K, I, U, ⟨S.toArray⟩⟩])) (KP.kget s.data.toList (s.size + 1) to)) := Lib.hid (by
            rw [HG.out, KP.kget_go hdr h1 h, KP.kget_fuel s.data.toList s.size (s.size + 1) to (by omega) (by omega), cols_append, ← KP.glue_glue]
            rfl)
          have hto2 : to ≤ s.size := by simpa using h2
          have HGET : Hid (∀ W, Calls Tryd.prog 27 #[.string s, .int .i64 k] W fun e w' => e = .returned (.tuple #[.agg #[.int .i64 K, .int .i64 I, .int .u64 U, .string ⟨S.toArray⟩], .int .i64 to, .int .i64 0]) ∧ Below W.heap.size W w') := Lib.hid (by rw [h] at hg; exact hg)
          clear hdr h hg h1 HG h2 h3 h4 ho hrt
          generalize (⟨S.toArray⟩ : ByteArray) = T at *
          go_wp2_with fail
          refine (HGET.out _).mono ?_
          rintro e w2 ⟨rfl, hb2⟩
          have HO2 := Lib.hid (own4_below HO.out (hb2.trans' (below_alloc w2 (.cells #[.int .i64 K, .int .i64 I, .int .u64 U, .string T] 55))))
          have hbs2 := hb2.size
          go_wp2_with (at_builtin; refine wpList_append_own _ rfl _ _ 30 rfl w.heap.size 55 i0 (.agg #[.int .i64 0, .int .i64 0, .int .u64 0, .string ⟨#[]⟩]) 4 40 Tryd.underlying30 hi hz0 hz1 hz2 rfl (by decide) _ cs.length _ rfl (HO2.out.alloc _) ⟨w2.heap.size + 1, 0, none⟩ 1 1 [.int .i64 K, .int .i64 I, .int .u64 U, .string T] rfl rfl (World.news_of_block (cs := #[.int .i64 K, .int .i64 I, .int .u64 U, .string T]) (t := 55) (fr := (0, 0)) (by have h := heap_alloc_new (w2.alloc (.cells #[.int .i64 K, .int .i64 I, .int .u64 U, .string T] 55)) (.cells #[.int .i64 K, .int .i64 I, .int .u64 U, .string T] 55); rw [World.size_alloc] at h; exact h)) (four_one K I U T) (by unfold maxLen; omega) (by omega) (by simp; omega) ?_; intro v' w1 hown' hgrow hnil)
          obtain ⟨b', cap', rfl⟩ := own4_form hown' (by omega)
          have hb3 : Below w.heap.size w w1 := (((hbw.trans' hb2).trans' (below_alloc w2 (.cells #[.int .i64 K, .int .i64 I, .int .u64 U, .string T] 55))).trans' (below_alloc _ (.cells #[.int .i64 K, .int .i64 I, .int .u64 U, .string T] 55))).trans (own4_apart (HO2.out.alloc _) hgrow (Nat.le_refl _) (by simp; omega))
          have HO3 : Hid (w1.ownsRow w.heap.size 55 4 (.slice (some ⟨b', 0, none⟩) (cs.length + 1) cap') (cs.length + 1) (fours (cs ++ [⟨K, I, U, T⟩]))) := Lib.hid (by rw [fours_append, fours_one]; exact hown')
          clear hown' hgrow HO2 HO
          go_wp2_with fail
          go_roundw
          case rel => exact ⟨to, b', cap', cs ++ [⟨K, I, U, T⟩], hto2, by simp; omega, rfl, by simp, Lib.hid (by simpa using HO3.out), HE, hb3⟩
          case measure => simp [intOf]; omega
    · have hks : k = s.size := by omega
      have hd : ((k : Int) == (s.size : Int)) = true := by simp; omega
      have hdr : s.data.toList.drop k = [] := List.drop_eq_nil_of_le (by omega)
      have HE : Hid (g = ([], 7)) := Lib.hid (by rw [HG.out, KP.kget_end _ hdr]; simp [KP.glue])
      clear hdr hlt HG hks
      go_wp2_with fail
      go_ret2
      exact ⟨_, [], by rw [HE.out]; rfl, by rw [HE.out]; rfl, World.ownsRow_nil _ _ _ _, hbw⟩
end Go.Proofs.YtdcijbclafpkmaaDoor
