/-
  The walk of inner.Decode. Written by wip/gen_idec.py.
  What the document fixes of inner pages, in plain mathematics; a page in a box, with its rows.
  The walks of the laws' own two and fixed. Written by wip/gen_ifixed.py.
  What the last statement of the laws' own fixed stands on. Written by wip/gen_ifixs.py.
  The walks of the document's Size and Encode.
  The walk of the document's Ends.
-/
import Derived.Test.YtembccehokodeaaGreatDoorJIRead
import Derived.Test.YtembccehokodeaaGreatDoorJ06
import Derived.Lib.Walk
import Derived.Test.YtembccehokodeaaGreatDoorJIEndsF
import Derived.Test.YtembccehokodeaaGreatDoorJ04
import Derived.Test.YtembccehokodeaaGreatDoorJHDocO
import Derived.Deep.RegionHeld3
import Derived.Test.YtembccehokodeaaGreatDoorJIDMay
import Derived.BigQuiet
namespace Go.Proofs.YtembccehokodeaaGreatDoor
open Go.RowKit IP
set_option linter.unusedVariables false
set_option linter.unusedSimpArgs false

def DecS (s : ByteArray) (e : Ending) (w' : World) : Prop :=
  (∃ F L R H A n ca C m cb ks ss, dec s = some ⟨F, L, R, H, ks, ss⟩ ∧ e = .returned (.tuple #[nv F L R H A n ca C m cb, .int .i64 0]) ∧ Rows2 w' A n ca C m cb ks ss) ∨
  (dec s = none ∧ e = .returned (.tuple #[nv0, .int .i64 3]))

set_option maxHeartbeats 4000000 in
set_option maxRecDepth 100000 in
theorem dec_any (s : ByteArray) (w : World) (hz : L7.Sizes w) (hs : s.size ≤ 1000000) :
    Calls Tryz.prog 13 #[.string s] w fun e w' => DecS s e w' ∧ Below w.heap.size w w' := by
  have hb0 := nbox_below 25 0 0 0 ⟨#[]⟩ none 0 0 none 0 0 w
  have HB := Lib.hid hb0
  have HK := Lib.hid (nbox_new 25 0 0 0 ⟨#[]⟩ none 0 0 none 0 0 w)
  have HG := Lib.hid (hz.below hz.lt hb0)
  have hsz0 := nbox_size 25 0 0 0 ⟨#[]⟩ none 0 0 none 0 0 w
  have HR := Lib.hid (nread_any s _ (hz.below hz.lt hb0) hs)
  have HSS : Hid (s.size ≤ 1000000) := Lib.hid hs
  clear hb0 hz hs
  go_enter Tryz.func13, Tryz.ntmps13
  go_wp2_with fail
  refine HR.out.mono ?_
  rintro e w2 ⟨h2, hb2⟩
  have hlt2 := hb2.size
  rcases h2 with ⟨F, L, R, H, A, n, ca, C, m, cb, ks, ss, hp, rfl, hrw, hA, hC, hn, hm, hH⟩ | ⟨hp, x, hx, rfl⟩
  rotate_left
  · have HD := Lib.hid (dec_parse_none hp)
    have hxz : (x != 0) = true := by simpa using hx
    have hb3 := hb2.trans' (nbox_below 25 0 0 0 ⟨#[]⟩ none 0 0 none 0 0 w2)
    have HK := Lib.hid (HK.out.below hb3)
    have HB := Lib.hid (HB.out.trans' hb3)
    clear hb2 hb3 hp hx hlt2
    obtain ⟨x0, x1, x2, x3, x4, x5⟩ := HK.out.cells
    obtain ⟨f0, f1, f2, f3, f4, f5⟩ := HK.out.free
    go_wp2_with fail
    obtain ⟨r0, r1, r2, r3, r4, r5⟩ := (setN_box HK.out 0 0 0 ⟨#[]⟩ none 0 0 none 0 0).cells
    unfold setN at r0 r1 r2 r3 r4 r5
    refine bodyPost_ret (v := .tuple #[nv0, .int .i64 3]) (by simp [results, Tryz.results13, go_sem, r0, r1, r2, r3, r4, r5]) rfl ⟨.inr ⟨HD.out, rfl⟩, ?_⟩
    exact setN_below HB.out (Nat.le_refl _) 0 0 0 ⟨#[]⟩ none 0 0 none 0 0
  have hb3 := hb2.trans' (nbox_below 25 F L R H A n ca C m cb w2)
  have HN := Lib.hid (nbox_new 25 F L R H A n ca C m cb w2)
  have HK := Lib.hid (HK.out.below hb3)
  have HB := Lib.hid (HB.out.trans' hb3)
  have HG := Lib.hid (HG.out.below HG.out.lt hb3)
  have HW := Lib.hid (hrw.on (nbox_below 25 F L R H A n ca C m cb w2))
  have HA : Hid (∀ a, A = some a → a.block ≠ w.heap.size) := Lib.hid (fun a h => by have := hA a h; omega)
  have HC : Hid (∀ a, C = some a → a.block ≠ w.heap.size) := Lib.hid (fun a h => by have := hC a h; omega)
  have HE := Lib.hid (fun W (h : L7.Sizes W) (h2 : Rows2 W A n ca C m cb ks ss) => enc_any F L R H A n ca C m cb ks ss s.size W h h2 hn hm)
  obtain ⟨S2, c2, he⟩ : ∃ S2 c2, enc ⟨F, L, R, H, ks, ss⟩ s.size = (S2, c2) := ⟨_, _, rfl⟩
  rw [encV, he] at HE
  have HD := Lib.hid (dec_parse hp)
  rw [he] at HD
  clear hb2 hb3 hrw hA hC hp hlt2 he hsz0
  obtain ⟨x0, x1, x2, x3, x4, x5⟩ := HK.out.cells
  obtain ⟨f0, f1, f2, f3, f4, f5⟩ := HK.out.free
  obtain ⟨y0, y1, y2, y3, y4, y5⟩ := HN.out.cells
  go_wp2_with fail
  refine (HE.out _ HG.out HW.out).mono ?_
  rintro e V ⟨rfl, hb⟩
  clear x0 x1 x2 x3 x4 x5 f0 f1 f2 f3 f4 f5 y0 y1 y2 y3 y4 y5
  have HK := Lib.hid (HK.out.below hb)
  have HB := Lib.hid (HB.out.trans' hb)
  have HN := Lib.hid (HN.out.below hb)
  have HW := Lib.hid (HW.out.on hb)
  clear hb
  obtain ⟨x0, x1, x2, x3, x4, x5⟩ := HK.out.cells
  obtain ⟨f0, f1, f2, f3, f4, f5⟩ := HK.out.free
  obtain ⟨y0, y1, y2, y3, y4, y5⟩ := HN.out.cells
  by_cases hc0 : c2 = 0
  · subst hc0
    by_cases hS : S2 = s
    · subst hS
      have hz := text_yes (rfl : S2 = S2)
      have hz2 : (S2.toList != S2.toList) = false := by simp
      rw [if_pos rfl] at HD
      go_wp2_with fail
      obtain ⟨r0, r1, r2, r3, r4, r5⟩ := (setN_box HK.out F L R H A n ca C m cb).cells
      unfold setN at r0 r1 r2 r3 r4 r5
      refine bodyPost_ret (v := .tuple #[nv F L R H A n ca C m cb, .int .i64 0]) (by simp [results, Tryz.results13, go_sem, r0, r1, r2, r3, r4, r5]) rfl ⟨.inl ⟨F, L, R, H, A, n, ca, C, m, cb, ks, ss, HD.out, rfl, HW.out.stored HA.out HC.out _ _ _ _ _ _ _ _ _ _⟩, ?_⟩
      exact setN_below HB.out (Nat.le_refl _) F L R H A n ca C m cb
    · rw [if_neg (fun h => hS (congrArg Prod.fst h))] at HD
      have hz := text_no hS
      have hz2 : (S2.toList != s.toList) = true := by simp only [bne, hz]; rfl
      clear hS
      go_wp2_with fail
      obtain ⟨r0, r1, r2, r3, r4, r5⟩ := (setN_box HK.out 0 0 0 ⟨#[]⟩ none 0 0 none 0 0).cells
      unfold setN at r0 r1 r2 r3 r4 r5
      refine bodyPost_ret (v := .tuple #[nv0, .int .i64 3]) (by simp [results, Tryz.results13, go_sem, r0, r1, r2, r3, r4, r5]) rfl ⟨.inr ⟨HD.out, rfl⟩, ?_⟩
      exact setN_below HB.out (Nat.le_refl _) 0 0 0 ⟨#[]⟩ none 0 0 none 0 0
  · rw [if_neg (fun h => hc0 (congrArg Prod.snd h))] at HD
    have hcn : (c2 != 0) = true := by simpa using hc0
    have hce : (c2 == 0) = false := by simpa using hc0
    clear hc0
    go_wp2_with fail
    obtain ⟨r0, r1, r2, r3, r4, r5⟩ := (setN_box HK.out 0 0 0 ⟨#[]⟩ none 0 0 none 0 0).cells
    unfold setN at r0 r1 r2 r3 r4 r5
    refine bodyPost_ret (v := .tuple #[nv0, .int .i64 3]) (by simp [results, Tryz.results13, go_sem, r0, r1, r2, r3, r4, r5]) rfl ⟨.inr ⟨HD.out, rfl⟩, ?_⟩
    exact setN_below HB.out (Nat.le_refl _) 0 0 0 ⟨#[]⟩ none 0 0 none 0 0
end Go.Proofs.YtembccehokodeaaGreatDoor

namespace Go.Proofs.YtembccehokodeaaGreatDoor
open Go.RowKit IP
set_option linter.unusedSimpArgs false
set_option linter.unusedVariables false

def ms : List ByteArray := [⟨#[109]⟩]
def two : Inn := ⟨9, 1, 0, ⟨#[]⟩, [4, 5], ms⟩
def two2 : Inn := ⟨9, 1, 2, ⟨#[]⟩, [4, 5], ms⟩
def twoH : Inn := ⟨9, 1, 2, ⟨#[110]⟩, [4, 5], ms⟩
theorem two_may : May two 128 := of_decide_eq_true (by kernel_rfl)
theorem two_size : size two = 19 := by kernel_rfl
theorem twoH_may : May twoH 128 := of_decide_eq_true (by kernel_rfl)
theorem twoH_size : (size twoH : Int) ≤ 128 - 16 := by decide +kernel
theorem two2_not : ¬ May two2 128 := of_decide_eq_false (by kernel_rfl)
theorem zero_not : ¬ May ⟨0, 0, 0, ⟨#[]⟩, [], []⟩ 128 := of_decide_eq_false (by kernel_rfl)
theorem two_body : (body two 128).take 14 = [1, 109, 0, 4, 0, 0, 0, 0, 5, 0, 0, 0, 0, 0] := by kernel_rfl
theorem two_front : (page two 128)[0]? = some 3 ∧ (page two 128)[1]? = some 1 := by
  constructor <;> kernel_rfl
/-- The page of two. -/
theorem two_enc : ∃ S : ByteArray, enc two 128 = (S, 0) ∧ S.size = 128 ∧ S.extract 16 30 = ⟨#[1, 109, 0, 4, 0, 0, 0, 0, 5, 0, 0, 0, 0, 0]⟩ ∧ dec S = some two ∧ S.data[0]? = some 3 ∧ S.data[1]? = some 1 := by
  have h := enc_good two_may (by rw [two_size]; decide)
  have hs : (⟨(page two (128 : Int).toNat).toArray⟩ : ByteArray).size = 128 := by
    show (page two 128).toArray.size = 128
    rw [List.size_toArray]
    exact page_length (by decide) (by rw [two_size]; decide)
  refine ⟨_, h, hs, ?_, ?_, ?_, ?_⟩
  · apply ByteArray.ext
    apply Array.toList_inj.1
    rw [Lib.extract_data]
    show ((page two 128).drop 16).take 14 = _
    rw [show (page two 128).drop 16 = body two 128 from L7.HP.page_drop _ _ (L7.HP.front_length _), two_body]
  · exact (dec_iff _ _).2 (by rw [hs]; exact h)
  · show (page two 128).toArray[0]? = some 3
    rw [List.getElem?_toArray]
    exact two_front.1
  · show (page two 128).toArray[1]? = some 1
    rw [List.getElem?_toArray]
    exact two_front.2
theorem twoH_enc : ∃ T : ByteArray, enc twoH 128 = (T, 0) ∧ T.size = 128 ∧ dec T = some twoH := by
  have h := enc_good twoH_may (by have := twoH_size; omega)
  have hs : (⟨(page twoH (128 : Int).toNat).toArray⟩ : ByteArray).size = 128 := by
    show (page twoH 128).toArray.size = 128
    rw [List.size_toArray]
    exact page_length (by decide) (by have := twoH_size; omega)
  exact ⟨_, h, hs, (dec_iff _ _).2 (by rw [hs]; exact h)⟩
theorem zeros_dec : dec ⟨(List.replicate 128 (0 : UInt8)).toArray⟩ = none := dec_kind (by decide +kernel)

/-- Encode of a page that is known. -/
theorem encT (F L R : Int) (H : ByteArray) (A : Option Addr) (n ca : Nat) (C : Option Addr) (m cb : Nat) (ks : List Int) (ss : List ByteArray) (p : Int) (S : ByteArray) (c : Int) (h : enc ⟨F, L, R, H, ks, ss⟩ p = (S, c)) (hn : n ≤ 1000) (hm : m ≤ 1000) (W : World) (hg : L7.Sizes W) (hr : Rows2 W A n ca C m cb ks ss) :
    Calls Tryz.prog 10 #[nv F L R H A n ca C m cb, .int .i64 p] W fun e w' => e = .returned (.tuple #[.string S, .int .i64 c]) ∧ Below W.heap.size W w' := by
  refine (enc_any F L R H A n ca C m cb ks ss p W hg hr hn hm).mono fun e w' ⟨h1, h2⟩ => ⟨?_, h2⟩
  rw [h1, encV, h]
/-- Decode of a text that is known. -/
theorem decT (s : ByteArray) (F L R : Int) (H : ByteArray) (ks : List Int) (ss : List ByteArray) (h : dec s = some ⟨F, L, R, H, ks, ss⟩) (W : World) (hg : L7.Sizes W) (hs : s.size ≤ 1000000) :
    Calls Tryz.prog 13 #[.string s] W fun e w' => ∃ A ca C cb, e = .returned (.tuple #[nv F L R H A ks.length ca C ss.length cb, .int .i64 0]) ∧ Rows2 w' A ks.length ca C ss.length cb ks ss ∧ Below W.heap.size W w' := by
  refine (dec_any s W hg hs).mono fun e w' ⟨h1, h2⟩ => ?_
  rcases h1 with ⟨F', L', R', H', A, n, ca, C, m, cb, ks', ss', hm, rfl, hL⟩ | ⟨h1, _⟩
  · rw [h] at hm
    obtain ⟨rfl, rfl, rfl, rfl, rfl, rfl⟩ := Inn.mk.inj (Option.some.inj hm)
    obtain rfl := hL.nk
    obtain rfl := hL.nm
    exact ⟨A, ca, C, cb, rfl, hL, h2⟩
  · rw [h] at h1
    exact nomatch h1
theorem decN (s : ByteArray) (h : dec s = none) (W : World) (hg : L7.Sizes W) (hs : s.size ≤ 1000000) :
    Calls Tryz.prog 13 #[.string s] W fun e w' => e = .returned (.tuple #[nv0, .int .i64 3]) ∧ Below W.heap.size W w' := by
  refine (dec_any s W hg hs).mono fun e w' ⟨h1, h2⟩ => ?_
  rcases h1 with ⟨F', L', R', H', A, n, ca, C, m, cb, ks', ss', hm, _⟩ | ⟨_, rfl⟩
  · rw [h] at hm
    exact nomatch hm
  · exact ⟨rfl, h2⟩
theorem dec_facts {s : ByteArray} {n : Inn} (h : dec s = some n) : enc n s.size = (s, 0) ∧ May n s.size ∧ n.kids.length ≤ 503 ∧ n.seps.length ≤ 503 ∧ n.high.size ≤ 200 ∧ s.size ≤ 1024 := by
  have he := (dec_iff s n).1 h
  obtain ⟨h1, h2, h3⟩ := enc_ok he
  obtain ⟨-, h4⟩ := h1.fits h2
  have hp := mayBe_le h1.1
  have hk := h1.2.2.1.1
  refine ⟨he, h1, h4, by omega, ?_, by omega⟩
  have h5 := h1.2.2.2.1
  by_cases h0 : n.right = 0
  · rw [h5.1 h0]; omega
  · have := (h5.2 h0).2.1; omega
theorem enc0_facts {n : Inn} {p : Int} {S : ByteArray} (h : enc n p = (S, 0)) : May n p ∧ (size n : Int) ≤ p - 16 ∧ (S.size : Int) = p ∧ dec S = some n := by
  obtain ⟨h1, h2, h3⟩ := enc_ok h
  have hp := mayBe_le h1.1
  have h4 : (S.size : Int) = p := by
    rw [h3, enc_size h1 h2]
    omega
  exact ⟨h1, h2, h4, (dec_iff S n).2 (by rw [h4]; exact h)⟩

/-- What the laws' own fixed answers. -/
def Fixes : Prop := ∀ W : World, L7.Sizes W → Calls Tryz.prog 19 #[] W fun e w' => e = .returned (.bool true) ∧ Below W.heap.size W w'
/-- A page in a box, and its rows. -/
structure NR (t : TypeId) (b : Nat) (F L R : Int) (H : ByteArray) (A : Option Addr) (n ca : Nat) (C : Option Addr) (m cb : Nat) (ks : List Int) (ss : List ByteArray) (W : World) : Prop where
  box : NBx t b F L R H A n ca C m cb W
  rows : Rows2 W A n ca C m cb ks ss
theorem NR.on {t : TypeId} {b : Nat} {F L R : Int} {H : ByteArray} {A : Option Addr} {n ca : Nat} {C : Option Addr} {m cb : Nat} {ks : List Int} {ss : List ByteArray} {W W' : World} (h : NR t b F L R H A n ca C m cb ks ss W) (k : Below W.heap.size W W') : NR t b F L R H A n ca C m cb ks ss W' := ⟨h.box.below k, h.rows.on k⟩
theorem NR.new {t : TypeId} {F L R : Int} {H : ByteArray} {A : Option Addr} {n ca : Nat} {C : Option Addr} {m cb : Nat} {ks : List Int} {ss : List ByteArray} {W : World} (h : Rows2 W A n ca C m cb ks ss) : NR t W.heap.size F L R H A n ca C m cb ks ss (nbox t F L R H A n ca C m cb W) := ⟨nbox_new _ _ _ _ _ _ _ _ _ _ _ _, h.on (nbox_below _ _ _ _ _ _ _ _ _ _ _ _)⟩
theorem Rows2.other {w : World} {q o : Nat} {A : Option Addr} {n ca : Nat} {C : Option Addr} {m cb : Nat} {ks : List Int} {ss : List ByteArray} (h : Rows2 w A n ca C m cb ks ss) (hA : ∀ a, A = some a → a.block ≠ q) (hC : ∀ a, C = some a → a.block ≠ q) (v : Value) : Rows2 (w.setCell ⟨q, o, none⟩ v) A n ca C m cb ks ss :=
  ⟨by rw [show (w.setCell ⟨q, o, none⟩ v).heap.size = w.heap.size by simp]; exact h.kids.apart hA (fun p hp => Below.heap_setCell w ⟨q, o, none⟩ v p hp), by rw [show (w.setCell ⟨q, o, none⟩ v).heap.size = w.heap.size by simp]; exact lies_apart h.seps hC (fun p hp => Below.heap_setCell w ⟨q, o, none⟩ v p hp), h.nk, h.nm, h.ck, h.cm⟩
/-- Fewer of both. -/
theorem Rows2.cut {w : World} {A : Option Addr} {n ca : Nat} {C : Option Addr} {m cb : Nat} {ks : List Int} {ss : List ByteArray} (h : Rows2 w A n ca C m cb ks ss) {i j : Nat} (hi : i ≤ n) (hj : j ≤ m) : Rows2 w A i ca C j cb (ks.take i) (ss.take j) :=
  ⟨h.kids.take i, lies_take h.seps j, by rw [List.length_take, h.nk]; omega, by rw [List.length_take, h.nm]; omega, Nat.le_trans hi h.ck, Nat.le_trans hj h.cm⟩
end Go.Proofs.YtembccehokodeaaGreatDoor

namespace Go.Proofs.YtembccehokodeaaGreatDoor
open Go.RowKit IP
set_option linter.unusedVariables false
set_option linter.unusedSimpArgs false

theorem Rows2.none (w : World) : Rows2 w none 0 0 none 0 0 [] [] := ⟨LiesN.nil _ _ _, L5.Lies.nil _ _ _, rfl, rfl, Nat.le_refl _, Nat.le_refl _⟩
set_option maxHeartbeats 1000000 in
set_option maxRecDepth 100000 in
theorem two_any (w : World) :
    Calls Tryz.prog 50 #[] w fun e w' => ∃ q d, e = .returned (nv 9 1 0 ⟨#[]⟩ (some ⟨q, 0, none⟩) 2 2 (some ⟨d, 0, none⟩) 1 1) ∧ q < w'.heap.size ∧ d < w'.heap.size ∧ Rows2 w' (some ⟨q, 0, none⟩) 2 2 (some ⟨d, 0, none⟩) 1 1 [4, 5] ms ∧ Below w.heap.size w w' := by
  obtain ⟨s, hs⟩ : ∃ s, w.heap.size = s := ⟨_, rfl⟩
  obtain ⟨w0, hw0⟩ : ∃ w0, nbox 25 9 1 0 ⟨#[]⟩ (some ⟨s + 1, 0, none⟩) 2 2 (some ⟨s + 1 + 1, 0, none⟩) 1 1 w = w0 := ⟨_, rfl⟩
  have hb0 : Below w.heap.size w w0 := by rw [← hw0]; exact nbox_below _ _ _ _ _ _ _ _ _ _ _ _
  have hz0 : w0.heap.size = s + 1 := by rw [← hw0, nbox_size, hs]
  have hx0 : NBx 25 s 9 1 0 ⟨#[]⟩ (some ⟨s + 1, 0, none⟩) 2 2 (some ⟨s + 1 + 1, 0, none⟩) 1 1 w0 := by rw [← hw0, ← hs]; exact nbox_new _ _ _ _ _ _ _ _ _ _ _ _
  obtain ⟨w1, hw1⟩ : ∃ w1, w0.alloc (.cells #[.int .i64 4, .int .i64 5] 3) = w1 := ⟨_, rfl⟩
  have hb1 : Below w0.heap.size w0 w1 := by rw [← hw1]; exact L5.below_alloc _ _
  have hz1 : w1.heap.size = s + 1 + 1 := by rw [← hw1]; simp [hz0]
  have hown1 := World.ownsRow_lit w0 (base := 0) (e := 3) (size := 1) (numCells [4, 5]).toArray 2 (Nat.zero_le _) (by unfold maxLen; omega) rfl
  have hl1 : LiesN w1 w1.heap.size (some ⟨s + 1, 0, none⟩) [4, 5] := by
    have h := liesN_own (l := [4, 5]) hown1 rfl
    rw [hz0] at h
    rw [← hw1]
    exact h
  have hown2 := World.ownsRow_lit w1 (base := 0) (e := 9) (size := 1) (L5.strCells ms).toArray 1 (Nat.zero_le _) (by unfold maxLen; omega) rfl
  obtain ⟨w2, hw2⟩ : ∃ w2, w1.alloc (.cells #[.string ⟨#[109]⟩] 9) = w2 := ⟨_, rfl⟩
  have hb2 : Below w1.heap.size w1 w2 := by rw [← hw2]; exact L5.below_alloc _ _
  have hl2 : L5.Lies w2 w2.heap.size (some ⟨s + 1 + 1, 0, none⟩) ms := by
    have h := L5.lies_own (l := ms) hown2 rfl
    rw [hz1] at h
    rw [← hw2]
    exact h
  have hz2 : w2.heap.size = s + 1 + 1 + 1 := by rw [← hw2]; simp [hz1]
  have HK := Lib.hid ((hx0.below hb1).below hb2)
  have HR : Hid (Rows2 w2 (some ⟨s + 1, 0, none⟩) 2 2 (some ⟨s + 1 + 1, 0, none⟩) 1 1 [4, 5] ms) := Lib.hid ⟨hl1.on hb2, hl2, rfl, rfl, Nat.le_refl _, Nat.le_refl _⟩
  have HB := Lib.hid ((hb0.trans' hb1).trans' hb2)
  subst hs hw0 hw1 hw2
  simp only [nbox] at HK HR HB
  have HZ := Lib.hid hz2
  clear hb0 hb1 hb2 hz0 hz1 hz2 hx0 hown1 hown2 hl1 hl2
  go_enter Tryz.func50, Tryz.ntmps50
  go_wp2_with fail
  obtain ⟨r0, r1, r2, r3, r4, r5⟩ := HK.out.cells
  refine bodyPost_ret (v := nv 9 1 0 ⟨#[]⟩ (some ⟨w.heap.size + 1, 0, none⟩) 2 2 (some ⟨w.heap.size + 1 + 1, 0, none⟩) 1 1) (by simp [results, Tryz.results50, go_sem]) rfl ?_
  exact ⟨w.heap.size + 1, w.heap.size + 1 + 1, rfl, by have h := HZ.out; simp only [nbox] at h; omega, by have h := HZ.out; simp only [nbox] at h; omega, HR.out, HB.out⟩
end Go.Proofs.YtembccehokodeaaGreatDoor

namespace Go.Proofs.YtembccehokodeaaGreatDoor
open Go.RowKit IP
set_option linter.unusedVariables false
set_option linter.unusedSimpArgs false

theorem route_1 : notAbove ⟨#[97]⟩ ms = 0 := by decide +kernel
theorem route_2 : notAbove ⟨#[109]⟩ ms = 1 := by decide +kernel
theorem route_3 : notAbove ⟨#[108, 255]⟩ ms = 0 := by decide +kernel
/-- What stands ahead of the last return. -/
def lastTwo : Code → Option Code
  | .seq a b => some ((lastTwo b).getD a)
  | _ => none
def secondLast (fn : Func) : Option Code := fn.body.bind lastTwo
def regOps : Code → Array Oper
  | .region _ ops _ => ops
  | _ => #[]
/-- Its operations. -/
def fixOps (fn : Func) : Array Oper := ((secondLast fn).map regOps).getD #[]
/-- What holds in each world on the way: Z is what the region keeps. -/
structure FixE (D : World) (Z : World → Prop) (b1 b2 b3 b4 q1 d1 q2 d2 : Nat) (AH3 : Option Addr) (caH3 : Nat) (CH3 : Option Addr) (cbH3 : Nat) (AH4 : Option Addr) (caH4 : Nat) (CH4 : Option Addr) (cbH4 : Nat) : Prop where
  below : ∀ W, Below D.heap.size D W → Z W
  c1 : ∀ W, Z W → W.cell? ⟨b1, 0, none⟩ = some (.int .i64 9) ∧ W.cell? ⟨b1, 1, none⟩ = some (.int .i64 1) ∧ W.cell? ⟨b1, 2, none⟩ = some (.int .i64 0) ∧ W.cell? ⟨b1, 3, none⟩ = some (.string ⟨#[]⟩) ∧ W.cell? ⟨b1, 4, none⟩ = some (.slice (some ⟨q1, 0, none⟩) 2 2) ∧ W.cell? ⟨b1, 5, none⟩ = some (.slice (some ⟨d1, 0, none⟩) 1 1)
  c2 : ∀ W, Z W → W.cell? ⟨b2, 0, none⟩ = some (.int .i64 9) ∧ W.cell? ⟨b2, 1, none⟩ = some (.int .i64 1) ∧ W.cell? ⟨b2, 2, none⟩ = some (.int .i64 2) ∧ W.cell? ⟨b2, 3, none⟩ = some (.string ⟨#[110]⟩) ∧ W.cell? ⟨b2, 4, none⟩ = some (.slice (some ⟨q2, 0, none⟩) 2 2) ∧ W.cell? ⟨b2, 5, none⟩ = some (.slice (some ⟨d2, 0, none⟩) 1 1)
  c3 : ∀ W, Z W → W.cell? ⟨b3, 0, none⟩ = some (.int .i64 9) ∧ W.cell? ⟨b3, 1, none⟩ = some (.int .i64 1) ∧ W.cell? ⟨b3, 2, none⟩ = some (.int .i64 0) ∧ W.cell? ⟨b3, 3, none⟩ = some (.string ⟨#[]⟩) ∧ W.cell? ⟨b3, 4, none⟩ = some (.slice AH3 2 caH3) ∧ W.cell? ⟨b3, 5, none⟩ = some (.slice CH3 1 cbH3)
  c4 : ∀ W, Z W → W.cell? ⟨b4, 0, none⟩ = some (.int .i64 9) ∧ W.cell? ⟨b4, 1, none⟩ = some (.int .i64 1) ∧ W.cell? ⟨b4, 2, none⟩ = some (.int .i64 2) ∧ W.cell? ⟨b4, 3, none⟩ = some (.string ⟨#[110]⟩) ∧ W.cell? ⟨b4, 4, none⟩ = some (.slice AH4 2 caH4) ∧ W.cell? ⟨b4, 5, none⟩ = some (.slice CH4 1 cbH4)
  r1 : ∀ W, Below D.heap.size D W → Rows2 W (some ⟨q1, 0, none⟩) 2 2 (some ⟨d1, 0, none⟩) 1 1 [4, 5] ms
  r2 : ∀ W, Below D.heap.size D W → Rows2 W (some ⟨q2, 0, none⟩) 2 2 (some ⟨d2, 0, none⟩) 1 1 [4, 5] ms
  r3 : ∀ W, Below D.heap.size D W → Rows2 W AH3 2 caH3 CH3 1 cbH3 [4, 5] ms
  r4 : ∀ W, Below D.heap.size D W → Rows2 W AH4 2 caH4 CH4 1 cbH4 [4, 5] ms
  sz : ∀ W, Below D.heap.size D W → L7.Sizes W
theorem fix_start {Q : Exit → Act → World → Prop} {Z : World → Prop} {a : Act} {W : World} (ops : Array Oper) (ho : fixOps Tryz.f19 = ops) (h : wpAnyH Tryz.prog .any ops Q Z 130 #[false, false, false, false, false, false, false, false, false, false, false, false, false, false, false, false, false, false, false, false, false, false, false, false, false, false, false, false, false, false, false, false, false, false, false, false, false, false, false, false, false, false, false, false, false, false, false, false, false, false, false, false, false, false, false, false, false, false, false, false, false, false, false, false, false, false, false, false, false, false, false, false, false, false, false, false, false, false, false, false, false, false, false, false, false, false, false, false, false, false, false, false, false, false, false, false, false, false, false, false, false, false, false, false, false, false, false, false, false, false, false, false, false, false, false, false, false, false, false, false, false, false, false, false, false, false, false, false, false, false] a W) : wpAnyH Tryz.prog .any ops Q Z ops.size (Array.replicate ops.size false) a W := by
  have e1 : (fixOps Tryz.f19).size = 130 := by kernel_rfl
  have e2 : Array.replicate 130 false = #[false, false, false, false, false, false, false, false, false, false, false, false, false, false, false, false, false, false, false, false, false, false, false, false, false, false, false, false, false, false, false, false, false, false, false, false, false, false, false, false, false, false, false, false, false, false, false, false, false, false, false, false, false, false, false, false, false, false, false, false, false, false, false, false, false, false, false, false, false, false, false, false, false, false, false, false, false, false, false, false, false, false, false, false, false, false, false, false, false, false, false, false, false, false, false, false, false, false, false, false, false, false, false, false, false, false, false, false, false, false, false, false, false, false, false, false, false, false, false, false, false, false, false, false, false, false, false, false, false, false] := by kernel_rfl
  rw [← ho] at h ⊢
  rw [e1, e2]
  exact h
end Go.Proofs.YtembccehokodeaaGreatDoor

namespace Go.Proofs.YtembccehokodeaaGreatDoor
open Go.RowKit IP
set_option linter.unusedVariables false
set_option linter.unusedSimpArgs false

/-- What a region that loads the whole page holds. -/
def HoldN (w2 : World) (g : Nat) (F L R : Int) (H : ByteArray) (A : Option Addr) (n ca : Nat) (C : Option Addr) (m cb : Nat) (V : World) : Prop := Hid (Below w2.heap.size w2 V) ∧ V.cell? ⟨g, 0, none⟩ = some (.int .i64 F) ∧ V.cell? ⟨g, 1, none⟩ = some (.int .i64 L) ∧ V.cell? ⟨g, 2, none⟩ = some (.int .i64 R) ∧ V.cell? ⟨g, 3, none⟩ = some (.string H) ∧ V.cell? ⟨g, 4, none⟩ = some (.slice A n ca) ∧ V.cell? ⟨g, 5, none⟩ = some (.slice C m cb)
theorem holdN {t : TypeId} {w2 V : World} {g : Nat} {F L R : Int} {H : ByteArray} {A : Option Addr} {n ca : Nat} {C : Option Addr} {m cb : Nat} (h : NBx t g F L R H A n ca C m cb w2) (hb : Below w2.heap.size w2 V) : HoldN w2 g F L R H A n ca C m cb V := ⟨Lib.hid hb, (h.below hb).cells⟩

set_option maxHeartbeats 4000000 in
set_option maxRecDepth 100000 in
theorem rsize_any (F L R : Int) (H : ByteArray) (A : Option Addr) (n ca : Nat) (C : Option Addr) (m cb : Nat) (ks : List Int) (ss : List ByteArray) (w : World) (hr : Rows2 w A n ca C m cb ks ss) (hf : Fit H ks ss) :
    Calls Tryz.prog 23 #[nv F L R H A n ca C m cb] w fun e w' => e = .returned (.int .i64 (size ⟨F, L, R, H, ks, ss⟩ : Nat)) ∧ Below w.heap.size w w' := by
  have hb0 := nbox_below 33 F L R H A n ca C m cb w
  have HB0 := Lib.hid hb0
  have HA := Lib.hid (hr.on hb0)
  have HK := Lib.hid (nbox_new 33 F L R H A n ca C m cb w)
  have hnc : (cellsS ks ss).length = n := by rw [cellsS_length hf.len, hr.nk]
  have HF := Lib.hid (fun W (h : Rows2 W A n ca C m cb ks ss) => rfixed_any F L R H A n ca C m cb ks ss W h hf)
  have HC := Lib.hid (fun W (h : Rows2 W A n ca C m cb ks ss) => rcells_any F L R H A n ca C m cb ks ss W h hf)
  have HS := Lib.hid (fun G cap W (h : L5.Lies W W.heap.size G (cellsS ks ss)) => L8.size8_any (fixedS H ss) G (cellsS ks ss) cap W h (by rw [cellsS_length hf.len, hf.len]; have := hf.few; omega) (by have := fixedS_size hf; omega) (fun s hs => by have := cellsS_size hf s hs; omega))
  rw [size_eq F L R, hnc] at HS
  generalize size ⟨F, L, R, H, ks, ss⟩ = z at *
  generalize fixedS H ss = fx at *
  clear hr hf hb0 hnc
  obtain ⟨c0, c1, c2, c3, c4, c5⟩ := HK.out.cells
  simp only [nbox] at HK HB0 HA c0 c1 c2 c3 c4 c5
  go_enter Tryz.func23, Tryz.ntmps23
  go_wp2_with fail
  clear c0 c1 c2 c3 c4 c5
  generalize w.alloc (.cells #[.int .i64 F, .int .i64 L, .int .i64 R, .string H, .slice A n ca, .slice C m cb] 33) = w1 at *
  have HST : Hid (∀ V, Below w1.heap.size w1 V → (Hid (Below w1.heap.size w1 V) ∧ V.cell? ⟨w.heap.size, 0, none⟩ = some (.int .i64 F) ∧ V.cell? ⟨w.heap.size, 1, none⟩ = some (.int .i64 L) ∧ V.cell? ⟨w.heap.size, 2, none⟩ = some (.int .i64 R) ∧ V.cell? ⟨w.heap.size, 3, none⟩ = some (.string H) ∧ V.cell? ⟨w.heap.size, 4, none⟩ = some (.slice A n ca) ∧ V.cell? ⟨w.heap.size, 5, none⟩ = some (.slice C m cb))) := Lib.hid (fun V hb => holdN HK.out hb)
  have HLI : Hid (∀ V (X : Prop), (Hid (Below w1.heap.size w1 V) ∧ X) → Rows2 V A n ca C m cb ks ss) := Lib.hid (fun V X h => HA.out.on h.1.out)
  have hSd := HST.out _ (L5.below_drewN (Below.refl _ w1) 1)
  go_region_held3 (fun V => Hid (Below w1.heap.size w1 V) ∧ V.cell? ⟨w.heap.size, 0, none⟩ = some (.int .i64 F) ∧ V.cell? ⟨w.heap.size, 1, none⟩ = some (.int .i64 L) ∧ V.cell? ⟨w.heap.size, 2, none⟩ = some (.int .i64 R) ∧ V.cell? ⟨w.heap.size, 3, none⟩ = some (.string H) ∧ V.cell? ⟨w.heap.size, 4, none⟩ = some (.slice A n ca) ∧ V.cell? ⟨w.heap.size, 5, none⟩ = some (.slice C m cb))
    (first | assumption | exact hSd)
    (first
      | (go_at_call 37; refine (HF.out _ (HLI.out _ _ (by assumption))).mono ?_; rintro e V ⟨rfl, hb⟩; have HBV := Lib.hid ((by assumption : Hid (Below w1.heap.size w1 _) ∧ _).1.out.trans' hb); (try have RA := Lib.hid (RA.out.on hb)); have hSn := HST.out _ HBV.out; clear hb)
      | (go_at_call 38; refine (HC.out _ (HLI.out _ _ (by assumption))).mono ?_; rintro e V ⟨G, cap, rfl, hl, hb⟩; have HBV := Lib.hid ((by assumption : Hid (Below w1.heap.size w1 _) ∧ _).1.out.trans' hb); have RA := Lib.hid hl; have hSn := HST.out _ HBV.out; clear hl hb)
      | (go_at_call 54; refine (HS.out _ _ _ RA.out).mono ?_; rintro e V ⟨rfl, rfl⟩)
      | fail "no arm")
  all_goals
    go_wp2_with fail
    go_ret
    exact ⟨rfl, HB0.out.trans' HBV.out⟩

set_option maxHeartbeats 4000000 in
set_option maxRecDepth 100000 in
theorem renc_any (F L R : Int) (H : ByteArray) (A : Option Addr) (n ca : Nat) (C : Option Addr) (m cb : Nat) (ks : List Int) (ss : List ByteArray) (p : Int) (w : World) (hr : Rows2 w A n ca C m cb ks ss) (hn : n ≤ 1000) (hm : m ≤ 1000) (hh : H.size ≤ 1000000) (hss : ∀ s ∈ ss, s.size ≤ maxLen) (hpw : (Lit.int .i64 p).wf = true) :
    Calls Tryz.prog 11 #[nv F L R H A n ca C m cb, .int .i64 p] w fun e w' => e = .returned (encV ⟨F, L, R, H, ks, ss⟩ p) ∧ Below w.heap.size w w' := by
  have hb0 := nbox_below 33 F L R H A n ca C m cb w
  have HB0 := Lib.hid hb0
  have HA := Lib.hid (hr.on hb0)
  have HK := Lib.hid (nbox_new 33 F L R H A n ca C m cb w)
  have HSZ : Hid (∀ W, Calls Tryz.prog 26 #[.int .i64 p] W fun e w' => e = .returned (.bool (L7.mayBe p)) ∧ W = w') := Lib.hid (fun W => L7.sizeRef_any p W)
  have HM := Lib.hid (fun W (h2 : Rows2 W A n ca C m cb ks ss) => rmay_any F L R H A n ca C m cb ks ss p W h2 (by omega) (by omega) hh hss)
  obtain ⟨r, HR⟩ : ∃ r, Hid (r = encV ⟨F, L, R, H, ks, ss⟩ p) := ⟨_, Lib.hid rfl⟩
  rw [← HR.out]
  have hcases := enc_cases ⟨F, L, R, H, ks, ss⟩ p
  have hnk := hr.nk
  have hnm := hr.nm
  obtain ⟨c0, c1, c2, c3, c4, c5⟩ := HK.out.cells
  simp only [nbox] at HK HB0 HA c0 c1 c2 c3 c4 c5
  rcases hcases with ⟨hmb, he⟩ | ⟨hmb, hmay, he⟩ | ⟨hmay, hbig, he⟩ | ⟨hmay, hfit, he⟩
  · have HX : Hid (r = .tuple #[.string ⟨#[]⟩, .int .i64 4]) := Lib.hid (by rw [HR.out, encV, he])
    rw [hmb] at HSZ
    clear hmb he hnk hnm hr hn hm hh hss hb0 HM
    go_enter Tryz.func11, Tryz.ntmps11
    go_wp2_with fail
    refine (HSZ.out _).mono ?_
    rintro e w2 ⟨rfl, rfl⟩
    go_wp2_with fail
    go_ret2
    exact ⟨by rw [HX.out] <;> rfl, HB0.out⟩
  · have HX : Hid (r = .tuple #[.string ⟨#[]⟩, .int .i64 3]) := Lib.hid (by rw [HR.out, encV, he])
    rw [hmb] at HSZ
    rw [decide_eq_false hmay] at HM
    clear hmb hmay he hnk hnm hr hn hm hh hss hb0
    go_enter Tryz.func11, Tryz.ntmps11
    go_wp2_with fail
    refine (HSZ.out _).mono ?_
    rintro e w2 ⟨rfl, rfl⟩
    go_wp2_with fail
    refine (HM.out _ HA.out).mono ?_
    rintro e w2 ⟨rfl, hb2⟩
    go_wp2_with fail
    go_ret2
    exact ⟨by rw [HX.out] <;> rfl, HB0.out.trans' hb2⟩
  · have HX : Hid (r = .tuple #[.string ⟨#[]⟩, .int .i64 8]) := Lib.hid (by rw [HR.out, encV, he])
    have hp := mayBe_le hmay.1
    obtain ⟨q, rfl⟩ : ∃ q : Nat, p = q := Int.eq_ofNat_of_zero_le (by omega)
    have hf := May.fit hmay (by omega)
    have hnc : (cellsS ks ss).length = n := by rw [cellsS_length hf.len, hnk]
    have HF := Lib.hid (fun W (h : Rows2 W A n ca C m cb ks ss) => rfixed_any F L R H A n ca C m cb ks ss W h hf)
    have HC := Lib.hid (fun W (h : Rows2 W A n ca C m cb ks ss) => rcells_any F L R H A n ca C m cb ks ss W h hf)
    have HK8 := Lib.hid (fun G cap W (h : L5.Lies W W.heap.size G (cellsS ks ss)) => L8.pack8_any ((q : Int) - 16) (fixedS H ss) G (cellsS ks ss) cap W h (by omega) (by have := fixedS_size hf; omega) (fun s hs => by have := cellsS_size hf s hs; omega))
    rw [packV_big (F := F) (L := L) (R := R) (by omega) (by omega) (by omega), hnc] at HK8
    rw [hmay.1] at HSZ
    rw [decide_eq_true hmay] at HM
    have hw : IntKind.i64.wrap ((q : Int) - 16) = (q : Int) - 16 := IntWalk.i64_in _ (by omega)
    generalize fixedS H ss = fx at *
    clear hmay he hnk hnm hr hn hm hh hss hb0 hbig hf hp hnc hpw
    go_enter Tryz.func11, Tryz.ntmps11
    go_wp2_with fail
    refine (HSZ.out _).mono ?_
    rintro e w2 ⟨rfl, rfl⟩
    go_wp2_with fail
    refine (HM.out _ HA.out).mono ?_
    rintro e w2 ⟨rfl, hb2⟩
    have HB3 := Lib.hid (HB0.out.trans' hb2)
    have HK3 := Lib.hid (HK.out.below hb2)
    have HA3 := Lib.hid (HA.out.on hb2)
    clear hb2 HM HSZ c0 c1 c2 c3 c4 c5
    go_wp2_with fail
    have HST : Hid (∀ V, Below w2.heap.size w2 V → (Hid (Below w2.heap.size w2 V) ∧ V.cell? ⟨w.heap.size, 0, none⟩ = some (.int .i64 F) ∧ V.cell? ⟨w.heap.size, 1, none⟩ = some (.int .i64 L) ∧ V.cell? ⟨w.heap.size, 2, none⟩ = some (.int .i64 R) ∧ V.cell? ⟨w.heap.size, 3, none⟩ = some (.string H) ∧ V.cell? ⟨w.heap.size, 4, none⟩ = some (.slice A n ca) ∧ V.cell? ⟨w.heap.size, 5, none⟩ = some (.slice C m cb))) := Lib.hid (fun V hb => holdN HK3.out hb)
    have HLI : Hid (∀ V (X : Prop), (Hid (Below w2.heap.size w2 V) ∧ X) → Rows2 V A n ca C m cb ks ss) := Lib.hid (fun V X h => HA3.out.on h.1.out)
    have hSd := HST.out _ (L5.below_drewN (Below.refl _ w2) 1)
    go_region_held3 (fun V => Hid (Below w2.heap.size w2 V) ∧ V.cell? ⟨w.heap.size, 0, none⟩ = some (.int .i64 F) ∧ V.cell? ⟨w.heap.size, 1, none⟩ = some (.int .i64 L) ∧ V.cell? ⟨w.heap.size, 2, none⟩ = some (.int .i64 R) ∧ V.cell? ⟨w.heap.size, 3, none⟩ = some (.string H) ∧ V.cell? ⟨w.heap.size, 4, none⟩ = some (.slice A n ca) ∧ V.cell? ⟨w.heap.size, 5, none⟩ = some (.slice C m cb))
      (first | assumption | exact hSd)
      (first
        | (go_at_call 37; refine (HF.out _ (HLI.out _ _ (by assumption))).mono ?_; rintro e V ⟨rfl, hb⟩; have HBV := Lib.hid ((by assumption : Hid (Below w2.heap.size w2 _) ∧ _).1.out.trans' hb); (try have RA := Lib.hid (RA.out.on hb)); have hSn := HST.out _ HBV.out; clear hb)
        | (go_at_call 38; refine (HC.out _ (HLI.out _ _ (by assumption))).mono ?_; rintro e V ⟨G, cap, rfl, hl, hb⟩; have HBV := Lib.hid ((by assumption : Hid (Below w2.heap.size w2 _) ∧ _).1.out.trans' hb); have RA := Lib.hid hl; have hSn := HST.out _ HBV.out; clear hl hb)
        | (go_at_call 36; refine (HK8.out _ _ _ RA.out).mono ?_; rintro e V ⟨rfl, hb⟩; have HBV := Lib.hid ((by assumption : Hid (Below w2.heap.size w2 _) ∧ _).1.out.trans' hb); have hSn := HST.out _ HBV.out; clear hb)
        | fail "no arm")
    all_goals
      go_wp2_with fail
      go_ret2
      exact ⟨by rw [HX.out] <;> rfl, HB3.out.trans' HBV.out⟩
  · have HX : Hid (r = .tuple #[.string ⟨(page ⟨F, L, R, H, ks, ss⟩ p.toNat).toArray⟩, .int .i64 0]) := Lib.hid (by rw [HR.out, encV, he])
    have hp := mayBe_le hmay.1
    obtain ⟨q, rfl⟩ : ∃ q : Nat, p = q := Int.eq_ofNat_of_zero_le (by omega)
    have hf := May.fit hmay (by omega)
    have hnc : (cellsS ks ss).length = n := by rw [cellsS_length hf.len, hnk]
    have HF := Lib.hid (fun W (h : Rows2 W A n ca C m cb ks ss) => rfixed_any F L R H A n ca C m cb ks ss W h hf)
    have HC := Lib.hid (fun W (h : Rows2 W A n ca C m cb ks ss) => rcells_any F L R H A n ca C m cb ks ss W h hf)
    have HK8 := Lib.hid (fun G cap W (h : L5.Lies W W.heap.size G (cellsS ks ss)) => L8.pack8_any ((q : Int) - 16) (fixedS H ss) G (cellsS ks ss) cap W h (by omega) (by have := fixedS_size hf; omega) (fun s hs => by have := cellsS_size hf s hs; omega))
    rw [packV_ok (F := F) (L := L) (R := R) (by omega) (by omega) (by omega), hnc] at HK8
    rw [hmay.1] at HSZ
    rw [decide_eq_true hmay] at HM
    have hw : IntKind.i64.wrap ((q : Int) - 16) = (q : Int) - 16 := IntWalk.i64_in _ (by omega)
    rw [Int.toNat_natCast] at HX
    have hbl : (body ⟨F, L, R, H, ks, ss⟩ q).length = q - 16 := body_length (by omega)
    have HSE := Lib.hid (fun W => L7.refSeal_any (hd ⟨F, L, R, H, ks, ss⟩) ⟨(body ⟨F, L, R, H, ks, ss⟩ q).toArray⟩ q W hpw (by show (body ⟨F, L, R, H, ks, ss⟩ q).toArray.size ≤ _; rw [List.size_toArray, hbl]; unfold maxLen; omega))
    have hsv := seal_ok hmay (by omega)
    rw [hsv] at HSE
    rw [show L7.hv (hd ⟨F, L, R, H, ks, ss⟩) = .agg #[.int .i64 3, .int .i64 L, .int .i64 n, .int .i64 R, .int .i64 F] by rw [← hnk]; rfl] at HSE
    generalize (⟨(page ⟨F, L, R, H, ks, ss⟩ q).toArray⟩ : ByteArray) = PG at *
    generalize (⟨(body ⟨F, L, R, H, ks, ss⟩ q).toArray⟩ : ByteArray) = BD at *
    generalize fixedS H ss = fx at *
    clear hmay he hnk hnm hr hn hm hh hss hb0 hfit hf hp hbl hsv hpw hnc
    go_enter Tryz.func11, Tryz.ntmps11
    go_wp2_with fail
    refine (HSZ.out _).mono ?_
    rintro e w2 ⟨rfl, rfl⟩
    go_wp2_with fail
    refine (HM.out _ HA.out).mono ?_
    rintro e w2 ⟨rfl, hb2⟩
    have HB3 := Lib.hid (HB0.out.trans' hb2)
    have HK3 := Lib.hid (HK.out.below hb2)
    have HA3 := Lib.hid (HA.out.on hb2)
    clear hb2 HM HSZ c0 c1 c2 c3 c4 c5
    go_wp2_with fail
    have HST : Hid (∀ V, Below w2.heap.size w2 V → (Hid (Below w2.heap.size w2 V) ∧ V.cell? ⟨w.heap.size, 0, none⟩ = some (.int .i64 F) ∧ V.cell? ⟨w.heap.size, 1, none⟩ = some (.int .i64 L) ∧ V.cell? ⟨w.heap.size, 2, none⟩ = some (.int .i64 R) ∧ V.cell? ⟨w.heap.size, 3, none⟩ = some (.string H) ∧ V.cell? ⟨w.heap.size, 4, none⟩ = some (.slice A n ca) ∧ V.cell? ⟨w.heap.size, 5, none⟩ = some (.slice C m cb))) := Lib.hid (fun V hb => holdN HK3.out hb)
    have HLI : Hid (∀ V (X : Prop), (Hid (Below w2.heap.size w2 V) ∧ X) → Rows2 V A n ca C m cb ks ss) := Lib.hid (fun V X h => HA3.out.on h.1.out)
    have hSd := HST.out _ (L5.below_drewN (Below.refl _ w2) 1)
    go_region_held3 (fun V => Hid (Below w2.heap.size w2 V) ∧ V.cell? ⟨w.heap.size, 0, none⟩ = some (.int .i64 F) ∧ V.cell? ⟨w.heap.size, 1, none⟩ = some (.int .i64 L) ∧ V.cell? ⟨w.heap.size, 2, none⟩ = some (.int .i64 R) ∧ V.cell? ⟨w.heap.size, 3, none⟩ = some (.string H) ∧ V.cell? ⟨w.heap.size, 4, none⟩ = some (.slice A n ca) ∧ V.cell? ⟨w.heap.size, 5, none⟩ = some (.slice C m cb))
      (first | assumption | exact hSd)
      (first
        | (go_at_call 37; refine (HF.out _ (HLI.out _ _ (by assumption))).mono ?_; rintro e V ⟨rfl, hb⟩; have HBV := Lib.hid ((by assumption : Hid (Below w2.heap.size w2 _) ∧ _).1.out.trans' hb); (try have RA := Lib.hid (RA.out.on hb)); have hSn := HST.out _ HBV.out; clear hb)
        | (go_at_call 38; refine (HC.out _ (HLI.out _ _ (by assumption))).mono ?_; rintro e V ⟨G, cap, rfl, hl, hb⟩; have HBV := Lib.hid ((by assumption : Hid (Below w2.heap.size w2 _) ∧ _).1.out.trans' hb); have RA := Lib.hid hl; have hSn := HST.out _ HBV.out; clear hl hb)
        | (go_at_call 36; refine (HK8.out _ _ _ RA.out).mono ?_; rintro e V ⟨rfl, hb⟩; have HBV := Lib.hid ((by assumption : Hid (Below w2.heap.size w2 _) ∧ _).1.out.trans' hb); have hSn := HST.out _ HBV.out; clear hb)
        | fail "no arm")
    all_goals
      go_wp2_with fail
      refine (HSE.out _).mono ?_
      rintro e w5 ⟨rfl, hb5⟩
      go_wp2_with fail
      go_ret2
      exact ⟨by rw [HX.out] <;> rfl, (HB3.out.trans' HBV.out).trans' hb5⟩
end Go.Proofs.YtembccehokodeaaGreatDoor

namespace Go.Proofs.YtembccehokodeaaGreatDoor
open Go.RowKit IP
set_option linter.unusedVariables false
set_option linter.unusedSimpArgs false

theorem ends_at {low H : ByteArray} {ss : List ByteArray} {n m q : Nat} {R i : Int} {lo hi : ByteArray} {d : Bool} (hi' : i = q) (hq : q < n) (h1 : loAt low ss q = lo) (h2 : hiAt ss H q = hi) (h3 : doesAt m R q = d) : endsV low ss H n m R i = .tuple #[.string lo, .string hi, .bool d] := by
  subst hi'
  unfold endsV
  rw [if_pos ⟨by omega, by omega⟩, Int.toNat_natCast, h1, h2, h3]
theorem hi_in {ss : List ByteArray} {H t : ByteArray} {q : Nat} (h : ss[q]? = some t) : hiAt ss H q = t := by
  unfold hiAt
  have hq := (List.getElem?_eq_some_iff.1 h).1
  rw [List.getD_eq_getElem?_getD, List.getElem?_append_left hq, h]
  rfl
theorem hi_end {ss : List ByteArray} {H : ByteArray} {m : Nat} (h : ss.length = m) : hiAt ss H m = H := by
  subst h
  unfold hiAt
  rw [List.getD_eq_getElem?_getD, List.getElem?_append_right (Nat.le_refl _), Nat.sub_self]
  rfl

theorem does_end (m : Nat) (R : Int) : doesAt m R m = (R != 0) := by
  unfold doesAt
  rw [decide_eq_false (Nat.lt_irrefl m), Bool.false_or]
  by_cases h : R = 0
  · subst h; rfl
  · rw [decide_eq_true h]; simpa using h
theorem does_in {m q : Nat} (R : Int) (h : q < m) : doesAt m R q = true := by
  unfold doesAt
  rw [decide_eq_true h, Bool.true_or]
set_option maxRecDepth 100000 in
set_option maxHeartbeats 2000000 in
theorem rends_any (F L R : Int) (H : ByteArray) (A : Option Addr) (n ca : Nat) (C : Option Addr) (m cb : Nat) (ss : List ByteArray) (low : ByteArray) (i : Int) (w : World) (hc : L5.Lies w w.heap.size C ss) (hn : n = m + 1) (hm : ss.length = m) (hl : m ≤ 100000) (hiw : (Lit.int .i64 i).wf = true) :
    Calls Tryz.prog 21 #[nv F L R H A n ca C m cb, .string low, .int .i64 i] w fun e w' => e = .returned (endsV low ss H n m R i) ∧ Below w.heap.size w w' := by
  have hb0 := nbox_below 33 F L R H A n ca C m cb w
  have HB := Lib.hid hb0
  have HC := Lib.hid (hc.on hb0)
  have HK := Lib.hid (nbox_new 33 F L R H A n ca C m cb w)
  obtain ⟨r, HR⟩ : ∃ r, Hid (r = endsV low ss H n m R i) := ⟨_, Lib.hid rfl⟩
  rw [← HR.out]
  have HN := Lib.hid hn
  obtain ⟨c0, c1, c2, c3, c4, c5⟩ := HK.out.cells
  simp only [nbox] at HK HB HC c0 c1 c2 c3 c4 c5
  clear hc hb0
  by_cases hneg : i < 0
  · have HX : Hid (r = .tuple #[.string ⟨#[]⟩, .string ⟨#[]⟩, .bool false]) := Lib.hid (by rw [HR.out]; unfold endsV; rw [if_neg (by omega)])
    clear hn hm hiw
    go_enter Tryz.func21, Tryz.ntmps21
    go_wp2_with fail
    all_goals (first | (go_ret3; exact ⟨by rw [HX.out] <;> rfl, HB.out⟩) | (rename_i e1 e2; exact absurd (Option.some.inj e1) (by simp [undef])) | (rename_i e1; exact absurd (Option.some.inj e1) (by simp [undef])))
  obtain ⟨q, rfl⟩ : ∃ q : Nat, i = q := Int.eq_ofNat_of_zero_le (by omega)
  have hq0 : ¬ (q : Int) < 0 := by omega
  by_cases hge : n ≤ q
  · have HX : Hid (r = .tuple #[.string ⟨#[]⟩, .string ⟨#[]⟩, .bool false]) := Lib.hid (by rw [HR.out]; unfold endsV; rw [if_neg (by omega)])
    have hge' : (n : Int) ≤ q := by omega
    clear hn hm hiw
    go_enter Tryz.func21, Tryz.ntmps21
    go_wp2_with fail
    all_goals (first | (go_ret3; exact ⟨by rw [HX.out] <;> rfl, HB.out⟩) | (rename_i e1 e2; exact absurd (Option.some.inj e1) (by simp [undef])) | (rename_i e1; exact absurd (Option.some.inj e1) (by simp [undef])))
  have hge' : ¬ (n : Int) ≤ q := by omega
  rcases Nat.eq_zero_or_pos q with hq | hq
  · subst hq
    by_cases hm0 : 0 < m
    · obtain ⟨t, ht⟩ : ∃ t, ss[0]? = some t := ⟨_, List.getElem?_eq_getElem (by omega)⟩
      obtain ⟨b, rfl, hbb, y0⟩ := HC.out 0 t ht
      have HX : Hid (r = .tuple #[.string low, .string t, .bool true]) := Lib.hid (by
        rw [HR.out]
        exact ends_at rfl (by omega) rfl (hi_in ht) (does_in R hm0))
      rw [show b.add ((0 : Nat) : Nat) = b from by cases b; simp [Addr.add]] at y0
      have hm1 : (0 : Int) < m := by omega
      clear hn hm hiw ht hbb
      go_enter Tryz.func21, Tryz.ntmps21
      go_wp2_with fail
      all_goals first | (rename_i e1 e2; exact absurd (Option.some.inj e1) (by simp [undef])) | (rename_i e1; exact absurd (Option.some.inj e1) (by simp [undef])) | skip
      go_quiet (fail)
      go_wp2_with fail
      go_ret3
      exact ⟨by rw [HX.out] <;> rfl, L5.below_drewN HB.out _⟩
    · obtain rfl : m = 0 := by omega
      have HX : Hid (r = .tuple #[.string low, .string H, .bool (R != 0)]) := Lib.hid (by
        rw [HR.out]
        exact ends_at rfl (by omega) rfl (hi_end hm) (does_end 0 R))
      clear hn hm hiw
      go_enter Tryz.func21, Tryz.ntmps21
      go_wp2_with fail
      all_goals first | (rename_i e1 e2; exact absurd (Option.some.inj e1) (by simp [undef])) | (rename_i e1; exact absurd (Option.some.inj e1) (by simp [undef])) | skip
      go_quiet (fail)
      go_wp2_with fail
      go_ret3
      exact ⟨by rw [HX.out] <;> rfl, L5.below_drewN HB.out _⟩
  · obtain ⟨j, HJ⟩ : ∃ j, Hid (q = j + 1) := ⟨q - 1, Lib.hid (by omega)⟩
    have hjm : j < m := by have := HJ.out; omega
    obtain ⟨s, hs⟩ : ∃ s, ss[j]? = some s := ⟨_, List.getElem?_eq_getElem (by omega)⟩
    obtain ⟨b, rfl, hbb, z0⟩ := HC.out j s hs
    have hlo : loAt low ss q = s := by
      rw [HJ.out]
      show ss.getD j ⟨#[]⟩ = s
      rw [List.getD_eq_getElem?_getD, hs]
      rfl
    have hj2 : (j : Int) < m := by omega
    have hj0 : (0 : Int) ≤ j := by omega
    have hq1 : (0 : Int) < q := by omega
    have hw : IntKind.i64.wrap ((q : Int) - 1) = (j : Int) := by
      rw [HJ.out]
      have : (((j + 1 : Nat) : Int) - 1) = j := by omega
      rw [this]
      exact IntWalk.i64_in _ (by omega)
    have hk1 : ((q : Int) - 1) = (j : Int) := by have := HJ.out; omega
    have hg0 : decide ((0 : Int) < (q : Int)) = true := decide_eq_true hq1
    by_cases hm0 : q < m
    · obtain ⟨t, ht⟩ : ∃ t, ss[q]? = some t := ⟨_, List.getElem?_eq_getElem (by omega)⟩
      obtain ⟨b2, hb2, hbb2, y0⟩ := HC.out q t ht
      obtain rfl := Option.some.inj hb2
      have HX : Hid (r = .tuple #[.string s, .string t, .bool true]) := Lib.hid (by
        rw [HR.out]
        exact ends_at rfl (by omega) hlo (hi_in ht) (does_in R hm0))
      have hm1 : (q : Int) < m := by omega
      have hq00 : (0 : Int) ≤ q := by omega
      clear hn hm hiw hs ht hbb hbb2 hb2 hlo
      go_enter Tryz.func21, Tryz.ntmps21
      go_wp2_with fail
      all_goals first | (rename_i e1 e2; exact absurd (Option.some.inj e1) (by simp [undef])) | (rename_i e1; exact absurd (Option.some.inj e1) (by simp [undef])) | skip
      go_quiet (fail)
      go_wp2_with fail
      go_ret3
      exact ⟨by rw [HX.out] <;> rfl, L5.below_drewN HB.out _⟩
    · obtain rfl : q = m := by omega
      have HX : Hid (r = .tuple #[.string s, .string H, .bool (R != 0)]) := Lib.hid (by
        rw [HR.out]
        exact ends_at rfl (by omega) hlo (hi_end hm) (does_end q R))
      have hm1 : ¬ (q : Int) < q := by omega
      clear hn hm hiw hs hbb hlo
      go_enter Tryz.func21, Tryz.ntmps21
      go_wp2_with fail
      all_goals first | (rename_i e1 e2; exact absurd (Option.some.inj e1) (by simp [undef])) | (rename_i e1; exact absurd (Option.some.inj e1) (by simp [undef])) | skip
      go_quiet (fail)
      go_wp2_with fail
      go_ret3
      exact ⟨by rw [HX.out] <;> rfl, L5.below_drewN HB.out _⟩
end Go.Proofs.YtembccehokodeaaGreatDoor
