/-
  The walks of leaf.Find and the document's Find.
  What the document fixes of leaves, in plain mathematics.
  Walk of sep.Strip.
  What package cell answers, as contracts; the document's Repeat; calls with one answer.
  The walk of strings.Clone.
  Plain mathematics of package cell: fields that are read one behind the other.
  Package cell: the box of fields, and the calls that read them.
  Package cell: what a value's and a kid's cell tell.
  Package cell: what may be; numbers and texts; PutKid, GetValue, GetKid.
  Package cell: GetValue, GetKid. Written by wip/gen_vget.py.
-/
import Derived.Test.YtpehkikdmckldaaGreatDoorJNSame
import Derived.Test.YtpehkikdmckldaaGreatDoorJ02
import Derived.Test.YtpehkikdmckldaaGreatDoorJ01
import Derived.Lib.Walk
import Derived.WalkSpells
import Derived.WalkLawsBesides
import Derived.Test.YtpehkikdmckldaaGreatDoorJ06
import Derived.Deep.AppendLies
import Derived.Laws.OwnMore
import Derived.Lib.BufferWrite
import Derived.Lib.UnsafeStr
import Derived.Laws.MakeOwn
import Derived.Laws.Cover1
import Derived.BigQuiet
namespace Go.Proofs.YtpehkikdmckldaaGreatDoor
open Go.RowKit NP
set_option linter.unusedVariables false
set_option linter.unusedSimpArgs false

/-- The first item of a key. -/
def fnd : List It → ByteArray → Option It
  | [], _ => none
  | x :: l, key => if x.k = key then some x else fnd l key
theorem fnd_at : ∀ (l : List It) (k : Nat) (x : It) (key : ByteArray), l[k]? = some x → (∀ y ∈ l.take k, y.k ≠ key) → x.k = key → fnd l key = some x
  | [], k, x, key, h, _, _ => by simp at h
  | y :: l, 0, x, key, h, _, hk => by
    simp at h
    subst h
    unfold fnd
    rw [if_pos hk]
  | y :: l, k + 1, x, key, h, hn, hk => by
    have h1 := hn y (by simp)
    unfold fnd
    rw [if_neg h1]
    exact fnd_at l k x key (by simpa using h) (fun z hz => hn z (by simp [hz])) hk
theorem fnd_none : ∀ (l : List It) (key : ByteArray), (∀ y ∈ l, y.k ≠ key) → fnd l key = none
  | [], key, _ => rfl
  | y :: l, key, h => by
    unfold fnd
    rw [if_neg (h y (by simp))]
    exact fnd_none l key fun z hz => h z (by simp [hz])
def foundV : Option It → Value
  | none => .tuple #[L9.vv false ⟨#[]⟩ 0 0, .bool false]
  | some x => .tuple #[L9.vv x.o x.s x.l x.p, .bool true]
theorem not_next {l : List It} {k : Nat} {x : It} {key : ByteArray} (hc : l[k]? = some x) (h : ∀ y ∈ l.take k, y.k ≠ key) (hx : x.k ≠ key) : ∀ y ∈ l.take (k + 1), y.k ≠ key := by
  rw [take_snoc hc]
  intro y hy
  rcases List.mem_append.1 hy with hy | hy
  · exact h y hy
  · obtain rfl := List.mem_singleton.1 hy
    exact hx

/-- The world in which a leaf and an empty value have been boxed. -/
def WF (tl tv : TypeId) (F R : Int) (H : ByteArray) (A : Option Addr) (n ca : Nat) (w : World) : World := (lbox tl F R H A n ca w).alloc (.cells #[.bool false, .string ⟨#[]⟩, .int .i64 0, .int .i64 0] tv)
theorem WF_boxes (tl tv : TypeId) (F R : Int) (H : ByteArray) (A : Option Addr) (n ca : Nat) (w : World) :
    LBx tl w.heap.size F R H A n ca (WF tl tv F R H A n ca w) ∧ L9.Bx tv (w.heap.size + 1) false ⟨#[]⟩ 0 0 (WF tl tv F R H A n ca w) ∧ Below w.heap.size w (WF tl tv F R H A n ca w) := by
  have h1 := lbox_new tl F R H A n ca w
  have h2 := L9.Bx.new tv false ⟨#[]⟩ 0 0 (lbox tl F R H A n ca w)
  rw [lbox_size] at h2
  exact ⟨h1.below (L5.below_alloc _ _), h2, (lbox_below _ _ _ _ _ _ _ _).trans' (L5.below_alloc _ _)⟩

set_option maxHeartbeats 4000000 in
set_option maxRecDepth 100000 in
theorem find_any (F R : Int) (H : ByteArray) (A : Option Addr) (l : List It) (ca : Nat) (key : ByteArray) (w : World) (ha : Lies5 w w.heap.size A l) (hl : l.length ≤ 1000000) (hs : ∀ x ∈ l, x.s.size ≤ 1000000) :
    Calls Tryz.prog 15 #[lv F R H A l.length ca, .string key] w fun e w' => e = .returned (foundV (fnd l key)) ∧ Below w.heap.size w w' := by
  obtain ⟨B1, B2, hb0⟩ := WF_boxes 24 41 F R H A l.length ca w
  have HA := Lib.hid (ha.below hb0)
  have HS := Lib.hid hs
  obtain ⟨r, HR⟩ : ∃ r, Hid (r = foundV (fnd l key)) := ⟨_, Lib.hid rfl⟩
  rw [← HR.out]
  obtain ⟨n, hn⟩ : ∃ n, n = l.length := ⟨_, rfl⟩
  have HN := Lib.hid hn
  rw [← hn]
  rw [← hn] at hl B1 B2 hb0 HA
  have H1 := Lib.hid B1
  have H2 := Lib.hid B2
  have HZ := Lib.hid hb0
  clear ha hs hn B1 B2 hb0
  go_enter Tryz.func15, Tryz.ntmps15
  go_wp2_with fail
  go_loopw [12] (fun iv wr => ∃ k : Nat, k ≤ n ∧ iv = .int .i64 k ∧ Hid (∀ y ∈ l.take k, y.k ≠ key) ∧ Below (WF 24 41 F R H A n ca w).heap.size (WF 24 41 F R H A n ca w) wr) (fun iv _ => n - (intOf iv).toNat)
  case atStart => exact ⟨0, by omega, rfl, Lib.hid (by simp), Below.refl _ _⟩
  case round =>
    obtain ⟨k, hk, rfl, HT, hbw⟩ := hrel
    have HK := Lib.hid (H2.out.below hbw)
    have hsz := HZ.out.size
    have hsz2 := hbw.size
    by_cases hlt : k < n
    · obtain ⟨⟨K, O, S, L, P⟩, hc⟩ : ∃ c, l[k]? = some c := ⟨_, List.getElem?_eq_getElem (by have := HN.out; omega)⟩
      obtain ⟨a, rfl, hab, x0, x1, x2, x3, x4⟩ := (HA.out.below' hbw HZ.out.size).load hc
      by_cases hkey : K = key
      · have HX : Hid (r = .tuple #[L9.vv O S L P, .bool true]) := Lib.hid (by rw [HR.out, fnd_at l k _ key hc HT.out hkey]; rfl)
        have hz := text_yes hkey
        have HCL := Lib.hid (fun W => L5.clone_any S W (HS.out _ (List.mem_of_getElem? hc)))
        clear hc hab hkey
        have hI := L9.Bx.new 41 O S L P (wr.alloc (.cells #[.string K, .bool O, .string S, .int .i64 L, .int .i64 P] 59))
        rw [show (wr.alloc (.cells #[.string K, .bool O, .string S, .int .i64 L, .int .i64 P] 59)).heap.size = wr.heap.size + 1 by simp] at hI
        have HI := Lib.hid hI
        clear hI
        have hb2 := hbw.trans' ((L5.below_alloc wr (.cells #[.string K, .bool O, .string S, .int .i64 L, .int .i64 P] 59)).trans' (L5.below_alloc _ (.cells #[.bool O, .string S, .int .i64 L, .int .i64 P] 41)))
        go_wp2_with fail
        refine (HCL.out _).mono ?_
        rintro e w2 ⟨rfl, hb3⟩
        have HV := Lib.hid (HI.out.below hb3)
        have HK2 := Lib.hid (H2.out.below (hb2.trans' hb3))
        have hbF := HZ.out.trans' (hb2.trans' hb3)
        obtain ⟨y0, y1, y2, y3⟩ := HK2.out.cells
        obtain ⟨f0, f1, f2, f3⟩ := HK2.out.free
        obtain ⟨z0, z1, z2, z3⟩ := HV.out.cells
        obtain ⟨g0, g1, g2, g3⟩ := HV.out.free
        have hlt2 : w.heap.size + 1 < wr.heap.size := by have := H2.out.lt; omega
        have hne : ¬ w.heap.size = wr.heap.size := by omega
        have hne2 : ¬ wr.heap.size = w.heap.size := by omega
        have HW3 : Hid (L9.Bx 41 (w.heap.size + 1) false ⟨#[]⟩ 0 0 (w2.setCell ⟨wr.heap.size + 1, 1, none⟩ (.string S))) := Lib.hid (by
          unfold L9.Bx
          rw [Below.heap_setCell w2 ⟨wr.heap.size + 1, 1, none⟩ (.string S) (w.heap.size + 1) (by simp; omega)]
          exact HK2.out)
        have hbW := hbF.setCell (p := ⟨wr.heap.size + 1, 1, none⟩) (by simp; omega) (.string S)
        clear y0 y1 y2 y3 f0 f1 f2 f3 hlt2
        obtain ⟨y0, y1, y2, y3⟩ := HW3.out.cells
        obtain ⟨f0, f1, f2, f3⟩ := HW3.out.free
        go_wp2_with fail
        obtain ⟨r0, r1, r2, r3⟩ := (L9.set4_box HW3.out O S L P).cells
        unfold L9.set4 at r0 r1 r2 r3
        refine bodyPost_ret (v := .tuple #[L9.vv O S L P, .bool true]) (by simp [results, Tryz.results15, go_sem, r0, r1, r2, r3]) rfl ⟨by rw [HX.out], ?_⟩
        exact L9.set4_below hbW (by omega) O S L P
      · have HX := Lib.hid (not_next hc HT.out hkey)
        have hz := text_no hkey
        clear hc hab hkey
        go_wp2_with fail
        go_roundw
        case rel => exact ⟨k + 1, by omega, by simp, HX, hbw.trans' (L5.below_alloc _ _)⟩
        case measure => simp [intOf]; omega
    · have HX : Hid (r = .tuple #[L9.vv false ⟨#[]⟩ 0 0, .bool false]) := Lib.hid (by
        rw [HR.out, fnd_none l key (by
          have h := HT.out
          rwa [List.take_of_length_le (by have := HN.out; omega)] at h)]
        rfl)
      have hlt' : ¬ (k : Int) < n := by omega
      obtain ⟨y0, y1, y2, y3⟩ := HK.out.cells
      obtain ⟨f0, f1, f2, f3⟩ := HK.out.free
      clear hk
      go_wp2_with fail
      obtain ⟨r0, r1, r2, r3⟩ := (L9.set4_box HK.out false ⟨#[]⟩ 0 0).cells
      unfold L9.set4 at r0 r1 r2 r3
      refine bodyPost_ret (v := .tuple #[L9.vv false ⟨#[]⟩ 0 0, .bool false]) (by simp [results, Tryz.results15, go_sem, r0, r1, r2, r3]) rfl ⟨by rw [HX.out], ?_⟩
      exact L9.set4_below (HZ.out.trans' hbw) (by omega) false ⟨#[]⟩ 0 0

set_option maxHeartbeats 4000000 in
set_option maxRecDepth 100000 in
theorem rfind_any (F R : Int) (H : ByteArray) (A : Option Addr) (l : List It) (ca : Nat) (key : ByteArray) (w : World) (ha : Lies5 w w.heap.size A l) (hl : l.length ≤ 1000000) :
    Calls Tryz.prog 16 #[lv F R H A l.length ca, .string key] w fun e w' => e = .returned (foundV (fnd l key)) ∧ Below w.heap.size w w' := by
  obtain ⟨B1, B2, hb0⟩ := WF_boxes 34 44 F R H A l.length ca w
  have HA := Lib.hid (ha.below hb0)
  obtain ⟨r, HR⟩ : ∃ r, Hid (r = foundV (fnd l key)) := ⟨_, Lib.hid rfl⟩
  rw [← HR.out]
  obtain ⟨n, hn⟩ : ∃ n, n = l.length := ⟨_, rfl⟩
  have HN := Lib.hid hn
  rw [← hn]
  rw [← hn] at hl B1 B2 hb0 HA
  have H1 := Lib.hid B1
  have H2 := Lib.hid B2
  have HZ := Lib.hid hb0
  clear ha hn B1 B2 hb0
  go_enter Tryz.func16, Tryz.ntmps16
  go_wp2_with fail
  go_loopw [6] (fun iv wr => ∃ k : Nat, k ≤ n ∧ iv = .int .i64 k ∧ Hid (∀ y ∈ l.take k, y.k ≠ key) ∧ Below (WF 34 44 F R H A n ca w).heap.size (WF 34 44 F R H A n ca w) wr) (fun iv _ => n - (intOf iv).toNat)
  case atStart => exact ⟨0, by omega, rfl, Lib.hid (by simp), Below.refl _ _⟩
  case round =>
    obtain ⟨k, hk, rfl, HT, hbw⟩ := hrel
    have HK := Lib.hid (H2.out.below hbw)
    obtain ⟨p0, p1, p2, p3⟩ := (H1.out.below hbw).cells
    have hsz := HZ.out.size
    obtain ⟨y0, y1, y2, y3⟩ := HK.out.cells
    obtain ⟨f0, f1, f2, f3⟩ := HK.out.free
    by_cases hlt : k < n
    · obtain ⟨⟨K, O, S, L, P⟩, hc⟩ : ∃ c, l[k]? = some c := ⟨_, List.getElem?_eq_getElem (by have := HN.out; omega)⟩
      obtain ⟨a, rfl, hab, x0, x1, x2, x3, x4⟩ := (HA.out.below' hbw HZ.out.size).load hc
      by_cases hkey : K = key
      · have HX : Hid (r = .tuple #[L9.vv O S L P, .bool true]) := Lib.hid (by rw [HR.out, fnd_at l k _ key hc HT.out hkey]; rfl)
        have hz := text_yes hkey
        clear hc hab hkey
        go_wp2_with fail
        obtain ⟨r0, r1, r2, r3⟩ := (L9.set4_box HK.out O S L P).cells
        unfold L9.set4 at r0 r1 r2 r3
        refine bodyPost_ret (v := .tuple #[L9.vv O S L P, .bool true]) (by simp [results, Tryz.results16, go_sem, r0, r1, r2, r3]) rfl ⟨by rw [HX.out], ?_⟩
        exact L9.set4_below (HZ.out.trans' hbw) (by omega) O S L P
      · have HX := Lib.hid (not_next hc HT.out hkey)
        have hz := text_no hkey
        clear hc hab hkey
        go_wp2_with fail
        go_roundw
        case rel => exact ⟨k + 1, by omega, by simp, HX, hbw⟩
        case measure => simp [intOf]; omega
    · have HX : Hid (r = .tuple #[L9.vv false ⟨#[]⟩ 0 0, .bool false]) := Lib.hid (by
        rw [HR.out, fnd_none l key (by
          have h := HT.out
          rwa [List.take_of_length_le (by have := HN.out; omega)] at h)]
        rfl)
      have hlt' : ¬ (k : Int) < n := by omega
      clear hk
      go_wp2_with fail
      obtain ⟨r0, r1, r2, r3⟩ := (L9.set4_box HK.out false ⟨#[]⟩ 0 0).cells
      unfold L9.set4 at r0 r1 r2 r3
      refine bodyPost_ret (v := .tuple #[L9.vv false ⟨#[]⟩ 0 0, .bool false]) (by simp [results, Tryz.results16, go_sem, r0, r1, r2, r3]) rfl ⟨by rw [HX.out], ?_⟩
      exact L9.set4_below (HZ.out.trans' hbw) (by omega) false ⟨#[]⟩ 0 0
end Go.Proofs.YtpehkikdmckldaaGreatDoor

namespace Go.Proofs.YtpehkikdmckldaaGreatDoor
open Go.RowKit NP
set_option linter.unusedSimpArgs false
set_option linter.unusedVariables false

def tw : List It := [⟨⟨#[97, 98]⟩, false, ⟨#[120]⟩, 0, 0⟩, ⟨⟨#[97, 99]⟩, false, ⟨#[121]⟩, 0, 0⟩]
def two : Lf := ⟨1, 0, ⟨#[]⟩, tw⟩
def two2 : Lf := ⟨1, 2, ⟨#[]⟩, tw⟩
def twoH : Lf := ⟨1, 2, ⟨#[97, 100]⟩, tw⟩
def sevens : ByteArray := ⟨(List.replicate 30 (7 : UInt8)).toArray⟩
def nine (k : Nat) : List It := (List.range k).map fun i => ⟨⟨#[UInt8.ofNat i]⟩, false, sevens, 0, 0⟩
def big : Lf := ⟨1, 0, ⟨#[]⟩, nine 9⟩
theorem tw_may : May two 128 := of_decide_eq_true (by kernel_rfl)
theorem tw_size : size two = 19 := by kernel_rfl
theorem twoH_may : May twoH 128 := of_decide_eq_true (by kernel_rfl)
theorem twoH_size : (size twoH : Int) ≤ 128 - 16 := by decide +kernel
theorem two2_not : ¬ May two2 128 := of_decide_eq_false (by kernel_rfl)
theorem big_may : May big 128 := of_decide_eq_true (by kernel_rfl)
theorem big_size : (128 : Int) - 16 < (size big : Int) := by decide +kernel
theorem two64 : ¬ May two 64 := of_decide_eq_false (by kernel_rfl)
theorem zero_not : ¬ May ⟨0, 0, ⟨#[]⟩, []⟩ 128 := of_decide_eq_false (by kernel_rfl)
theorem tw_body : (body two 128).take 13 = [1, 97, 0, 1, 98, 0, 1, 120, 1, 99, 0, 1, 121] := by kernel_rfl
/-- The page of two. -/
theorem tw_enc : ∃ S : ByteArray, enc two 128 = (S, 0) ∧ S.size = 128 ∧ S.extract 16 29 = ⟨#[1, 97, 0, 1, 98, 0, 1, 120, 1, 99, 0, 1, 121]⟩ ∧ dec S = some two := by
  have h := enc_good tw_may (by rw [tw_size]; decide)
  have hs : (⟨(page two (128 : Int).toNat).toArray⟩ : ByteArray).size = 128 := by
    show (page two 128).toArray.size = 128
    rw [List.size_toArray]
    exact page_length (by decide) (by rw [tw_size]; decide)
  refine ⟨_, h, hs, ?_, ?_⟩
  · apply ByteArray.ext
    apply Array.toList_inj.1
    rw [Lib.extract_data]
    show ((page two 128).drop 16).take 13 = _
    rw [show (page two 128).drop 16 = body two 128 from L7.HP.page_drop _ _ (L7.HP.front_length _), tw_body]
  · exact (dec_iff _ _).2 (by rw [hs]; exact h)
theorem twH_enc : ∃ T : ByteArray, enc twoH 128 = (T, 0) ∧ T.size = 128 ∧ dec T = some twoH := by
  have h := enc_good twoH_may (by have := twoH_size; omega)
  have hs : (⟨(page twoH (128 : Int).toNat).toArray⟩ : ByteArray).size = 128 := by
    show (page twoH 128).toArray.size = 128
    rw [List.size_toArray]
    exact page_length (by decide) (by have := twoH_size; omega)
  exact ⟨_, h, hs, (dec_iff _ _).2 (by rw [hs]; exact h)⟩
theorem zeros_dec : dec ⟨(List.replicate 128 (0 : UInt8)).toArray⟩ = none := dec_kind (by decide +kernel)
theorem tw_find : fnd tw ⟨#[97, 99]⟩ = some ⟨⟨#[97, 99]⟩, false, ⟨#[121]⟩, 0, 0⟩ := by
  unfold tw fnd
  rw [if_neg (by decide), fnd, if_pos rfl]
theorem tw_nofind : fnd tw ⟨#[97]⟩ = none := by
  unfold tw fnd
  rw [if_neg (by decide), fnd, if_neg (by decide), fnd]
end Go.Proofs.YtpehkikdmckldaaGreatDoor

namespace Go.Proofs.YtpehkikdmckldaaGreatDoor.L5
open Go.RowKit
set_option linter.unusedVariables false
set_option linter.unusedSimpArgs false

/-- How many bytes all have in common. -/
def sp (l : List ByteArray) : Nat := EP.span (Bs l)
/-- A text without its first bytes. -/
def bare (p : Nat) (s : ByteArray) : ByteArray := s.extract p s.size
/-- The bytes that all have in common. -/
def headS : List ByteArray → ByteArray
  | [] => ⟨#[]⟩
  | s :: l => s.extract 0 (sp (s :: l))
def bares (l : List ByteArray) : List ByteArray := l.map (bare (sp l))
theorem bares_length (l : List ByteArray) : (bares l).length = l.length := by simp [bares]
theorem b_head (p : Nat) (s : ByteArray) : B (s.extract 0 p) = (B s).take p := by rw [b_extract]; rfl
theorem sp_le (l : List ByteArray) (s : ByteArray) (h : s ∈ l) : sp l ≤ s.size := by
  have := EP.span_le (Bs l) (B s) (bs_mem h)
  rwa [b_size] at this

theorem span_any (A : Option Addr) (l : List ByteArray) (ca : Nat) (w : World) (ha : Lies w w.heap.size A l) (hl : l.length ≤ 1000) (hs : ∀ s ∈ l, s.size ≤ 1000) (hc : l.length ≤ ca) :
    Calls Tryz.prog 92 #[.slice A l.length ca] w fun e w' => e = .returned (.int .i64 (sp l)) ∧ Below w.heap.size w w' := by
  cases l with
  | nil => exact span_none A ca w
  | cons s l =>
    obtain ⟨a, rfl, _, _⟩ := ha 0 s rfl
    exact span_some a s l ca w ha (by simp at hl; omega) (fun t ht => by have := hs t ht; omega) (by simpa using hc)

/-- The cells of texts, the first of which are bare. -/
def bareTo (l : List ByteArray) (p k : Nat) : List Value := strCells ((l.take k).map (bare p)) ++ List.replicate (l.length - k) (.string ⟨#[]⟩)
theorem bareTo_zero (l : List ByteArray) (p : Nat) : bareTo l p 0 = List.replicate l.length (.string ⟨#[]⟩) := by simp [bareTo, strCells]
theorem bareTo_full (l : List ByteArray) (p : Nat) : bareTo l p l.length = strCells (l.map (bare p)) := by simp [bareTo]
theorem bareTo_set (l : List ByteArray) (p k : Nat) (s : ByteArray) (h : l[k]? = some s) : (bareTo l p k).set k (.string (bare p s)) = bareTo l p (k + 1) := by
  have hk : k < l.length := (List.getElem?_eq_some_iff.1 h).1
  have h1 : l.take (k + 1) = l.take k ++ [s] := by rw [List.take_add_one, h]; rfl
  have hlen : (strCells ((l.take k).map (bare p))).length = k := by simp [strCells]; omega
  rw [bareTo, List.set_append_right _ _ (by omega), hlen, Nat.sub_self, bareTo, h1, show l.length - k = (l.length - (k + 1)) + 1 by omega, List.replicate_succ, List.set_cons_zero]
  simp [strCells]
theorem bareTo_at (l : List ByteArray) (p k : Nat) (h : k < l.length) : (bareTo l p k)[k]? = some (.string ⟨#[]⟩) := by
  have hlen : (strCells ((l.take k).map (bare p))).length = k := by simp [strCells]; omega
  rw [bareTo, List.getElem?_append_right (by omega), hlen, Nat.sub_self, List.getElem?_replicate, if_pos (by omega)]
theorem made_blank (m : Nat) : (madeCells (Value.string ⟨#[]⟩).cells (m * 1)).toList = List.replicate m (.string ⟨#[]⟩) := by
  apply List.ext_getElem
  · simp [madeCells]
  · intro i h1 h2
    simp [madeCells, Value.cells, Nat.mod_one]

set_option maxHeartbeats 1000000 in
set_option maxRecDepth 100000 in
theorem strip_some (a : Addr) (s0 : ByteArray) (l : List ByteArray) (ca p : Nat) (w : World) (ha : Lies w w.heap.size (some a) l) (h0 : l[0]? = some s0) (hl : l.length ≤ 1000) (hs : ∀ s ∈ l, s.size ≤ 1000) (hc : l.length ≤ ca) (hp : sp l = p) :
    Calls Tryz.prog 58 #[.slice (some a) l.length ca] w fun e w' => ∃ G, e = .returned (.tuple #[.string (s0.extract 0 p), .slice G l.length l.length]) ∧ Lies w' w'.heap.size G (l.map (bare p)) ∧ Below w.heap.size w w' := by
  obtain ⟨i0, hi, hz0, hz1, hz2⟩ := info_parts Tryz.infoStr
  have HA := Lib.hid ha
  have HS := Lib.hid hs
  have HP : Hid (∀ s ∈ l, p ≤ s.size) := Lib.hid (fun s h => by rw [← hp]; exact sp_le l s h)
  have HSP := Lib.hid (span_any (some a) l ca w ha hl hs hc)
  rw [hp] at HSP
  have H0 := Lib.hid h0
  have hs0 := hs s0 (List.mem_of_getElem? h0)
  have hp0 := HP.out s0 (List.mem_of_getElem? h0)
  obtain ⟨n, hn⟩ : ∃ n, n = l.length := ⟨_, rfl⟩
  have hn0 : 0 < n := by have := (List.getElem?_eq_some_iff.1 h0).1; omega
  have HN := Lib.hid hn
  rw [← hn] at HSP hl hc
  rw [← hn]
  clear ha hs hp h0 hn
  go_enter Tryz.func58, Tryz.ntmps58
  go_wp2_with fail
  refine HSP.out.mono ?_
  rintro e w1 ⟨rfl, hb1⟩
  clear HSP
  go_wp2_with (at_make; refine wpList_make_full _ rfl _ _ 66 rfl w1.heap.size 9 i0 (.string ⟨#[]⟩) 1 Tryz.underlying66 hi hz0 hz1 _ _ _ _ n rfl rfl rfl rfl (by rw [hz2]; omega) (by unfold maxLen; omega) (Nat.le_refl _) ?_; intro w2 hown2 hg2)
  have hb2 : Below w1.heap.size w1 w2 := (Below.refl _ w1).grown hg2 (Nat.le_refl _) (by simp)
  rw [made_blank] at hown2
  have HO2 : Hid (w2.ownsRow w1.heap.size 9 1 (.slice (some ⟨w1.heap.size, 0, none⟩) n n) n (bareTo l p 0)) := Lib.hid (by rw [bareTo_zero, ← HN.out]; exact hown2)
  clear hown2 hg2
  go_loopw [18] (fun iv wr => ∃ k : Nat, k ≤ n ∧ iv = .int .i64 k ∧ Hid (wr.ownsRow w1.heap.size 9 1 (.slice (some ⟨w1.heap.size, 0, none⟩) n n) n (bareTo l p k)) ∧ Below w1.heap.size w1 wr) (fun iv _ => n - (intOf iv).toNat)
  case atStart => exact ⟨0, Nat.zero_le _, rfl, HO2, hb2⟩
  case round =>
    obtain ⟨k, hk, rfl, HO, hbr⟩ := hrel
    have hbw := hb1.trans' hbr
    by_cases hlt : k < n
    · obtain ⟨s, hc⟩ : ∃ c, l[k]? = some c := ⟨_, List.getElem?_eq_getElem (by have := HN.out; omega)⟩
      obtain ⟨_, e, hab, x0⟩ := (HA.out.below hbw) k s hc
      obtain rfl := Option.some.inj e
      have hsz := HS.out s (List.mem_of_getElem? hc)
      have hps := HP.out s (List.mem_of_getElem? hc)
      have HC := Lib.hid hc
      clear hc hab
      have HCL := Lib.hid (clone_any (s.extract p s.size))
      have hes : (s.extract p s.size).size ≤ 1000000 := by simp; omega
      go_wp2_with fail
      refine (HCL.out _ hes).mono ?_
      rintro e w3 ⟨rfl, hb3⟩
      have HO3 := Lib.hid (own_below HO.out hb3)
      have hb13 := hbr.trans' hb3
      have hcell : w3.cell? ⟨w1.heap.size, k, none⟩ = some (.string ⟨#[]⟩) := by
        rw [HO3.out.cellAt k (by omega), bareTo_at l p k (by have := HN.out; omega)]
      have hfr := HO3.out.frozenAt k
      clear x0 hb3 hbr hbw
      go_wp2_with fail
      go_roundw
      case rel =>
        refine ⟨k + 1, by omega, by simp, Lib.hid ?_, hb13.setCell (Nat.le_refl _) _⟩
        have h := (HO3.out.stored k (.string (bare p s))).1
        rwa [bareTo_set l p k s HC.out] at h
      case measure => simp [intOf]; omega
    · obtain rfl : k = n := by omega
      have HL : Hid (Lies wr wr.heap.size (some ⟨w1.heap.size, 0, none⟩) (l.map (bare p))) := Lib.hid (by
        have h := HO.out
        rw [show bareTo l p k = strCells (l.map (bare p)) by rw [HN.out, bareTo_full]] at h
        exact lies_own h (by simp [HN.out]))
      obtain ⟨_, e, hab, x0⟩ := (HA.out.below hbw) 0 s0 H0.out
      obtain rfl := Option.some.inj e
      rw [addr_zero] at x0
      have HCL := Lib.hid (clone_any (s0.extract 0 p))
      have hes : (s0.extract 0 p).size ≤ 1000000 := by simp; omega
      clear hab
      go_wp2_with fail
      refine (HCL.out _ hes).mono ?_
      rintro e w3 ⟨rfl, hb3⟩
      go_wp2_with fail
      go_ret2
      exact ⟨_, rfl, HL.out.on hb3, hbw.trans' hb3⟩

theorem strip_none (A : Option Addr) (ca : Nat) (w : World) :
    Calls Tryz.prog 58 #[.slice A 0 ca] w fun e w' => e = .returned (.tuple #[.string ⟨#[]⟩, .slice none 0 0]) ∧ Below w.heap.size w w' := by
  go_enter Tryz.func58, Tryz.ntmps58
  go_wp2_with fail
  go_ret2
  exact ⟨rfl, Below.refl _ _⟩

theorem strip_any (A : Option Addr) (l : List ByteArray) (ca : Nat) (w : World) (ha : Lies w w.heap.size A l) (hl : l.length ≤ 1000) (hs : ∀ s ∈ l, s.size ≤ 1000) (hc : l.length ≤ ca) :
    Calls Tryz.prog 58 #[.slice A l.length ca] w fun e w' => ∃ G cap, e = .returned (.tuple #[.string (headS l), .slice G l.length cap]) ∧ l.length ≤ cap ∧ Lies w' w'.heap.size G (bares l) ∧ Below w.heap.size w w' := by
  cases l with
  | nil =>
    refine (strip_none A ca w).mono ?_
    rintro e w' ⟨rfl, hb⟩
    exact ⟨none, 0, rfl, Nat.le_refl _, Lies.nil _ _ _, hb⟩
  | cons s l =>
    obtain ⟨a, rfl, _, _⟩ := ha 0 s rfl
    refine (strip_some a s (s :: l) ca _ w ha rfl hl hs hc rfl).mono ?_
    rintro e w' ⟨G, rfl, hL, hb⟩
    exact ⟨G, _, rfl, Nat.le_refl _, hL, hb⟩
end Go.Proofs.YtpehkikdmckldaaGreatDoor.L5

namespace Go.Proofs.YtpehkikdmckldaaGreatDoor.L9
open Go.RowKit
set_option linter.unusedVariables false
set_option linter.unusedSimpArgs false

/-- Calls of one function at given arguments, with one answer, in any world. -/
def Tells (f : Nat) (args : Array Value) (v : Value) : Prop := ∀ W, Calls Tryz.prog f args W fun e w' => e = .returned v ∧ Below W.heap.size W w'
theorem Tells.at {f : Nat} {args : Array Value} {v : Value} (h : Tells f args v) {B W : World} (hb : Below B.heap.size B W) : Calls Tryz.prog f args W fun e w' => e = .returned v ∧ Below B.heap.size B w' :=
  (h W).mono fun e w' ⟨h1, h2⟩ => ⟨h1, hb.trans' h2⟩
theorem below_drewN {c : Nat} {w v : World} (h : Below c w v) (n : Nat) : Below c w (v.drewN n) := ⟨h.os, h.tape, h.output, h.size, h.block⟩

theorem Tryz.infoByte : (Tryz.prog.info? 5).map (fun i => (i.zero, i.size, i.bytes)) = some (some (.int .u8 0), 1, 1) := by kernel_rfl
end Go.Proofs.YtpehkikdmckldaaGreatDoor.L9

namespace Go.Proofs.YtpehkikdmckldaaGreatDoor.L9
open Go.RowKit
set_option linter.unusedVariables false
set_option linter.unusedSimpArgs false

/-- A text's bytes. -/
abbrev B (s : ByteArray) : List UInt8 := s.data.toList
theorem b_size (s : ByteArray) : (B s).length = s.size := by simp [B]
/-- The cells of a text's bytes. -/
def txt (s : ByteArray) : Array Value := (Lib.byteCells (B s)).toArray
theorem txt_size (s : ByteArray) : (txt s).size = s.size := by simp [txt, Lib.byteCells_length]

set_option maxHeartbeats 2000000 in
set_option maxRecDepth 100000 in
theorem litClone_any (s : ByteArray) (w : World) (hs : s.size ≤ 1000000) :
    Calls Tryz.prog 88 #[.string s] w fun e w' => e = .returned (.string s) ∧ Below w.heap.size w w' := by
  by_cases h0 : s.size = 0
  · obtain rfl : s = ⟨#[]⟩ := ByteArray.ext (Array.eq_empty_of_size_eq_zero h0)
    go_enter Tryz.func88, Tryz.ntmps88
    go_wp2
    go_ret
    exact ⟨rfl, Below.refl _ _⟩
  · obtain ⟨i0, hi, hz0, hz1, hz2⟩ := info_parts Tryz.infoByte
    have hsz : (Tryz.prog.info? 5).map (·.size) = some 1 := by rw [hi]; simp [hz1]
    have hcells : Tryz.prog.cellsOf 5 = 1 := by simp [Program.cellsOf, hi, hz1]
    obtain ⟨Z, hZ⟩ : ∃ Z, Z = madeCells (Value.int .u8 0).cells (((s.size : Nat) : Int).toNat * i0.size) := ⟨_, rfl⟩
    have hZs : Z.size = s.size := by rw [hZ, size_madeCells, hz1]; simp
    -- the bytes are made,
    have mk : ∀ W : World, (Instr.makeSlice 103 (.int .i64 (s.size : Int)) (.int .i64 (s.size : Int))).run Tryz.prog W = .ok (.slice (some ⟨W.heap.size, 0, none⟩) s.size s.size) (W.alloc (.cells Z 5)) := fun W => by
      have h := run_make (P := Tryz.prog) W 103 5 i0 (.int .u8 0) Tryz.underlying103 hi hz0 .i64 .i64 (s.size : Int) (s.size : Int) (by omega) (by omega) (by rw [hz2]; omega) (by omega)
      rw [← hZ] at h
      simpa using h
    clear hZ
    -- become the text's,
    have heap1 := heap_alloc_new w (.cells Z 5)
    have cp := Lib.run_copy_row_string (P := Tryz.prog) (w.alloc (.cells Z 5)) 103 9 3 5 w.heap.size 0 s.size s.size s Z 5 Tryz.underlying103 hsz heap1 (Nat.le_refl _) (by omega)
    rw [show (Z.toList.take 0 ++ Lib.byteCells s.data.toList ++ Z.toList.drop (0 + s.size)).toArray = txt s by
      rw [List.take_zero, List.nil_append, List.drop_of_length_le (by simp; omega), List.append_nil]; rfl] at cp
    have heap2 : ((w.alloc (.cells Z 5)).setRow w.heap.size (txt s)).heap[w.heap.size]? = some (.cells (txt s) 5 (0, 0)) := setRow_heap _ _ Z _ 5 (0, 0) heap1
    have hb2 : Below w.heap.size w ((w.alloc (.cells Z 5)).setRow w.heap.size (txt s)) := (below_alloc w _).trans ⟨rfl, rfl, rfl, by simp, fun k hk => setRow_other _ _ _ _ (by omega)⟩
    have hne : B s ≠ [] := fun e => h0 (by rw [← b_size, e]; rfl)
    generalize (w.alloc (.cells Z 5)).setRow w.heap.size (txt s) = w2 at *
    -- and are the answer.
    have us := Lib.run_unsafeString_row (P := Tryz.prog) w2 190 3 9 5 Tryz.underlying190 hcells w.heap.size (txt s).size (by unfold World.shape?; rw [heap2]) (B s) hne (by rw [b_size, txt_size]; exact Nat.le_refl _) (by rw [b_size]; omega)
      (fun j x hx => Lib.cells_of_row heap2 (txt s).size j _ (by rw [List.take_of_length_le (by rw [Array.length_toList]; exact Nat.le_refl _)]; simp [txt, Lib.byteCells, hx]))
    rw [b_size] at us
    have hfz := Lib.below_freeze hb2 (p := ⟨w.heap.size, 0, none⟩) (Nat.le_refl _) s.size
    go_enter Tryz.func88, Tryz.ntmps88
    go_wp2
    go_ret
    exact ⟨rfl, hfz⟩

theorem clone_any (s : ByteArray) (w : World) (hs : s.size ≤ 1000000) :
    Calls Tryz.prog 44 #[.string s] w fun e w' => e = .returned (.string s) ∧ Below w.heap.size w w' := by
  go_enter Tryz.func44, Tryz.ntmps44
  go_wp2_with fail
  refine (litClone_any s _ hs).mono ?_
  rintro e w1 ⟨rfl, hb1⟩
  go_wp2_with fail
  go_ret
  exact ⟨rfl, hb1⟩
end Go.Proofs.YtpehkikdmckldaaGreatDoor.L9

namespace Go.Proofs.YtpehkikdmckldaaGreatDoor.L9.VP
open Go.Proofs.YtpehkikdmckldaaGreatDoor.L9
set_option linter.unusedSimpArgs false
set_option linter.unusedVariables false

/-- A number, or that it can't be read. -/
def numF (l : List UInt8) (i : Nat) (b : Bool) : Nat × Nat × Bool := if (WP.get l i).2.2 = 0 ∧ (WP.get l i).1 ≤ 4096 then ((WP.get l i).1, (WP.get l i).2.1, b) else (0, i, true)
/-- A number of four bytes. -/
def fourF (l : List UInt8) (i : Nat) (b : Bool) : Nat × Nat × Bool := if i + 4 ≤ l.length then (Lib.leNat ((l.drop i).take 4), i + 4, b) else (0, i, true)
/-- As many bytes. -/
def takeF (l : List UInt8) (i : Nat) (b : Bool) (n : Nat) : List UInt8 × Nat × Bool := if i + n ≤ l.length then ((l.drop i).take n, i + n, b) else ([], i, true)
/-- A text with its length ahead. -/
def textF (l : List UInt8) (i : Nat) (b : Bool) : List UInt8 × Nat × Bool := takeF l (numF l i b).2.1 (numF l i b).2.2 (numF l i b).1
/-- A byte. -/
def markF (l : List UInt8) (i : Nat) (b : Bool) : UInt8 × Nat × Bool := (if (takeF l i b 1).2.2 then 0 else (takeF l i b 1).1.headD 0, (takeF l i b 1).2)
def readV (l : List UInt8) : (List UInt8 × V) × Nat × Bool :=
  let t := textF l 0 false
  let m := markF l t.2.1 t.2.2
  if m.1 = 1 then
    let n := numF l m.2.1 m.2.2
    let p := fourF l n.2.1 n.2.2
    ((t.1, ⟨true, [], n.1, p.1⟩), p.2)
  else if m.1 = 0 then
    let n := numF l m.2.1 m.2.2
    let u := takeF l n.2.1 n.2.2 n.1
    ((t.1, ⟨false, u.1, 0, 0⟩), u.2)
  else
    let u := takeF l m.2.1 true 0
    ((t.1, ⟨false, u.1, 0, 0⟩), u.2)
theorem leBytes_four : ∀ (k : Nat) (l : List UInt8), l.length = k → Lib.leBytes k (Lib.leNat l) = l
  | 0, [], _ => rfl
  | k + 1, x :: l, h => by
    have ih := leBytes_four k l (by simpa using h)
    have hx := x.toNat_lt
    simp only [Lib.leBytes, Lib.leNat]
    have e1 : (x.toNat + 256 * Lib.leNat l) % 256 = x.toNat := by omega
    have e2 : (x.toNat + 256 * Lib.leNat l) / 256 = Lib.leNat l := by omega
    rw [e1, e2, ih]
    simp
-- what good reading says
theorem num_at {l : List UInt8} {i : Nat} {b : Bool} (hi : i ≤ l.length) : (numF l i b).2.1 ≤ l.length ∧ (numF l i b).1 ≤ 4096 ∧ i ≤ (numF l i b).2.1 := by
  unfold numF
  split
  · rename_i h
    rcases WP.get_spec l i with e | e | ⟨n, to, e, h2, h3, _⟩
    · rw [e] at h; simp at h
    · rw [e] at h; simp at h
    · rw [e] at h ⊢
      exact ⟨h3, h.2, by simp only; omega⟩
  · exact ⟨hi, by simp, Nat.le_refl _⟩
theorem four_at {l : List UInt8} {i : Nat} {b : Bool} (hi : i ≤ l.length) : (fourF l i b).2.1 ≤ l.length := by
  unfold fourF
  split
  · assumption
  · exact hi
theorem take_at {l : List UInt8} {i n : Nat} {b : Bool} (hi : i ≤ l.length) : (takeF l i b n).2.1 ≤ l.length := by
  unfold takeF
  split
  · assumption
  · exact hi
theorem text_at {l : List UInt8} {i : Nat} {b : Bool} (hi : i ≤ l.length) : (textF l i b).2.1 ≤ l.length := take_at (num_at hi).1
theorem mark_at {l : List UInt8} {i : Nat} {b : Bool} (hi : i ≤ l.length) : (markF l i b).2.1 ≤ l.length := take_at hi
theorem num_good {l : List UInt8} {i j n : Nat} {b : Bool} (h : numF l i b = (n, j, false)) : b = false ∧ n ≤ 4096 ∧ l.drop i = WP.put n ++ l.drop j := by
  unfold numF at h
  split at h
  · rename_i hc
    rcases WP.get_spec l i with e | e | ⟨m, to, e, h2, h3, h4, _⟩
    · rw [e] at hc; simp at hc
    · rw [e] at hc; simp at hc
    · rw [e] at hc h
      simp only [Prod.mk.injEq] at h hc
      obtain ⟨rfl, rfl, rfl⟩ := h
      refine ⟨rfl, hc.2, ?_⟩
      rw [h4, show l.drop to = (l.drop i).drop (to - i) by rw [List.drop_drop]; congr 1; omega, List.take_append_drop]
  · simp at h
theorem four_good {l : List UInt8} {i j n : Nat} {b : Bool} (h : fourF l i b = (n, j, false)) : b = false ∧ l.drop i = Lib.leBytes 4 n ++ l.drop j := by
  unfold fourF at h
  split at h
  · rename_i hc
    simp only [Prod.mk.injEq] at h
    obtain ⟨rfl, rfl, rfl⟩ := h
    refine ⟨rfl, ?_⟩
    rw [leBytes_four 4 _ (by simp; omega), ← List.drop_drop, List.take_append_drop]
  · simp at h
theorem take_good {l t : List UInt8} {i j n : Nat} {b : Bool} (h : takeF l i b n = (t, j, false)) : b = false ∧ t.length = n ∧ l.drop i = t ++ l.drop j := by
  unfold takeF at h
  split at h
  · rename_i hc
    simp only [Prod.mk.injEq] at h
    obtain ⟨rfl, rfl, rfl⟩ := h
    refine ⟨rfl, by simp; omega, ?_⟩
    rw [← List.drop_drop, List.take_append_drop]
  · simp at h
theorem text_good {l t : List UInt8} {i j : Nat} {b : Bool} (h : textF l i b = (t, j, false)) : b = false ∧ l.drop i = text t ++ l.drop j := by
  unfold textF at h
  obtain ⟨h1, h2, h3⟩ := take_good h
  obtain ⟨n, k, c, e⟩ : ∃ n k c, numF l i b = (n, k, c) := ⟨_, _, _, rfl⟩
  rw [e] at h1 h2 h3
  simp only at h1 h2 h3
  subst h1
  obtain ⟨g1, _, g2⟩ := num_good e
  refine ⟨g1, ?_⟩
  rw [g2, h3, ← h2, text, List.append_assoc]
theorem mark_good {l : List UInt8} {c : UInt8} {i j : Nat} {b : Bool} (h : markF l i b = (c, j, false)) : b = false ∧ l.drop i = c :: l.drop j := by
  unfold markF at h
  obtain ⟨t, k, d, e⟩ : ∃ t k d, takeF l i b 1 = (t, k, d) := ⟨_, _, _, rfl⟩
  rw [e] at h
  simp only [Prod.mk.injEq] at h
  obtain ⟨h1, rfl, rfl⟩ := h
  obtain ⟨g1, g2, g3⟩ := take_good e
  refine ⟨g1, ?_⟩
  match t, g2 with
  | [x], _ =>
    simp at h1
    rw [g3, h1]
    rfl
-- what is put is read
theorem pos_put (n : Nat) (h : n ≤ 4096) : 1 ≤ (WP.put n).length := by
  obtain ⟨_, _, e, _⟩ := WP.put_form n (by omega)
  rw [e]; simp
theorem split_at {l X : List UInt8} {i : Nat} (h : l.drop i = X) (hX : 1 ≤ X.length) : ∃ Z, l = Z ++ X ∧ Z.length = i := by
  have h1 := congrArg List.length h
  simp only [List.length_drop] at h1
  exact ⟨l.take i, by rw [← h, List.take_append_drop], by simp; omega⟩
theorem num_put {l Y : List UInt8} {i n : Nat} (b : Bool) (hn : n ≤ 4096) (h : l.drop i = WP.put n ++ Y) : numF l i b = (n, i + (WP.put n).length, b) ∧ l.drop (i + (WP.put n).length) = Y := by
  have hp := pos_put n hn
  obtain ⟨Z, e, rfl⟩ := split_at h (by simp; omega)
  have hg := WP.get_put Z Y n (by omega)
  rw [List.append_assoc, ← e] at hg
  refine ⟨by unfold numF; rw [hg]; simp only [if_pos (And.intro trivial hn)], ?_⟩
  rw [← List.drop_drop, h, List.drop_left]
theorem four_put {l Y : List UInt8} {i n : Nat} (b : Bool) (hn : n ≤ 4095) (h : l.drop i = Lib.leBytes 4 n ++ Y) : fourF l i b = (n, i + 4, b) ∧ l.drop (i + 4) = Y := by
  have hl := Lib.leBytes_length 4 n
  have h1 := congrArg List.length h
  simp only [List.length_drop, List.length_append, hl] at h1
  have e : (l.drop i).take 4 = Lib.leBytes 4 n := by rw [h, List.take_append_of_le_length (by omega), List.take_of_length_le (by omega)]
  refine ⟨by unfold fourF; rw [if_pos (by omega), e, Lib.leNat_leBytes 4 n (by omega)], ?_⟩
  have h2 := List.drop_left (l₁ := Lib.leBytes 4 n) (l₂ := Y)
  rw [hl] at h2
  rw [← List.drop_drop, h, h2]
theorem take_put {l t Y : List UInt8} {i : Nat} (b : Bool) (hi : i ≤ l.length) (h : l.drop i = t ++ Y) : takeF l i b t.length = (t, i + t.length, b) ∧ l.drop (i + t.length) = Y := by
  have h1 := congrArg List.length h
  simp only [List.length_drop, List.length_append] at h1
  refine ⟨by unfold takeF; rw [if_pos (by omega), h, List.take_left], ?_⟩
  rw [← List.drop_drop, h, List.drop_left]
theorem text_put {l t Y : List UInt8} {i : Nat} (b : Bool) (ht : t.length ≤ 4096) (h : l.drop i = text t ++ Y) : textF l i b = (t, i + (text t).length, b) ∧ l.drop (i + (text t).length) = Y := by
  rw [text, List.append_assoc] at h
  obtain ⟨e1, e2⟩ := num_put b ht h
  have hi : (i + (WP.put t.length).length) ≤ l.length := by
    have := congrArg List.length h
    have := pos_put t.length ht
    simp only [List.length_drop, List.length_append] at *
    omega
  obtain ⟨e3, e4⟩ := take_put b hi e2
  unfold textF
  rw [e1]
  simp only
  rw [e3, show i + (text t).length = i + (WP.put t.length).length + t.length by simp [text]; omega]
  exact ⟨rfl, e4⟩
theorem mark_put {l Y : List UInt8} {i : Nat} {c : UInt8} (h : l.drop i = c :: Y) : markF l i false = (c, i + 1, false) ∧ l.drop (i + 1) = Y := by
  have h1 := congrArg List.length h
  simp only [List.length_drop, List.length_cons] at h1
  obtain ⟨e1, e2⟩ := take_put (t := [c]) (Y := Y) false (by omega) h
  refine ⟨?_, e2⟩
  unfold markF
  rw [show ([c] : List UInt8).length = 1 from rfl] at e1
  rw [e1]
  rfl
theorem end_at {l : List UInt8} {i : Nat} (hi : i ≤ l.length) (h : l.drop i = []) : i = l.length := by
  have := List.drop_eq_nil_iff.1 h
  omega
theorem readV_put (t : List UInt8) (v : V) (h : OkV t v) : readV (cellV t v) = ((t, v), (cellV t v).length, false) := by
  obtain ⟨ht, hv⟩ := h
  generalize hl : cellV t v = l
  have h0 : l.drop 0 = text t ++ tail v := by rw [List.drop_zero, ← hl]; rfl
  obtain ⟨e1, f1⟩ := text_put false (by omega) h0
  have b1 := text_at (l := l) (i := 0) (b := false) (Nat.zero_le _)
  unfold readV
  simp only [e1]
  rw [e1] at b1
  simp only at b1
  generalize 0 + (text t).length = i at *
  rcases hv with ⟨h1, h2, h3, h4, h5, h6⟩ | ⟨h1, h2, h3, h4⟩
  · rw [tail, if_pos h1] at f1
    obtain ⟨e2, f2⟩ := mark_put f1
    have b2 := mark_at (b := false) b1
    simp only [e2, if_true]
    rw [e2] at b2
    obtain ⟨e3, f3⟩ := num_put false (by omega) f2
    have b3 := (num_at (b := false) b2).1
    simp only at b3
    rw [e3] at b3
    obtain ⟨e4, f4⟩ := four_put (Y := []) false (n := v.page.toNat) (by omega) (by rw [f3, List.append_nil])
    have b4 := four_at (b := false) b3
    simp only at b4
    rw [e4] at b4
    simp only [e3, e4]
    rw [← end_at b4 f4]
    congr 2
    exact V.eq h1.symm h2.symm (by show ((v.len.toNat : Nat) : Int) = _; omega) (by show ((v.page.toNat : Nat) : Int) = _; omega)
  · rw [tail, if_neg (by rw [h1]; decide)] at f1
    obtain ⟨e2, f2⟩ := mark_put f1
    have b2 := mark_at (b := false) b1
    simp only [e2, if_neg (show ¬ (0 : UInt8) = 1 by decide), if_true]
    rw [e2] at b2
    rw [show text v.s = WP.put v.s.length ++ v.s from rfl] at f2
    obtain ⟨e3, f3⟩ := num_put false (by omega) f2
    have b3 := (num_at (b := false) b2).1
    simp only at b3
    rw [e3] at b3
    obtain ⟨e4, f4⟩ := take_put (t := v.s) (Y := []) false b3 (by rw [f3, List.append_nil])
    have b4 := take_at (n := v.s.length) (b := false) b3
    simp only at b4
    rw [e4] at b4
    simp only [e3, e4]
    rw [← end_at b4 f4]
    congr 2
    exact V.eq h1.symm rfl h3.symm h4.symm
theorem triple {α β γ : Type} (x : α × β × γ) : ∃ a b c, x = (a, b, c) := ⟨_, _, _, rfl⟩
theorem readV_good {l t : List UInt8} {v : V} (h : readV l = ((t, v), l.length, false)) : cellV t v = l := by
  unfold readV at h
  obtain ⟨t', i1, b1, e1⟩ := triple (textF l 0 false)
  simp only [e1] at h
  obtain ⟨m, i2, b2, e2⟩ := triple (markF l i1 b1)
  simp only [e2] at h
  obtain ⟨n, i3, b3, e3⟩ := triple (numF l i2 b2)
  simp only [e3] at h
  split at h
  · rename_i hm
    subst hm
    obtain ⟨p, i4, b4, e4⟩ := triple (fourF l i3 b3)
    simp only [e4, Prod.mk.injEq] at h
    obtain ⟨⟨rfl, rfl⟩, rfl, rfl⟩ := h
    obtain ⟨rfl, g4⟩ := four_good e4
    obtain ⟨rfl, _, g3⟩ := num_good e3
    obtain ⟨rfl, g2⟩ := mark_good e2
    obtain ⟨_, g1⟩ := text_good e1
    rw [List.drop_length, List.append_nil] at g4
    rw [List.drop_zero, g2, g3, g4] at g1
    rw [g1, cellV, tail, if_pos rfl]
    simp
  · split at h
    · rename_i _ hm
      subst hm
      obtain ⟨u, i4, b4, e4⟩ := triple (takeF l i3 b3 n)
      simp only [e4, Prod.mk.injEq] at h
      obtain ⟨⟨rfl, rfl⟩, rfl, rfl⟩ := h
      obtain ⟨rfl, hu, g4⟩ := take_good e4
      obtain ⟨rfl, _, g3⟩ := num_good e3
      obtain ⟨rfl, g2⟩ := mark_good e2
      obtain ⟨_, g1⟩ := text_good e1
      rw [List.drop_length, List.append_nil] at g4
      rw [List.drop_zero, g2, g3, g4, ← hu] at g1
      rw [g1, cellV, tail, if_neg (by simp)]
      simp [text]
    · obtain ⟨u, i4, b4, e4⟩ := triple (takeF l i2 true 0)
      simp only [e4, Prod.mk.injEq] at h
      obtain ⟨_, rfl, rfl⟩ := h
      have := (take_good e4).1
      simp at this
theorem getV_read (l : List UInt8) : getV l = if (readV l).2 = (l.length, false) ∧ OkV (readV l).1.1 (readV l).1.2 then some (readV l).1 else none := by
  obtain ⟨t, v, i, b, hr⟩ : ∃ t v i b, readV l = ((t, v), i, b) := ⟨_, _, _, _, rfl⟩
  rw [hr]
  split
  · rename_i h
    simp only [Prod.mk.injEq] at h
    obtain ⟨⟨rfl, rfl⟩, h2⟩ := h
    exact (getV_iff l t v).2 ⟨h2, readV_good hr⟩
  · rename_i h
    refine getV_none fun t' v' hok e => h ?_
    have := readV_put t' v' hok
    rw [e, hr] at this
    simp only [Prod.mk.injEq] at this
    obtain ⟨⟨rfl, rfl⟩, rfl, rfl⟩ := this
    exact ⟨rfl, hok⟩
theorem readV_at (l : List UInt8) : (readV l).2.1 ≤ l.length := by
  have b1 := text_at (l := l) (i := 0) (b := false) (Nat.zero_le _)
  unfold readV
  simp only
  generalize textF l 0 false = x1 at *
  have b2 := mark_at (l := l) (i := x1.2.1) (b := x1.2.2) b1
  generalize markF l x1.2.1 x1.2.2 = x2 at *
  have b3 := (num_at (l := l) (i := x2.2.1) (b := x2.2.2) b2).1
  split
  · exact four_at b3
  · split
    · exact take_at b3
    · exact take_at b2
end Go.Proofs.YtpehkikdmckldaaGreatDoor.L9.VP

namespace Go.Proofs.YtpehkikdmckldaaGreatDoor.L9
open Go.RowKit
set_option linter.unusedVariables false
set_option linter.unusedSimpArgs false

/-- A box that begins with fields: a text, a place, and whether it is bad. -/
def FB (t : TypeId) (g : Nat) (s : ByteArray) (i : Nat) (b : Bool) (R : List Value) (w : World) : Prop := w.heap[g]? = some (.cells (.string s :: .int .i64 i :: .bool b :: R).toArray t (0, 0))
section
variable {t : TypeId} {g : Nat} {s : ByteArray} {i : Nat} {b : Bool} {R : List Value} {w w' : World}
theorem FB.cells (k : FB t g s i b R w) : w.cell? ⟨g, 0, none⟩ = some (.string s) ∧ w.cell? ⟨g, 1, none⟩ = some (.int .i64 i) ∧ w.cell? ⟨g, 2, none⟩ = some (.bool b) := by
  unfold FB at k
  refine ⟨?_, ?_, ?_⟩ <;> simp [World.cell?, k]
theorem FB.free (k : FB t g s i b R w) (j : Nat) : w.frozen? ⟨g, j, none⟩ = false := by
  unfold FB at k
  simp [World.frozen?, k]
theorem FB.lt (k : FB t g s i b R w) : g < w.heap.size := (Array.getElem?_eq_some_iff.1 k).1
theorem FB.below (k : FB t g s i b R w) (h : Below w.heap.size w w') : FB t g s i b R w' := (h.block g k.lt).trans k
theorem FB.setAt (k : FB t g s i b R w) (j : Nat) : FB t g s j b R (w.setCell ⟨g, 1, none⟩ (.int .i64 j)) := by
  have h := heap_setCell_same w g 1 _ _ (.int .i64 j) k
  unfold FB
  simpa using h
theorem FB.setBad (k : FB t g s i b R w) : FB t g s i true R (w.setCell ⟨g, 2, none⟩ (.bool true)) := by
  have h := heap_setCell_same w g 2 _ _ (.bool true) k
  unfold FB
  simpa using h
theorem FB.base (k : FB t g s i b R w) (h : Below w.heap.size w w') : Below g w w' := h.mono (Nat.le_of_lt k.lt)
theorem fbKeep (t : TypeId) (g : Nat) (s : ByteArray) (i : Nat) (b : Bool) (R : List Value) : Hid (∀ W W' : World, Below W.heap.size W W' → (Hid (FB t g s i b R W) ∧ W.cell? ⟨g, 0, none⟩ = some (.string s) ∧ W.cell? ⟨g, 1, none⟩ = some (.int .i64 i)) → Hid (FB t g s i b R W') ∧ W'.cell? ⟨g, 0, none⟩ = some (.string s) ∧ W'.cell? ⟨g, 1, none⟩ = some (.int .i64 i)) :=
  Lib.hid fun W W' hb h => ⟨Lib.hid (h.1.out.below hb), (h.1.out.below hb).cells.1, (h.1.out.below hb).cells.2.1⟩
end

set_option maxHeartbeats 1000000 in
set_option maxRecDepth 100000 in
theorem number_any (t : TypeId) (g : Nat) (s : ByteArray) (i : Nat) (b : Bool) (R : List Value) (w : World) (k : Hid (FB t g s i b R w)) (hi : i ≤ s.size) (hs : s.size ≤ 1000000) (n j : Nat) (c : Bool) (hn : VP.numF s.data.toList i b = (n, j, c)) :
    Calls Tryz.prog 135 #[.pointer (some ⟨g, 0, none⟩)] w fun e w' => e = .returned (.int .i64 n) ∧ Hid (FB t g s j c R w') ∧ Below g w w' := by
  have HG := Lib.hid (fun W => get_any s (i : Int) W (by omega) (by omega) (by unfold maxLen; omega))
  rw [Int.toNat_natCast] at HG
  have hsp := WP.get_spec s.data.toList i
  have hKeep := fbKeep t g s i b R
  obtain ⟨c0, c1, c2⟩ := k.out.cells
  have hS0 : Hid (FB t g s i b R w) ∧ w.cell? ⟨g, 0, none⟩ = some (.string s) ∧ w.cell? ⟨g, 1, none⟩ = some (.int .i64 i) := ⟨k, c0, c1⟩
  unfold VP.numF at hn
  obtain ⟨m, to, er, hg⟩ := VP.triple (WP.get s.data.toList i)
  simp only [hg] at HG hsp hn
  have hcase : (((er = 7 ∨ er = 3) ∧ m = 0 ∧ to = 0) ∧ n = 0 ∧ j = i ∧ c = true) ∨ (er = 0 ∧ 4096 < m ∧ m ≤ 18446744073709551615 ∧ n = 0 ∧ j = i ∧ c = true) ∨ (er = 0 ∧ m ≤ 4096 ∧ n = m ∧ j = to ∧ c = b) := by
    have hm : m ≤ 18446744073709551615 := by
      rcases hsp with e | e | ⟨_, _, e, _, _, _, h⟩ <;> (simp only [Prod.mk.injEq] at e; omega)
    split at hn
    · rename_i h
      simp only [Prod.mk.injEq] at hn
      exact .inr (.inr ⟨h.1, h.2, hn.1.symm, hn.2.1.symm, hn.2.2.symm⟩)
    · rename_i h
      simp only [Prod.mk.injEq] at hn
      by_cases h0 : er = 0
      · exact .inr (.inl ⟨h0, Nat.lt_of_not_le fun h1 => h ⟨h0, h1⟩, hm, hn.1.symm, hn.2.1.symm, hn.2.2.symm⟩)
      · refine .inl ⟨?_, hn.1.symm, hn.2.1.symm, hn.2.2.symm⟩
        rcases hsp with e | e | ⟨_, _, e, _⟩ <;> (simp only [Prod.mk.injEq] at e; omega)
  clear hsp hn hg
  go_enter Tryz.func135, Tryz.ntmps135
  go_wp2_with fail
  go_region_held3 (fun Z => Hid (FB t g s i b R Z) ∧ Z.cell? ⟨g, 0, none⟩ = some (.string s) ∧ Z.cell? ⟨g, 1, none⟩ = some (.int .i64 i))
    (first | assumption | exact hS0 | exact hKeep.out _ _ (by assumption) (by assumption))
    (first
      | (go_at_call 109; refine (HG.out _).mono ?_; rintro e w1 ⟨rfl, hb1⟩)
      | fail "no arm")
  have hb := below_of_drew hb1
  have K1 := Lib.hid (k.out.below hb)
  have HB := Lib.hid (k.out.base hb)
  obtain ⟨d0, d1, d2⟩ := K1.out.cells
  have f1 := K1.out.free 1
  have f2 := K1.out.free 2
  clear hb hb1 hS0 hKeep HG c0 c1 c2 hi hs k
  rcases hcase with ⟨⟨rfl | rfl, rfl, rfl⟩, rfl, rfl, rfl⟩ | ⟨rfl, h1, h2, rfl, rfl, rfl⟩ | ⟨rfl, h1, rfl, rfl, rfl⟩
  · go_wp2_with fail
    go_ret
    exact ⟨rfl, Lib.hid K1.out.setBad, HB.out.setCell (p := ⟨g, 2, none⟩) (Nat.le_refl _) _⟩
  · go_wp2_with fail
    go_ret
    exact ⟨rfl, Lib.hid K1.out.setBad, HB.out.setCell (p := ⟨g, 2, none⟩) (Nat.le_refl _) _⟩
  · have d3 : decide (((m : Nat) : Int) > 4096) = true := decide_eq_true (by omega)
    have d4 : decide ((4096 : Int) < (m : Nat)) = true := decide_eq_true (by omega)
    clear h1 h2
    go_wp2_with fail
    go_ret
    exact ⟨rfl, Lib.hid K1.out.setBad, HB.out.setCell (p := ⟨g, 2, none⟩) (Nat.le_refl _) _⟩
  · have d4 : decide ((4096 : Int) < (n : Nat)) = false := decide_eq_false (by omega)
    have q : IntKind.i64.wrap (n : Int) = n := IntWalk.i64_in _ (by omega)
    clear h1
    go_wp2_with fail
    go_ret
    exact ⟨rfl, Lib.hid (K1.out.setAt j), HB.out.setCell (p := ⟨g, 1, none⟩) (Nat.le_refl _) _⟩

set_option maxHeartbeats 1000000 in
set_option maxRecDepth 100000 in
theorem four_of (t : TypeId) (g : Nat) (s : ByteArray) (i : Nat) (b : Bool) (R : List Value) (w : World) (k : Hid (FB t g s i b R w)) (hi : i ≤ s.size) (hs : s.size ≤ 1000000) (n j : Nat) (c : Bool) (hn : VP.fourF s.data.toList i b = (n, j, c)) :
    Calls Tryz.prog 136 #[.pointer (some ⟨g, 0, none⟩)] w fun e w' => e = .returned (.int .i64 n) ∧ Hid (FB t g s j c R w') ∧ Below g w w' := by
  have hKeep := fbKeep t g s i b R
  obtain ⟨c0, c1, c2⟩ := k.out.cells
  have f1 := k.out.free 1
  have f2 := k.out.free 2
  have hts : s.data.toList.length = s.size := by simp
  unfold VP.fourF at hn
  rw [hts] at hn
  have HB := Lib.hid (Below.refl g w)
  by_cases h : i + 4 ≤ s.size
  · rw [if_pos h] at hn
    have HG := Lib.hid (fun W => read_any s (i : Int) W (by omega) (by omega) (by unfold maxLen; omega))
    rw [Int.toNat_natCast] at HG
    have hle := WP.leNat_four (s.data.toList.drop i)
    generalize Lib.leNat ((s.data.toList.drop i).take 4) = m at *
    simp only [Prod.mk.injEq] at hn
    obtain ⟨rfl, hj, rfl⟩ := hn
    have q1 : IntKind.i64.wrap ((i : Int) + 4) = j := by rw [show (i : Int) + 4 = j by omega]; exact IntWalk.i64_in _ (by omega)
    have q2 : IntKind.i64.wrap (m : Int) = m := IntWalk.i64_in _ (by omega)
    clear h hts hi hs hle hj
    go_enter Tryz.func136, Tryz.ntmps136
    go_wp2_with fail
    go_quiet ((go_at_call 129; exact quiet_of_eq (HG.out _)))
    go_wp2_with fail
    go_ret
    exact ⟨rfl, Lib.hid (k.out.setAt j), (below_drewN HB.out nq).setCell (p := ⟨g, 1, none⟩) (Nat.le_refl _) _⟩
  · rw [if_neg h] at hn
    have HG := Lib.hid (fun W => read_short s (i : Int) W (by omega) (by omega) (by omega))
    simp only [Prod.mk.injEq] at hn
    obtain ⟨rfl, rfl, rfl⟩ := hn
    clear h hts hi hs
    go_enter Tryz.func136, Tryz.ntmps136
    go_wp2_with fail
    go_quiet ((go_at_call 129; exact quiet_of_eq (HG.out _)))
    go_wp2_with fail
    go_ret
    exact ⟨rfl, Lib.hid k.out.setBad, (below_drewN HB.out nq).setCell (p := ⟨g, 2, none⟩) (Nat.le_refl _) _⟩

set_option maxHeartbeats 1000000 in
set_option maxRecDepth 100000 in
theorem take_any (t : TypeId) (g : Nat) (s : ByteArray) (i : Nat) (b : Bool) (R : List Value) (w : World) (k : Hid (FB t g s i b R w)) (n : Nat) (hi : i ≤ s.size) (hs : s.size ≤ 1000000) (hn4 : n ≤ 4096) (T : List UInt8) (j : Nat) (c : Bool) (hn : VP.takeF s.data.toList i b n = (T, j, c)) :
    Calls Tryz.prog 137 #[.pointer (some ⟨g, 0, none⟩), .int .i64 n] w fun e w' => e = .returned (.string ⟨T.toArray⟩) ∧ Hid (FB t g s j c R w') ∧ Below g w w' := by
  obtain ⟨c0, c1, c2⟩ := k.out.cells
  have f1 := k.out.free 1
  have f2 := k.out.free 2
  have hts : s.data.toList.length = s.size := by simp
  unfold VP.takeF at hn
  rw [hts] at hn
  have HB := Lib.hid (Below.refl g w)
  obtain ⟨r, hr⟩ : ∃ r, s.size - i = r := ⟨_, rfl⟩
  have q0 : IntKind.i64.wrap ((s.size : Int) - i) = r := by rw [show (s.size : Int) - i = r by omega]; exact IntWalk.i64_in _ (by omega)
  by_cases h : i + n ≤ s.size
  · rw [if_pos h] at hn
    simp only [Prod.mk.injEq] at hn
    obtain ⟨rfl, hj, rfl⟩ := hn
    have q1 : IntKind.i64.wrap ((i : Int) + n) = j := by rw [show (i : Int) + n = j by omega]; exact IntWalk.i64_in _ (by omega)
    have d1 : decide ((r : Int) < n) = false := decide_eq_false (by omega)
    have d2 : decide (r < n) = false := decide_eq_false (by omega)
    have he := extract_list s i n
    rw [hj] at he
    rw [he]
    have j1 : (0 : Int) ≤ i := by omega
    have j2 : (i : Int) ≤ j := by omega
    have j3 : (j : Int) ≤ s.size := by omega
    have j4 : i ≤ j := by omega
    have j5 : j ≤ s.size := by omega
    have HC := Lib.hid (fun W => clone_any (s.extract i j) W (by simp; omega))
    have hKeep := fbKeep t g s j b R
    clear h hts he hj hr hs hn4 hi
    go_enter Tryz.func137, Tryz.ntmps137
    go_wp2_with fail
    go_quiet (fail)
    go_wp2_with fail
    have K1 : Hid (FB t g s j b R ((w.drewN nq).setCell ⟨g, 1, none⟩ (.int .i64 j))) := Lib.hid (FB.setAt (w := w.drewN nq) k.out j)
    have HB1 := Lib.hid ((below_drewN HB.out nq).setCell (p := ⟨g, 1, none⟩) (Nat.le_refl _) (.int .i64 j))
    generalize (w.drewN nq).setCell ⟨g, 1, none⟩ (.int .i64 j) = w1 at *
    obtain ⟨e0, e1, e2⟩ := K1.out.cells
    have hS0 : Hid (FB t g s j b R w1) ∧ w1.cell? ⟨g, 0, none⟩ = some (.string s) ∧ w1.cell? ⟨g, 1, none⟩ = some (.int .i64 j) := ⟨K1, e0, e1⟩
    clear c0 c1 c2 f1 f2 k HB
    go_region_held3 (fun Z => Hid (FB t g s j b R Z) ∧ Z.cell? ⟨g, 0, none⟩ = some (.string s) ∧ Z.cell? ⟨g, 1, none⟩ = some (.int .i64 j))
      (first | assumption | exact hS0 | exact hKeep.out _ _ (by assumption) (by assumption))
      (first
        | (go_at_call 44; refine (HC.out _).mono ?_; rintro e w2 ⟨rfl, hb2⟩)
        | fail "no arm")
    have hb := below_of_drew hb2
    go_wp2_with fail
    go_ret
    exact ⟨rfl, Lib.hid (K1.out.below hb), HB1.out.trans (K1.out.base hb)⟩
  · rw [if_neg h] at hn
    simp only [Prod.mk.injEq] at hn
    obtain ⟨rfl, rfl, rfl⟩ := hn
    have d1 : decide ((r : Int) < n) = true := decide_eq_true (by omega)
    have d2 : decide (r < n) = true := decide_eq_true (by omega)
    clear h hts hr hs hn4 hi
    go_enter Tryz.func137, Tryz.ntmps137
    go_wp2_with fail
    go_quiet (fail)
    go_wp2_with fail
    go_ret
    exact ⟨rfl, Lib.hid k.out.setBad, (below_drewN HB.out nq).setCell (p := ⟨g, 2, none⟩) (Nat.le_refl _) _⟩

theorem tripleL (x : List UInt8 × Nat × Bool) : ∃ a b c, x = (a, b, c) := ⟨_, _, _, rfl⟩
set_option maxHeartbeats 1000000 in
set_option maxRecDepth 100000 in
theorem text_of (t : TypeId) (g : Nat) (s : ByteArray) (i : Nat) (b : Bool) (R : List Value) (w : World) (k : Hid (FB t g s i b R w)) (hi : i ≤ s.size) (hs : s.size ≤ 1000000) (T : List UInt8) (j : Nat) (c : Bool) (hn : VP.textF s.data.toList i b = (T, j, c)) :
    Calls Tryz.prog 133 #[.pointer (some ⟨g, 0, none⟩)] w fun e w' => e = .returned (.string ⟨T.toArray⟩) ∧ Hid (FB t g s j c R w') ∧ Below g w w' := by
  have hts : s.data.toList.length = s.size := by simp
  unfold VP.textF at hn
  have hb := VP.num_at (l := s.data.toList) (b := b) (by rw [hts]; exact hi)
  obtain ⟨n, j1, c1, e1⟩ := VP.triple (VP.numF s.data.toList i b)
  rw [e1] at hn hb
  simp only at hn hb
  rw [hts] at hb
  have HN := Lib.hid (number_any t g s i b R w k hi hs n j1 c1 e1)
  have HT := Lib.hid (fun W (k : Hid (FB t g s j1 c1 R W)) => take_any t g s j1 c1 R W k n hb.1 hs hb.2.1 T j c hn)
  clear hn hb e1 hts hi hs k
  go_enter Tryz.func133, Tryz.ntmps133
  go_wp2_with fail
  refine HN.out.mono ?_
  rintro e w1 ⟨rfl, k1, hb1⟩
  go_wp2_with fail
  refine (HT.out _ k1).mono ?_
  rintro e w2 ⟨rfl, k2, hb2⟩
  go_wp2_with fail
  go_ret
  exact ⟨rfl, k2, hb1.trans hb2⟩

set_option maxHeartbeats 1000000 in
set_option maxRecDepth 100000 in
theorem mark_of (t : TypeId) (g : Nat) (s : ByteArray) (i : Nat) (b : Bool) (R : List Value) (w : World) (k : Hid (FB t g s i b R w)) (hi : i ≤ s.size) (hs : s.size ≤ 1000000) (m : UInt8) (j : Nat) (c : Bool) (hn : VP.markF s.data.toList i b = (m, j, c)) :
    Calls Tryz.prog 134 #[.pointer (some ⟨g, 0, none⟩)] w fun e w' => e = .returned (.int .u8 m.toNat) ∧ Hid (FB t g s j c R w') ∧ Below g w w' := by
  unfold VP.markF at hn
  obtain ⟨T, j1, c1, e1⟩ := tripleL (VP.takeF s.data.toList i b 1)
  rw [e1] at hn
  simp only [Prod.mk.injEq] at hn
  obtain ⟨hm, rfl, rfl⟩ := hn
  have HT := Lib.hid (take_any t g s i b R w k 1 hi hs (by decide) T j1 c1 e1)
  cases c1 with
  | true =>
    simp only [if_true] at hm
    subst hm
    clear e1 hi hs k
    go_enter Tryz.func134, Tryz.ntmps134
    go_wp2_with fail
    refine HT.out.mono ?_
    rintro e w1 ⟨rfl, k1, hb1⟩
    obtain ⟨c0, c1, c2⟩ := k1.out.cells
    go_wp2_with fail
    go_ret
    exact ⟨rfl, k1, hb1⟩
  | false =>
    obtain ⟨_, hl, _⟩ := VP.take_good e1
    match T, hl with
    | [x], _ =>
      simp at hm
      subst hm
      have hz : (⟨#[x]⟩ : ByteArray).size = 1 := rfl
      clear e1 hi hs k
      go_enter Tryz.func134, Tryz.ntmps134
      go_wp2_with fail
      refine HT.out.mono ?_
      rintro e w1 ⟨rfl, k1, hb1⟩
      obtain ⟨c0, c1, c2⟩ := k1.out.cells
      go_wp2_with fail
      go_ret
      exact ⟨rfl, k1, hb1⟩

set_option maxHeartbeats 1000000 in
set_option maxRecDepth 100000 in
theorem whole_any (t : TypeId) (g : Nat) (s : ByteArray) (i : Nat) (b : Bool) (R : List Value) (w : World) (k : Hid (FB t g s i b R w)) (hi : i ≤ s.size) (hs : s.size ≤ 1000000) :
    Calls Tryz.prog 112 #[.pointer (some ⟨g, 0, none⟩)] w fun e w' => e = .returned (.bool (decide ((i, b) = (s.data.toList.length, false)))) ∧ Hid (FB t g s i b R w') ∧ Below g w w' := by
  have hts : s.data.toList.length = s.size := by simp
  obtain ⟨c0, c1, c2⟩ := k.out.cells
  have HB := Lib.hid (Below.refl g w)
  rw [hts]
  clear hts
  cases b with
  | true =>
    have e : decide ((i, true) = (s.size, false)) = false := decide_eq_false (by simp)
    rw [e]
    clear e hi hs
    go_enter Tryz.func112, Tryz.ntmps112
    go_wp2_with fail
    go_quiet (fail)
    go_wp2_with fail
    go_ret
    exact ⟨rfl, k, below_drewN HB.out nq⟩
  | false =>
    have e : decide ((i, false) = (s.size, false)) = ((i : Int) == s.size) := by
      by_cases h : i = s.size
      · rw [decide_eq_true (by rw [h]), h]; simp
      · rw [decide_eq_false (by simp [h])]; exact (beq_eq_false_iff_ne.2 (by omega)).symm
    rw [e]
    clear e hi hs
    go_enter Tryz.func112, Tryz.ntmps112
    go_wp2_with fail
    go_quiet (fail)
    go_wp2_with fail
    go_ret
    exact ⟨rfl, k, below_drewN HB.out nq⟩
end Go.Proofs.YtpehkikdmckldaaGreatDoor.L9

namespace Go.Proofs.YtpehkikdmckldaaGreatDoor.L9
open Go.RowKit
set_option linter.unusedVariables false
set_option linter.unusedSimpArgs false

section
variable {t : TypeId} {g : Nat} {s : ByteArray} {i : Nat} {b : Bool} {R : List Value} {w w' : World}
theorem FB.cellR (k : FB t g s i b R w) (m : Nat) : w.cell? ⟨g, m + 3, none⟩ = R[m]? := by
  unfold FB at k
  simp [World.cell?, k]
theorem FB.setR (k : FB t g s i b R w) (m : Nat) (v : Value) : FB t g s i b (R.set m v) (w.setCell ⟨g, m + 3, none⟩ v) := by
  have h := heap_setCell_same w g (m + 3) _ _ v k
  unfold FB
  simpa using h
end
/-- What stands behind the fields of a value's cell. -/
abbrev vr (T : ByteArray) (O : Bool) (S : ByteArray) (L P : Int) : List Value := [.string T, .bool O, .string S, .int .i64 L, .int .i64 P]
theorem FB.cells5 {t : TypeId} {g : Nat} {s : ByteArray} {i : Nat} {b : Bool} {w : World} {T S : ByteArray} {O : Bool} {L P : Int} (k : FB t g s i b (vr T O S L P) w) :
    w.cell? ⟨g, 3, none⟩ = some (.string T) ∧ w.cell? ⟨g, 4, none⟩ = some (.bool O) ∧ w.cell? ⟨g, 5, none⟩ = some (.string S) ∧ w.cell? ⟨g, 6, none⟩ = some (.int .i64 L) ∧ w.cell? ⟨g, 7, none⟩ = some (.int .i64 P) :=
  ⟨k.cellR 0, k.cellR 1, k.cellR 2, k.cellR 3, k.cellR 4⟩

set_option maxHeartbeats 2000000 in
set_option maxRecDepth 100000 in
theorem vread_any (t : TypeId) (g : Nat) (s : ByteArray) (w : World) (k : Hid (FB t g s 0 false (vr ⟨#[]⟩ false ⟨#[]⟩ 0 0) w)) (hs : s.size ≤ 1000000) (T : List UInt8) (v : VP.V) (j : Nat) (c : Bool) (hn : VP.readV s.data.toList = ((T, v), j, c)) :
    Calls Tryz.prog 111 #[.pointer (some ⟨g, 0, none⟩)] w fun e w' => e = .returned (.tuple #[]) ∧ Hid (FB t g s j c (vr ⟨T.toArray⟩ v.over ⟨v.s.toArray⟩ v.len v.page) w') ∧ Below g w w' := by
  have hts : s.data.toList.length = s.size := by simp
  unfold VP.readV at hn
  have b1 := VP.text_at (l := s.data.toList) (i := 0) (b := false) (Nat.zero_le _)
  obtain ⟨T1, i1, c1, e1⟩ := tripleL (VP.textF s.data.toList 0 false)
  simp only [e1] at hn b1
  have b2 := VP.mark_at (l := s.data.toList) (i := i1) (b := c1) b1
  obtain ⟨m, i2, c2, e2⟩ := VP.triple (VP.markF s.data.toList i1 c1)
  simp only [e2] at hn b2
  have b3 := VP.num_at (l := s.data.toList) (i := i2) (b := c2) b2
  obtain ⟨n, i3, c3, e3⟩ := VP.triple (VP.numF s.data.toList i2 c2)
  simp only [e3] at hn b3
  rw [hts] at b1 b2 b3
  have HT := Lib.hid (text_of t g s 0 false (vr ⟨#[]⟩ false ⟨#[]⟩ 0 0) w k (Nat.zero_le _) hs T1 i1 c1 e1)
  have HM := Lib.hid (fun R W (k : Hid (FB t g s i1 c1 R W)) => mark_of t g s i1 c1 R W k b1 hs m i2 c2 e2)
  have HN := Lib.hid (fun R W (k : Hid (FB t g s i2 c2 R W)) => number_any t g s i2 c2 R W k b2 hs n i3 c3 e3)
  have bn := b3.2.1
  obtain ⟨q, hq⟩ : ∃ q, m.toNat = q := ⟨_, rfl⟩
  rw [hq] at HM
  by_cases h1 : m = 1
  · subst h1
    obtain rfl : 1 = q := hq
    obtain ⟨p, i4, c4, e4⟩ := VP.triple (VP.fourF s.data.toList i3 c3)
    simp only [e4, if_true, Prod.mk.injEq] at hn
    obtain ⟨⟨rfl, rfl⟩, rfl, rfl⟩ := hn
    have HF := Lib.hid (fun R W (k : Hid (FB t g s i3 c3 R W)) => four_of t g s i3 c3 R W k b3.1 hs p i4 c4 e4)
    clear e1 e2 e3 e4 b1 b2 b3 hts k hs
    go_enter Tryz.func111, Tryz.ntmps111
    go_wp2_with fail
    refine HT.out.mono ?_
    rintro e w1 ⟨rfl, k1, hb1⟩
    have x3 := k1.out.cells5.1
    have f3 := k1.out.free 3
    have HB1 := Lib.hid (hb1.setCell (p := ⟨g, 3, none⟩) (Nat.le_refl _) (.string ⟨T1.toArray⟩))
    have K1 : Hid (FB t g s i1 c1 (vr ⟨T1.toArray⟩ false ⟨#[]⟩ 0 0) (w1.setCell ⟨g, 3, none⟩ (.string ⟨T1.toArray⟩))) := Lib.hid (k1.out.setR 0 _)
    clear hb1 k1
    go_wp2_with fail
    generalize w1.setCell ⟨g, 3, none⟩ (.string ⟨T1.toArray⟩) = v1 at *
    refine (HM.out _ _ K1).mono ?_
    rintro e w2 ⟨rfl, k2, hb2⟩
    have x4 := k2.out.cells5.2.1
    have f4 := k2.out.free 4
    have HB2 := Lib.hid ((HB1.out.trans hb2).setCell (p := ⟨g, 4, none⟩) (Nat.le_refl _) (.bool true))
    have K2 : Hid (FB t g s i2 c2 (vr ⟨T1.toArray⟩ true ⟨#[]⟩ 0 0) (w2.setCell ⟨g, 4, none⟩ (.bool true))) := Lib.hid (k2.out.setR 1 _)
    clear hb2 k2 HB1 K1
    go_wp2_with fail
    generalize w2.setCell ⟨g, 4, none⟩ (.bool true) = v2 at *
    refine (HN.out _ _ K2).mono ?_
    rintro e w3 ⟨rfl, k3, hb3⟩
    have HB3 := Lib.hid (HB2.out.trans hb3)
    have y4 := k3.out.cells5.2.1
    clear hb3 HB2 K2
    go_wp2_with fail
    refine (HF.out _ _ k3).mono ?_
    rintro e w4 ⟨rfl, k4, hb4⟩
    obtain ⟨_, _, _, x6, x7⟩ := k4.out.cells5
    have f6 := k4.out.free 6
    have f7 := k4.out.free 7
    have HB4 := Lib.hid (HB3.out.trans hb4)
    clear hb4 HB3 k3
    go_wp2_with fail
    refine bodyPost_ret (results_none rfl _ _ _) rfl ?_
    exact ⟨rfl, Lib.hid ((k4.out.setR 3 (.int .i64 n)).setR 4 (.int .i64 p)), (HB4.out.setCell (p := ⟨g, 6, none⟩) (Nat.le_refl _) _).setCell (p := ⟨g, 7, none⟩) (Nat.le_refl _) _⟩
  · have hq1 : q ≠ 1 := fun e => h1 (UInt8.toNat_inj.1 (by rw [hq, e]; rfl))
    have z1 : ((q : Int) == 1) = false := beq_eq_false_iff_ne.2 (by omega)
    have z1n : (q == 1) = false := beq_eq_false_iff_ne.2 hq1
    rw [if_neg h1] at hn
    by_cases h0 : m = 0
    · subst h0
      obtain rfl : 0 = q := hq
      obtain ⟨u, i4, c4, e4⟩ := tripleL (VP.takeF s.data.toList i3 c3 n)
      simp only [e4, if_true, Prod.mk.injEq] at hn
      obtain ⟨⟨rfl, rfl⟩, rfl, rfl⟩ := hn
      have HF := Lib.hid (fun R W (k : Hid (FB t g s i3 c3 R W)) => take_any t g s i3 c3 R W k n b3.1 hs bn u i4 c4 e4)
      clear e1 e2 e3 e4 b1 b2 b3 hts k hs h1 hq1 z1 z1n bn
      go_enter Tryz.func111, Tryz.ntmps111
      go_wp2_with fail
      refine HT.out.mono ?_
      rintro e w1 ⟨rfl, k1, hb1⟩
      have x3 := k1.out.cells5.1
      have f3 := k1.out.free 3
      have HB1 := Lib.hid (hb1.setCell (p := ⟨g, 3, none⟩) (Nat.le_refl _) (.string ⟨T1.toArray⟩))
      have K1 : Hid (FB t g s i1 c1 (vr ⟨T1.toArray⟩ false ⟨#[]⟩ 0 0) (w1.setCell ⟨g, 3, none⟩ (.string ⟨T1.toArray⟩))) := Lib.hid (k1.out.setR 0 _)
      clear hb1 k1
      go_wp2_with fail
      generalize w1.setCell ⟨g, 3, none⟩ (.string ⟨T1.toArray⟩) = v1 at *
      refine (HM.out _ _ K1).mono ?_
      rintro e w2 ⟨rfl, K2, hb2⟩
      have HB2 := Lib.hid (HB1.out.trans hb2)
      clear hb2 HB1 K1
      go_wp2_with fail
      refine (HN.out _ _ K2).mono ?_
      rintro e w3 ⟨rfl, k3, hb3⟩
      have HB3 := Lib.hid (HB2.out.trans hb3)
      have y4 := k3.out.cells5.2.1
      clear hb3 HB2 K2
      go_wp2_with fail
      refine (HF.out _ _ k3).mono ?_
      rintro e w4 ⟨rfl, k4, hb4⟩
      obtain ⟨_, _, x5, _, _⟩ := k4.out.cells5
      have f5 := k4.out.free 5
      have HB4 := Lib.hid (HB3.out.trans hb4)
      clear hb4 HB3 k3
      go_wp2_with fail
      go_end0
      exact ⟨rfl, Lib.hid (k4.out.setR 2 (.string ⟨u.toArray⟩)), HB4.out.setCell (p := ⟨g, 5, none⟩) (Nat.le_refl _) _⟩
    · have hq0 : q ≠ 0 := fun e => h0 (UInt8.toNat_inj.1 (by rw [hq, e]; rfl))
      have z0 : ((q : Int) == 0) = false := beq_eq_false_iff_ne.2 (by omega)
      have z0n : (q == 0) = false := beq_eq_false_iff_ne.2 hq0
      rw [if_neg h0] at hn
      obtain ⟨u, i4, c4, e4⟩ := tripleL (VP.takeF s.data.toList i2 true 0)
      simp only [e4, Prod.mk.injEq] at hn
      obtain ⟨⟨rfl, rfl⟩, rfl, rfl⟩ := hn
      have HF := Lib.hid (fun R W (k : Hid (FB t g s i2 true R W)) => take_any t g s i2 true R W k 0 b2 hs (by decide) u i4 c4 e4)
      clear e1 e2 e3 e4 b1 b2 b3 hts k hs bn hq h1 h0
      go_enter Tryz.func111, Tryz.ntmps111
      go_wp2_with fail
      refine HT.out.mono ?_
      rintro e w1 ⟨rfl, k1, hb1⟩
      have x3 := k1.out.cells5.1
      have f3 := k1.out.free 3
      have HB1 := Lib.hid (hb1.setCell (p := ⟨g, 3, none⟩) (Nat.le_refl _) (.string ⟨T1.toArray⟩))
      have K1 : Hid (FB t g s i1 c1 (vr ⟨T1.toArray⟩ false ⟨#[]⟩ 0 0) (w1.setCell ⟨g, 3, none⟩ (.string ⟨T1.toArray⟩))) := Lib.hid (k1.out.setR 0 _)
      clear hb1 k1
      go_wp2_with fail
      generalize w1.setCell ⟨g, 3, none⟩ (.string ⟨T1.toArray⟩) = v1 at *
      refine (HM.out _ _ K1).mono ?_
      rintro e w2 ⟨rfl, K2, hb2⟩
      have HB2 := Lib.hid (HB1.out.trans hb2)
      clear hb2 HB1 K1
      have K3 := Lib.hid K2.out.setBad
      have HB3 := Lib.hid (HB2.out.setCell (p := ⟨g, 2, none⟩) (Nat.le_refl _) (.bool true))
      have y2 := K2.out.cells.2.2
      have f2 := K2.out.free 2
      have y4 := K2.out.cells5.2.1
      go_wp2_with fail
      generalize w2.setCell ⟨g, 2, none⟩ (.bool true) = v2 at *
      refine (HF.out _ _ K3).mono ?_
      rintro e w4 ⟨rfl, k4, hb4⟩
      obtain ⟨_, _, x5, _, _⟩ := k4.out.cells5
      have f5 := k4.out.free 5
      have HB4 := Lib.hid (HB3.out.trans hb4)
      clear hb4 HB3 K3 y2 f2 y4
      go_wp2_with fail
      go_end0
      exact ⟨rfl, Lib.hid (k4.out.setR 2 (.string ⟨u.toArray⟩)), HB4.out.setCell (p := ⟨g, 5, none⟩) (Nat.le_refl _) _⟩

end Go.Proofs.YtpehkikdmckldaaGreatDoor.L9

namespace Go.Proofs.YtpehkikdmckldaaGreatDoor.L9
open Go.RowKit
set_option linter.unusedVariables false
set_option linter.unusedSimpArgs false

theorem suffix_any (t : ByteArray) (w : World) :
    Calls Tryz.prog 93 #[.string t] w fun e w' => e = .returned (.bool (decide (t.size ≤ 128))) ∧ w = w' := by
  have e : decide (t.size ≤ 128) = decide ((t.size : Int) ≤ 128) := by
    by_cases h : t.size ≤ 128
    · rw [decide_eq_true h, decide_eq_true (by omega)]
    · rw [decide_eq_false h, decide_eq_false (by omega)]
  rw [e]
  clear e
  go_enter Tryz.func93, Tryz.ntmps93
  go_wp2_with fail
  go_ret
  exact ⟨rfl, rfl⟩
theorem page_any (k : Int) (w : World) :
    Calls Tryz.prog 115 #[.int .i64 k] w fun e w' => e = .returned (.bool (decide (1 ≤ k ∧ k ≤ 4095))) ∧ w = w' := by
  rcases (show k < 1 ∨ (1 ≤ k ∧ k ≤ 4095) ∨ (1 ≤ k ∧ 4095 < k) by omega) with h | h | h
  · have e : decide (1 ≤ k ∧ k ≤ 4095) = false := decide_eq_false (by omega)
    have d1 : decide (1 ≤ k) = false := decide_eq_false (by omega)
    rw [e]
    go_enter Tryz.func115, Tryz.ntmps115
    go_wp2_with fail
    go_ret
    exact ⟨rfl, rfl⟩
  · have e : decide (1 ≤ k ∧ k ≤ 4095) = true := decide_eq_true h
    have d1 : decide (1 ≤ k) = true := decide_eq_true (by omega)
    have d2 : decide (k ≤ 4095) = true := decide_eq_true (by omega)
    rw [e]
    clear h e
    go_enter Tryz.func115, Tryz.ntmps115
    go_wp2_with fail
    go_ret
    exact ⟨rfl, rfl⟩
  · have e : decide (1 ≤ k ∧ k ≤ 4095) = false := decide_eq_false (by omega)
    have d1 : decide (1 ≤ k) = true := decide_eq_true (by omega)
    have d2 : decide (k ≤ 4095) = false := decide_eq_false (by omega)
    rw [e]
    clear h e
    go_enter Tryz.func115, Tryz.ntmps115
    go_wp2_with fail
    go_ret
    exact ⟨rfl, rfl⟩
theorem numberOf_any (n : Nat) (w : World) (h : n ≤ 1000000) :
    Calls Tryz.prog 95 #[.int .i64 n] w fun e w' => e = .returned (.string ⟨(WP.put n).toArray⟩) ∧ Below w.heap.size w w' := by
  have HP := Lib.hid (put_any (n : Int) w (by omega) (by omega))
  rw [Int.toNat_natCast] at HP
  have a1 : IntKind.u64.wrap (n : Int) = n := Int.emod_eq_of_lt (by omega) (by show (n : Int) < 18446744073709551616; omega)
  clear h
  go_enter Tryz.func95, Tryz.ntmps95
  go_wp2_with fail
  refine HP.out.mono ?_
  rintro e w1 ⟨rfl, hb1⟩
  go_wp2_with fail
  go_ret
  exact ⟨rfl, hb1⟩
theorem textOf_any (t : ByteArray) (w : World) (h : t.size ≤ 1000000) :
    Calls Tryz.prog 94 #[.string t] w fun e w' => e = .returned (.string (textS t)) ∧ Below w.heap.size w w' := by
  have HP := Lib.hid (numberOf_any t.size w h)
  have hE := wput_size t.size (by omega)
  have hC := textS_eq t t.size rfl
  obtain ⟨E, hEe⟩ : ∃ E : ByteArray, ⟨(WP.put t.size).toArray⟩ = E := ⟨_, rfl⟩
  rw [hEe] at HP hE hC
  rw [← hC]
  have b1 : ¬ 9223372036854775807 < E.size + t.size := by omega
  clear h hE hC hEe
  go_enter Tryz.func94, Tryz.ntmps94
  go_wp2_with fail
  refine HP.out.mono ?_
  rintro e w1 ⟨rfl, hb1⟩
  go_wp2_with fail
  go_ret
  exact ⟨rfl, hb1⟩

set_option maxHeartbeats 1000000 in
theorem right_any (O : Bool) (S : ByteArray) (L P : Int) (w : World) :
    Calls Tryz.prog 89 #[vv O S L P] w fun e w' => e = .returned (.bool (decide (VP.Right (pv O S L P)))) ∧ Below w.heap.size w w' := by
  have HP := Lib.hid (fun W => page_any P W)
  cases O with
  | true =>
    have he := empty_eq S
    have he2 : (S.toList == (⟨#[]⟩ : ByteArray).toList) = decide (S = ⟨#[]⟩) := by rw [Lib.toList_data ⟨#[]⟩]; exact he
    by_cases h0 : S = ⟨#[]⟩
    · rw [decide_eq_true h0] at he he2
      rcases (show L < 1 ∨ (1 ≤ L ∧ 4096 < L) ∨ (1 ≤ L ∧ L ≤ 4096) by omega) with h | h | h
      · have e : decide (VP.Right (pv true S L P)) = false := decide_eq_false (fun h' => by have := (right_over S L P).1 h'; omega)
        rw [e]
        have d1 : decide (1 ≤ L) = false := decide_eq_false (by omega)
        clear HP e
        go_enter Tryz.func89, Tryz.ntmps89
        go_wp2_with fail
        go_ret
        exact ⟨rfl, below_alloc _ _⟩
      · have e : decide (VP.Right (pv true S L P)) = false := decide_eq_false (fun h' => by have := (right_over S L P).1 h'; omega)
        rw [e]
        have d1 : decide (1 ≤ L) = true := decide_eq_true (by omega)
        have d2 : decide (L ≤ 4096) = false := decide_eq_false (by omega)
        clear HP e h
        go_enter Tryz.func89, Tryz.ntmps89
        go_wp2_with fail
        go_ret
        exact ⟨rfl, below_alloc _ _⟩
      · have e : decide (VP.Right (pv true S L P)) = decide (1 ≤ P ∧ P ≤ 4095) := by
          have hr := right_over S L P
          by_cases h' : 1 ≤ P ∧ P ≤ 4095
          · rw [decide_eq_true h', decide_eq_true (hr.2 ⟨h0, h.1, h.2, h'.1, h'.2⟩)]
          · rw [decide_eq_false h', decide_eq_false (fun h'' => h' ⟨(hr.1 h'').2.2.2.1, (hr.1 h'').2.2.2.2⟩)]
        rw [e]
        generalize decide (1 ≤ P ∧ P ≤ 4095) = q at *
        have d1 : decide (1 ≤ L) = true := decide_eq_true (by omega)
        have d2 : decide (L ≤ 4096) = true := decide_eq_true (by omega)
        clear e h
        go_enter Tryz.func89, Tryz.ntmps89
        go_wp2_with fail
        refine (HP.out _).mono ?_
        rintro e w1 ⟨rfl, rfl⟩
        go_wp2_with fail
        go_ret
        exact ⟨rfl, below_alloc _ _⟩
    · rw [decide_eq_false h0] at he he2
      have e : decide (VP.Right (pv true S L P)) = false := decide_eq_false (fun h' => h0 ((right_over S L P).1 h').1)
      rw [e]
      clear HP
      go_enter Tryz.func89, Tryz.ntmps89
      go_wp2_with fail
      go_ret
      exact ⟨rfl, below_alloc _ _⟩
  | false =>
    clear HP
    rcases (show 256 < S.size ∨ (S.size ≤ 256 ∧ L ≠ 0) ∨ (S.size ≤ 256 ∧ L = 0 ∧ P ≠ 0) ∨ (S.size ≤ 256 ∧ L = 0 ∧ P = 0) by omega) with h | h | h | h
    · have e : decide (VP.Right (pv false S L P)) = false := decide_eq_false (fun h' => by have := (right_text S L P).1 h'; omega)
      rw [e]
      have d1 : decide ((S.size : Int) ≤ 256) = false := decide_eq_false (by omega)
      have d2 : decide (S.size ≤ 256) = false := decide_eq_false (by omega)
      go_enter Tryz.func89, Tryz.ntmps89
      go_wp2_with fail
      go_ret
      exact ⟨rfl, below_alloc _ _⟩
    · have e : decide (VP.Right (pv false S L P)) = false := decide_eq_false (fun h' => by have := (right_text S L P).1 h'; omega)
      rw [e]
      have d1 : decide ((S.size : Int) ≤ 256) = true := decide_eq_true (by omega)
      have d2 : decide (S.size ≤ 256) = true := decide_eq_true (by omega)
      have d3 : (L == 0) = false := beq_eq_false_iff_ne.2 h.2
      go_enter Tryz.func89, Tryz.ntmps89
      go_wp2_with fail
      go_ret
      exact ⟨rfl, below_alloc _ _⟩
    · have e : decide (VP.Right (pv false S L P)) = false := decide_eq_false (fun h' => by have := (right_text S L P).1 h'; omega)
      rw [e]
      have d1 : decide ((S.size : Int) ≤ 256) = true := decide_eq_true (by omega)
      have d2 : decide (S.size ≤ 256) = true := decide_eq_true (by omega)
      obtain ⟨h1, rfl, h3⟩ := h
      have d3 : (P == 0) = false := beq_eq_false_iff_ne.2 h3
      go_enter Tryz.func89, Tryz.ntmps89
      go_wp2_with fail
      go_ret
      exact ⟨rfl, below_alloc _ _⟩
    · have e : decide (VP.Right (pv false S L P)) = true := decide_eq_true ((right_text S L P).2 h)
      rw [e]
      have d1 : decide ((S.size : Int) ≤ 256) = true := decide_eq_true (by omega)
      have d2 : decide (S.size ≤ 256) = true := decide_eq_true (by omega)
      obtain ⟨h1, rfl, rfl⟩ := h
      go_enter Tryz.func89, Tryz.ntmps89
      go_wp2_with fail
      go_ret
      exact ⟨rfl, below_alloc _ _⟩

end Go.Proofs.YtpehkikdmckldaaGreatDoor.L9

namespace Go.Proofs.YtpehkikdmckldaaGreatDoor.L9
open Go.RowKit
set_option linter.unusedVariables false
set_option linter.unusedSimpArgs false

theorem Bx.stay {t : TypeId} {g : Nat} {O : Bool} {S : ByteArray} {L P : Int} {w w' : World} (k : Bx t g O S L P w) (b : Below (g + 1) w w') : Bx t g O S L P w' := (b.block g (Nat.lt_succ_self _)).trans k
theorem toS (T : ByteArray) : (⟨T.data.toList.toArray⟩ : ByteArray) = T := ByteArray.ext (by simp)
theorem fb_new (t t0 : TypeId) (s : ByteArray) (R : List Value) (w : World) (o : Array Value) : FB t (w.heap.size + 1) s 0 false R ((w.alloc (.cells o t0)).alloc (.cells (.string s :: .int .i64 0 :: .bool false :: R).toArray t)) := by
  have h := heap_alloc_new (w.alloc (.cells o t0)) (.cells (.string s :: .int .i64 (0 : Nat) :: .bool false :: R).toArray t)
  have h2 : (w.alloc (.cells o t0)).heap.size = w.heap.size + 1 := by simp
  rw [h2] at h
  exact h
set_option maxHeartbeats 2000000 in
set_option maxRecDepth 100000 in
theorem getv_any (s : ByteArray) (w : World) (hs : s.size ≤ 1000000) :
    Calls Tryz.prog 79 #[.string s] w fun e w' => e = .returned (gotV (VP.getV s.data.toList)) ∧ Below w.heap.size w w' := by
  have hv := VP.getV_read s.data.toList
  obtain ⟨T', v, j, c, hr⟩ : ∃ T v j c, VP.readV s.data.toList = ((T, v), j, c) := ⟨_, _, _, _, rfl⟩
  obtain ⟨T, rfl⟩ := listS T'
  obtain ⟨O, S', L, P⟩ := v
  obtain ⟨S, rfl⟩ := listS S'
  rw [hr] at hv
  simp only at hv
  obtain ⟨A, hA⟩ : ∃ A, gotV (VP.getV s.data.toList) = A := ⟨_, rfl⟩
  rw [hA]
  rw [hv] at hA
  obtain ⟨n, hn⟩ : ∃ n, s.data.toList.length = n := ⟨_, rfl⟩
  have hT : T.data.toList.length = T.size := by simp
  have HREAD := Lib.hid (fun W k => vread_any 176 (w.heap.size + 1) s W k hs T.data.toList ⟨O, S.data.toList, L, P⟩ j c hr)
  simp only [toS] at HREAD
  have HWH := Lib.hid (fun R W k (hj : j ≤ s.size) => whole_any 176 (w.heap.size + 1) s j c R W k hj hs)
  rw [hn] at HWH hA
  have hj : j ≤ s.size := by
    have h := VP.readV_at s.data.toList
    rw [hr] at h
    simpa using h
  have HJ := Lib.hid hj
  have HK0 := Lib.hid (Bx.new 41 false ⟨#[]⟩ 0 0 w)
  have hb0 := below_alloc w (.cells #[.bool false, .string ⟨#[]⟩, .int .i64 0, .int .i64 0] 41)
  have hK0 : Bx 41 w.heap.size false ⟨#[]⟩ 0 0 ((w.alloc (.cells #[.bool false, .string ⟨#[]⟩, .int .i64 0, .int .i64 0] 41)).alloc (.cells #[.string s, .int .i64 0, .bool false, .string ⟨#[]⟩, .bool false, .string ⟨#[]⟩, .int .i64 0, .int .i64 0] 176)) := HK0.out.below (below_alloc _ _)
  have hbw := hb0.trans' (below_alloc (w.alloc (.cells #[.bool false, .string ⟨#[]⟩, .int .i64 0, .int .i64 0] 41)) (.cells #[.string s, .int .i64 0, .bool false, .string ⟨#[]⟩, .bool false, .string ⟨#[]⟩, .int .i64 0, .int .i64 0] 176))
  have hf := fb_new 176 41 s (vr ⟨#[]⟩ false ⟨#[]⟩ 0 0) w #[.bool false, .string ⟨#[]⟩, .int .i64 0, .int .i64 0]
  have HF := Lib.hid hf
  have HK := Lib.hid hK0
  have HBW := Lib.hid hbw
  clear hv hr hj HK0 hb0 hK0 hbw hf hs
  have HSU := Lib.hid (fun W => suffix_any T W)
  have HRI := Lib.hid (fun W => right_any O S L P W)
  have hdec : ((j, c) = (n, false) ∧ VP.OkV T.data.toList (pv O S L P) ∧ A = .tuple #[.string T, vv O S L P, .int .i64 0]) ∨ (A = .tuple #[.string ⟨#[]⟩, vv false ⟨#[]⟩ 0 0, .int .i64 3] ∧ ¬ ((j, c) = (n, false) ∧ T.size ≤ 128 ∧ VP.Right (pv O S L P))) := by
    by_cases h : (j, c) = (n, false) ∧ VP.OkV T.data.toList (pv O S L P)
    · refine .inl ⟨h.1, h.2, ?_⟩
      rw [← hA, if_pos h]
      simp only [gotV, toS]
    · refine .inr ⟨?_, fun h' => h ⟨h'.1, by rw [hT]; exact h'.2.1, h'.2.2⟩⟩
      rw [← hA, if_neg h]
      rfl
  clear hA hn
  -- read,
  go_enter Tryz.func79, Tryz.ntmps79
  go_wp2_with fail
  refine (HREAD.out _ HF).mono ?_
  rintro e w1 ⟨rfl, k1, hb1⟩
  have HK1 := Lib.hid (HK.out.stay hb1)
  have HB1 := Lib.hid (HBW.out.trans (hb1.mono (Nat.le_succ _)))
  clear HREAD HF HK HBW hb1
  go_wp2_with fail
  refine (HWH.out _ _ k1 HJ.out).mono ?_
  rintro e w2 ⟨rfl, k2, hb2⟩
  have HK2 := Lib.hid (HK1.out.stay hb2)
  have HB2 := Lib.hid (HB1.out.trans (hb2.mono (Nat.le_succ _)))
  clear HWH k1 HK1 HB1 hb2
  obtain ⟨z3, z4, z5, z6, z7⟩ := k2.out.cells5
  rcases hdec with ⟨h1, h2, rfl⟩ | ⟨rfl, h⟩
  · -- good
    rw [decide_eq_true (show T.size ≤ 128 by rw [← hT]; exact h2.1)] at HSU
    rw [decide_eq_true h2.2] at HRI
    rw [decide_eq_true h1]
    clear h1 h2 hT HJ
    go_wp2_with fail
    refine (HSU.out _).mono ?_
    rintro e w3 ⟨rfl, rfl⟩
    go_wp2_with fail
    refine (HRI.out _).mono ?_
    rintro e w4 ⟨rfl, hb4⟩
    obtain ⟨z3, z4, z5, z6, z7⟩ := (k2.out.below hb4).cells5
    have HK4 := Lib.hid (HK2.out.below hb4)
    have HB4 := Lib.hid (HB2.out.trans' hb4)
    obtain ⟨x0, x1, x2, x3⟩ := HK4.out.cells
    obtain ⟨y0, y1, y2, y3⟩ := HK4.out.free
    clear hb4 k2 HK2 HB2
    go_wp2_with fail
    go_region
    all_goals
      go_wp2_with fail
      obtain ⟨r0, r1, r2, r3⟩ := (set4_box HK4.out O S L P).cells
      unfold set4 at r0 r1 r2 r3
      refine bodyPost_ret (v := .tuple #[.string T, vv O S L P, .int .i64 0]) (by simp [results, Tryz.results79, go_sem, r0, r1, r2, r3]) rfl ⟨rfl, ?_⟩
      first | exact set4_below HB4.out (Nat.le_refl _) O S L P | exact (set4_below HB4.out (Nat.le_refl _) O S L P).drew
  · have hcase : (¬ (j, c) = (n, false)) ∨ ((j, c) = (n, false) ∧ ¬ T.size ≤ 128) ∨ ((j, c) = (n, false) ∧ T.size ≤ 128 ∧ ¬ VP.Right (pv O S L P)) := by
      by_cases h1 : (j, c) = (n, false)
      · by_cases h2 : T.size ≤ 128
        · exact .inr (.inr ⟨h1, h2, fun h3 => h ⟨h1, h2, h3⟩⟩)
        · exact .inr (.inl ⟨h1, h2⟩)
      · exact .inl h1
    clear h
    rcases hcase with h1 | ⟨h1, h2⟩ | ⟨h1, h2, h3⟩
    · rw [decide_eq_false h1]
      clear h1 HSU HRI hT HJ
      obtain ⟨x0, x1, x2, x3⟩ := HK2.out.cells
      obtain ⟨y0, y1, y2, y3⟩ := HK2.out.free
      go_wp2_with fail
      obtain ⟨r0, r1, r2, r3⟩ := (set4_box HK2.out false ⟨#[]⟩ 0 0).cells
      unfold set4 at r0 r1 r2 r3
      refine bodyPost_ret (v := .tuple #[.string ⟨#[]⟩, vv false ⟨#[]⟩ 0 0, .int .i64 3]) (by simp [results, Tryz.results79, go_sem, r0, r1, r2, r3]) rfl ⟨rfl, ?_⟩
      exact set4_below HB2.out (Nat.le_refl _) false ⟨#[]⟩ 0 0
    · rw [decide_eq_true h1]
      rw [decide_eq_false h2] at HSU
      clear h1 h2 HRI hT HJ
      obtain ⟨x0, x1, x2, x3⟩ := HK2.out.cells
      obtain ⟨y0, y1, y2, y3⟩ := HK2.out.free
      go_wp2_with fail
      refine (HSU.out _).mono ?_
      rintro e w3 ⟨rfl, rfl⟩
      go_wp2_with fail
      obtain ⟨r0, r1, r2, r3⟩ := (set4_box HK2.out false ⟨#[]⟩ 0 0).cells
      unfold set4 at r0 r1 r2 r3
      refine bodyPost_ret (v := .tuple #[.string ⟨#[]⟩, vv false ⟨#[]⟩ 0 0, .int .i64 3]) (by simp [results, Tryz.results79, go_sem, r0, r1, r2, r3]) rfl ⟨rfl, ?_⟩
      exact set4_below HB2.out (Nat.le_refl _) false ⟨#[]⟩ 0 0
    · rw [decide_eq_true h1]
      rw [decide_eq_true h2] at HSU
      rw [decide_eq_false h3] at HRI
      clear h1 h2 h3 hT HJ
      go_wp2_with fail
      refine (HSU.out _).mono ?_
      rintro e w3 ⟨rfl, rfl⟩
      go_wp2_with fail
      refine (HRI.out _).mono ?_
      rintro e w4 ⟨rfl, hb4⟩
      have HK4 := Lib.hid (HK2.out.below hb4)
      have HB4 := Lib.hid (HB2.out.trans' hb4)
      obtain ⟨x0, x1, x2, x3⟩ := HK4.out.cells
      obtain ⟨y0, y1, y2, y3⟩ := HK4.out.free
      clear hb4 k2 HK2 HB2
      go_wp2_with fail
      obtain ⟨r0, r1, r2, r3⟩ := (set4_box HK4.out false ⟨#[]⟩ 0 0).cells
      unfold set4 at r0 r1 r2 r3
      refine bodyPost_ret (v := .tuple #[.string ⟨#[]⟩, vv false ⟨#[]⟩ 0 0, .int .i64 3]) (by simp [results, Tryz.results79, go_sem, r0, r1, r2, r3]) rfl ⟨rfl, ?_⟩
      exact set4_below HB4.out (Nat.le_refl _) false ⟨#[]⟩ 0 0

end Go.Proofs.YtpehkikdmckldaaGreatDoor.L9
