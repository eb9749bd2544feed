/-
  The program's pages: blocks of texts; the walks of page and with.
-/
import Derived.Test.YtaeiifmdbdhoeaaDoorGClone
namespace Go.Proofs.YtaeiifmdbdhoeaaDoor
open Go.RowKit
open DP (W D)
set_option linter.unusedVariables false
set_option linter.unusedSimpArgs false
variable {Fb : Nat → Prop}

/-- Texts behind an address .. none of them in a block of Fb. -/
def Row (Fb : Nat → Prop) (w : World) (A : Option Addr) (c : Nat) (l : List ByteArray) : Prop := LV w 9 A (strCells l) ∧ (A = none → l = [] ∧ c = 0) ∧ l.length ≤ c ∧ ∀ a, A = some a → l ≠ [] → ¬ Fb a.block
/-- Lists of texts behind an address. -/
def Blocks (Fb : Nat → Prop) (w : World) (A : Option Addr) (c : Nat) (L : List (List ByteArray)) : Prop :=
  ∃ vs : List Value, vs.length = L.length ∧ LV w 39 A vs ∧ (A = none → L = [] ∧ c = 0) ∧ L.length ≤ c ∧ ∀ k, ∃ A' c', vs.getD k (.slice none 0 0) = .slice A' (L.getD k []).length c' ∧ Row Fb w A' c' (L.getD k [])
theorem Row.st {w w' : World} {A : Option Addr} {c : Nat} {l : List ByteArray} (h : Row Fb w A c l) (k : St w w') : Row Fb w' A c l := ⟨h.1.st (.inl rfl) k, h.2⟩
theorem Row.on {w w' : World} {A : Option Addr} {c : Nat} {l : List ByteArray} (h : Row Fb w A c l) (k : Below w.heap.size w w') : Row Fb w' A c l := h.st (.of_below k)
theorem Blocks.st {w w' : World} {A : Option Addr} {c : Nat} {L : List (List ByteArray)} (h : Blocks Fb w A c L) (k : St w w') : Blocks Fb w' A c L := by
  obtain ⟨vs, h1, h2, h3, h4, h5⟩ := h
  refine ⟨vs, h1, h2.st (.inr (.inl rfl)) k, h3, h4, fun i => ?_⟩
  obtain ⟨A', c', e, hr⟩ := h5 i
  exact ⟨A', c', e, hr.st k⟩
theorem Blocks.on {w w' : World} {A : Option Addr} {c : Nat} {L : List (List ByteArray)} (h : Blocks Fb w A c L) (k : Below w.heap.size w w') : Blocks Fb w' A c L := h.st (.of_below k)
theorem Blocks.nil (w : World) : Blocks Fb w none 0 [] := ⟨[], rfl, LV.nil _ _ _, fun _ => ⟨rfl, rfl⟩, Nat.le_refl _, fun k => ⟨none, 0, by simp, by simpa [strCells] using LV.nil _ _ _, fun _ => ⟨by simp, rfl⟩, by simp, fun a ha => by cases ha⟩⟩

/-- The text at a place of the blocks. -/
def tx (L : List (List ByteArray)) (i : Nat) : ByteArray := (L.getD (i / 64) []).getD (i % 64) ⟨#[]⟩
/-- A page, of its text. -/
def nz (p : Nat) (s : ByteArray) : ByteArray := if s.size = 0 then DP.zero p else s
/-- Blocks that are these pages. -/
structure Rep (p : Nat) (L : List (List ByteArray)) (l : List ByteArray) : Prop where
  pages : ∀ i, DP.page (DP.zero p) l i = nz p (tx L i)
  few : L.length ≤ 64
  small : ∀ k, (L.getD k []).length ≤ 64
theorem Rep.nil (p : Nat) : Rep p [] [] := ⟨fun i => by show DP.zero p = nz p ⟨#[]⟩; unfold nz; exact (if_pos rfl).symm, by simp, fun k => by simp⟩
theorem Rep.put {p : Nat} {L : List (List ByteArray)} {l : List ByteArray} (h : Rep p L l) (i : Nat) (s : ByteArray) (hi : i < 4096) (hs : s.size ≠ 0) :
    Rep p (putG [] L (i / 64) (putG ⟨#[]⟩ (L.getD (i / 64) []) (i % 64) s)) (DP.put (DP.zero p) l ⟨i, s⟩) := by
  refine ⟨fun j => ?_, ?_, fun k => ?_⟩
  · rw [DP.page_put, h.pages]
    unfold tx
    rw [putG_getD]
    by_cases e : j = i
    · subst e
      rw [if_pos rfl, if_pos rfl, putG_getD, if_pos rfl, nz, if_neg hs]
    · rw [if_neg e]
      by_cases e1 : j / 64 = i / 64
      · rw [if_pos e1, putG_getD, if_neg (by omega), e1]
      · rw [if_neg e1]
  · rw [putG_length]
    have := h.few
    omega
  · rw [putG_getD]
    split
    · rw [putG_length]
      have := h.small (i / 64)
      omega
    · exact h.small k

theorem row_own {w : World} {base : Nat} {A : Option Addr} {n c : Nat} {vs : List Value} {l : List ByteArray} (h : w.ownsRow base 9 1 (.slice A n c) n vs) (hv : vs = strCells l) (hn : 0 < n) (hFb : ∀ k, Fb k → k < base) : Row Fb w A c l := by
  subst hv
  obtain ⟨g, c', e, hg, _⟩ := h.form hn
  have hA : A = some ⟨g, 0, none⟩ := by injection e
  subst hA
  refine ⟨lv_own h, fun e => (by cases e), ?_, fun a ha _ hk => ?_⟩
  · have h1 := own_cap h
    have h2 := h.1
    rw [strCells_length] at h2
    omega
  · have := hFb _ hk
    obtain rfl := Option.some.inj ha
    simp only at this
    omega
theorem Row.mono {Fc : Nat → Prop} {w : World} {A : Option Addr} {c : Nat} {l : List ByteArray} (h : Row Fb w A c l) (k : ∀ a, A = some a → l ≠ [] → Fc a.block → Fb a.block) : Row Fc w A c l := ⟨h.1, h.2.1, h.2.2.1, fun a ha hl hf => h.2.2.2 a ha hl (k a ha hl hf)⟩

theorem slices_one {vs : List Value} {L : List (List ByteArray)} {w : World} (hl : vs.length = L.length) (h : ∀ k, ∃ A' c', vs.getD k (.slice none 0 0) = .slice A' (L.getD k []).length c' ∧ Row Fb w A' c' (L.getD k [])) : ∀ v ∈ vs, ∃ A n c, v = .slice A n c := fun v hv => by
  obtain ⟨i, hi⟩ := List.getElem?_of_mem hv
  obtain ⟨A', c', e, _⟩ := h i
  rw [List.getD_eq_getElem?_getD, hi] at e
  exact ⟨_, _, _, e⟩
theorem texts_one (l : List ByteArray) : ∀ v ∈ strCells l, ∃ s, v = .string s := fun v hv => by
  obtain ⟨s, _, rfl⟩ := List.mem_map.1 hv
  exact ⟨s, rfl⟩
theorem strCells_getD (l : List ByteArray) (i : Nat) : (strCells l).getD i (.string ⟨#[]⟩) = .string (l.getD i ⟨#[]⟩) := by
  rw [List.getD_eq_getElem?_getD, List.getD_eq_getElem?_getD, strCells, List.getElem?_map]
  cases l[i]? <;> rfl
theorem tri_cells {w : World} {b : Nat} {x y z : Value} {t : TypeId} (h : w.heap[b]? = some (.cells #[x, y, z] t (0, 0))) : w.cell? ⟨b, 0, none⟩ = some x ∧ w.cell? ⟨b, 1, none⟩ = some y ∧ w.cell? ⟨b, 2, none⟩ = some z := by
  refine ⟨?_, ?_, ?_⟩ <;> simp [World.cell?, h]

set_option maxHeartbeats 1000000 in
set_option maxRecDepth 100000 in
theorem page_any (p n : Nat) (A : Option Addr) (c : Nat) (L : List (List ByteArray)) (l : List ByteArray) (i : Nat) (w : World) (hB : Blocks Fb w A c L) (hR : Rep p L l) (hi : i < 4096) (hp : p ≤ 1024) :
    Calls Tryd.prog 40 #[.agg #[.int .i64 p, .int .i64 n, .slice A L.length c], .int .i64 i] w fun e w' => e = .returned (.string (DP.page (DP.zero p) l i)) ∧ Below w.heap.size w w' := by
  have hbx := heap_alloc_new w (.cells #[.int .i64 (p : Int), .int .i64 (n : Int), .slice A L.length c] 67)
  have hb0 := below_alloc w (.cells #[.int .i64 (p : Int), .int .i64 (n : Int), .slice A L.length c] 67)
  obtain ⟨x0, x1, x2⟩ := tri_cells hbx
  have HBX := Lib.hid hbx
  clear hbx
  generalize hw0 : w.alloc (.cells #[.int .i64 (p : Int), .int .i64 (n : Int), .slice A L.length c] 67) = w0 at *
  have HS0 : Hid (w.heap.size < w0.heap.size) := Lib.hid (by rw [← hw0]; simp)
  obtain ⟨vs, h1, h2, h3, h4, h5⟩ := hB.on hb0
  obtain ⟨A', c', e5, hr1, hr2, hr3, hr4⟩ := h5 (i / 64)
  have HG1 := Lib.hid (getL_any A c vs (i / 64) w0 h2 (by omega) (by have := hR.few; omega) (slices_one h1 h5))
  rw [e5, h1] at HG1
  have HG2 := Lib.hid (getT_any A' c' (strCells (L.getD (i / 64) [])) (i % 64) w0 hr1 (by omega) (by rw [strCells_length]; have := hR.small (i / 64); omega) (texts_one _))
  rw [strCells_getD, strCells_length] at HG2
  obtain ⟨s, hs⟩ : ∃ s, s = (L.getD (i / 64) []).getD (i % 64) ⟨#[]⟩ := ⟨_, rfl⟩
  have HP : Hid (DP.page (DP.zero p) l i = nz p s) := Lib.hid ((hR.pages i).trans (by rw [hs]; rfl))
  rw [← hs] at HG2
  have HZ := Lib.hid (fun W => zeros_any p W (by omega))
  obtain ⟨r, hr⟩ : ∃ r, r = DP.page (DP.zero p) l i := ⟨_, rfl⟩
  rw [← hr] at HP ⊢
  obtain ⟨q, hq⟩ : ∃ q, q = i / 64 := ⟨_, rfl⟩
  obtain ⟨m, hm⟩ : ∃ m, m = i % 64 := ⟨_, rfl⟩
  have hdv : (i : Int) / 64 = (q : Int) := by omega
  have hmd : (i : Int) % 64 = (m : Int) := by omega
  rw [← hq] at HG1 HG2
  rw [← hm] at HG2
  have HB0 := Lib.hid hb0
  clear hB hR h1 h2 h3 h4 h5 e5 hr1 hr2 hr3 hr4 hr hs hb0 hq hm
  go_enter Tryd.func40, Tryd.ntmps40
  go_wp2_with fail
  refine (HG1.out).mono ?_
  rintro e w1 ⟨rfl, rfl⟩
  go_wp2_with fail
  refine (HG2.out).mono ?_
  rintro e w1 ⟨rfl, rfl⟩
  clear HG1 HG2
  by_cases hs0 : s.size = 0
  · have HP0 : Hid (r = DP.zero p) := Lib.hid (by rw [HP.out]; unfold nz; exact if_pos hs0)
    clear HP
    have q1 : s.toList.isEmpty = true := by rw [Lib.toList_data]; exact List.isEmpty_iff.2 (List.eq_nil_of_length_eq_zero (by simpa using hs0))
    clear hs0
    go_wp2_with fail
    refine (HZ.out _).mono ?_
    rintro e w1 ⟨rfl, hb1⟩
    go_wp2_with fail
    go_ret
    exact ⟨by rw [HP0.out]; try rfl, HB0.out.trans' hb1⟩
  · have HP0 : Hid (r = s) := Lib.hid (by rw [HP.out]; unfold nz; exact if_neg hs0)
    clear HP
    have q1 : s.toList.isEmpty = false := by rw [Lib.toList_data]; exact Bool.eq_false_iff.2 (fun e => hs0 (by have := congrArg List.length (List.isEmpty_iff.1 e); simpa using this))
    clear hs0
    go_wp2_with fail
    go_ret
    exact ⟨by rw [HP0.out]; try rfl, HB0.out⟩

/-- Two blocks of pages: one that is read, one that is made. -/
def Two (g : Nat) (x y z : Value) (W : World) : Prop := W.heap[g]? = some (.cells #[x, y, z] 67 (0, 0)) ∧ W.heap[g + 1]? = some (.cells #[.int .i64 0, .int .i64 0, .slice none 0 0] 67 (0, 0))
theorem Two.below {g : Nat} {x y z : Value} {W W' : World} (h : Two g x y z W) (k : Below W.heap.size W W') : Two g x y z W' :=
  ⟨(k.block _ (Array.getElem?_eq_some_iff.1 h.1).1).trans h.1, (k.block _ (Array.getElem?_eq_some_iff.1 h.2).1).trans h.2⟩
theorem Two.cells {g : Nat} {x y z : Value} {W : World} (h : Two g x y z W) : W.cell? ⟨g, 0, none⟩ = some x ∧ W.cell? ⟨g, 1, none⟩ = some y ∧ W.cell? ⟨g, 2, none⟩ = some z := tri_cells h.1
theorem Two.made {g : Nat} {x y z : Value} {W : World} (h : Two g x y z W) : (W.cell? ⟨g + 1, 0, none⟩ = some (.int .i64 0) ∧ W.cell? ⟨g + 1, 1, none⟩ = some (.int .i64 0) ∧ W.cell? ⟨g + 1, 2, none⟩ = some (.slice none 0 0)) ∧ ∀ j, W.frozen? ⟨g + 1, j, none⟩ = false :=
  ⟨tri_cells h.2, fun j => by simp [World.frozen?, h.2]⟩
theorem Two.new (x y z : Value) (w : World) : Two w.heap.size x y z ((w.alloc (.cells #[x, y, z] 67)).alloc (.cells #[.int .i64 0, .int .i64 0, .slice none 0 0] 67)) := by
  refine ⟨?_, ?_⟩
  · exact (heap_alloc_old _ _ (by simp)).trans (heap_alloc_new _ _)
  · have := heap_alloc_new (w.alloc (.cells #[x, y, z] 67)) (.cells #[.int .i64 0, .int .i64 0, .slice none 0 0] 67)
    simpa using this
theorem set3_below (w : World) (g c : Nat) (x y z : Value) (h : c ≤ g) : Below c w (((w.setCell ⟨g, 0, none⟩ x).setCell ⟨g, 1, none⟩ y).setCell ⟨g, 2, none⟩ z) :=
  (((Below.refl c w).setCell (p := ⟨g, 0, none⟩) h x).setCell (p := ⟨g, 1, none⟩) h y).setCell (p := ⟨g, 2, none⟩) h z
theorem set3_heap {w : World} {g : Nat} {a b c x y z : Value} {t : TypeId} (h : w.heap[g]? = some (.cells #[a, b, c] t (0, 0))) : (((w.setCell ⟨g, 0, none⟩ x).setCell ⟨g, 1, none⟩ y).setCell ⟨g, 2, none⟩ z).heap[g]? = some (.cells #[x, y, z] t (0, 0)) :=
  heap_setCell_same _ g 2 _ _ z (heap_setCell_same _ g 1 _ _ y (heap_setCell_same w g 0 _ _ x h))
theorem set3_st {w : World} {g : Nat} {a b c x y z : Value} {t : TypeId} (h : w.heap[g]? = some (.cells #[a, b, c] t (0, 0))) (ht : t ≠ 9 ∧ t ≠ 39 ∧ t ≠ 83) : St w (((w.setCell ⟨g, 0, none⟩ x).setCell ⟨g, 1, none⟩ y).setCell ⟨g, 2, none⟩ z) :=
  ((St.set h ht 0 x).trans (St.set (heap_setCell_same w g 0 _ _ x h) ht 1 y)).trans (St.set (heap_setCell_same _ g 1 _ _ y (heap_setCell_same w g 0 _ _ x h)) ht 2 z)

theorem putRow_any (A : Option Addr) (c : Nat) (l : List ByteArray) (i : Nat) (s : ByteArray) (w : World) (h : Row Fb w A c l) (hl : l.length ≤ 5000) (hi : i ≤ 5000) (hFb : ∀ k, Fb k → k < w.heap.size) :
    Calls Tryd.prog 46 #[.slice A l.length c, .int .i64 i, .string s] w fun e w' => ∃ A' cap, e = .returned (.slice A' (putG ⟨#[]⟩ l i s).length cap) ∧ Row Fb w' A' cap (putG ⟨#[]⟩ l i s) ∧ Below w.heap.size w w' := by
  have h1 := putT_any A c (strCells l) i s w (fun e => by rw [(h.2.1 e).1]; exact ⟨rfl, (h.2.1 e).2⟩) h.1 (by rw [strCells_length]; exact h.2.2.1) (by rw [strCells_length]; exact hl) hi (strs_one l)
  have e : putG (.string ⟨#[]⟩) (strCells l) i (.string s) = strCells (putG ⟨#[]⟩ l i s) := (putG_map Value.string _ _ _ _).symm
  rw [e, strCells_length, strCells_length] at h1
  refine h1.mono ?_
  rintro e' w' ⟨g, cap, rfl, ho, hb⟩
  exact ⟨_, cap, rfl, row_own ho rfl (by rw [putG_length]; omega) hFb, hb⟩
theorem putBlocks_any (A : Option Addr) (c : Nat) (L : List (List ByteArray)) (i : Nat) (A2 : Option Addr) (c2 : Nat) (l : List ByteArray) (w : World) (h : Blocks Fb w A c L) (h2 : Row Fb w A2 c2 l) (hl : L.length ≤ 5000) (hi : i ≤ 5000) :
    Calls Tryd.prog 48 #[.slice A L.length c, .int .i64 i, .slice A2 l.length c2] w fun e w' => ∃ A' cap, e = .returned (.slice A' (putG [] L i l).length cap) ∧ Blocks Fb w' A' cap (putG [] L i l) ∧ Below w.heap.size w w' := by
  obtain ⟨vs, h3, h4, h5, h6, h7⟩ := h
  have h1 := putL_any A c vs i A2 l.length c2 w (fun e => ⟨List.eq_nil_of_length_eq_zero (by rw [h3, (h5 e).1]; rfl), (h5 e).2⟩) h4 (by omega) (by omega) hi (fun u hu => by
    obtain ⟨_, _, _, rfl⟩ := slices_one h3 h7 u hu
    rfl)
  have el : (putG (Value.slice none 0 0) vs i (.slice A2 l.length c2)).length = (putG [] L i l).length := by rw [putG_length, putG_length, h3]
  rw [el, h3] at h1
  refine h1.mono ?_
  rintro e' w' ⟨g, cap, rfl, ho, hb⟩
  refine ⟨_, cap, rfl, ⟨_, el, lv_own ho, fun e => ?_, own_cap ho, fun k => ?_⟩, hb⟩
  · cases e
  · rw [putG_getD, putG_getD]
    by_cases e : k = i
    · rw [if_pos e, if_pos e]
      exact ⟨A2, c2, rfl, h2.on hb⟩
    · rw [if_neg e, if_neg e]
      obtain ⟨A', c', e', hr⟩ := h7 k
      exact ⟨A', c', e', hr.on hb⟩

set_option maxHeartbeats 1000000 in
set_option maxRecDepth 100000 in
theorem with_any (p : Nat) (A : Option Addr) (c : Nat) (L : List (List ByteArray)) (l : List ByteArray) (i : Nat) (s : ByteArray) (w : World) (hB : Blocks Fb w A c L) (hR : Rep p L l) (hi : i < 4096) (hs : s.size = p) (hp : 0 < p) (hl : l.length ≤ 4096) (hFb : ∀ k, Fb k → k < w.heap.size) :
    Calls Tryd.prog 30 #[.agg #[.int .i64 p, .int .i64 l.length, .slice A L.length c], .int .i64 i, .string s] w fun e w' => ∃ A' c' L', e = .returned (.agg #[.int .i64 p, .int .i64 (DP.put (DP.zero p) l ⟨i, s⟩).length, .slice A' L'.length c']) ∧ Blocks Fb w' A' c' L' ∧ Rep p L' (DP.put (DP.zero p) l ⟨i, s⟩) ∧ Below w.heap.size w w' := by
  obtain ⟨n, hn⟩ : ∃ n, n = l.length := ⟨_, rfl⟩
  have HNEW := Lib.hid (Two.new (.int .i64 (p : Int)) (.int .i64 (n : Int)) (.slice A L.length c) w)
  have HB0 := Lib.hid ((below_alloc w (.cells #[.int .i64 (p : Int), .int .i64 (n : Int), .slice A L.length c] 67)).trans' (below_alloc _ (.cells #[.int .i64 0, .int .i64 0, .slice none 0 0] 67)))
  have HX0 := Lib.hid (heap_alloc_new w (.cells #[.int .i64 (p : Int), .int .i64 (n : Int), .slice A L.length c] 67))
  obtain ⟨x0, x1, x2⟩ := HNEW.out.cells
  have HR' := Lib.hid (hR.put i s hi (by omega))
  obtain ⟨out, hout⟩ : ∃ out, out = DP.put (DP.zero p) l ⟨i, s⟩ := ⟨_, rfl⟩
  have HOL : Hid (out.length = max n (i + 1)) := Lib.hid (by rw [hout, DP.put_length, hn])
  rw [← hout] at HR' ⊢
  obtain ⟨ol, hol⟩ : ∃ ol, ol = out.length := ⟨_, rfl⟩
  have hmx : max (n : Int) ((i : Int) + 1) = (ol : Int) := by have := HOL.out; omega
  have HOLL := Lib.hid hol
  rw [← hol, ← hn]
  have HBL := Lib.hid (hB.on HB0.out)
  obtain ⟨q, hq⟩ : ∃ q, q = i / 64 := ⟨_, rfl⟩
  obtain ⟨m, hm⟩ : ∃ m, m = i % 64 := ⟨_, rfl⟩
  have hdv : (i : Int) / 64 = (q : Int) := by omega
  have hmd : (i : Int) % 64 = (m : Int) := by omega
  have hqm : q < 64 ∧ m < 64 := by omega
  rw [← hq, ← hm] at HR'
  clear hq hm hout hol hB
  obtain ⟨vs, h1, h2, h3, h4, h5⟩ := HBL.out
  obtain ⟨A2, c2, e5, hr1, hr2, hr3, hr4⟩ := h5 q
  have HG1 := Lib.hid (getL_any A c vs q _ h2 (by omega) (by have := hR.few; omega) (slices_one h1 h5))
  rw [e5, h1] at HG1
  have HPT := Lib.hid (putRow_any A2 c2 (L.getD q []) m s _ ⟨hr1, hr2, hr3, hr4⟩ (by have := hR.small q; omega) (by omega) (fun j hj => Nat.lt_of_lt_of_le (hFb j hj) HB0.out.size))
  obtain ⟨row, hrow⟩ : ∃ row, row = putG ⟨#[]⟩ (L.getD q []) m s := ⟨_, rfl⟩
  rw [← hrow] at HPT HR'
  have hfew := hR.few
  obtain ⟨rl, hrl⟩ : ∃ rl, rl = (L.getD q []).length := ⟨_, rfl⟩
  rw [← hrl] at HG1 HPT
  clear h1 h2 h3 h4 h5 e5 hr1 hr2 hr3 hr4 hR hrow hrl
  generalize hw0 : (w.alloc (.cells #[.int .i64 (p : Int), .int .i64 (n : Int), .slice A L.length c] 67)).alloc (.cells #[.int .i64 0, .int .i64 0, .slice none 0 0] 67) = w0 at *
  have HPL := Lib.hid (fun (W : World) (hW : Below w0.heap.size w0 W) A3 c3 (h3 : Row Fb W A3 c3 row) => putBlocks_any A c L q A3 c3 row W (HBL.out.on hW) h3 (by omega) (by omega))
  have HSZ0 : Hid (w0.heap.size = w.heap.size + 2) := Lib.hid (by rw [← hw0]; simp)
  clear hn HX0 HBL
  have wq : IntKind.i64.wrap (q : Int) = (q : Int) := IntWalk.i64_in _ (by omega)
  have wi : IntKind.i64.wrap ((i : Int) + 1) = (i : Int) + 1 := IntWalk.i64_in _ (by omega)
  have HKeep : Hid (∀ W W' : World, Below W.heap.size W W' → (Hid (w.heap.size + 2 ≤ W.heap.size) ∧ W.cell? ⟨w.heap.size, 0, none⟩ = some (.int .i64 (p : Int)) ∧ W.cell? ⟨w.heap.size, 1, none⟩ = some (.int .i64 (n : Int)) ∧ W.cell? ⟨w.heap.size, 2, none⟩ = some (.slice A L.length c)) → (Hid (w.heap.size + 2 ≤ W'.heap.size) ∧ W'.cell? ⟨w.heap.size, 0, none⟩ = some (.int .i64 (p : Int)) ∧ W'.cell? ⟨w.heap.size, 1, none⟩ = some (.int .i64 (n : Int)) ∧ W'.cell? ⟨w.heap.size, 2, none⟩ = some (.slice A L.length c))) := Lib.hid (fun W W' b h => ⟨Lib.hid (Nat.le_trans h.1.out b.size), (b.cell (by have := h.1.out; show w.heap.size < _; omega)).trans h.2.1, (b.cell (by have := h.1.out; show w.heap.size < _; omega)).trans h.2.2.1, (b.cell (by have := h.1.out; show w.heap.size < _; omega)).trans h.2.2.2⟩)
  have HKst : Hid (∀ (W : World) (x y z : Value), (Hid (w.heap.size + 2 ≤ W.heap.size) ∧ W.cell? ⟨w.heap.size, 0, none⟩ = some (.int .i64 (p : Int)) ∧ W.cell? ⟨w.heap.size, 1, none⟩ = some (.int .i64 (n : Int)) ∧ W.cell? ⟨w.heap.size, 2, none⟩ = some (.slice A L.length c)) → (Hid (w.heap.size + 2 ≤ (((W.setCell ⟨w.heap.size + 1, 0, none⟩ x).setCell ⟨w.heap.size + 1, 1, none⟩ y).setCell ⟨w.heap.size + 1, 2, none⟩ z).heap.size) ∧ (((W.setCell ⟨w.heap.size + 1, 0, none⟩ x).setCell ⟨w.heap.size + 1, 1, none⟩ y).setCell ⟨w.heap.size + 1, 2, none⟩ z).cell? ⟨w.heap.size, 0, none⟩ = some (.int .i64 (p : Int)) ∧ (((W.setCell ⟨w.heap.size + 1, 0, none⟩ x).setCell ⟨w.heap.size + 1, 1, none⟩ y).setCell ⟨w.heap.size + 1, 2, none⟩ z).cell? ⟨w.heap.size, 1, none⟩ = some (.int .i64 (n : Int)) ∧ (((W.setCell ⟨w.heap.size + 1, 0, none⟩ x).setCell ⟨w.heap.size + 1, 1, none⟩ y).setCell ⟨w.heap.size + 1, 2, none⟩ z).cell? ⟨w.heap.size, 2, none⟩ = some (.slice A L.length c))) := Lib.hid (fun W x y z h => by
    have b := set3_below W (w.heap.size + 1) (w.heap.size + 1) x y z (Nat.le_refl _)
    exact ⟨Lib.hid (Nat.le_trans h.1.out b.size), (b.cell (p := ⟨w.heap.size, 0, none⟩) (Nat.lt_succ_self w.heap.size)).trans h.2.1, (b.cell (p := ⟨w.heap.size, 1, none⟩) (Nat.lt_succ_self w.heap.size)).trans h.2.2.1, (b.cell (p := ⟨w.heap.size, 2, none⟩) (Nat.lt_succ_self w.heap.size)).trans h.2.2.2⟩)
  go_enter Tryd.func30, Tryd.ntmps30
  go_wp2_with fail
  refine HG1.out.mono ?_
  rintro e w1 ⟨rfl, rfl⟩
  go_wp2_with fail
  refine HPT.out.mono ?_
  rintro e w1 ⟨A3, c3, rfl, hr3, hb1⟩
  have HR3 := Lib.hid hr3
  have HB1 := Lib.hid hb1
  have HT1 := Lib.hid (HNEW.out.below hb1)
  clear hr3 hb1
  obtain ⟨y0, y1, y2⟩ := HT1.out.cells
  clear x0 x1 x2
  go_wp2_with fail
  have hsz : Hid (w.heap.size + 2 ≤ w1.heap.size) := Lib.hid (by have := HB1.out.size; have := HSZ0.out; omega)
  go_region_held3 (fun W => Hid (w.heap.size + 2 ≤ W.heap.size) ∧ W.cell? ⟨w.heap.size, 0, none⟩ = some (.int .i64 (p : Int)) ∧ W.cell? ⟨w.heap.size, 1, none⟩ = some (.int .i64 (n : Int)) ∧ W.cell? ⟨w.heap.size, 2, none⟩ = some (.slice A L.length c))
    (first | assumption | exact ⟨hsz, y0, y1, y2⟩ | exact HKeep.out _ _ (by assumption) (by assumption) | exact HKst.out _ _ _ _ (by assumption))
    (first
      | (go_at_call 48; refine (HPL.out _ (HB1.out.drew) _ _ (HR3.out)).mono ?_; rintro e w2 ⟨A4, c4, rfl, hr4, hb4⟩; obtain ⟨⟨z0, z1, z2⟩, hz⟩ := (HT1.out.below (below_of_drew hb4)).made; have f0 := hz 0; have f1 := hz 1; have f2 := hz 2; clear hz)
      | fail "no arm")
  all_goals
    have HR4 := Lib.hid hr4
    have HB4 := Lib.hid (below_of_drew hb4)
    have HT4 := Lib.hid (HT1.out.below (below_of_drew hb4))
    clear hr4 hb4
    have HH := Lib.hid (set3_heap (x := .int .i64 (p : Int)) (y := .int .i64 (ol : Int)) (z := .slice A4 (putG [] L q row).length c4) HT4.out.2)
    obtain ⟨k0, k1, k2⟩ := tri_cells HH.out
    go_wp2_with fail
    refine bodyPost_ret (v := .agg #[.int .i64 p, .int .i64 ol, .slice A4 (putG [] L q row).length c4]) (by simp [results, Tryd.results30, go_sem, k0, k1, k2]) rfl ⟨A4, c4, putG [] L q row, rfl, ?_, HR'.out, ?_⟩
    · exact HR4.out.st (set3_st HT4.out.2 (by decide))
    · exact ((HB0.out.trans' HB1.out).trans' HB4.out).trans (set3_below _ _ _ _ _ _ (by omega))
end Go.Proofs.YtaeiifmdbdhoeaaDoor
