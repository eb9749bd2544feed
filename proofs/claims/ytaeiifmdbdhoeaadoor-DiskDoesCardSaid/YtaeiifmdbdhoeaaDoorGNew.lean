/-
  The walks of the program's All, Size and New.
-/
import Derived.Test.YtaeiifmdbdhoeaaDoorGDisk
import Derived.Lib.LaidTab
import Derived.Test.YtaeiifmdbdhoeaaDoorRows
namespace Go.Proofs.YtaeiifmdbdhoeaaDoor
open Go.RowKit
open Go.ChangeShapes
open DP (W D)
set_option linter.unusedVariables false
set_option linter.unusedSimpArgs false
variable {Fb : Nat → Prop}

theorem cells_cons (n : Nat) (v : Value) (xs : List Value) : True := trivial
theorem blanks_set (l : List ByteArray) (n k : Nat) (s : ByteArray) (hk : k < n) (hl : l.length = n) (h : l[k]? = some s) :
    (strCells (l.take k) ++ List.replicate (n - k) (.string ⟨#[]⟩ : Value)).set k (.string s) = strCells (l.take (k + 1)) ++ List.replicate (n - (k + 1)) (.string ⟨#[]⟩) := by
  have hlen : (strCells (l.take k)).length = k := by rw [strCells_length]; simp; omega
  have e : l.take (k + 1) = l.take k ++ [s] := by rw [List.take_add_one, h]; rfl
  rw [e, strCells_snoc, show n - k = (n - (k + 1)) + 1 by omega, List.replicate_succ, List.set_append_right _ _ (by omega), hlen, Nat.sub_self]
  simp

set_option maxHeartbeats 1000000 in
set_option maxRecDepth 100000 in
theorem all_any (b : Nat) (d : D) (w : World) (h : HasX Fb w b d) :
    Calls Tryd.prog 19 #[.pointer (some ⟨b, 0, none⟩)] w fun e w' => ∃ g, e = .returned (.slice (some ⟨g, 0, none⟩) d.all.length d.all.length) ∧ w'.ownsRow w.heap.size 9 1 (.slice (some ⟨g, 0, none⟩) d.all.length d.all.length) d.all.length (strCells d.all) ∧ Below w.heap.size w w' := by
  have HLEN := Lib.hid (len_any b d w h)
  have HLL := h.ok.len
  have hsm := h.small
  obtain ⟨A1, c1, L1, A2, c2, L2, nw, lim, lf, h1, h2, h3, h4, h5⟩ := h.parts
  obtain ⟨l, hl⟩ : ∃ l, l = d.all := ⟨_, rfl⟩
  have HSIZ : Hid (∀ k, (DP.page (DP.zero d.p) l k).size = d.p) := Lib.hid (fun k => by rw [hl]; exact (DP.Sized.all h.ok.sized h.ok.whole).page k)
  obtain ⟨n, hn⟩ : ∃ n, n = l.length := ⟨_, rfl⟩
  have hdl : d.len = n := by rw [hn, hl, d.all_length]
  rw [hdl] at HLEN HLL
  rw [← hl] at h1 h2 ⊢
  rw [← hn] at h1 ⊢
  have HN := Lib.hid hn
  have H1 := Lib.hid h1
  have H2 := Lib.hid h2
  obtain ⟨p, hp⟩ : ∃ p, p = d.p := ⟨_, rfl⟩
  rw [← hp] at H2 HSIZ
  have hp1 : p ≤ 1024 := by omega
  have HPG : Hid (∀ W, Below w.heap.size w W → ∀ k : Nat, k < 4096 → Calls Tryd.prog 40 #[.agg #[.int .i64 p, .int .i64 n, .slice A1 L1.length c1], .int .i64 k] W fun e w' => e = .returned (.string (DP.page (DP.zero p) l k)) ∧ Below W.heap.size W w') := Lib.hid (fun W hW k hk => page_any p n A1 c1 L1 l k W ((H2.out.st (.of_below hW)).blocks) H2.out.rep hk hp1)
  have HCL : Hid (∀ W t, t.size ≤ 1000000 → Calls Tryd.prog 31 #[.string t] W fun e w' => e = .returned (.string t) ∧ Below W.heap.size W w') := Lib.hid (fun W t ht => clone_any t W ht)
  have HGET : Hid (∀ k, k < n → l[k]? = some (DP.page (DP.zero p) l k)) := Lib.hid (fun k hk => by
    have h9 : k < l.length := by omega
    unfold DP.page
    rw [List.getD_eq_getElem?_getD, List.getElem?_eq_getElem h9]
    rfl)
  have HBS : Hid (∀ k s, k < n → l[k]? = some s → (strCells (l.take k) ++ List.replicate (n - k) (.string ⟨#[]⟩ : Value)).set k (.string s) = strCells (l.take (k + 1)) ++ List.replicate (n - (k + 1)) (.string ⟨#[]⟩)) := Lib.hid (fun k s hk hs => blanks_set l n k s hk hn.symm hs)
  rw [← hp] at H1
  -- the row is made,
  obtain ⟨i0, hi, hz0, hz1, hz2⟩ := info_parts Tryd.infoT
  obtain ⟨Z, hZ⟩ : ∃ Z, Z = madeCells (Value.string ⟨#[]⟩).cells (((n : Nat) : Int).toNat * i0.size) := ⟨_, rfl⟩
  have hZl : Z.toList = List.replicate n (.string ⟨#[]⟩) := by
    rw [hZ]
    apply List.ext_getElem
    · simp [size_madeCells, hz1]
    · intro j q1 q2
      simp only [madeCells, List.getElem_replicate]
      simp
      show (#[Value.string ⟨#[]⟩] : Array Value)[j % 1]! = _
      rw [Nat.mod_one]; rfl
  have mk : ∀ W : World, (Instr.makeSlice 39 (.int .i64 (n : Int)) (.int .i64 (n : Int))).run Tryd.prog W = .ok (.slice (some ⟨W.heap.size, 0, none⟩) n n) (W.alloc (.cells Z 9)) := fun W => by
    have h := run_make (P := Tryd.prog) W 39 9 i0 (.string ⟨#[]⟩) Tryd.underlying39 hi hz0 .i64 .i64 (n : Int) (n : Int) (by omega) (by omega) (by rw [hz2]; omega) (by omega)
    rw [← hZ] at h
    simpa using h
  have hown : (w.alloc (.cells Z 9)).ownsRow w.heap.size 9 1 (.slice (some ⟨w.heap.size, 0, none⟩) n n) n (strCells (l.take 0) ++ List.replicate (n - 0) (.string ⟨#[]⟩)) := by
    refine ⟨by simp [strCells], .inr ⟨w.heap.size, n, Z, rfl, Nat.le_refl _, heap_alloc_new w _, Nat.le_refl _, by unfold maxLen; omega, ?_, ?_⟩⟩
    · have := congrArg List.length hZl; simpa using this
    · rw [hZl]; simp [strCells]
  have HO := Lib.hid hown
  have HB0 := Lib.hid (below_alloc w (.cells Z 9))
  clear hown hZl hZ h1 h2 h3 h4 h5 h hn hl hdl hp
  generalize hw0 : w.alloc (.cells Z 9) = w0 at *
  go_enter Tryd.func19, Tryd.ntmps19
  go_wp2_with fail
  refine HLEN.out.mono ?_
  rintro e w1 ⟨rfl, rfl⟩
  go_wp2_with fail
  clear mk
  go_loopw [10] (fun iv wr => ∃ k : Nat, k ≤ n ∧ iv = .int .i64 k ∧ Hid (wr.ownsRow w.heap.size 9 1 (.slice (some ⟨w.heap.size, 0, none⟩) n n) n (strCells (l.take k) ++ List.replicate (n - k) (.string ⟨#[]⟩))) ∧ Hid (Below w.heap.size w wr)) (fun iv _ => n - (intOf iv).toNat)
  case atStart => exact ⟨0, by omega, rfl, HO, HB0⟩
  case round =>
    obtain ⟨k, hk, rfl, HOr, HBr⟩ := hrel
    have hO1 := H1.out.below HBr.out
    have c2' := hO1.at 2 _ rfl
    have c3' := hO1.at 3 _ rfl
    have c4' := hO1.at 4 _ rfl
    clear hO1
    by_cases hlt : k < n
    · have hlt' : decide ((k : Int) < n) = true := by simp; omega
      have hk0 : (0 : Int) ≤ k := by omega
      have hkn : (k : Int) < n := by omega
      have HK : Hid (k < 4096) := Lib.hid (by omega)
      have HS := Lib.hid (HGET.out k hlt)
      have HZ1 := Lib.hid (HSIZ.out k)
      go_wp2_with fail
      refine (HPG.out _ HBr.out k HK.out).mono ?_
      rintro e w1 ⟨rfl, hb1⟩
      have HB1 := Lib.hid hb1
      clear hb1
      obtain ⟨t, ht⟩ : ∃ t, t = DP.page (DP.zero p) l k := ⟨_, rfl⟩
      rw [← ht] at HS HZ1 ⊢
      clear ht
      go_wp2_with fail
      refine (HCL.out _ t (by have := HZ1.out; omega)).mono ?_
      rintro e w2 ⟨rfl, hb2⟩
      have HB2 : Hid (Below wr.heap.size wr w2) := Lib.hid (HB1.out.trans' hb2)
      have HO2 := Lib.hid (own_below HOr.out HB2.out)
      have hcell : w2.cell? ⟨w.heap.size, k, none⟩ = some (.string ⟨#[]⟩) := (HO2.out.cellAt k (by omega)).trans (by
        rw [List.getElem?_append_right (by rw [strCells_length]; simp; omega), List.getElem?_replicate, if_pos (by rw [strCells_length]; simp; have := HN.out; omega)])
      have hfr := HO2.out.frozenAt k
      have HST := Lib.hid (HO2.out.stored k (.string t)).1
      clear hb2
      go_wp2_with fail
      go_roundw
      case rel => exact ⟨k + 1, by omega, by first | rfl | simp, Lib.hid (by rw [← HBS.out k t hlt HS.out]; exact HST.out), Lib.hid (((HBr.out).trans (HB2.out.mono HBr.out.size)).setCell (Nat.le_refl _) _)⟩
      case measure => simp [intOf]; omega
    · obtain rfl : k = n := by omega
      have HE : Hid (strCells (l.take k) ++ List.replicate (k - k) (.string ⟨#[]⟩ : Value) = strCells l) := Lib.hid (by
        rw [Nat.sub_self, List.replicate_zero, List.append_nil, List.take_of_length_le (by have := HN.out; omega)])
      go_wp2_with fail
      go_ret
      have h9 := HOr.out
      rw [HE.out] at h9
      exact ⟨_, rfl, h9, HBr.out⟩

/-- The sizes that a page may have, as the program's variable has them. -/
def Sizes (w : World) : Prop := w.cell? ⟨0, 0, none⟩ = some (.int .i64 128) ∧ w.cell? ⟨0, 1, none⟩ = some (.int .i64 256) ∧ w.cell? ⟨0, 2, none⟩ = some (.int .i64 512) ∧ w.cell? ⟨0, 3, none⟩ = some (.int .i64 1024)
theorem Sizes.lt {w : World} (h : Sizes w) : 0 < w.heap.size := by
  refine Nat.lt_of_not_le fun hn => ?_
  have := h.1
  simp [World.cell?, Array.getElem?_eq_none hn] at this
theorem Sizes.below {w w' : World} {c : Nat} (h : Sizes w) (hc : 0 < c) (k : Below c w w') : Sizes w' :=
  ⟨(k.cell hc).trans h.1, (k.cell hc).trans h.2.1, (k.cell hc).trans h.2.2.1, (k.cell hc).trans h.2.2.2⟩
theorem sizes_of {W : World} (h : laidMet Tryd.prog [("withy/disk.sizes", Rows.laid_withy_disk_sizes)] W) : Sizes W := by
  have t : Lib.TabIs Tryd.prog W "withy/disk.sizes" .i64 [128, 256, 512, 1024] :=
    Lib.tabIs_of_head (g := 0) (t := 75) (e := 3) (n := 4) (rest := []) (by kernel_rfl) (by kernel_rfl) Tryd.underlying75 Tryd.underlying3 (by kernel_rfl) (by kernel_rfl) h
  have hg : Tryd.prog.globalNamed "withy/disk.sizes" = some 0 := by kernel_rfl
  exact ⟨t.cell hg 0 (by decide), t.cell hg 1 (by decide), t.cell hg 2 (by decide), t.cell hg 3 (by decide)⟩
end Go.Proofs.YtaeiifmdbdhoeaaDoor
