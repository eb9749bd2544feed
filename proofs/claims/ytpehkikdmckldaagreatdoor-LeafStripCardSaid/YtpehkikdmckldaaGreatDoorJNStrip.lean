/-
  The walk of LeafStrip.
-/
import Derived.Test.YtpehkikdmckldaaGreatDoorJ18
import Derived.Test.YtpehkikdmckldaaGreatDoorJNCut
import Derived.Test.YtpehkikdmckldaaGreatDoorJ26
import Derived.Test.YtpehkikdmckldaaGreatDoorJ13
import Derived.Test.YtpehkikdmckldaaGreatDoorJ11
import Derived.Test.YtpehkikdmckldaaGreatDoorJHDocO
namespace Go.Proofs.YtpehkikdmckldaaGreatDoor
open Go.RowKit NP
set_option linter.unusedVariables false
set_option linter.unusedSimpArgs false

/-- What stands ahead of the cells on a leaf's page. -/
theorem texts_of {l : Lf} {p : Nat} (h : May l p) (hs : (size l : Int) ≤ p - 16) : L9.VP.gtext (body l p) 0 = some (com l.items, (L9.VP.text (com l.items)).length) ∧ L9.VP.gtext (body l p) (L9.VP.text (com l.items)).length = some (l.high.data.toList, (fixed l).length) := by
  have hp := mayBe_le h.1
  obtain ⟨R, hR⟩ : ∃ R, body l p = fixed l ++ R := ⟨_, by unfold body L8.LP.pack; rw [List.append_assoc, List.append_assoc]⟩
  have hcl : (com l.items).length ≤ 128 := by
    rw [com_length]
    cases hi : l.items with
    | nil => exact Nat.zero_le _
    | cons y m =>
      have h1 := (h.2.2.2.2 y (by rw [hi]; exact List.mem_cons_self)).1
      have h2 := L5.EP.span_le (keys (y :: m)) y.key (by simp [keys])
      rw [key_length] at h2
      omega
  have hhl : l.high.data.toList.length ≤ 128 := by
    have h1 := h.2.2.1
    have h2 : l.high.data.toList.length = l.high.size := by simp
    rw [h2]
    by_cases h0 : l.right = 0
    · rw [h1.1 h0]; omega
    · have := (h1.2 h0).2.1; omega
  constructor
  · have hg := L9.VP.gtext_at [] (L9.VP.text l.high.data.toList ++ R) (com l.items) (by omega)
    rw [hR]
    unfold fixed
    simpa using hg
  · have hg := L9.VP.gtext_at (L9.VP.text (com l.items)) R l.high.data.toList (by omega)
    rw [hR]
    unfold fixed
    rw [List.length_append]
    exact hg
theorem textV_some {g : Option (List UInt8 × Nat)} {T : ByteArray} {j : Nat} {e : Ending} (hg : g = some (T.data.toList, j)) (h : TextV g e) : e = .returned (.tuple #[.string T, .int .i64 j]) := by
  rcases h with ⟨h, _⟩ | ⟨T', j', h, rfl⟩
  · rw [hg] at h; cases h
  · rw [hg] at h
    simp only [Option.some.injEq, Prod.mk.injEq] at h
    obtain ⟨h1, rfl⟩ := h
    obtain rfl : T = T' := by
      apply ByteArray.ext
      exact Array.toList_inj.1 h1
    rfl
/-- The first key begins with what all have in common. -/
theorem first_com (L : List It) : ∀ x, L[0]? = some x → L5.sp (ks L) ≤ x.k.size ∧ x.k.extract 0 (L5.sp (ks L)) = L5.headS (ks L) := by
  intro x hx
  cases L with
  | nil => simp at hx
  | cons y m =>
    obtain rfl : y = x := by simpa using hx
    refine ⟨L5.sp_le (ks (y :: m)) y.k (by simp [ks]), rfl⟩
set_option maxHeartbeats 4000000 in
set_option maxRecDepth 100000 in
theorem leafStrip_any (hfx : Fixes) (F R : Int) (H : ByteArray) (A : Option Addr) (l : List It) (ca : Nat) (p : Int) (w : World) (hg : Glo w) (hH : H.size ≤ maxLen) (ha : Lies5 w w.heap.size A l) (hs : ∀ x ∈ l, x.k.size ≤ maxLen ∧ x.s.size ≤ maxLen) (hl : l.length ≤ maxLen) :
    Calls Tryz.prog 7 #[lv F R H A l.length ca, .int .i64 p] w fun e w' => e = .returned (.bool true) ∧ Below w.heap.size w w' := by
  have hb0 := lbox_below 24 F R H A l.length ca w
  have hsz0 := lbox_size 24 F R H A l.length ca w
  have HB0 := Lib.hid hb0
  have HK0 := Lib.hid (lbox_new 24 F R H A l.length ca w)
  have HFX := Lib.hid hfx
  have HG0 := Lib.hid hg
  have HC := Lib.hid (cutO_any F R H A l ca _ (ha.on hb0) (by unfold maxLen at hl; omega) hH hs)
  have HSR : Hid (∀ W, Calls Tryz.prog 25 #[.int .i64 p] W fun e w' => e = .returned (.bool (L7.mayBe p)) ∧ W = w') := Lib.hid (fun W => L7.sizeRef_any p W)
  obtain ⟨HH, hHH⟩ : ∃ HH, cutH H = HH := ⟨_, rfl⟩
  obtain ⟨L, hL⟩ : ∃ L, cut20 l = L := ⟨_, rfl⟩
  have hHs : HH.size ≤ maxLen := by rw [← hHH, cutH, ByteArray.size_extract]; unfold maxLen; omega
  have hLn : L.length ≤ 20 := by rw [← hL, cut20_length]; omega
  rw [hHH, hL] at HC
  obtain ⟨n, hn⟩ : ∃ n, L.length = n := ⟨_, rfl⟩
  rw [hn] at HC hLn
  have HN := Lib.hid hn
  simp only [lbox] at HC HB0 HK0
  rw [lbox] at hsz0
  generalize l.length = l0 at *
  clear hb0 ha hs hl hg hfx hH hHH hL
  rcases enc_cases ⟨F, R, HH, L⟩ p with ⟨hp, he⟩ | ⟨hp, hmay, he⟩ | ⟨hmay, hbig, he⟩ | ⟨hmay, hfit, he⟩
  · have hLc := hLn
    have HE := Lib.hid (fun G cap W (h : Glo W) (h2 : Lies5 W W.heap.size G L) => encT F R HH G L n cap p ⟨#[]⟩ 4 hn he (by omega) hHs W h h2)
    rw [hp] at HSR
    have hz := text_yes (rfl : (⟨#[]⟩ : ByteArray) = ⟨#[]⟩)
    clear he hHs hn
    go_enter Tryz.func7, Tryz.ntmps7
    go_wp2_with fail
    refine HC.out.mono ?_
    rintro e V ⟨G, cap, rfl, hO, hb⟩
    have hL5 := lies5_own hO HN.out.symm
    have hcap := (own5_cap hO).1
    have HK1 := Lib.hid (HK0.out.below hb)
    have HB1 := Lib.hid (HB0.out.trans' hb)
    have hne : ∀ a, G = some a → a.block ≠ w.heap.size := fun a e => by
      subst e
      have h := own5_block hO (g := a.block) rfl
      rw [hsz0] at h
      omega
    obtain ⟨c0, c1, c2, c3⟩ := HK1.out.cells
    obtain ⟨f0, f1, f2, f3⟩ := HK1.out.free
    have HX := Lib.hid (show LR 24 w.heap.size F R HH G n cap L (setL V w.heap.size F R HH G n cap) from ⟨setL_box HK1.out F R HH G n cap, by rw [setL_size]; exact setL_lies hL5 hne F R HH G n cap⟩)
    have HB := Lib.hid (setL_below HB1.out (Nat.le_refl _) F R HH G n cap)
    have HG := Lib.hid (HG0.out.on HB.out)
    unfold setL at HX HB HG
    obtain ⟨r0, r1, r2, r3⟩ := HX.out.box.cells
    clear hO hb hL5 HB1 HK1 hne HC
    go_wp2_with fail
    clear c0 c1 c2 c3 f0 f1 f2 f3 r0 r1 r2 r3
    generalize ((((V.setCell ⟨w.heap.size, 0, none⟩ (.int .i64 F)).setCell ⟨w.heap.size, 1, none⟩ (.int .i64 R)).setCell ⟨w.heap.size, 2, none⟩ (.string HH)).setCell ⟨w.heap.size, 3, none⟩ (.slice G n cap)) = W2 at *
    obtain ⟨c0, c1, c2, c3⟩ := HX.out.box.cells
    refine (HE.out G cap _ HG.out HX.out.row).mono ?_
    rintro e V ⟨rfl, hb⟩
    replace HB := Lib.hid (HB.out.trans' hb)
    replace HG := Lib.hid (HG0.out.on HB.out)
    replace HX := Lib.hid (HX.out.on hb)
    clear hb HE c0 c1 c2 c3
    obtain ⟨c0, c1, c2, c3⟩ := HX.out.box.cells
    go_wp2_with fail
    refine (HSR.out _).mono ?_
    rintro e V ⟨rfl, rfl⟩
    go_wp2_with fail
    refine (HFX.out _ HG.out).mono ?_
    rintro e V9 ⟨rfl, hb⟩
    go_wp2_with fail
    go_ret
    exact ⟨rfl, HB.out.trans' hb⟩
  · clear hmay
    have HE := Lib.hid (fun G cap W (h : Glo W) (h2 : Lies5 W W.heap.size G L) => encT F R HH G L n cap p ⟨#[]⟩ 3 hn he (by omega) hHs W h h2)
    rw [hp] at HSR
    have hz := text_yes (rfl : (⟨#[]⟩ : ByteArray) = ⟨#[]⟩)
    clear he hHs hn
    go_enter Tryz.func7, Tryz.ntmps7
    go_wp2_with fail
    refine HC.out.mono ?_
    rintro e V ⟨G, cap, rfl, hO, hb⟩
    have hL5 := lies5_own hO HN.out.symm
    have hcap := (own5_cap hO).1
    have HK1 := Lib.hid (HK0.out.below hb)
    have HB1 := Lib.hid (HB0.out.trans' hb)
    have hne : ∀ a, G = some a → a.block ≠ w.heap.size := fun a e => by
      subst e
      have h := own5_block hO (g := a.block) rfl
      rw [hsz0] at h
      omega
    obtain ⟨c0, c1, c2, c3⟩ := HK1.out.cells
    obtain ⟨f0, f1, f2, f3⟩ := HK1.out.free
    have HX := Lib.hid (show LR 24 w.heap.size F R HH G n cap L (setL V w.heap.size F R HH G n cap) from ⟨setL_box HK1.out F R HH G n cap, by rw [setL_size]; exact setL_lies hL5 hne F R HH G n cap⟩)
    have HB := Lib.hid (setL_below HB1.out (Nat.le_refl _) F R HH G n cap)
    have HG := Lib.hid (HG0.out.on HB.out)
    unfold setL at HX HB HG
    obtain ⟨r0, r1, r2, r3⟩ := HX.out.box.cells
    clear hO hb hL5 HB1 HK1 hne HC
    go_wp2_with fail
    clear c0 c1 c2 c3 f0 f1 f2 f3 r0 r1 r2 r3
    generalize ((((V.setCell ⟨w.heap.size, 0, none⟩ (.int .i64 F)).setCell ⟨w.heap.size, 1, none⟩ (.int .i64 R)).setCell ⟨w.heap.size, 2, none⟩ (.string HH)).setCell ⟨w.heap.size, 3, none⟩ (.slice G n cap)) = W2 at *
    obtain ⟨c0, c1, c2, c3⟩ := HX.out.box.cells
    refine (HE.out G cap _ HG.out HX.out.row).mono ?_
    rintro e V ⟨rfl, hb⟩
    replace HB := Lib.hid (HB.out.trans' hb)
    replace HG := Lib.hid (HG0.out.on HB.out)
    replace HX := Lib.hid (HX.out.on hb)
    clear hb HE c0 c1 c2 c3
    obtain ⟨c0, c1, c2, c3⟩ := HX.out.box.cells
    go_wp2_with fail
    refine (HSR.out _).mono ?_
    rintro e V ⟨rfl, rfl⟩
    go_wp2_with fail
    refine (HFX.out _ HG.out).mono ?_
    rintro e V9 ⟨rfl, hb⟩
    go_wp2_with fail
    go_ret
    exact ⟨rfl, HB.out.trans' hb⟩
  · have hp := hmay.1
    clear hmay hbig
    have HE := Lib.hid (fun G cap W (h : Glo W) (h2 : Lies5 W W.heap.size G L) => encT F R HH G L n cap p ⟨#[]⟩ 8 hn he (by omega) hHs W h h2)
    rw [hp] at HSR
    have hz := text_yes (rfl : (⟨#[]⟩ : ByteArray) = ⟨#[]⟩)
    clear he hHs hn
    go_enter Tryz.func7, Tryz.ntmps7
    go_wp2_with fail
    refine HC.out.mono ?_
    rintro e V ⟨G, cap, rfl, hO, hb⟩
    have hL5 := lies5_own hO HN.out.symm
    have hcap := (own5_cap hO).1
    have HK1 := Lib.hid (HK0.out.below hb)
    have HB1 := Lib.hid (HB0.out.trans' hb)
    have hne : ∀ a, G = some a → a.block ≠ w.heap.size := fun a e => by
      subst e
      have h := own5_block hO (g := a.block) rfl
      rw [hsz0] at h
      omega
    obtain ⟨c0, c1, c2, c3⟩ := HK1.out.cells
    obtain ⟨f0, f1, f2, f3⟩ := HK1.out.free
    have HX := Lib.hid (show LR 24 w.heap.size F R HH G n cap L (setL V w.heap.size F R HH G n cap) from ⟨setL_box HK1.out F R HH G n cap, by rw [setL_size]; exact setL_lies hL5 hne F R HH G n cap⟩)
    have HB := Lib.hid (setL_below HB1.out (Nat.le_refl _) F R HH G n cap)
    have HG := Lib.hid (HG0.out.on HB.out)
    unfold setL at HX HB HG
    obtain ⟨r0, r1, r2, r3⟩ := HX.out.box.cells
    clear hO hb hL5 HB1 HK1 hne HC
    go_wp2_with fail
    clear c0 c1 c2 c3 f0 f1 f2 f3 r0 r1 r2 r3
    generalize ((((V.setCell ⟨w.heap.size, 0, none⟩ (.int .i64 F)).setCell ⟨w.heap.size, 1, none⟩ (.int .i64 R)).setCell ⟨w.heap.size, 2, none⟩ (.string HH)).setCell ⟨w.heap.size, 3, none⟩ (.slice G n cap)) = W2 at *
    obtain ⟨c0, c1, c2, c3⟩ := HX.out.box.cells
    refine (HE.out G cap _ HG.out HX.out.row).mono ?_
    rintro e V ⟨rfl, hb⟩
    replace HB := Lib.hid (HB.out.trans' hb)
    replace HG := Lib.hid (HG0.out.on HB.out)
    replace HX := Lib.hid (HX.out.on hb)
    clear hb HE c0 c1 c2 c3
    obtain ⟨c0, c1, c2, c3⟩ := HX.out.box.cells
    go_wp2_with fail
    refine (HSR.out _).mono ?_
    rintro e V ⟨rfl, rfl⟩
    go_wp2_with fail
    refine (HFX.out _ HG.out).mono ?_
    rintro e V9 ⟨rfl, hb⟩
    go_wp2_with fail
    go_ret
    exact ⟨rfl, HB.out.trans' hb⟩
  · obtain ⟨S, hS⟩ : ∃ S : ByteArray, ⟨(page ⟨F, R, HH, L⟩ p.toNat).toArray⟩ = S := ⟨_, rfl⟩
    rw [hS] at he
    obtain ⟨-, -, hSp, -⟩ := enc0_facts he
    have he2 : enc ⟨F, R, HH, L⟩ S.size = (S, 0) := by rw [hSp]; exact he
    obtain ⟨e1, e2, e3, e4⟩ := enc_head he2
    have hf := May.fit hmay (by omega)
    have hp := mayBe_le hmay.1
    obtain ⟨B0, hB0⟩ : ∃ B0, S.extract 16 S.size = B0 := ⟨_, rfl⟩
    have hBl : B0.data.toList = body ⟨F, R, HH, L⟩ S.size := by
      rw [← hB0, Lib.extract_data, List.take_of_length_le (by simp)]
      exact e4
    have hBs : B0.size ≤ 1024 := by rw [← hB0, ByteArray.size_extract]; omega
    have hv : L7.opnV S = .tuple #[.agg #[.int .i64 2, .int .i64 0, .int .i64 n, .int .i64 R, .int .i64 F], .string B0, .int .i64 0] := by
      unfold L7.opnV
      rw [L7.HP.opn_good e1 e2, hB0, e3, ← hn]
      rfl
    have HOP := Lib.hid (fun W (h : L7.Sizes W) => L7.refOpen_any S W h)
    rw [hv] at HOP
    obtain ⟨t1, t2⟩ := texts_of (l := ⟨F, R, HH, L⟩) (p := S.size) (by rw [hSp]; exact hmay) (by rw [hSp]; exact hfit)
    rw [← hBl] at t1 t2
    obtain ⟨C, hC⟩ : ∃ C, L5.headS (ks L) = C := ⟨_, rfl⟩
    have hCl : C.data.toList = com L := by rw [← hC]; exact head_com L
    obtain ⟨i1, hi1⟩ : ∃ i1, (L9.VP.text (com L)).length = i1 := ⟨_, rfl⟩
    obtain ⟨i2, hi2⟩ : ∃ i2, (NP.fixed ⟨F, R, HH, L⟩).length = i2 := ⟨_, rfl⟩
    simp only at t1 t2
    rw [hi1] at t1 t2
    rw [hi2] at t2
    rw [← hCl] at t1
    have hi1' := (L9.gtext_some t1).1
    have hBl2 : B0.data.toList.length = B0.size := by simp
    have HT1 := Lib.hid (fun W => (rtext_any B0 0 W (by omega) (by omega)).mono fun e w' (h : TextV _ e ∧ _) => (show e = .returned (.tuple #[.string C, .int .i64 i1]) ∧ Below W.heap.size W w' from ⟨textV_some t1 h.1, h.2⟩))
    have HT2 := Lib.hid (fun W => (rtext_any B0 i1 W (by omega) (by omega)).mono fun e w' (h : TextV _ e ∧ _) => (show e = .returned (.tuple #[.string HH, .int .i64 i2]) ∧ Below W.heap.size W w' from ⟨textV_some t2 h.1, h.2⟩))
    have HRF := Lib.hid (fun G cap W (h : Lies5 W W.heap.size G L) => ref_any F R HH G L cap W h (by omega))
    have HKY := Lib.hid (fun G cap W (h : Lies5 W W.heap.size G L) => rkeys_any F R HH G L cap W h (by omega))
    have HSP := Lib.hid (fun G cap W (h : L5.Lies W W.heap.size G (ks L)) => L5.rspan_any G (ks L) cap W h (by rw [ks_length]; omega) (fun s hs => by
      obtain ⟨x, hx, rfl⟩ := List.mem_map.1 hs
      exact hf.key x hx))
    have hcz : C.size = L5.sp (ks L) := by
      have h1 : C.data.toList.length = C.size := by simp
      rw [← h1, hCl, com_length, sp_keys]
    have HFI0 := first_com L
    rw [hC] at HFI0
    obtain ⟨z, hz⟩ : ∃ z, L5.sp (ks L) = z := ⟨_, rfl⟩
    rw [hz] at HSP hcz HFI0
    have HFI : Hid (z ≤ 1000000 ∧ C.size = z ∧ ∀ x, L[0]? = some x → z ≤ x.k.size ∧ x.k.extract 0 z = C) := Lib.hid ⟨by
      have : C.data.toList.length = C.size := by simp
      have := (L9.gtext_some t1).2
      omega, hcz, HFI0⟩
    have HE := Lib.hid (fun G cap W (h : Glo W) (h2 : Lies5 W W.heap.size G L) => encT F R HH G L n cap p S 0 hn he (by omega) hHs W h h2)
    rw [ks_length] at HSP
    rw [hn] at HRF HKY HSP
    clear hcz HFI0 hz hi1' hBl2 t1 t2 hi1 hi2 hCl hC hv hBs hBl hB0 hf e1 e2 e3 e4 he2 hSp he hS hfit hmay hHs hn hp
    go_enter Tryz.func7, Tryz.ntmps7
    go_wp2_with fail
    refine HC.out.mono ?_
    rintro e V ⟨G, cap, rfl, hO, hb⟩
    have hL5 := lies5_own hO HN.out.symm
    have hcap := (own5_cap hO).1
    have HK1 := Lib.hid (HK0.out.below hb)
    have HB1 := Lib.hid (HB0.out.trans' hb)
    have hne : ∀ a, G = some a → a.block ≠ w.heap.size := fun a e => by
      subst e
      have h := own5_block hO (g := a.block) rfl
      rw [hsz0] at h
      omega
    obtain ⟨c0, c1, c2, c3⟩ := HK1.out.cells
    obtain ⟨f0, f1, f2, f3⟩ := HK1.out.free
    have HX := Lib.hid (show LR 24 w.heap.size F R HH G n cap L (setL V w.heap.size F R HH G n cap) from ⟨setL_box HK1.out F R HH G n cap, by rw [setL_size]; exact setL_lies hL5 hne F R HH G n cap⟩)
    have HB := Lib.hid (setL_below HB1.out (Nat.le_refl _) F R HH G n cap)
    have HG := Lib.hid (HG0.out.on HB.out)
    unfold setL at HX HB HG
    obtain ⟨r0, r1, r2, r3⟩ := HX.out.box.cells
    clear hO hb hL5 HB1 HK1 hne HC
    go_wp2_with fail
    clear c0 c1 c2 c3 f0 f1 f2 f3 r0 r1 r2 r3
    generalize ((((V.setCell ⟨w.heap.size, 0, none⟩ (.int .i64 F)).setCell ⟨w.heap.size, 1, none⟩ (.int .i64 R)).setCell ⟨w.heap.size, 2, none⟩ (.string HH)).setCell ⟨w.heap.size, 3, none⟩ (.slice G n cap)) = W2 at *
    obtain ⟨c0, c1, c2, c3⟩ := HX.out.box.cells
    refine (HE.out G cap _ HG.out HX.out.row).mono ?_
    rintro e V ⟨rfl, hb⟩
    replace HB := Lib.hid (HB.out.trans' hb)
    replace HG := Lib.hid (HG0.out.on HB.out)
    replace HX := Lib.hid (HX.out.on hb)
    clear hb HE c0 c1 c2 c3
    obtain ⟨c0, c1, c2, c3⟩ := HX.out.box.cells
    go_wp2_with fail
    refine (HOP.out _ HG.out.sizes).mono ?_
    rintro e V3 ⟨rfl, hb⟩
    have HH3 := Lib.hid (show L7.Bx 62 V3.heap.size ⟨2, 0, n, R, F⟩ (V3.alloc (.cells #[.int .i64 2, .int .i64 0, .int .i64 n, .int .i64 R, .int .i64 F] 62)) from heap_alloc_new _ _)
    replace hb := hb.trans' (L5.below_alloc V3 (.cells #[.int .i64 2, .int .i64 0, .int .i64 n, .int .i64 R, .int .i64 F] 62))
    replace HB := Lib.hid (HB.out.trans' hb)
    replace HG := Lib.hid (HG0.out.on HB.out)
    replace HX := Lib.hid (HX.out.on hb)
    clear hb HOP c0 c1 c2 c3
    obtain ⟨c0, c1, c2, c3⟩ := HX.out.box.cells
    go_wp2_with fail
    generalize V3.alloc (.cells #[.int .i64 2, .int .i64 0, .int .i64 n, .int .i64 R, .int .i64 F] 62) = D3 at *
    generalize V3.heap.size = b3 at *
    refine (HRF.out G cap _ HX.out.row).mono ?_
    rintro e V4 ⟨G4, cap4, rfl, hL4, hb⟩
    replace HB := Lib.hid (HB.out.trans' hb)
    replace HG := Lib.hid (HG0.out.on HB.out)
    replace HX := Lib.hid (HX.out.on hb)
    replace HH3 := Lib.hid (HH3.out.below hb)
    clear hb c0 c1 c2 c3
    go_wp2_with fail
    refine (HKY.out G4 cap4 _ hL4).mono ?_
    rintro e V5 ⟨G5, cap5, rfl, hL5, hb⟩
    replace HB := Lib.hid (HB.out.trans' hb)
    replace HG := Lib.hid (HG0.out.on HB.out)
    replace HX := Lib.hid (HX.out.on hb)
    replace HH3 := Lib.hid (HH3.out.below hb)
    clear hb hL4
    go_wp2_with fail
    refine (HSP.out G5 cap5 _ hL5).mono ?_
    rintro e V6 ⟨rfl, hb⟩
    replace HB := Lib.hid (HB.out.trans' hb)
    replace HG := Lib.hid (HG0.out.on HB.out)
    replace HX := Lib.hid (HX.out.on hb)
    replace HH3 := Lib.hid (HH3.out.below hb)
    clear hb hL5
    go_wp2_with fail
    refine (HT1.out _).mono ?_
    rintro e V7 ⟨rfl, hb⟩
    replace HB := Lib.hid (HB.out.trans' hb)
    replace HG := Lib.hid (HG0.out.on HB.out)
    replace HX := Lib.hid (HX.out.on hb)
    replace HH3 := Lib.hid (HH3.out.below hb)
    clear hb
    go_wp2_with fail
    refine (HT2.out _).mono ?_
    rintro e V8 ⟨rfl, hb⟩
    replace HB := Lib.hid (HB.out.trans' hb)
    replace HG := Lib.hid (HG0.out.on HB.out)
    replace HX := Lib.hid (HX.out.on hb)
    replace HH3 := Lib.hid (HH3.out.below hb)
    clear hb
    obtain ⟨c0, c1, c2, c3⟩ := HX.out.box.cells
    obtain ⟨y0, y1, y2, y3, y4⟩ := HH3.out.cells
    simp only at y0 y1 y2 y3 y4
    have hz2 := text_yes (rfl : HH = HH)
    obtain ⟨hzn, hlen, hfirst⟩ := HFI.out
    cases L with
    | nil =>
      have hn0 : n = 0 := HN.out.symm
      subst hn0
      go_wp2_with fail
      refine (HFX.out _ HG.out).mono ?_
      rintro e V9 ⟨rfl, hb⟩
      go_wp2_with fail
      go_ret
      exact ⟨rfl, HB.out.trans' hb⟩
    | cons x0 L' =>
      obtain ⟨KK, O, S0, L0, P0⟩ := x0
      obtain ⟨n', rfl⟩ : ∃ n', n = n' + 1 := ⟨L'.length, by have := HN.out; simp at this; omega⟩
      obtain ⟨a, rfl, hab, x0, x1, x2, x3, x4⟩ := HX.out.row.load (i := 0) (K := KK) (O := O) (S := S0) (L := L0) (P := P0) rfl
      have hkk := hfirst _ rfl
      simp only at hkk
      obtain ⟨hk1, hk2⟩ := hkk
      have hz3 := text_yes hk2
      have hnn : decide (((n' + 1 : Nat) : Int) = 0) = false := decide_eq_false (by omega)
      clear hab
      have x0a : V8.cell? a = some (.string KK) := x0
      clear x0 x1 x2 x3 x4
      go_wp2_with fail
      (try rw [hk2])
      go_wp2_with fail
      refine (HFX.out _ HG.out).mono ?_
      rintro e V9 ⟨rfl, hb⟩
      go_wp2_with fail
      go_ret
      exact ⟨rfl, HB.out.trans' hb⟩
end Go.Proofs.YtpehkikdmckldaaGreatDoor
