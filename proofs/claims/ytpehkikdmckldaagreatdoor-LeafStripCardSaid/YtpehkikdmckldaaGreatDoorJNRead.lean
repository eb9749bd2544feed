/-
  The walk of leaf.read.
-/
import Derived.Test.YtpehkikdmckldaaGreatDoorJ15
import Derived.Test.YtpehkikdmckldaaGreatDoorJ13
import Derived.Deep.RegionWith
namespace Go.Proofs.YtpehkikdmckldaaGreatDoor
open Go.RowKit NP
set_option linter.unusedVariables false
set_option linter.unusedSimpArgs false

theorem allI_mapV (c : List UInt8) : ∀ ts : List ByteArray, allI (ts.map fun t => (L9.VP.getV t.data.toList).map (item c)) = (mapV (ts.map fun t => t.data.toList)).map (List.map (item c))
  | [] => rfl
  | t :: ts => by
    have ih := allI_mapV c ts
    simp only [List.map_cons, mapV]
    cases h : L9.VP.getV t.data.toList with
    | none => rfl
    | some x =>
      simp only [Option.map_some, allI, ih]
      cases h2 : mapV (ts.map fun t => t.data.toList) with
      | none => rfl
      | some xs => rfl
def told3 (t : ByteArray) (C : ByteArray) : Option It := (L9.VP.getV t.data.toList).map (item C.data.toList)
theorem one_of (ts : List ByteArray) (C : ByteArray) (g : Nat) (w : World) (hs : ∀ t ∈ ts, t.size ≤ 1000000) (hC : C.size ≤ 1000000) (hc : w.cell? ⟨g, 0, none⟩ = some (.string C)) (hg : g < w.heap.size) :
    One ts (ts.map fun t => told3 t C) g w := by
  intro k t W ht hb
  have hts := hs t (List.mem_of_getElem? ht)
  have hcW : W.cell? ⟨g, 0, none⟩ = some (.string C) := (hb.cell (p := ⟨g, 0, none⟩) hg).trans hc
  have hgW := Nat.lt_of_lt_of_le hg hb.size
  have hv := fun V => L9.getv_any t V hts
  have hx : (ts.map fun t => told3 t C)[k]? = some (told3 t C) := by simp [ht]
  rw [hx]
  cases hgv : L9.VP.getV t.data.toList with
  | none =>
    rw [hgv] at hv
    refine ⟨fun x h => ?_, fun _ => ?_⟩
    · unfold told3 at h
      rw [hgv] at h
      simp at h
    · refine (read1_any k t C ⟨#[]⟩ ⟨#[]⟩ false 0 0 3 _ g W hcW hgW hC (by decide) (fun V => hv V) (fun V => told_bad' _ 3 V (by decide))).mono fun e w' ⟨h1, h2⟩ => ⟨?_, h2⟩
      exact ⟨_, _, _, _, _, _, _, h1⟩
  | some x =>
    obtain ⟨T', v⟩ := x
    rw [hgv] at hv
    have hok := L9.VP.getV_some hgv
    have hT : T'.length ≤ 128 := hok.1.1
    refine ⟨fun x h => ?_, fun h => ?_⟩
    · unfold told3 at h
      rw [hgv] at h
      simp only [Option.map_some, Option.some.injEq] at h
      subst h
      have hr := read1_any k t C ⟨T'.toArray⟩ ⟨v.s.toArray⟩ v.over v.len v.page 0 .nilIface g W hcW hgW hC (by show T'.toArray.size ≤ 1000000; simp; omega) (fun V => hv V) (fun V => told_ok' _ V)
      refine hr.mono fun e w' ⟨h1, h2⟩ => ⟨?_, h2⟩
      rw [h1]
      have e1 : C ++ (⟨T'.toArray⟩ : ByteArray) = ⟨(C.data.toList ++ T').toArray⟩ := by
        apply ByteArray.ext
        simp
      rw [e1]
      rfl
    · unfold told3 at h
      rw [hgv] at h
      simp at h

def ReadS (s : ByteArray) (b : Nat) (e : Ending) (w' : World) : Prop :=
  (∃ l q, dec s = some l ∧ b ≤ q ∧ e = .returned (.tuple #[lv l.self l.right l.high (some ⟨q, 0, none⟩) l.items.length l.items.length, .nilIface]) ∧ Lies5 w' w'.heap.size (some ⟨q, 0, none⟩) l.items) ∨
  (dec s = none ∧ ∃ (F R : Int) (H : ByteArray) (A : Option Addr) (n ca : Nat) (Z : ByteArray) (te : TypeId) (ve : Value), e = .returned (.tuple #[lv F R H A n ca, .iface 88 (.agg #[.string Z, .iface te ve])]))

/-- What read comes to, by what it reads. -/
structure Reads (s B0 : ByteArray) (n : Nat) (r f : Int) : Prop where
  n1 : L9.VP.gtext B0.data.toList 0 = none → dec s = none
  n2 : ∀ c i, L9.VP.gtext B0.data.toList 0 = some (c, i) → L9.VP.gtext B0.data.toList i = none → dec s = none
  n3 : ∀ c i t j, L9.VP.gtext B0.data.toList 0 = some (c, i) → L9.VP.gtext B0.data.toList i = some (t, j) → ¬ L8.LP.good B0.data.toList j n → dec s = none
  n4 : ∀ c i t j, L9.VP.gtext B0.data.toList 0 = some (c, i) → L9.VP.gtext B0.data.toList i = some (t, j) → L8.LP.good B0.data.toList j n → mapV (L8.LP.cells B0.data.toList n) = none → dec s = none
  ok : ∀ c i t j xs, L9.VP.gtext B0.data.toList 0 = some (c, i) → L9.VP.gtext B0.data.toList i = some (t, j) → L8.LP.good B0.data.toList j n → mapV (L8.LP.cells B0.data.toList n) = some xs →
    dec s = if enc ⟨f, r, ⟨t.toArray⟩, xs.map (item c)⟩ s.size = (s, 0) then some ⟨f, r, ⟨t.toArray⟩, xs.map (item c)⟩ else none
theorem reads_of {s B0 : ByteArray} {k l r f : Int} {n : Nat} (hg : L7.mayBe s.size = true ∧ L7.HP.good s.data.toList) (hB : B0.data.toList = s.data.toList.drop 16) (hh : L7.HP.headOf s.data.toList = ⟨k, l, n, r, f⟩) : Reads s B0 n r f := by
  refine ⟨fun h1 => dec_parse_none ?_, fun c i h1 h2 => dec_parse_none ?_, fun c i t j h1 h2 h3 => dec_parse_none ?_, fun c i t j h1 h2 h3 h4 => dec_parse_none ?_, fun c i t j xs h1 h2 h3 h4 => dec_parse ?_⟩
  · unfold parse
    rw [if_pos hg, ← hB]
    simp only [h1]
  · unfold parse
    rw [if_pos hg, ← hB]
    simp only [h1, h2]
  · unfold parse
    rw [if_pos hg, ← hB, hh]
    simp only [h1, h2, Int.toNat_natCast]
    rw [if_neg h3]
  · unfold parse
    rw [if_pos hg, ← hB, hh]
    simp only [h1, h2, Int.toNat_natCast]
    rw [if_pos h3, h4]
  · unfold parse
    rw [if_pos hg, ← hB, hh]
    simp only [h1, h2, Int.toNat_natCast]
    rw [if_pos h3, h4]

def AgainX (l : Lf) (s : ByteArray) (X : Value) : Prop := (enc l s.size = (s, 0) ∧ X = .nilIface) ∨ (enc l s.size ≠ (s, 0) ∧ ∃ Z te ve, X = .iface 88 (.agg #[.string Z, .iface te ve]))
theorem againX (F R : Int) (H : ByteArray) (A : Option Addr) (l : List It) (n : Nat) (s : ByteArray) (w : World) (hs : L7.Sizes w) (ha : Lies5 w w.heap.size A l) (hn : l.length = n) (hl : n ≤ 1000) (hh : H.size ≤ maxLen) (hss : s.size ≤ 1000000) :
    Calls Tryz.prog 80 #[lv F R H A n n, .string s] w fun e w' => (∃ X, e = .returned X ∧ AgainX ⟨F, R, H, l⟩ s X) ∧ Below w.heap.size w w' := by
  subst hn
  refine (again_any F R H A l l.length s w hs ha hl hh hss).mono fun e w' ⟨h1, h2⟩ => ⟨?_, h2⟩
  rcases h1 with ⟨h, rfl⟩ | ⟨h, part, er, rfl⟩
  · exact ⟨_, rfl, .inl ⟨h, rfl⟩⟩
  · exact ⟨_, rfl, .inr ⟨h, _, _, _, rfl⟩⟩
theorem toldF (part : ByteArray) (e : Int) (w : World) (he : e ≠ 0) : Calls Tryz.prog 61 #[.string part, .int .i64 e] w fun r w' => (∃ Z te ve, r = .returned (.iface 88 (.agg #[.string Z, .iface te ve]))) ∧ w = w' :=
  (told_bad' part e w he).mono fun r w' ⟨h1, h2⟩ => ⟨⟨_, _, _, h1⟩, h2⟩
set_option maxHeartbeats 8000000 in
set_option maxRecDepth 100000 in
theorem read_any (s : ByteArray) (w : World) (hg : Glo w) (hs : s.size ≤ 1000000) :
    Calls Tryz.prog 40 #[.string s] w fun e w' => ReadS s w.heap.size e w' ∧ Below w.heap.size w w' := by
  have hb0 := lbox_below 24 0 0 ⟨#[]⟩ none 0 0 w
  have HB0 := Lib.hid hb0
  have HK0 := Lib.hid (lbox_new 24 0 0 ⟨#[]⟩ none 0 0 w)
  have HG0 := Lib.hid (hg.on hb0)
  have HOP := Lib.hid (fun W (h : L7.Sizes W) => L7.open_any s W h (by unfold maxLen; omega))
  have HTB := Lib.hid (fun (p : ByteArray) (e : Int) W (h : e ≠ 0) => toldF p e W h)
  have HRT := Lib.hid (fun (b : ByteArray) (i : Nat) W (hi : i ≤ b.size) (hb : b.size ≤ 1000000) => textGet_any b i W hi hb)
  have HBAD : Hid (dec s = none → ∀ (w' : World) (F R : Int) (H : ByteArray) (A : Option Addr) (n ca : Nat) (Z : ByteArray) (te : TypeId) (ve : Value), ReadS s w.heap.size (.returned (.tuple #[lv F R H A n ca, .iface 88 (.agg #[.string Z, .iface te ve])])) w') := Lib.hid (fun h w' F R H A n ca Z te ve => .inr ⟨h, F, R, H, A, n, ca, Z, te, ve, rfl⟩)
  clear hb0 hg
  by_cases hgood : ¬ (L7.mayBe s.size = true ∧ L7.HP.good s.data.toList)
  · have HD : Hid (dec s = none) := Lib.hid (dec_parse_none (by unfold parse; rw [if_neg hgood]))
    have hv : L7.opnV s = .tuple #[.agg #[.int .i64 0, .int .i64 0, .int .i64 0, .int .i64 0, .int .i64 0], .string ⟨#[]⟩, .int .i64 3] := by
      unfold L7.opnV
      rw [L7.HP.opn_bad hgood]
      rfl
    rw [hv] at HOP
    clear hgood hv
    go_enter Tryz.func40, Tryz.ntmps40
    go_wp2_with fail
    refine (HOP.out _ HG0.out.sizes).mono ?_
    rintro e w2 ⟨rfl, hb2⟩
    have hb3 := hb2.trans' (L5.below_alloc w2 (.cells #[.int .i64 0, .int .i64 0, .int .i64 0, .int .i64 0, .int .i64 0] 78))
    have HK3 := Lib.hid (HK0.out.below hb3)
    have HB3 := Lib.hid (HB0.out.trans' hb3)
    obtain ⟨x0, x1, x2, x3⟩ := HK3.out.cells
    obtain ⟨f0, f1, f2, f3⟩ := HK3.out.free
    clear hb2 hb3
    go_wp2_with fail
    refine (HTB.out _ 3 _ (by decide)).mono ?_
    rintro e w3 ⟨⟨Z, te, ve, rfl⟩, rfl⟩
    go_wp2_with fail
    obtain ⟨r0, r1, r2, r3⟩ := (setL_box HK3.out 0 0 ⟨#[]⟩ none 0 0).cells
    unfold setL at r0 r1 r2 r3
    refine bodyPost_ret (v := .tuple #[lv 0 0 ⟨#[]⟩ none 0 0, .iface 88 (.agg #[.string Z, .iface te ve])]) (by simp [results, Tryz.results40, go_sem, r0, r1, r2, r3]) rfl ⟨HBAD.out HD.out _ _ _ _ _ _ _ _ _ _, ?_⟩
    exact setL_below HB3.out (Nat.le_refl _) 0 0 ⟨#[]⟩ none 0 0
  have hgd := Decidable.not_not.1 hgood
  have hm := mayBe_le hgd.1
  have hok : L7.HP.Ok (L7.HP.headOf s.data.toList) := hgd.2.1
  obtain ⟨B0, hB0⟩ : ∃ B0, s.extract 16 s.size = B0 := ⟨_, rfl⟩
  have hBl : B0.data.toList = s.data.toList.drop 16 := by
    rw [← hB0, Lib.extract_data, List.take_of_length_le (by simp)]
  have hBs : B0.size + 16 = s.size := by rw [← hB0]; simp; omega
  have hv : L7.opnV s = .tuple #[L7.hv (L7.HP.headOf s.data.toList), .string B0, .int .i64 0] := by
    unfold L7.opnV
    rw [L7.HP.opn_good hgd.1 hgd.2, hB0]
  obtain ⟨hk, hl, hc, hr, hs5, hhd⟩ : ∃ k l c r f, L7.HP.headOf s.data.toList = ⟨k, l, c, r, f⟩ := ⟨_, _, _, _, _, rfl⟩
  rw [hhd] at hv hok
  obtain ⟨n, rfl⟩ : ∃ n : Nat, hc = n := Int.eq_ofNat_of_zero_le hok.2.2.2.2.1
  have hn : n ≤ 65535 := by have h := hok.2.2.2.2.2.1; simp only at h; omega
  have HP := Lib.hid (reads_of hgd hBl hhd)
  simp only [L7.hv] at hv
  rw [hv] at HOP
  clear hgood hgd hok hBl hB0 hv hhd
  go_enter Tryz.func40, Tryz.ntmps40
  go_wp2_with fail
  refine (HOP.out _ HG0.out.sizes).mono ?_
  rintro e w2 ⟨rfl, hb2⟩
  have hb3 := hb2.trans' (L5.below_alloc w2 (.cells #[.int .i64 hk, .int .i64 hl, .int .i64 n, .int .i64 hr, .int .i64 hs5] 78))
  have HK3 := Lib.hid (HK0.out.below hb3)
  have HB3 := Lib.hid (HB0.out.trans' hb3)
  have HH3 := Lib.hid (show L7.Bx 78 w2.heap.size ⟨hk, hl, n, hr, hs5⟩ (w2.alloc (.cells #[.int .i64 hk, .int .i64 hl, .int .i64 n, .int .i64 hr, .int .i64 hs5] 78)) from heap_alloc_new _ _)
  have HG3 := Lib.hid (HG0.out.on hb3)
  have hq : w.heap.size < w2.heap.size := by
    have h1 := hb2.size
    rw [lbox_size] at h1
    omega
  clear hb2 hb3 HK0 HB0 HG0 HOP
  go_wp2_with fail
  generalize hW3 : w2.alloc (.cells #[.int .i64 hk, .int .i64 hl, .int .i64 n, .int .i64 hr, .int .i64 hs5] 78) = W3 at *
  generalize w2.heap.size = q at *
  clear hW3
  refine (HRT.out B0 0 _ (by omega) (by omega)).mono ?_
  rintro e w4 ⟨h4, hb4⟩
  rcases h4 with ⟨h4, xe, hxe, rfl⟩ | ⟨T1, i1, h4, rfl⟩
  · have HD := Lib.hid (HP.out.n1 h4)
    have hxz : (xe != 0) = true := by simpa using hxe
    have HXE := Lib.hid hxe
    have hb5 := hb4.trans' (L5.below_alloc w4 (.cells #[.string ⟨#[]⟩] 9))
    have HK5 := Lib.hid (HK3.out.below hb5)
    have HB5 := Lib.hid (HB3.out.trans' hb5)
    clear h4 hb4 hb5 hxe
    obtain ⟨x0, x1, x2, x3⟩ := HK5.out.cells
    obtain ⟨f0, f1, f2, f3⟩ := HK5.out.free
    go_wp2_with fail
    refine (HTB.out _ xe _ HXE.out).mono ?_
    rintro e w5 ⟨⟨Z, te, ve, rfl⟩, rfl⟩
    go_wp2_with fail
    obtain ⟨r0, r1, r2, r3⟩ := (setL_box HK5.out 0 0 ⟨#[]⟩ none 0 0).cells
    unfold setL at r0 r1 r2 r3
    refine bodyPost_ret (v := .tuple #[lv 0 0 ⟨#[]⟩ none 0 0, .iface 88 (.agg #[.string Z, .iface te ve])]) (by simp [results, Tryz.results40, go_sem, r0, r1, r2, r3]) rfl ⟨HBAD.out HD.out _ _ _ _ _ _ _ _ _ _, ?_⟩
    exact setL_below HB5.out (Nat.le_refl _) 0 0 ⟨#[]⟩ none 0 0
  have hi1 := (L9.gtext_some h4)
  have H4 := Lib.hid h4
  have hb5 := hb4.trans' (L5.below_alloc w4 (.cells #[.string T1] 9))
  have HK5 := Lib.hid (HK3.out.below hb5)
  have HH5 := Lib.hid (HH3.out.below hb5)
  have HB5 := Lib.hid (HB3.out.trans' hb5)
  have HG5 := Lib.hid (HG3.out.on hb5)
  have HC5 : Hid ((w4.alloc (.cells #[.string T1] 9)).cell? ⟨w4.heap.size, 0, none⟩ = some (.string T1)) := Lib.hid (by simp)
  have HCL5 : Hid (w4.heap.size < (w4.alloc (.cells #[.string T1] 9)).heap.size) := Lib.hid (by simp)
  have hBl : B0.data.toList.length = B0.size := by simp
  have hT1 : T1.data.toList.length = T1.size := by simp
  have hT1s : T1.size ≤ 1000000 := by omega
  have hi1' : i1 ≤ B0.size := by omega
  have hq4 : q < w4.heap.size := by have := HH3.out.lt; have := hb4.size; omega
  clear h4 hb4 hb5 HK3 HH3 HB3 HG3 hi1
  go_wp2_with fail
  generalize w4.alloc (.cells #[.string T1] 9) = W5 at *
  generalize w4.heap.size = q4 at *
  refine (HRT.out B0 i1 _ hi1' (by omega)).mono ?_
  rintro e w6 ⟨h6, hb6⟩
  have HK6 := Lib.hid (HK5.out.below hb6)
  have HH6 := Lib.hid (HH5.out.below hb6)
  have HB6 := Lib.hid (HB5.out.trans' hb6)
  have HG6 := Lib.hid (HG5.out.on hb6)
  have HC6 := Lib.hid ((hb6.cell (p := ⟨q4, 0, none⟩) HCL5.out).trans HC5.out)
  have HCL6 := Lib.hid (Nat.lt_of_lt_of_le HCL5.out hb6.size)
  clear hb6 HK5 HH5 HB5 HG5 HC5 HCL5
  rcases h6 with ⟨h6, xe, hxe, rfl⟩ | ⟨T2, i2, h6, rfl⟩
  · have HD := Lib.hid (HP.out.n2 _ _ H4.out h6)
    have hxz : (xe != 0) = true := by simpa using hxe
    have HXE := Lib.hid hxe
    clear h6 hxe
    obtain ⟨x0, x1, x2, x3⟩ := HK6.out.cells
    obtain ⟨f0, f1, f2, f3⟩ := HK6.out.free
    go_wp2_with fail
    refine (HTB.out _ xe _ HXE.out).mono ?_
    rintro e w7 ⟨⟨Z, te, ve, rfl⟩, rfl⟩
    go_wp2_with fail
    obtain ⟨r0, r1, r2, r3⟩ := (setL_box HK6.out 0 0 ⟨#[]⟩ none 0 0).cells
    unfold setL at r0 r1 r2 r3
    refine bodyPost_ret (v := .tuple #[lv 0 0 ⟨#[]⟩ none 0 0, .iface 88 (.agg #[.string Z, .iface te ve])]) (by simp [results, Tryz.results40, go_sem, r0, r1, r2, r3]) rfl ⟨HBAD.out HD.out _ _ _ _ _ _ _ _ _ _, ?_⟩
    exact setL_below HB6.out (Nat.le_refl _) 0 0 ⟨#[]⟩ none 0 0
  have hi2 := (L9.gtext_some h6)
  have H6 := Lib.hid h6
  have hT2 : T2.data.toList.length = T2.size := by simp
  have hT2s : T2.size ≤ 1000000 := by omega
  have hi2' : i2 ≤ B0.size := by omega
  have HU := Lib.hid (fun W => L8.unpack_any B0 (i2 : Int) (n : Int) W (by simp [Lit.wf, IntKind.min, IntKind.max, IntKind.signed, IntKind.bits]; omega) (by simp [Lit.wf, IntKind.min, IntKind.max, IntKind.signed, IntKind.bits]; omega) (by unfold maxLen; omega))
  obtain ⟨y0, y1, y2, y3, y4⟩ := HH6.out.cells
  simp only at y0 y1 y2 y3 y4
  clear h6 hi2
  go_wp2_with fail
  refine (HU.out _).mono ?_
  rintro e w7 ⟨h7, hb7⟩
  have HK7 := Lib.hid (HK6.out.below hb7)
  have HH7 := Lib.hid (HH6.out.below hb7)
  have HB7 := Lib.hid (HB6.out.trans' hb7)
  have HG7 := Lib.hid (HG6.out.on hb7)
  have HC7 := Lib.hid ((hb7.cell (p := ⟨q4, 0, none⟩) HCL6.out).trans HC6.out)
  have HCL7 := Lib.hid (Nat.lt_of_lt_of_le HCL6.out hb7.size)
  clear hb7 HK6 HH6 HB6 HG6 HC6 HCL6 y0 y1 y2 y3 y4 HU
  rcases h7 with ⟨h7, -⟩ | ⟨-, h7, rfl⟩ | ⟨-, h7, g, cap, rfl, hgw, hcap, hL7⟩
  · exfalso
    omega
  · rw [Int.toNat_natCast, Int.toNat_natCast] at h7
    have HD := Lib.hid (HP.out.n3 _ _ _ _ H4.out H6.out h7)
    clear h7
    go_wp2_with fail
    refine (HTB.out _ 3 _ (by decide)).mono ?_
    rintro e w8 ⟨⟨Z, te, ve, rfl⟩, rfl⟩
    obtain ⟨x0, x1, x2, x3⟩ := HK7.out.cells
    obtain ⟨f0, f1, f2, f3⟩ := HK7.out.free
    go_wp2_with fail
    obtain ⟨r0, r1, r2, r3⟩ := (setL_box HK7.out 0 0 ⟨#[]⟩ none 0 0).cells
    unfold setL at r0 r1 r2 r3
    refine bodyPost_ret (v := .tuple #[lv 0 0 ⟨#[]⟩ none 0 0, .iface 88 (.agg #[.string Z, .iface te ve])]) (by simp [results, Tryz.results40, go_sem, r0, r1, r2, r3]) rfl ⟨HBAD.out HD.out _ _ _ _ _ _ _ _ _ _, ?_⟩
    exact setL_below HB7.out (Nat.le_refl _) 0 0 ⟨#[]⟩ none 0 0
  rw [Int.toNat_natCast, Int.toNat_natCast] at h7
  rw [Int.toNat_natCast] at hcap hL7 ⊢
  have H7 := Lib.hid h7
  have hcl := L8.cellsB_length B0 n
  have hcs := L8.cellsB_size B0 n
  have HE := Lib.hid (fun (h : One (L8.cellsB B0 n) ((L8.cellsB B0 n).map fun t => told3 t T1) q4 w7) => eachI_any (some ⟨g, 0, none⟩) (L8.cellsB B0 n) cap ((L8.cellsB B0 n).map fun t => told3 t T1) q4 w7 HG7.out.pow hL7 (by omega) (by simp) h)
  have HO := Lib.hid (one_of (L8.cellsB B0 n) T1 q4 w7 (fun t ht => by have := hcs t ht; omega) hT1s HC7.out HCL7.out)
  have hmap : allI ((L8.cellsB B0 n).map fun t => told3 t T1) = (mapV (L8.LP.cells B0.data.toList n)).map (List.map (item T1.data.toList)) := by
    rw [← L8.bs_cellsB B0 n]
    exact allI_mapV T1.data.toList (L8.cellsB B0 n)
  rw [hcl] at HE
  have HM := Lib.hid hmap
  clear h7 hcs hgw hcap hL7 hmap
  go_wp2_with fail
  refine (HE.out HO.out).mono ?_
  rintro e w8 ⟨h8, hb8⟩
  have HK8 := Lib.hid (HK7.out.below hb8)
  have HH8 := Lib.hid (HH7.out.below hb8)
  have HB8 := Lib.hid (HB7.out.trans' hb8)
  have HG8 := Lib.hid (HG7.out.on hb8)
  have hq7 : w.heap.size < w7.heap.size := HK7.out.lt
  have hq8 := hb8.size
  clear hb8 HK7 HH7 HB7 HG7 HC7 HCL7 HE HO
  rcases h8 with ⟨xs, h8, hxl, rfl, hL8⟩ | ⟨h8, Z, te, ve, rfl⟩
  rotate_left
  · have HD : Hid (dec s = none) := Lib.hid (by
      refine HP.out.n4 _ _ _ _ H4.out H6.out H7.out ?_
      have h := HM.out
      rw [h8] at h
      exact Option.map_eq_none_iff.1 h.symm)
    clear h8
    obtain ⟨x0, x1, x2, x3⟩ := HK8.out.cells
    obtain ⟨f0, f1, f2, f3⟩ := HK8.out.free
    go_wp2_with fail
    obtain ⟨r0, r1, r2, r3⟩ := (setL_box HK8.out 0 0 ⟨#[]⟩ none 0 0).cells
    unfold setL at r0 r1 r2 r3
    refine bodyPost_ret (v := .tuple #[lv 0 0 ⟨#[]⟩ none 0 0, .iface 88 (.agg #[.string Z, .iface te ve])]) (by simp [results, Tryz.results40, go_sem, r0, r1, r2, r3]) rfl ⟨HBAD.out HD.out _ _ _ _ _ _ _ _ _ _, ?_⟩
    exact setL_below HB8.out (Nat.le_refl _) 0 0 ⟨#[]⟩ none 0 0
  have hfew := L8.good_few H7.out
  have hxs : n ≤ 1000 := by
    have h1 : (L5.B B0).length = B0.size := L5.b_size B0
    have h2 : B0.data.toList.length = B0.size := by simp
    omega
  have HD : Hid (dec s = if enc ⟨hs5, hr, T2, xs⟩ s.size = (s, 0) then some ⟨hs5, hr, T2, xs⟩ else none) := Lib.hid (by
    have h := HM.out
    rw [h8] at h
    obtain ⟨ys, hy, hxy⟩ := Option.map_eq_some_iff.1 h.symm
    have h2 := HP.out.ok _ _ _ _ _ H4.out H6.out H7.out hy
    rw [hxy, bytes_eq] at h2
    exact h2)
  have HX := Lib.hid hxl
  have hb9 := L5.below_alloc w8 (.cells #[.int .i64 hs5, .int .i64 hr, .string T2, .slice (some ⟨w7.heap.size, 0, none⟩) n n] 24)
  have HL9 := Lib.hid (hL8.on hb9)
  have HK9 := Lib.hid (HK8.out.below hb9)
  have HB9 := Lib.hid (HB8.out.trans' hb9)
  have HG9 := Lib.hid (HG8.out.on hb9)
  have HN9 := Lib.hid (show LBx 24 w8.heap.size hs5 hr T2 (some ⟨w7.heap.size, 0, none⟩) n n (w8.alloc (.cells #[.int .i64 hs5, .int .i64 hr, .string T2, .slice (some ⟨w7.heap.size, 0, none⟩) n n] 24)) from heap_alloc_new _ _)
  obtain ⟨y0, y1, y2, y3, y4⟩ := HH8.out.cells
  simp only at y0 y1 y2 y3 y4
  clear h8 hL8 hb9 hfew HK8 HH8 HB8 HG8 hxl hcl hBl hT1 hT2
  go_wp2_with fail
  generalize hW9 : w8.alloc (.cells #[.int .i64 hs5, .int .i64 hr, .string T2, .slice (some ⟨w7.heap.size, 0, none⟩) n n] 24) = W9 at *
  have hq9 : w.heap.size ≠ w7.heap.size := by omega
  have hq89 : w.heap.size ≠ w8.heap.size := by omega
  generalize w8.heap.size = q8 at *
  generalize w7.heap.size = q7 at *
  clear hW9 y0 y1 y2 y3 y4
  have HAG : Hid (∀ W, Below W9.heap.size W9 W → Calls Tryz.prog 80 #[lv hs5 hr T2 (some ⟨q7, 0, none⟩) n n, .string s] W fun e w' => (∃ X, e = .returned X ∧ AgainX ⟨hs5, hr, T2, xs⟩ s X) ∧ Below W9.heap.size W9 w') := Lib.hid (fun W hb =>
    (againX hs5 hr T2 (some ⟨q7, 0, none⟩) xs n s W (HG9.out.on hb).sizes (HL9.out.on hb) HX.out hxs (by unfold maxLen; omega) hs).mono fun e w' ⟨h1, h2⟩ => ⟨h1, hb.trans' h2⟩)
  obtain ⟨y0, y1, y2, y3⟩ := HN9.out.cells
  go_region_with (go_at_call 80; refine (HAG.out _ (by first | exact Below.refl _ _ | exact L5.below_drewN (Below.refl _ _) 1)).mono ?_; rintro e V ⟨⟨X, rfl, hX⟩, hb⟩; have HXX := Lib.hid hX; have HBV := Lib.hid hb; obtain ⟨z0, z1, z2, z3⟩ := (HN9.out.below hb).cells; obtain ⟨x0, x1, x2, x3⟩ := (HK9.out.below hb).cells; obtain ⟨f0, f1, f2, f3⟩ := (HK9.out.below hb).free; clear hX hb)
  all_goals
    go_wp2_with fail
    obtain ⟨r0, r1, r2, r3⟩ := (setL_box (HK9.out.below HBV.out) hs5 hr T2 (some ⟨q7, 0, none⟩) n n).cells
    unfold setL at r0 r1 r2 r3
    have hlies : Lies5 (setL V w.heap.size hs5 hr T2 (some ⟨q7, 0, none⟩) n n) (setL V w.heap.size hs5 hr T2 (some ⟨q7, 0, none⟩) n n).heap.size (some ⟨q7, 0, none⟩) xs := by
      rw [setL_size]
      exact setL_lies (HL9.out.on HBV.out) (fun a ha => by
        obtain rfl := Option.some.inj ha
        exact fun h => hq9 h.symm) hs5 hr T2 (some ⟨q7, 0, none⟩) n n
    refine bodyPost_ret (v := .tuple #[lv hs5 hr T2 (some ⟨q7, 0, none⟩) n n, X]) (by simp [results, Tryz.results40, go_sem, r0, r1, r2, r3]) rfl ⟨?_, ?_⟩
    · rcases HXX.out with ⟨he, rfl⟩ | ⟨he, Z, te, ve, rfl⟩
      · refine .inl ⟨⟨hs5, hr, T2, xs⟩, q7, by rw [HD.out, if_pos he], by omega, by simp only [HX.out], ?_⟩
        exact hlies
      · exact HBAD.out (by rw [HD.out, if_neg he]) _ _ _ _ _ _ _ _ _ _
    · first | exact setL_below (HB9.out.trans' HBV.out) (Nat.le_refl _) hs5 hr T2 (some ⟨q7, 0, none⟩) n n | exact (setL_below (HB9.out.trans' HBV.out) (Nat.le_refl _) hs5 hr T2 (some ⟨q7, 0, none⟩) n n).drew
end Go.Proofs.YtpehkikdmckldaaGreatDoor
