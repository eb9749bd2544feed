/-
  The walk of the document's Cells.
-/
import Derived.Test.YtpehkikdmckldaaGreatDoorJ26
import Derived.Test.YtpehkikdmckldaaGreatDoorJ05
import Derived.Deep.RegionHeld3
namespace Go.Proofs.YtpehkikdmckldaaGreatDoor
open Go.RowKit NP
set_option linter.unusedVariables false
set_option linter.unusedSimpArgs false

theorem cells_snoc {l m : List It} {k : Nat} {x : It} (hc : l[k]? = some x) : (l.take (k + 1)).map (cellOf m) = (l.take k).map (cellOf m) ++ [cellOf m x] := by
  rw [take_snoc hc]
  simp
theorem rputC {H : ByteArray} {l : List It} (hf : Fit H l) {k : Nat} {K : ByteArray} {O : Bool} {S : ByteArray} {L P : Int} (hc : l[k]? = some ⟨K, O, S, L, P⟩) (W : World) :
    Calls Tryz.prog 70 #[.string (L5.bare (L5.sp (ks l)) K), .agg #[.bool O, .string S, .int .i64 L, .int .i64 P]] W fun e w' => e = .returned (.tuple #[.string (cellOf l ⟨K, O, S, L, P⟩), .int .i64 0]) ∧ Below W.heap.size W w' := by
  have hm := List.mem_of_getElem? hc
  have h1 := hf.key _ hm
  have h2 : (L5.bare (L5.sp (ks l)) K).size ≤ K.size := by simp [L5.bare]
  have h3 := hf.text _ hm
  simp only at h1 h3
  refine (L9.rputv_any (L5.bare (L5.sp (ks l)) K) O S L P W (by omega) (by omega)).mono fun e w' ⟨e1, e2⟩ => ⟨?_, e2⟩
  have h4 := bare_list (L5.sp (ks l)) K
  rw [sp_keys] at h4
  have hok : L9.VP.OkV (L5.bare (L5.sp (ks l)) K).data.toList (L9.pv O S L P) := by
    rw [sp_keys, h4]
    exact hf.ok _ hm
  rw [e1]
  unfold L9.putVV
  rw [if_pos hok]
  rfl
set_option maxHeartbeats 4000000 in
set_option maxRecDepth 100000 in
theorem rcells_any (F R : Int) (H : ByteArray) (A : Option Addr) (l : List It) (ca : Nat) (w : World) (ha : Lies5 w w.heap.size A l) (hf : Fit H l) :
    Calls Tryz.prog 38 #[lv F R H A l.length ca] w fun e w' => ∃ G cap, e = .returned (.slice G l.length cap) ∧ L5.Lies w' w'.heap.size G (cellsS l) ∧ Below w.heap.size w w' := by
  obtain ⟨i0, hi, hz0, hz1, hz2⟩ := info_parts L5.Tryz.infoStr
  have hb0 := lbox_below 34 F R H A l.length ca w
  have HB0 := Lib.hid hb0
  have HA := Lib.hid (ha.on hb0)
  have HK := Lib.hid (lbox_new 34 F R H A l.length ca w)
  have HR := Lib.hid (rkeys_any F R H A l ca _ (ha.on hb0) hf.few)
  have HS := Lib.hid (fun G cap W (h : L5.Lies W W.heap.size G (ks l)) => L5.rstrip_any G (ks l) cap W h (by rw [ks_length]; exact hf.few) (fun s hs => by
    obtain ⟨x, hx, rfl⟩ := List.mem_map.1 hs
    exact hf.key x hx))
  have HPV := Lib.hid (fun k K O S L P hc W => rputC hf (k := k) (K := K) (O := O) (S := S) (L := L) (P := P) hc W)
  have HEQ : Hid (cellsS l = l.map (cellOf l)) := Lib.hid rfl
  have hl := hf.few
  obtain ⟨n, hn⟩ : ∃ n, n = l.length := ⟨_, rfl⟩
  have HN := Lib.hid hn
  rw [ks_length] at HS
  rw [← hn]
  rw [← hn] at hl HK HB0 HA HR HS
  clear ha hf hn hb0
  simp only [lbox] at HK HB0 HA HR
  go_enter Tryz.func38, Tryz.ntmps38
  go_wp2_with fail
  refine HR.out.mono ?_
  rintro e W2 ⟨G, cap0, rfl, hL, hb2⟩
  go_wp2_with fail
  refine (HS.out G cap0 _ hL).mono ?_
  rintro e w1 ⟨G3, cap3, rfl, hL3, hb3⟩
  have HK3 := Lib.hid ((HK.out.below hb2).below hb3)
  have HB3 := Lib.hid ((HB0.out.trans' hb2).trans' hb3)
  have HA3 := Lib.hid ((HA.out.on hb2).on hb3)
  have HL3 := Lib.hid hL3
  have hlt1 := HK3.out.lt
  clear hL hb2 hb3 hL3 HR HS HK HB0 HA
  go_wp2_with fail
  go_loopw [5, 6] (fun ov iv wr => ∃ (k g cap : Nat), k ≤ n ∧ iv = .int .i64 k ∧ ov = .slice (some ⟨g, 0, none⟩) k cap ∧ Hid (L5.Owns wr w1.heap.size (.slice (some ⟨g, 0, none⟩) k cap) k ((l.take k).map (cellOf l))) ∧ Below w1.heap.size w1 wr) (fun _ iv _ => n - (intOf iv).toNat)
  case atStart =>
    exact ⟨0, w1.heap.size, 0, by omega, rfl, rfl, Lib.hid (L5.own_empty w1 _), L5.below_alloc _ _⟩
  case round =>
    obtain ⟨k, g, cap, hk, rfl, rfl, HO, hbr⟩ := hrel
    by_cases hlt : k < n
    · obtain ⟨⟨KK, O, S, L, P⟩, hc⟩ : ∃ c, l[k]? = some c := ⟨_, List.getElem?_eq_getElem (by have := HN.out; omega)⟩
      obtain ⟨a, rfl, hab, x0, x1, x2, x3, x4⟩ := (HA3.out.below hbr).load hc
      obtain ⟨b, rfl, hbb, y0⟩ := (HL3.out.below hbr) k (L5.bare (L5.sp (ks l)) KK) (by simp [L5.bares, ks, hc])
      obtain ⟨p0, p1, p2, p3⟩ := (HK3.out.below hbr).cells
      have HC : Hid ((l.take (k + 1)).map (cellOf l) = (l.take k).map (cellOf l) ++ [cellOf l ⟨KK, O, S, L, P⟩]) := Lib.hid (cells_snoc hc)
      have HP := Lib.hid (HPV.out k KK O S L P hc)
      have hbs := hbr.size
      have h0 : (0 : Int) ≤ k := by omega
      have hkn : (k : Int) < n := by omega
      generalize cellOf l ⟨KK, O, S, L, P⟩ = cc at *
      generalize L5.bare (L5.sp (ks l)) KK = kk at *
      have HST : Hid (∀ V, Below wr.heap.size wr V → (Hid (Below wr.heap.size wr V) ∧ V.cell? (b.add k) = some (.string kk) ∧ V.cell? ⟨w.heap.size, 3, none⟩ = some (.slice (some a) n ca) ∧ V.cell? ⟨(a.add (k * 5)).block, (a.add (k * 5)).off + 1, none⟩ = some (.bool O) ∧ V.cell? ⟨(a.add (k * 5)).block, (a.add (k * 5)).off + 2, none⟩ = some (.string S) ∧ V.cell? ⟨(a.add (k * 5)).block, (a.add (k * 5)).off + 3, none⟩ = some (.int .i64 L) ∧ V.cell? ⟨(a.add (k * 5)).block, (a.add (k * 5)).off + 4, none⟩ = some (.int .i64 P))) := Lib.hid (fun V hb => by
        have ha' : (a.add (k * 5)).block < wr.heap.size := by rw [L5.addr_block]; omega
        exact ⟨Lib.hid hb, (hb.cell (by rw [L5.addr_block]; omega)).trans y0, (hb.cell (p := ⟨w.heap.size, 3, none⟩) (by show w.heap.size < wr.heap.size; omega)).trans p3, (hb.cell (p := ⟨(a.add (k * 5)).block, (a.add (k * 5)).off + 1, none⟩) ha').trans x1, (hb.cell (p := ⟨(a.add (k * 5)).block, (a.add (k * 5)).off + 2, none⟩) ha').trans x2, (hb.cell (p := ⟨(a.add (k * 5)).block, (a.add (k * 5)).off + 3, none⟩) ha').trans x3, (hb.cell (p := ⟨(a.add (k * 5)).block, (a.add (k * 5)).off + 4, none⟩) ha').trans x4⟩)
      have hSd := HST.out _ (L5.below_drewN (Below.refl _ wr) 1)
      clear hc hab hbb x0 x1 x2 x3 x4 y0 p0 p1 p2
      go_wp2_with fail
      go_region_held3 (fun V => Hid (Below wr.heap.size wr V) ∧ V.cell? (b.add k) = some (.string kk) ∧ V.cell? ⟨w.heap.size, 3, none⟩ = some (.slice (some a) n ca) ∧ V.cell? ⟨(a.add (k * 5)).block, (a.add (k * 5)).off + 1, none⟩ = some (.bool O) ∧ V.cell? ⟨(a.add (k * 5)).block, (a.add (k * 5)).off + 2, none⟩ = some (.string S) ∧ V.cell? ⟨(a.add (k * 5)).block, (a.add (k * 5)).off + 3, none⟩ = some (.int .i64 L) ∧ V.cell? ⟨(a.add (k * 5)).block, (a.add (k * 5)).off + 4, none⟩ = some (.int .i64 P))
        (first | assumption | exact hSd)
        (first
          | (go_at_call 70; refine (HP.out _).mono ?_; rintro e V ⟨rfl, hb⟩; have HBV := Lib.hid ((by assumption : Hid (Below wr.heap.size wr _) ∧ _).1.out.trans' hb); have hSn := HST.out _ HBV.out; clear hb)
          | fail "no arm")
      have HOV := Lib.hid (L5.own_below HO.out HBV.out)
      have HW1 := Lib.hid (hbr.trans (HBV.out.mono hbs))
      have hbs2 := HBV.out.size
      go_wp2_with (at_builtin; refine wpList_append_lies _ rfl _ _ 66 rfl w1.heap.size 9 i0 (.string ⟨#[]⟩) 1 16 Tryz.underlying66 hi hz0 hz1 hz2 rfl (by decide) (.slice (some ⟨g, 0, none⟩) k cap) k _ rfl (HOV.out.alloc _) ⟨V.heap.size, 0, none⟩ 1 1 [.string cc] rfl rfl (World.news_of_block (cs := #[.string cc]) (t := 9) (fr := (0, 0)) (heap_alloc_new V _)) (L5.str_one _) (by omega) (by unfold maxLen; omega) (by omega) (by simp; omega) (V.heap.size + 1) (by simp) ?_; intro g' cap' w2 hown' hgrow hat hlt2; have hb3 : Below w1.heap.size V w2 := ((Below.refl _ V).alloc (by omega) (.cells #[.string cc] 9)).trans (L5.own_apart (HOV.out.alloc _) hgrow (Nat.le_refl _) (by simp; omega)); clear hat hlt2 hgrow)
      have hb4 := HW1.out.trans hb3
      go_roundw
      case rel => exact ⟨k + 1, g', cap', by omega, by simp, rfl, Lib.hid (by rw [HC.out, L5.Owns, L5.strCells_snoc]; exact hown'), hb4⟩
      case measure => simp [intOf]; omega
    · obtain rfl : k = n := by omega
      have HL : Hid (L5.Lies wr wr.heap.size (some ⟨g, 0, none⟩) (cellsS l)) := Lib.hid (by
        have h := HO.out
        rw [List.take_of_length_le (by have := HN.out; omega), ← HEQ.out] at h
        exact L5.lies_own h (by rw [cellsS_length]; exact HN.out))
      have hlt' : ¬ (k : Int) < k := by omega
      go_wp2_with fail
      go_ret
      exact ⟨some ⟨g, 0, none⟩, ⟨cap, rfl⟩, HL.out, HB3.out.trans' hbr⟩
end Go.Proofs.YtpehkikdmckldaaGreatDoor
