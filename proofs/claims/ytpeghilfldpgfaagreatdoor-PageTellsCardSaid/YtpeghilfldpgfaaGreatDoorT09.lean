import Derived.Test.YtpeghilfldpgfaaGreatDoorT08
import Derived.Test.YtpeghilfldpgfaaGreatDoorTNSame
import Derived.Test.YtpeghilfldpgfaaGreatDoorTVPut
import Derived.Deep.Upon
set_option linter.unusedVariables false
set_option linter.unusedSimpArgs false
set_option maxHeartbeats 8000000
set_option maxRecDepth 100000
namespace Go.Proofs.YtpeghilfldpgfaaGreatDoor.L10
open Go.RowKit NP
theorem text_any (s : ByteArray) (w : World) (hs : s.size ≤ 1000000) : Calls Tryz.prog 119 #[.string s] w fun e w' => e = .returned (.string (L9.textS s)) ∧ Below w.heap.size w w' := by
 have HT := zj (L9.textS_eq s s.size rfl); have HP := zj (fun W => L9.put_any (s.size : Int) W (by omega) (by omega)); have hsz := L9.wput_size s.size (by omega); obtain ⟨Z, hZ⟩ : ∃ Z : ByteArray, (⟨(L9.WP.put s.size).toArray⟩ : ByteArray) = Z := ⟨_, rfl⟩; rw [Int.toNat_natCast] at HP; rw [hZ] at HP HT hsz
 have hw : IntKind.u64.wrap (s.size : Int) = s.size := by rw [IntKind.wrap_u64]; omega
 have h9 : ¬ 9223372036854775807 < Z.size + s.size := by omega
 have h9' : ¬ (9223372036854775807 : Int) < (Z.size : Int) + (s.size : Int) := by omega
 clear hZ; go_enter Tryz.func119, Tryz.ntmps119; go_wp2_with fail; refine (HP.out _).mono ?_; rintro e w2 ⟨rfl, hb2⟩; go_wp2_with fail; go_ret; exact ⟨by rw [HT.out]; rfl, hb2⟩
def errV (part : ByteArray) (e : Int) : Value := .iface 116 (.agg #[.string part, .iface 36 (.int .i64 e)])
theorem told_ok (part : ByteArray) (w : World) : Calls Tryz.prog 85 #[.string part, .int .i64 0] w fun e w' => e = .returned .nilIface ∧ Below w.heap.size w w' := by
 go_enter Tryz.func85, Tryz.ntmps85; go_wp2_with fail; go_ret; exact ⟨rfl, Below.refl _ _⟩
theorem parts1_any (i : Int) (K : ByteArray) (O : Bool) (S : ByteArray) (L P : Int) (w : World) :
  Calls Tryz.prog 115 #[.int .i64 i, iv K O S L P] w fun e w' => e = .returned (.tuple #[.string K, .nilIface]) ∧ Below w.heap.size w w' := by
 go_enter Tryz.func115, Tryz.ntmps115; go_wp2_with fail
 go_ret2
 exact ⟨rfl, L5.below_alloc _ _⟩
theorem putOk {t : ByteArray} {v : L9.VP.V} (h : L9.VP.OkV t.data.toList v) : L9.putVV t v = .tuple #[.string (L9.cellS t v), .int .i64 0] := by
 unfold L9.putVV; rw [if_pos h]
theorem parts2_any (k : Nat) (K : ByteArray) (O : Bool) (S : ByteArray) (L P : Int) (g : Nat) (G : Option Addr) (ts : List ByteArray) (cap : Nat) (t : ByteArray) (w : World) (hc : w.cell? ⟨g, 0, none⟩ = some (.slice G ts.length cap)) (hg : g < w.heap.size) (hl : L5.Lies w w.heap.size G ts) (hk : ts[k]? = some t) (hn : ts.length ≤ 1000000)
  (ht : t.size ≤ 1000000) (hs : S.size ≤ 1000000) (hok : L9.VP.OkV t.data.toList (L9.pv O S L P)) :
  Calls Tryz.prog 117 #[.int .i64 k, iv K O S L P, .pointer (some ⟨g, 0, none⟩)] w fun e w' => e = .returned (.tuple #[.string (L9.cellS t (L9.pv O S L P)), .nilIface]) ∧ Below w.heap.size w w' := by
 have HP := zj (fun W => L9.putv_any t O S L P W ht hs); rw [putOk hok] at HP; have hkn : k < ts.length := (List.getElem?_eq_some_iff.1 hk).1; have hb0 := L5.below_alloc w (.cells #[.string K, .bool O, .string S, .int .i64 L, .int .i64 P] 127); obtain ⟨a, rfl, hab, x0⟩ := (hl.below hb0) k t hk; have hc0 : (w.alloc (.cells #[.string K, .bool O, .string S, .int .i64 L, .int .i64 P] 127)).cell? ⟨g, 0, none⟩ = some (.slice (some a) ts.length cap) := (hb0.cell (p := ⟨g, 0, none⟩) hg).trans hc; have HI := IBx.new 127 K O S L P w
 have HS : Hid (∀ V, Below (w.alloc (.cells #[.string K, .bool O, .string S, .int .i64 L, .int .i64 P] 127)).heap.size (w.alloc (.cells #[.string K, .bool O, .string S, .int .i64 L, .int .i64 P] 127)) V → (Hid (Below (w.alloc (.cells #[.string K, .bool O, .string S, .int .i64 L, .int .i64 P] 127)).heap.size (w.alloc (.cells #[.string K, .bool O, .string S, .int .i64 L, .int .i64 P] 127)) V) ∧ V.cell? ⟨g, 0, none⟩ = some (.slice (some a) ts.length cap) ∧ V.cell? (a.add k) = some (.string t) ∧ V.cell? ⟨w.heap.size, 1, none⟩ = some (.bool O) ∧ V.cell? ⟨w.heap.size, 2, none⟩ = some (.string S) ∧ V.cell? ⟨w.heap.size, 3, none⟩ = some (.int .i64 L) ∧ V.cell? ⟨w.heap.size, 4, none⟩ = some (.int .i64 P))) := zj (fun V hb => by
  obtain ⟨b0, b1, b2, b3, b4⟩ := (HI.below hb).cells
  exact ⟨zj hb, (hb.cell (p := ⟨g, 0, none⟩) (Nat.lt_of_lt_of_le hg hb0.size)).trans hc0, (hb.cell (p := a.add k) (by rw [L5.addr_block]; exact Nat.lt_of_lt_of_le hab hb0.size)).trans x0, b1, b2, b3, b4⟩)
 have HB0 := zj hb0; generalize L9.cellS t (L9.pv O S L P) = Z at *; generalize ts.length = n at *; clear hok hl hc hg hk hab x0 hc0 HI hb0; go_enter Tryz.func117, Tryz.ntmps117; go_wp2_with fail; generalize w.alloc (.cells #[.string K, .bool O, .string S, .int .i64 L, .int .i64 P] 127) = W0 at *; have hSd := HS.out _ (L5.below_drewN (Below.refl _ W0) 1); have hS0 := HS.out _ (Below.refl _ W0)
 go_region_held3 (fun V => Hid (Below W0.heap.size W0 V) ∧ V.cell? ⟨g, 0, none⟩ = some (.slice (some a) n cap) ∧ V.cell? (a.add k) = some (.string t) ∧ V.cell? ⟨w.heap.size, 1, none⟩ = some (.bool O) ∧ V.cell? ⟨w.heap.size, 2, none⟩ = some (.string S) ∧ V.cell? ⟨w.heap.size, 3, none⟩ = some (.int .i64 L) ∧ V.cell? ⟨w.heap.size, 4, none⟩ = some (.int .i64 P))
  (first | assumption | exact hSd)
  (first
   | (go_at_call 118; refine (HP.out _).mono ?_; rintro e V ⟨rfl, hb⟩; have HBV := zj ((by assumption : Hid (Below W0.heap.size W0 _) ∧ _).1.out.trans' hb); have hSn := HS.out _ HBV.out; clear hb)
   | fail "no arm")
 all_goals
  go_wp2_with fail; refine (told_ok _ _).mono ?_; rintro e V2 ⟨rfl, hb2⟩; go_wp2_with fail
  go_ret2
  exact ⟨rfl, (HB0.out.trans' HBV.out).trans' hb2⟩
def fillTo (ys : List ByteArray) (k : Nat) : List Value := L5.strCells (ys.take k) ++ List.replicate (ys.length - k) (.string ⟨#[]⟩)
theorem fillTo_zero (l : List ByteArray) : fillTo l 0 = List.replicate l.length (.string ⟨#[]⟩) := by simp [fillTo, L5.strCells]
theorem fillTo_full (l : List ByteArray) : fillTo l l.length = L5.strCells l := by simp [fillTo]
theorem fillTo_set (l : List ByteArray) (k : Nat) (s : ByteArray) (h : l[k]? = some s) : (fillTo l k).set k (.string s) = fillTo l (k + 1) := by
 have hk : k < l.length := (List.getElem?_eq_some_iff.1 h).1
 have h1 : l.take (k + 1) = l.take k ++ [s] := by rw [List.take_add_one, h]; rfl
 have hlen : (L5.strCells (l.take k)).length = k := by simp [L5.strCells]; omega
 rw [fillTo, List.set_append_right _ _ (by omega), hlen, Nat.sub_self, fillTo, h1, show l.length - k = (l.length - (k + 1)) + 1 by omega, List.replicate_succ, List.set_cons_zero]; simp [L5.strCells]
theorem fillTo_at (l : List ByteArray) (k : Nat) (h : k < l.length) : (fillTo l k)[k]? = some (.string ⟨#[]⟩) := by
 have hlen : (L5.strCells (l.take k)).length = k := by simp [L5.strCells]; omega
 rw [fillTo, List.getElem?_append_right (by omega), hlen, Nat.sub_self, List.getElem?_replicate, if_pos (by omega)]
theorem each1_any (A : Option Addr) (l : List It) (ca : Nat) (ys : List ByteArray) (w : World) (ha : Lies5 w w.heap.size A l) (hl : l.length ≤ 100000) (hy : ys.length = l.length)
  (hf : ∀ (k : Nat) (K : ByteArray) (O : Bool) (S : ByteArray) (L P : Int) (y : ByteArray) (W : World), l[k]? = some ⟨K, O, S, L, P⟩ → ys[k]? = some y → Below w.heap.size w W → Calls Tryz.prog 115 #[.int .i64 k, iv K O S L P] W fun e w' => e = .returned (.tuple #[.string y, .nilIface]) ∧ Below W.heap.size W w') :
  Calls Tryz.prog 114 #[.slice A l.length ca, .func (.func 115) #[] #[]] w fun e w' => ∃ G, e = .returned (.tuple #[.slice G ys.length ys.length, .nilIface]) ∧ L5.Lies w' w'.heap.size G ys ∧ Below w.heap.size w w' := by
 obtain ⟨i0, hi, hz0, hz1, hz2⟩ := info_parts L5.Tryz.infoStr; have HA := zj ha; have HF := zj hf; obtain ⟨n, hn⟩ : ∃ n, n = l.length := ⟨_, rfl⟩; have HN := zj hn; have HY : Hid (ys.length = n) := zj (by omega); rw [← hn]; rw [← hn] at hl; rw [HY.out]; clear ha hf hn hy; go_enter Tryz.func114, Tryz.ntmps114; go_wp2_with (at_make; refine wpList_make_full _ rfl _ _ 22 rfl w.heap.size 9 i0 (.string ⟨#[]⟩) 1 Tryz.underlying22 hi hz0 hz1 _ _ _ _ n rfl rfl rfl rfl (by rw [hz2]; omega) (by unfold maxLen; omega) (Nat.le_refl _) ?_; intro w2 hown2 hg2); have hb2 : Below w.heap.size w w2 := (Below.refl _ w).grown hg2 (Nat.le_refl _) (by simp); rw [L5.made_blank] at hown2; have HO2 : Hid (w2.ownsRow w.heap.size 9 1 (.slice (some ⟨w.heap.size, 0, none⟩) n n) n (fillTo ys 0)) := zj (by rw [fillTo_zero, HY.out]; exact hown2); clear hown2 hg2
 go_loopw [16] (fun iv wr => ∃ k : Nat, k ≤ n ∧ iv = .int .i64 k ∧ Hid (wr.ownsRow w.heap.size 9 1 (.slice (some ⟨w.heap.size, 0, none⟩) n n) n (fillTo ys k)) ∧ Below w.heap.size w wr) (fun iv _ => n - (intOf iv).toNat)
 case atStart => exact ⟨0, Nat.zero_le _, rfl, HO2, hb2⟩
 case round =>
  obtain ⟨k, hk, rfl, HO, hbr⟩ := hrel; by_cases hlt : k < n
  ·obtain ⟨⟨K, O, S, L, P⟩, hc⟩ : ∃ c, l[k]? = some c := ⟨_, List.getElem?_eq_getElem (by have := HN.out; omega)⟩
   obtain ⟨y, hd⟩ : ∃ c, ys[k]? = some c := ⟨_, List.getElem?_eq_getElem (by have := HY.out; omega)⟩; obtain ⟨a, rfl, hab, x0, x1, x2, x3, x4⟩ := (HA.out.below hbr).load hc; have hbq := L5.below_alloc wr (.cells #[.string K, .bool O, .string S, .int .i64 L, .int .i64 P] 127); have HCL := zj (HF.out k K O S L P y _ hc hd (hbr.trans' hbq)); have HOQ := zj (L5.own_below HO.out hbq); have HD := zj hd; clear hc hd hab; go_wp2_with fail; refine HCL.out.mono ?_; rintro e w3 ⟨rfl, hb3⟩; have HO3 := zj (L5.own_below HOQ.out hb3); have hb13 := (hbr.trans' hbq).trans' hb3
   have hcell : w3.cell? ⟨w.heap.size, k, none⟩ = some (.string ⟨#[]⟩) := by
    rw [HO3.out.cellAt k (by omega), fillTo_at ys k (by have := HY.out; omega)]
   have hfr := HO3.out.frozenAt k; clear HCL hbq hb3 hbr x0 x1 x2 x3 x4; go_wp2_with fail
   go_roundw
   case rel =>
    refine ⟨k + 1, by omega, by simp, zj ?_, hb13.setCell (Nat.le_refl _) _⟩; have h := (HO3.out.stored k (.string y)).1; rwa [fillTo_set ys k y HD.out] at h
   case measure => simp [intOf]; omega
  ·obtain rfl : k = n := by omega
   have HL : Hid (L5.Lies wr wr.heap.size (some ⟨w.heap.size, 0, none⟩) ys) := zj (by
    have h := HO.out; rw [show fillTo ys k = L5.strCells ys by rw [← HY.out, fillTo_full]] at h
    exact L5.lies_own h HY.out.symm)
   go_wp2_with fail
   go_ret2
   exact ⟨_, rfl, HL.out, hbr⟩
theorem each2_any (A : Option Addr) (l : List It) (ca : Nat) (ys : List ByteArray) (g : Nat) (w : World) (ha : Lies5 w w.heap.size A l) (hl : l.length ≤ 100000) (hy : ys.length = l.length)
  (hf : ∀ (k : Nat) (K : ByteArray) (O : Bool) (S : ByteArray) (L P : Int) (y : ByteArray) (W : World), l[k]? = some ⟨K, O, S, L, P⟩ → ys[k]? = some y → Below w.heap.size w W → Calls Tryz.prog 117 #[.int .i64 k, iv K O S L P, .pointer (some ⟨g, 0, none⟩)] W fun e w' => e = .returned (.tuple #[.string y, .nilIface]) ∧ Below W.heap.size W w') :
  Calls Tryz.prog 114 #[.slice A l.length ca, .func (.func 117) #[] #[.pointer (some ⟨g, 0, none⟩)]] w fun e w' => ∃ G, e = .returned (.tuple #[.slice G ys.length ys.length, .nilIface]) ∧ L5.Lies w' w'.heap.size G ys ∧ Below w.heap.size w w' := by
 obtain ⟨i0, hi, hz0, hz1, hz2⟩ := info_parts L5.Tryz.infoStr; have HA := zj ha; have HF := zj hf; obtain ⟨n, hn⟩ : ∃ n, n = l.length := ⟨_, rfl⟩; have HN := zj hn; have HY : Hid (ys.length = n) := zj (by omega); rw [← hn]; rw [← hn] at hl; rw [HY.out]; clear ha hf hn hy; go_enter Tryz.func114, Tryz.ntmps114; go_wp2_with (at_make; refine wpList_make_full _ rfl _ _ 22 rfl w.heap.size 9 i0 (.string ⟨#[]⟩) 1 Tryz.underlying22 hi hz0 hz1 _ _ _ _ n rfl rfl rfl rfl (by rw [hz2]; omega) (by unfold maxLen; omega) (Nat.le_refl _) ?_; intro w2 hown2 hg2); have hb2 : Below w.heap.size w w2 := (Below.refl _ w).grown hg2 (Nat.le_refl _) (by simp); rw [L5.made_blank] at hown2; have HO2 : Hid (w2.ownsRow w.heap.size 9 1 (.slice (some ⟨w.heap.size, 0, none⟩) n n) n (fillTo ys 0)) := zj (by rw [fillTo_zero, HY.out]; exact hown2); clear hown2 hg2
 go_loopw [16] (fun iv wr => ∃ k : Nat, k ≤ n ∧ iv = .int .i64 k ∧ Hid (wr.ownsRow w.heap.size 9 1 (.slice (some ⟨w.heap.size, 0, none⟩) n n) n (fillTo ys k)) ∧ Below w.heap.size w wr) (fun iv _ => n - (intOf iv).toNat)
 case atStart => exact ⟨0, Nat.zero_le _, rfl, HO2, hb2⟩
 case round =>
  obtain ⟨k, hk, rfl, HO, hbr⟩ := hrel; by_cases hlt : k < n
  ·obtain ⟨⟨K, O, S, L, P⟩, hc⟩ : ∃ c, l[k]? = some c := ⟨_, List.getElem?_eq_getElem (by have := HN.out; omega)⟩
   obtain ⟨y, hd⟩ : ∃ c, ys[k]? = some c := ⟨_, List.getElem?_eq_getElem (by have := HY.out; omega)⟩; obtain ⟨a, rfl, hab, x0, x1, x2, x3, x4⟩ := (HA.out.below hbr).load hc; have hbq := L5.below_alloc wr (.cells #[.string K, .bool O, .string S, .int .i64 L, .int .i64 P] 127); have HCL := zj (HF.out k K O S L P y _ hc hd (hbr.trans' hbq)); have HOQ := zj (L5.own_below HO.out hbq); have HD := zj hd; clear hc hd hab; go_wp2_with fail; refine HCL.out.mono ?_; rintro e w3 ⟨rfl, hb3⟩; have HO3 := zj (L5.own_below HOQ.out hb3); have hb13 := (hbr.trans' hbq).trans' hb3
   have hcell : w3.cell? ⟨w.heap.size, k, none⟩ = some (.string ⟨#[]⟩) := by
    rw [HO3.out.cellAt k (by omega), fillTo_at ys k (by have := HY.out; omega)]
   have hfr := HO3.out.frozenAt k; clear HCL hbq hb3 hbr x0 x1 x2 x3 x4; go_wp2_with fail
   go_roundw
   case rel =>
    refine ⟨k + 1, by omega, by simp, zj ?_, hb13.setCell (Nat.le_refl _) _⟩; have h := (HO3.out.stored k (.string y)).1; rwa [fillTo_set ys k y HD.out] at h
   case measure => simp [intOf]; omega
  ·obtain rfl : k = n := by omega
   have HL : Hid (L5.Lies wr wr.heap.size (some ⟨w.heap.size, 0, none⟩) ys) := zj (by
    have h := HO.out; rw [show fillTo ys k = L5.strCells ys by rw [← HY.out, fillTo_full]] at h
    exact L5.lies_own h HY.out.symm)
   go_wp2_with fail
   go_ret2
   exact ⟨_, rfl, HL.out, hbr⟩
def ks (l : List It) : List ByteArray := l.map It.k
def fixedS (H : ByteArray) (l : List It) : ByteArray := L9.textS (L5.headS (ks l)) ++ L9.textS H
def cellOf (l : List It) (x : It) : ByteArray := L9.cellS (L5.bare (L5.sp (ks l)) x.k) x.v
def cellsS (l : List It) : List ByteArray := l.map (cellOf l)
theorem ks_length (l : List It) : (ks l).length = l.length := by simp [ks]
theorem cellsS_length (l : List It) : (cellsS l).length = l.length := by simp [cellsS]
theorem ks_keys (l : List It) : L5.Bs (ks l) = keys l := by simp [L5.Bs, ks, keys, It.key]
theorem sp_keys (l : List It) : L5.sp (ks l) = L5.EP.span (keys l) := by unfold L5.sp; rw [ks_keys]
theorem head_com (l : List It) : (L5.headS (ks l)).data.toList = com l := by
 cases l with
 | nil => rfl
 | cons x l =>
  show ((x.k).extract 0 (L5.sp (ks (x :: l)))).data.toList = x.key.take _; rw [sp_keys, Lib.extract_data]; simp [It.key]
theorem fixedS_list (F R : Int) (H : ByteArray) (l : List It) : (fixedS H l).data.toList = fixed ⟨F, R, H, l⟩ := by
 have h := head_com l; simp only [fixedS, fixed, L9.textS, h]; simp
theorem bare_list (p : Nat) (s : ByteArray) : (L5.bare p s).data.toList = s.data.toList.drop p := by
 show (s.extract p s.size).data.toList = _; rw [Lib.extract_data, List.take_of_length_le (by simp)]
theorem cellOf_list (l : List It) (x : It) : (cellOf l x).data.toList = L9.VP.cellV (x.key.drop (L5.EP.span (keys l))) x.v := by
 have hb : (L5.bare (L5.sp (ks l)) x.k).data.toList = x.key.drop (L5.EP.span (keys l)) := by
  have h := bare_list (L5.sp (ks l)) x.k; rw [sp_keys] at h; rw [sp_keys]; exact h
 unfold cellOf L9.cellS; rw [hb]
theorem cellsS_list (l : List It) : L5.Bs (cellsS l) = cells l := by
 unfold cellsS cells L5.Bs; rw [List.map_map]; exact List.map_congr_left fun x _ => cellOf_list l x
theorem size_eq (F R : Int) (H : ByteArray) (l : List It) : L8.LP.need (fixedS H l).size (L5.Bs (cellsS l)) = size ⟨F, R, H, l⟩ := by
 unfold size; rw [cellsS_list, ← fixedS_list F R H l]
 congr 1
structure Fit (H : ByteArray) (l : List It) : Prop where
 few : l.length ≤ 1000
 high : H.size ≤ 1000
 key : ∀ x ∈ l, x.k.size ≤ 1000
 text : ∀ x ∈ l, x.s.size ≤ 1000
 ok : ∀ x ∈ l, L9.VP.OkV (x.key.drop (L5.EP.span (keys l))) x.v
theorem May.fit {F R : Int} {H : ByteArray} {l : List It} {p : Int} (h : May ⟨F, R, H, l⟩ p) (hn : l.length ≤ 1000) : Fit H l := by
 have hp := mayBe_le h.1; refine ⟨hn, ?_, fun x hx => ?_, fun x hx => ?_, fun x hx => h.okV hx _⟩
 ·by_cases h0 : R = 0
  ·rw [show H.size = 0 from h.2.2.1.1 h0]; omega
  ·have : (H.size : Int) ≤ p / 8 := (h.2.2.1.2 h0).2.1
   omega
 ·have := (h.2.2.2.2 x hx).1
  omega
 ·have hs : x.v.s.length = x.s.size := by simp [It.v]
  rcases (h.2.2.2.2 x hx).2.1 with ⟨_, h2, _⟩ | ⟨_, h2, _⟩
  ·rw [h2] at hs; simp at hs; omega
  ·omega
theorem headS_size {l : List It} (h : ∀ x ∈ l, x.k.size ≤ 1000) : (L5.headS (ks l)).size ≤ 1000 := by
 cases l with
 | nil => exact Nat.zero_le _
 | cons x l =>
  have := h x (List.mem_cons_self); show ((x.k).extract 0 _).size ≤ 1000; simp; omega
theorem parts_any (F R : Int) (H : ByteArray) (A : Option Addr) (l : List It) (ca : Nat) (w : World) (ha : Lies5 w w.heap.size A l) (hf : Fit H l) :
  Calls Tryz.prog 66 #[lv F R H A l.length ca] w fun e w' => ∃ G, e = .returned (.tuple #[.string (fixedS H l), .slice G l.length l.length]) ∧ L5.Lies w' w'.heap.size G (cellsS l) ∧ Below w.heap.size w w' := by
 have hb0 := lbox_below 26 F R H A l.length ca w; have HB0 := zj hb0; have HA := zj (ha.on hb0); have HK := zj (lbox_new 26 F R H A l.length ca w); have HF := zj hf
 have H1 := zj (fun W (h : Lies5 W W.heap.size A l) => each1_any A l ca (ks l) W h (by have := hf.few; omega) (ks_length l) (fun k K O S L P y V hc hd _ => by
  have e : (ks l)[k]? = some K := by simp [ks, hc]
  obtain rfl := Option.some.inj (e.symm.trans hd)
  exact parts1_any k K O S L P V))
 have H2 := zj (fun G W (h : L5.Lies W W.heap.size G (ks l)) => L5.strip_old G (ks l) (ks l).length W h (by rw [ks_length]; exact hf.few) (fun s hs => by
  obtain ⟨x, hx, rfl⟩ := List.mem_map.1 hs
  exact hf.key x hx) (Nat.le_refl _))
 have H3 := zj (fun (g : Nat) (G : Option Addr) (cap : Nat) W (h : Lies5 W W.heap.size A l) (hg : g < W.heap.size) (hc : W.cell? ⟨g, 0, none⟩ = some (.slice G l.length cap)) (hL : L5.Lies W W.heap.size G (L5.bares (ks l))) =>
  each2_any A l ca (cellsS l) g W h (by have := hf.few; omega) (cellsS_length l) (fun k K O S L P y V hx hy hb => by
   have hbl : (L5.bares (ks l)).length = l.length := by rw [L5.bares_length, ks_length]
   have e : (L5.bares (ks l))[k]? = some (L5.bare (L5.sp (ks l)) K) := by simp [L5.bares, ks, hx]
   have e2 : (cellsS l)[k]? = some (cellOf l ⟨K, O, S, L, P⟩) := by simp [cellsS, hx]
   obtain rfl := Option.some.inj (e2.symm.trans hy); have hm := List.mem_of_getElem? hx; refine parts2_any k K O S L P g G (L5.bares (ks l)) cap (L5.bare (L5.sp (ks l)) K) V (by rw [hbl]; exact (hb.cell (p := ⟨g, 0, none⟩) hg).trans hc) (Nat.lt_of_lt_of_le hg hb.size) (hL.on hb) e (by rw [hbl]; have := hf.few; omega) ?_ (by have := hf.text _ hm; simp only at this; omega) ?_
   ·have := hf.key _ hm
    have h2 : (L5.bare (L5.sp (ks l)) K).size ≤ K.size := by simp [L5.bare]
    simp only at this; omega
   ·have h2 := bare_list (L5.sp (ks l)) K
    rw [sp_keys] at h2; rw [sp_keys, h2]
    exact hf.ok _ hm))
 have HT1 := zj (fun W => text_any (L5.headS (ks l)) W (by have := headS_size hf.key; omega)); have HT2 := zj (fun W => text_any H W (by have := hf.high; omega)); have HZ : Hid (L9.textS (L5.headS (ks l)) ++ L9.textS H = fixedS H l) := zj rfl; have z1 := L9.textS_size (L5.headS (ks l)) (by have := headS_size hf.key; omega); have z2 := L9.textS_size H (by have := hf.high; omega); have z3 := headS_size hf.key; have z4 := hf.high; generalize L9.textS (L5.headS (ks l)) = Z1 at *; generalize L9.textS H = Z2 at *
 have hz : ¬ 9223372036854775807 < Z1.size + Z2.size := by omega
 have hz' : ¬ (9223372036854775807 : Int) < (Z1.size : Int) + (Z2.size : Int) := by omega
 obtain ⟨n, hn⟩ : ∃ n, n = l.length := ⟨_, rfl⟩; have HN := zj hn; have hnl := hf.few; rw [ks_length] at H1 H2; rw [cellsS_length] at H3; rw [← hn] at H1 H2 H3 HK hnl HB0 HA; rw [← hn]; clear ha hf hb0 z1 z2 z3 z4 hn; go_enter Tryz.func66, Tryz.ntmps66; go_wp2_with fail; refine (H1.out _ HA.out).mono ?_; rintro e w2 ⟨G1, rfl, HL1, hb2⟩; go_wp2_with fail; refine (H2.out G1 _ HL1).mono ?_; rintro e w3 ⟨G2, cap2, rfl, hcap, HL2, hb3⟩; have hb4 := L5.below_alloc w3 (.cells #[.slice G2 n cap2] 22); have HA4 := zj (((HA.out.on hb2).on hb3).on hb4); have HK3 := zj ((HK.out.below hb2).below hb3); have HK4 := zj (HK3.out.below hb4); have HX3 := zj (HL2.on hb4); have HC3 : Hid ((w3.alloc (.cells #[.slice G2 n cap2] 22)).cell? ⟨w3.heap.size, 0, none⟩ = some (.slice G2 n cap2)) := zj (by simp); have HZ3 : Hid (w3.heap.size < (w3.alloc (.cells #[.slice G2 n cap2] 22)).heap.size) := zj (by simp); have HB4 := zj (((HB0.out.trans' hb2).trans' hb3).trans' hb4); have hlt : w.heap.size < w3.heap.size := HK3.out.lt; obtain ⟨c0, c1, c2, c3⟩ := HK3.out.cells; obtain ⟨e0, e1, e2, e3⟩ := HK4.out.cells; clear HL1 HL2 hb2 hb3 hb4 hcap; go_wp2_with fail; refine (H3.out w3.heap.size G2 cap2 _ HA4.out HZ3.out HC3.out HX3.out).mono ?_; rintro e w5 ⟨G3, rfl, HL3, hb5⟩; have HL5 := zj HL3; have HK5 := zj (HK4.out.below hb5); have HB5 := zj (HB4.out.trans' hb5); clear HL3 hb5 c0 c1 c2 c3 e0 e1 e2 e3; have HS : Hid (∀ V, Below w5.heap.size w5 V → (Hid (Below w5.heap.size w5 V) ∧ V.cell? ⟨w.heap.size, 2, none⟩ = some (.string H))) := zj (fun V hb => ⟨zj hb, (HK5.out.below hb).cells.2.2.1⟩); have hSd := HS.out _ (L5.below_drewN (Below.refl _ w5) 1); have hS0 := HS.out _ (Below.refl _ w5); go_wp2_with fail
 go_region_held3 (fun V => Hid (Below w5.heap.size w5 V) ∧ V.cell? ⟨w.heap.size, 2, none⟩ = some (.string H))
  (first | assumption | exact hSd)
  (first
   | (go_at_call 119; refine (HT1.out _).mono ?_; rintro e V ⟨rfl, hb⟩; have HBV := zj ((by assumption : Hid (Below w5.heap.size w5 _) ∧ _).1.out.trans' hb); have hSn := HS.out _ HBV.out; clear hb)
   | (go_at_call 119; refine (HT2.out _).mono ?_; rintro e V ⟨rfl, hb⟩; have HBV := zj ((by assumption : Hid (Below w5.heap.size w5 _) ∧ _).1.out.trans' hb); have hSn := HS.out _ HBV.out; clear hb)
   | fail "no arm")
 all_goals
  go_wp2_with fail
  go_ret2
  exact ⟨G3, by rw [HZ.out] <;> rfl, HL5.out.on HBV.out, HB5.out.trans' HBV.out⟩
theorem fixedS_size {H : ByteArray} {l : List It} (hf : Fit H l) : (fixedS H l).size ≤ 2100 := by
 have z1 := L9.textS_size (L5.headS (ks l)) (by have := headS_size hf.key; omega); have z2 := L9.textS_size H (by have := hf.high; omega); have z3 := headS_size hf.key; have z4 := hf.high; unfold fixedS; simp only [ByteArray.size_append]; omega
theorem cellsS_size {H : ByteArray} {l : List It} (hf : Fit H l) : ∀ s ∈ cellsS l, s.size ≤ 3000 := by
 intro s hs; obtain ⟨x, hx, rfl⟩ := List.mem_map.1 hs
 have h1 : (cellOf l x).data.toList.length = (cellOf l x).size := by simp
 rw [← h1, cellOf_list]; have hk := hf.key x hx; have ht := hf.text x hx
 have hl : (x.key.drop (L5.EP.span (keys l))).length ≤ 1000 := by rw [List.length_drop, key_length]; omega
 have t1 := text_few (x.key.drop (L5.EP.span (keys l))) (by omega)
 have hs : x.v.s.length = x.s.size := by simp [It.v]
 have t2 := tail_few (v := x.v) (q := 1000) (hf.ok x hx).2 (by omega) (fun _ => by omega); simp only [L9.VP.cellV, List.length_append]; omega
def encV (l : Lf) (p : Int) : Value := .tuple #[.string (enc l p).1, .int .i64 (enc l p).2]
theorem packV_ok {F R : Int} {H : ByteArray} {l : List It} {p : Nat} (hp : p ≤ 1024) (h16 : 16 ≤ p) (hs : size ⟨F, R, H, l⟩ ≤ p - 16) : L8.packV ((p : Int) - 16) (fixedS H l) (cellsS l) = .tuple #[.string ⟨(body ⟨F, R, H, l⟩ p).toArray⟩, .int .i64 0] := by
 unfold L8.packV; rw [if_neg (by omega), if_neg (by rw [size_eq F R]; omega)]; unfold L8.packS body; rw [cellsS_list, ← fixedS_list F R H l]; simp only [Int.ofNat_eq_natCast, show ((p : Int) - 16).toNat = p - 16 by omega]
theorem packV_big {F R : Int} {H : ByteArray} {l : List It} {p : Nat} (hp : p ≤ 1024) (h16 : 16 ≤ p) (hs : ¬ size ⟨F, R, H, l⟩ ≤ p - 16) : L8.packV ((p : Int) - 16) (fixedS H l) (cellsS l) = .tuple #[.string ⟨#[]⟩, .int .i64 8] := by
 unfold L8.packV; rw [if_neg (by omega), if_pos (by rw [size_eq F R]; omega)]
theorem seal_ok {l : Lf} {p : Nat} (h : May l p) (hs : (size l : Int) ≤ (p : Int) - 16) : L7.seaV (hd l) ⟨(body l p).toArray⟩ p = .tuple #[.string ⟨(page l p).toArray⟩, .int .i64 0] := by
 obtain ⟨hok, hn⟩ := h.fits hs; have hp := mayBe_le h.1; have hbl : (body l p).length = p - 16 := body_length (by omega)
 have hsz : (⟨(body l p).toArray⟩ : ByteArray).size = p - 16 := by
  show (body l p).toArray.size = _; rw [List.size_toArray, hbl]
 have hg := L7.HP.seal_good (h := hd l) (b := ⟨(body l p).toArray⟩) (p := p) h.1 (L7.HP.right_iff.2 hok) (by rw [hsz]; omega); have e1 : (⟨(body l p).toArray⟩ : ByteArray).data.toList = body l p := rfl
 have e2 : L7.HP.rest (body l p) p = body l p := by
  unfold L7.HP.rest; rw [hbl, Nat.sub_self]; simp
 unfold L7.seaV; rw [hg, e1, Int.toNat_natCast, e2]; rfl
theorem enc_any (F R : Int) (H : ByteArray) (A : Option Addr) (l : List It) (ca : Nat) (p : Int) (w : World) (hs : L7.Sizes w) (ha : Lies5 w w.heap.size A l) (hl : l.length ≤ 1000) (hh : H.size ≤ maxLen) :
  Calls Tryz.prog 32 #[lv F R H A l.length ca, .int .i64 p] w fun e w' => e = .returned (encV ⟨F, R, H, l⟩ p) ∧ Below w.heap.size w w' := by
 have hb0 := lbox_below 26 F R H A l.length ca w; have HB0 := zj hb0; have HS0 := zj (hs.below hs.lt hb0); have HA := zj (ha.on hb0); have HK := zj (lbox_new 26 F R H A l.length ca w); have HSZ := zj (fun W (h : L7.Sizes W) => L7.size_any p W h); have HM := zj (fun W (h : L7.Sizes W) (h2 : Lies5 W W.heap.size A l) => may_any F R H A l ca p W h h2 (by omega) hh); obtain ⟨r, HR⟩ : ∃ r, Hid (r = encV ⟨F, R, H, l⟩ p) := ⟨_, zj rfl⟩; rw [← HR.out]; have hcases := enc_cases ⟨F, R, H, l⟩ p; obtain ⟨n, hn⟩ : ∃ n, n = l.length := ⟨_, rfl⟩; have HN := zj hn; rw [← hn] at HM HK HB0 HS0 HA; rw [← hn]; rcases hcases with ⟨hm, he⟩ | ⟨hm, hmay, he⟩ | ⟨hmay, hbig, he⟩ | ⟨hmay, hfit, he⟩
 ·have HX : Hid (r = .tuple #[.string ⟨#[]⟩, .int .i64 4]) := zj (by rw [HR.out, encV, he])
  rw [hm] at HSZ; clear hm he hn ha hs hl hh hb0 HM; go_enter Tryz.func32, Tryz.ntmps32; go_wp2_with fail; refine (HSZ.out _ HS0.out).mono ?_; rintro e w2 ⟨rfl, rfl⟩; go_wp2_with fail
  go_ret2
  exact ⟨by rw [HX.out] <;> rfl, HB0.out⟩
 ·have HX : Hid (r = .tuple #[.string ⟨#[]⟩, .int .i64 3]) := zj (by rw [HR.out, encV, he])
  rw [hm] at HSZ; rw [dF hmay] at HM; clear hm hmay he hn ha hs hl hh hb0; go_enter Tryz.func32, Tryz.ntmps32; go_wp2_with fail; refine (HSZ.out _ HS0.out).mono ?_; rintro e w2 ⟨rfl, rfl⟩; go_wp2_with fail; refine (HM.out _ HS0.out HA.out).mono ?_; rintro e w2 ⟨rfl, hb2⟩; go_wp2_with fail
  go_ret2
  exact ⟨by rw [HX.out] <;> rfl, HB0.out.trans' hb2⟩
 ·have hp := mayBe_le hmay.1
  obtain ⟨q, rfl⟩ : ∃ q : Nat, p = q := Int.eq_ofNat_of_zero_le (by omega); have HX : Hid (r = .tuple #[.string ⟨#[]⟩, .int .i64 8]) := zj (by rw [HR.out, encV, he]); rw [hmay.1] at HSZ; rw [dT hmay] at HM; have hf := May.fit hmay (by omega); have HP := zj (fun W (h : Lies5 W W.heap.size A l) => parts_any F R H A l ca W h hf); have HK8 := zj (fun G W (h : L5.Lies W W.heap.size G (cellsS l)) => L8.pack_any ((q : Int) - 16) (fixedS H l) G (cellsS l) l.length W h (by rw [cellsS_length]; omega) (by have := fixedS_size hf; omega) (fun s hs => by have := cellsS_size hf s hs; omega)); rw [packV_big (F := F) (R := R) (by omega) (by omega) (by omega), cellsS_length] at HK8; rw [← hn] at HP HK8; have hw : IntKind.i64.wrap ((q : Int) - 16) = (q : Int) - 16 := IntWalk.i64_in _ (by omega); clear hmay he hn ha hs hl hh hb0 hbig hf hp; go_enter Tryz.func32, Tryz.ntmps32; go_wp2_with fail; refine (HSZ.out _ HS0.out).mono ?_; rintro e w2 ⟨rfl, rfl⟩; go_wp2_with fail; refine (HM.out _ HS0.out HA.out).mono ?_; rintro e w2 ⟨rfl, hb2⟩; obtain ⟨c0, c1, c2, c3⟩ := (HK.out.below hb2).cells; go_wp2_with fail; refine (HP.out _ (HA.out.on hb2)).mono ?_; rintro e w3 ⟨G, rfl, HL, hb3⟩; go_wp2_with fail; refine (HK8.out G _ HL).mono ?_; rintro e w4 ⟨rfl, hb4⟩; go_wp2_with fail
  go_ret2
  exact ⟨by rw [HX.out] <;> rfl, ((HB0.out.trans' hb2).trans' hb3).trans' hb4⟩
 ·have hp := mayBe_le hmay.1
  obtain ⟨q, rfl⟩ : ∃ q : Nat, p = q := Int.eq_ofNat_of_zero_le (by omega); have HX : Hid (r = .tuple #[.string ⟨(page ⟨F, R, H, l⟩ q).toArray⟩, .int .i64 0]) := zj (by rw [HR.out, encV, he, Int.toNat_natCast]); rw [hmay.1] at HSZ; rw [dT hmay] at HM; have hf := May.fit hmay (by omega); have HP := zj (fun W (h : Lies5 W W.heap.size A l) => parts_any F R H A l ca W h hf); have HK8 := zj (fun G W (h : L5.Lies W W.heap.size G (cellsS l)) => L8.pack_any ((q : Int) - 16) (fixedS H l) G (cellsS l) l.length W h (by rw [cellsS_length]; omega) (by have := fixedS_size hf; omega) (fun s hs => by have := cellsS_size hf s hs; omega)); rw [packV_ok (F := F) (R := R) (by omega) (by omega) (by omega), cellsS_length] at HK8; have hbl : (body ⟨F, R, H, l⟩ q).length = q - 16 := body_length (by omega); have HSE := zj (fun W (h : L7.Sizes W) => L7.seal_any (hd ⟨F, R, H, l⟩) ⟨(body ⟨F, R, H, l⟩ q).toArray⟩ q W h (by simp [Lit.wf, IntKind.min, IntKind.max, IntKind.signed, IntKind.bits]; omega) (by show (body ⟨F, R, H, l⟩ q).toArray.size ≤ maxLen; rw [List.size_toArray, hbl]; unfold maxLen; omega)); have hsv := seal_ok hmay (by omega); unfold L7.seaV at hsv; rw [hsv] at HSE; rw [show L7.hv (hd ⟨F, R, H, l⟩) = .agg #[.int .i64 2, .int .i64 0, .int .i64 n, .int .i64 R, .int .i64 F] by rw [hn]; rfl] at HSE; rw [← hn] at HP HK8; have hw : IntKind.i64.wrap ((q : Int) - 16) = (q : Int) - 16 := IntWalk.i64_in _ (by omega); generalize (⟨(page ⟨F, R, H, l⟩ q).toArray⟩ : ByteArray) = PG at *; generalize (⟨(body ⟨F, R, H, l⟩ q).toArray⟩ : ByteArray) = BD at *; clear hmay he hn ha hs hl hh hb0 hfit hf hp hbl hsv; go_enter Tryz.func32, Tryz.ntmps32; go_wp2_with fail; refine (HSZ.out _ HS0.out).mono ?_; rintro e w2 ⟨rfl, rfl⟩; go_wp2_with fail; refine (HM.out _ HS0.out HA.out).mono ?_; rintro e w2 ⟨rfl, hb2⟩; obtain ⟨c0, c1, c2, c3⟩ := (HK.out.below hb2).cells; go_wp2_with fail; refine (HP.out _ (HA.out.on hb2)).mono ?_; rintro e w3 ⟨G, rfl, HL, hb3⟩; go_wp2_with fail; refine (HK8.out G _ HL).mono ?_; rintro e w4 ⟨rfl, hb4⟩; have hb14 := (hb2.trans' hb3).trans' hb4; have HS4 := zj (HS0.out.below HS0.out.lt hb14); clear c0 c1 c2 c3; obtain ⟨c0, c1, c2, c3⟩ := (HK.out.below hb14).cells; go_wp2_with fail; refine (HSE.out _ HS4.out).mono ?_; rintro e w5 ⟨rfl, hb5⟩; go_wp2_with fail
  go_ret2
  exact ⟨by rw [HX.out] <;> rfl, (HB0.out.trans' hb14).trans' hb5⟩
theorem gt_case (s : ByteArray) (i : Nat) : ∃ m tq er, L9.WP.get s.data.toList i = (m, tq, er) ∧
  (((er = 7 ∨ er = 3) ∧ m = 0 ∧ tq = 0 ∧ L9.VP.gtext s.data.toList i = none) ∨ (er = 0 ∧ tq ≤ s.size ∧ s.size - tq < m ∧ m ≤ 18446744073709551615 ∧ L9.VP.gtext s.data.toList i = none) ∨
   (er = 0 ∧ tq + m ≤ s.size ∧ L9.VP.gtext s.data.toList i = some ((s.extract tq (tq + m)).data.toList, tq + m))) := by
 have hl : s.data.toList.length = s.size := by simp
 rcases L9.WP.get_spec s.data.toList i with e | e | ⟨n, tq, e, h1, h2, h3, h4⟩
 ·refine ⟨0, 0, 7, e, .inl ⟨.inl rfl, rfl, rfl, ?_⟩⟩
  unfold L9.VP.gtext; rw [e]; rfl
 ·refine ⟨0, 0, 3, e, .inl ⟨.inr rfl, rfl, rfl, ?_⟩⟩
  unfold L9.VP.gtext; rw [e]; rfl
 ·rw [hl] at h2
  by_cases hm : n ≤ s.size - tq
  ·refine ⟨n, tq, 0, e, .inr (.inr ⟨rfl, by omega, ?_⟩)⟩
   unfold L9.VP.gtext; simp only [e, hl]; rw [if_pos ⟨trivial, hm⟩, Lib.extract_data, Nat.add_sub_cancel_left]
  ·refine ⟨n, tq, 0, e, .inr (.inl ⟨rfl, h2, by omega, h4, ?_⟩)⟩
   unfold L9.VP.gtext; simp only [e, hl]; rw [if_neg (fun h => hm h.2)]
def GotText (g : Option (List UInt8 × Nat)) (e : Ending) : Prop :=
 (g = none ∧ ∃ x : Int, x ≠ 0 ∧ e = .returned (.tuple #[.string ⟨#[]⟩, .int .i64 0, .int .i64 x])) ∨ ∃ (T : ByteArray) (j : Nat), g = some (T.data.toList, j) ∧ e = .returned (.tuple #[.string T, .int .i64 j, .int .i64 0])
theorem textGet_any (s : ByteArray) (i : Nat) (w : World) (hi : i ≤ s.size) (hs : s.size ≤ 1000000) :
  Calls Tryz.prog 86 #[.string s, .int .i64 i] w fun e w' => GotText (L9.VP.gtext s.data.toList i) e ∧ Below w.heap.size w w' := by
 obtain ⟨m, tq, er, hg, hc⟩ := gt_case s i; have HG := zj (fun W => L9.get_any s (i : Int) W (by omega) (by omega) (by unfold maxLen; omega)); rw [Int.toNat_natCast] at HG; simp only [hg] at HG; clear hg; rcases hc with ⟨her, rfl, rfl, hn⟩ | ⟨rfl, h1, h2, h3, hn⟩ | ⟨rfl, h1, hn⟩
 ·rw [hn]
  have hz : ((er : Int) != 0) = true := by rcases her with rfl | rfl <;> rfl
  have hz2 : ((er : Int) == 0) = false := by rcases her with rfl | rfl <;> rfl
  have HNZ : Hid ((er : Int) ≠ 0) := zj (by rcases her with rfl | rfl <;> decide)
  clear her hn hi; go_enter Tryz.func86, Tryz.ntmps86; go_wp2_with fail; refine (HG.out _).mono ?_; rintro e w2 ⟨rfl, hb2⟩; go_wp2_with fail
  go_ret3
  exact ⟨.inl ⟨rfl, er, HNZ.out, rfl⟩, hb2⟩
 ·rw [hn]
  obtain ⟨d, hd⟩ : ∃ d, d = s.size - tq := ⟨_, rfl⟩
  have he : (s.size : Int) - (tq : Int) = (d : Int) := by omega
  have w1 : IntKind.i64.wrap (d : Int) = d := IntWalk.i64_in _ (by omega)
  have w2 : IntKind.u64.wrap (d : Int) = d := by rw [IntKind.wrap_u64]; omega
  have d1 : decide (d < m) = true := dT (by omega); have d2 : decide ((d : Int) < (m : Int)) = true := dT (by omega); clear hn hi hd h1 h2 h3; go_enter Tryz.func86, Tryz.ntmps86; go_wp2_with fail; refine (HG.out _).mono ?_; rintro e w2 ⟨rfl, hb2⟩; go_wp2_with fail
  go_ret3
  exact ⟨.inl ⟨rfl, 7, by decide, rfl⟩, hb2⟩
 ·rw [hn]
  obtain ⟨d, hd⟩ : ∃ d, d = s.size - tq := ⟨_, rfl⟩; obtain ⟨j, hj⟩ : ∃ j, j = tq + m := ⟨_, rfl⟩
  have he : (s.size : Int) - (tq : Int) = (d : Int) := by omega
  have he2 : (tq : Int) + (m : Int) = (j : Int) := by omega
  have w1 : IntKind.i64.wrap (d : Int) = d := IntWalk.i64_in _ (by omega)
  have w2 : IntKind.u64.wrap (d : Int) = d := by rw [IntKind.wrap_u64]; omega
  have w3 : IntKind.i64.wrap (m : Int) = m := IntWalk.i64_in _ (by omega); have w4 : IntKind.i64.wrap (j : Int) = j := IntWalk.i64_in _ (by omega); have d1 : decide (d < m) = false := dF (by omega); have d2 : decide ((d : Int) < (m : Int)) = false := dF (by omega)
  have hj1 : tq ≤ j := by omega
  have hj2 : j ≤ s.size := by omega
  rw [← hj]
  have hts : (s.extract tq j).size ≤ 1000000 := by simp; omega
  have HC := zj (fun W => L5.clone_any (s.extract tq j) W hts); obtain ⟨T, hT⟩ : ∃ T, T = s.extract tq j := ⟨_, rfl⟩; rw [← hT] at HC ⊢; have HT := zj hT; clear hn hi hd hj h1 hts; have hT2 := hT.symm; clear hT; go_enter Tryz.func86, Tryz.ntmps86; go_wp2_with fail; refine (HG.out _).mono ?_; rintro e w2 ⟨rfl, hb2⟩; go_wp2_with fail; refine (HC.out _).mono ?_; rintro e w3 ⟨rfl, hb3⟩; go_wp2_with fail
  go_ret3
  exact ⟨.inr ⟨T, j, rfl, rfl⟩, hb2.trans' hb3⟩
def TextV (g : Option (List UInt8 × Nat)) (e : Ending) : Prop :=
 (g = none ∧ e = .returned (.tuple #[.string ⟨#[]⟩, .int .i64 (-1)])) ∨ ∃ (T : ByteArray) (j : Nat), g = some (T.data.toList, j) ∧ e = .returned (.tuple #[.string T, .int .i64 j])
theorem rtext_neg (s : ByteArray) (i : Int) (w : World) (hi : i < 0) :
  Calls Tryz.prog 76 #[.string s, .int .i64 i] w fun e w' => e = .returned (.tuple #[.string ⟨#[]⟩, .int .i64 (-1)]) ∧ Below w.heap.size w w' := by
 go_enter Tryz.func76, Tryz.ntmps76; go_wp2_with fail
 go_ret2
 exact ⟨rfl, Below.refl _ _⟩
theorem rtext_any (s : ByteArray) (i : Nat) (w : World) (hi : i ≤ s.size) (hs : s.size ≤ 1000000) :
  Calls Tryz.prog 76 #[.string s, .int .i64 i] w fun e w' => TextV (L9.VP.gtext s.data.toList i) e ∧ Below w.heap.size w w' := by
 obtain ⟨m, tq, er, hg, hc⟩ := gt_case s i; have HG := zj (fun W => L9.rget_any s (i : Int) W (by omega) (by omega) (by omega)); rw [Int.toNat_natCast] at HG; simp only [hg] at HG; clear hg; rcases hc with ⟨her, rfl, rfl, hn⟩ | ⟨rfl, h1, h2, h3, hn⟩ | ⟨rfl, h1, hn⟩
 ·rw [hn]
  have hz : ((er : Int) != 0) = true := by rcases her with rfl | rfl <;> rfl
  have hz2 : ((er : Int) == 0) = false := by rcases her with rfl | rfl <;> rfl
  clear her hn hi; go_enter Tryz.func76, Tryz.ntmps76; go_wp2_with fail; refine (HG.out _).mono ?_; rintro e w2 ⟨rfl, hb2⟩; go_wp2_with fail
  go_ret2
  exact ⟨.inl ⟨rfl, rfl⟩, hb2⟩
 ·rw [hn]
  obtain ⟨d, hd⟩ : ∃ d, d = s.size - tq := ⟨_, rfl⟩
  have he : (s.size : Int) - (tq : Int) = (d : Int) := by omega
  have w1 : IntKind.i64.wrap (d : Int) = d := IntWalk.i64_in _ (by omega)
  have w2 : IntKind.u64.wrap (d : Int) = d := by rw [IntKind.wrap_u64]; omega
  have d1 : decide (d < m) = true := dT (by omega); have d2 : decide ((d : Int) < (m : Int)) = true := dT (by omega); clear hn hi hd h1 h2 h3; go_enter Tryz.func76, Tryz.ntmps76; go_wp2_with fail; refine (HG.out _).mono ?_; rintro e w2 ⟨rfl, hb2⟩; go_wp2_with fail
  go_ret2
  exact ⟨.inl ⟨rfl, rfl⟩, hb2⟩
 ·rw [hn]
  obtain ⟨d, hd⟩ : ∃ d, d = s.size - tq := ⟨_, rfl⟩; obtain ⟨j, hj⟩ : ∃ j, j = tq + m := ⟨_, rfl⟩
  have he : (s.size : Int) - (tq : Int) = (d : Int) := by omega
  have he2 : (tq : Int) + (m : Int) = (j : Int) := by omega
  have w1 : IntKind.i64.wrap (d : Int) = d := IntWalk.i64_in _ (by omega)
  have w2 : IntKind.u64.wrap (d : Int) = d := by rw [IntKind.wrap_u64]; omega
  have w3 : IntKind.i64.wrap (m : Int) = m := IntWalk.i64_in _ (by omega); have w4 : IntKind.i64.wrap (j : Int) = j := IntWalk.i64_in _ (by omega); have d1 : decide (d < m) = false := dF (by omega); have d2 : decide ((d : Int) < (m : Int)) = false := dF (by omega)
  have hj1 : tq ≤ j := by omega
  have hj2 : j ≤ s.size := by omega
  rw [← hj]; obtain ⟨T, hT⟩ : ∃ T, s.extract tq j = T := ⟨_, rfl⟩; rw [hT]; clear hn hi hd hj h1; go_enter Tryz.func76, Tryz.ntmps76; go_wp2_with fail; refine (HG.out _).mono ?_; rintro e w2 ⟨rfl, hb2⟩; go_wp2_with fail
  go_ret2
  exact ⟨.inr ⟨T, j, rfl, rfl⟩, hb2⟩
theorem ks_snoc {l : List It} {k : Nat} {x : It} (hc : l[k]? = some x) : ks (l.take (k + 1)) = ks (l.take k) ++ [x.k] := by
 rw [take_snoc hc]; simp [ks]
theorem rkeys_any (F R : Int) (H : ByteArray) (A : Option Addr) (l : List It) (ca : Nat) (w : World) (ha : Lies5 w w.heap.size A l) (hl : l.length ≤ 1000) :
  Calls Tryz.prog 188 #[lv F R H A l.length ca] w fun e w' => ∃ G cap, e = .returned (.slice G l.length cap) ∧ L5.Lies w' w'.heap.size G (ks l) ∧ Below w.heap.size w w' := by
 obtain ⟨i0, hi, hz0, hz1, hz2⟩ := info_parts L5.Tryz.infoStr; have hb0 := lbox_below 41 F R H A l.length ca w; have HB0 := zj hb0; have HA := zj (ha.on hb0); have HK := zj (lbox_new 41 F R H A l.length ca w); obtain ⟨n, hn⟩ : ∃ n, n = l.length := ⟨_, rfl⟩; have HN := zj hn; rw [← hn]; rw [← hn] at hl HK HB0 HA; clear ha hn hb0; have HZ := zj (lbox_size 41 F R H A n ca w); simp only [lbox] at HK HB0 HA HZ; go_enter Tryz.func188, Tryz.ntmps188; go_wp2_with fail; generalize w.alloc (.cells #[.int .i64 F, .int .i64 R, .string H, .slice A n ca] 41) = w1 at *; have hlt1 := HK.out.lt; have hsz1 : w1.heap.size = w.heap.size + 1 := HZ.out; rw [← hsz1]; clear hsz1
 go_loopw [3, 4] (fun ov iv wr => ∃ (k g cap : Nat), k ≤ n ∧ iv = .int .i64 k ∧ ov = .slice (some ⟨g, 0, none⟩) k cap ∧ Hid (L5.Owns wr w1.heap.size (.slice (some ⟨g, 0, none⟩) k cap) k (ks (l.take k))) ∧ Below w1.heap.size w1 wr) (fun _ iv _ => n - (intOf iv).toNat)
 case atStart =>
  exact ⟨0, w1.heap.size, 0, by omega, rfl, rfl, zj (L5.own_empty w1 _), L5.below_alloc _ _⟩
 case round =>
  obtain ⟨k, g, cap, hk, rfl, rfl, HO, hbr⟩ := hrel; obtain ⟨p0, p1, p2, p3⟩ := (HK.out.below hbr).cells; by_cases hlt : k < n
  ·obtain ⟨⟨KK, O, S, L, P⟩, hc⟩ : ∃ c, l[k]? = some c := ⟨_, List.getElem?_eq_getElem (by have := HN.out; omega)⟩
   obtain ⟨a, rfl, hab, x0, x1, x2, x3, x4⟩ := (HA.out.below hbr).load hc; have HC : Hid (ks (l.take (k + 1)) = ks (l.take k) ++ [KK]) := zj (ks_snoc hc); have hbs := hbr.size; clear hc hab x1 x2 x3 x4; go_wp2_with (at_builtin; refine wpList_append_lies _ rfl _ _ 22 rfl w1.heap.size 9 i0 (.string ⟨#[]⟩) 1 16 Tryz.underlying22 hi hz0 hz1 hz2 rfl (by decide) (.slice (some ⟨g, 0, none⟩) k cap) k _ rfl (HO.out.alloc _) ⟨wr.heap.size, 0, none⟩ 1 1 [.string KK] rfl rfl (World.news_of_block (cs := #[.string KK]) (t := 9) (fr := (0, 0)) (heap_alloc_new wr _)) (L5.str_one _) (by omega) (by unfold maxLen; omega) (by omega) (by simp; omega) (wr.heap.size + 1) (by simp) ?_; intro g' cap' w2 hown' hgrow hat hlt1; have hb3 : Below w1.heap.size wr w2 := ((Below.refl _ wr).alloc hbs (.cells #[.string KK] 9)).trans (L5.own_apart (HO.out.alloc _) hgrow (Nat.le_refl _) (by simp; omega)); clear hat hlt1 hgrow); have hb4 := hbr.trans hb3
   go_roundw
   case rel => exact ⟨k + 1, g', cap', by omega, by simp, rfl, zj (by rw [HC.out, L5.Owns, L5.strCells_snoc]; exact hown'), hb4⟩
   case measure => simp [intOf]; omega
  ·obtain rfl : k = n := by omega
   have HL : Hid (L5.Lies wr wr.heap.size (some ⟨g, 0, none⟩) (ks l)) := zj (by
    have h := HO.out; rw [List.take_of_length_le (by have := HN.out; omega)] at h
    exact L5.lies_own h (by rw [ks_length]; exact HN.out))
   have hlt' : ¬ (k : Int) < k := by omega
   go_wp2_with fail; go_ret; exact ⟨some ⟨g, 0, none⟩, ⟨cap, rfl⟩, HL.out, HB0.out.trans' hbr⟩
theorem cells_snoc {l m : List It} {k : Nat} {x : It} (hc : l[k]? = some x) : (l.take (k + 1)).map (cellOf m) = (l.take k).map (cellOf m) ++ [cellOf m x] := by
 rw [take_snoc hc]; simp
theorem rputC {H : ByteArray} {l : List It} (hf : Fit H l) {k : Nat} {K : ByteArray} {O : Bool} {S : ByteArray} {L P : Int} (hc : l[k]? = some ⟨K, O, S, L, P⟩) (W : World) :
  Calls Tryz.prog 137 #[.string (L5.bare (L5.sp (ks l)) K), .agg #[.bool O, .string S, .int .i64 L, .int .i64 P]] W fun e w' => e = .returned (.tuple #[.string (cellOf l ⟨K, O, S, L, P⟩), .int .i64 0]) ∧ Below W.heap.size W w' := by
 have hm := List.mem_of_getElem? hc; have h1 := hf.key _ hm
 have h2 : (L5.bare (L5.sp (ks l)) K).size ≤ K.size := by simp [L5.bare]
 have h3 := hf.text _ hm; simp only at h1 h3; refine (L9.rputv_any (L5.bare (L5.sp (ks l)) K) O S L P W (by omega) (by omega)).mono fun e w' ⟨e1, e2⟩ => ⟨?_, e2⟩; have h4 := bare_list (L5.sp (ks l)) K; rw [sp_keys] at h4
 have hok : L9.VP.OkV (L5.bare (L5.sp (ks l)) K).data.toList (L9.pv O S L P) := by
  rw [sp_keys, h4]; exact hf.ok _ hm
 rw [e1]; unfold L9.putVV; rw [if_pos hok]; rfl
theorem rcells_any (F R : Int) (H : ByteArray) (A : Option Addr) (l : List It) (ca : Nat) (w : World) (ha : Lies5 w w.heap.size A l) (hf : Fit H l) :
  Calls Tryz.prog 140 #[lv F R H A l.length ca] w fun e w' => ∃ G cap, e = .returned (.slice G l.length cap) ∧ L5.Lies w' w'.heap.size G (cellsS l) ∧ Below w.heap.size w w' := by
 obtain ⟨i0, hi, hz0, hz1, hz2⟩ := info_parts L5.Tryz.infoStr; have hb0 := lbox_below 41 F R H A l.length ca w; have HB0 := zj hb0; have HA := zj (ha.on hb0); have HK := zj (lbox_new 41 F R H A l.length ca w); have HR := zj (rkeys_any F R H A l ca _ (ha.on hb0) hf.few)
 have HS := zj (fun G cap W (h : L5.Lies W W.heap.size G (ks l)) => L5.rstrip_any G (ks l) cap W h (by rw [ks_length]; exact hf.few) (fun s hs => by
  obtain ⟨x, hx, rfl⟩ := List.mem_map.1 hs
  exact hf.key x hx))
 have HPV := zj (fun k K O S L P hc W => rputC hf (k := k) (K := K) (O := O) (S := S) (L := L) (P := P) hc W); have HEQ : Hid (cellsS l = l.map (cellOf l)) := zj rfl; have hl := hf.few; obtain ⟨n, hn⟩ : ∃ n, n = l.length := ⟨_, rfl⟩; have HN := zj hn; rw [ks_length] at HS; rw [← hn]; rw [← hn] at hl HK HB0 HA HR HS; clear ha hf hn hb0; simp only [lbox] at HK HB0 HA HR; go_enter Tryz.func140, Tryz.ntmps140; go_wp2_with fail; refine HR.out.mono ?_; rintro e W2 ⟨G, cap0, rfl, hL, hb2⟩; go_wp2_with fail; refine (HS.out G cap0 _ hL).mono ?_; rintro e w1 ⟨G3, cap3, rfl, hL3, hb3⟩; have HK3 := zj ((HK.out.below hb2).below hb3); have HB3 := zj ((HB0.out.trans' hb2).trans' hb3); have HA3 := zj ((HA.out.on hb2).on hb3); have HL3 := zj hL3; have hlt1 := HK3.out.lt; clear hL hb2 hb3 hL3 HR HS HK HB0 HA; go_wp2_with fail
 go_loopw [5, 6] (fun ov iv wr => ∃ (k g cap : Nat), k ≤ n ∧ iv = .int .i64 k ∧ ov = .slice (some ⟨g, 0, none⟩) k cap ∧ Hid (L5.Owns wr w1.heap.size (.slice (some ⟨g, 0, none⟩) k cap) k ((l.take k).map (cellOf l))) ∧ Below w1.heap.size w1 wr) (fun _ iv _ => n - (intOf iv).toNat)
 case atStart =>
  exact ⟨0, w1.heap.size, 0, by omega, rfl, rfl, zj (L5.own_empty w1 _), L5.below_alloc _ _⟩
 case round =>
  obtain ⟨k, g, cap, hk, rfl, rfl, HO, hbr⟩ := hrel; by_cases hlt : k < n
  ·obtain ⟨⟨KK, O, S, L, P⟩, hc⟩ : ∃ c, l[k]? = some c := ⟨_, List.getElem?_eq_getElem (by have := HN.out; omega)⟩
   obtain ⟨a, rfl, hab, x0, x1, x2, x3, x4⟩ := (HA3.out.below hbr).load hc; obtain ⟨b, rfl, hbb, y0⟩ := (HL3.out.below hbr) k (L5.bare (L5.sp (ks l)) KK) (by simp [L5.bares, ks, hc]); obtain ⟨p0, p1, p2, p3⟩ := (HK3.out.below hbr).cells; have HC : Hid ((l.take (k + 1)).map (cellOf l) = (l.take k).map (cellOf l) ++ [cellOf l ⟨KK, O, S, L, P⟩]) := zj (cells_snoc hc); have HP := zj (HPV.out k KK O S L P hc); have hbs := hbr.size
   have h0 : (0 : Int) ≤ k := by omega
   have hkn : (k : Int) < n := by omega
   generalize cellOf l ⟨KK, O, S, L, P⟩ = cc at *; generalize L5.bare (L5.sp (ks l)) KK = kk at *
   have HST : Hid (∀ V, Below wr.heap.size wr V → (Hid (Below wr.heap.size wr V) ∧ V.cell? (b.add k) = some (.string kk) ∧ V.cell? ⟨w.heap.size, 3, none⟩ = some (.slice (some a) n ca) ∧ V.cell? ⟨(a.add (k * 5)).block, (a.add (k * 5)).off + 1, none⟩ = some (.bool O) ∧ V.cell? ⟨(a.add (k * 5)).block, (a.add (k * 5)).off + 2, none⟩ = some (.string S) ∧ V.cell? ⟨(a.add (k * 5)).block, (a.add (k * 5)).off + 3, none⟩ = some (.int .i64 L) ∧ V.cell? ⟨(a.add (k * 5)).block, (a.add (k * 5)).off + 4, none⟩ = some (.int .i64 P))) := zj (fun V hb => by
    have ha' : (a.add (k * 5)).block < wr.heap.size := by rw [L5.addr_block]; omega
    exact ⟨zj hb, (hb.cell (by rw [L5.addr_block]; omega)).trans y0, (hb.cell (p := ⟨w.heap.size, 3, none⟩) (by show w.heap.size < wr.heap.size; omega)).trans p3, (hb.cell (p := ⟨(a.add (k * 5)).block, (a.add (k * 5)).off + 1, none⟩) ha').trans x1, (hb.cell (p := ⟨(a.add (k * 5)).block, (a.add (k * 5)).off + 2, none⟩) ha').trans x2, (hb.cell (p := ⟨(a.add (k * 5)).block, (a.add (k * 5)).off + 3, none⟩) ha').trans x3, (hb.cell (p := ⟨(a.add (k * 5)).block, (a.add (k * 5)).off + 4, none⟩) ha').trans x4⟩)
   have hSd := HST.out _ (L5.below_drewN (Below.refl _ wr) 1); clear hc hab hbb x0 x1 x2 x3 x4 y0 p0 p1 p2; go_wp2_with fail
   go_region_held3 (fun V => Hid (Below wr.heap.size wr V) ∧ V.cell? (b.add k) = some (.string kk) ∧ V.cell? ⟨w.heap.size, 3, none⟩ = some (.slice (some a) n ca) ∧ V.cell? ⟨(a.add (k * 5)).block, (a.add (k * 5)).off + 1, none⟩ = some (.bool O) ∧ V.cell? ⟨(a.add (k * 5)).block, (a.add (k * 5)).off + 2, none⟩ = some (.string S) ∧ V.cell? ⟨(a.add (k * 5)).block, (a.add (k * 5)).off + 3, none⟩ = some (.int .i64 L) ∧ V.cell? ⟨(a.add (k * 5)).block, (a.add (k * 5)).off + 4, none⟩ = some (.int .i64 P))
    (first | assumption | exact hSd)
    (first
     | (go_at_call 137; refine (HP.out _).mono ?_; rintro e V ⟨rfl, hb⟩; have HBV := zj ((by assumption : Hid (Below wr.heap.size wr _) ∧ _).1.out.trans' hb); have hSn := HST.out _ HBV.out; clear hb)
     | fail "no arm")
   have HOV := zj (L5.own_below HO.out HBV.out); have HW1 := zj (hbr.trans (HBV.out.mono hbs)); have hbs2 := HBV.out.size; go_wp2_with (at_builtin; refine wpList_append_lies _ rfl _ _ 22 rfl w1.heap.size 9 i0 (.string ⟨#[]⟩) 1 16 Tryz.underlying22 hi hz0 hz1 hz2 rfl (by decide) (.slice (some ⟨g, 0, none⟩) k cap) k _ rfl (HOV.out.alloc _) ⟨V.heap.size, 0, none⟩ 1 1 [.string cc] rfl rfl (World.news_of_block (cs := #[.string cc]) (t := 9) (fr := (0, 0)) (heap_alloc_new V _)) (L5.str_one _) (by omega) (by unfold maxLen; omega) (by omega) (by simp; omega) (V.heap.size + 1) (by simp) ?_; intro g' cap' w2 hown' hgrow hat hlt2; have hb3 : Below w1.heap.size V w2 := ((Below.refl _ V).alloc (by omega) (.cells #[.string cc] 9)).trans (L5.own_apart (HOV.out.alloc _) hgrow (Nat.le_refl _) (by simp; omega)); clear hat hlt2 hgrow); have hb4 := HW1.out.trans hb3
   go_roundw
   case rel => exact ⟨k + 1, g', cap', by omega, by simp, rfl, zj (by rw [HC.out, L5.Owns, L5.strCells_snoc]; exact hown'), hb4⟩
   case measure => simp [intOf]; omega
  ·obtain rfl : k = n := by omega
   have HL : Hid (L5.Lies wr wr.heap.size (some ⟨g, 0, none⟩) (cellsS l)) := zj (by
    have h := HO.out; rw [List.take_of_length_le (by have := HN.out; omega), ← HEQ.out] at h
    exact L5.lies_own h (by rw [cellsS_length]; exact HN.out))
   have hlt' : ¬ (k : Int) < k := by omega
   go_wp2_with fail; go_ret; exact ⟨some ⟨g, 0, none⟩, ⟨cap, rfl⟩, HL.out, HB3.out.trans' hbr⟩
end Go.Proofs.YtpeghilfldpgfaaGreatDoor.L10
namespace Go.Proofs.YtpeghilfldpgfaaGreatDoor.GC
open Go.RowKit Go.Proofs.YtpeghilfldpgfaaGreatDoor.L5
theorem Tryz.infoStrG : (Tryz.prog.info? 9).map (fun i => (i.zero, i.size, i.bytes)) = some (some (.string ⟨#[]⟩), 1, 16) := by kernel_rfl
def cutS (s : ByteArray) : ByteArray := s.extract 0 (min s.size 1100)
theorem cutS_size (s : ByteArray) : (cutS s).size ≤ 1100 := by unfold cutS; rw [ByteArray.size_extract]; omega
def cutL (l : List ByteArray) : List ByteArray := (l.take 30).map cutS
theorem cutL_length (l : List ByteArray) : (cutL l).length = min 30 l.length := by simp [cutL]
theorem cutL_few (l : List ByteArray) : (cutL l).length ≤ 30 := by rw [cutL_length]; omega
theorem cutL_size {l : List ByteArray} : ∀ s ∈ cutL l, s.size ≤ 1000000 := fun s h => by
 obtain ⟨x, _, rfl⟩ := List.mem_map.1 h; exact Nat.le_trans (cutS_size x) (by decide)
def cutTo (l : List ByteArray) (k : Nat) : List ByteArray := (l.take k).map cutS
theorem cutTo_snoc (l : List ByteArray) (k : Nat) (s : ByteArray) (h : l[k]? = some s) : cutTo l (k + 1) = cutTo l k ++ [cutS s] := by
 have : l.take (k + 1) = l.take k ++ [s] := by rw [List.take_add_one, h]; rfl
 rw [cutTo, this]; simp [cutTo]
theorem cutO_any (A : Option Addr) (l : List ByteArray) (ca : Nat) (w : World) (ha : Lies w w.heap.size A l) (hl : l.length ≤ maxLen) (hs : ∀ s ∈ l, s.size ≤ maxLen) :
  Calls Tryz.prog 9 #[.slice A l.length ca] w fun e w' => ∃ g cap, e = .returned (.slice (some ⟨g, 0, none⟩) (cutL l).length cap) ∧ (cutL l).length ≤ cap ∧ Lies w' w'.heap.size (some ⟨g, 0, none⟩) (cutL l) ∧ Below w.heap.size w w' ∧ Owns w' w.heap.size (.slice (some ⟨g, 0, none⟩) (cutL l).length cap) (cutL l).length (cutL l) := by
 obtain ⟨i0, hi, hz0, hz1, hz2⟩ := info_parts Tryz.infoStrG; unfold maxLen at hl hs; have HA := zj ha; have HS := zj hs; have HLC := zj (cutL_length l); obtain ⟨n, hn⟩ : ∃ n, n = l.length := ⟨_, rfl⟩; have HN := zj hn; rw [← hn]; rw [← hn] at hl; clear ha hn hs; go_enter Tryz.func9, Tryz.ntmps9; go_wp2_with fail
 go_loopw [3, 4] (fun ov iv wr => ∃ (k g cap : Nat), k ≤ n ∧ k ≤ 30 ∧ iv = .int .i64 k ∧ ov = .slice (some ⟨g, 0, none⟩) k cap ∧ Hid (Owns wr w.heap.size (.slice (some ⟨g, 0, none⟩) k cap) k (cutTo l k)) ∧ k ≤ cap ∧ Below w.heap.size w wr) (fun _ iv _ => 30 - (intOf iv).toNat)
 case atStart =>
  exact ⟨0, w.heap.size, 0, by omega, by omega, rfl, rfl, zj (own_empty w _), by omega, below_alloc _ _⟩
 case round =>
  obtain ⟨k, g, cap, hk, hk30, rfl, rfl, HO, hcap, hbw⟩ := hrel; by_cases hlt : k < n ∧ k < 30
  ·obtain ⟨h1, h2⟩ := hlt
   obtain ⟨s, hc⟩ : ∃ c, l[k]? = some c := ⟨_, List.getElem?_eq_getElem (by have := HN.out; omega)⟩; obtain ⟨a, rfl, hab, x0⟩ := (HA.out.below hbw) k s hc; have hsz := HS.out s (List.mem_of_getElem? hc); have HC := zj (cutTo_snoc l k s hc); obtain ⟨m, hm, hm6, hms, hmm, HE⟩ : ∃ m : Nat, min (s.size : Int) 1100 = m ∧ m ≤ 1100 ∧ m ≤ s.size ∧ min m s.size = m ∧ Hid (cutS s = s.extract 0 m) := ⟨min s.size 1100, by omega, by omega, by omega, by omega, zj rfl⟩; rw [HE.out] at HC
   have d1 : decide ((k : Int) < n) = true := by simp; omega
   have d2 : decide ((k : Int) < 30) = true := by simp; omega
   have hbs := hbw.size; have y0 : wr.drew.cell? (a.add k) = some (.string s) := x0
   have HKB : Hid (∀ W, Below w.heap.size (wr.drew.alloc (.cells #[.string (s.extract 0 m)] 9)) W → W.cell? (a.add k) = some (.string s)) := zj (fun W hW => by
    have h1 : Below w.heap.size wr.drew W := ((Below.refl _ wr.drew).alloc hbs _).trans hW
    exact (h1.cell (by rw [addr_block]; exact hab)).trans y0)
   have y1 := HKB.out _ (Below.refl _ _); clear hc hab; go_wp2_with fail
   go_region_held3 (fun W => W.cell? (a.add k) = some (.string s)) (first | assumption | exact x0 | exact y0 | exact y1 | exact HKB.out _ (own_apart (HO.out.drew.alloc _) (by assumption) (Nat.le_refl _) (by simp; omega)))
    (first
     | (refine step_append_lies _ (by rfl) _ _ _ (by rfl) w.heap.size 9 i0 (.string ⟨#[]⟩) 1 16 Tryz.underlying22 hi hz0 hz1 hz2 rfl (by decide) (.slice (some ⟨g, 0, none⟩) k cap) k _ (by rfl) (HO.out.drew.alloc _) ⟨wr.heap.size, 0, none⟩ 1 1 [.string (s.extract 0 m)] (by rfl) (by rfl) (World.news_of_block (cs := #[.string (s.extract 0 m)]) (t := 9) (fr := (0, 0)) (heap_alloc_new wr.drew _)) (str_one _) (by omega) (by unfold maxLen; omega) (by omega) (by simp; omega) (wr.heap.size + 1) (by simp) ?_; intro g' cap' w1 hown' hgrow hat hlt1)
     | fail "no arm")
   clear hat hlt1; have hcap' := own_cap hown'; have hb3 : Below w.heap.size w w1 := (hbw.drew.trans' (below_alloc wr.drew (.cells #[.string (s.extract 0 m)] 9))).trans (own_apart (HO.out.drew.alloc _) hgrow (Nat.le_refl _) (by simp; omega)); go_wp2_with fail
   go_roundw
   case rel => exact ⟨k + 1, g', cap', by omega, by omega, by simp, rfl, zj (by rw [HC.out, Owns, strCells_snoc]; exact hown'), by omega, hb3⟩
   case measure => simp [intOf]; omega
  ·have hkn : Hid (cutTo l k = cutL l) := zj (by
    have h1 := HN.out
    have h2 : l.take k = l.take 30 := by
     by_cases h3 : k = 30
     ·rw [h3]
     ·rw [List.take_of_length_le (by omega), List.take_of_length_le (by omega)]
    rw [cutTo, cutL, h2])
   have hlen : Hid (k = (cutL l).length) := zj (by have h1 := HN.out; rw [HLC.out]; omega)
   have HL : Hid (Lies wr wr.heap.size (some ⟨g, 0, none⟩) (cutL l)) := zj (by
    have := HO.out; rw [hkn.out] at this
    exact lies_own this hlen.out)
   have HOW : Hid (Owns wr w.heap.size (.slice (some ⟨g, 0, none⟩) (cutL l).length cap) (cutL l).length (cutL l)) := zj (by
    have := HO.out; rw [hkn.out] at this
    rwa [hlen.out] at this)
   by_cases h1 : k < n
   ·have d1 : decide ((k : Int) < n) = true := by simp; omega
    have d2 : decide ((k : Int) < 30) = false := by simp; omega
    clear hlt; go_wp2_with fail; go_ret; exact ⟨g, cap, by rw [← hlen.out]; try rfl, by rw [← hlen.out]; exact hcap, HL.out, hbw, HOW.out⟩
   ·have d1 : decide ((k : Int) < n) = false := by simp; omega
    clear hlt; go_wp2_with fail; go_ret; exact ⟨g, cap, by rw [← hlen.out]; try rfl, by rw [← hlen.out]; exact hcap, HL.out, hbw, HOW.out⟩
end Go.Proofs.YtpeghilfldpgfaaGreatDoor.GC
