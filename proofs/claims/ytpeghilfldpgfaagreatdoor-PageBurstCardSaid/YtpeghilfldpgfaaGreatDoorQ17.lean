import Derived.Test.YtpeghilfldpgfaaGreatDoorQ16
namespace Go.Proofs.YtpeghilfldpgfaaGreatDoor
open Go.RowKit
set_option linter.unusedVariables false
set_option linter.unusedSimpArgs false
theorem addr_at (g j : Nat) : (⟨g, 0, none⟩ : Addr).add j = ⟨g, j, none⟩ := by unfold Addr.add; split <;> simp_all
def BytesAt (g : Nat) (l : List UInt8) (w : World) : Prop := (∀ j c, l[j]? = some c → w.cell? ⟨g, j, none⟩ = some (.int .u8 (c.toNat : Nat))) ∧ (∀ j, j < l.length → w.frozen? ⟨g, j, none⟩ = false) ∧ g < w.heap.size
theorem bytesAt_set {g : Nat} {l : List UInt8} {w : World} (h : BytesAt g l w) (i : Nat) (c : UInt8) (hi : i < l.length) : BytesAt g (l.set i c) (w.setCell ⟨g, i, none⟩ (.int .u8 (c.toNat : Nat))) := by
  obtain ⟨h1, h2, h3⟩ := h
  refine ⟨fun j d hj => ?_, fun j hj => ?_, by simpa using h3⟩
  · by_cases e : i = j
    · subst e
      rw [List.getElem?_set_self hi] at hj
      simp only [Option.some.injEq] at hj
      subst hj
      obtain ⟨v, hv⟩ : ∃ v, w.cell? ⟨g, i, none⟩ = some v := ⟨_, h1 i l[i] (List.getElem?_eq_getElem hi)⟩
      exact World.cell?_setCell_same _ _ _ hv
    · rw [List.getElem?_set_ne e] at hj
      rw [World.cell?_setCell_other _ _ _ _ (fun h => e (by injection h))]
      exact h1 j d hj
  · rw [List.length_set] at hj
    have h := h2 j hj
    simpa using h
theorem bytesAt_drew {g : Nat} {l : List UInt8} {w : World} (h : BytesAt g l w) : BytesAt g l w.drew := h
theorem conv_at {g n cap : Nat} {l : List UInt8} {w : World} (h : BytesAt g l w) (hl : l.length = n) :
    (convert 86 9 (.slice (some ⟨g, 0, none⟩) n cap)).run Tryz.prog w = .ok (.string ⟨l.toArray⟩) w := by
  have hc := run_convert_bytes_back (P := Tryz.prog) w 86 9 5 ⟨g, 0, none⟩ cap l Tryz.underlying86 Tryz.underlying5 Tryz.underlying9 (fun j hj => by
    rw [addr_at]
    exact h.1 j _ (List.getElem?_eq_getElem hj))
  rwa [hl] at hc
theorem conv_to (s : ByteArray) (w : World) : ∃ cap w', (convert 9 86 (.string s)).run Tryz.prog w = .ok (.slice (some ⟨w.heap.size, 0, none⟩) s.size cap) w' ∧ BytesAt w.heap.size s.data.toList w' ∧ Below w.heap.size w w' := by
  refine ⟨_, _, run_bytes_of_string (P := Tryz.prog) w 9 86 5 s Tryz.underlying9 Tryz.underlying86 Tryz.underlying5, ⟨fun j c hj => ?_, fun j hj => ?_, ?_⟩, ?_⟩
  · have hlt : j < s.data.size := by have := (List.getElem?_eq_some_iff.1 hj).1; simpa using this
    have h := World.cell?_alloc_mark w.drew (bytesRow s (grownCap w s.size 0 5)) 5 ((bytesRow s (grownCap w s.size 0 5)).size, (bytesRow s (grownCap w s.size 0 5)).size + 1) j
    rw [bytesRow_at s _ j hlt] at h
    have e : s.data[j] = c := by
      have := (List.getElem?_eq_some_iff.1 hj).2
      simpa using this
    rw [e] at h
    exact h
  · have hlt : j < s.data.size := by simpa using hj
    have h := World.frozen?_alloc_mark w.drew (bytesRow s (grownCap w s.size 0 5)) 5 (bytesRow s (grownCap w s.size 0 5)).size ((bytesRow s (grownCap w s.size 0 5)).size + 1) j
    have hsz : s.data.size ≤ (bytesRow s (grownCap w s.size 0 5)).size := by simp [bytesRow]
    rw [decide_eq_false (show ¬ (bytesRow s (grownCap w s.size 0 5)).size ≤ j by omega)] at h
    exact h
  · show w.heap.size < (w.heap.push _).size
    simp
  · exact (Below.refl _ w).drew.alloc (Nat.le_refl _) _
theorem bytesAt_kept {g : Nat} {l : List UInt8} {w w' : World} (h : BytesAt g l w) (k : Below w.heap.size w w') : BytesAt g l w' := by
  have hb := k.block g h.2.2
  refine ⟨fun j c hj => ?_, fun j hj => ?_, Nat.lt_of_lt_of_le h.2.2 k.size⟩
  · have := h.1 j c hj
    unfold World.cell? at *
    rw [hb]
    exact this
  · have := h.2.1 j hj
    unfold World.frozen? at *
    rw [hb]
    exact this
def nth4 (x y z u : UInt8) (k : Nat) : UInt8 := [x, y, z, u].getD k 0
theorem bst_none (s : List UInt8) (i : Nat) (x : List UInt8) : L7.SP.burst s i x 0 = s := by
  apply List.ext_getElem
  · simp [L7.SP.burst]
  · intro j h1 h2
    simp only [L7.SP.burst, List.getElem_mapIdx]
    rw [if_neg (by omega)]
theorem bst_at (s : List UInt8) (i : Nat) (x : List UInt8) (k : Nat) (h : i + k < s.length) : (L7.SP.burst s i x k)[i + k]? = some s[i + k] := by
  simp [L7.SP.burst, h]
theorem bst_set (s : List UInt8) (i : Nat) (x : List UInt8) (k : Nat) (h : i + k < s.length) : (L7.SP.burst s i x k).set (i + k) (s[i + k] ^^^ x.getD k 0) = L7.SP.burst s i x (k + 1) := by
  apply List.ext_getElem
  · simp [L7.SP.burst]
  · intro j h1 h2
    rw [List.getElem_set]
    simp only [L7.SP.burst, List.getElem_mapIdx]
    by_cases e : i + k = j
    · subst e
      rw [if_pos rfl, if_pos (by omega), show i + k - i = k by omega]
    · rw [if_neg e]
      by_cases h3 : i ≤ j ∧ j < i + k
      · rw [if_pos h3, if_pos (by omega)]
      · rw [if_neg h3, if_neg (by omega)]
def Xb (g : Nat) (x y z u : UInt8) (w : World) : Prop := w.heap[g]? = some (.cells #[.int .u8 (x.toNat : Nat), .int .u8 (y.toNat : Nat), .int .u8 (z.toNat : Nat), .int .u8 (u.toNat : Nat)] 85 (0, 0))
theorem Xb.lt {g : Nat} {x y z u : UInt8} {w : World} (k : Xb g x y z u w) : g < w.heap.size := (Array.getElem?_eq_some_iff.1 k).1
theorem Xb.below {g : Nat} {x y z u : UInt8} {w w' : World} (k : Xb g x y z u w) (b : Below w.heap.size w w') : Xb g x y z u w' := (b.block g k.lt).trans k
theorem Xb.at_ {g : Nat} {x y z u : UInt8} {w : World} (h : Xb g x y z u w) {k : Nat} (hk : k < 4) : w.cell? ⟨g, k, none⟩ = some (.int .u8 ((nth4 x y z u k).toNat : Nat)) := by
  unfold Xb at h
  rw [cell_of_row _ _ k _ _ _ h]
  rcases (show k = 0 ∨ k = 1 ∨ k = 2 ∨ k = 3 by omega) with rfl | rfl | rfl | rfl <;> rfl
theorem burst_bad {X : ByteArray} {x : GP.Pg} (h : GP.dec X = some x) {xs : List UInt8} {i k : Nat} (hk : k ≤ 4) (hi : 16 ≤ i) (hne : L7.SP.burst X.data.toList i xs k ≠ X.data.toList) : GP.dec ⟨(L7.SP.burst X.data.toList i xs k).toArray⟩ = none := by
  cases e : GP.dec ⟨(L7.SP.burst X.data.toList i xs k).toArray⟩ with
  | none => rfl
  | some y =>
    exfalso
    have hg := (GP.dec_open h).2
    have hz := GP.dec_size h
    have h2 := (GP.dec_open e).2
    have hp := L7.HP.page_of_good X.data.toList (by simp; omega) hg
    have h3 := L7.HP.burst_good (L7.HP.headOf X.data.toList) (X.data.toList.drop 16) xs i k hk hg.1 (.inr (.inr hi))
    rw [hp] at h3
    exact hne (h3.1 (by simpa using h2))
theorem at_i {n zz j : Nat} (hn : n ≤ 65535) (hz : zz ≤ 1100) (hj : n % zz = j) (hl : j < zz) : wrap64 (16 + (wrap64 (n : Int)).tmod (zz : Int)) = ((16 + j : Nat) : Int) := by
  have e3 : (16 : Int) + ((j : Nat) : Int) = ((16 + j : Nat) : Int) := by clear hj; omega
  have e4 : wrap64 ((16 + j : Nat) : Int) = ((16 + j : Nat) : Int) := IntWalk.wrap64_in _ (by clear e3 hj; omega)
  rw [IntWalk.wrap64_in (n : Int) (by clear e3 e4 hj; omega), show (n : Int).tmod (zz : Int) = ((n % zz : Nat) : Int) from rfl, hj, e3, e4]
def PageR (f : FuncId) (args : Array Value) (r : Int) (W : World) : Prop :=
  Calls Tryz.prog f args W fun e w' => ∃ k a b c m, e = .returned (.tuple #[gv k a b c m, .int .i64 r]) ∧ Below W.heap.size W w'
theorem burst_end {X : ByteArray} {x : GP.Pg} (h : GP.dec X = some x) (xs : List UInt8) {i : Nat} (hi : 16 ≤ i) : ∀ k, k ≤ 4 → ∃ (r : Int) (bo : Bool),
    Hid (∀ W, L10.Glo W → PageR 17 #[.string ⟨(L7.SP.burst X.data.toList i xs k).toArray⟩] r W) ∧ (r == 0) = bo ∧ ((⟨(L7.SP.burst X.data.toList i xs k).toArray⟩ : ByteArray).toList == X.toList) = bo := by
  intro k hk
  have hz := GP.dec_size h
  have hs : (⟨(L7.SP.burst X.data.toList i xs k).toArray⟩ : ByteArray).size ≤ 1000000 := by
    show (L7.SP.burst X.data.toList i xs k).toArray.size ≤ 1000000
    rw [List.size_toArray, L7.SP.burst_length]
    have : X.data.toList.length = X.size := by simp
    omega
  by_cases e : L7.SP.burst X.data.toList i xs k = X.data.toList
  · have e2 : (⟨(L7.SP.burst X.data.toList i xs k).toArray⟩ : ByteArray) = X := by rw [e]
    rw [e2] at hs ⊢
    refine ⟨0, true, Lib.hid fun W hW => (pdec1 h hs hW).mono ?_, rfl, by simp⟩
    rintro e W' ⟨k, a, b, c, m, h1, _, _, h2⟩
    exact ⟨k, a, b, c, m, h1, h2⟩
  · refine ⟨3, false, Lib.hid fun W hW => (pdec0 (burst_bad h hk hi e) hs hW).mono ?_, rfl, ?_⟩
    · rintro e W' ⟨h1, h2⟩
      exact ⟨_, _, _, _, _, h1, h2⟩
    · rw [beq_eq_false_iff_ne]
      intro he
      apply e
      rw [Lib.toList_data, Lib.toList_data] at he
      simpa using he
set_option maxHeartbeats 4000000 in
set_option maxRecDepth 100000 in
theorem pageBurst_nat (s : ByteArray) (n : Nat) (x y z u : UInt8) (w : World) (hg : L10.Glo w) (ws : s.size ≤ maxLen) (hn : n ≤ 65535) :
    Calls Tryz.prog 7 #[.string s, .int .u16 n, .agg #[.int .u8 (x.toNat : Nat), .int .u8 (y.toNat : Nat), .int .u8 (z.toNat : Nat), .int .u8 (u.toNat : Nat)]] w fun e w' => e = .returned (.bool true) ∧ Below w.heap.size w w' := by
  obtain ⟨m, hm, hm1, hms, hm2, hts⟩ := L9.cut_min s 1100 (by decide)
  have q1 : (m : Int) ≤ s.size := by omega
  obtain ⟨X, hX⟩ : ∃ X, s.extract 0 m = X := ⟨_, rfl⟩
  rw [hX] at hts
  have HTS := Lib.hid (show X.size ≤ 1100 by omega)
  have HN := Lib.hid hn
  have HF : Hid Fixes := Lib.hid fixed_any
  have hb0 := L5.below_alloc w (.cells #[.int .u8 (x.toNat : Nat), .int .u8 (y.toNat : Nat), .int .u8 (z.toNat : Nat), .int .u8 (u.toNat : Nat)] 85)
  have HW := Lib.hid hb0
  have HG := Lib.hid (hg.on hb0)
  have HXB : Hid (Xb w.heap.size x y z u (w.alloc (.cells #[.int .u8 (x.toNat : Nat), .int .u8 (y.toNat : Nat), .int .u8 (z.toNat : Nat), .int .u8 (u.toNat : Nat)] 85))) := Lib.hid (heap_alloc_new _ _)
  clear hg hm1 hms hts ws hb0 hn
  go_enter Tryz.func7, Tryz.ntmps7
  go_wp2_with fail
  clear hm hm2 hX q1
  generalize w.alloc (.cells #[.int .u8 (x.toNat : Nat), .int .u8 (y.toNat : Nat), .int .u8 (z.toNat : Nat), .int .u8 (u.toNat : Nat)] 85) = W0 at *
  cases hx : GP.dec X with
  | none =>
    refine (pdec0 hx (Nat.le_trans HTS.out (by decide)) HG.out).mono ?_
    rintro e V ⟨rfl, hb⟩
    have hba := gbox_below 35 0 LV0 NV0 CV0 Mv0 V
    have HK := Lib.hid (gbox_new 35 0 LV0 NV0 CV0 Mv0 V)
    replace HW := Lib.hid (HW.out.trans' (hb.trans' hba))
    replace HG := Lib.hid (HG.out.on (hb.trans' hba))
    clear hb hba
    go_wp2_with (first | (refine store_page Tryz.sizeG rfl _ _ rfl V.heap.size 0 LV0 NV0 CV0 Mv0 rfl rfl (gbox_zero 35 V) ?_; rw [setG_alloc]; generalize gbox 35 0 LV0 NV0 CV0 Mv0 V = V1 at *) | (refine load_wantedP0 (.tmp 7) rfl HK.out rfl (by rfl) ?_))
    refine (psame_any _ (hasG0 _) (hasG0 _) small0 small0 (q := true) (by simp)).mono ?_
    rintro e V ⟨rfl, hb⟩
    replace HW := Lib.hid (HW.out.trans' hb)
    replace HG := Lib.hid (HG.out.on hb)
    clear hb
    go_wp2_with fail
    refine (HF.out _ HG.out).mono ?_
    rintro e V ⟨rfl, hb⟩
    go_wp2_with fail
    go_ret
    exact ⟨rfl, HW.out.trans' hb⟩
  | some pg =>
    have HZS := Lib.hid (GP.dec_size hx)
    have HE0 := Lib.hid (fun (i : Nat) (hi : 16 ≤ i) => burst_end hx [x, y, z, u] hi)
    refine (pdec1 hx (Nat.le_trans HTS.out (by decide)) HG.out).mono ?_
    rintro e V ⟨kk, a, b, c, m', rfl, hG, hO, hb⟩
    have hba := gbox_below 35 kk a b c m' V
    replace HW := Lib.hid (HW.out.trans' (hb.trans' hba))
    replace HXB := Lib.hid (HXB.out.below (hb.trans' hba))
    replace HG := Lib.hid (HG.out.on (hb.trans' hba))
    obtain ⟨cap, W2, hrun, hby, hbel⟩ := conv_to X (gbox 35 kk a b c m' V)
    obtain ⟨zl, hzl⟩ : ∃ zl, X.size = zl := ⟨_, rfl⟩
    obtain ⟨zz, hzz, hzz0⟩ : ∃ zz : Nat, IntKind.i64.wrap ((zl : Int) - 16) = zz ∧ (zz : Int) ≠ 0 ∧ zl = zz + 16 := by
      have := HZS.out
      refine ⟨zl - 16, ?_, by omega, by omega⟩
      rw [show ((zl : Int) - 16) = ((zl - 16 : Nat) : Int) by omega]
      exact IntWalk.i64_in _ (by omega)
    obtain ⟨j, hj, hj2⟩ : ∃ j : Nat, n % zz = j ∧ j < zz := ⟨n % zz, rfl, Nat.mod_lt _ (by omega)⟩
    have HAT := Lib.hid (at_i HN.out (by have := HTS.out; omega) hj hj2)
    have HL : Hid (X.data.toList.length = zl) := Lib.hid (by simp [← hzl])
    have HI : Hid (16 ≤ 16 + j ∧ 16 + j < zl) := Lib.hid ⟨by omega, by omega⟩
    have HZ : Hid (zl ≤ 1100) := Lib.hid (by have := HTS.out; omega)
    have HEND := Lib.hid (HE0.out (16 + j) HI.out.1)
    rw [hzl] at hrun
    have hzn := hzz0.1
    clear hb hba hG hO hx HZS HTS HE0 hj2 hzl HN hzz0
    go_wp2_with (refine store_page Tryz.sizeG rfl _ _ rfl V.heap.size kk a b c m' rfl rfl (gbox_zero 35 V) ?_; rw [setG_alloc]; generalize gbox 35 kk a b c m' V = W1 at *)
    rw [HAT.out]
    clear HAT
    generalize 16 + j = i at *
    have HLT : Hid (w.heap.size < W1.heap.size) := Lib.hid HXB.out.lt
    replace HXB := Lib.hid (HXB.out.below hbel)
    have HGW := Lib.hid HG.out
    have HBy := Lib.hid hby
    have HLE := Lib.hid hbel
    clear hby hbel hrun hzz hj hzn
    generalize X.data.toList = L at *
    go_loopw [11] (fun kv wr => ∃ k : Nat, k ≤ 4 ∧ i + k ≤ zl ∧ kv = .int .i64 k ∧ Hid (BytesAt W1.heap.size (L7.SP.burst L i [x, y, z, u] k) wr) ∧ Below W1.heap.size W1 wr ∧ Hid (Xb (w.heap.size) x y z u wr)) (fun kv _ => 4 - (intOf kv).toNat)
    case atStart => exact ⟨0, by omega, by have := HI.out; omega, rfl, by rw [bst_none]; exact HBy, HLE.out, HXB⟩
    case round =>
      obtain ⟨k, hk4, hik, rfl, hB, hb, hX⟩ := hrel
      by_cases h4 : k < 4
      · by_cases hlt : i + k < zl
        · have hSl : i + k < L.length := by rw [HL.out]; exact hlt
          have hbl := L7.SP.burst_length L i [x, y, z, u] k
          have hc1 : wr.cell? ⟨W1.heap.size, i + k, none⟩ = some (.int .u8 (L[i + k].toNat : Nat)) := hB.out.1 _ _ (bst_at L i [x, y, z, u] k hSl)
          have hf1 : wr.frozen? ⟨W1.heap.size, i + k, none⟩ = false := hB.out.2.1 _ (by omega)
          have hc2 := hX.out.at_ h4
          have hB' := Lib.hid (bytesAt_set hB.out (i + k) (L[i + k] ^^^ [x, y, z, u].getD k 0) (by omega))
          rw [bst_set L i [x, y, z, u] k hSl] at hB'
          have hx : bits .xor .u8 (L[i + k].toNat : Int) ((nth4 x y z u k).toNat : Int) = ((L[i + k] ^^^ [x, y, z, u].getD k 0).toNat : Int) := by
            rw [UInt8.toNat_xor]; exact u8_xor_nat _ _ L[i + k].toNat_lt (nth4 x y z u k).toNat_lt
          have hX' : ∀ v, Hid (Xb w.heap.size x y z u (wr.setCell ⟨W1.heap.size, i + k, none⟩ v)) := fun v => Lib.hid (by
            have h := hX.out
            unfold Xb at *
            rw [Below.heap_setCell wr ⟨W1.heap.size, i + k, none⟩ v _ (by have := HLT.out; simp; omega)]
            exact h)
          have HXS := Lib.hid (hX' (.int .u8 ((L[i + k] ^^^ [x, y, z, u].getD k 0).toNat : Nat)))
          clear hbl hB hX hX'
          revert hc1 hB' hx HXS
          generalize L[i + k] ^^^ [x, y, z, u].getD k 0 = c
          generalize L[i + k] = c1
          intro hc1 hB' hx HXS
          have hz := HZ.out
          have q1 : IntKind.i64.wrap ((i : Int) + k) = (i : Int) + k := IntWalk.i64_in _ (by omega)
          have q2 : ((i : Int) + k).toNat = i + k := by omega
          have q3 : (0 : Int) ≤ (i : Int) + k := by omega
          have q4 : (i : Int) + k < zl := by omega
          have q5 : decide ((i : Int) + k < zl) = true := by simpa using q4
          have q6 : decide ((k : Int) < 4) = true := by simp; omega
          have q7 : (k : Int) < 4 := by omega
          have q8 : (0 : Int) ≤ (k : Int) := by omega
          clear hz
          go_wp2_with fail
          go_region
          clear q1 q2 q3 q4 q5 q6 q7 q8 hx
          go_wp2_with fail
          go_roundw
          case rel => exact ⟨k + 1, by omega, by omega, by go_num, Lib.hid (bytesAt_drew hB'.out), (hb.setCell (Nat.le_refl _) _).drew, HXS.out⟩
          case measure => simp [intOf]; omega
        · have hz := HZ.out
          have q1 : IntKind.i64.wrap ((i : Int) + k) = (i : Int) + k := IntWalk.i64_in _ (by omega)
          have q5 : decide ((i : Int) + k < zl) = false := by simp; omega
          have q6 : decide ((k : Int) < 4) = true := by simp; omega
          clear hz
          obtain ⟨r, bo, HDT, hr1, hr2⟩ := HEND.out k hk4
          have hbl := (L7.SP.burst_length L i [x, y, z, u] k).trans HL.out
          have hcv := conv_at (cap := cap) hB.out hbl
          have HCV : Hid (∀ V, BytesAt W1.heap.size (L7.SP.burst L i [x, y, z, u] k) V → (convert 86 9 (.slice (some ⟨W1.heap.size, 0, none⟩) zl cap)).run Tryz.prog V = .ok (.string ⟨(L7.SP.burst L i [x, y, z, u] k).toArray⟩) V) := Lib.hid (fun V hV => conv_at (cap := cap) hV hbl)
          have HG := Lib.hid (HGW.out.on hb)
          generalize (⟨(L7.SP.burst L i [x, y, z, u] k).toArray⟩ : ByteArray) = T at *
          generalize L7.SP.burst L i [x, y, z, u] k = M at *
          clear hbl HEND
          go_wp2_with fail
          refine (HDT.out _ HG.out).mono ?_
          rintro e V ⟨kk, a, b, c, m, rfl, hb2⟩
          have hba := gbox_below 35 kk a b c m V
          have HBT := Lib.hid (HW.out.trans' (hb.trans' (hb2.trans' hba)))
          have HGT := Lib.hid (HG.out.on (hb2.trans' hba))
          have hcv2 := HCV.out _ (bytesAt_kept hB.out (hb2.trans' hba))
          clear hcv hba hb2
          go_wp2_with (refine store_page Tryz.sizeG rfl _ _ rfl V.heap.size kk a b c m rfl rfl (gbox_zero 35 V) ?_; rw [setG_alloc]; generalize gbox 35 kk a b c m V = V1 at *)
          refine (HF.out _ HGT.out).mono ?_
          rintro e V ⟨rfl, hb3⟩
          go_wp2_with fail
          go_ret
          exact ⟨rfl, HBT.out.trans' hb3⟩
      · have q6 : decide ((k : Int) < 4) = false := by simp; omega
        obtain ⟨r, bo, HDT, hr1, hr2⟩ := HEND.out k hk4
        have hbl := (L7.SP.burst_length L i [x, y, z, u] k).trans HL.out
        have hcv := conv_at (cap := cap) hB.out hbl
        have HCV : Hid (∀ V, BytesAt W1.heap.size (L7.SP.burst L i [x, y, z, u] k) V → (convert 86 9 (.slice (some ⟨W1.heap.size, 0, none⟩) zl cap)).run Tryz.prog V = .ok (.string ⟨(L7.SP.burst L i [x, y, z, u] k).toArray⟩) V) := Lib.hid (fun V hV => conv_at (cap := cap) hV hbl)
        have HG := Lib.hid (HGW.out.on hb)
        generalize (⟨(L7.SP.burst L i [x, y, z, u] k).toArray⟩ : ByteArray) = T at *
        generalize L7.SP.burst L i [x, y, z, u] k = M at *
        clear hbl HEND
        go_wp2_with fail
        refine (HDT.out _ HG.out).mono ?_
        rintro e V ⟨kk, a, b, c, m, rfl, hb2⟩
        have hba := gbox_below 35 kk a b c m V
        have HBT := Lib.hid (HW.out.trans' (hb.trans' (hb2.trans' hba)))
        have HGT := Lib.hid (HG.out.on (hb2.trans' hba))
        have hcv2 := HCV.out _ (bytesAt_kept hB.out (hb2.trans' hba))
        clear hcv hba hb2
        go_wp2_with (refine store_page Tryz.sizeG rfl _ _ rfl V.heap.size kk a b c m rfl rfl (gbox_zero 35 V) ?_; rw [setG_alloc]; generalize gbox 35 kk a b c m V = V1 at *)
        refine (HF.out _ HGT.out).mono ?_
        rintro e V ⟨rfl, hb3⟩
        go_wp2_with fail
        go_ret
        exact ⟨rfl, HBT.out.trans' hb3⟩
theorem pageBurst_walk (s : ByteArray) (n : Int) (x y z u : UInt8) (w : World) (hg : L10.Glo w) (ws : s.size ≤ maxLen) (wn : (Lit.int .u16 n).wf = true) :
    Calls Tryz.prog 7 #[.string s, .int .u16 n, .agg #[.int .u8 (x.toNat : Nat), .int .u8 (y.toNat : Nat), .int .u8 (z.toNat : Nat), .int .u8 (u.toNat : Nat)]] w fun e w' => e = .returned (.bool true) ∧ Below w.heap.size w w' := by
  have h2 : 0 ≤ n ∧ n ≤ 65535 := by simpa [Lit.wf, IntKind.min, IntKind.max, IntKind.signed, IntKind.bits] using wn
  obtain ⟨k, rfl⟩ := Int.eq_ofNat_of_zero_le h2.1
  exact pageBurst_nat s k x y z u w hg ws (by omega)
end Go.Proofs.YtpeghilfldpgfaaGreatDoor
namespace Go.Proofs.YtpeghilfldpgfaaGreatDoor
open Go.ChangeShapes Go.WideShapes Go.ChangeAt Go.RowKit
theorem u8_of {n : Int} (h : (Lit.int .u8 n).wf = true) : ∃ c : UInt8, n = c.toNat := by
  have := bounds_u8 h
  exact ⟨UInt8.ofNat n.toNat, by simp; omega⟩
theorem open_four_bytes {P : Program} {H : Type} {enc : TypeId × Value → H} {w : World} {t e : TypeId} {r : Reach} {b0 : Nat} {v : Value} {d : DataW H} {p : List MemPlace}
    (ht : P.underlying t = some (.array 4 e)) (he : P.underlying e = some (.int .u8)) (hce : P.cellsOf e = 1) (hct : P.cellsOf t = 4)
    (hv : Value.okWide P w r b0 t v) (h : DataW.Trod enc P w 0 (fun _ => true) true t v d p) :
    ∃ x y z u : UInt8, v = .agg #[.int .u8 x.toNat, .int .u8 y.toNat, .int .u8 z.toNat, .int .u8 u.toNat] := by
  unfold Value.okWide at hv
  rw [ht] at hv
  obtain ⟨cs, rfl, hsz, _⟩ := hv
  obtain ⟨fuel, hf⟩ := h
  obtain ⟨xs, m, _, _, hlen, hn, hall⟩ := DataW.trod_array ht hf
  rw [hct] at hsz
  obtain ⟨c0, c1, c2, c3, rfl⟩ : ∃ c0 c1 c2 c3, cs = #[c0, c1, c2, c3] := by
    obtain ⟨l⟩ := cs
    match l, hsz with
    | [c0, c1, c2, c3], _ => exact ⟨c0, c1, c2, c3, rfl⟩
  have h0 := hall 0 (by omega)
  have h1 := hall 1 (by omega)
  have h2 := hall 2 (by omega)
  have h3 := hall 3 (by omega)
  rw [hce] at h0 h1 h2 h3
  obtain ⟨y0, y1, y2, y3, rfl⟩ : ∃ y0 y1 y2 y3, xs = [y0, y1, y2, y3] := by
    match xs, hn with
    | [a, b, c, d], _ => exact ⟨a, b, c, d, rfl⟩
  simp [Value.cells] at h0 h1 h2 h3
  obtain ⟨x, hx, _, hxl⟩ := DataW.trod_int he h0
  obtain ⟨y, hy, _, hyl⟩ := DataW.trod_int he h1
  obtain ⟨z, hz, _, hzl⟩ := DataW.trod_int he h2
  obtain ⟨u, hu, _, hul⟩ := DataW.trod_int he h3
  simp at hx hy hz hu
  subst hx hy hz hu
  obtain ⟨x, rfl⟩ := u8_of hxl
  obtain ⟨y, rfl⟩ := u8_of hyl
  obtain ⟨z, rfl⟩ := u8_of hzl
  obtain ⟨u, rfl⟩ := u8_of hul
  exact ⟨x, y, z, u, rfl⟩
end Go.Proofs.YtpeghilfldpgfaaGreatDoor
