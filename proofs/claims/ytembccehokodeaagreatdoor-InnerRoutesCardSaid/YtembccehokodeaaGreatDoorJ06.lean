/-
  What Seal, Open and Right tell, as contracts in one form; what the document fixes.
  The walks of inner.Size and Encode.
  The walk of slot.Unpack.
  Package cell: GetValue, GetKid. Written by wip/gen_vget.py.
  Walks of the document's own answers of layer 5: Common, Span, Least.
  The walks of the document's Fixed, Cells and Size.
  The law of layer 5's Cut tells of its own row; the walk of layer 11's Ref.
  The walks of inner.Route and the document's Route.
  The walk of the document's Cells.
-/
import Derived.Test.YtembccehokodeaaGreatDoorJHOpen
import Derived.Test.YtembccehokodeaaGreatDoorJIParts
import Derived.Test.YtembccehokodeaaGreatDoorJ02
import Derived.Test.YtembccehokodeaaGreatDoorJ04
import Derived.Test.YtembccehokodeaaGreatDoorJ05
import Derived.Test.YtembccehokodeaaGreatDoorJ03
import Derived.Test.YtembccehokodeaaGreatDoorJ01
import Derived.Deep.RegionHeld3
import Derived.Deep.Upon
namespace Go.Proofs.YtembccehokodeaaGreatDoor.L7
open Go.RowKit
set_option linter.unusedVariables false
set_option linter.unusedSimpArgs false

/-- A call tells a value in every world that has the sizes. -/
def Tells (f : FuncId) (args : Array Value) (v : Value) : Prop := ∀ W, Sizes W → Calls Tryz.prog f args W fun e w' => e = .returned v ∧ Below W.heap.size W w'
theorem Tells.at {f : FuncId} {args : Array Value} {v : Value} {W0 W : World} (t : Hid (Tells f args v)) (s : Hid (Sizes W0)) (b : Below W0.heap.size W0 W) : Calls Tryz.prog f args W fun e w' => e = .returned v ∧ Below W0.heap.size W0 w' :=
  (t.out W (s.out.kept b)).mono fun e w' ⟨h1, h2⟩ => ⟨h1, b.trans' h2⟩
theorem Tells.held {c : Prop} {f : FuncId} {args : Array Value} {v : Value} {W0 W : World} (t : Hid (Tells f args v)) (s : Hid (Sizes W0)) (b : Hid (Below W0.heap.size W0 W) ∧ c) : Calls Tryz.prog f args W fun e w' => e = .returned v ∧ Below W0.heap.size W0 w' := Tells.at t s b.1.out
def seaV (h : HP.H) (b : ByteArray) (p : Int) : Value := .tuple #[.string (HP.sea h b p).1, .int .i64 (HP.sea h b p).2]
theorem tSeal (h : HP.H) (b : ByteArray) (p : Int) (hp : (Lit.int .i64 p).wf = true) (hb : b.size ≤ maxLen) : Hid (Tells 35 #[hv h, .string b, .int .i64 p] (seaV h b p)) := Lib.hid fun W hW => seal_any h b p W hW hp hb
theorem tOpen (s : ByteArray) (hs : s.size ≤ maxLen) : Hid (Tells 71 #[.string s] (opnV s)) := Lib.hid fun W hW => open_any s W hW hs
theorem Tells.as {f : FuncId} {args : Array Value} {v v' : Value} (t : Hid (Tells f args v)) (h : v = v') : Hid (Tells f args v') := h ▸ t

theorem toBytes (l : List UInt8) : (⟨l.toArray⟩ : ByteArray).data.toList = l := rfl
theorem sizeOf (l : List UInt8) : (⟨l.toArray⟩ : ByteArray).size = l.length := by simp [ByteArray.size]
theorem opened {L R : List UInt8} {h : HP.H} (hm : mayBe L.length = true) (hg : HP.good L) (hh : HP.headOf L = h) (hd : L.drop 16 = R) : HP.opn ⟨L.toArray⟩ = (h, ⟨R.toArray⟩, 0) := by
  have hs := sizeOf L
  have e : (⟨L.toArray⟩ : ByteArray).extract 16 L.length = ⟨R.toArray⟩ := by
    apply ByteArray.ext
    apply Array.toList_inj.1
    rw [Lib.extract_data, toBytes, hd, List.take_of_length_le (by rw [← hd, List.length_drop]; exact Nat.le_refl _)]
  have hx := HP.opn_good (s := ⟨L.toArray⟩) (by rw [hs]; exact hm) hg
  rw [hx, hs, e, toBytes, hh]
theorem page_size (h : HP.H) (b : ByteArray) (p : Nat) (hb : b.size + 16 ≤ p) : (HP.page (HP.front h) (HP.rest b.data.toList p)).length = p := by
  have hbl : b.data.toList.length = b.size := by simp
  rw [HP.page_length, HP.front_length, HP.rest_length _ _ (by omega)]
  omega
/-- A page is opened as it was sealed. -/
theorem page_opened {h : HP.H} {b : ByteArray} {p : Nat} (hm : mayBe p = true) (hr : HP.Ok h) (hb : b.size + 16 ≤ p) :
    HP.opn ⟨(HP.page (HP.front h) (HP.rest b.data.toList p)).toArray⟩ = (h, ⟨(HP.rest b.data.toList p).toArray⟩, 0) :=
  opened (by rw [page_size h b p hb]; exact hm) (HP.good_page h _ hr) (HP.headOf_page h _ hr) (HP.page_drop _ _ (HP.front_length h))

end Go.Proofs.YtembccehokodeaaGreatDoor.L7

namespace Go.Proofs.YtembccehokodeaaGreatDoor
open Go.RowKit IP
set_option linter.unusedVariables false
set_option linter.unusedSimpArgs false

set_option maxHeartbeats 1000000 in
theorem nsize_any (F L R : Int) (H : ByteArray) (A : Option Addr) (n ca : Nat) (C : Option Addr) (m cb : Nat) (ks : List Int) (ss : List ByteArray) (w : World) (hr : Rows2 w A n ca C m cb ks ss) (hf : Fit H ks ss) :
    Calls Tryz.prog 22 #[nv F L R H A n ca C m cb] w fun e w' => e = .returned (.int .i64 (size ⟨F, L, R, H, ks, ss⟩ : Nat)) ∧ Below w.heap.size w w' := by
  have hb0 := nbox_below 25 F L R H A n ca C m cb w
  have HP := Lib.hid (parts_any F L R H A n ca C m cb ks ss _ (hr.on hb0) hf)
  have hnc : (cellsS ks ss).length = n := by rw [cellsS_length hf.len, hr.nk]
  have HS := Lib.hid (fun G cap W (h : L5.Lies W W.heap.size G (cellsS ks ss)) => L8.size_any (fixedS H ss) G (cellsS ks ss) cap W h (by rw [cellsS_length hf.len, hf.len]; have := hf.few; omega) (by have := fixedS_size hf; omega) (fun s hs => by have := cellsS_size hf s hs; omega))
  rw [size_eq F L R, hnc] at HS
  generalize size ⟨F, L, R, H, ks, ss⟩ = z at *
  clear hr hf hnc
  go_enter Tryz.func22, Tryz.ntmps22
  go_wp2_with fail
  refine HP.out.mono ?_
  rintro e w2 ⟨G, cap, rfl, HL, hb2⟩
  go_wp2_with fail
  refine (HS.out G cap _ HL).mono ?_
  rintro e w3 ⟨rfl, rfl⟩
  go_wp2_with fail
  go_ret
  exact ⟨rfl, hb0.trans' hb2⟩

def encV (n : Inn) (p : Int) : Value := .tuple #[.string (enc n p).1, .int .i64 (enc n p).2]
theorem packV_ok {F L R : Int} {H : ByteArray} {ks : List Int} {ss : List ByteArray} {p : Nat} (hp : p ≤ 1024) (h16 : 16 ≤ p) (hs : size ⟨F, L, R, H, ks, ss⟩ ≤ p - 16) : L8.packV ((p : Int) - 16) (fixedS H ss) (cellsS ks ss) = .tuple #[.string ⟨(body ⟨F, L, R, H, ks, ss⟩ p).toArray⟩, .int .i64 0] := by
  unfold L8.packV
  rw [if_neg (by omega), if_neg (by rw [size_eq F L R]; omega)]
  unfold L8.packS body cells
  rw [cellsS_list, ← fixedS_list F L R H ks ss]
  simp only [Int.ofNat_eq_natCast, show ((p : Int) - 16).toNat = p - 16 by omega]
theorem packV_big {F L R : Int} {H : ByteArray} {ks : List Int} {ss : List ByteArray} {p : Nat} (hp : p ≤ 1024) (h16 : 16 ≤ p) (hs : ¬ size ⟨F, L, R, H, ks, ss⟩ ≤ p - 16) : L8.packV ((p : Int) - 16) (fixedS H ss) (cellsS ks ss) = .tuple #[.string ⟨#[]⟩, .int .i64 8] := by
  unfold L8.packV
  rw [if_neg (by omega), if_pos (by rw [size_eq F L R]; omega)]
theorem seal_ok {n : Inn} {p : Nat} (h : May n p) (hs : (size n : Int) ≤ (p : Int) - 16) : L7.seaV (hd n) ⟨(body n p).toArray⟩ p = .tuple #[.string ⟨(page n p).toArray⟩, .int .i64 0] := by
  obtain ⟨hok, hn⟩ := h.fits hs
  have hp := mayBe_le h.1
  have hbl : (body n p).length = p - 16 := body_length (by omega)
  have hsz : (⟨(body n p).toArray⟩ : ByteArray).size = p - 16 := by
    show (body n p).toArray.size = _
    rw [List.size_toArray, hbl]
  have hg := L7.HP.seal_good (h := hd n) (b := ⟨(body n p).toArray⟩) (p := p) h.1 (L7.HP.right_iff.2 hok) (by rw [hsz]; omega)
  have e1 : (⟨(body n p).toArray⟩ : ByteArray).data.toList = body n p := rfl
  have e2 : L7.HP.rest (body n p) p = body n p := by
    unfold L7.HP.rest
    rw [hbl, Nat.sub_self]
    simp
  unfold L7.seaV
  rw [hg, e1, Int.toNat_natCast, e2]
  rfl
theorem enc_size {n : Inn} {p : Int} (h : May n p) (hs : (size n : Int) ≤ p - 16) : (⟨(page n p.toNat).toArray⟩ : ByteArray).size = p.toNat := by
  have hp := mayBe_le h.1
  show (page n p.toNat).toArray.size = _
  rw [List.size_toArray, page_length (by omega) (by omega)]

set_option maxHeartbeats 2000000 in
set_option maxRecDepth 100000 in
theorem enc_any (F L R : Int) (H : ByteArray) (A : Option Addr) (n ca : Nat) (C : Option Addr) (m cb : Nat) (ks : List Int) (ss : List ByteArray) (p : Int) (w : World) (hs : L7.Sizes w) (hr : Rows2 w A n ca C m cb ks ss) (hn : n ≤ 1000) (hm : m ≤ 1000) :
    Calls Tryz.prog 10 #[nv F L R H A n ca C m cb, .int .i64 p] w fun e w' => e = .returned (encV ⟨F, L, R, H, ks, ss⟩ p) ∧ Below w.heap.size w w' := by
  have hb0 := nbox_below 25 F L R H A n ca C m cb w
  have HB0 := Lib.hid hb0
  have HS0 := Lib.hid (hs.below hs.lt hb0)
  have HR0 := Lib.hid (hr.on hb0)
  have HK := Lib.hid (nbox_new 25 F L R H A n ca C m cb w)
  have HSZ := Lib.hid (fun W (h : L7.Sizes W) => L7.size_any p W h)
  have HM := Lib.hid (fun W (h : L7.Sizes W) (h2 : Rows2 W A n ca C m cb ks ss) => may_any F L R H A n ca C m cb ks ss p W h h2 (by omega) (by omega))
  obtain ⟨r, HRS⟩ : ∃ r, Hid (r = encV ⟨F, L, R, H, ks, ss⟩ p) := ⟨_, Lib.hid rfl⟩
  rw [← HRS.out]
  have hcases := enc_cases ⟨F, L, R, H, ks, ss⟩ p
  have hnk := hr.nk
  have hnm := hr.nm
  rcases hcases with ⟨hmb, he⟩ | ⟨hmb, hmay, he⟩ | ⟨hmay, hbig, he⟩ | ⟨hmay, hfit, he⟩
  · have HX : Hid (r = .tuple #[.string ⟨#[]⟩, .int .i64 4]) := Lib.hid (by rw [HRS.out, encV, he])
    rw [hmb] at HSZ
    clear hmb he hnk hnm hs hr hn hm hb0 HM
    go_enter Tryz.func10, Tryz.ntmps10
    go_wp2_with fail
    refine (HSZ.out _ HS0.out).mono ?_
    rintro e w2 ⟨rfl, rfl⟩
    go_wp2_with fail
    go_ret2
    exact ⟨by rw [HX.out] <;> rfl, HB0.out⟩
  · have HX : Hid (r = .tuple #[.string ⟨#[]⟩, .int .i64 3]) := Lib.hid (by rw [HRS.out, encV, he])
    rw [hmb] at HSZ
    rw [decide_eq_false hmay] at HM
    clear hmb hmay he hnk hnm hs hr hn hm hb0
    obtain ⟨c0, c1, c2, c3, c4, c5⟩ := HK.out.cells
    go_enter Tryz.func10, Tryz.ntmps10
    go_wp2_with fail
    refine (HSZ.out _ HS0.out).mono ?_
    rintro e w2 ⟨rfl, rfl⟩
    go_wp2_with fail
    refine (HM.out _ HS0.out HR0.out).mono ?_
    rintro e w2 ⟨rfl, hb2⟩
    go_wp2_with fail
    go_ret2
    exact ⟨by rw [HX.out] <;> rfl, HB0.out.trans' hb2⟩
  · have hp := mayBe_le hmay.1
    obtain ⟨q, rfl⟩ : ∃ q : Nat, p = q := Int.eq_ofNat_of_zero_le (by omega)
    have HX : Hid (r = .tuple #[.string ⟨#[]⟩, .int .i64 8]) := Lib.hid (by rw [HRS.out, encV, he])
    rw [hmay.1] at HSZ
    rw [decide_eq_true hmay] at HM
    have hf := May.fit hmay (by omega)
    have hnc : (cellsS ks ss).length = n := by rw [cellsS_length hf.len, hnk]
    have HP := Lib.hid (fun W (h : Rows2 W A n ca C m cb ks ss) => parts_any F L R H A n ca C m cb ks ss W h hf)
    have HK8 := Lib.hid (fun G cap W (h : L5.Lies W W.heap.size G (cellsS ks ss)) => L8.pack_any ((q : Int) - 16) (fixedS H ss) G (cellsS ks ss) cap W h (by omega) (by have := fixedS_size hf; omega) (fun s hs => by have := cellsS_size hf s hs; omega))
    rw [packV_big (F := F) (L := L) (R := R) (by omega) (by omega) (by omega), hnc] at HK8
    have hw : IntKind.i64.wrap ((q : Int) - 16) = (q : Int) - 16 := IntWalk.i64_in _ (by omega)
    clear hmay he hnk hnm hs hr hn hm hb0 hbig hf hp hnc
    obtain ⟨c0, c1, c2, c3, c4, c5⟩ := HK.out.cells
    go_enter Tryz.func10, Tryz.ntmps10
    go_wp2_with fail
    refine (HSZ.out _ HS0.out).mono ?_
    rintro e w2 ⟨rfl, rfl⟩
    go_wp2_with fail
    refine (HM.out _ HS0.out HR0.out).mono ?_
    rintro e w2 ⟨rfl, hb2⟩
    clear c0 c1 c2 c3 c4 c5
    obtain ⟨c0, c1, c2, c3, c4, c5⟩ := (HK.out.below hb2).cells
    go_wp2_with fail
    refine (HP.out _ (HR0.out.on hb2)).mono ?_
    rintro e w3 ⟨G, cap, rfl, HL, hb3⟩
    go_wp2_with fail
    refine (HK8.out G cap _ HL).mono ?_
    rintro e w4 ⟨rfl, hb4⟩
    go_wp2_with fail
    go_ret2
    exact ⟨by rw [HX.out] <;> rfl, ((HB0.out.trans' hb2).trans' hb3).trans' hb4⟩
  · have hp := mayBe_le hmay.1
    obtain ⟨q, rfl⟩ : ∃ q : Nat, p = q := Int.eq_ofNat_of_zero_le (by omega)
    have HX : Hid (r = .tuple #[.string ⟨(page ⟨F, L, R, H, ks, ss⟩ q).toArray⟩, .int .i64 0]) := Lib.hid (by rw [HRS.out, encV, he, Int.toNat_natCast])
    rw [hmay.1] at HSZ
    rw [decide_eq_true hmay] at HM
    have hf := May.fit hmay (by omega)
    have hnc : (cellsS ks ss).length = n := by rw [cellsS_length hf.len, hnk]
    have HP := Lib.hid (fun W (h : Rows2 W A n ca C m cb ks ss) => parts_any F L R H A n ca C m cb ks ss W h hf)
    have HK8 := Lib.hid (fun G cap W (h : L5.Lies W W.heap.size G (cellsS ks ss)) => L8.pack_any ((q : Int) - 16) (fixedS H ss) G (cellsS ks ss) cap W h (by omega) (by have := fixedS_size hf; omega) (fun s hs => by have := cellsS_size hf s hs; omega))
    rw [packV_ok (F := F) (L := L) (R := R) (by omega) (by omega) (by omega), hnc] at HK8
    have hbl : (body ⟨F, L, R, H, ks, ss⟩ q).length = q - 16 := body_length (by omega)
    have HSE := Lib.hid (fun W (h : L7.Sizes W) => L7.seal_any (hd ⟨F, L, R, H, ks, ss⟩) ⟨(body ⟨F, L, R, H, ks, ss⟩ q).toArray⟩ q W h (by simp [Lit.wf, IntKind.min, IntKind.max, IntKind.signed, IntKind.bits]; omega) (by show (body ⟨F, L, R, H, ks, ss⟩ q).toArray.size ≤ maxLen; rw [List.size_toArray, hbl]; unfold maxLen; omega))
    have hsv := seal_ok hmay (by omega)
    unfold L7.seaV at hsv
    rw [hsv] at HSE
    rw [show L7.hv (hd ⟨F, L, R, H, ks, ss⟩) = .agg #[.int .i64 3, .int .i64 L, .int .i64 n, .int .i64 R, .int .i64 F] by rw [← hnk]; rfl] at HSE
    have hw : IntKind.i64.wrap ((q : Int) - 16) = (q : Int) - 16 := IntWalk.i64_in _ (by omega)
    generalize (⟨(page ⟨F, L, R, H, ks, ss⟩ q).toArray⟩ : ByteArray) = PG at *
    generalize (⟨(body ⟨F, L, R, H, ks, ss⟩ q).toArray⟩ : ByteArray) = BD at *
    clear hmay he hnk hnm hs hr hn hm hb0 hfit hf hp hbl hsv hnc
    obtain ⟨c0, c1, c2, c3, c4, c5⟩ := HK.out.cells
    go_enter Tryz.func10, Tryz.ntmps10
    go_wp2_with fail
    refine (HSZ.out _ HS0.out).mono ?_
    rintro e w2 ⟨rfl, rfl⟩
    go_wp2_with fail
    refine (HM.out _ HS0.out HR0.out).mono ?_
    rintro e w2 ⟨rfl, hb2⟩
    clear c0 c1 c2 c3 c4 c5
    obtain ⟨c0, c1, c2, c3, c4, c5⟩ := (HK.out.below hb2).cells
    go_wp2_with fail
    refine (HP.out _ (HR0.out.on hb2)).mono ?_
    rintro e w3 ⟨G, cap, rfl, HL, hb3⟩
    go_wp2_with fail
    refine (HK8.out G cap _ HL).mono ?_
    rintro e w4 ⟨rfl, hb4⟩
    have hb14 := (hb2.trans' hb3).trans' hb4
    have HS4 := Lib.hid (HS0.out.below HS0.out.lt hb14)
    have HB4 := Lib.hid (HB0.out.trans' hb14)
    clear c0 c1 c2 c3 c4 c5
    obtain ⟨c0, c1, c2, c3, c4, c5⟩ := (HK.out.below hb14).cells
    have HS5 := Lib.hid (HS4.out.below HS4.out.lt (L5.below_alloc w4 (.cells #[.int .i64 3, .int .i64 L, .int .i64 n, .int .i64 R, .int .i64 F] 70)))
    have HB5 := Lib.hid (HB4.out.trans' (L5.below_alloc w4 (.cells #[.int .i64 3, .int .i64 L, .int .i64 n, .int .i64 R, .int .i64 F] 70)))
    clear hb2 hb3 hb4 hb14 HL
    go_wp2_with fail
    refine (HSE.out _ HS5.out).mono ?_
    rintro e w5 ⟨rfl, hb5⟩
    go_wp2_with fail
    go_ret2
    exact ⟨by rw [HX.out] <;> rfl, HB5.out.trans' hb5⟩
end Go.Proofs.YtembccehokodeaaGreatDoor

namespace Go.Proofs.YtembccehokodeaaGreatDoor.L8
open Go.Proofs.YtembccehokodeaaGreatDoor.L5
open Go.RowKit
set_option linter.unusedVariables false
set_option linter.unusedSimpArgs false

/-- '[]byte(s)'. -/
theorem conv_to (s : ByteArray) (w : World) : ∃ cap w', (convert 9 94 (.string s)).run Tryz.prog w = .ok (.slice (some ⟨w.heap.size, 0, none⟩) s.size cap) w' ∧ (∀ j c, (B s)[j]? = some c → w'.cell? ⟨w.heap.size, j, none⟩ = some (.int .u8 (c.toNat : Nat))) ∧ s.size ≤ cap ∧ w'.heap.size = w.heap.size + 1 ∧ Below w.heap.size w w' := by
  refine ⟨_, _, run_bytes_of_string (P := Tryz.prog) w 9 94 5 s Tryz.underlying9 Tryz.underlying94 Tryz.underlying5, fun j c hj => ?_, grownCap_ge w _ _ _, by simp, ?_⟩
  · have hlt : j < s.data.size := by have := (List.getElem?_eq_some_iff.1 hj).1; simpa [B] using this
    have h := World.cell?_alloc_mark w.drew (bytesRow s (grownCap w s.size 0 5)) 5 ((bytesRow s (grownCap w s.size 0 5)).size, (bytesRow s (grownCap w s.size 0 5)).size + 1) j
    rw [bytesRow_at s _ j hlt] at h
    have e : s.data[j] = c := by
      have := (List.getElem?_eq_some_iff.1 hj).2
      simpa [B] using this
    rw [e] at h
    exact h
  · exact (Below.refl _ w).drew.alloc (Nat.le_refl _) _

set_option maxHeartbeats 2000000 in
set_option maxRecDepth 100000 in
theorem unpack_any (b : ByteArray) (kf n : Int) (w : World) (hk : (Lit.int .i64 kf).wf = true) (hn : (Lit.int .i64 n).wf = true) (hb : b.size ≤ maxLen) :
    Calls Tryz.prog 73 #[.string b, .int .i64 kf, .int .i64 n] w fun e w' => Unp b kf n w e w' ∧ Below w.heap.size w w' := by
  unfold maxLen at hb
  by_cases a1 : kf < 0
  · have HU := Lib.hid (fun e w' (h : e = .returned (.tuple #[.slice none 0 0, .int .i64 4])) => (.inl ⟨.inl a1, h⟩ : Unp b kf n w e w'))
    clear hk hn
    go_enter Tryz.func73, Tryz.ntmps73
    go_wp2_with fail
    go_ret2
    exact ⟨HU.out _ _ rfl, Below.refl _ _⟩
  by_cases a2 : n < 0
  · have HU := Lib.hid (fun e w' (h : e = .returned (.tuple #[.slice none 0 0, .int .i64 4])) => (.inl ⟨.inr (.inl a2), h⟩ : Unp b kf n w e w'))
    clear hk hn
    go_enter Tryz.func73, Tryz.ntmps73
    go_wp2_with fail
    go_ret2
    exact ⟨HU.out _ _ rfl, Below.refl _ _⟩
  by_cases a3 : 65535 < b.size
  · have HU := Lib.hid (fun e w' (h : e = .returned (.tuple #[.slice none 0 0, .int .i64 4])) => (.inl ⟨.inr (.inr a3), h⟩ : Unp b kf n w e w'))
    have d1 : decide (65535 < b.size) = true := decide_eq_true a3
    have d2 : decide ((65535 : Int) < (b.size : Int)) = true := decide_eq_true (by omega)
    clear hk hn
    go_enter Tryz.func73, Tryz.ntmps73
    go_wp2_with fail
    go_ret2
    exact ⟨HU.out _ _ rfl, Below.refl _ _⟩
  obtain ⟨k, rfl⟩ := Int.eq_ofNat_of_zero_le (show 0 ≤ kf by omega)
  obtain ⟨n, rfl⟩ := Int.eq_ofNat_of_zero_le (show 0 ≤ n by omega)
  have hno : ¬ ((k : Int) < 0 ∨ (n : Int) < 0 ∨ 65535 < b.size) := by omega
  have HBAD : Hid (¬ LP.good (B b) k n → ∀ e w', e = .returned (.tuple #[.slice none 0 0, .int .i64 3]) → Unp b k n w e w') := Lib.hid (fun hg e w' h => .inr (.inl ⟨hno, hg, h⟩))
  have HOK : Hid (LP.good (B b) k n → ∀ w' g cap, w.heap.size ≤ g → n ≤ cap → Lies w' w'.heap.size (some ⟨g, 0, none⟩) (cellsB b n) → Unp b k n w (.returned (.tuple #[.slice (some ⟨g, 0, none⟩) n cap, .int .i64 0])) w') := Lib.hid (fun hg w' g cap h1 h2 h3 => .inr (.inr ⟨hno, hg, g, cap, rfl, h1, h2, h3⟩))
  have hbl : (B b).length = b.size := b_size b
  have d1 : decide (65535 < b.size) = false := decide_eq_false a3
  have d2 : decide ((65535 : Int) < (b.size : Int)) = false := decide_eq_false (by omega)
  clear hno hk hn
  by_cases c1 : b.size < k
  · have HB2 := Lib.hid (HBAD.out (fun h => by have := h.1; omega))
    have d3 : decide (b.size < k) = true := decide_eq_true c1
    have d4 : decide ((b.size : Int) < (k : Int)) = true := decide_eq_true (by omega)
    clear HBAD HOK hbl
    go_enter Tryz.func73, Tryz.ntmps73
    go_wp2_with fail
    go_ret2
    exact ⟨HB2.out _ _ rfl, Below.refl _ _⟩
  have d3 : decide (b.size < k) = false := decide_eq_false c1
  have d4 : decide ((b.size : Int) < (k : Int)) = false := decide_eq_false (by omega)
  by_cases c2 : b.size / 2 ≤ n
  · have HB2 := Lib.hid (HBAD.out (fun h => by have := good_few h; omega))
    have d5 : decide (b.size / 2 ≤ n) = true := decide_eq_true c2
    have d6 : decide ((b.size : Int) / 2 ≤ (n : Int)) = true := decide_eq_true (by omega)
    clear HBAD HOK hbl
    go_enter Tryz.func73, Tryz.ntmps73
    go_wp2_with fail
    go_ret2
    exact ⟨HB2.out _ _ rfl, Below.refl _ _⟩
  have d5 : decide (b.size / 2 ≤ n) = false := decide_eq_false c2
  have d6 : decide ((b.size : Int) / 2 ≤ (n : Int)) = false := decide_eq_false (by omega)
  obtain ⟨cap, w1, cv, hby, hcap, hsz, hb1⟩ := conv_to b w
  have HCUT := Lib.hid (cut8_any b w.heap.size n cap w1 hby hsz (by omega) hcap (by omega))
  clear hby hsz hcap
  go_enter Tryz.func73, Tryz.ntmps73
  go_wp2_with fail
  refine HCUT.out.mono ?_
  rintro e w2 ⟨hcase, hb2⟩
  have hbw := hb1.trans hb2
  clear HCUT cv hb1 hb2
  rcases hcase with ⟨hbad, rfl⟩ | ⟨hok, r, hr, rfl, HL⟩
  · have HB2 := Lib.hid (HBAD.out (fun h => hbad (fun i hi => by
      have := good_at (by omega) h i hi
      rwa [hbl] at this)))
    clear hbad HBAD HOK
    go_wp2_with fail
    go_ret2
    exact ⟨HB2.out _ _ rfl, hbw⟩
  · have hlen := cellsB_length b n
    obtain ⟨f, hf⟩ : ∃ f, b.extract 0 k = f := ⟨_, rfl⟩
    have sf : f.size = k := by rw [← hf]; simp; omega
    have HPK := Lib.hid (by have h := pack_any (b.size : Int) f (some ⟨r, 0, none⟩) (cellsB b n) n w2 HL (by rw [hlen]; omega) (by omega) (fun s hs => Nat.le_trans (cellsB_size b n s hs) (by omega)); rw [hlen] at h; exact h)
    have hend := unpack_end b k n (by omega) (by omega)
    rw [hf] at hend
    have HLL := Lib.hid HL
    have j1 : (0 : Int) ≤ (k : Int) ∧ (k : Int) ≤ (b.size : Int) := by omega
    have j2 : k ≤ b.size := by omega
    have hss : (b.toList == b.toList) = true := beq_self_eq_true _
    have hss2 : (b.toList != b.toList) = false := by simp
    clear hok
    rcases hend with ⟨hgd, hv⟩ | ⟨hgd, hv⟩ | ⟨hgd, P, hne, hv⟩
    · rw [hv] at HPK
      have HO2 := Lib.hid (HOK.out hgd)
      clear hv hgd HBAD HOK hlen HL sf
      go_wp2_with fail
      refine HPK.out.mono ?_
      rintro e w1 ⟨rfl, hb1⟩
      go_wp2_with fail
      go_ret2
      exact ⟨HO2.out _ _ _ (by omega) (Nat.le_refl _) (HLL.out.on hb1), hbw.trans' hb1⟩
    · rw [hv] at HPK
      have HB2 := Lib.hid (HBAD.out hgd)
      clear hv hgd HBAD HOK hlen HL sf
      go_wp2_with fail
      refine HPK.out.mono ?_
      rintro e w1 ⟨rfl, hb1⟩
      go_wp2_with fail
      go_ret2
      exact ⟨HB2.out _ _ rfl, hbw.trans' hb1⟩
    · rw [hv] at HPK
      have HB2 := Lib.hid (HBAD.out hgd)
      have hneq : (P.toList == b.toList) = false := by
        rw [Lib.toList_data, Lib.toList_data]
        exact beq_eq_false_iff_ne.2 fun e => hne (ByteArray.ext (Array.toList_inj.1 e))
      have hneq2 : (P.toList != b.toList) = true := by simp [bne, hneq]
      clear hv hgd HBAD HOK hlen HL sf hne
      go_wp2_with fail
      refine HPK.out.mono ?_
      rintro e w1 ⟨rfl, hb1⟩
      go_wp2_with fail
      go_ret2
      exact ⟨HB2.out _ _ rfl, hbw.trans' hb1⟩
end Go.Proofs.YtembccehokodeaaGreatDoor.L8

namespace Go.Proofs.YtembccehokodeaaGreatDoor.L9
open Go.RowKit
set_option linter.unusedVariables false
set_option linter.unusedSimpArgs false
theorem toS (T : ByteArray) : (⟨T.data.toList.toArray⟩ : ByteArray) = T := ByteArray.ext (by simp)
theorem fb_new1 (t : TypeId) (s : ByteArray) (R : List Value) (w : World) : FB t w.heap.size s 0 false R (w.alloc (.cells (.string s :: .int .i64 0 :: .bool false :: R).toArray t)) := by
  have h := heap_alloc_new w (.cells (.string s :: .int .i64 (0 : Nat) :: .bool false :: R).toArray t)
  exact h
set_option maxHeartbeats 2000000 in
set_option maxRecDepth 100000 in
theorem getk_any (s : ByteArray) (w : World) (hs : s.size ≤ 1000000) :
    Calls Tryz.prog 74 #[.string s] w fun e w' => e = .returned (gotK (VP.getK s.data.toList)) ∧ Below w.heap.size w w' := by
  have hv := VP.getK_read s.data.toList
  obtain ⟨k, T', j, c, hr⟩ : ∃ k T j c, VP.readK s.data.toList = ((k, T), j, c) := ⟨_, _, _, _, rfl⟩
  obtain ⟨T, rfl⟩ := listS T'
  rw [hr] at hv
  simp only at hv
  obtain ⟨A, hA⟩ : ∃ A, gotK (VP.getK s.data.toList) = A := ⟨_, rfl⟩
  rw [hA]
  rw [hv] at hA
  obtain ⟨n, hn⟩ : ∃ n, s.data.toList.length = n := ⟨_, rfl⟩
  have hT : T.data.toList.length = T.size := by simp
  have HREAD := Lib.hid (fun W k' => kread_any 143 w.heap.size s W k' hs k T.data.toList j c hr)
  simp only [toS] at HREAD
  have HWH := Lib.hid (fun R W k (hj : j ≤ s.size) => whole_any 143 w.heap.size s j c R W k hj hs)
  rw [hn] at HWH hA
  have hj : j ≤ s.size := by
    have h := VP.readK_at s.data.toList
    rw [hr] at h
    simpa using h
  have HJ := Lib.hid hj
  have hb0 := below_alloc w (.cells #[.string s, .int .i64 0, .bool false, .int .i64 0, .string ⟨#[]⟩] 143)
  have hf := fb_new1 143 s (kr 0 ⟨#[]⟩) w
  have HF := Lib.hid hf
  have HBW := Lib.hid hb0
  clear hv hr hj hb0 hf hs
  have HSU := Lib.hid (fun W => suffix_any T W)
  have HRI := Lib.hid (fun W => page_any k W)
  have hdec : ((j, c) = (n, false) ∧ VP.OkK k T.data.toList ∧ A = .tuple #[.int .i64 k, .string T, .int .i64 0]) ∨ (A = .tuple #[.int .i64 0, .string ⟨#[]⟩, .int .i64 3] ∧ ¬ ((j, c) = (n, false) ∧ (1 ≤ (k : Int) ∧ (k : Int) ≤ 4095) ∧ T.size ≤ 128)) := by
    by_cases h : (j, c) = (n, false) ∧ VP.OkK k T.data.toList
    · refine .inl ⟨h.1, h.2, ?_⟩
      rw [← hA, if_pos h]
      simp only [gotK, toS]
    · refine .inr ⟨?_, fun h' => h ⟨h'.1, h'.2.1.1, h'.2.1.2, by rw [hT]; exact h'.2.2⟩⟩
      rw [← hA, if_neg h]
      rfl
  clear hA hn
  go_enter Tryz.func74, Tryz.ntmps74
  go_wp2_with fail
  refine (HREAD.out _ HF).mono ?_
  rintro e w1 ⟨rfl, k1, hb1⟩
  have HB1 := Lib.hid (HBW.out.trans hb1)
  clear HREAD HF HBW hb1
  go_wp2_with fail
  refine (HWH.out _ _ k1 HJ.out).mono ?_
  rintro e w2 ⟨rfl, k2, hb2⟩
  have HB2 := Lib.hid (HB1.out.trans hb2)
  clear HWH k1 HB1 hb2
  obtain ⟨z3, z4⟩ := k2.out.cells2
  rcases hdec with ⟨h1, h2, rfl⟩ | ⟨rfl, h⟩
  · rw [decide_eq_true (show T.size ≤ 128 by rw [← hT]; exact h2.2.2)] at HSU
    rw [decide_eq_true (And.intro h2.1 h2.2.1)] at HRI
    rw [decide_eq_true h1]
    clear h1 h2 hT HJ
    go_wp2_with fail
    refine (HRI.out _).mono ?_
    rintro e w3 ⟨rfl, rfl⟩
    go_wp2_with fail
    refine (HSU.out _).mono ?_
    rintro e w4 ⟨rfl, rfl⟩
    go_wp2_with fail
    go_quiet (fail)
    go_wp2_with fail
    refine bodyPost_ret (v := .tuple #[.int .i64 k, .string T, .int .i64 0]) (by simp [results, Tryz.results74, go_sem]) rfl ⟨rfl, below_drewN HB2.out nq⟩
  · have hcase : (¬ (j, c) = (n, false)) ∨ ((j, c) = (n, false) ∧ ¬ (1 ≤ (k : Int) ∧ (k : Int) ≤ 4095)) ∨ ((j, c) = (n, false) ∧ (1 ≤ (k : Int) ∧ (k : Int) ≤ 4095) ∧ ¬ T.size ≤ 128) := by
      by_cases h1 : (j, c) = (n, false)
      · by_cases h2 : 1 ≤ (k : Int) ∧ (k : Int) ≤ 4095
        · exact .inr (.inr ⟨h1, h2, fun h3 => h ⟨h1, h2, h3⟩⟩)
        · exact .inr (.inl ⟨h1, h2⟩)
      · exact .inl h1
    clear h
    rcases hcase with h1 | ⟨h1, h2⟩ | ⟨h1, h2, h3⟩
    · rw [decide_eq_false h1]
      clear h1 HSU HRI hT HJ
      go_wp2_with fail
      refine bodyPost_ret (v := .tuple #[.int .i64 0, .string ⟨#[]⟩, .int .i64 3]) (by simp [results, Tryz.results74, go_sem]) rfl ⟨rfl, HB2.out⟩
    · rw [decide_eq_true h1]
      rw [decide_eq_false h2] at HRI
      clear h1 h2 HSU hT HJ
      go_wp2_with fail
      refine (HRI.out _).mono ?_
      rintro e w3 ⟨rfl, rfl⟩
      go_wp2_with fail
      refine bodyPost_ret (v := .tuple #[.int .i64 0, .string ⟨#[]⟩, .int .i64 3]) (by simp [results, Tryz.results74, go_sem]) rfl ⟨rfl, HB2.out⟩
    · rw [decide_eq_true h1]
      rw [decide_eq_true h2] at HRI
      rw [decide_eq_false h3] at HSU
      clear h1 h2 h3 hT HJ
      go_wp2_with fail
      refine (HRI.out _).mono ?_
      rintro e w3 ⟨rfl, rfl⟩
      go_wp2_with fail
      refine (HSU.out _).mono ?_
      rintro e w4 ⟨rfl, rfl⟩
      go_wp2_with fail
      refine bodyPost_ret (v := .tuple #[.int .i64 0, .string ⟨#[]⟩, .int .i64 3]) (by simp [results, Tryz.results74, go_sem]) rfl ⟨rfl, HB2.out⟩
end Go.Proofs.YtembccehokodeaaGreatDoor.L9

namespace Go.Proofs.YtembccehokodeaaGreatDoor.L5
open Go.RowKit
set_option linter.unusedVariables false
set_option linter.unusedSimpArgs false
theorem al_self (x : List UInt8) (l : List (List UInt8)) : EP.al x (x :: l) = EP.al x l := by simp [EP.al, EP.com_self]

set_option maxHeartbeats 1000000 in
theorem rspan_none (A : Option Addr) (ca : Nat) (w : World) :
    Calls Tryz.prog 29 #[.slice A 0 ca] w fun e w' => e = .returned (.int .i64 0) ∧ Below w.heap.size w w' := by
  go_enter Tryz.func29, Tryz.ntmps29
  go_wp2_with fail
  go_loopw [3] (fun nv wr => nv = .int .i64 0 ∧ Below w.heap.size w wr) (fun nv _ => 0)
  case atStart => exact ⟨rfl, Below.refl _ _⟩
  case round =>
    obtain ⟨rfl, hbw⟩ := hrel
    go_wp2_with fail
    go_ret
    exact ⟨rfl, hbw⟩

set_option maxHeartbeats 1000000 in
set_option maxRecDepth 100000 in
theorem rspan_some (a : Addr) (s0 : ByteArray) (l : List ByteArray) (ca : Nat) (w : World) (ha : Lies w w.heap.size (some a) l) (h0 : l[0]? = some s0) (hl : l.length ≤ 1000) (hs : ∀ s ∈ l, s.size ≤ 1000) :
    Calls Tryz.prog 29 #[.slice (some a) l.length ca] w fun e w' => e = .returned (.int .i64 (sp l)) ∧ Below w.heap.size w w' := by
  have HA := Lib.hid ha
  have HS := Lib.hid hs
  have H0 := Lib.hid h0
  have hs0 := hs s0 (List.mem_of_getElem? h0)
  obtain ⟨p, hp⟩ : ∃ p, p = sp l := ⟨_, rfl⟩
  have HP := Lib.hid hp
  have HAL : Hid (∀ m, m ≤ p ↔ m ≤ EP.al (B s0) (Bs l)) := Lib.hid (fun m => by
    cases l with
    | nil => simp at h0
    | cons s r =>
      have e : s = s0 := by simpa using h0
      subst e
      rw [hp, show EP.al (B s) (Bs (s :: r)) = EP.al (B s) (Bs r) from al_self _ _]
      exact Iff.rfl)
  have HLE : Hid (p ≤ s0.size) := Lib.hid (by rw [hp]; exact sp_le l s0 (List.mem_of_getElem? h0))
  obtain ⟨n, hn⟩ : ∃ n, n = l.length := ⟨_, rfl⟩
  have hn0 : 0 < n := by have := (List.getElem?_eq_some_iff.1 h0).1; omega
  have HN := Lib.hid hn
  rw [← hn, ← hp]
  rw [← hn] at hl
  have hn0' : (0 : Int) < n := by omega
  clear ha hs hp h0 hn
  go_enter Tryz.func29, Tryz.ntmps29
  go_wp2_with fail
  go_loopw [3] (fun nv wr => ∃ k : Nat, nv = .int .i64 k ∧ k ≤ s0.size ∧ Hid (k ≤ p) ∧ Below w.heap.size w wr) (fun nv _ => s0.size - (intOf nv).toNat)
  case atStart => exact ⟨0, rfl, by omega, Lib.hid (by omega), Below.refl _ _⟩
  case round =>
    obtain ⟨k, rfl, hks, HK, hbw⟩ := hrel
    have hk0 : (0 : Int) ≤ k := by omega
    obtain ⟨_, e, hab, x0⟩ := (HA.out.below hbw) 0 s0 H0.out
    obtain rfl := Option.some.inj e
    rw [addr_zero] at x0
    clear hab
    by_cases hlt : k < s0.size
    · have d1 : decide ((k : Int) < s0.size) = true := by simp; omega
      go_wp2_with fail
      clear x0
      go_loopw [4] (fun iv wq => ∃ i : Nat, iv = .int .i64 i ∧ i ≤ n ∧ Hid (k + 1 ≤ EP.al (B s0) (Bs (l.take i))) ∧ Below w.heap.size w wq) (fun iv _ => n - (intOf iv).toNat)
      case atStart => exact ⟨0, rfl, by omega, Lib.hid (by simp [EP.al, Bs, b_size]; omega), hbw⟩
      case round =>
        obtain ⟨i, rfl, hi, HI, hbq⟩ := hrel
        have hi0 : (0 : Int) ≤ i := by omega
        by_cases hin : i < n
        · obtain ⟨t, hc⟩ : ∃ c, l[i]? = some c := ⟨_, List.getElem?_eq_getElem (by have := HN.out; omega)⟩
          obtain ⟨_, e, hab, x0⟩ := (HA.out.below hbq) i t hc
          obtain rfl := Option.some.inj e
          obtain ⟨_, e, hab', y0⟩ := (HA.out.below hbq) 0 s0 H0.out
          obtain rfl := Option.some.inj e
          rw [addr_zero] at y0
          have htz := HS.out t (List.mem_of_getElem? hc)
          have HC := Lib.hid hc
          have HPC : Hid (p ≤ EP.com (B s0) (B t)) := Lib.hid (by
            have h1 := (HAL.out p).1 (Nat.le_refl _)
            exact Nat.le_trans h1 (EP.al_com _ _ _ (bs_mem (List.mem_of_getElem? hc))))
          have HKC : Hid (k ≤ EP.com (B s0) (B t)) := Lib.hid (by have := HK.out; have := HPC.out; omega)
          clear hc hab hab'
          have hin' : (i : Int) < n := by omega
          by_cases hkt : k < t.size
          · have d2 : decide ((t.size : Int) ≤ k) = false := by simp; omega
            have HE : Hid (k < EP.com (B s0) (B t) ↔ t[k] = s0[k]) := Lib.hid (by
              rw [EP.com_next _ _ _ HKC.out, b_get s0 k hlt, b_get t k hkt]
              simp [eq_comm])
            by_cases he : t[k] = s0[k]
            · have d3 : ((t[k].toNat : Int) != (s0[k].toNat : Int)) = false := by rw [he]; simp
              have HI' : Hid (k + 1 ≤ EP.al (B s0) (Bs (l.take (i + 1)))) := Lib.hid (by
                rw [bs_snoc l i t HC.out, EP.al_snoc]
                have := HI.out
                have := HE.out.2 he
                omega)
              clear he HE HI
              go_wp2_with fail
              go_quiet (fail)
              go_wp2_with fail
              go_roundw
              case rel => exact ⟨i + 1, by simp, by omega, HI', below_drewN hbq _⟩
              case measure => simp [intOf]; omega
            · have d3 : ((t[k].toNat : Int) != (s0[k].toNat : Int)) = true := by
                rw [bne_iff_ne]
                intro e
                exact he (UInt8.toNat_inj.1 (by omega))
              have HV : Hid (k = p) := Lib.hid (Nat.le_antisymm HK.out (Nat.le_trans HPC.out (Nat.not_lt.1 fun h => he (HE.out.1 h))))
              clear he HE HI
              go_wp2_with fail
              go_quiet (fail)
              go_wp2_with fail
              go_ret
              exact ⟨congrArg (fun z : Nat => Ending.returned (Value.int IntKind.i64 (z : Int))) HV.out, below_drewN hbq _⟩
          · have d2 : decide ((t.size : Int) ≤ k) = true := by simp; omega
            have HV : Hid (k = p) := Lib.hid (by
              have h1 := EP.com_right (B s0) (B t)
              rw [b_size] at h1
              have := HK.out
              have := HPC.out
              omega)
            clear HI
            go_wp2_with fail
            go_quiet (fail)
            go_wp2_with fail
            go_ret
            exact ⟨congrArg (fun z : Nat => Ending.returned (Value.int IntKind.i64 (z : Int))) HV.out, below_drewN hbq _⟩
        · obtain rfl : i = n := by omega
          have HK' : Hid (k + 1 ≤ p) := Lib.hid (by
            have h1 := HI.out
            rw [List.take_of_length_le (by have := HN.out; omega)] at h1
            exact (HAL.out _).2 h1)
          clear HI
          go_wp2_with fail
          go_roundw
          case rel => exact ⟨k + 1, by simp, by omega, HK', hbq⟩
          case measure => simp [intOf]; omega
    · have d1 : decide ((k : Int) < s0.size) = false := by simp; omega
      have HV : Hid (k = p) := Lib.hid (by have := HK.out; have := HLE.out; omega)
      go_wp2_with fail
      go_ret
      exact ⟨congrArg (fun z : Nat => Ending.returned (Value.int IntKind.i64 (z : Int))) HV.out, hbw⟩

theorem rspan_any (A : Option Addr) (l : List ByteArray) (ca : Nat) (w : World) (ha : Lies w w.heap.size A l) (hl : l.length ≤ 1000) (hs : ∀ s ∈ l, s.size ≤ 1000) :
    Calls Tryz.prog 29 #[.slice A l.length ca] w fun e w' => e = .returned (.int .i64 (sp l)) ∧ Below w.heap.size w w' := by
  cases l with
  | nil => exact rspan_none A ca w
  | cons s l =>
    obtain ⟨a, rfl, _, _⟩ := ha 0 s rfl
    exact rspan_some a s (s :: l) ca w ha rfl hl hs

set_option maxHeartbeats 1000000 in
set_option maxRecDepth 100000 in
theorem rstrip_any (A : Option Addr) (l : List ByteArray) (ca : Nat) (w : World) (ha : Lies w w.heap.size A l) (hl : l.length ≤ 1000) (hs : ∀ s ∈ l, s.size ≤ 1000) :
    Calls Tryz.prog 65 #[.slice A l.length ca] w fun e w' => ∃ G cap, e = .returned (.tuple #[.string (headS l), .slice G l.length cap]) ∧ Lies w' w'.heap.size G (bares l) ∧ Below w.heap.size w w' := by
  obtain ⟨i0, hi, hz0, hz1, hz2⟩ := info_parts Tryz.infoStr
  have HA := Lib.hid ha
  have HS := Lib.hid hs
  have HSP := Lib.hid (rspan_any A l ca w ha hl hs)
  have HLE : Hid (∀ s ∈ l, sp l ≤ s.size) := Lib.hid (fun s h => sp_le l s h)
  have HB : Hid (bares l = l.map (bare (sp l))) := Lib.hid rfl
  have HH : Hid (∀ s ∈ l, s.extract 0 (sp l) = headS l) := Lib.hid (fun s h => by
    cases l with
    | nil => simp at h
    | cons t r => exact b_inj (by rw [headS, b_head, b_head]; exact EP.span_take _ _ _ (bs_mem h) (bs_mem (by simp))))
  have HN0 : Hid (l.length = 0 → headS l = ⟨#[]⟩) := Lib.hid (fun h => by
    rw [List.eq_nil_of_length_eq_zero h]
    rfl)
  generalize sp l = p at *
  generalize headS l = hd at *
  obtain ⟨n, hn⟩ : ∃ n, n = l.length := ⟨_, rfl⟩
  have HN := Lib.hid hn
  rw [← hn]
  rw [← hn] at hl HSP HN0
  clear ha hs hn
  go_enter Tryz.func65, Tryz.ntmps65
  go_wp2_with fail
  refine HSP.out.mono ?_
  rintro e w1 ⟨rfl, hb1⟩
  clear HSP
  go_wp2_with fail
  go_loopw [5, 6, 7] (fun ov sv iv wr => ∃ (k g cap : Nat) (X : ByteArray), k ≤ n ∧ iv = .int .i64 k ∧ ov = .slice (some ⟨g, 0, none⟩) k cap ∧ sv = .string X ∧ Hid ((k = 0 → X = ⟨#[]⟩) ∧ (0 < k → X = hd)) ∧ Hid (Owns wr w1.heap.size (.slice (some ⟨g, 0, none⟩) k cap) k ((l.take k).map (bare p))) ∧ Below w1.heap.size w1 wr) (fun _ _ iv _ => n - (intOf iv).toNat)
  case atStart =>
    exact ⟨0, w1.heap.size, 0, ⟨#[]⟩, by omega, rfl, rfl, rfl, Lib.hid ⟨fun _ => rfl, fun h => by omega⟩, Lib.hid (own_empty w1 _), below_alloc _ _⟩
  case round =>
    obtain ⟨k, g, cap, X, hk, rfl, rfl, rfl, HX, HO, hbr⟩ := hrel
    have hbw := hb1.trans' hbr
    by_cases hlt : k < n
    · obtain ⟨s, hc⟩ : ∃ c, l[k]? = some c := ⟨_, List.getElem?_eq_getElem (by have := HN.out; omega)⟩
      obtain ⟨a, rfl, hab, x0⟩ := (HA.out.below hbw) k s hc
      have hsz := HS.out s (List.mem_of_getElem? hc)
      have hps := HLE.out s (List.mem_of_getElem? hc)
      have HE := Lib.hid (HH.out s (List.mem_of_getElem? hc))
      have HC : Hid ((l.take (k + 1)).map (bare p) = (l.take k).map (bare p) ++ [s.extract p s.size]) := Lib.hid (by
        have : l.take (k + 1) = l.take k ++ [s] := by rw [List.take_add_one, hc]; rfl
        rw [this]
        simp [bare])
      have hbs := hbr.size
      have hbs1 := hb1.size
      have HKB : Hid (∀ W, Below w1.heap.size wr W → W.cell? (a.add k) = some (.string s)) := Lib.hid (fun W hW => (hW.cell (by rw [addr_block]; omega)).trans x0)
      clear hc hab
      go_wp2_with (at_builtin; refine wpList_append_lies _ rfl _ _ 23 rfl w1.heap.size 9 i0 (.string ⟨#[]⟩) 1 16 Tryz.underlying23 hi hz0 hz1 hz2 rfl (by decide) (.slice (some ⟨g, 0, none⟩) k cap) k _ rfl (HO.out.alloc _) ⟨wr.heap.size, 0, none⟩ 1 1 [.string (s.extract p s.size)] rfl rfl (World.news_of_block (cs := #[.string (s.extract p s.size)]) (t := 9) (fr := (0, 0)) (heap_alloc_new wr _)) (str_one _) (by omega) (by unfold maxLen; omega) (by omega) (by simp; omega) (wr.heap.size + 1) (by simp) ?_; intro g' cap' w2 hown' hgrow hat hlt1; have hb3 : Below w1.heap.size wr w2 := ((Below.refl _ wr).alloc hbs (.cells #[.string (s.extract p s.size)] 9)).trans (own_apart (HO.out.alloc _) hgrow (Nat.le_refl _) (by simp; omega)); have x1 := HKB.out w2 hb3; clear hat hlt1 hgrow x0)
      have hb4 := hbr.trans hb3
      go_roundw
      case rel => exact ⟨k + 1, g', cap', _, by omega, by simp, rfl, rfl, Lib.hid ⟨fun h => by omega, fun _ => HE.out⟩, Lib.hid (by rw [HC.out, Owns, strCells_snoc]; exact hown'), hb4⟩
      case measure => simp [intOf]; omega
    · obtain rfl : k = n := by omega
      have HL : Hid (Lies wr wr.heap.size (some ⟨g, 0, none⟩) (bares l)) := Lib.hid (by
        have h := HO.out
        rw [List.take_of_length_le (by have := HN.out; omega), ← HB.out] at h
        exact lies_own h (by rw [bares_length]; exact HN.out))
      have HXV : Hid (X = hd) := Lib.hid (by
        rcases Nat.eq_zero_or_pos k with h | h
        · rw [HX.out.1 h, HN0.out h]
        · exact HX.out.2 h)
      go_wp2_with fail
      go_ret2
      exact ⟨some ⟨g, 0, none⟩, cap, by rw [HXV.out]; rfl, HL.out, hbw⟩
end Go.Proofs.YtembccehokodeaaGreatDoor.L5

namespace Go.Proofs.YtembccehokodeaaGreatDoor
open Go.RowKit IP
set_option linter.unusedVariables false
set_option linter.unusedSimpArgs false

theorem fit {f : FuncId} {a b : Array Value} {W : World} {Q : Ending → World → Prop} (h : Calls Tryz.prog f a W Q) (e : b = a) : Calls Tryz.prog f b W Q := e ▸ h
theorem rputT (t : ByteArray) (W : World) (h : t.size ≤ 1000) :
    ∃ P : ByteArray, P.size ≤ 9 ∧ P ++ t = L9.textS t ∧ ∀ W, Calls Tryz.prog 66 #[.int .u64 (t.size : Nat)] W fun e w' => e = .returned (.string P) ∧ Below W.heap.size W w' :=
  ⟨_, L9.wput_size t.size (by omega), L9.textS_eq t t.size rfl, fun W => by
    have h2 := L9.rput_any (t.size : Nat) W (by omega) (by omega)
    rw [Int.toNat_natCast] at h2
    exact h2⟩
set_option maxHeartbeats 4000000 in
set_option maxRecDepth 100000 in
theorem rfixed_any (F L R : Int) (H : ByteArray) (A : Option Addr) (n ca : Nat) (C : Option Addr) (m cb : Nat) (ks : List Int) (ss : List ByteArray) (w : World) (hr : Rows2 w A n ca C m cb ks ss) (hf : Fit H ks ss) :
    Calls Tryz.prog 37 #[nv F L R H A n ca C m cb] w fun e w' => e = .returned (.string (fixedS H ss)) ∧ Below w.heap.size w w' := by
  have hb0 := nbox_below 33 F L R H A n ca C m cb w
  have HB0 := Lib.hid hb0
  have HK := Lib.hid (nbox_new 33 F L R H A n ca C m cb w)
  have hms := hr.nm
  have HS := Lib.hid (L5.rstrip_any C ss cb _ (hr.on hb0).seps (by have := hf.few; omega) (fun s hs => by have := hf.sep s hs; omega))
  have z3 := headS_size hf.sep
  have z4 := hf.high
  obtain ⟨P1, p1, q1, c1⟩ := rputT (L5.headS ss) w (by omega)
  obtain ⟨P2, p2, q2, c2⟩ := rputT H w z4
  have HZ : Hid (((P1 ++ L5.headS ss) ++ P2) ++ H = fixedS H ss) := Lib.hid (by rw [ByteArray.append_assoc, q1, q2]; rfl)
  have HP1 := Lib.hid c1
  have HP2 := Lib.hid c2
  rw [hms] at HS
  obtain ⟨hd, hhd⟩ : ∃ hd, L5.headS ss = hd := ⟨_, rfl⟩
  rw [hhd] at HS HP1 HZ z3
  rw [← HZ.out]
  have e1 : (P1 ++ hd).size = P1.size + hd.size := ByteArray.size_append
  have e2 : ((P1 ++ hd) ++ P2).size = P1.size + hd.size + P2.size := by rw [ByteArray.size_append, e1]
  have hz1 : ¬ 9223372036854775807 < P1.size + hd.size := by omega
  have hz2 : ¬ 9223372036854775807 < P1.size + hd.size + P2.size := by omega
  have hz3 : ¬ 9223372036854775807 < P1.size + hd.size + P2.size + H.size := by omega
  have hz1' : ¬ (9223372036854775807 : Int) < (P1.size : Int) + (hd.size : Int) := by omega
  have hz2' : ¬ (9223372036854775807 : Int) < (P1.size : Int) + (hd.size : Int) + (P2.size : Int) := by omega
  have hz3' : ¬ (9223372036854775807 : Int) < (P1.size : Int) + (hd.size : Int) + (P2.size : Int) + (H.size : Int) := by omega
  have w1 : IntKind.u64.wrap (hd.size : Int) = (hd.size : Int) := IntWalk.u64_in _ (by omega)
  have w2 : IntKind.u64.wrap (H.size : Int) = (H.size : Int) := IntWalk.u64_in _ (by omega)
  obtain ⟨c0, c1', c2', c3, c4, c5⟩ := HK.out.cells
  simp only [nbox] at HS HK HB0 c0 c1' c2' c3 c4 c5
  clear hr hf hb0 q1 q2 c1 c2 hhd HZ hms
  go_enter Tryz.func37, Tryz.ntmps37
  go_wp2_with fail
  refine HS.out.mono ?_
  rintro e W3 ⟨G3, cap3, rfl, hL3, hb3⟩
  have HK3 := Lib.hid (HK.out.below hb3)
  have HB3 := Lib.hid (HB0.out.trans' hb3)
  clear hb3 hL3
  have HST : Hid (∀ V, Below W3.heap.size W3 V → (Hid (Below W3.heap.size W3 V) ∧ V.cell? ⟨w.heap.size, 3, none⟩ = some (.string H))) := Lib.hid (fun V hb => ⟨Lib.hid hb, (HK3.out.below hb).cells.2.2.2.1⟩)
  have hSd := HST.out _ (L5.below_drewN (Below.refl _ W3) 1)
  have hS0 := HST.out _ (Below.refl _ W3)
  go_wp2_with fail
  go_region_held3 (fun V => Hid (Below W3.heap.size W3 V) ∧ V.cell? ⟨w.heap.size, 3, none⟩ = some (.string H))
    (first | assumption | exact hSd)
    (first
      | (go_at_call 66; refine Calls.mono (fit (HP1.out _) (by rfl)) ?_; rintro e V ⟨rfl, hb⟩; have HBV := Lib.hid ((by assumption : Hid (Below W3.heap.size W3 _) ∧ _).1.out.trans' hb); have hSn := HST.out _ HBV.out; clear hb)
      | (go_at_call 66; refine Calls.mono (fit (HP2.out _) (by rfl)) ?_; rintro e V ⟨rfl, hb⟩; have HBV := Lib.hid ((by assumption : Hid (Below W3.heap.size W3 _) ∧ _).1.out.trans' hb); have hSn := HST.out _ HBV.out; clear hb)
      | fail "no arm")
  all_goals
    go_wp2_with fail
    go_ret
    exact ⟨rfl, HB3.out.trans' HBV.out⟩
end Go.Proofs.YtembccehokodeaaGreatDoor

namespace Go.Proofs.YtembccehokodeaaGreatDoor.L5
open Go.RowKit
set_option linter.unusedVariables false
set_option linter.unusedSimpArgs false
set_option maxHeartbeats 1000000 in
set_option maxRecDepth 100000 in
theorem cutO_any (A : Option Addr) (l : List ByteArray) (ca : Nat) (w : World) (ha : Lies w w.heap.size A l) (hl : l.length ≤ maxLen) (hs : ∀ s ∈ l, s.size ≤ maxLen) :
    Calls Tryz.prog 31 #[.slice A l.length ca] w fun e w' => ∃ g cap, e = .returned (.slice (some ⟨g, 0, none⟩) (cutL l).length cap) ∧ (cutL l).length ≤ cap ∧ Lies w' w'.heap.size (some ⟨g, 0, none⟩) (cutL l) ∧ Below w.heap.size w w' ∧ Owns w' w.heap.size (.slice (some ⟨g, 0, none⟩) (cutL l).length cap) (cutL l).length (cutL l) := by
  obtain ⟨i0, hi, hz0, hz1, hz2⟩ := info_parts Tryz.infoStr
  unfold maxLen at hl hs
  have HA := Lib.hid ha
  have HS := Lib.hid hs
  have HLC := Lib.hid (cutL_length l)
  obtain ⟨n, hn⟩ : ∃ n, n = l.length := ⟨_, rfl⟩
  have HN := Lib.hid hn
  rw [← hn]
  rw [← hn] at hl
  clear ha hn hs
  go_enter Tryz.func31, Tryz.ntmps31
  go_wp2_with fail
  go_loopw [3, 4] (fun ov iv wr => ∃ (k g cap : Nat), k ≤ n ∧ k ≤ 30 ∧ iv = .int .i64 k ∧ ov = .slice (some ⟨g, 0, none⟩) k cap ∧ Hid (Owns wr w.heap.size (.slice (some ⟨g, 0, none⟩) k cap) k (cutTo l k)) ∧ k ≤ cap ∧ Below w.heap.size w wr) (fun _ iv _ => 30 - (intOf iv).toNat)
  case atStart =>
    exact ⟨0, w.heap.size, 0, by omega, by omega, rfl, rfl, Lib.hid (own_empty w _), by omega, below_alloc _ _⟩
  case round =>
    obtain ⟨k, g, cap, hk, hk30, rfl, rfl, HO, hcap, hbw⟩ := hrel
    by_cases hlt : k < n ∧ k < 30
    · obtain ⟨h1, h2⟩ := hlt
      obtain ⟨s, hc⟩ : ∃ c, l[k]? = some c := ⟨_, List.getElem?_eq_getElem (by have := HN.out; omega)⟩
      obtain ⟨a, rfl, hab, x0⟩ := (HA.out.below hbw) k s hc
      have hsz := HS.out s (List.mem_of_getElem? hc)
      have HC := Lib.hid (cutTo_snoc l k s hc)
      obtain ⟨m, hm, hm6, hms, hmm, HE⟩ : ∃ m : Nat, min (s.size : Int) 60 = m ∧ m ≤ 60 ∧ m ≤ s.size ∧ min m s.size = m ∧ Hid (cutS s = s.extract 0 m) := ⟨min s.size 60, by omega, by omega, by omega, by omega, Lib.hid rfl⟩
      rw [HE.out] at HC
      have d1 : decide ((k : Int) < n) = true := by simp; omega
      have d2 : decide ((k : Int) < 30) = true := by simp; omega
      have hbs := hbw.size
      have y0 : wr.drew.cell? (a.add k) = some (.string s) := x0
      have HKB : Hid (∀ W, Below w.heap.size (wr.drew.alloc (.cells #[.string (s.extract 0 m)] 9)) W → W.cell? (a.add k) = some (.string s)) := Lib.hid (fun W hW => by
        have h1 : Below w.heap.size wr.drew W := ((Below.refl _ wr.drew).alloc hbs _).trans hW
        exact (h1.cell (by rw [addr_block]; exact hab)).trans y0)
      have y1 := HKB.out _ (Below.refl _ _)
      clear hc hab
      go_wp2_with fail
      go_region_held3 (fun W => W.cell? (a.add k) = some (.string s)) (first | assumption | exact x0 | exact y0 | exact y1 | exact HKB.out _ (own_apart (HO.out.drew.alloc _) (by assumption) (Nat.le_refl _) (by simp; omega)))
        (first
          | (refine step_append_lies _ (by rfl) _ _ _ (by rfl) w.heap.size 9 i0 (.string ⟨#[]⟩) 1 16 Tryz.underlying23 hi hz0 hz1 hz2 rfl (by decide) (.slice (some ⟨g, 0, none⟩) k cap) k _ (by rfl) (HO.out.drew.alloc _) ⟨wr.heap.size, 0, none⟩ 1 1 [.string (s.extract 0 m)] (by rfl) (by rfl) (World.news_of_block (cs := #[.string (s.extract 0 m)]) (t := 9) (fr := (0, 0)) (heap_alloc_new wr.drew _)) (str_one _) (by omega) (by unfold maxLen; omega) (by omega) (by simp; omega) (wr.heap.size + 1) (by simp) ?_; intro g' cap' w1 hown' hgrow hat hlt1)
          | fail "no arm")
      clear hat hlt1
      have hcap' := own_cap hown'
      have hb3 : Below w.heap.size w w1 := (hbw.drew.trans' (below_alloc wr.drew (.cells #[.string (s.extract 0 m)] 9))).trans (own_apart (HO.out.drew.alloc _) hgrow (Nat.le_refl _) (by simp; omega))
      go_wp2_with fail
      go_roundw
      case rel => exact ⟨k + 1, g', cap', by omega, by omega, by simp, rfl, Lib.hid (by rw [HC.out, Owns, strCells_snoc]; exact hown'), by omega, hb3⟩
      case measure => simp [intOf]; omega
    · have hkn : Hid (cutTo l k = cutL l) := Lib.hid (by
        have h1 := HN.out
        have h2 : l.take k = l.take 30 := by
          by_cases h3 : k = 30
          · rw [h3]
          · rw [List.take_of_length_le (by omega), List.take_of_length_le (by omega)]
        rw [cutTo, cutL, h2])
      have hlen : Hid (k = (cutL l).length) := Lib.hid (by have h1 := HN.out; rw [HLC.out]; omega)
      have HL : Hid (Lies wr wr.heap.size (some ⟨g, 0, none⟩) (cutL l)) := Lib.hid (by
        have := HO.out
        rw [hkn.out] at this
        exact lies_own this hlen.out)
      have HOW : Hid (Owns wr w.heap.size (.slice (some ⟨g, 0, none⟩) (cutL l).length cap) (cutL l).length (cutL l)) := Lib.hid (by
        have := HO.out
        rw [hkn.out] at this
        rwa [hlen.out] at this)
      by_cases h1 : k < n
      · have d1 : decide ((k : Int) < n) = true := by simp; omega
        have d2 : decide ((k : Int) < 30) = false := by simp; omega
        clear hlt
        go_wp2_with fail
        go_ret
        exact ⟨g, cap, by rw [← hlen.out]; try rfl, by rw [← hlen.out]; exact hcap, HL.out, hbw, HOW.out⟩
      · have d1 : decide ((k : Int) < n) = false := by simp; omega
        clear hlt
        go_wp2_with fail
        go_ret
        exact ⟨g, cap, by rw [← hlen.out]; try rfl, by rw [← hlen.out]; exact hcap, HL.out, hbw, HOW.out⟩

end Go.Proofs.YtembccehokodeaaGreatDoor.L5
namespace Go.Proofs.YtembccehokodeaaGreatDoor
open Go.RowKit IP
set_option linter.unusedVariables false
set_option linter.unusedSimpArgs false

/-- The world in which an inner page and an empty one have been boxed. -/
def WN (ti tt : TypeId) (F L R : Int) (H : ByteArray) (A : Option Addr) (n ca : Nat) (C : Option Addr) (m cb : Nat) (w : World) : World := (nbox ti F L R H A n ca C m cb w).alloc (.cells #[.int .i64 0, .int .i64 0, .int .i64 0, .string ⟨#[]⟩, .slice none 0 0, .slice none 0 0] tt)
theorem WN_size (ti tt : TypeId) (F L R : Int) (H : ByteArray) (A : Option Addr) (n ca : Nat) (C : Option Addr) (m cb : Nat) (w : World) : (WN ti tt F L R H A n ca C m cb w).heap.size = w.heap.size + 1 + 1 := by simp [WN, nbox]
theorem WN_boxes (ti tt : TypeId) (F L R : Int) (H : ByteArray) (A : Option Addr) (n ca : Nat) (C : Option Addr) (m cb : Nat) (w : World) :
    NBx ti w.heap.size F L R H A n ca C m cb (WN ti tt F L R H A n ca C m cb w) ∧ NBx tt (w.heap.size + 1) 0 0 0 ⟨#[]⟩ none 0 0 none 0 0 (WN ti tt F L R H A n ca C m cb w) ∧ Below w.heap.size w (WN ti tt F L R H A n ca C m cb w) := by
  have h1 := nbox_new ti F L R H A n ca C m cb w
  have h2 := nbox_new tt 0 0 0 ⟨#[]⟩ none 0 0 none 0 0 (nbox ti F L R H A n ca C m cb w)
  rw [nbox_size] at h2
  exact ⟨h1.below (L5.below_alloc _ _), h2, (nbox_below _ _ _ _ _ _ _ _ _ _ _ _).trans' (L5.below_alloc _ _)⟩
set_option maxHeartbeats 2000000 in
set_option maxRecDepth 100000 in
theorem ref_any (F L R : Int) (H : ByteArray) (A : Option Addr) (n ca : Nat) (C : Option Addr) (m cb : Nat) (w : World) :
    Calls Tryz.prog 12 #[nv F L R H A n ca C m cb] w fun e w' => e = .returned (nv F L R H A n ca C m cb) ∧ Below w.heap.size w w' := by
  have hb1 := nbox_below 25 F L R H A n ca C m cb w
  have h2 := nbox_new 33 F L R H A n ca C m cb (nbox 25 F L R H A n ca C m cb w)
  rw [nbox_size] at h2
  have HZ := Lib.hid (hb1.trans' (nbox_below 33 F L R H A n ca C m cb (nbox 25 F L R H A n ca C m cb w)))
  have H2 := Lib.hid h2
  clear hb1 h2
  go_enter Tryz.func12, Tryz.ntmps12
  go_wp2_with fail
  obtain ⟨r0, r1, r2, r3, r4, r5⟩ := H2.out.cells
  simp only [nbox] at r0 r1 r2 r3 r4 r5
  refine bodyPost_ret (v := nv F L R H A n ca C m cb) (by simp [results, Tryz.results12, go_sem, r0, r1, r2, r3, r4, r5]) rfl ⟨rfl, ?_⟩
  exact HZ.out
end Go.Proofs.YtembccehokodeaaGreatDoor

namespace Go.Proofs.YtembccehokodeaaGreatDoor
open Go.RowKit IP
set_option linter.unusedVariables false
set_option linter.unusedSimpArgs false

/-- How many are not above a key. -/
def notAbove (key : ByteArray) (l : List ByteArray) : Nat := (l.filter fun s => !decide (L5.B key < L5.B s)).length
theorem notAbove_snoc (key : ByteArray) {l : List ByteArray} {k : Nat} {s : ByteArray} (h : l[k]? = some s) : notAbove key (l.take (k + 1)) = notAbove key (l.take k) + if L5.B key < L5.B s then 0 else 1 := by
  unfold notAbove
  rw [List.take_add_one, h, Option.toList_some, List.filter_append, List.length_append]
  rw [List.filter_cons, List.filter_nil]
  by_cases hq : L5.B key < L5.B s
  · rw [decide_eq_true hq, if_pos hq]; rfl
  · rw [decide_eq_false hq, if_neg hq]; rfl
theorem notAbove_le (key : ByteArray) (l : List ByteArray) : notAbove key l ≤ l.length := List.length_filter_le _ _
/-- Of texts that rise: those not above a key stand first. -/
theorem notAbove_first {key : ByteArray} {l : List ByteArray} (h : Rise l) : ∀ {i : Nat}, (∀ j s, j < i → l[j]? = some s → ¬ L5.B key < L5.B s) → (∀ s, l[i]? = some s → L5.B key < L5.B s) → i ≤ l.length → notAbove key l = i := by
  intro i h1 h2 h3
  have e : l = l.take i ++ l.drop i := (List.take_append_drop i l).symm
  unfold notAbove
  rw [e, List.filter_append, List.length_append]
  have e1 : ((l.take i).filter fun s => !decide (L5.B key < L5.B s)) = l.take i := by
    refine List.filter_eq_self.2 fun s hs => ?_
    obtain ⟨j, hj, rfl⟩ := List.getElem_of_mem hs
    have hj2 : j < i := by simp at hj; omega
    have hj3 : l[j]? = some (l.take i)[j] := by rw [List.getElem_take]; exact List.getElem?_eq_getElem (by omega)
    simpa using h1 j _ hj2 hj3
  have e2 : ((l.drop i).filter fun s => !decide (L5.B key < L5.B s)) = [] := by
    refine List.filter_eq_nil_iff.2 fun s hs => ?_
    obtain ⟨j, hj, rfl⟩ := List.getElem_of_mem hs
    have hil : i < l.length := by simp at hj; omega
    have hi : l[i]? = some l[i] := List.getElem?_eq_getElem hil
    have hk := h2 _ hi
    rw [List.getElem_drop]
    have hlt : L5.B key < L5.B (l[i + j]'(by simp at hj; omega)) := by
      by_cases hj0 : j = 0
      · subst hj0; exact hk
      · exact L5.EP.lt_trans hk (rise_get h hi (List.getElem?_eq_getElem (by simp at hj; omega)) (by omega))
    simp [hlt]
  rw [e1, e2]
  simp
  omega
theorem leq_of (a b : ByteArray) : (Op.bytesLess a.toList b.toList || (a.toList == b.toList)) = !decide (L5.B b < L5.B a) := by
  rcases L5.EP.tri (L5.B a) (L5.B b) with h | h | h
  · rw [L5.less_yes h, decide_eq_false (fun h2 => L5.EP.lt_irrefl _ (L5.EP.lt_trans h h2))]; rfl
  · rw [L5.same_yes h, Bool.or_true, decide_eq_false (fun h2 => by rw [h] at h2; exact L5.EP.lt_irrefl _ h2)]; rfl
  · rw [decide_eq_true h, L5.less_no (fun h2 => L5.EP.lt_irrefl _ (L5.EP.lt_trans h h2)), L5.same_no (fun h2 => by rw [h2] at h; exact L5.EP.lt_irrefl _ h)]; rfl

set_option maxHeartbeats 1000000 in
set_option maxRecDepth 100000 in
theorem route_any (F L R : Int) (H : ByteArray) (A : Option Addr) (n ca : Nat) (C : Option Addr) (m cb : Nat) (ss : List ByteArray) (key : ByteArray) (w : World) (hc : L5.Lies w w.heap.size C ss) (hm : ss.length = m) (hl : m ≤ 1000000) :
    Calls Tryz.prog 24 #[nv F L R H A n ca C m cb, .string key] w fun e w' => e = .returned (.int .i64 (notAbove key ss : Nat)) ∧ Below w.heap.size w w' := by
  have hb := nbox_below 25 F L R H A n ca C m cb w
  have HB := Lib.hid hb
  have HK := Lib.hid (nbox_new 25 F L R H A n ca C m cb w)
  have HC := Lib.hid (lies_below' hc hb (Nat.le_refl _))
  have HM := Lib.hid hm
  clear hc hm hb
  obtain ⟨c0, c1, c2, c3, c4, c5⟩ := HK.out.cells
  go_enter Tryz.func24, Tryz.ntmps24
  go_wp2_with fail
  go_loopw [5, 11] (fun rv iv wr => ∃ (k r : Nat), k ≤ m ∧ r ≤ k ∧ rv = .int .i64 r ∧ iv = .int .i64 k ∧ Hid (r = notAbove key (ss.take k)) ∧ Hid (wr = nbox 25 F L R H A n ca C m cb w)) (fun rv iv _ => m - (intOf iv).toNat)
  case atStart => exact ⟨0, 0, by omega, by omega, rfl, rfl, Lib.hid (by simp [notAbove]), Lib.hid rfl⟩
  case round =>
    obtain ⟨k, r, hk, hrk, rfl, rfl, HR, HW⟩ := hrel
    by_cases hlt : k < m
    · obtain ⟨s, hc⟩ : ∃ c, ss[k]? = some c := ⟨_, List.getElem?_eq_getElem (by have := HM.out; omega)⟩
      obtain ⟨a, rfl, hab, x0⟩ := HC.out k s hc
      rw [← HW.out] at x0
      have h0 : (0 : Int) ≤ k := by omega
      have hkn : (k : Int) < m := by omega
      have HS := Lib.hid (notAbove_snoc key hc)
      have hz := leq_of s key
      by_cases hq : L5.B key < L5.B s
      · rw [decide_eq_true hq] at hz
        have HS2 : Hid (r = notAbove key (ss.take (k + 1))) := Lib.hid (by rw [HS.out, if_pos hq, ← HR.out]; rfl)
        simp only [Bool.not_true] at hz
        clear hc hab hq c0 c1 c2 c3 c4 c5
        go_wp2_with fail
        go_roundw
        case rel => exact ⟨k + 1, r, by omega, by omega, rfl, by simp, HS2, HW⟩
        case measure => simp [intOf]; omega
      · rw [decide_eq_false hq] at hz
        have HS2 : Hid (r + 1 = notAbove key (ss.take (k + 1))) := Lib.hid (by rw [HS.out, if_neg hq, ← HR.out])
        simp only [Bool.not_false] at hz
        clear hc hab hq c0 c1 c2 c3 c4 c5
        go_wp2_with fail
        go_roundw
        case rel => exact ⟨k + 1, r + 1, by omega, by omega, by simp, by simp, HS2, HW⟩
        case measure => simp [intOf]; omega
    · obtain rfl : k = m := by omega
      have HF : Hid (r = notAbove key ss) := Lib.hid (by
        have h := HR.out
        rwa [List.take_of_length_le (by have := HM.out; omega)] at h)
      have hlt' : ¬ (k : Int) < k := by omega
      clear hlt hk
      go_wp2_with fail
      go_ret
      exact ⟨by rw [← HF.out]; rfl, by rw [HW.out]; exact HB.out⟩
set_option maxHeartbeats 1000000 in
set_option maxRecDepth 100000 in
theorem rroute_any (F L R : Int) (H : ByteArray) (A : Option Addr) (n ca : Nat) (C : Option Addr) (m cb : Nat) (ss : List ByteArray) (key : ByteArray) (w : World) (hc : L5.Lies w w.heap.size C ss) (hm : ss.length = m) (hl : m ≤ 1000000) (hrise : Rise ss) :
    Calls Tryz.prog 25 #[nv F L R H A n ca C m cb, .string key] w fun e w' => e = .returned (.int .i64 (notAbove key ss : Nat)) ∧ Below w.heap.size w w' := by
  have hb := nbox_below 33 F L R H A n ca C m cb w
  have HB := Lib.hid hb
  have HK := Lib.hid (nbox_new 33 F L R H A n ca C m cb w)
  have HC := Lib.hid (lies_below' hc hb (Nat.le_refl _))
  have HM := Lib.hid hm
  have HRI := Lib.hid hrise
  clear hc hm hb hrise
  obtain ⟨c0, c1, c2, c3, c4, c5⟩ := HK.out.cells
  go_enter Tryz.func25, Tryz.ntmps25
  go_wp2_with fail
  go_loopw [5] (fun iv wr => ∃ (k : Nat), k ≤ m ∧ iv = .int .i64 k ∧ Hid (∀ j s, j < k → ss[j]? = some s → ¬ L5.B key < L5.B s) ∧ Hid (wr = nbox 33 F L R H A n ca C m cb w)) (fun iv _ => m - (intOf iv).toNat)
  case atStart => exact ⟨0, by omega, rfl, Lib.hid (fun j s h => by omega), Lib.hid rfl⟩
  case round =>
    obtain ⟨k, hk, rfl, HR, HW⟩ := hrel
    rw [← HW.out] at c5
    by_cases hlt : k < m
    · obtain ⟨s, hc⟩ : ∃ c, ss[k]? = some c := ⟨_, List.getElem?_eq_getElem (by have := HM.out; omega)⟩
      obtain ⟨a, rfl, hab, x0⟩ := HC.out k s hc
      rw [← HW.out] at x0
      have h0 : (0 : Int) ≤ k := by omega
      have hkn : (k : Int) < m := by omega
      have hz := leq_of s key
      by_cases hq : L5.B key < L5.B s
      · rw [decide_eq_true hq] at hz
        have HF : Hid (k = notAbove key ss) := Lib.hid (notAbove_first HRI.out HR.out (fun t ht => by rw [hc] at ht; obtain rfl := Option.some.inj ht; exact hq) (by have := HM.out; omega)).symm
        simp only [Bool.not_true] at hz
        clear hc hab hq c0 c1 c2 c3 c4
        go_wp2_with fail
        go_ret
        exact ⟨by rw [← HF.out]; rfl, by rw [HW.out]; exact HB.out⟩
      · rw [decide_eq_false hq] at hz
        have HR2 : Hid (∀ j t, j < k + 1 → ss[j]? = some t → ¬ L5.B key < L5.B t) := Lib.hid (fun j t hj ht => by
          by_cases hjk : j = k
          · subst hjk
            rw [hc] at ht
            obtain rfl := Option.some.inj ht
            exact hq
          · exact HR.out j t (by omega) ht)
        simp only [Bool.not_false] at hz
        clear hc hab hq c0 c1 c2 c3 c4
        go_wp2_with fail
        go_roundw
        case rel => exact ⟨k + 1, by omega, by simp, HR2, HW⟩
        case measure => simp [intOf]; omega
    · obtain rfl : k = m := by omega
      have HF : Hid (k = notAbove key ss) := Lib.hid (notAbove_first HRI.out HR.out (fun t ht => by rw [List.getElem?_eq_none (by have := HM.out; omega)] at ht; cases ht) (by have := HM.out; omega)).symm
      have hlt' : ¬ (k : Int) < k := by omega
      clear hlt hk
      go_wp2_with fail
      go_ret
      exact ⟨by rw [← HF.out]; rfl, by rw [HW.out]; exact HB.out⟩
end Go.Proofs.YtembccehokodeaaGreatDoor

namespace Go.Proofs.YtembccehokodeaaGreatDoor
open Go.RowKit IP
set_option linter.unusedVariables false
set_option linter.unusedSimpArgs false

theorem range_snoc (f : Nat → ByteArray) (k : Nat) : (List.range (k + 1)).map f = (List.range k).map f ++ [f k] := by rw [List.range_succ, List.map_append]; rfl
set_option maxHeartbeats 4000000 in
set_option maxRecDepth 100000 in
theorem rcells_any (F L R : Int) (H : ByteArray) (A : Option Addr) (n ca : Nat) (C : Option Addr) (m cb : Nat) (ks : List Int) (ss : List ByteArray) (w : World) (hr : Rows2 w A n ca C m cb ks ss) (hf : Fit H ks ss) :
    Calls Tryz.prog 38 #[nv F L R H A n ca C m cb] w fun e w' => ∃ G cap, e = .returned (.slice G n cap) ∧ L5.Lies w' w'.heap.size G (cellsS ks ss) ∧ Below w.heap.size w w' := by
  obtain ⟨i0, hi, hz0, hz1, hz2⟩ := info_parts L5.Tryz.infoStr
  have hb0 := nbox_below 33 F L R H A n ca C m cb w
  have HB0 := Lib.hid hb0
  have HK := Lib.hid (nbox_new 33 F L R H A n ca C m cb w)
  have hms := hr.nm
  have hks := hr.nk
  have hnm : n = m + 1 := by rw [← hks, ← hms]; exact hf.len
  have hm1000 : m ≤ 1000 := by rw [← hms]; exact hf.few
  have HNM := Lib.hid hnm
  have HRA := Lib.hid (hr.on hb0)
  have HS := Lib.hid (L5.rstrip_any C ss cb _ (hr.on hb0).seps (by have := hf.few; omega) (fun s hs => by have := hf.sep s hs; omega))
  rw [hms] at HS
  have HKID : Hid (∀ i (hi : i < n), ∃ k, ks[i]? = some k ∧ KidOk k ∧ ks.getD i 0 = k) := Lib.hid (fun i hi => by
    have h1 : ks[i]? = some ks[i] := List.getElem?_eq_getElem (by omega)
    exact ⟨_, h1, hf.kids _ (List.mem_of_getElem? h1), by rw [List.getD_eq_getElem?_getD, h1]; rfl⟩)
  have HLO : Hid (∀ i, (loAt ⟨#[]⟩ (L5.bares ss) i).size ≤ 128) := Lib.hid (fun i => lo_size (bares_size hf.sep) i)
  have HCR : Hid ((List.range n).map (cellAt ks (L5.bares ss)) = cellsS ks ss) := Lib.hid (by rw [← hks]; exact cells_range hf.len)
  have HBL : Hid ((L5.bares ss).length = m) := Lib.hid (by rw [L5.bares_length, hms])
  have HPK := Lib.hid (fun (k : Int) (t : ByteArray) (hk : KidOk k) (ht : t.size ≤ 128) W => (by have h := L9.rputk_any k t W (by omega); rw [putk_ok hk ht] at h; exact h : Calls Tryz.prog 67 #[.int .i64 k, .string t] W fun e w' => e = .returned (.tuple #[.string (L9.kidS k.toNat t), .int .i64 0]) ∧ Below W.heap.size W w'))
  have HCA : Hid (cellsS ks ss = (List.range n).map (cellAt ks (L5.bares ss))) := Lib.hid HCR.out.symm
  rw [HCA.out]
  clear HCA HCR
  obtain ⟨bs, hbs⟩ : ∃ bs, L5.bares ss = bs := ⟨_, rfl⟩
  rw [hbs] at HS HLO HBL
  rw [hbs]
  obtain ⟨c0, c1, c2, c3, c4, c5⟩ := HK.out.cells
  clear hbs hr hf hb0 hms hks hnm
  simp only [nbox] at HK HB0 HRA HS c0 c1 c2 c3 c4 c5
  go_enter Tryz.func38, Tryz.ntmps38
  go_wp2_with fail
  refine HS.out.mono ?_
  rintro e w1 ⟨G3, cap3, rfl, hL3, hb3⟩
  have HK3 := Lib.hid (HK.out.below hb3)
  have HB3 := Lib.hid (HB0.out.trans' hb3)
  have HA3 := Lib.hid ((HRA.out.on hb3).kids)
  have HL3 := Lib.hid hL3
  have hlt1 := HK3.out.lt
  clear hL3 hb3 HS HK HB0 HRA c0 c1 c2 c3 c4 c5
  go_wp2_with fail
  go_loopw [5, 6] (fun ov iv wr => ∃ (k g cap : Nat), k ≤ n ∧ iv = .int .i64 k ∧ ov = .slice (some ⟨g, 0, none⟩) k cap ∧ Hid (L5.Owns wr w1.heap.size (.slice (some ⟨g, 0, none⟩) k cap) k ((List.range k).map (cellAt ks bs))) ∧ Below w1.heap.size w1 wr) (fun _ iv _ => n - (intOf iv).toNat)
  case atStart =>
    exact ⟨0, w1.heap.size, 0, by omega, rfl, rfl, Lib.hid (L5.own_empty w1 _), L5.below_alloc _ _⟩
  case round =>
    obtain ⟨k, g, cap, hk, rfl, rfl, HO, hbr⟩ := hrel
    by_cases hlt : k < n
    · obtain ⟨kid, hkid, hok, hgd⟩ := HKID.out k hlt
      obtain ⟨a, rfl, hab, x0⟩ := (HA3.out.below hbr) k kid hkid
      obtain ⟨p0, p1, p2, p3, p4, p5⟩ := (HK3.out.on hbr hlt1).cells
      have HC : Hid ((List.range (k + 1)).map (cellAt ks bs) = (List.range k).map (cellAt ks bs) ++ [cellAt ks bs k]) := Lib.hid (range_snoc _ k)
      have HCE : Hid (cellAt ks bs k = L9.kidS kid.toNat (loAt ⟨#[]⟩ bs k)) := Lib.hid (by unfold cellAt; rw [hgd])
      have HP := Lib.hid (fun W => HPK.out kid (loAt ⟨#[]⟩ bs k) hok (HLO.out k) W)
      rw [← HCE.out] at HP
      have hbs := hbr.size
      have h0 : (0 : Int) ≤ k := by omega
      have hkn : (k : Int) < n := by omega
      have hk1000 : (k : Int) ≤ 1001 := by have := HNM.out; omega
      generalize cellAt ks bs k = cc at *
      clear hkid hgd HCE hab
      rcases Nat.eq_zero_or_pos k with hk0 | hk0
      · subst hk0
        have HP' : Hid (∀ W, Calls Tryz.prog 67 #[.int .i64 kid, .string ⟨#[]⟩] W fun e w' => e = .returned (.tuple #[.string cc, .int .i64 0]) ∧ Below W.heap.size W w') := HP
        rw [show a.add ((0 : Nat) : Nat) = a from by cases a; simp [Addr.add]] at x0
        go_wp2_with fail
        refine (HP'.out _).mono ?_
        rintro e V ⟨rfl, hbV⟩
        have HBV := Lib.hid hbV
        have HOV := Lib.hid (L5.own_below HO.out hbV)
        have HW1 := Lib.hid (hbr.trans (hbV.mono hbs))
        have hbs2 := hbV.size
        clear hbV
        go_wp2_with (at_builtin; refine wpList_append_lies _ rfl _ _ 23 rfl w1.heap.size 9 i0 (.string ⟨#[]⟩) 1 16 Tryz.underlying23 hi hz0 hz1 hz2 rfl (by decide) (.slice (some ⟨g, 0, none⟩) 0 cap) 0 _ rfl (HOV.out.alloc _) ⟨V.heap.size, 0, none⟩ 1 1 [.string cc] rfl rfl (World.news_of_block (cs := #[.string cc]) (t := 9) (fr := (0, 0)) (heap_alloc_new V _)) (L5.str_one _) (by omega) (by unfold maxLen; omega) (by omega) (by simp; omega) (V.heap.size + 1) (by simp) ?_; intro g' cap' w2 hown' hgrow hat hlt2; have hb3 : Below w1.heap.size V w2 := ((Below.refl _ V).alloc (by omega) (.cells #[.string cc] 9)).trans (L5.own_apart (HOV.out.alloc _) hgrow (Nat.le_refl _) (by simp; omega)); clear hat hlt2 hgrow)
        have hb4 := HW1.out.trans hb3
        go_roundw
        case rel => exact ⟨1, g', cap', by omega, by simp, rfl, Lib.hid (by rw [HC.out, L5.Owns, L5.strCells_snoc]; exact hown'), hb4⟩
        case measure => simp [intOf]; omega
      · obtain ⟨j, HJ⟩ : ∃ j, Hid (k = j + 1) := ⟨k - 1, Lib.hid (by omega)⟩
        have hj : j < bs.length := by have h1 := HBL.out; have h2 := HNM.out; have h3 := HJ.out; omega
        obtain ⟨t, ht⟩ : ∃ t, bs[j]? = some t := ⟨_, List.getElem?_eq_getElem hj⟩
        have hlo : loAt ⟨#[]⟩ bs k = t := by
          rw [HJ.out]
          show bs.getD j ⟨#[]⟩ = t
          rw [List.getD_eq_getElem?_getD, ht]
          rfl
        obtain ⟨b, rfl, hbb, y0⟩ := (HL3.out.below hbr) j t ht
        rw [hlo] at HP
        have hjm : j < m := by have h1 := HBL.out; omega
        have hj2 : (j : Int) < m := by omega
        have hj0 : (0 : Int) ≤ j := by omega
        have hw : IntKind.i64.wrap ((k : Int) - 1) = (j : Int) := by
          rw [HJ.out]
          have : (((j + 1 : Nat) : Int) - 1) = j := by omega
          rw [this]
          exact IntWalk.i64_in _ (by omega)
        have hkp : (0 : Int) < (k : Int) := by omega
        have hk1 : ((k : Int) - 1) = (j : Int) := by have := HJ.out; omega
        have hg0 : decide ((0 : Int) < (k : Int)) = true := decide_eq_true hkp
        clear hlo ht hj hbb
        go_wp2_with fail
        refine (HP.out _).mono ?_
        rintro e V ⟨rfl, hbV⟩
        have HBV := Lib.hid hbV
        have HOV := Lib.hid (L5.own_below HO.out hbV)
        have HW1 := Lib.hid (hbr.trans (hbV.mono hbs))
        have hbs2 := hbV.size
        clear hbV
        go_wp2_with (at_builtin; refine wpList_append_lies _ rfl _ _ 23 rfl w1.heap.size 9 i0 (.string ⟨#[]⟩) 1 16 Tryz.underlying23 hi hz0 hz1 hz2 rfl (by decide) (.slice (some ⟨g, 0, none⟩) k cap) k _ rfl (HOV.out.alloc _) ⟨V.heap.size, 0, none⟩ 1 1 [.string cc] rfl rfl (World.news_of_block (cs := #[.string cc]) (t := 9) (fr := (0, 0)) (heap_alloc_new V _)) (L5.str_one _) (by omega) (by unfold maxLen; omega) (by omega) (by simp; omega) (V.heap.size + 1) (by simp) ?_; intro g' cap' w2 hown' hgrow hat hlt2; have hb3 : Below w1.heap.size V w2 := ((Below.refl _ V).alloc (by omega) (.cells #[.string cc] 9)).trans (L5.own_apart (HOV.out.alloc _) hgrow (Nat.le_refl _) (by simp; omega)); clear hat hlt2 hgrow)
        have hb4 := HW1.out.trans hb3
        go_roundw
        case rel => exact ⟨k + 1, g', cap', by omega, by simp, rfl, Lib.hid (by rw [HC.out, L5.Owns, L5.strCells_snoc]; exact hown'), hb4⟩
        case measure => simp [intOf]; omega
    · obtain rfl : k = n := by omega
      have HL : Hid (L5.Lies wr wr.heap.size (some ⟨g, 0, none⟩) ((List.range k).map (cellAt ks bs))) := Lib.hid (L5.lies_own HO.out (by simp))
      obtain ⟨p0, p1, p2, p3, p4, p5⟩ := (HK3.out.on hbr hlt1).cells
      have hlt' : ¬ (k : Int) < k := by omega
      go_wp2_with fail
      go_ret
      exact ⟨some ⟨g, 0, none⟩, ⟨cap, rfl⟩, HL.out, HB3.out.trans' hbr⟩
end Go.Proofs.YtembccehokodeaaGreatDoor
