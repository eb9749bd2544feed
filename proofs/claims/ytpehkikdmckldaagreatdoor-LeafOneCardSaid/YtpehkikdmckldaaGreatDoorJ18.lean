/-
  The walk of leaf.Decode.
  The fixed calls of the statements of layer 9.
  The laws' Cut and Ref.
  The walks of the laws' own Ref and Cut.
  What the laws of layer 10 ask of their own fixed answers; leaves in boxes, with their rows.
  Encode and Decode where what they come to is known.
-/
import Derived.Test.YtpehkikdmckldaaGreatDoorJNRead
import Derived.Test.YtpehkikdmckldaaGreatDoorJNAs
import Derived.Test.YtpehkikdmckldaaGreatDoorJ08
import Derived.Test.YtpehkikdmckldaaGreatDoorJ15
import Derived.Deep.RegionWith
import Derived.Deep.AppendLies
import Derived.Deep.RegionHeld3
namespace Go.Proofs.YtpehkikdmckldaaGreatDoor
open Go.RowKit NP
set_option linter.unusedVariables false
set_option linter.unusedSimpArgs false

def DecS (s : ByteArray) (e : Ending) (w' : World) : Prop :=
  (∃ l G, dec s = some l ∧ e = .returned (.tuple #[lv l.self l.right l.high G l.items.length l.items.length, .int .i64 0]) ∧ Lies5 w' w'.heap.size G l.items) ∨
  (dec s = none ∧ e = .returned (.tuple #[lv 0 0 ⟨#[]⟩ none 0 0, .int .i64 3]))

set_option maxHeartbeats 4000000 in
set_option maxRecDepth 100000 in
theorem dec_any (s : ByteArray) (w : World) (hg : Glo w) (hs : s.size ≤ 1000000) :
    Calls Tryz.prog 13 #[.string s] w fun e w' => DecS s e w' ∧ Below w.heap.size w w' := by
  have hb0 := lbox_below 24 0 0 ⟨#[]⟩ none 0 0 w
  have HB0 := Lib.hid hb0
  have HK0 := Lib.hid (lbox_new 24 0 0 ⟨#[]⟩ none 0 0 w)
  have HG0 := Lib.hid (hg.on hb0)
  have HR := Lib.hid (read_any s _ (hg.on hb0) hs)
  clear hb0 hg
  go_enter Tryz.func13, Tryz.ntmps13
  go_wp2_with fail
  refine HR.out.mono ?_
  rintro e w2 ⟨h2, hb2⟩
  have hlt : w.heap.size < w2.heap.size := by
    have h1 := hb2.size
    rw [lbox_size] at h1
    omega
  rcases h2 with ⟨l, q, h2, hq, rfl, hL2⟩ | ⟨h2, F, R, H, A, n, ca, Z, te, ve, rfl⟩
  · obtain ⟨F, R, H, l⟩ := l
    simp only at hL2
    rw [lbox_size] at hq
    obtain ⟨G, hG⟩ : ∃ G : Option Addr, G = some ⟨q, 0, none⟩ := ⟨_, rfl⟩
    have HGQ := Lib.hid hG
    have hq' : w.heap.size ≠ q := by omega
    rw [← hG] at hL2 ⊢
    clear hG
    have hb3 := L5.below_alloc w2 (.cells #[.int .i64 F, .int .i64 R, .string H, .slice G l.length l.length] 24)
    have hb4 := hb3.trans' (L5.below_alloc (w2.alloc (.cells #[.int .i64 F, .int .i64 R, .string H, .slice G l.length l.length] 24)) (.cells #[.string ⟨#[]⟩, .nilIface] 88))
    have HD := Lib.hid h2
    have HL4 := Lib.hid (hL2.on hb4)
    have HL2 := Lib.hid hL2
    have HK4 := Lib.hid ((HK0.out.below hb2).below hb4)
    have HB4 := Lib.hid ((HB0.out.trans' hb2).trans' hb4)
    have HN4 := Lib.hid ((show LBx 24 w2.heap.size F R H G l.length l.length (w2.alloc (.cells #[.int .i64 F, .int .i64 R, .string H, .slice G l.length l.length] 24)) from heap_alloc_new _ _).below (L5.below_alloc _ (.cells #[.string ⟨#[]⟩, .nilIface] 88)))
    have HS2 := Lib.hid hb2
    obtain ⟨n, hn⟩ : ∃ n, n = l.length := ⟨_, rfl⟩
    have HN := Lib.hid hn
    simp only
    rw [← hn] at HN4 HK4 HB4 HL4 ⊢
    clear h2 hL2 hb2 hb3 hb4 HK0 HB0 HG0 HR hn
    go_wp2_with fail
    refine (as_nil _ _).mono ?_
    rintro e w5 ⟨rfl, hw5⟩
    rw [← hw5] at HN4 HK4 HB4 HL4
    clear hw5
    obtain ⟨y0, y1, y2, y3⟩ := HN4.out.cells
    obtain ⟨x0, x1, x2, x3⟩ := HK4.out.cells
    obtain ⟨f0, f1, f2, f3⟩ := HK4.out.free
    go_wp2_with fail
    obtain ⟨r0, r1, r2, r3⟩ := (setL_box HK4.out F R H G n n).cells
    unfold setL at r0 r1 r2 r3
    refine bodyPost_ret (v := .tuple #[lv F R H G n n, .int .i64 0]) (by simp [results, Tryz.results13, go_sem, r0, r1, r2, r3]) rfl ?_
    refine ⟨.inl ⟨⟨F, R, H, l⟩, G, HD.out, by simp only [HN.out], ?_⟩, setL_below HB4.out (Nat.le_refl _) F R H G n n⟩
    have hlies : Lies5 (setL w5 w.heap.size F R H G n n) (setL w5 w.heap.size F R H G n n).heap.size G l := by
      rw [setL_size]
      exact setL_lies HL4.out (g := w.heap.size) (fun a ha => by
        rw [HGQ.out] at ha
        obtain rfl := Option.some.inj ha
        exact fun h => hq' h.symm) F R H G n n
    exact hlies
  · have HD := Lib.hid h2
    have hb3 := L5.below_alloc w2 (.cells #[.int .i64 F, .int .i64 R, .string H, .slice A n ca] 24)
    have hb4 := hb3.trans' (L5.below_alloc (w2.alloc (.cells #[.int .i64 F, .int .i64 R, .string H, .slice A n ca] 24)) (.cells #[.string ⟨#[]⟩, .nilIface] 88))
    have HK4 := Lib.hid ((HK0.out.below hb2).below hb4)
    have HB4 := Lib.hid ((HB0.out.trans' hb2).trans' hb4)
    have HF4 := Lib.hid (show FBx (w2.alloc (.cells #[.int .i64 F, .int .i64 R, .string H, .slice A n ca] 24)).heap.size ⟨#[]⟩ .nilIface ((w2.alloc (.cells #[.int .i64 F, .int .i64 R, .string H, .slice A n ca] 24)).alloc (.cells #[.string ⟨#[]⟩, .nilIface] 88)) from heap_alloc_new _ _)
    rw [show (w2.alloc (.cells #[.int .i64 F, .int .i64 R, .string H, .slice A n ca] 24)).heap.size = w2.heap.size + 1 by simp] at HF4
    have HG4 := Lib.hid ((HG0.out.on hb2).on hb4)
    clear h2 hb2 hb3 hb4 HK0 HB0 HG0 HR
    go_wp2_with fail
    refine (as_hit Z te ve (w2.heap.size + 1) ⟨#[]⟩ .nilIface _ HG4.out.errT HF4.out).mono ?_
    rintro e w5 ⟨rfl, hb5⟩
    have hb6 := hb5 (w.heap.size + 1) (by omega) (by simp; omega)
    have HK5 := Lib.hid (HK4.out.on hb6 (by omega))
    have HB5 := Lib.hid (HB4.out.trans (hb6.mono (by omega)))
    clear hb5 hb6
    obtain ⟨x0, x1, x2, x3⟩ := HK5.out.cells
    obtain ⟨f0, f1, f2, f3⟩ := HK5.out.free
    go_wp2_with fail
    obtain ⟨r0, r1, r2, r3⟩ := (setL_box HK5.out 0 0 ⟨#[]⟩ none 0 0).cells
    unfold setL at r0 r1 r2 r3
    refine bodyPost_ret (v := .tuple #[lv 0 0 ⟨#[]⟩ none 0 0, .int .i64 3]) (by simp [results, Tryz.results13, go_sem, r0, r1, r2, r3]) rfl ⟨.inr ⟨HD.out, rfl⟩, ?_⟩
    exact setL_below HB5.out (Nat.le_refl _) 0 0 ⟨#[]⟩ none 0 0
end Go.Proofs.YtpehkikdmckldaaGreatDoor

namespace Go.Proofs.YtpehkikdmckldaaGreatDoor.L9
open Go.RowKit
set_option linter.unusedVariables false
set_option linter.unusedSimpArgs false
end Go.Proofs.YtpehkikdmckldaaGreatDoor.L9

namespace Go.Proofs.YtpehkikdmckldaaGreatDoor.L9
open Go.RowKit
set_option linter.unusedVariables false
set_option linter.unusedSimpArgs false

def cutV (S : ByteArray) : ByteArray := S.extract 0 (min S.size 300)
theorem cutV_size (S : ByteArray) : (cutV S).size ≤ 300 := by simp [cutV]; omega
set_option maxHeartbeats 1000000 in
theorem vcut_any (O : Bool) (S : ByteArray) (L P : Int) (w : World) (hs : S.size ≤ maxLen) :
    Calls Tryz.prog 31 #[vv O S L P] w fun e w' => e = .returned (vv O (cutV S) L P) ∧ Below w.heap.size w w' := by
  unfold maxLen at hs
  obtain ⟨m, hm, hm6, hms, hmm, hfs⟩ := cut_min S 300 (by omega)
  have hc : cutV S = S.extract 0 m := by
    unfold cutV
    rw [show min S.size 300 = m by omega]
  rw [hc]
  clear hc hfs
  go_enter Tryz.func31, Tryz.ntmps31
  go_wp2_with fail
  refine bodyPost_ret (v := vv O (S.extract 0 m) L P) (by simp [results, Tryz.results31, go_sem]) rfl ⟨rfl, (below_alloc _ _).trans' (below_alloc _ _)⟩
set_option maxHeartbeats 1000000 in
theorem vref_any (O : Bool) (S : ByteArray) (L P : Int) (w : World) :
    Calls Tryz.prog 23 #[vv O S L P] w fun e w' => e = .returned (vv O S L P) ∧ Below w.heap.size w w' := by
  go_enter Tryz.func23, Tryz.ntmps23
  go_wp2_with fail
  refine bodyPost_ret (v := vv O S L P) (by simp [results, Tryz.results23, go_sem]) rfl ⟨rfl, (below_alloc _ _).trans' (below_alloc _ _)⟩
end Go.Proofs.YtpehkikdmckldaaGreatDoor.L9

namespace Go.Proofs.YtpehkikdmckldaaGreatDoor
open Go.RowKit NP
set_option linter.unusedVariables false
set_option linter.unusedSimpArgs false

/-- The world in which a leaf and an empty one have been boxed. -/
def WR (ti tt : TypeId) (F R : Int) (H : ByteArray) (A : Option Addr) (n ca : Nat) (w : World) : World := (lbox ti F R H A n ca w).alloc (.cells #[.int .i64 0, .int .i64 0, .string ⟨#[]⟩, .slice none 0 0] tt)
theorem WR_size (ti tt : TypeId) (F R : Int) (H : ByteArray) (A : Option Addr) (n ca : Nat) (w : World) : (WR ti tt F R H A n ca w).heap.size = w.heap.size + 1 + 1 := by simp [WR, lbox]
theorem WR_boxes (ti tt : TypeId) (F R : Int) (H : ByteArray) (A : Option Addr) (n ca : Nat) (w : World) :
    LBx ti w.heap.size F R H A n ca (WR ti tt F R H A n ca w) ∧ LBx tt (w.heap.size + 1) 0 0 ⟨#[]⟩ none 0 0 (WR ti tt F R H A n ca w) ∧ Below w.heap.size w (WR ti tt F R H A n ca w) := by
  have h1 := lbox_new ti F R H A n ca w
  have h2 := lbox_new tt 0 0 ⟨#[]⟩ none 0 0 (lbox ti F R H A n ca w)
  rw [lbox_size] at h2
  exact ⟨h1.below (L5.below_alloc _ _), h2, (lbox_below _ _ _ _ _ _ _ _).trans' (L5.below_alloc _ _)⟩
theorem own5_block {w : World} {base e n g : Nat} {v : Value} {xs : List Value} (h : w.ownsRow base e 5 v n xs) (hv : v.ownBlock = some g) : base ≤ g := by
  rcases h.2 with ⟨rfl, _⟩ | ⟨g', cap, cur, rfl, hg', _⟩
  · simp [Value.ownBlock] at hv
  · simp [Value.ownBlock] at hv; omega
/-- A row of the call's own stays where another block is written. -/
theorem own5_set {w : World} {base e n q o : Nat} {v : Value} {xs : List Value} {u : Value} (h : w.ownsRow base e 5 v n xs) (hq : q < base) : (w.setCell ⟨q, o, none⟩ u).ownsRow base e 5 v n xs := by
  refine h.kept (row := some q) ⟨rfl, rfl, rfl, by simp, fun i hi hr => Below.heap_setCell w ⟨q, o, none⟩ u i (fun e => hr (by simp [e]))⟩ ?_
  cases hv : v.ownBlock with
  | none => exact .inl rfl
  | some x => exact .inr (by have := own5_block h hv; simp; omega)
theorem LBx.set3 {t : TypeId} {w : World} {g : Nat} {F R : Int} {H : ByteArray} {A : Option Addr} {n ca : Nat} (k : LBx t g F R H A n ca w) (A' : Option Addr) (n' ca' : Nat) : LBx t g F R H A' n' ca' (w.setCell ⟨g, 3, none⟩ (.slice A' n' ca')) := by
  unfold LBx at *
  exact heap_setCell_same w g 3 _ _ (.slice A' n' ca') k
theorem Tryz.infoItemD : (Tryz.prog.info? 82).map (fun i => (i.zero, i.size, i.bytes)) = some (some (.agg #[.string ⟨#[]⟩, .bool false, .string ⟨#[]⟩, .int .i64 0, .int .i64 0]), 5, 56) := by kernel_rfl

theorem drew_below {c : Nat} {w v : World} (h : Below c w v) : Below c w v.drew := L5.below_drewN h 1
/-- An operation of a drawn region that yields in every world that meets S is taken first. -/
theorem take_op' {P : Program} {ops : Array Oper} {Q : Exit → Act → World → Prop} {md : Region.Mode} {S : World → Prop} {i : Nat} {oi : Oper} {d : Option Tmp} {v : Value} {fuel : Nat} {listed : Array Bool} {a : Act} {w : World} (hi : ops[i]? = some oi) (hd : oi.dst = d)
    (hs : Region.noSelect ops = true) (hf : Region.free md ops listed i = true) (hr : (Region.ready md ops listed).contains i = true)
    (hQ : ∀ c a w, Q (.panic c) (a.put d v) w → Q (.panic c) a w) (hy : YieldsIf P ops S oi v a) (hS : S w)
    (h : wpAnyH P md ops Q S fuel (listed.setIfInBounds i true) (a.put d v) w) : wpAnyH P md ops Q S (fuel + 1) listed a w := by
  subst hd
  exact wpAnyH_take hi hs hf hr hQ hy hS h

set_option maxHeartbeats 4000000 in
set_option maxRecDepth 100000 in
theorem ref_any (F R : Int) (H : ByteArray) (A : Option Addr) (l : List It) (ca : Nat) (w : World) (ha : Lies5 w w.heap.size A l) (hl : l.length ≤ 1000000) :
    Calls Tryz.prog 12 #[lv F R H A l.length ca] w fun e w' => ∃ G cap, e = .returned (lv F R H G (l).length cap) ∧ Lies5 w' w'.heap.size G (l) ∧ Below w.heap.size w w' := by
  obtain ⟨i0, hi, hz0, hz1, hz2⟩ := info_parts Tryz.infoItemD
  obtain ⟨B1, B2, hb0⟩ := WR_boxes 24 34 F R H A l.length ca w
  have HA := Lib.hid (ha.below hb0)

  obtain ⟨n, hn⟩ : ∃ n, n = l.length := ⟨_, rfl⟩
  have HN := Lib.hid hn
  rw [← hn]
  rw [← hn] at hl B1 B2 hb0 HA
  have H1 := Lib.hid B1
  have H2 := Lib.hid B2
  have HZ := Lib.hid hb0
  have HWS := Lib.hid (WR_size 24 34 F R H A n ca w)
  clear ha hn B1 B2 hb0
  go_enter Tryz.func12, Tryz.ntmps12
  go_wp2_with fail
  go_loopw [4] (fun iv wr => ∃ (k : Nat) (K : Option Addr) (kc : Nat), k ≤ n ∧ iv = .int .i64 k ∧ Hid (LBx 34 (w.heap.size + 1 + 1) F R H K k kc wr) ∧ Hid (wr.ownsRow (w.heap.size + 1 + 1 + 1) 82 5 (.slice K k kc) k (fives (l.take k))) ∧ Hid (Below (w.heap.size + 1 + 1) (WR 24 34 F R H A n ca w) wr) ∧ w.heap.size + 1 + 1 + 1 ≤ wr.heap.size) (fun iv _ => n - (intOf iv).toNat)
  case atStart =>
    exact ⟨0, none, 0, by omega, rfl, Lib.hid (by have h := lbox_new 34 F R H none 0 0 (WR 24 34 F R H A n ca w); rw [HWS.out] at h; exact h), Lib.hid (own5_nil _ _ _), Lib.hid (by have h := lbox_below 34 F R H none 0 0 (WR 24 34 F R H A n ca w); rw [HWS.out] at h; exact h), by simp⟩
  case round =>
    obtain ⟨k, K, kc, hk, rfl, HB, HO, HW, hsz⟩ := hrel
    have HI := Lib.hid (H1.out.on HW.out (by omega))
    obtain ⟨p0, p1, p2, p3⟩ := HI.out.cells
    obtain ⟨q0, q1, q2, q3⟩ := HB.out.cells
    by_cases hlt : k < n
    · obtain ⟨⟨KK, O, S, L, P⟩, hc⟩ : ∃ c, l[k]? = some c := ⟨_, List.getElem?_eq_getElem (by have := HN.out; omega)⟩
      obtain ⟨a, rfl, hab, x0, x1, x2, x3, x4⟩ := (HA.out.below' HW.out (by omega)).load hc
      have hab2 : (a.add (k * 5)).block < w.heap.size := by rw [L5.addr_block]; exact hab
      have h0 : (0 : Int) ≤ k := by omega
      have hkn : (k : Int) < n := by omega
      have HRF := Lib.hid (fun W => L9.vref_any O S L P W)
      have HC := Lib.hid (fives_snoc l k _ hc)
      have HCC := Lib.hid hc
      clear hc hab
      have HNE : Hid (∀ g, (Value.slice K k kc).ownBlock = some g → g ≠ w.heap.size + 1 + 1) := Lib.hid (fun g hg => by have := own5_block HO.out hg; omega)
      have HSV : Hid (∀ V, Below (w.heap.size + 1 + 1) (WR 24 34 F R H (some a) n ca w) V → (Hid (Below (w.heap.size + 1 + 1) (WR 24 34 F R H (some a) n ca w) V) ∧ V.cell? ⟨w.heap.size, 3, none⟩ = some (.slice (some a) n ca) ∧ V.cell? (a.add (k * 5)) = some (.string KK) ∧ V.cell? ⟨(a.add (k * 5)).block, (a.add (k * 5)).off + 1, none⟩ = some (.bool O) ∧ V.cell? ⟨(a.add (k * 5)).block, (a.add (k * 5)).off + 2, none⟩ = some (.string S) ∧ V.cell? ⟨(a.add (k * 5)).block, (a.add (k * 5)).off + 3, none⟩ = some (.int .i64 L) ∧ V.cell? ⟨(a.add (k * 5)).block, (a.add (k * 5)).off + 4, none⟩ = some (.int .i64 P))) := Lib.hid (fun V hb => by
        obtain ⟨z0, z1, z2, z3⟩ := (H1.out.on hb (by omega)).cells
        obtain ⟨b, e, hbb, u0, u1, u2, u3, u4⟩ := (HA.out.below' hb (by omega)).load HCC.out
        obtain rfl := Option.some.inj e
        exact ⟨Lib.hid hb, z3, u0, u1, u2, u3, u4⟩)
      have hS0 := HSV.out _ HW.out
      have hSd := HSV.out _ (drew_below HW.out)
      clear p0 p1 p2 p3 x0 x1 x2 x3 x4
      go_wp2_with fail
      have HB := Lib.hid (show LBx 34 (w.heap.size + 1 + 1) F R H (K) k kc wr.drew from HB.out)
      have HO := Lib.hid HO.out.drew
      have HW := Lib.hid (drew_below HW.out)
      have hsz : w.heap.size + 1 + 1 + 1 ≤ wr.drew.heap.size := hsz
      refine wp_region_held_drew (S := fun V => Hid (Below (w.heap.size + 1 + 1) (WR 24 34 F R H (some a) n ca w) V) ∧ V.cell? ⟨w.heap.size, 3, none⟩ = some (.slice (some a) n ca) ∧ V.cell? (a.add (k * 5)) = some (.string KK) ∧ V.cell? ⟨(a.add (k * 5)).block, (a.add (k * 5)).off + 1, none⟩ = some (.bool O) ∧ V.cell? ⟨(a.add (k * 5)).block, (a.add (k * 5)).off + 2, none⟩ = some (.string S) ∧ V.cell? ⟨(a.add (k * 5)).block, (a.add (k * 5)).off + 3, none⟩ = some (.int .i64 L) ∧ V.cell? ⟨(a.add (k * 5)).block, (a.add (k * 5)).off + 4, none⟩ = some (.int .i64 P)) (by kernel_rfl) hSd (fun hHeld => ?_)
      clear hSd hS0 q0 q1 q2 q3
      generalize wr.drew = D at *
      refine take_op' (i := 0) (d := some 19) (v := ?_) rfl rfl (by kernel_rfl) (by kernel_rfl) (by kernel_rfl) (fun _ _ _ h => h) (Or.inl ⟨by kernel_rfl, ?_⟩) (by assumption) ?_
      rotate_left
      · intro W hSw; (try dsimp only at hSw); go_simp; (first | done | with_reducible rfl)
      try simp only [Act.put, List.setIfInBounds_toArray, List.set_cons_zero, List.set_cons_succ]
      refine take_op' (i := 2) (d := some 21) (v := ?_) rfl rfl (by kernel_rfl) (by kernel_rfl) (by kernel_rfl) (fun _ _ _ h => h) (Or.inl ⟨by kernel_rfl, ?_⟩) (by assumption) ?_
      rotate_left
      · intro W hSw; (try dsimp only at hSw); go_simp; (first | done | with_reducible rfl)
      try simp only [Act.put, List.setIfInBounds_toArray, List.set_cons_zero, List.set_cons_succ]
      refine take_op' (i := 3) (d := some 22) (v := ?_) rfl rfl (by kernel_rfl) (by kernel_rfl) (by kernel_rfl) (fun _ _ _ h => h) (Or.inl ⟨by kernel_rfl, ?_⟩) (by assumption) ?_
      rotate_left
      · intro W hSw; (try dsimp only at hSw); go_simp; (first | done | with_reducible rfl)
      try simp only [Act.put, List.setIfInBounds_toArray, List.set_cons_zero, List.set_cons_succ]
      refine take_op' (i := 4) (d := some 23) (v := ?_) rfl rfl (by kernel_rfl) (by kernel_rfl) (by kernel_rfl) (fun _ _ _ h => h) (Or.inl ⟨by kernel_rfl, ?_⟩) (by assumption) ?_
      rotate_left
      · intro W hSw; (try dsimp only at hSw); go_simp; (first | done | with_reducible rfl)
      try simp only [Act.put, List.setIfInBounds_toArray, List.set_cons_zero, List.set_cons_succ]
      refine take_op' (i := 5) (d := some 24) (v := ?_) rfl rfl (by kernel_rfl) (by kernel_rfl) (by kernel_rfl) (fun _ _ _ h => h) (Or.inl ⟨by kernel_rfl, ?_⟩) (by assumption) ?_
      rotate_left
      · intro W hSw; (try dsimp only at hSw); go_simp; (first | done | with_reducible rfl)
      try simp only [Act.put, List.setIfInBounds_toArray, List.set_cons_zero, List.set_cons_succ]
      refine take_op' (i := 6) (d := some 25) (v := ?_) rfl rfl (by kernel_rfl) (by kernel_rfl) (by kernel_rfl) (fun _ _ _ h => h) (Or.inl ⟨by kernel_rfl, ?_⟩) (by assumption) ?_
      rotate_left
      · intro W hSw; (try dsimp only at hSw); go_simp; (first | done | with_reducible rfl)
      try simp only [Act.put, List.setIfInBounds_toArray, List.set_cons_zero, List.set_cons_succ]
      refine take_op' (i := 7) (d := some 26) (v := ?_) rfl rfl (by kernel_rfl) (by kernel_rfl) (by kernel_rfl) (fun _ _ _ h => h) (Or.inl ⟨by kernel_rfl, ?_⟩) (by assumption) ?_
      rotate_left
      · intro W hSw; (try dsimp only at hSw); go_simp; (first | done | with_reducible rfl)
      try simp only [Act.put, List.setIfInBounds_toArray, List.set_cons_zero, List.set_cons_succ]
      refine take_op' (i := 8) (d := some 27) (v := ?_) rfl rfl (by kernel_rfl) (by kernel_rfl) (by kernel_rfl) (fun _ _ _ h => h) (Or.inl ⟨by kernel_rfl, ?_⟩) (by assumption) ?_
      rotate_left
      · intro W hSw; (try dsimp only at hSw); go_simp; (first | done | with_reducible rfl)
      try simp only [Act.put, List.setIfInBounds_toArray, List.set_cons_zero, List.set_cons_succ]
      refine take_op' (i := 9) (d := some 28) (v := ?_) rfl rfl (by kernel_rfl) (by kernel_rfl) (by kernel_rfl) (fun _ _ _ h => h) (Or.inl ⟨by kernel_rfl, ?_⟩) (by assumption) ?_
      rotate_left
      · intro W hSw; (try dsimp only at hSw); go_simp; (first | done | with_reducible rfl)
      try simp only [Act.put, List.setIfInBounds_toArray, List.set_cons_zero, List.set_cons_succ]
      refine take_op' (i := 10) (d := some 29) (v := ?_) rfl rfl (by kernel_rfl) (by kernel_rfl) (by kernel_rfl) (fun _ _ _ h => h) (Or.inl ⟨by kernel_rfl, ?_⟩) (by assumption) ?_
      rotate_left
      · intro W hSw; (try dsimp only at hSw); go_simp; (first | done | with_reducible rfl)
      try simp only [Act.put, List.setIfInBounds_toArray, List.set_cons_zero, List.set_cons_succ]
      refine take_op' (i := 11) (d := some 30) (v := ?_) rfl rfl (by kernel_rfl) (by kernel_rfl) (by kernel_rfl) (fun _ _ _ h => h) (Or.inl ⟨by kernel_rfl, ?_⟩) (by assumption) ?_
      rotate_left
      · intro W hSw; (try dsimp only at hSw); go_simp; (first | done | with_reducible rfl)
      try simp only [Act.put, List.setIfInBounds_toArray, List.set_cons_zero, List.set_cons_succ]
      refine take_op' (i := 12) (d := some 31) (v := ?_) rfl rfl (by kernel_rfl) (by kernel_rfl) (by kernel_rfl) (fun _ _ _ h => h) (Or.inl ⟨by kernel_rfl, ?_⟩) (by assumption) ?_
      rotate_left
      · intro W hSw; (try dsimp only at hSw); go_simp; (first | done | with_reducible rfl)
      try simp only [Act.put, List.setIfInBounds_toArray, List.set_cons_zero, List.set_cons_succ]
      refine take_op' (i := 13) (d := some 32) (v := ?_) rfl rfl (by kernel_rfl) (by kernel_rfl) (by kernel_rfl) (fun _ _ _ h => h) (Or.inl ⟨by kernel_rfl, ?_⟩) (by assumption) ?_
      rotate_left
      · intro W hSw; (try dsimp only at hSw); go_simp; (first | done | with_reducible rfl)
      try simp only [Act.put, List.setIfInBounds_toArray, List.set_cons_zero, List.set_cons_succ]
      refine wpAnyH_ready (rs := [1, 14]) (by kernel_rfl) (by simp) (AllReadyH.cons rfl (fun QQ hK => ?_) (AllReadyH.cons rfl (fun QQ hK => ?_) AllReadyH.nil))
      · have qq := HB.out.cells.2.2.2
        go_simp
        refine hK.out _ _ hHeld (fun _ => ?_)
        clear qq hK
        try simp only [Act.put, List.setIfInBounds_toArray, List.set_cons_zero, List.set_cons_succ]
        refine wpAnyH_ready (rs := [14]) (by kernel_rfl) (by simp) (AllReadyH.cons rfl (fun QQ hK => ?_) AllReadyH.nil)
        go_simp
        refine (HRF.out _).mono ?_
        rintro e V ⟨rfl, hb⟩
        go_wp2_with fail
        have HB := Lib.hid (HB.out.below hb)
        have HO := Lib.hid (own5_below HO.out hb)
        have HW := Lib.hid (HW.out.trans (hb.mono (by omega)))
        have hs2 := hb.size
        have hsz : w.heap.size + 1 + 1 + 1 ≤ V.heap.size := by omega
        have hHeld := HSV.out _ HW.out
        refine hK.out _ _ hHeld (fun _ => ?_)
        clear hK hb hs2
        try simp only [Act.put, List.setIfInBounds_toArray, List.set_cons_zero, List.set_cons_succ]
        refine take_op' (i := 15) (d := some 34) (v := ?_) rfl rfl (by kernel_rfl) (by kernel_rfl) (by kernel_rfl) (fun _ _ _ h => h) (Or.inl ⟨by kernel_rfl, ?_⟩) (by assumption) ?_
        rotate_left
        · intro W hSw; (try dsimp only at hSw); go_simp; (first | done | with_reducible rfl)
        try simp only [Act.put, List.setIfInBounds_toArray, List.set_cons_zero, List.set_cons_succ]
        refine wpAnyH_ready (rs := [16]) (by kernel_rfl) (by simp) (AllReadyH.cons rfl (fun QQ hK => ?_) AllReadyH.nil)
        go_simp
        have hb := L5.below_alloc V (.cells #[.string KK, .bool O, .string S, .int .i64 L, .int .i64 P] 82)
        have hblk := heap_alloc_new V (.cells #[.string KK, .bool O, .string S, .int .i64 L, .int .i64 P] 82)
        have hq : (V.alloc (.cells #[.string KK, .bool O, .string S, .int .i64 L, .int .i64 P] 82)).heap.size = V.heap.size + 1 := by simp
        have HB := Lib.hid (HB.out.below hb)
        have HO := Lib.hid (own5_below HO.out hb)
        have HW := Lib.hid (HW.out.trans (hb.mono (by omega)))
        have hs2 := hb.size
        have hsz : w.heap.size + 1 + 1 + 1 ≤ (V.alloc (.cells #[.string KK, .bool O, .string S, .int .i64 L, .int .i64 P] 82)).heap.size := by omega
        have hHeld := HSV.out _ HW.out
        refine hK.out _ _ hHeld (fun _ => ?_)
        clear hK hb hs2
        generalize V.alloc (.cells #[.string KK, .bool O, .string S, .int .i64 L, .int .i64 P] 82) = V3 at *
        generalize V.heap.size = q at *
        try simp only [Act.put, List.setIfInBounds_toArray, List.set_cons_zero, List.set_cons_succ]
        refine wpAnyH_ready (rs := [17]) (by kernel_rfl) (by simp) (AllReadyH.cons rfl (fun QQ hK => ?_) AllReadyH.nil)
        refine step_append_lies _ (by rfl) _ _ _ (by rfl) (w.heap.size + 1 + 1 + 1) 82 i0 (.agg #[.string ⟨#[]⟩, .bool false, .string ⟨#[]⟩, .int .i64 0, .int .i64 0]) 5 56 Tryz.underlying32 hi hz0 hz1 hz2 rfl (by decide) (.slice K k kc) k _ (by rfl) HO.out ⟨q, 0, none⟩ 1 1 [.string KK, .bool O, .string S, .int .i64 L, .int .i64 P] (by rfl) (by rfl) (World.news_of_block (cs := #[.string KK, .bool O, .string S, .int .i64 L, .int .i64 P]) (t := 82) (fr := (0, 0)) hblk) (five_one _ _ _ _ _) (by omega) (by unfold maxLen; omega) (by omega) (by omega) V3.heap.size rfl ?_
        intro g' cap' w3 hown3 hgrow3 hat3 hlt3
        have hbA := own5_apart (q := w.heap.size + 1 + 1) HO.out hgrow3 (by omega) (by omega)
        have HBX := Lib.hid (show LBx 34 (w.heap.size + 1 + 1) F R H (K) k kc w3 from (hgrow3.block (w.heap.size + 1 + 1) (by omega) (fun e => HNE.out _ e.symm rfl)).trans HB.out)
        have HW := Lib.hid (HW.out.trans hbA)
        have hs3 := hgrow3.size
        have hHeld := HSV.out _ HW.out
        refine hK.out _ _ hHeld (fun _ => ?_)
        clear hK hat3 hlt3 hgrow3 hbA
        try simp only [Act.put, List.setIfInBounds_toArray, List.set_cons_zero, List.set_cons_succ]
        refine take_op' (i := 18) (d := some 37) (v := ?_) rfl rfl (by kernel_rfl) (by kernel_rfl) (by kernel_rfl) (fun _ _ _ h => h) (Or.inl ⟨by kernel_rfl, ?_⟩) (by assumption) ?_
        rotate_left
        · intro W hSw; (try dsimp only at hSw); go_simp; (first | done | with_reducible rfl)
        try simp only [Act.put, List.setIfInBounds_toArray, List.set_cons_zero, List.set_cons_succ]
        refine wpAnyH_ready (rs := [19]) (by kernel_rfl) (by simp) (AllReadyH.cons rfl (fun QQ hK => ?_) AllReadyH.nil)
        have E6 := HBX.out.cells.2.2.2
        have F6 := HBX.out.free.2.2.2
        go_simp
        have HWN := Lib.hid (HW.out.setCell (p := ⟨w.heap.size + 1 + 1, 3, none⟩) (Nat.le_refl _) (.slice (some ⟨g', 0, none⟩) (k + 1) cap'))
        have hHeld := HSV.out _ HWN.out
        refine hK.out _ _ hHeld (fun _ => ?_)
        clear hK E6 F6
        try simp only [Act.put, List.setIfInBounds_toArray, List.set_cons_zero, List.set_cons_succ]
        refine wpAnyH_done (by kernel_rfl) ?_ _
        have HON : Hid ((w3.setCell ⟨w.heap.size + 1 + 1, 3, none⟩ (.slice (some ⟨g', 0, none⟩) (k + 1) cap')).ownsRow (w.heap.size + 1 + 1 + 1) 82 5 (.slice (some ⟨g', 0, none⟩) (k + 1) cap') (k + 1) (fives (l.take (k + 1)))) := Lib.hid (own5_set (by rw [HC.out]; exact hown3) (by omega))
        have HBN := Lib.hid (HBX.out.set3 (some ⟨g', 0, none⟩) (k + 1) cap')
        have hszN : w.heap.size + 1 + 1 + 1 ≤ (w3.setCell ⟨w.heap.size + 1 + 1, 3, none⟩ (.slice (some ⟨g', 0, none⟩) (k + 1) cap')).heap.size := by simp; omega
        clear hown3
        go_wp2_with fail
        refine ⟨⟨k + 1, some ⟨g', 0, none⟩, cap', by omega, by simp, HBN, HON, HWN, hszN⟩, ?_⟩
        clear HBN HON HWN hszN HW HO HB HBX hHeld hsz hs3 hq hblk HSV hab2
        (try clear HWs HBs hszs)
        simp only [intOf]
        omega
      · go_simp
        refine (HRF.out _).mono ?_
        rintro e V ⟨rfl, hb⟩
        go_wp2_with fail
        have HB := Lib.hid (HB.out.below hb)
        have HO := Lib.hid (own5_below HO.out hb)
        have HW := Lib.hid (HW.out.trans (hb.mono (by omega)))
        have hs2 := hb.size
        have hsz : w.heap.size + 1 + 1 + 1 ≤ V.heap.size := by omega
        have hHeld := HSV.out _ HW.out
        refine hK.out _ _ hHeld (fun _ => ?_)
        clear hK hb hs2
        try simp only [Act.put, List.setIfInBounds_toArray, List.set_cons_zero, List.set_cons_succ]
        refine take_op' (i := 15) (d := some 34) (v := ?_) rfl rfl (by kernel_rfl) (by kernel_rfl) (by kernel_rfl) (fun _ _ _ h => h) (Or.inl ⟨by kernel_rfl, ?_⟩) (by assumption) ?_
        rotate_left
        · intro W hSw; (try dsimp only at hSw); go_simp; (first | done | with_reducible rfl)
        try simp only [Act.put, List.setIfInBounds_toArray, List.set_cons_zero, List.set_cons_succ]
        refine wpAnyH_ready (rs := [1, 16]) (by kernel_rfl) (by simp) (AllReadyH.cons rfl (fun QQ hK => ?_) (AllReadyH.cons rfl (fun QQ hK => ?_) AllReadyH.nil))
        · have qq := HB.out.cells.2.2.2
          go_simp
          refine hK.out _ _ hHeld (fun _ => ?_)
          clear qq hK
          try simp only [Act.put, List.setIfInBounds_toArray, List.set_cons_zero, List.set_cons_succ]
          refine wpAnyH_ready (rs := [16]) (by kernel_rfl) (by simp) (AllReadyH.cons rfl (fun QQ hK => ?_) AllReadyH.nil)
          go_simp
          have hb := L5.below_alloc V (.cells #[.string KK, .bool O, .string S, .int .i64 L, .int .i64 P] 82)
          have hblk := heap_alloc_new V (.cells #[.string KK, .bool O, .string S, .int .i64 L, .int .i64 P] 82)
          have hq : (V.alloc (.cells #[.string KK, .bool O, .string S, .int .i64 L, .int .i64 P] 82)).heap.size = V.heap.size + 1 := by simp
          have HB := Lib.hid (HB.out.below hb)
          have HO := Lib.hid (own5_below HO.out hb)
          have HW := Lib.hid (HW.out.trans (hb.mono (by omega)))
          have hs2 := hb.size
          have hsz : w.heap.size + 1 + 1 + 1 ≤ (V.alloc (.cells #[.string KK, .bool O, .string S, .int .i64 L, .int .i64 P] 82)).heap.size := by omega
          have hHeld := HSV.out _ HW.out
          refine hK.out _ _ hHeld (fun _ => ?_)
          clear hK hb hs2
          generalize V.alloc (.cells #[.string KK, .bool O, .string S, .int .i64 L, .int .i64 P] 82) = V3 at *
          generalize V.heap.size = q at *
          try simp only [Act.put, List.setIfInBounds_toArray, List.set_cons_zero, List.set_cons_succ]
          refine wpAnyH_ready (rs := [17]) (by kernel_rfl) (by simp) (AllReadyH.cons rfl (fun QQ hK => ?_) AllReadyH.nil)
          refine step_append_lies _ (by rfl) _ _ _ (by rfl) (w.heap.size + 1 + 1 + 1) 82 i0 (.agg #[.string ⟨#[]⟩, .bool false, .string ⟨#[]⟩, .int .i64 0, .int .i64 0]) 5 56 Tryz.underlying32 hi hz0 hz1 hz2 rfl (by decide) (.slice K k kc) k _ (by rfl) HO.out ⟨q, 0, none⟩ 1 1 [.string KK, .bool O, .string S, .int .i64 L, .int .i64 P] (by rfl) (by rfl) (World.news_of_block (cs := #[.string KK, .bool O, .string S, .int .i64 L, .int .i64 P]) (t := 82) (fr := (0, 0)) hblk) (five_one _ _ _ _ _) (by omega) (by unfold maxLen; omega) (by omega) (by omega) V3.heap.size rfl ?_
          intro g' cap' w3 hown3 hgrow3 hat3 hlt3
          have hbA := own5_apart (q := w.heap.size + 1 + 1) HO.out hgrow3 (by omega) (by omega)
          have HBX := Lib.hid (show LBx 34 (w.heap.size + 1 + 1) F R H (K) k kc w3 from (hgrow3.block (w.heap.size + 1 + 1) (by omega) (fun e => HNE.out _ e.symm rfl)).trans HB.out)
          have HW := Lib.hid (HW.out.trans hbA)
          have hs3 := hgrow3.size
          have hHeld := HSV.out _ HW.out
          refine hK.out _ _ hHeld (fun _ => ?_)
          clear hK hat3 hlt3 hgrow3 hbA
          try simp only [Act.put, List.setIfInBounds_toArray, List.set_cons_zero, List.set_cons_succ]
          refine take_op' (i := 18) (d := some 37) (v := ?_) rfl rfl (by kernel_rfl) (by kernel_rfl) (by kernel_rfl) (fun _ _ _ h => h) (Or.inl ⟨by kernel_rfl, ?_⟩) (by assumption) ?_
          rotate_left
          · intro W hSw; (try dsimp only at hSw); go_simp; (first | done | with_reducible rfl)
          try simp only [Act.put, List.setIfInBounds_toArray, List.set_cons_zero, List.set_cons_succ]
          refine wpAnyH_ready (rs := [19]) (by kernel_rfl) (by simp) (AllReadyH.cons rfl (fun QQ hK => ?_) AllReadyH.nil)
          have E6 := HBX.out.cells.2.2.2
          have F6 := HBX.out.free.2.2.2
          go_simp
          have HWN := Lib.hid (HW.out.setCell (p := ⟨w.heap.size + 1 + 1, 3, none⟩) (Nat.le_refl _) (.slice (some ⟨g', 0, none⟩) (k + 1) cap'))
          have hHeld := HSV.out _ HWN.out
          refine hK.out _ _ hHeld (fun _ => ?_)
          clear hK E6 F6
          try simp only [Act.put, List.setIfInBounds_toArray, List.set_cons_zero, List.set_cons_succ]
          refine wpAnyH_done (by kernel_rfl) ?_ _
          have HON : Hid ((w3.setCell ⟨w.heap.size + 1 + 1, 3, none⟩ (.slice (some ⟨g', 0, none⟩) (k + 1) cap')).ownsRow (w.heap.size + 1 + 1 + 1) 82 5 (.slice (some ⟨g', 0, none⟩) (k + 1) cap') (k + 1) (fives (l.take (k + 1)))) := Lib.hid (own5_set (by rw [HC.out]; exact hown3) (by omega))
          have HBN := Lib.hid (HBX.out.set3 (some ⟨g', 0, none⟩) (k + 1) cap')
          have hszN : w.heap.size + 1 + 1 + 1 ≤ (w3.setCell ⟨w.heap.size + 1 + 1, 3, none⟩ (.slice (some ⟨g', 0, none⟩) (k + 1) cap')).heap.size := by simp; omega
          clear hown3
          go_wp2_with fail
          refine ⟨⟨k + 1, some ⟨g', 0, none⟩, cap', by omega, by simp, HBN, HON, HWN, hszN⟩, ?_⟩
          clear HBN HON HWN hszN HW HO HB HBX hHeld hsz hs3 hq hblk HSV hab2
          (try clear HWs HBs hszs)
          simp only [intOf]
          omega
        · go_simp
          have hb := L5.below_alloc V (.cells #[.string KK, .bool O, .string S, .int .i64 L, .int .i64 P] 82)
          have hblk := heap_alloc_new V (.cells #[.string KK, .bool O, .string S, .int .i64 L, .int .i64 P] 82)
          have hq : (V.alloc (.cells #[.string KK, .bool O, .string S, .int .i64 L, .int .i64 P] 82)).heap.size = V.heap.size + 1 := by simp
          have HB := Lib.hid (HB.out.below hb)
          have HO := Lib.hid (own5_below HO.out hb)
          have HW := Lib.hid (HW.out.trans (hb.mono (by omega)))
          have hs2 := hb.size
          have hsz : w.heap.size + 1 + 1 + 1 ≤ (V.alloc (.cells #[.string KK, .bool O, .string S, .int .i64 L, .int .i64 P] 82)).heap.size := by omega
          have hHeld := HSV.out _ HW.out
          refine hK.out _ _ hHeld (fun _ => ?_)
          clear hK hb hs2
          generalize V.alloc (.cells #[.string KK, .bool O, .string S, .int .i64 L, .int .i64 P] 82) = V3 at *
          generalize V.heap.size = q at *
          try simp only [Act.put, List.setIfInBounds_toArray, List.set_cons_zero, List.set_cons_succ]
          refine wpAnyH_ready (rs := [1]) (by kernel_rfl) (by simp) (AllReadyH.cons rfl (fun QQ hK => ?_) AllReadyH.nil)
          have qq := HB.out.cells.2.2.2
          go_simp
          refine hK.out _ _ hHeld (fun _ => ?_)
          clear qq hK
          try simp only [Act.put, List.setIfInBounds_toArray, List.set_cons_zero, List.set_cons_succ]
          refine wpAnyH_ready (rs := [17]) (by kernel_rfl) (by simp) (AllReadyH.cons rfl (fun QQ hK => ?_) AllReadyH.nil)
          refine step_append_lies _ (by rfl) _ _ _ (by rfl) (w.heap.size + 1 + 1 + 1) 82 i0 (.agg #[.string ⟨#[]⟩, .bool false, .string ⟨#[]⟩, .int .i64 0, .int .i64 0]) 5 56 Tryz.underlying32 hi hz0 hz1 hz2 rfl (by decide) (.slice K k kc) k _ (by rfl) HO.out ⟨q, 0, none⟩ 1 1 [.string KK, .bool O, .string S, .int .i64 L, .int .i64 P] (by rfl) (by rfl) (World.news_of_block (cs := #[.string KK, .bool O, .string S, .int .i64 L, .int .i64 P]) (t := 82) (fr := (0, 0)) hblk) (five_one _ _ _ _ _) (by omega) (by unfold maxLen; omega) (by omega) (by omega) V3.heap.size rfl ?_
          intro g' cap' w3 hown3 hgrow3 hat3 hlt3
          have hbA := own5_apart (q := w.heap.size + 1 + 1) HO.out hgrow3 (by omega) (by omega)
          have HBX := Lib.hid (show LBx 34 (w.heap.size + 1 + 1) F R H (K) k kc w3 from (hgrow3.block (w.heap.size + 1 + 1) (by omega) (fun e => HNE.out _ e.symm rfl)).trans HB.out)
          have HW := Lib.hid (HW.out.trans hbA)
          have hs3 := hgrow3.size
          have hHeld := HSV.out _ HW.out
          refine hK.out _ _ hHeld (fun _ => ?_)
          clear hK hat3 hlt3 hgrow3 hbA
          try simp only [Act.put, List.setIfInBounds_toArray, List.set_cons_zero, List.set_cons_succ]
          refine take_op' (i := 18) (d := some 37) (v := ?_) rfl rfl (by kernel_rfl) (by kernel_rfl) (by kernel_rfl) (fun _ _ _ h => h) (Or.inl ⟨by kernel_rfl, ?_⟩) (by assumption) ?_
          rotate_left
          · intro W hSw; (try dsimp only at hSw); go_simp; (first | done | with_reducible rfl)
          try simp only [Act.put, List.setIfInBounds_toArray, List.set_cons_zero, List.set_cons_succ]
          refine wpAnyH_ready (rs := [19]) (by kernel_rfl) (by simp) (AllReadyH.cons rfl (fun QQ hK => ?_) AllReadyH.nil)
          have E6 := HBX.out.cells.2.2.2
          have F6 := HBX.out.free.2.2.2
          go_simp
          have HWN := Lib.hid (HW.out.setCell (p := ⟨w.heap.size + 1 + 1, 3, none⟩) (Nat.le_refl _) (.slice (some ⟨g', 0, none⟩) (k + 1) cap'))
          have hHeld := HSV.out _ HWN.out
          refine hK.out _ _ hHeld (fun _ => ?_)
          clear hK E6 F6
          try simp only [Act.put, List.setIfInBounds_toArray, List.set_cons_zero, List.set_cons_succ]
          refine wpAnyH_done (by kernel_rfl) ?_ _
          have HON : Hid ((w3.setCell ⟨w.heap.size + 1 + 1, 3, none⟩ (.slice (some ⟨g', 0, none⟩) (k + 1) cap')).ownsRow (w.heap.size + 1 + 1 + 1) 82 5 (.slice (some ⟨g', 0, none⟩) (k + 1) cap') (k + 1) (fives (l.take (k + 1)))) := Lib.hid (own5_set (by rw [HC.out]; exact hown3) (by omega))
          have HBN := Lib.hid (HBX.out.set3 (some ⟨g', 0, none⟩) (k + 1) cap')
          have hszN : w.heap.size + 1 + 1 + 1 ≤ (w3.setCell ⟨w.heap.size + 1 + 1, 3, none⟩ (.slice (some ⟨g', 0, none⟩) (k + 1) cap')).heap.size := by simp; omega
          clear hown3
          go_wp2_with fail
          refine ⟨⟨k + 1, some ⟨g', 0, none⟩, cap', by omega, by simp, HBN, HON, HWN, hszN⟩, ?_⟩
          clear HBN HON HWN hszN HW HO HB HBX hHeld hsz hs3 hq hblk HSV hab2
          (try clear HWs HBs hszs)
          simp only [intOf]
          omega
    · have HLN : Hid (l.take k = l) := Lib.hid (List.take_of_length_le (by have := HN.out; omega))
      have HKN : Hid (k = (l).length) := Lib.hid (by have := HN.out; omega)
      have HLI : Hid (Lies5 wr wr.heap.size K (l)) := Lib.hid (by
        have h := HO.out
        rw [HLN.out] at h
        exact lies5_own h HKN.out)
      have HKB := Lib.hid (H2.out.on HW.out (by omega))
      have HBW := Lib.hid (HZ.out.trans (HW.out.mono (by omega)))
      have HKL : Hid (∀ a, K = some a → a.block ≠ w.heap.size + 1) := Lib.hid (fun a h => by
        subst h
        rcases HO.out.2 with ⟨h', _⟩ | ⟨g, cap, cur, h', hg, _⟩
        · simp at h'
        · simp only [Value.slice.injEq, Option.some.injEq] at h'
          rw [h'.1]
          show g ≠ _
          omega)
      obtain ⟨y0, y1, y2, y3⟩ := HKB.out.cells
      obtain ⟨f0, f1, f2, f3⟩ := HKB.out.free
      have hlt' : ¬ (k : Int) < n := by omega
      clear hk
      go_wp2_with fail
      obtain ⟨r0, r1, r2, r3⟩ := (setL_box HKB.out F R H K k kc).cells
      unfold setL at r0 r1 r2 r3
      refine bodyPost_ret (v := lv F R H K k kc) (by simp [results, Tryz.results12, go_sem, r0, r1, r2, r3]) rfl ?_
      have hlies : Lies5 (setL wr (w.heap.size + 1) F R H K k kc) (setL wr (w.heap.size + 1) F R H K k kc).heap.size K (l) := by
        rw [setL_size]
        exact setL_lies HLI.out HKL.out F R H K k kc
      first | exact ⟨K, kc, by rw [HKN.out], hlies, setL_below (g := w.heap.size + 1) HBW.out (by omega) F R H K k kc⟩ | exact ⟨K, ⟨kc, by rw [HKN.out, ← HN.out]⟩, hlies, setL_below (g := w.heap.size + 1) HBW.out (by omega) F R H K k kc⟩


end Go.Proofs.YtpehkikdmckldaaGreatDoor

namespace Go.Proofs.YtpehkikdmckldaaGreatDoor
open Go.RowKit NP
set_option linter.unusedVariables false
set_option linter.unusedSimpArgs false

/-- What the laws' own fixed answers (NFixed proves it: fixed_any). -/
def Fixes : Prop := ∀ W : World, Glo W → Calls Tryz.prog 24 #[] W fun e w' => e = .returned (.bool true) ∧ Below W.heap.size W w'
theorem cut_1100 (s : ByteArray) : ∃ m : Nat, min (s.size : Int) 1100 = m ∧ m ≤ 1100 ∧ m ≤ s.size := ⟨min s.size 1100, by omega, by omega, by omega⟩
/-- A contract, at arguments that are its own: where they are not, no more than they is laid open. -/
theorem fit {f : FuncId} {a b : Array Value} {W : World} {Q : Ending → World → Prop} (h : Calls Tryz.prog f a W Q) (e : b = a) : Calls Tryz.prog f b W Q := e ▸ h
/-- A leaf in a box, and its row. -/
structure LR (t : TypeId) (b : Nat) (F R : Int) (H : ByteArray) (A : Option Addr) (n ca : Nat) (l : List It) (W : World) : Prop where
  box : LBx t b F R H A n ca W
  row : Lies5 W W.heap.size A l
theorem LR.on {t : TypeId} {b : Nat} {F R : Int} {H : ByteArray} {A : Option Addr} {n ca : Nat} {l : List It} {W W' : World} (h : LR t b F R H A n ca l W) (k : Below W.heap.size W W') : LR t b F R H A n ca l W' := ⟨h.box.below k, h.row.on k⟩
/-- A leaf that a call told is laid into a box of its own. -/
theorem LR.new {t : TypeId} {F R : Int} {H : ByteArray} {A : Option Addr} {n ca : Nat} {l : List It} {W : World} (h : Lies5 W W.heap.size A l) : LR t W.heap.size F R H A n ca l (lbox t F R H A n ca W) := ⟨lbox_new _ _ _ _ _ _ _ _, h.on (lbox_below _ _ _ _ _ _ _ _)⟩
theorem LBx.set1 {t : TypeId} {w : World} {g : Nat} {F R : Int} {H : ByteArray} {A : Option Addr} {n ca : Nat} (k : LBx t g F R H A n ca w) (R' : Int) : LBx t g F R' H A n ca (w.setCell ⟨g, 1, none⟩ (.int .i64 R')) := by
  unfold LBx at *
  exact heap_setCell_same w g 1 _ _ (.int .i64 R') k
theorem LBx.set2 {t : TypeId} {w : World} {g : Nat} {F R : Int} {H : ByteArray} {A : Option Addr} {n ca : Nat} (k : LBx t g F R H A n ca w) (H' : ByteArray) : LBx t g F R H' A n ca (w.setCell ⟨g, 2, none⟩ (.string H')) := by
  unfold LBx at *
  exact heap_setCell_same w g 2 _ _ (.string H') k
theorem LBx.other {t : TypeId} {w : World} {g q o : Nat} {F R : Int} {H : ByteArray} {A : Option Addr} {n ca : Nat} (k : LBx t g F R H A n ca w) (hq : g ≠ q) (v : Value) : LBx t g F R H A n ca (w.setCell ⟨q, o, none⟩ v) := by
  unfold LBx at *
  rw [Below.heap_setCell w ⟨q, o, none⟩ v g hq]
  exact k
theorem Lies5.other {w : World} {B q o : Nat} {A : Option Addr} {l : List It} (h : Lies5 w B A l) (hx : ∀ a, A = some a → a.block ≠ q) (v : Value) : Lies5 (w.setCell ⟨q, o, none⟩ v) B A l := fun i c hc => by
  obtain ⟨a, e, hb, hk⟩ := h i c hc
  refine ⟨a, e, hb, fun j u hu => ?_⟩
  have hh := Below.heap_setCell w ⟨q, o, none⟩ v ((a.add (i * 5)).add j).block (by rw [L5.addr_block, L5.addr_block]; exact hx a e)
  have h2 := hk j u hu
  unfold World.cell? at *
  rw [hh]
  exact h2
end Go.Proofs.YtpehkikdmckldaaGreatDoor

namespace Go.Proofs.YtpehkikdmckldaaGreatDoor
open Go.RowKit NP
set_option linter.unusedVariables false
set_option linter.unusedSimpArgs false

/-- Encode of a leaf whose page is known. -/
theorem encT (F R : Int) (H : ByteArray) (A : Option Addr) (l : List It) (n ca : Nat) (p : Int) (S : ByteArray) (c : Int) (hn : l.length = n) (h : enc ⟨F, R, H, l⟩ p = (S, c)) (hl : n ≤ 1000) (hh : H.size ≤ maxLen) (W : World) (hg : Glo W) (ha : Lies5 W W.heap.size A l) :
    Calls Tryz.prog 10 #[lv F R H A n ca, .int .i64 p] W fun e w' => e = .returned (.tuple #[.string S, .int .i64 c]) ∧ Below W.heap.size W w' := by
  subst hn
  refine (enc_any F R H A l ca p W hg.sizes ha hl hh).mono fun e w' ⟨h1, h2⟩ => ⟨?_, h2⟩
  rw [h1, encV, h]
/-- Decode of a text that is known. -/
theorem decT (s : ByteArray) (F R : Int) (H : ByteArray) (l : List It) (n : Nat) (hn : l.length = n) (h : dec s = some ⟨F, R, H, l⟩) (W : World) (hg : Glo W) (hs : s.size ≤ 1000000) :
    Calls Tryz.prog 13 #[.string s] W fun e w' => ∃ G, e = .returned (.tuple #[lv F R H G n n, .int .i64 0]) ∧ Lies5 w' w'.heap.size G l ∧ Below W.heap.size W w' := by
  subst hn
  refine (dec_any s W hg hs).mono fun e w' ⟨h1, h2⟩ => ?_
  rcases h1 with ⟨m, G, hm, rfl, hL⟩ | ⟨h1, _⟩
  · rw [h] at hm
    obtain rfl := Option.some.inj hm
    exact ⟨G, rfl, hL, h2⟩
  · rw [h] at h1
    exact nomatch h1
theorem decN (s : ByteArray) (h : dec s = none) (W : World) (hg : Glo W) (hs : s.size ≤ 1000000) :
    Calls Tryz.prog 13 #[.string s] W fun e w' => e = .returned (.tuple #[lv 0 0 ⟨#[]⟩ none 0 0, .int .i64 3]) ∧ Below W.heap.size W w' := by
  refine (dec_any s W hg hs).mono fun e w' ⟨h1, h2⟩ => ?_
  rcases h1 with ⟨m, G, hm, _⟩ | ⟨_, rfl⟩
  · rw [h] at hm
    exact nomatch hm
  · exact ⟨rfl, h2⟩
theorem dec_facts {s : ByteArray} {l : Lf} (h : dec s = some l) : enc l s.size = (s, 0) ∧ May l s.size ∧ l.items.length ≤ 503 ∧ l.high.size ≤ 200 ∧ s.size ≤ 1024 := by
  have he := (dec_iff s l).1 h
  obtain ⟨h1, h2, h3⟩ := enc_ok he
  obtain ⟨-, h4⟩ := h1.fits h2
  have hp := mayBe_le h1.1
  refine ⟨he, h1, h4, ?_, by omega⟩
  have h5 := h1.2.2.1
  by_cases h0 : l.right = 0
  · rw [h5.1 h0]; omega
  · have := (h5.2 h0).2.1; omega
theorem enc0_facts {l : Lf} {p : Int} {S : ByteArray} (h : enc l p = (S, 0)) : May l p ∧ (size l : Int) ≤ p - 16 ∧ (S.size : Int) = p ∧ dec S = some l := by
  obtain ⟨h1, h2, h3⟩ := enc_ok h
  have hp := mayBe_le h1.1
  have h4 : (S.size : Int) = p := by
    rw [h3, enc_size h1 h2]
    omega
  exact ⟨h1, h2, h4, (dec_iff S l).2 (by rw [h4]; exact h)⟩
end Go.Proofs.YtpehkikdmckldaaGreatDoor
