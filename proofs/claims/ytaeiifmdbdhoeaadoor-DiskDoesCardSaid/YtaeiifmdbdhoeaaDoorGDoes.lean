/-
  The walk of DiskDoes.
-/
import Derived.Test.YtaeiifmdbdhoeaaDoorDo2
import Derived.Test.YtaeiifmdbdhoeaaDoorFrameE
namespace Go.Proofs.YtaeiifmdbdhoeaaDoor
open Go.RowKit
open Go.ChangeShapes
open DP (W D C)
set_option linter.unusedVariables false
set_option linter.unusedSimpArgs false

theorem LiesO.below {w w' : World} {b : Nat} {A : Option Addr} {l : List Op1} (h : LiesO w b A l) (k : Below b w w') {i : Nat} {o : Op1} (hi : l[i]? = some o) : ∃ a, A = some a ∧ a.block < b ∧ (w'.cell? (a.add (i * 5)) = some (.int .i64 o.k) ∧ w'.cell? ⟨(a.add (i * 5)).block, (a.add (i * 5)).off + 1, none⟩ = some (.int .i64 o.i) ∧ w'.cell? ⟨(a.add (i * 5)).block, (a.add (i * 5)).off + 2, none⟩ = some (.int .u8 o.x.toNat) ∧ w'.cell? ⟨(a.add (i * 5)).block, (a.add (i * 5)).off + 3, none⟩ = some (.bool o.odd) ∧ w'.cell? ⟨(a.add (i * 5)).block, (a.add (i * 5)).off + 4, none⟩ = some (.slice o.A o.cs.length o.ca)) ∧ o.Ok w := by
  obtain ⟨a, e, hb, hc, ho⟩ := h i o hi
  have hblk : ∀ j, ((a.add (i * 5)).add j).block < b := fun j => by rw [addr_block, addr_block]; exact hb
  have h0 := (k.cell (hblk 0)).trans (hc 0 _ rfl)
  have h1 := (k.cell (hblk 1)).trans (hc 1 _ rfl)
  have h2 := (k.cell (hblk 2)).trans (hc 2 _ rfl)
  have h3 := (k.cell (hblk 3)).trans (hc 3 _ rfl)
  have h4 := (k.cell (hblk 4)).trans (hc 4 _ rfl)
  rw [addr_zero] at h0
  rw [addr_pos] at h1 h2 h3 h4
  exact ⟨a, e, hb, ⟨h0, h1, h2, h3, h4⟩, ho⟩
theorem Has.lower {W : World} {n n' : Nat} {F : Nat → Prop} {c : Nat} {e : D} (h : Has W n F c e) (hn : n' ≤ n) : Has W n' F c e := by
  obtain ⟨K, P, kc, pc, h6, hK, hP, fK, fP⟩ := h.parts
  exact ⟨⟨K, P, kc, pc, h6, own_weaker hK hn, own_weaker hP hn, fK, fP⟩, h.mine, fun k hk => Nat.le_trans hn (h.low k hk), h.high, h.ok, h.small⟩

set_option maxHeartbeats 6000000 in
set_option maxRecDepth 100000 in
theorem diskDoes_walk (p0 room0 : Int) (S : ByteArray) (A : Option Addr) (l : List Op1) (ca : Nat) (w : World) (hz : Sizes w) (hp0 : (Lit.int .i64 p0).wf = true) (hr0 : (Lit.int .i64 room0).wf = true) (hS : S.size ≤ maxLen) (hl : LiesO w w.heap.size A l) (hlm : l.length ≤ maxLen) :
    Calls Tryd.prog 3 #[.int .i64 p0, .int .i64 room0, .agg #[.string S, .slice A l.length ca]] w fun e w' => e = .returned (.bool true) ∧ Below w.heap.size w w' := by
  have hg0 := hz.lt
  have HZ : Hid (∀ W, Below w.heap.size w W → Sizes W) := Lib.hid (fun W hW => hz.below hg0 hW)
  have HFIX : Hid (∀ W, Below w.heap.size w W → Calls Tryd.prog 13 #[] W fun e w' => e = .returned (.bool true) ∧ Below W.heap.size W w') := Lib.hid (fun W hW => fixed_any W (hz.below hg0 hW) (Nat.lt_of_lt_of_le hg0 hW.size))
  have HN : Hid (w.heap.size ≤ w.heap.size) := Lib.hid (Nat.le_refl _)
  have HL := Lib.hid hl
  unfold maxLen at hlm hS
  have hpb := bounds_i64 hp0
  have hrb := bounds_i64 hr0
  obtain ⟨n, hn⟩ : ∃ n, n = l.length := ⟨_, rfl⟩
  have HLN := Lib.hid hn
  rw [← hn] at hlm ⊢
  -- the box of the life
  have hbx := heap_alloc_new w (.cells #[.string S, .slice A n ca] 24)
  have hb0 := below_alloc w (.cells #[.string S, .slice A n ca] 24)
  generalize hw0 : w.alloc (.cells #[.string S, .slice A n ca] 24) = W0 at *
  obtain ⟨g, hg⟩ : ∃ g, w.heap.size = g := ⟨_, rfl⟩
  have HGW := Lib.hid hg
  rw [hg] at hbx
  obtain ⟨x0, x1⟩ := pair_cells hbx
  have HBX := Lib.hid hbx
  have HB0 := Lib.hid hb0
  obtain ⟨R, hR⟩ : ∃ R, min room0 20 = R := ⟨_, rfl⟩
  obtain ⟨m, hm⟩ : ∃ m, m = min S.size 1000 := ⟨_, rfl⟩
  have hms : min (S.size : Int) 1000 = (m : Int) := by omega
  have hm0 : (0 : Int) ≤ (m : Int) := by omega
  have hmS : (m : Int) ≤ (S.size : Int) := by omega
  obtain ⟨s, hs⟩ : ∃ s, s = S.extract 0 m := ⟨_, rfl⟩
  have HSS : Hid (s.size ≤ 1000) := Lib.hid (by rw [hs, ByteArray.size_extract]; omega)
  have HSE := Lib.hid hs
  have hRb : R ≤ 20 := by omega
  have HZ0 := Lib.hid (HZ.out W0 hb0)
  clear hz hl hn hbx hb0 hg0 hp0 hr0 hs hm
  by_cases hbad : newBad p0 R
  · have HF1 := Lib.hid (from_bad p0 R (S.extract 0 m) W0 HZ0.out hbad)
    have HF2 := Lib.hid (fromRef_bad p0 R (S.extract 0 m) W0 hbad)
    have HS1 := Lib.hid (size_any p0 W0 HZ0.out)
    have HS2 := Lib.hid (sizeRef_any p0 W0)
    rw [show decide (p0 = 128 ∨ p0 = 256 ∨ p0 = 512 ∨ p0 = 1024) = mayBe p0 from rfl] at HS2
    have HFX0 := Lib.hid (HFIX.out W0 HB0.out)
    generalize mayBe p0 = mb at *
    clear hbad
    go_enter Tryd.func3, Tryd.ntmps3
    go_wp2_with fail
    refine HF1.out.mono ?_
    rintro e w1 ⟨rfl, rfl⟩
    go_wp2_with fail
    refine HF2.out.mono ?_
    rintro e w1 ⟨rfl, rfl⟩
    go_wp2_with fail
    refine HS1.out.mono ?_
    rintro e w1 ⟨rfl, rfl⟩
    go_wp2_with fail
    refine HS2.out.mono ?_
    rintro e w1 ⟨rfl, rfl⟩
    go_wp2_with fail
    refine HFX0.out.mono ?_
    rintro e w1 ⟨rfl, hb1⟩
    have HB1 := Lib.hid (HB0.out.trans' hb1)
    clear hb1
    go_wp2_with fail
    go_ret
    exact ⟨rfl, HB1.out⟩
  have hgood : mayBe p0 = true ∧ 1 ≤ R := by
    unfold newBad at hbad
    refine ⟨?_, ?_⟩
    · cases hmm : mayBe p0 with
      | true => rfl
      | false => exact absurd (.inl hmm) hbad
    · exact Int.not_lt.1 fun h => hbad (.inr (.inl (by omega)))
  obtain ⟨hmay, hR1⟩ := hgood
  have hpp : p0 = 128 ∨ p0 = 256 ∨ p0 = 512 ∨ p0 = 1024 := by
    unfold mayBe at hmay
    exact of_decide_eq_true hmay
  obtain ⟨p, rfl⟩ := Int.eq_ofNat_of_zero_le (show 0 ≤ p0 by omega)
  obtain ⟨room, rfl⟩ := Int.eq_ofNat_of_zero_le (show 0 ≤ R by omega)
  have HMAY := Lib.hid hmay
  have HR12 : Hid (0 < room ∧ room ≤ 20) := Lib.hid (by omega)
  have HPP : Hid (0 < p ∧ p ≤ 1024) := Lib.hid (by omega)
  have HRM := Lib.hid hR
  have HS1 := Lib.hid (fun W hW => size_any (p : Int) W hW)
  have HS2 := Lib.hid (fun W => sizeRef_any (p : Int) W)
  rw [show decide ((p : Int) = 128 ∨ (p : Int) = 256 ∨ (p : Int) = 512 ∨ (p : Int) = 1024) = true from hmay] at HS2
  rw [hmay] at HS1
  by_cases hfull : room * p < s.size
  · have HF1 := Lib.hid (from_full p room s W0 HZ0.out HMAY.out HR12.out.1 (by have := HR12.out; omega) hfull (by have := HSS.out; unfold maxLen; omega))
    have HF2 := Lib.hid (fun W => fromRef_full p room s W HMAY.out HR12.out.1 (by have := HR12.out; omega) hfull (by have := HSS.out; unfold maxLen; omega))
    rw [HSE.out] at HF1 HF2
    clear hbad hmay hpp hfull
    go_enter Tryd.func3, Tryd.ntmps3
    go_wp2_with fail
    refine HF1.out.mono ?_
    rintro e w1 ⟨rfl, hb1⟩
    have HB1 := Lib.hid (HB0.out.trans' hb1)
    clear hb1
    go_wp2_with fail
    refine (HF2.out _).mono ?_
    rintro e w' ⟨rfl, rfl⟩
    go_wp2_with fail
    refine (HS1.out _ (HZ.out _ HB1.out)).mono ?_
    rintro e w' ⟨rfl, rfl⟩
    go_wp2_with fail
    refine (HS2.out _).mono ?_
    rintro e w' ⟨rfl, rfl⟩
    go_wp2_with fail
    refine (HFIX.out _ HB1.out).mono ?_
    rintro e w2 ⟨rfl, hb2⟩
    have HB2 := Lib.hid (HB1.out.trans' hb2)
    clear hb2
    go_wp2_with fail
    go_ret
    exact ⟨rfl, HB2.out⟩
  · have HF1 := Lib.hid (from_good p room s W0 HZ0.out HMAY.out HR12.out.1 (by have := HR12.out; omega) (Nat.le_of_not_lt hfull))
    have HF2 := Lib.hid (fun W => fromRef_at p room s W HMAY.out HR12.out.1 (by have := HR12.out; omega) (Nat.le_of_not_lt hfull))
    rw [HSE.out] at HF1 HF2
    have HMADE : Hid ((DP.made p room (S.extract 0 m)).q = [] ∧ (DP.made p room (S.extract 0 m)).reads = 0 ∧ (DP.made p room (S.extract 0 m)).p = p ∧ (DP.made p room (S.extract 0 m)).room = room) := Lib.hid ⟨rfl, rfl, rfl, rfl⟩
    generalize DP.made p room (S.extract 0 m) = d0 at *
    have HSZ : Hid (w.heap.size ≤ W0.heap.size) := Lib.hid HB0.out.size
    clear hbad hmay hpp hfull HSE HSS
    go_enter Tryd.func3, Tryd.ntmps3
    go_wp2_with fail
    refine HF1.out.mono ?_
    rintro e w1 ⟨b, rfl, hh1, hlo1, hb1⟩
    have HH1 := Lib.hid hh1
    have HLO1 := Lib.hid (Nat.le_trans HSZ.out hlo1)
    have HB1 := Lib.hid (HB0.out.trans' hb1)
    have HX1 := Lib.hid ((hb1.block g (Array.getElem?_eq_some_iff.1 HBX.out).1).trans HBX.out)
    clear hh1 hlo1 hb1
    go_wp2_with fail
    refine (HF2.out _).mono ?_
    rintro e w2 ⟨F, c, rfl, hh2, hb2⟩
    have HP2 : Hid (PD w.heap.size w w2 b d0 c d0) := Lib.hid (pd_mk (F := F) ((HasX.wide (Fc := F) HH1.out (fun j hj hf => by have := hh2.low j hf; omega)).below hb2) (hh2.lower HB1.out.size) HLO1.out (HB1.out.trans (hb2.mono HB1.out.size)))
    have HX2 := Lib.hid ((hb2.block g (Array.getElem?_eq_some_iff.1 HX1.out).1).trans HX1.out)
    clear hh2 hb2 HH1 HX1 HB1
    go_wp2_with fail
    refine (HS1.out _ (HZ.out _ HP2.out.bel)).mono ?_
    rintro e w' ⟨rfl, rfl⟩
    go_wp2_with fail
    refine (HS2.out _).mono ?_
    rintro e w' ⟨rfl, rfl⟩
    obtain ⟨u0, u1⟩ := pair_cells HX2.out
    clear x0 x1
    go_wp2_with fail
    go_loopw [12] (fun iv wr => ∃ (k : Nat) (d : D), k ≤ min n 60 ∧ iv = .int .i64 k ∧ Hid (PD w.heap.size w wr b d c d) ∧ Hid (wr.heap[g]? = some (.cells #[.string S, .slice A n ca] 24 (0, 0))) ∧ Hid (d.p = p ∧ d.room = room ∧ d.q.length ≤ k ∧ d.reads ≤ k)) (fun iv _ => 60 - (intOf iv).toNat)
    case atStart => exact ⟨0, d0, by omega, rfl, HP2, HX2, Lib.hid ⟨HMADE.out.2.2.1, HMADE.out.2.2.2, by rw [HMADE.out.1]; exact Nat.le_refl _, by rw [HMADE.out.2.1]; exact Nat.le_refl _⟩⟩
    case round =>
      clear HP2 HX2 u0 u1
      obtain ⟨k, d, hk, rfl, HP, HX, HD⟩ := hrel
      obtain ⟨u0, u1⟩ := pair_cells HX.out
      by_cases hlt : k < min n 60
      · obtain ⟨o, ho⟩ : ∃ o, l[k]? = some o := ⟨_, List.getElem?_eq_getElem (by have := HLN.out; omega)⟩
        have HLB : Hid (∀ V, Below w.heap.size w V → _) := Lib.hid (fun V hV => HL.out.below hV ho)
        obtain ⟨a, rfl, hab, ⟨v0, v1, v2, v3, v4⟩, hok⟩ := HLB.out wr HP.out.bel
        have HOK := Lib.hid hok
        have d1 : decide ((k : Int) < (n : Int)) = true := decide_eq_true (by omega)
        have d1n : decide (k < n) = true := decide_eq_true (by omega)
        have d2 : decide ((k : Int) < 60) = true := decide_eq_true (by omega)
        have d2n : decide (k < 60) = true := decide_eq_true (by omega)
        have hk0 : (0 : Int) ≤ k := by omega
        have hkn : (k : Int) < n := by omega
        obtain ⟨K, I, x, odd, oA, cs, oca⟩ := o
        simp only at v0 v1 v2 v3 v4
        have HPd := Lib.hid (HP.out.below HN.out (below_drewN (Below.refl _ wr) 1))
        have HDO := Lib.hid (do_any w (wr.drewN 1) b c d K I x odd oA cs oca HPd.out (by have := HD.out; omega) (by have := HD.out; omega) HOK.out.wk HOK.out.wi HOK.out.lies HOK.out.room HOK.out.none_ HOK.out.few)
        clear ho hok hab HLB
        go_wp2_with fail
        go_region_with (first
          | (go_at_call 14; refine (HDO.out).mono ?_; rintro e V5 ⟨rfl, d', hp5, hd1, hd2, hd3, hd4, hk5⟩;
             have HP5 := Lib.hid hp5;
             have HX5 := Lib.hid ((hk5 g _ _ _ (by decide) HX.out).trans HX.out);
             have HD5 : Hid (d'.p = p ∧ d'.room = room ∧ d'.q.length ≤ k + 1 ∧ d'.reads ≤ k + 1) := Lib.hid (by have := HD.out; omega);
             clear hp5 hd1 hd2 hd3 hd4 hk5)
          | (go_at_call 15; refine (at_len HP5.out.at_ _ rfl).mono ?_; rintro e V6 ⟨rfl, rfl⟩)
          | (go_at_call 16; refine (pd_dlen HP5.out HN.out (by have := HD5.out; omega)).mono ?_; rintro e V7 ⟨rfl, hp7, hb7⟩;
             have HP7 := Lib.hid hp7;
             have HX7 := Lib.hid ((hb7.block g (Array.getElem?_eq_some_iff.1 HX5.out).1).trans HX5.out);
             have y7 := HP7.out.cells.2; clear hp7 hb7)
          | (go_at_call 17; refine (at_reads HP7.out.at_ _ rfl).mono ?_; rintro e V8 ⟨rfl, rfl⟩)
          | fail "no arm")
        all_goals
          clear y7 u0 u1 v0 v1 v2 v3 v4
          go_wp2_with fail
          go_roundw
          case rel => exact ⟨k + 1, d', by omega, by first | rfl | simp, HP7, HX7, HD5⟩
          case measure => simp [intOf]; omega
      · have hkcase : (decide ((k : Int) < (n : Int)) = false ∧ decide (k < n) = false) ∨ (decide ((k : Int) < (n : Int)) = true ∧ decide (k < n) = true) ∧ decide ((k : Int) < 60) = false ∧ decide (k < 60) = false := by
          by_cases h : k < n
          · exact .inr ⟨⟨decide_eq_true (by omega), decide_eq_true h⟩, decide_eq_false (by omega), decide_eq_false (by omega)⟩
          · exact .inl ⟨decide_eq_false (by omega), decide_eq_false h⟩
        have HQ5 : Hid (d.q.length ≤ 5000) := Lib.hid (by have := HD.out; omega)
        have HAL : Hid (d.all.length ≤ 20) := Lib.hid (by have h1 := HP.out.at_.has.ok.len; have h2 := HD.out; have h3 := HR12.out; rw [d.all_length]; omega)
        clear hlt hk
        rcases hkcase with ⟨e1, e2⟩ | ⟨⟨e1, e2⟩, e3, e4⟩
        all_goals
          go_wp2_with fail
          refine (all_any b d wr HP.out.at_.has).mono ?_
          rintro e w5 ⟨g5, rfl, ho5, hb5⟩
          have HO5 := Lib.hid ho5
          have HP5 := Lib.hid (HP.out.below HN.out hb5)
          clear ho5 hb5 u0 u1
          go_wp2_with fail
          refine (pd_dall HP5.out HN.out HQ5.out).mono ?_
          rintro e w6 ⟨g6, cap6, rfl, ho6, hp6, hb6⟩
          have HL6 := Lib.hid (own_lies ho6)
          have HO6 := Lib.hid (own_lies (own_below HO5.out hb6))
          have HP6 := Lib.hid hp6
          clear ho6 hp6 hb6
          go_wp2_with fail
          refine (words_any _ _ d.all d.all d.all.length cap6 w6 HO6.out HL6.out (by have := HAL.out; omega) rfl).mono ?_
          rintro e w7 ⟨rfl, hb7⟩
          have HP7 := Lib.hid (HP6.out.below HN.out hb7)
          clear hb7
          go_wp2_with fail
          refine (at_page HP7.out.at_ (p : Int) (by rw [HD.out.1])).mono ?_
          rintro e w' ⟨rfl, rfl⟩
          go_wp2_with fail
          refine (at_room HP7.out.at_ (room : Int) (by rw [HD.out.2.1])).mono ?_
          rintro e w' ⟨rfl, rfl⟩
          go_wp2_with fail
          refine (HFIX.out _ HP7.out.bel).mono ?_
          rintro e w8 ⟨rfl, hb8⟩
          have HP8 := Lib.hid (HP7.out.below HN.out hb8)
          clear hb8
          go_wp2_with fail
          go_ret
          exact ⟨rfl, HP8.out.bel⟩
end Go.Proofs.YtaeiifmdbdhoeaaDoor
