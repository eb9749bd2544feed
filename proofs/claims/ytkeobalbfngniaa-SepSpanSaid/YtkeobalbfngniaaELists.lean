/-
  The walk of the law SepStrip.
-/
import Derived.Test.YtkeobalbfngniaaELaws
namespace Go.Proofs.Ytkeobalbfngniaa
open Go.RowKit
set_option linter.unusedVariables false
set_option linter.unusedSimpArgs false

theorem addr_pos (a : Addr) (j : Nat) : a.add (j + 1) = ⟨a.block, a.off + (j + 1), none⟩ := by simp [Addr.add]
theorem addr_at (b j : Nat) : (⟨b, 0, none⟩ : Addr).add j = ⟨b, j, none⟩ := by
  unfold Addr.add
  split <;> simp_all
theorem tFixed : Tells 20 #[] (.bool true) := fixed_any
theorem back_whole (l : List ByteArray) (s : ByteArray) (h : s ∈ l) : headS l ++ bare (sp l) s = s := by
  cases l with
  | nil => simp at h
  | cons t r =>
    refine b_inj ?_
    have h1 : B (headS (t :: r)) = (B s).take (sp (t :: r)) := by
      rw [headS, b_head]
      exact EP.span_take _ _ _ (bs_mem (by simp)) (bs_mem h)
    rw [show B (headS (t :: r) ++ bare (sp (t :: r)) s) = B (headS (t :: r)) ++ B (bare (sp (t :: r)) s) by simp [B], h1, b_bare, List.take_append_drop]
theorem bare_less (l : List ByteArray) (s t : ByteArray) (hs : s ∈ l) (ht : t ∈ l) : (B (bare (sp l) s) < B (bare (sp l) t)) ↔ (B s < B t) := by
  have h1 : (B s).take (sp l) = (B t).take (sp l) := EP.span_take (Bs l) (B s) (B t) (bs_mem hs) (bs_mem ht)
  have h2 := EP.less_same ((B s).take (sp l)) ((B s).drop (sp l)) ((B t).drop (sp l))
  rw [List.take_append_drop, h1, List.take_append_drop] at h2
  rw [b_bare, b_bare]
  exact h2.symm
theorem bs_bares (l : List ByteArray) : Bs (bares l) = (Bs l).map (List.drop (sp l)) := by
  simp only [Bs, bares, List.map_map]
  exact List.map_congr_left fun s _ => b_bare _ s
theorem sp_bares (l : List ByteArray) : sp (bares l) = 0 := by rw [sp, bs_bares]; exact EP.span_bare (Bs l)
theorem bares_get {l : List ByteArray} {k : Nat} {s : ByteArray} (h : l[k]? = some s) : (bares l)[k]? = some (bare (sp l) s) := by simp [bares, h]
theorem bares_size (l : List ByteArray) (n : Nat) (h : ∀ s ∈ l, s.size ≤ n) : ∀ s ∈ bares l, s.size ≤ n := fun s hs => by
  obtain ⟨t, ht, rfl⟩ := List.mem_map.1 hs
  have := h t ht
  simp [bare]; omega
theorem headS_size (l : List ByteArray) : (headS l).size = sp l := by
  cases l with
  | nil => rfl
  | cons t r =>
    have := sp_le (t :: r) t (by simp)
    simp [headS]; omega

set_option maxHeartbeats 1000000 in
set_option maxRecDepth 100000 in
theorem sepStrip_walk (A : Option Addr) (l0 : List ByteArray) (ca : Nat) (w : World) (ha : Lies w w.heap.size A l0) (hs0 : ∀ s ∈ l0, s.size ≤ maxLen) (hl0 : l0.length ≤ maxLen) :
    Calls Try.prog 6 #[.slice A l0.length ca] w fun e w' => e = .returned (.bool true) ∧ Below w.heap.size w w' := by
  have HCUT := Lib.hid (cut_any A l0 ca w ha hl0 hs0)
  have HLEN := Lib.hid (cutL_length l0)
  have HSZ := Lib.hid (cutL_size l0)
  generalize cutL l0 = l at *
  clear ha hs0 hl0
  go_enter Try.func6, Try.ntmps6
  go_wp2_with fail
  refine HCUT.out.mono ?_
  rintro e w1 ⟨g, cap, rfl, hcap, hL, hb1⟩
  have hl : l.length ≤ 1000 := by have := HLEN.out; omega
  have hs : ∀ s ∈ l, s.size ≤ 1000 := fun s h => by have := HSZ.out s h; omega
  have HSTRIP := Lib.hid (strip_any (some ⟨g, 0, none⟩) l cap w1 hL hl hs hcap)
  have HSPAN := Lib.hid (fun W (h : Lies W W.heap.size (some ⟨g, 0, none⟩) l) => span_any (some ⟨g, 0, none⟩) l cap W h hl hs hcap)
  have HBARE : Hid (∀ G c W, Lies W W.heap.size G (bares l) → l.length ≤ c → Calls Try.prog 16 #[.slice G l.length c] W fun e w' => e = .returned (.int .i64 (0 : Nat)) ∧ Below W.heap.size W w') := Lib.hid (fun G c W h hc => by
    have h1 := span_any G (bares l) c W h (by rw [bares_length]; exact hl) (bares_size l _ hs) (by rw [bares_length]; exact hc)
    rwa [sp_bares, bares_length] at h1)
  have HL := Lib.hid hL
  have HW := Lib.hid (back_whole l)
  have HBL := Lib.hid (bare_less l)
  have HBG : Hid (∀ k s, l[k]? = some s → (bares l)[k]? = some (bare (sp l) s)) := Lib.hid (fun k s h => bares_get h)
  have hhd := headS_size l
  have hpl : Hid (∀ s ∈ l, sp l ≤ s.size) := Lib.hid (fun s h => sp_le l s h)
  have hpb : sp l ≤ 1000 := by
    cases hq : l with
    | nil => decide
    | cons t r => rw [← hq]; have := sp_le l t (by rw [hq]; simp); have := hs t (by rw [hq]; simp); omega
  clear hL hcap
  have HSS := Lib.hid hs
  clear hs
  go_wp2_with fail
  refine HSTRIP.out.mono ?_
  rintro e w2 ⟨G, cap2, rfl, hcap2, hL2, hb2⟩
  have HL2 := Lib.hid hL2
  have HN : Hid (∃ n, n = l.length) := Lib.hid ⟨_, rfl⟩
  clear HSTRIP hL2
  generalize headS l = hd at *
  generalize sp l = p at *
  generalize bares l = bl at *
  obtain ⟨n, hn⟩ := HN.out
  have HN := Lib.hid hn
  rw [← hn] at hcap2 hl HSPAN HBARE
  simp only [← hn]
  clear hn
  have q1 : ((n : Int) != n) = false := by simp
  go_wp2_with fail
  refine (HSPAN.out _ (HL.out.on hb2)).mono ?_
  rintro e w3 ⟨rfl, hb3⟩
  have HLa := Lib.hid ((HL.out.on hb2).on hb3)
  have HLb := Lib.hid (HL2.out.on hb3)
  have b3 := (hb1.trans' hb2).trans' hb3
  have q2 : ((p : Int) != p) = false := by simp
  clear hb1 hb2 hb3 HL HL2 HSPAN
  go_wp2_with fail
  have HHD := Lib.hid hhd
  clear hhd
  go_loopw [5] (fun iv wr => ∃ k : Nat, k ≤ n ∧ iv = .int .i64 k ∧ Below w3.heap.size w3 wr) (fun iv _ => n - (intOf iv).toNat)
  case atStart => exact ⟨0, by omega, rfl, Below.refl _ _⟩
  case round =>
    obtain ⟨k, hk, rfl, hbr⟩ := hrel
    by_cases hlt : k < n
    · obtain ⟨s, hc⟩ : ∃ c, l[k]? = some c := ⟨_, List.getElem?_eq_getElem (by have := HN.out; omega)⟩
      obtain ⟨_, e, _, x0⟩ := (HLa.out.below hbr) k s hc
      obtain rfl := Option.some.inj e
      obtain ⟨a, rfl, _, y0⟩ := (HLb.out.below hbr) k _ (HBG.out k s hc)
      have hw := HW.out s (List.mem_of_getElem? hc)
      have hsz := HSS.out s (List.mem_of_getElem? hc)
      have hps := hpl.out s (List.mem_of_getElem? hc)
      have HC := Lib.hid (List.mem_of_getElem? hc)
      have hk0 : (0 : Int) ≤ k := by omega
      have hkn : (k : Int) < n := by omega
      have hbz : (bare p s).size ≤ 1000 := by simp [bare]; omega
      generalize hbs : bare p s = t at *
      clear hc
      have hov : ¬ (9223372036854775807 : Int) < (hd.size : Int) + t.size := by have := HHD.out; omega
      have hov2 : ¬ 9223372036854775807 < hd.size + t.size := by have := HHD.out; omega
      have d0 : ((hd ++ t).toList != s.toList) = false := by rw [hw]; simp
      cases k with
      | zero =>
        rw [addr_zero] at x0 y0
        go_wp2_with fail
        go_quiet (fail)
        go_wp2_with fail
        go_roundw
        case rel => exact ⟨1, by omega, by simp, below_drewN hbr _⟩
        case measure => simp [intOf]; omega
      | succ j =>
        rw [addr_pos] at y0
        rw [addr_pos, Nat.zero_add] at x0
        obtain ⟨s', hc'⟩ : ∃ c, l[j]? = some c := ⟨_, List.getElem?_eq_getElem (by have := HN.out; omega)⟩
        obtain ⟨_, e, _, x1⟩ := (HLa.out.below hbr) j s' hc'
        obtain rfl := Option.some.inj e
        obtain ⟨_, e, _, y1⟩ := (HLb.out.below hbr) j _ (HBG.out j s' hc')
        obtain rfl := Option.some.inj e
        have x2 : wr.cell? ⟨g, j, none⟩ = some (.string s') := by rw [addr_at] at x1; exact x1
        have hiff := HBL.out s' s (List.mem_of_getElem? hc') HC.out
        rw [hbs] at hiff
        generalize hbs' : bare p s' = t' at *
        have hj0 : (0 : Int) ≤ j := by omega
        have hjn : (j : Int) < n := by omega
        have hj1 : (0 : Int) ≤ (j : Int) + 1 := by omega
        have hjm : (j : Int) + 1 < n := by omega
        by_cases h : B s' < B s
        · have d1 := less_yes h
          have d2 := less_yes (hiff.2 h)
          clear hiff hbs hbs' h hc'
          go_wp2_with fail
          refine wp_region_quiet_lit (by kernel_rfl) (by kernel_rfl) ?_
          repeat (first | (go_big_quiet_step (fail)) | (quiet_step (fail)))
          refine wpQuiet_nil ?_
          rintro _ ⟨nq, rfl⟩
          go_wp2_with fail
          go_roundw
          case rel => exact ⟨j + 1 + 1, by omega, by simp, below_drewN hbr _⟩
          case measure => simp [intOf]; omega
        · have d1 := less_no h
          have d2 := less_no (fun g => h (hiff.1 g))
          clear hiff hbs hbs' h hc'
          go_wp2_with fail
          refine wp_region_quiet_lit (by kernel_rfl) (by kernel_rfl) ?_
          repeat (first | (go_big_quiet_step (fail)) | (quiet_step (fail)))
          refine wpQuiet_nil ?_
          rintro _ ⟨nq, rfl⟩
          go_wp2_with fail
          go_roundw
          case rel => exact ⟨j + 1 + 1, by omega, by simp, below_drewN hbr _⟩
          case measure => simp [intOf]; omega
    · have hb4 := b3.trans' hbr
      go_wp2_with fail
      refine (HBARE.out G cap2 _ (HLb.out.on hbr) hcap2).mono ?_
      rintro e w5 ⟨rfl, hb5⟩
      go_wp2_with fail
      refine (fixed_any _).mono ?_
      rintro e w6 ⟨rfl, hb6⟩
      go_wp2_with fail
      go_ret
      exact ⟨rfl, (hb4.trans' hb5).trans' hb6⟩
end Go.Proofs.Ytkeobalbfngniaa
