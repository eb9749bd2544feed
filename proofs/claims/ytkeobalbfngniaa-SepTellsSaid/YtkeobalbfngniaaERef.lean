/-
  Walks of the document's own answers of layer 5: Common, Span, Least.
-/
import Derived.Test.YtkeobalbfngniaaEStrip
namespace Go.Proofs.Ytkeobalbfngniaa
open Go.RowKit
set_option linter.unusedVariables false
set_option linter.unusedSimpArgs false

set_option maxHeartbeats 1000000 in
set_option maxRecDepth 100000 in
theorem rcommon_any (a b : ByteArray) (w : World) (ha : a.size ≤ 1000000) (hb : b.size ≤ 1000000) :
    Calls Try.prog 15 #[.string a, .string b] w fun e w' => e = .returned (.int .i64 (EP.com (B a) (B b))) ∧ Below w.heap.size w w' := by
  obtain ⟨r, HR⟩ : ∃ r, Hid (r = EP.com (B a) (B b)) := ⟨_, Lib.hid rfl⟩
  rw [← HR.out]
  go_enter Try.func15, Try.ntmps15
  go_wp2_with fail
  go_loopw [5] (fun nv wr => ∃ k : Nat, nv = .int .i64 k ∧ k ≤ a.size ∧ k ≤ b.size ∧ Hid (k ≤ EP.com (B a) (B b)) ∧ Below w.heap.size w wr) (fun nv _ => a.size - (intOf nv).toNat)
  case atStart => exact ⟨0, rfl, by omega, by omega, Lib.hid (by omega), Below.refl _ _⟩
  case round =>
    obtain ⟨k, rfl, hka, hkb, HK, hbw⟩ := hrel
    have h0 : (0 : Int) ≤ k := by omega
    have HX : Hid (EP.com (B a) (B b) ≤ a.size ∧ EP.com (B a) (B b) ≤ b.size) := Lib.hid ⟨by rw [← b_size]; exact EP.com_left _ _, by rw [← b_size]; exact EP.com_right _ _⟩
    by_cases h1 : k < a.size
    · have d1 : decide ((k : Int) < a.size) = true := by simp; omega
      by_cases h2 : k < b.size
      · have d2 : decide ((k : Int) < b.size) = true := by simp; omega
        have HE : Hid (k < EP.com (B a) (B b) ↔ a[k] = b[k]) := Lib.hid (by
          rw [EP.com_next _ _ _ HK.out, b_get a k h1, b_get b k h2]
          simp [eq_comm])
        by_cases he : a[k] = b[k]
        · have d3 : ((a[k].toNat : Int) == (b[k].toNat : Int)) = true := by rw [he]; simp
          have HK' : Hid (k + 1 ≤ EP.com (B a) (B b)) := Lib.hid (HE.out.2 he)
          clear he HE HK
          go_wp2_with fail
          go_quiet (fail)
          go_wp2_with fail
          go_roundw
          case rel => exact ⟨k + 1, by simp, by omega, by omega, HK', below_drewN hbw _⟩
          case measure => simp [intOf]; omega
        · have d3 : ((a[k].toNat : Int) == (b[k].toNat : Int)) = false := by
            rw [beq_eq_false_iff_ne]
            intro e
            exact he (UInt8.toNat_inj.1 (by omega))
          have HV : Hid (k = r) := Lib.hid (by rw [HR.out]; exact (Nat.le_antisymm (Nat.not_lt.1 fun h => he (HE.out.1 h)) HK.out).symm)
          clear he HE HK
          go_wp2_with fail
          go_quiet (fail)
          go_wp2_with fail
          go_ret
          exact ⟨congrArg (fun z : Nat => Ending.returned (Value.int IntKind.i64 (z : Int))) HV.out, below_drewN hbw _⟩
      · have d2 : decide ((k : Int) < b.size) = false := by simp; omega
        have HV : Hid (k = r) := Lib.hid (by have := HR.out; have := HX.out; have := HK.out; omega)
        clear HK
        go_wp2_with fail
        go_quiet (fail)
        go_wp2_with fail
        go_ret
        exact ⟨congrArg (fun z : Nat => Ending.returned (Value.int IntKind.i64 (z : Int))) HV.out, below_drewN hbw _⟩
    · have d1 : decide ((k : Int) < a.size) = false := by simp; omega
      have HV : Hid (k = r) := Lib.hid (by have := HR.out; have := HX.out; have := HK.out; omega)
      clear HK
      go_wp2_with fail
      go_quiet (fail)
      go_wp2_with fail
      go_ret
      exact ⟨congrArg (fun z : Nat => Ending.returned (Value.int IntKind.i64 (z : Int))) HV.out, below_drewN hbw _⟩

set_option maxHeartbeats 1000000 in
theorem rleast_any (a b : ByteArray) (w : World) (ha : a.size ≤ 1000) (hb : b.size ≤ 1000) :
    Calls Try.prog 11 #[.string a, .string b] w fun e w' => e = .returned (leastV a b) ∧ Below w.heap.size w w' := by
  by_cases h : B a < B b
  · rw [leastV_yes h]
    have hl := EP.lt_com h
    rw [b_size] at hl
    have d1 := less_yes h
    have HLE : Hid (∀ k, k ≤ EP.com (B a) (B b) → B (b.extract 0 k) < B a ∨ B (b.extract 0 k) = B a) := Lib.hid (fun k hk => by rw [b_head]; exact EP.take_le _ _ h k hk)
    have HGT : Hid (B a < B (b.extract 0 (EP.com (B a) (B b) + 1))) := Lib.hid (by rw [b_head]; exact EP.lt_least h)
    generalize EP.com (B a) (B b) = n at *
    clear h
    go_enter Try.func11, Try.ntmps11
    go_wp2_with fail
    go_loopw [6] (fun nv wr => ∃ k : Nat, nv = .int .i64 k ∧ k ≤ n + 1 ∧ Below w.heap.size w wr) (fun nv _ => n + 1 - (intOf nv).toNat)
    case atStart => exact ⟨0, rfl, by omega, Below.refl _ _⟩
    case round =>
      obtain ⟨k, rfl, hk, hbw⟩ := hrel
      have h0 : (0 : Int) ≤ k := by omega
      by_cases h1 : k ≤ n
      · rcases HLE.out k h1 with h2 | h2
        · have d2 := less_yes h2
          clear h2
          go_wp2_with fail
          go_roundw
          case rel => exact ⟨k + 1, by simp, by omega, hbw⟩
          case measure => simp [intOf]; omega
        · have d2 := less_no (a := b.extract 0 k) (b := a) (by rw [h2]; exact EP.lt_irrefl _)
          have d3 := same_yes h2
          clear h2
          go_wp2_with fail
          go_roundw
          case rel => exact ⟨k + 1, by simp, by omega, hbw⟩
          case measure => simp [intOf]; omega
      · obtain rfl : k = n + 1 := by omega
        have d2 := less_no (EP.lt_asymm HGT.out)
        have d3 := same_no (a := b.extract 0 (n + 1)) (b := a) (fun e => EP.lt_irrefl (B a) (by have := HGT.out; rwa [e] at this))
        clear hk
        go_wp2_with fail
        go_ret2
        exact ⟨rfl, hbw⟩
  · rw [leastV_no h]
    have d1 := less_no h
    clear h
    go_enter Try.func11, Try.ntmps11
    go_wp2_with fail
    go_ret2
    exact ⟨rfl, Below.refl _ _⟩

theorem al_self (x : List UInt8) (l : List (List UInt8)) : EP.al x (x :: l) = EP.al x l := by simp [EP.al, EP.com_self]

set_option maxHeartbeats 1000000 in
theorem rspan_none (A : Option Addr) (ca : Nat) (w : World) :
    Calls Try.prog 17 #[.slice A 0 ca] w fun e w' => e = .returned (.int .i64 0) ∧ Below w.heap.size w w' := by
  go_enter Try.func17, Try.ntmps17
  go_wp2_with fail
  go_loopw [3] (fun nv wr => nv = .int .i64 0 ∧ Below w.heap.size w wr) (fun nv _ => 0)
  case atStart => exact ⟨rfl, Below.refl _ _⟩
  case round =>
    obtain ⟨rfl, hbw⟩ := hrel
    go_wp2_with fail
    go_ret
    exact ⟨rfl, hbw⟩

set_option maxHeartbeats 1000000 in
set_option maxRecDepth 100000 in
theorem rspan_some (a : Addr) (s0 : ByteArray) (l : List ByteArray) (ca : Nat) (w : World) (ha : Lies w w.heap.size (some a) l) (h0 : l[0]? = some s0) (hl : l.length ≤ 1000) (hs : ∀ s ∈ l, s.size ≤ 1000) :
    Calls Try.prog 17 #[.slice (some a) l.length ca] w fun e w' => e = .returned (.int .i64 (sp l)) ∧ Below w.heap.size w w' := by
  have HA := Lib.hid ha
  have HS := Lib.hid hs
  have H0 := Lib.hid h0
  have hs0 := hs s0 (List.mem_of_getElem? h0)
  obtain ⟨p, hp⟩ : ∃ p, p = sp l := ⟨_, rfl⟩
  have HP := Lib.hid hp
  have HAL : Hid (∀ m, m ≤ p ↔ m ≤ EP.al (B s0) (Bs l)) := Lib.hid (fun m => by
    cases l with
    | nil => simp at h0
    | cons s r =>
      have e : s = s0 := by simpa using h0
      subst e
      rw [hp, show EP.al (B s) (Bs (s :: r)) = EP.al (B s) (Bs r) from al_self _ _]
      exact Iff.rfl)
  have HLE : Hid (p ≤ s0.size) := Lib.hid (by rw [hp]; exact sp_le l s0 (List.mem_of_getElem? h0))
  obtain ⟨n, hn⟩ : ∃ n, n = l.length := ⟨_, rfl⟩
  have hn0 : 0 < n := by have := (List.getElem?_eq_some_iff.1 h0).1; omega
  have HN := Lib.hid hn
  rw [← hn, ← hp]
  rw [← hn] at hl
  have hn0' : (0 : Int) < n := by omega
  clear ha hs hp h0 hn
  go_enter Try.func17, Try.ntmps17
  go_wp2_with fail
  go_loopw [3] (fun nv wr => ∃ k : Nat, nv = .int .i64 k ∧ k ≤ s0.size ∧ Hid (k ≤ p) ∧ Below w.heap.size w wr) (fun nv _ => s0.size - (intOf nv).toNat)
  case atStart => exact ⟨0, rfl, by omega, Lib.hid (by omega), Below.refl _ _⟩
  case round =>
    obtain ⟨k, rfl, hks, HK, hbw⟩ := hrel
    have hk0 : (0 : Int) ≤ k := by omega
    obtain ⟨_, e, hab, x0⟩ := (HA.out.below hbw) 0 s0 H0.out
    obtain rfl := Option.some.inj e
    rw [addr_zero] at x0
    clear hab
    by_cases hlt : k < s0.size
    · have d1 : decide ((k : Int) < s0.size) = true := by simp; omega
      go_wp2_with fail
      clear x0
      go_loopw [4] (fun iv wq => ∃ i : Nat, iv = .int .i64 i ∧ i ≤ n ∧ Hid (k + 1 ≤ EP.al (B s0) (Bs (l.take i))) ∧ Below w.heap.size w wq) (fun iv _ => n - (intOf iv).toNat)
      case atStart => exact ⟨0, rfl, by omega, Lib.hid (by simp [EP.al, Bs, b_size]; omega), hbw⟩
      case round =>
        obtain ⟨i, rfl, hi, HI, hbq⟩ := hrel
        have hi0 : (0 : Int) ≤ i := by omega
        by_cases hin : i < n
        · obtain ⟨t, hc⟩ : ∃ c, l[i]? = some c := ⟨_, List.getElem?_eq_getElem (by have := HN.out; omega)⟩
          obtain ⟨_, e, hab, x0⟩ := (HA.out.below hbq) i t hc
          obtain rfl := Option.some.inj e
          obtain ⟨_, e, hab', y0⟩ := (HA.out.below hbq) 0 s0 H0.out
          obtain rfl := Option.some.inj e
          rw [addr_zero] at y0
          have htz := HS.out t (List.mem_of_getElem? hc)
          have HC := Lib.hid hc
          have HPC : Hid (p ≤ EP.com (B s0) (B t)) := Lib.hid (by
            have h1 := (HAL.out p).1 (Nat.le_refl _)
            exact Nat.le_trans h1 (EP.al_com _ _ _ (bs_mem (List.mem_of_getElem? hc))))
          have HKC : Hid (k ≤ EP.com (B s0) (B t)) := Lib.hid (by have := HK.out; have := HPC.out; omega)
          clear hc hab hab'
          have hin' : (i : Int) < n := by omega
          by_cases hkt : k < t.size
          · have d2 : decide ((t.size : Int) ≤ k) = false := by simp; omega
            have HE : Hid (k < EP.com (B s0) (B t) ↔ t[k] = s0[k]) := Lib.hid (by
              rw [EP.com_next _ _ _ HKC.out, b_get s0 k hlt, b_get t k hkt]
              simp [eq_comm])
            by_cases he : t[k] = s0[k]
            · have d3 : ((t[k].toNat : Int) != (s0[k].toNat : Int)) = false := by rw [he]; simp
              have HI' : Hid (k + 1 ≤ EP.al (B s0) (Bs (l.take (i + 1)))) := Lib.hid (by
                rw [bs_snoc l i t HC.out, EP.al_snoc]
                have := HI.out
                have := HE.out.2 he
                omega)
              clear he HE HI
              go_wp2_with fail
              go_quiet (fail)
              go_wp2_with fail
              go_roundw
              case rel => exact ⟨i + 1, by simp, by omega, HI', below_drewN hbq _⟩
              case measure => simp [intOf]; omega
            · have d3 : ((t[k].toNat : Int) != (s0[k].toNat : Int)) = true := by
                rw [bne_iff_ne]
                intro e
                exact he (UInt8.toNat_inj.1 (by omega))
              have HV : Hid (k = p) := Lib.hid (Nat.le_antisymm HK.out (Nat.le_trans HPC.out (Nat.not_lt.1 fun h => he (HE.out.1 h))))
              clear he HE HI
              go_wp2_with fail
              go_quiet (fail)
              go_wp2_with fail
              go_ret
              exact ⟨congrArg (fun z : Nat => Ending.returned (Value.int IntKind.i64 (z : Int))) HV.out, below_drewN hbq _⟩
          · have d2 : decide ((t.size : Int) ≤ k) = true := by simp; omega
            have HV : Hid (k = p) := Lib.hid (by
              have h1 := EP.com_right (B s0) (B t)
              rw [b_size] at h1
              have := HK.out
              have := HPC.out
              omega)
            clear HI
            go_wp2_with fail
            go_quiet (fail)
            go_wp2_with fail
            go_ret
            exact ⟨congrArg (fun z : Nat => Ending.returned (Value.int IntKind.i64 (z : Int))) HV.out, below_drewN hbq _⟩
        · obtain rfl : i = n := by omega
          have HK' : Hid (k + 1 ≤ p) := Lib.hid (by
            have h1 := HI.out
            rw [List.take_of_length_le (by have := HN.out; omega)] at h1
            exact (HAL.out _).2 h1)
          clear HI
          go_wp2_with fail
          go_roundw
          case rel => exact ⟨k + 1, by simp, by omega, HK', hbq⟩
          case measure => simp [intOf]; omega
    · have d1 : decide ((k : Int) < s0.size) = false := by simp; omega
      have HV : Hid (k = p) := Lib.hid (by have := HK.out; have := HLE.out; omega)
      go_wp2_with fail
      go_ret
      exact ⟨congrArg (fun z : Nat => Ending.returned (Value.int IntKind.i64 (z : Int))) HV.out, hbw⟩

theorem rspan_any (A : Option Addr) (l : List ByteArray) (ca : Nat) (w : World) (ha : Lies w w.heap.size A l) (hl : l.length ≤ 1000) (hs : ∀ s ∈ l, s.size ≤ 1000) :
    Calls Try.prog 17 #[.slice A l.length ca] w fun e w' => e = .returned (.int .i64 (sp l)) ∧ Below w.heap.size w w' := by
  cases l with
  | nil => exact rspan_none A ca w
  | cons s l =>
    obtain ⟨a, rfl, _, _⟩ := ha 0 s rfl
    exact rspan_some a s (s :: l) ca w ha rfl hl hs

set_option maxHeartbeats 1000000 in
set_option maxRecDepth 100000 in
theorem rstrip_any (A : Option Addr) (l : List ByteArray) (ca : Nat) (w : World) (ha : Lies w w.heap.size A l) (hl : l.length ≤ 1000) (hs : ∀ s ∈ l, s.size ≤ 1000) :
    Calls Try.prog 13 #[.slice A l.length ca] w fun e w' => ∃ G cap, e = .returned (.tuple #[.string (headS l), .slice G l.length cap]) ∧ Lies w' w'.heap.size G (bares l) ∧ Below w.heap.size w w' := by
  obtain ⟨i0, hi, hz0, hz1, hz2⟩ := info_parts Try.infoStr
  have HA := Lib.hid ha
  have HS := Lib.hid hs
  have HSP := Lib.hid (rspan_any A l ca w ha hl hs)
  have HLE : Hid (∀ s ∈ l, sp l ≤ s.size) := Lib.hid (fun s h => sp_le l s h)
  have HB : Hid (bares l = l.map (bare (sp l))) := Lib.hid rfl
  have HH : Hid (∀ s ∈ l, s.extract 0 (sp l) = headS l) := Lib.hid (fun s h => by
    cases l with
    | nil => simp at h
    | cons t r => exact b_inj (by rw [headS, b_head, b_head]; exact EP.span_take _ _ _ (bs_mem h) (bs_mem (by simp))))
  have HN0 : Hid (l.length = 0 → headS l = ⟨#[]⟩) := Lib.hid (fun h => by
    rw [List.eq_nil_of_length_eq_zero h]
    rfl)
  generalize sp l = p at *
  generalize headS l = hd at *
  obtain ⟨n, hn⟩ : ∃ n, n = l.length := ⟨_, rfl⟩
  have HN := Lib.hid hn
  rw [← hn]
  rw [← hn] at hl HSP HN0
  clear ha hs hn
  go_enter Try.func13, Try.ntmps13
  go_wp2_with fail
  refine HSP.out.mono ?_
  rintro e w1 ⟨rfl, hb1⟩
  clear HSP
  go_wp2_with fail
  go_loopw [5, 6, 7] (fun ov sv iv wr => ∃ (k g cap : Nat) (X : ByteArray), k ≤ n ∧ iv = .int .i64 k ∧ ov = .slice (some ⟨g, 0, none⟩) k cap ∧ sv = .string X ∧ Hid ((k = 0 → X = ⟨#[]⟩) ∧ (0 < k → X = hd)) ∧ Hid (Owns wr w1.heap.size (.slice (some ⟨g, 0, none⟩) k cap) k ((l.take k).map (bare p))) ∧ Below w1.heap.size w1 wr) (fun _ _ iv _ => n - (intOf iv).toNat)
  case atStart =>
    exact ⟨0, w1.heap.size, 0, ⟨#[]⟩, by omega, rfl, rfl, rfl, Lib.hid ⟨fun _ => rfl, fun h => by omega⟩, Lib.hid (own_empty w1 _), below_alloc _ _⟩
  case round =>
    obtain ⟨k, g, cap, X, hk, rfl, rfl, rfl, HX, HO, hbr⟩ := hrel
    have hbw := hb1.trans' hbr
    by_cases hlt : k < n
    · obtain ⟨s, hc⟩ : ∃ c, l[k]? = some c := ⟨_, List.getElem?_eq_getElem (by have := HN.out; omega)⟩
      obtain ⟨a, rfl, hab, x0⟩ := (HA.out.below hbw) k s hc
      have hsz := HS.out s (List.mem_of_getElem? hc)
      have hps := HLE.out s (List.mem_of_getElem? hc)
      have HE := Lib.hid (HH.out s (List.mem_of_getElem? hc))
      have HC : Hid ((l.take (k + 1)).map (bare p) = (l.take k).map (bare p) ++ [s.extract p s.size]) := Lib.hid (by
        have : l.take (k + 1) = l.take k ++ [s] := by rw [List.take_add_one, hc]; rfl
        rw [this]
        simp [bare])
      have hbs := hbr.size
      have hbs1 := hb1.size
      have HKB : Hid (∀ W, Below w1.heap.size wr W → W.cell? (a.add k) = some (.string s)) := Lib.hid (fun W hW => (hW.cell (by rw [addr_block]; omega)).trans x0)
      clear hc hab
      go_wp2_with (at_builtin; refine wpList_append_lies _ rfl _ _ 22 rfl w1.heap.size 9 i0 (.string ⟨#[]⟩) 1 16 Try.underlying22 hi hz0 hz1 hz2 rfl (by decide) (.slice (some ⟨g, 0, none⟩) k cap) k _ rfl (HO.out.alloc _) ⟨wr.heap.size, 0, none⟩ 1 1 [.string (s.extract p s.size)] rfl rfl (World.news_of_block (cs := #[.string (s.extract p s.size)]) (t := 9) (fr := (0, 0)) (heap_alloc_new wr _)) (str_one _) (by omega) (by unfold maxLen; omega) (by omega) (by simp; omega) (wr.heap.size + 1) (by simp) ?_; intro g' cap' w2 hown' hgrow hat hlt1; have hb3 : Below w1.heap.size wr w2 := ((Below.refl _ wr).alloc hbs (.cells #[.string (s.extract p s.size)] 9)).trans (own_apart (HO.out.alloc _) hgrow (Nat.le_refl _) (by simp; omega)); have x1 := HKB.out w2 hb3; clear hat hlt1 hgrow x0)
      have hb4 := hbr.trans hb3
      go_roundw
      case rel => exact ⟨k + 1, g', cap', _, by omega, by simp, rfl, rfl, Lib.hid ⟨fun h => by omega, fun _ => HE.out⟩, Lib.hid (by rw [HC.out, Owns, strCells_snoc]; exact hown'), hb4⟩
      case measure => simp [intOf]; omega
    · obtain rfl : k = n := by omega
      have HL : Hid (Lies wr wr.heap.size (some ⟨g, 0, none⟩) (bares l)) := Lib.hid (by
        have h := HO.out
        rw [List.take_of_length_le (by have := HN.out; omega), ← HB.out] at h
        exact lies_own h (by rw [bares_length]; exact HN.out))
      have HXV : Hid (X = hd) := Lib.hid (by
        rcases Nat.eq_zero_or_pos k with h | h
        · rw [HX.out.1 h, HN0.out h]
        · exact HX.out.2 h)
      go_wp2_with fail
      go_ret2
      exact ⟨some ⟨g, 0, none⟩, cap, by rw [HXV.out]; rfl, HL.out, hbw⟩
end Go.Proofs.Ytkeobalbfngniaa
