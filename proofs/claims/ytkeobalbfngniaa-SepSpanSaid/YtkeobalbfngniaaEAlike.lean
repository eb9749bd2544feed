/-
  Walks of sep.alike, sep.Common, sep.Span.
-/
import Derived.Test.YtkeobalbfngniaaERow
import Derived.Deep.QuietTactic
import Derived.BigQuiet
import Derived.Deep.RegionHeld3
namespace Go.Proofs.Ytkeobalbfngniaa
open Go.RowKit
set_option linter.unusedVariables false
set_option linter.unusedSimpArgs false

set_option maxHeartbeats 1000000 in
set_option maxRecDepth 100000 in
theorem alike_any (x : ByteArray) (A : Option Addr) (l : List ByteArray) (ca : Nat) (w : World) (ha : Lies w w.heap.size A l) (hl : l.length ≤ 1000) (hx : x.size ≤ 1000000) (hs : ∀ s ∈ l, s.size ≤ 1000000) :
    Calls Try.prog 22 #[.string x, .slice A l.length ca] w fun e w' => e = .returned (.int .i64 (EP.al (B x) (Bs l))) ∧ Below w.heap.size w w' := by
  have HA := Lib.hid ha
  have HS := Lib.hid hs
  obtain ⟨r, HR⟩ : ∃ r, Hid (r = EP.al (B x) (Bs l)) := ⟨_, Lib.hid rfl⟩
  rw [← HR.out]
  obtain ⟨n, hn⟩ : ∃ n, n = l.length := ⟨_, rfl⟩
  have HN := Lib.hid hn
  rw [← hn]
  rw [← hn] at hl
  clear ha hs hn
  go_enter Try.func22, Try.ntmps22
  go_wp2_with fail
  go_loopw [5, 13] (fun nv iv wr => ∃ k m : Nat, k ≤ n ∧ iv = .int .i64 k ∧ nv = .int .i64 m ∧ m ≤ x.size ∧ Hid (m = EP.al (B x) (Bs (l.take k))) ∧ Below w.heap.size w wr) (fun _ iv _ => n - (intOf iv).toNat)
  case atStart =>
    exact ⟨0, x.size, by omega, rfl, rfl, Nat.le_refl _, Lib.hid (by simp [EP.al, Bs]), Below.refl _ _⟩
  case round =>
    obtain ⟨k, m, hk, rfl, rfl, hm, HM, hbw⟩ := hrel
    by_cases hlt : k < n
    · obtain ⟨s, hc⟩ : ∃ c, l[k]? = some c := ⟨_, List.getElem?_eq_getElem (by have := HN.out; omega)⟩
      obtain ⟨a, rfl, hab, x0⟩ := (HA.out.below hbw) k s hc
      have HC := Lib.hid hc
      have hsz := HS.out s (List.mem_of_getElem? hc)
      obtain ⟨q, hq, hqm, hqs, HQ⟩ : ∃ q : Nat, min (m : Int) s.size = q ∧ q ≤ m ∧ q ≤ s.size ∧ Hid (q = min m s.size) := ⟨min m s.size, by omega, by omega, by omega, Lib.hid rfl⟩
      clear hc hab
      go_wp2_with fail
      go_loopw [8] (fun av wq => ∃ j : Nat, av = .int .i64 j ∧ j ≤ q ∧ Hid (j ≤ EP.com (B x) (B s)) ∧ Below w.heap.size w wq) (fun av _ => q - (intOf av).toNat)
      case atStart => exact ⟨0, rfl, by omega, Lib.hid (by omega), hbw⟩
      case round =>
        obtain ⟨j, rfl, hj, HJ, hbq⟩ := hrel
        clear hbw x0
        have h0 : ((0 : Int) ≤ j) := by omega
        by_cases hjq : j < q
        · have hjs : j < s.size := by omega
          have hjx : j < x.size := by omega
          have d1 : decide ((j : Int) < q) = true := by simp; omega
          have HN2 : Hid (j < EP.com (B x) (B s) ↔ s[j] = x[j]) := Lib.hid (by
            rw [EP.com_next _ _ _ HJ.out, b_get x j hjx, b_get s j hjs]
            simp [eq_comm])
          by_cases he : s[j] = x[j]
          · have h1 := HN2.out.2 he
            have HJ' : Hid (j + 1 ≤ EP.com (B x) (B s)) := Lib.hid h1
            have d2 : ((s[j].toNat : Int) == (x[j].toNat : Int)) = true := by rw [he]; simp
            clear he h1 HN2 HJ
            go_wp2_with fail
            go_quiet (fail)
            go_wp2_with fail
            go_round
            case rel => exact ⟨j + 1, by simp, by omega, HJ', below_drewN hbq _⟩
            case measure => simp [intOf]; omega
          · have h1 : Hid (EP.com (B x) (B s) = j) := Lib.hid (Nat.le_antisymm (Nat.not_lt.1 fun h => he (HN2.out.1 h)) HJ.out)
            have d2 : ((s[j].toNat : Int) == (x[j].toNat : Int)) = false := by
              rw [beq_eq_false_iff_ne]
              intro e
              exact he (UInt8.toNat_inj.1 (by omega))
            clear he HN2 HJ
            go_wp2_with fail
            go_quiet (fail)
            go_wp2_with fail
            go_round
            case rel => exact ⟨k + 1, j, by omega, by simp, rfl, by omega, Lib.hid (by rw [bs_snoc l k s HC.out, EP.al_snoc, ← HM.out, h1.out]; omega), below_drewN hbq _⟩
            case measure => simp [intOf]; omega
        · have hjq' : j = q := by omega
          subst hjq'
          have d1 : decide ((j : Int) < j) = false := by simp
          have h1 : Hid (min m (EP.com (B x) (B s)) = j) := Lib.hid (by
            have h1 := HQ.out
            have h2 := HJ.out
            have h3 := EP.com_right (B x) (B s)
            rw [b_size] at h3
            omega)
          clear HJ
          go_wp2_with fail
          go_quiet (fail)
          go_wp2_with fail
          go_round
          case rel => exact ⟨k + 1, j, by omega, by simp, rfl, by omega, Lib.hid (by rw [bs_snoc l k s HC.out, EP.al_snoc, ← HM.out, h1.out]), below_drewN hbq _⟩
          case measure => simp [intOf]; omega
    · have hkn : k = n := by omega
      subst hkn
      have HL : Hid (m = r) := Lib.hid (by rw [HM.out, HR.out, List.take_of_length_le (by have := HN.out; omega)])
      go_wp2_with fail
      go_ret
      exact ⟨by rw [HL.out]; rfl, hbw⟩

theorem common_any (a b : ByteArray) (w : World) (ha : a.size ≤ 1000000) (hb : b.size ≤ 1000000) :
    Calls Try.prog 14 #[.string a, .string b] w fun e w' => e = .returned (.int .i64 (EP.com (B a) (B b))) ∧ Below w.heap.size w w' := by
  have HC := Lib.hid (alike_any a (some ⟨w.heap.size, 0, none⟩) [b] 1 (w.alloc (.cells #[.string b] 9)) (lies_new w 9 [b]) (by simp) ha (by simpa using hb))
  rw [show EP.al (B a) (Bs [b]) = EP.com (B a) (B b) from EP.al_one _ _] at HC
  generalize EP.com (B a) (B b) = r at *
  go_enter Try.func14, Try.ntmps14
  go_wp2_with fail
  refine HC.out.mono ?_
  rintro e w1 ⟨rfl, hb1⟩
  go_wp2_with fail
  go_ret
  exact ⟨rfl, (below_alloc _ _).trans' hb1⟩

theorem addr_zero (a : Addr) : a.add 0 = a := by simp [Addr.add]
theorem span_none (A : Option Addr) (ca : Nat) (w : World) :
    Calls Try.prog 16 #[.slice A 0 ca] w fun e w' => e = .returned (.int .i64 0) ∧ Below w.heap.size w w' := by
  go_enter Try.func16, Try.ntmps16
  go_wp2_with fail
  go_ret
  exact ⟨rfl, Below.refl _ _⟩

/-- The slice behind the first text, as the walk spells it. -/
abbrev behind (a : Addr) (ca : Nat) : Option Addr := if ca = 1 then some a else some { block := a.block, off := a.off + 1 }
theorem Lies.behind {w : World} {b ca : Nat} {s : ByteArray} {a : Addr} {l : List ByteArray} (h : Lies w b (some a) (s :: l)) (hc : l.length + 1 ≤ ca) : Lies w b (behind a ca) l := by
  by_cases h1 : ca = 1
  · have h0 : l = [] := List.eq_nil_of_length_eq_zero (by omega)
    subst h0
    exact Lies.nil _ _ _
  · rw [Go.Proofs.Ytkeobalbfngniaa.behind, if_neg h1]
    exact h.tail

set_option maxHeartbeats 400000 in
set_option maxRecDepth 100000 in
theorem span_some (a : Addr) (s : ByteArray) (l : List ByteArray) (ca : Nat) (w : World) (ha : Lies w w.heap.size (some a) (s :: l)) (hl : l.length ≤ 1000) (hs : ∀ t ∈ s :: l, t.size ≤ 1000000) (hc : l.length + 1 ≤ ca) :
    Calls Try.prog 16 #[.slice (some a) (l.length + 1 : Nat) ca] w fun e w' => e = .returned (.int .i64 (EP.span (Bs (s :: l)))) ∧ Below w.heap.size w w' := by
  have HC := Lib.hid (fun W (h : Lies W W.heap.size (behind a ca) l) => alike_any s (behind a ca) l (ca - 1) W h hl (hs s (by simp)) (fun t ht => hs t (by simp [ht])))
  rw [show EP.span (Bs (s :: l)) = EP.al (B s) (Bs l) from rfl]
  have HT := Lib.hid (ha.behind hc)
  obtain ⟨_, e, hab, x0⟩ := ha 0 s rfl
  obtain rfl := Option.some.inj e
  rw [addr_zero] at x0
  have HK0 : Hid (Below w.heap.size w w.drew) := Lib.hid ⟨rfl, rfl, rfl, Nat.le_refl _, fun _ _ => rfl⟩
  have HKeep : Hid (∀ W W' : World, Below W.heap.size W W' → (W.cell? a = some (.string s) ∧ Hid (Below w.heap.size w W)) → (W'.cell? a = some (.string s) ∧ Hid (Below w.heap.size w W'))) := Lib.hid (fun W W' hb h => by
    have h2 := h.2.out.trans' hb
    exact ⟨(h2.cell hab).trans x0, Lib.hid h2⟩)
  generalize EP.al (B s) (Bs l) = r at *
  clear ha hs hab
  generalize l.length = n at *
  have hn1 : ¬ (ca : Int) < 1 := by omega
  have hn2 : (1 : Int) ≤ n + 1 := by omega
  by_cases h1 : ca = 1
  · subst h1
    obtain rfl : n = 0 := by omega
    have HC : Hid (∀ W : World, Lies W W.heap.size (some a) l → Calls Try.prog 22 #[.string s, .slice (some a) 0 0] W fun e w' => e = .returned (.int .i64 (r : Nat)) ∧ Below W.heap.size W w') := HC
    have HT : Hid (Lies w w.heap.size (some a) l) := HT
    go_enter Try.func16, Try.ntmps16
    go_wp2_with fail
    go_region_held3 (fun W => W.cell? a = some (.string s) ∧ Hid (Below w.heap.size w W)) (first | assumption | exact ⟨x0, HK0⟩ | exact HKeep.out _ _ (by assumption) (by assumption))
      (first
        | (go_at_call 22; refine (HC.out _ (HT.out.on HK0.out)).mono ?_; rintro e w1 ⟨rfl, hb1⟩)
        | fail "no arm")
    go_wp2_with fail
    go_ret
    exact ⟨rfl, below_of_drew hb1⟩
  · rw [show behind a ca = some ⟨a.block, a.off + 1, none⟩ from if_neg h1] at HC HT
    go_enter Try.func16, Try.ntmps16
    go_wp2_with fail
    go_region_held3 (fun W => W.cell? a = some (.string s) ∧ Hid (Below w.heap.size w W)) (first | assumption | exact ⟨x0, HK0⟩ | exact HKeep.out _ _ (by assumption) (by assumption))
      (first
        | (go_at_call 22; refine (HC.out _ (HT.out.on HK0.out)).mono ?_; rintro e w1 ⟨rfl, hb1⟩)
        | fail "no arm")
    go_wp2_with fail
    go_ret
    exact ⟨rfl, below_of_drew hb1⟩
end Go.Proofs.Ytkeobalbfngniaa
