/-
  The walk of slot.Unpack.
-/
import Derived.Test.YtbkjmcnichpmjaaPPackW
import Derived.Test.YtbkjmcnichpmjaaPCut
namespace Go.Proofs.Ytbkjmcnichpmjaa
open Go.RowKit
set_option linter.unusedVariables false
set_option linter.unusedSimpArgs false

/-- '[]byte(s)'. -/
theorem conv_to (s : ByteArray) (w : World) : ∃ cap w', (convert 9 41 (.string s)).run Try.prog w = .ok (.slice (some ⟨w.heap.size, 0, none⟩) s.size cap) w' ∧ (∀ j c, (B s)[j]? = some c → w'.cell? ⟨w.heap.size, j, none⟩ = some (.int .u8 (c.toNat : Nat))) ∧ s.size ≤ cap ∧ w'.heap.size = w.heap.size + 1 ∧ Below w.heap.size w w' := by
  refine ⟨_, _, run_bytes_of_string (P := Try.prog) w 9 41 5 s Try.underlying9 Try.underlying41 Try.underlying5, fun j c hj => ?_, grownCap_ge w _ _ _, by simp, ?_⟩
  · have hlt : j < s.data.size := by have := (List.getElem?_eq_some_iff.1 hj).1; simpa [B] using this
    have h := World.cell?_alloc_mark w.drew (bytesRow s (grownCap w s.size 0 5)) 5 ((bytesRow s (grownCap w s.size 0 5)).size, (bytesRow s (grownCap w s.size 0 5)).size + 1) j
    rw [bytesRow_at s _ j hlt] at h
    have e : s.data[j] = c := by
      have := (List.getElem?_eq_some_iff.1 hj).2
      simpa [B] using this
    rw [e] at h
    exact h
  · exact (Below.refl _ w).drew.alloc (Nat.le_refl _) _

set_option maxHeartbeats 2000000 in
set_option maxRecDepth 100000 in
theorem unpack_any (b : ByteArray) (kf n : Int) (w : World) (hk : (Lit.int .i64 kf).wf = true) (hn : (Lit.int .i64 n).wf = true) (hb : b.size ≤ maxLen) :
    Calls Try.prog 11 #[.string b, .int .i64 kf, .int .i64 n] w fun e w' => Unp b kf n w e w' ∧ Below w.heap.size w w' := by
  unfold maxLen at hb
  by_cases a1 : kf < 0
  · have HU := Lib.hid (fun e w' (h : e = .returned (.tuple #[.slice none 0 0, .int .i64 4])) => (.inl ⟨.inl a1, h⟩ : Unp b kf n w e w'))
    clear hk hn
    go_enter Try.func11, Try.ntmps11
    go_wp2_with fail
    go_ret2
    exact ⟨HU.out _ _ rfl, Below.refl _ _⟩
  by_cases a2 : n < 0
  · have HU := Lib.hid (fun e w' (h : e = .returned (.tuple #[.slice none 0 0, .int .i64 4])) => (.inl ⟨.inr (.inl a2), h⟩ : Unp b kf n w e w'))
    clear hk hn
    go_enter Try.func11, Try.ntmps11
    go_wp2_with fail
    go_ret2
    exact ⟨HU.out _ _ rfl, Below.refl _ _⟩
  by_cases a3 : 65535 < b.size
  · have HU := Lib.hid (fun e w' (h : e = .returned (.tuple #[.slice none 0 0, .int .i64 4])) => (.inl ⟨.inr (.inr a3), h⟩ : Unp b kf n w e w'))
    have d1 : decide (65535 < b.size) = true := decide_eq_true a3
    have d2 : decide ((65535 : Int) < (b.size : Int)) = true := decide_eq_true (by omega)
    clear hk hn
    go_enter Try.func11, Try.ntmps11
    go_wp2_with fail
    go_ret2
    exact ⟨HU.out _ _ rfl, Below.refl _ _⟩
  obtain ⟨k, rfl⟩ := Int.eq_ofNat_of_zero_le (show 0 ≤ kf by omega)
  obtain ⟨n, rfl⟩ := Int.eq_ofNat_of_zero_le (show 0 ≤ n by omega)
  have hno : ¬ ((k : Int) < 0 ∨ (n : Int) < 0 ∨ 65535 < b.size) := by omega
  have HBAD : Hid (¬ LP.good (B b) k n → ∀ e w', e = .returned (.tuple #[.slice none 0 0, .int .i64 3]) → Unp b k n w e w') := Lib.hid (fun hg e w' h => .inr (.inl ⟨hno, hg, h⟩))
  have HOK : Hid (LP.good (B b) k n → ∀ w' g cap, w.heap.size ≤ g → n ≤ cap → Lies w' w'.heap.size (some ⟨g, 0, none⟩) (cellsB b n) → Unp b k n w (.returned (.tuple #[.slice (some ⟨g, 0, none⟩) n cap, .int .i64 0])) w') := Lib.hid (fun hg w' g cap h1 h2 h3 => .inr (.inr ⟨hno, hg, g, cap, rfl, h1, h2, h3⟩))
  have hbl : (B b).length = b.size := b_size b
  have d1 : decide (65535 < b.size) = false := decide_eq_false a3
  have d2 : decide ((65535 : Int) < (b.size : Int)) = false := decide_eq_false (by omega)
  clear hno hk hn
  by_cases c1 : b.size < k
  · have HB2 := Lib.hid (HBAD.out (fun h => by have := h.1; omega))
    have d3 : decide (b.size < k) = true := decide_eq_true c1
    have d4 : decide ((b.size : Int) < (k : Int)) = true := decide_eq_true (by omega)
    clear HBAD HOK hbl
    go_enter Try.func11, Try.ntmps11
    go_wp2_with fail
    go_ret2
    exact ⟨HB2.out _ _ rfl, Below.refl _ _⟩
  have d3 : decide (b.size < k) = false := decide_eq_false c1
  have d4 : decide ((b.size : Int) < (k : Int)) = false := decide_eq_false (by omega)
  by_cases c2 : b.size / 2 ≤ n
  · have HB2 := Lib.hid (HBAD.out (fun h => by have := good_few h; omega))
    have d5 : decide (b.size / 2 ≤ n) = true := decide_eq_true c2
    have d6 : decide ((b.size : Int) / 2 ≤ (n : Int)) = true := decide_eq_true (by omega)
    clear HBAD HOK hbl
    go_enter Try.func11, Try.ntmps11
    go_wp2_with fail
    go_ret2
    exact ⟨HB2.out _ _ rfl, Below.refl _ _⟩
  have d5 : decide (b.size / 2 ≤ n) = false := decide_eq_false c2
  have d6 : decide ((b.size : Int) / 2 ≤ (n : Int)) = false := decide_eq_false (by omega)
  obtain ⟨cap, w1, cv, hby, hcap, hsz, hb1⟩ := conv_to b w
  have HCUT := Lib.hid (cut8_any b w.heap.size n cap w1 hby hsz (by omega) hcap (by omega))
  clear hby hsz hcap
  go_enter Try.func11, Try.ntmps11
  go_wp2_with fail
  refine HCUT.out.mono ?_
  rintro e w2 ⟨hcase, hb2⟩
  have hbw := hb1.trans hb2
  clear HCUT cv hb1 hb2
  rcases hcase with ⟨hbad, rfl⟩ | ⟨hok, r, hr, rfl, HL⟩
  · have HB2 := Lib.hid (HBAD.out (fun h => hbad (fun i hi => by
      have := good_at (by omega) h i hi
      rwa [hbl] at this)))
    clear hbad HBAD HOK
    go_wp2_with fail
    go_ret2
    exact ⟨HB2.out _ _ rfl, hbw⟩
  · have hlen := cellsB_length b n
    obtain ⟨f, hf⟩ : ∃ f, b.extract 0 k = f := ⟨_, rfl⟩
    have sf : f.size = k := by rw [← hf]; simp; omega
    have HPK := Lib.hid (by have h := pack_any (b.size : Int) f (some ⟨r, 0, none⟩) (cellsB b n) n w2 HL (by rw [hlen]; omega) (by omega) (fun s hs => Nat.le_trans (cellsB_size b n s hs) (by omega)); rw [hlen] at h; exact h)
    have hend := unpack_end b k n (by omega) (by omega)
    rw [hf] at hend
    have HLL := Lib.hid HL
    have j1 : (0 : Int) ≤ (k : Int) ∧ (k : Int) ≤ (b.size : Int) := by omega
    have j2 : k ≤ b.size := by omega
    have hss : (b.toList == b.toList) = true := beq_self_eq_true _
    have hss2 : (b.toList != b.toList) = false := by simp
    clear hok
    rcases hend with ⟨hgd, hv⟩ | ⟨hgd, hv⟩ | ⟨hgd, P, hne, hv⟩
    · rw [hv] at HPK
      have HO2 := Lib.hid (HOK.out hgd)
      clear hv hgd HBAD HOK hlen HL sf
      go_wp2_with fail
      refine HPK.out.mono ?_
      rintro e w1 ⟨rfl, hb1⟩
      go_wp2_with fail
      go_ret2
      exact ⟨HO2.out _ _ _ (by omega) (Nat.le_refl _) (HLL.out.on hb1), hbw.trans' hb1⟩
    · rw [hv] at HPK
      have HB2 := Lib.hid (HBAD.out hgd)
      clear hv hgd HBAD HOK hlen HL sf
      go_wp2_with fail
      refine HPK.out.mono ?_
      rintro e w1 ⟨rfl, hb1⟩
      go_wp2_with fail
      go_ret2
      exact ⟨HB2.out _ _ rfl, hbw.trans' hb1⟩
    · rw [hv] at HPK
      have HB2 := Lib.hid (HBAD.out hgd)
      have hneq : (P.toList == b.toList) = false := by
        rw [Lib.toList_data, Lib.toList_data]
        exact beq_eq_false_iff_ne.2 fun e => hne (ByteArray.ext (Array.toList_inj.1 e))
      have hneq2 : (P.toList != b.toList) = true := by simp [bne, hneq]
      clear hv hgd HBAD HOK hlen HL sf hne
      go_wp2_with fail
      refine HPK.out.mono ?_
      rintro e w1 ⟨rfl, hb1⟩
      go_wp2_with fail
      go_ret2
      exact ⟨HB2.out _ _ rfl, hbw.trans' hb1⟩
end Go.Proofs.Ytbkjmcnichpmjaa
