/-
  The document's disk: the walks of its Len, All.
-/
import Derived.Test.YtaeiifmdbdhoeaaDoorDRef
namespace Go.Proofs.YtaeiifmdbdhoeaaDoor
open Go.RowKit
open DP (W D)
set_option linter.unusedVariables false
set_option linter.unusedSimpArgs false

theorem put_any (A : Option Addr) (l : List ByteArray) (ca p i : Nat) (s : ByteArray) (w : World) (hA : A = none → ca = 0) (ha : Lies w w.heap.size A l) (hl : l.length ≤ 5000) (hp : p ≤ 1024) (hi : i ≤ 5000) (hn : A = none → l = []) :
    Calls Tryd.prog 41 #[.slice A l.length ca, .int .i64 p, .agg #[.int .i64 i, .string s]] w fun e w' => ∃ g cap, e = .returned (.slice (some ⟨g, 0, none⟩) (DP.put (DP.zero p) l ⟨i, s⟩).length cap) ∧ w'.ownsRow w.heap.size 9 1 (.slice (some ⟨g, 0, none⟩) (DP.put (DP.zero p) l ⟨i, s⟩).length cap) (DP.put (DP.zero p) l ⟨i, s⟩).length (strCells (DP.put (DP.zero p) l ⟨i, s⟩)) ∧ Below w.heap.size w w' := by
  cases A with
  | some a => exact put_some a l ca p i s w ha hl hp hi
  | none =>
    rw [hA rfl, hn rfl]
    exact put_none p i s w hp hi
theorem own_weaken {w : World} {base base' e size n : Nat} {v : Value} {xs : List Value} (h : w.ownsRow base e size v n xs) (hb : base' ≤ base) : w.ownsRow base' e size v n xs := by
  refine ⟨h.1, ?_⟩
  rcases h.2 with h2 | ⟨g, cap, cur, e1, h3, h4⟩
  · exact .inl h2
  · exact .inr ⟨g, cap, cur, e1, by omega, h4⟩
theorem take_succ_w (q : List W) (k : Nat) (x : W) (h : q[k]? = some x) : q.take (k + 1) = q.take k ++ [x] := by rw [List.take_add_one, h]; rfl

/-- A document's disk, as its calls read it. -/
structure Rd (w : World) (b : Nat) (d : D) (K P : Option Addr) (kc pc : Nat) (lf : Int) : Prop where
  six : Six w b d.p d.room d.reads (.slice K d.kept.length kc) (.slice P d.q.length pc) lf
  kept : Lies w w.heap.size K d.kept
  pend : LiesW w w.heap.size P d.q
  knone : K = none → kc = 0 ∧ d.kept = []
  few : d.kept.length ≤ 4096 ∧ d.q.length ≤ 5000 ∧ d.p ≤ 1024 ∧ ∀ x ∈ d.q, x.i < 4096
theorem Rd.below {w w' : World} {b : Nat} {d : D} {K P : Option Addr} {kc pc : Nat} {lf : Int} (h : Rd w b d K P kc pc lf) (k : Below w.heap.size w w') : Rd w' b d K P kc pc lf :=
  ⟨h.six.below k, h.kept.on k, h.pend.on k, h.knone, h.few⟩

set_option maxHeartbeats 1000000 in
set_option maxRecDepth 100000 in
theorem lenRef_any (b : Nat) (d : D) (K P : Option Addr) (kc pc : Nat) (lf : Int) (w : World) (h : Rd w b d K P kc pc lf) :
    Calls Tryd.prog 16 #[.pointer (some ⟨b, 0, none⟩)] w fun e w' => e = .returned (.int .i64 d.len) ∧ Below w.heap.size w w' := by
  obtain ⟨c0, c1, c2, c3, c4, c5⟩ := h.six.cells
  obtain ⟨hf0, hf1, hf2, hf3⟩ := h.few
  have HP := Lib.hid h.pend
  have HF := Lib.hid hf3
  obtain ⟨r, HR⟩ : ∃ r, Hid (r = d.len) := ⟨_, Lib.hid rfl⟩
  rw [← HR.out]
  have HD : Hid (d.len = DP.len d.kept.length d.q) := Lib.hid rfl
  have HS := Lib.hid (fun k x hx => take_succ_w d.q k x hx)
  have HM : Hid (∀ k, k ≤ d.q.length → DP.len d.kept.length (d.q.take k) ≤ 4096) := Lib.hid (fun k _ => DP.len_le hf0 (fun w hw => hf3 w (List.mem_of_mem_take hw)))
  obtain ⟨n, hn⟩ : ∃ n, n = d.q.length := ⟨_, rfl⟩
  have HN := Lib.hid hn
  obtain ⟨m, hm⟩ : ∃ m, m = d.kept.length := ⟨_, rfl⟩
  have HMM := Lib.hid hm
  rw [← hm] at c3 hf0
  rw [← hn] at c4 hf1
  clear hf3 h hn hm
  go_enter Tryd.func16, Tryd.ntmps16
  go_wp2_with fail
  go_loop [3, 4] (fun nv iv => ∃ k j : Nat, k ≤ n ∧ iv = .int .i64 k ∧ nv = .int .i64 j ∧ j ≤ 4096 ∧ Hid (j = DP.len m (d.q.take k))) (fun _ iv => n - (intOf iv).toNat)
  case atStart => exact ⟨0, m, by omega, rfl, rfl, by omega, Lib.hid rfl⟩
  case round =>
    obtain ⟨k, j, hk, rfl, rfl, hj, HJ⟩ := hrel
    by_cases hlt : k < n
    · obtain ⟨x, hx⟩ : ∃ c, d.q[k]? = some c := ⟨_, List.getElem?_eq_getElem (by have := HN.out; omega)⟩
      obtain ⟨a, rfl, hab, x0, x1⟩ := HP.out k x hx
      have hxi := HF.out x (List.mem_of_getElem? hx)
      have HE : Hid (DP.len m (d.q.take (k + 1)) = max (DP.len m (d.q.take k)) (x.i + 1)) := Lib.hid (by rw [HS.out k x hx, DP.len_snoc])
      obtain ⟨i, s⟩ := x
      simp only at x0 x1 hxi HE
      have hmx : max (j : Int) ((i : Int) + 1) = (max j (i + 1) : Nat) := by omega
      clear hx hab
      go_wp2_with fail
      go_round
      case rel => exact ⟨k + 1, max j (i + 1), by omega, by simp, by first | rfl | (congr 1), by omega, Lib.hid (by rw [HE.out, HJ.out])⟩
      case measure => simp [intOf]; omega
    · have HV : Hid (j = r) := Lib.hid (by rw [HR.out, HD.out, HJ.out, HMM.out, List.take_of_length_le (by have := HN.out; omega)])
      go_wp2_with fail
      go_ret
      exact ⟨by rw [HV.out]; rfl, Below.refl _ _⟩

theorem strs_six {w w' : World} {b : Nat} {p room reads lf : Int} {K P : Value} (h : Six w b p room reads K P lf) (k : Below w.heap.size w w') : w'.cell? ⟨b, 0, none⟩ = some (.int .i64 p) ∧ w'.cell? ⟨b, 4, none⟩ = some P := ⟨(h.below k).cells.1, (h.below k).cells.2.2.2.2.1⟩

set_option maxHeartbeats 2000000 in
set_option maxRecDepth 100000 in
theorem allRef_any (b : Nat) (d : D) (K P : Option Addr) (kc pc : Nat) (lf : Int) (w : World) (h : Rd w b d K P kc pc lf) :
    Calls Tryd.prog 20 #[.pointer (some ⟨b, 0, none⟩)] w fun e w' => ∃ g cap, e = .returned (.slice (some ⟨g, 0, none⟩) d.all.length cap) ∧ w'.ownsRow w.heap.size 9 1 (.slice (some ⟨g, 0, none⟩) d.all.length cap) d.all.length (strCells d.all) ∧ Below w.heap.size w w' := by
  obtain ⟨i0, hi0, hz0, hz1, hz2⟩ := info_parts Tryd.infoStr
  have H6 := Lib.hid h.six
  obtain ⟨hf0, hf1, hf2, hf3⟩ := h.few
  have HK := Lib.hid h.kept
  have HP := Lib.hid h.pend
  have HF := Lib.hid hf3
  have hkn := h.knone
  obtain ⟨c0, c1, c2, c3, c4, c5⟩ := h.six.cells
  obtain ⟨out, hout⟩ : ∃ out, out = d.all := ⟨_, rfl⟩
  have HOUT : Hid (out = DP.all (DP.zero d.p) d.kept d.q) := Lib.hid hout
  rw [← hout]
  have HS := Lib.hid (fun k x hx => take_succ_w d.q k x hx)
  have HLN : Hid (∀ k, k ≤ d.q.length → (DP.all (DP.zero d.p) d.kept (d.q.take k)).length ≤ 4096) := Lib.hid (fun k _ => by
    rw [DP.all_length]
    exact DP.len_le hf0 (fun w hw => hf3 w (List.mem_of_mem_take hw)))
  have HPUT := Lib.hid (fun (g cap : Nat) (l : List ByteArray) (i : Nat) (s : ByteArray) (W : World) ha hl hi => put_any (some ⟨g, 0, none⟩) l cap d.p i s W (fun e => by cases e) ha hl hf2 hi (fun e => by cases e))
  have hsc : Hid ((strCells d.kept).length = d.kept.length) := Lib.hid (strCells_length _)
  obtain ⟨n, hn⟩ : ∃ n, n = d.q.length := ⟨_, rfl⟩
  have HN := Lib.hid hn
  obtain ⟨m, hm⟩ : ∃ m, m = d.kept.length := ⟨_, rfl⟩
  have HMM := Lib.hid hm
  rw [← hm] at c3 hf0
  rw [← hn] at c4 hf1
  clear hf3 h hn hm hout
  have c3' : ∀ W, Below w.heap.size w W → W.cell? ⟨b, 3, none⟩ = some (.slice K m kc) := fun W hW => by
    have h1 := (H6.out.below hW).cells.2.2.2.1
    rwa [← HMM.out] at h1
  have c3a := c3' _ (below_alloc w (.cells #[] 9))
  clear c3'
  -- the pages that are kept, in a row of the call's own
  cases K with
  | none =>
    obtain ⟨rfl, hk0⟩ := hkn rfl
    obtain rfl : m = 0 := by rw [HMM.out, hk0]; rfl
    have hown1 := own_empty w 9 1
    have hb1 := below_alloc w (.cells #[] 9)
    go_enter Tryd.func20, Tryd.ntmps20
    go_wp2_with (at_builtin; refine wpList_append_own_none _ rfl _ _ 39 rfl w.heap.size 9 i0 1 Tryd.underlying39 hi0 (.slice (some ⟨w.heap.size, 0, none⟩) 0 0) 0 [] rfl (own_empty w 9 1) rfl ?_)
    obtain ⟨g1, hg1⟩ : ∃ g1, g1 = w.heap.size := ⟨_, rfl⟩
    obtain ⟨cap1, hc1⟩ : ∃ cap1, cap1 = 0 := ⟨_, rfl⟩
    have HO1 : Hid ((w.alloc (.cells #[] 9)).ownsRow w.heap.size 9 1 (.slice (some ⟨g1, 0, none⟩) 0 cap1) 0 (strCells (DP.all (DP.zero d.p) d.kept (d.q.take 0)))) := Lib.hid (by rw [hg1, hc1, hk0]; exact hown1)
    have hsl : (Value.slice (some ⟨w.heap.size, 0, none⟩) 0 0) = .slice (some ⟨g1, 0, none⟩) 0 cap1 := by rw [hg1, hc1]
    rw [hsl]
    generalize w.alloc (.cells #[] 9) = w1 at *
    clear hsl hg1 hc1 c3a hk0 hkn
    have HB1 : Hid (Below w.heap.size w w1) := Lib.hid hb1
    clear hb1 hown1 c3 c0 c1 c2 c5
    go_loopw [3, 4] (fun ov iv wr => ∃ k g q cap : Nat, k ≤ n ∧ iv = .int .i64 k ∧ ov = .slice (some ⟨g, 0, none⟩) q cap ∧ Hid (q = (DP.all (DP.zero d.p) d.kept (d.q.take k)).length) ∧ Hid (wr.ownsRow w.heap.size 9 1 (.slice (some ⟨g, 0, none⟩) q cap) q (strCells (DP.all (DP.zero d.p) d.kept (d.q.take k)))) ∧ Below w.heap.size w wr) (fun _ iv _ => n - (intOf iv).toNat)
    case atStart => exact ⟨0, g1, 0, cap1, by omega, rfl, rfl, Lib.hid HMM.out, HO1, HB1.out⟩
    case round =>
      obtain ⟨k, g, q, cap, hk, rfl, rfl, HQL, HO, hbr⟩ := hrel
      have c4' := (H6.out.below hbr).cells.2.2.2.2.1
      rw [← HN.out] at c4'
      by_cases hlt : k < n
      · obtain ⟨x, hx⟩ : ∃ c, d.q[k]? = some c := ⟨_, List.getElem?_eq_getElem (by have := HN.out; omega)⟩
        obtain ⟨a', rfl, hab, x0, x1⟩ := HP.out k x hx
        have hxi := HF.out x (List.mem_of_getElem? hx)
        have HE : Hid (DP.all (DP.zero d.p) d.kept (d.q.take (k + 1)) = DP.put (DP.zero d.p) (DP.all (DP.zero d.p) d.kept (d.q.take k)) x) := Lib.hid (by rw [HS.out k x hx, DP.all_snoc])
        have HQ5 := HLN.out k (by have := HN.out; omega)
        have HPT := Lib.hid (fun W (hW : Lies W W.heap.size (some ⟨g, 0, none⟩) (DP.all (DP.zero d.p) d.kept (d.q.take k))) => HPUT.out g cap _ x.i x.s W hW (by omega) (by omega))
        rw [← HQL.out] at HPT
        obtain ⟨i, s⟩ := x
        simp only at x0 x1 hxi HE HPT
        have HKC : Hid (∀ W, Below w.heap.size w W → W.cell? ⟨b, 0, none⟩ = some (.int .i64 (d.p : Int)) ∧ W.cell? ⟨b, 4, none⟩ = some (.slice (some a') n pc) ∧ W.cell? (a'.add (k * 2)) = some (.int .i64 i) ∧ W.cell? ⟨(a'.add (k * 2)).block, (a'.add (k * 2)).off + 1, none⟩ = some (.string s)) := Lib.hid (fun W hW => by
          have h1 := (H6.out.below hW).cells
          rw [← HN.out] at h1
          exact ⟨h1.1, h1.2.2.2.2.1, (hW.cell (by rw [addr_block]; exact hab)).trans x0, (hW.cell (by show (a'.add (k * 2)).block < _; rw [addr_block]; exact hab)).trans x1⟩)
        have HS0 : Hid ((wr.drew.cell? ⟨b, 0, none⟩ = some (.int .i64 (d.p : Int)) ∧ wr.drew.cell? ⟨b, 4, none⟩ = some (.slice (some a') n pc) ∧ wr.drew.cell? (a'.add (k * 2)) = some (.int .i64 i) ∧ wr.drew.cell? ⟨(a'.add (k * 2)).block, (a'.add (k * 2)).off + 1, none⟩ = some (.string s)) ∧ Hid (Below w.heap.size w wr.drew)) := Lib.hid ⟨HKC.out wr.drew hbr.drew, Lib.hid hbr.drew⟩
        have HKP : Hid (∀ W W' : World, Below W.heap.size W W' → ((W.cell? ⟨b, 0, none⟩ = some (.int .i64 (d.p : Int)) ∧ W.cell? ⟨b, 4, none⟩ = some (.slice (some a') n pc) ∧ W.cell? (a'.add (k * 2)) = some (.int .i64 i) ∧ W.cell? ⟨(a'.add (k * 2)).block, (a'.add (k * 2)).off + 1, none⟩ = some (.string s)) ∧ Hid (Below w.heap.size w W)) → ((W'.cell? ⟨b, 0, none⟩ = some (.int .i64 (d.p : Int)) ∧ W'.cell? ⟨b, 4, none⟩ = some (.slice (some a') n pc) ∧ W'.cell? (a'.add (k * 2)) = some (.int .i64 i) ∧ W'.cell? ⟨(a'.add (k * 2)).block, (a'.add (k * 2)).off + 1, none⟩ = some (.string s)) ∧ Hid (Below w.heap.size w W'))) := Lib.hid (fun W W' hW hh => ⟨HKC.out W' (hh.2.out.trans' hW), Lib.hid (hh.2.out.trans' hW)⟩)
        have HLS : Hid (Lies wr.drew wr.drew.heap.size (some ⟨g, 0, none⟩) (DP.all (DP.zero d.p) d.kept (d.q.take k))) := Lib.hid (lies_own (w := wr.drew) HO.out.drew HQL.out)
        have hk0 : (0 : Int) ≤ k := by omega
        have hkn' : (k : Int) < n := by omega
        clear hx hab x0 x1
        go_wp2_with fail
        go_region_held3 (fun W => (W.cell? ⟨b, 0, none⟩ = some (.int .i64 (d.p : Int)) ∧ W.cell? ⟨b, 4, none⟩ = some (.slice (some a') n pc) ∧ W.cell? (a'.add (k * 2)) = some (.int .i64 i) ∧ W.cell? ⟨(a'.add (k * 2)).block, (a'.add (k * 2)).off + 1, none⟩ = some (.string s)) ∧ Hid (Below w.heap.size w W))
          (first | assumption | exact HS0.out | exact HKP.out _ _ (by assumption) (by assumption))
          (first
            | (go_at_call 41; refine (HPT.out _ HLS.out).mono ?_; rintro e w2 ⟨g', cap', rfl, hown2, hb2⟩)
            | fail "no arm")
        have hb3 : Below w.heap.size w w2 := hbr.trans' (below_of_drew hb2)
        have HO2 := Lib.hid (own_weaken hown2 (show w.heap.size ≤ wr.heap.size from hbr.size))
        clear hown2
        go_wp2_with fail
        go_roundw
        case rel => exact ⟨k + 1, g', _, cap', by omega, by simp, rfl, Lib.hid (by rw [HE.out]), by rw [HE.out]; exact HO2, hb3⟩
        case measure => simp [intOf]; omega
      · have hlast : Hid (DP.all (DP.zero d.p) d.kept (d.q.take k) = out) := Lib.hid (by rw [HOUT.out, List.take_of_length_le (by have := HN.out; omega)])
        go_wp2_with fail
        go_ret
        refine ⟨g, cap, by rw [← hlast.out, ← HQL.out]; try rfl, ?_, hbr⟩
        rw [← hlast.out, ← HQL.out]
        exact HO.out
  | some a =>
    have HNW : Hid (∀ W, Below w.heap.size w W → ∀ j u, (strCells d.kept)[j]? = some u → W.cell? (a.add j) = some u) := Lib.hid (fun W hW => lies_news (HK.out.on hW))
    go_enter Tryd.func20, Tryd.ntmps20
    go_wp2_with (at_builtin; refine wpList_append_own _ rfl _ _ 39 rfl w.heap.size 9 i0 (.string ⟨#[]⟩) 1 16 Tryd.underlying39 hi0 hz0 hz1 hz2 rfl (by decide) (.slice (some ⟨w.heap.size, 0, none⟩) 0 0) 0 [] rfl (own_empty w 9 1) a m kc (strCells d.kept) rfl (by rw [hsc.out, HMM.out]; omega) (HNW.out _ (below_alloc _ _)) (strs_one _) (by unfold maxLen; omega) (by omega) (by simp) ?_; intro v1 w1 hown1 hgrow1 hnil1)
    rw [Nat.zero_add, List.nil_append] at hown1
    obtain ⟨g1, cap1, rfl, hcap1⟩ := own_some hown1 (fun e => by have := hnil1.1 e; simp at this)
    have hb1 : Below w.heap.size w w1 := (below_alloc w (.cells #[] 9)).trans (own_apart (own_empty w 9 1) hgrow1 (Nat.le_refl _) (by simp))
    have HO1 : Hid (w1.ownsRow w.heap.size 9 1 (.slice (some ⟨g1, 0, none⟩) m cap1) m (strCells (DP.all (DP.zero d.p) d.kept (d.q.take 0)))) := Lib.hid hown1
    clear hgrow1 hnil1 c3a
    have HB1 : Hid (Below w.heap.size w w1) := Lib.hid hb1
    clear hb1 hown1 c3 c0 c1 c2 c5
    go_loopw [3, 4] (fun ov iv wr => ∃ k g q cap : Nat, k ≤ n ∧ iv = .int .i64 k ∧ ov = .slice (some ⟨g, 0, none⟩) q cap ∧ Hid (q = (DP.all (DP.zero d.p) d.kept (d.q.take k)).length) ∧ Hid (wr.ownsRow w.heap.size 9 1 (.slice (some ⟨g, 0, none⟩) q cap) q (strCells (DP.all (DP.zero d.p) d.kept (d.q.take k)))) ∧ Below w.heap.size w wr) (fun _ iv _ => n - (intOf iv).toNat)
    case atStart => exact ⟨0, g1, m, cap1, by omega, rfl, rfl, Lib.hid HMM.out, HO1, HB1.out⟩
    case round =>
      obtain ⟨k, g, q, cap, hk, rfl, rfl, HQL, HO, hbr⟩ := hrel
      have c4' := (H6.out.below hbr).cells.2.2.2.2.1
      rw [← HN.out] at c4'
      by_cases hlt : k < n
      · obtain ⟨x, hx⟩ : ∃ c, d.q[k]? = some c := ⟨_, List.getElem?_eq_getElem (by have := HN.out; omega)⟩
        obtain ⟨a', rfl, hab, x0, x1⟩ := HP.out k x hx
        have hxi := HF.out x (List.mem_of_getElem? hx)
        have HE : Hid (DP.all (DP.zero d.p) d.kept (d.q.take (k + 1)) = DP.put (DP.zero d.p) (DP.all (DP.zero d.p) d.kept (d.q.take k)) x) := Lib.hid (by rw [HS.out k x hx, DP.all_snoc])
        have HQ5 := HLN.out k (by have := HN.out; omega)
        have HPT := Lib.hid (fun W (hW : Lies W W.heap.size (some ⟨g, 0, none⟩) (DP.all (DP.zero d.p) d.kept (d.q.take k))) => HPUT.out g cap _ x.i x.s W hW (by omega) (by omega))
        rw [← HQL.out] at HPT
        obtain ⟨i, s⟩ := x
        simp only at x0 x1 hxi HE HPT
        have HKC : Hid (∀ W, Below w.heap.size w W → W.cell? ⟨b, 0, none⟩ = some (.int .i64 (d.p : Int)) ∧ W.cell? ⟨b, 4, none⟩ = some (.slice (some a') n pc) ∧ W.cell? (a'.add (k * 2)) = some (.int .i64 i) ∧ W.cell? ⟨(a'.add (k * 2)).block, (a'.add (k * 2)).off + 1, none⟩ = some (.string s)) := Lib.hid (fun W hW => by
          have h1 := (H6.out.below hW).cells
          rw [← HN.out] at h1
          exact ⟨h1.1, h1.2.2.2.2.1, (hW.cell (by rw [addr_block]; exact hab)).trans x0, (hW.cell (by show (a'.add (k * 2)).block < _; rw [addr_block]; exact hab)).trans x1⟩)
        have HS0 : Hid ((wr.drew.cell? ⟨b, 0, none⟩ = some (.int .i64 (d.p : Int)) ∧ wr.drew.cell? ⟨b, 4, none⟩ = some (.slice (some a') n pc) ∧ wr.drew.cell? (a'.add (k * 2)) = some (.int .i64 i) ∧ wr.drew.cell? ⟨(a'.add (k * 2)).block, (a'.add (k * 2)).off + 1, none⟩ = some (.string s)) ∧ Hid (Below w.heap.size w wr.drew)) := Lib.hid ⟨HKC.out wr.drew hbr.drew, Lib.hid hbr.drew⟩
        have HKP : Hid (∀ W W' : World, Below W.heap.size W W' → ((W.cell? ⟨b, 0, none⟩ = some (.int .i64 (d.p : Int)) ∧ W.cell? ⟨b, 4, none⟩ = some (.slice (some a') n pc) ∧ W.cell? (a'.add (k * 2)) = some (.int .i64 i) ∧ W.cell? ⟨(a'.add (k * 2)).block, (a'.add (k * 2)).off + 1, none⟩ = some (.string s)) ∧ Hid (Below w.heap.size w W)) → ((W'.cell? ⟨b, 0, none⟩ = some (.int .i64 (d.p : Int)) ∧ W'.cell? ⟨b, 4, none⟩ = some (.slice (some a') n pc) ∧ W'.cell? (a'.add (k * 2)) = some (.int .i64 i) ∧ W'.cell? ⟨(a'.add (k * 2)).block, (a'.add (k * 2)).off + 1, none⟩ = some (.string s)) ∧ Hid (Below w.heap.size w W'))) := Lib.hid (fun W W' hW hh => ⟨HKC.out W' (hh.2.out.trans' hW), Lib.hid (hh.2.out.trans' hW)⟩)
        have HLS : Hid (Lies wr.drew wr.drew.heap.size (some ⟨g, 0, none⟩) (DP.all (DP.zero d.p) d.kept (d.q.take k))) := Lib.hid (lies_own (w := wr.drew) HO.out.drew HQL.out)
        have hk0 : (0 : Int) ≤ k := by omega
        have hkn' : (k : Int) < n := by omega
        clear hx hab x0 x1
        go_wp2_with fail
        go_region_held3 (fun W => (W.cell? ⟨b, 0, none⟩ = some (.int .i64 (d.p : Int)) ∧ W.cell? ⟨b, 4, none⟩ = some (.slice (some a') n pc) ∧ W.cell? (a'.add (k * 2)) = some (.int .i64 i) ∧ W.cell? ⟨(a'.add (k * 2)).block, (a'.add (k * 2)).off + 1, none⟩ = some (.string s)) ∧ Hid (Below w.heap.size w W))
          (first | assumption | exact HS0.out | exact HKP.out _ _ (by assumption) (by assumption))
          (first
            | (go_at_call 41; refine (HPT.out _ HLS.out).mono ?_; rintro e w2 ⟨g', cap', rfl, hown2, hb2⟩)
            | fail "no arm")
        have hb3 : Below w.heap.size w w2 := hbr.trans' (below_of_drew hb2)
        have HO2 := Lib.hid (own_weaken hown2 (show w.heap.size ≤ wr.heap.size from hbr.size))
        clear hown2
        go_wp2_with fail
        go_roundw
        case rel => exact ⟨k + 1, g', _, cap', by omega, by simp, rfl, Lib.hid (by rw [HE.out]), by rw [HE.out]; exact HO2, hb3⟩
        case measure => simp [intOf]; omega
      · have hlast : Hid (DP.all (DP.zero d.p) d.kept (d.q.take k) = out) := Lib.hid (by rw [HOUT.out, List.take_of_length_le (by have := HN.out; omega)])
        go_wp2_with fail
        go_ret
        refine ⟨g, cap, by rw [← hlast.out, ← HQL.out]; try rfl, ?_, hbr⟩
        rw [← hlast.out, ← HQL.out]
        exact HO.out
end Go.Proofs.YtaeiifmdbdhoeaaDoor
