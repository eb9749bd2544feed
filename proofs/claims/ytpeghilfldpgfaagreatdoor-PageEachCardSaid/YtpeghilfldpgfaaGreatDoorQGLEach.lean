import Derived.Test.YtpeghilfldpgfaaGreatDoorQ16
import Derived.Test.YtpeghilfldpgfaaGreatDoorQICut
import Derived.Test.YtpeghilfldpgfaaGreatDoorQNCut
namespace Go.Proofs.YtpeghilfldpgfaaGreatDoor
open Go.RowKit
set_option linter.unusedVariables false
set_option linter.unusedSimpArgs false
theorem l_back {l : L10.NP.Lf} {S : ByteArray} (h : L10.NP.enc l 128 = (S, 0)) : GP.dec S = some (GP.ofL l) := by
  obtain ⟨h1, h2, h3⟩ := L10.NP.enc_ok h
  have hs : S.size = 128 := by
    rw [h3]
    show (L10.NP.page l 128).toArray.size = 128
    rw [List.size_toArray]
    exact L10.NP.page_length (by decide) (by omega)
  exact GP.dec_l ((L10.NP.dec_iff _ _).2 (by rw [hs]; exact h))
theorem n_back {n : L11.IP.Inn} {S : ByteArray} (h : L11.IP.enc n 128 = (S, 0)) : GP.dec S = some (GP.ofN n) := by
  obtain ⟨h1, h2, h3⟩ := L11.IP.enc_ok h
  have hs : S.size = 128 := by
    rw [h3]
    show (L11.IP.page n 128).toArray.size = 128
    rw [List.size_toArray]
    exact L11.IP.page_length (by decide) (by omega)
  exact GP.dec_n ((L11.IP.dec_iff _ _).2 (by rw [hs]; exact h))
theorem c_back {F N : Int} {D : ByteArray} {S : ByteArray} (h : L12.CP.enc F N D 128 = (S, 0)) : GP.dec S = some (GP.ofC (F, N, D)) := by
  obtain ⟨h1, h3⟩ := L12.CP.enc_ok h
  have hs : S.size = 128 := by
    rw [h3]
    show (L12.CP.page F N D 128).toArray.size = 128
    rw [List.size_toArray]
    exact L7.page_size _ D 128 (by have := h1.2.2.2.1; omega)
  exact GP.dec_c ((L12.CP.dec_iff _ _ _ _).2 (by rw [hs]; exact h))
theorem m_back {m : L13.MP.Mt} {S : ByteArray} (h : L13.MP.enc m = (S, 0)) : GP.dec S = some (GP.ofM m) := GP.dec_m ((L13.MP.dec_iff _ _).2 h)
def Fx (g : Nat) (m : Mv) (a : LV) (b : NV) (c : CV) (w : World) : Prop := w.heap[g]? = some (.cells #[.int .i64 m.p, .int .i64 m.pg, .int .i64 m.r, .int .i64 m.l, .int .i64 m.n, .int .i64 a.F, .int .i64 a.R, .string a.H, .slice a.A a.n a.ca, .int .i64 b.F, .int .i64 b.L, .int .i64 b.R, .string b.H, .slice b.A b.n b.ca, .slice b.C b.m b.cb, .int .i64 c.F, .int .i64 c.N, .string c.D] 74 (0, 0))
theorem Fx.below {g : Nat} {m : Mv} {a : LV} {b : NV} {c : CV} {w w' : World} (k : Fx g m a b c w) (h : Below w.heap.size w w') : Fx g m a b c w' := (h.block g (Array.getElem?_eq_some_iff.1 k).1).trans k
theorem Fx.cells {g : Nat} {m : Mv} {a : LV} {b : NV} {c : CV} {w : World} (k : Fx g m a b c w) : w.cell? ⟨g, 0, none⟩ = some (.int .i64 m.p) ∧ w.cell? ⟨g, 1, none⟩ = some (.int .i64 m.pg) ∧ w.cell? ⟨g, 2, none⟩ = some (.int .i64 m.r) ∧ w.cell? ⟨g, 3, none⟩ = some (.int .i64 m.l) ∧ w.cell? ⟨g, 4, none⟩ = some (.int .i64 m.n) ∧ w.cell? ⟨g, 5, none⟩ = some (.int .i64 a.F) ∧ w.cell? ⟨g, 6, none⟩ = some (.int .i64 a.R) ∧ w.cell? ⟨g, 7, none⟩ = some (.string a.H) ∧ w.cell? ⟨g, 8, none⟩ = some (.slice a.A a.n a.ca) ∧ w.cell? ⟨g, 9, none⟩ = some (.int .i64 b.F) ∧ w.cell? ⟨g, 10, none⟩ = some (.int .i64 b.L) ∧ w.cell? ⟨g, 11, none⟩ = some (.int .i64 b.R) ∧ w.cell? ⟨g, 12, none⟩ = some (.string b.H) ∧ w.cell? ⟨g, 13, none⟩ = some (.slice b.A b.n b.ca) ∧ w.cell? ⟨g, 14, none⟩ = some (.slice b.C b.m b.cb) ∧ w.cell? ⟨g, 15, none⟩ = some (.int .i64 c.F) ∧ w.cell? ⟨g, 16, none⟩ = some (.int .i64 c.N) ∧ w.cell? ⟨g, 17, none⟩ = some (.string c.D) := by
  unfold Fx at k
  refine ⟨?_, ?_, ?_, ?_, ?_, ?_, ?_, ?_, ?_, ?_, ?_, ?_, ?_, ?_, ?_, ?_, ?_, ?_⟩ <;> simp [World.cell?, k]
theorem row4S {U : World} {g : Nat} {s1 s2 s3 s4 : ByteArray} (h : U.heap[g]? = some (.cells #[.string s1, .string s2, .string s3, .string s4] 9 (0, 0))) (W : World) (hb : Below U.heap.size U W) (j : Nat) (hj : j < 4) : W.cell? ⟨g, j, none⟩ = some (.string ([s1, s2, s3, s4].getD j ⟨#[]⟩)) := by
  rw [cell_of_row _ _ j _ _ _ ((hb.block g (Array.getElem?_eq_some_iff.1 h).1).trans h)]
  rcases (show j = 0 ∨ j = 1 ∨ j = 2 ∨ j = 3 by omega) with rfl | rfl | rfl | rfl <;> rfl
theorem row4B {U : World} {g : Nat} {b1 b2 b3 b4 : Bool} (h : U.heap[g]? = some (.cells #[.bool b1, .bool b2, .bool b3, .bool b4] 4 (0, 0))) (W : World) (hb : Below U.heap.size U W) (j : Nat) (hj : j < 4) : W.cell? ⟨g, j, none⟩ = some (.bool ([b1, b2, b3, b4].getD j false)) := by
  rw [cell_of_row _ _ j _ _ _ ((hb.block g (Array.getElem?_eq_some_iff.1 h).1).trans h)]
  rcases (show j = 0 ∨ j = 1 ∨ j = 2 ∨ j = 3 by omega) with rfl | rfl | rfl | rfl <;> rfl
theorem row4I {U : World} {g : Nat} {n1 n2 n3 n4 : Int} (h : U.heap[g]? = some (.cells #[.int .i64 n1, .int .i64 n2, .int .i64 n3, .int .i64 n4] 3 (0, 0))) (W : World) (hb : Below U.heap.size U W) (j : Nat) (hj : j < 4) : W.cell? ⟨g, j, none⟩ = some (.int .i64 ([n1, n2, n3, n4].getD j 0)) := by
  rw [cell_of_row _ _ j _ _ _ ((hb.block g (Array.getElem?_eq_some_iff.1 h).1).trans h)]
  rcases (show j = 0 ∨ j = 1 ∨ j = 2 ∨ j = 3 by omega) with rfl | rfl | rfl | rfl <;> rfl
theorem rem9 {a k : Nat} (ha : a ≤ 255) (hk : a % 9 = k) : (wrap64 (a : Int)).tmod 9 = (k : Int) := by
  rw [IntWalk.wrap64_in (a : Int) (by clear hk; omega), show (a : Int).tmod 9 = ((a % 9 : Nat) : Int) from rfl, hk]
theorem own9 {w : World} {g : Nat} (h : w.ownsRow g 9 1 (.slice (some ⟨g, 0, none⟩) 9 9) 9 (madeCells (Value.string ⟨#[]⟩).cells (9 * 1)).toList) : w.ownsRow g 9 1 (.slice (some ⟨g, 0, none⟩) 9 9) 9 (L5.strCells (List.replicate 9 ⟨#[]⟩)) := by
  rw [Nat.mul_one, show (Value.string ⟨#[]⟩).cells = #[.string ⟨#[]⟩] from rfl, toList_madeCells_one] at h
  exact h
theorem cell9 {k : Nat} (h : k < 9) : (L5.strCells (List.replicate 9 ⟨#[]⟩))[k]? = some (.string ⟨#[]⟩) := by
  rcases (show k = 0 ∨ k = 1 ∨ k = 2 ∨ k = 3 ∨ k = 4 ∨ k = 5 ∨ k = 6 ∨ k = 7 ∨ k = 8 by omega) with rfl | rfl | rfl | rfl | rfl | rfl | rfl | rfl | rfl <;> rfl
theorem below_set {V w2 : World} {g : Nat} (hg : V.heap.size = g) (h : Below V.heap.size V w2) (k : Nat) (v : Value) : Below V.heap.size V (w2.setCell ⟨g, k, none⟩ v) := h.setCell (p := ⟨g, k, none⟩) (Nat.le_of_eq hg) v
theorem yieldsPE {ops : Array Oper} {o : Oper} {q : Act} {S : World → Prop} (x : Operand) (ho : o.op = .load 35 x) (hw : Region.wanted o (yielded ops q.tmps) = true) {g : Nat} {t : TypeId} {k : Int} {a : LV} {b : NV} {c : CV} {m : Mv} (hx : q.eval x = .pointer (some ⟨g, 0, none⟩)) (hS : ∀ w, S w → Gx t g k a b c m w) : YieldsIf Tryz.prog ops S o (gv k a b c m) q :=
  .inl ⟨hw, fun w hw' => by
    unfold execOp
    simp only [ho, hx, Instr.loadAt, Instr.sureAddr, Sem.run_bind, Sem.run_pure, Result.andThen_ok, load_pageP (hS w hw')]⟩
structure FourOk (w : World) (a : LV) (b : NV) (l : L10.NP.Lf) (n : L11.IP.Inn) : Prop where
  hl : HasL w a l
  hn : HasN w b n
  lh : l.high.size ≤ maxLen
  li : l.items.length ≤ maxLen
  ls : ∀ x ∈ l.items, x.k.size ≤ maxLen ∧ x.s.size ≤ maxLen
  nn : b.n ≤ maxLen
  nc : b.ca ≤ maxLen
  nm : b.m ≤ maxLen
  nh : n.high.size ≤ maxLen
  ns : ∀ s ∈ n.seps, s.size ≤ maxLen
def cutL10 (l : L10.NP.Lf) : L10.NP.Lf := ⟨l.self, l.right, L10.cutH l.high, L10.cut20 l.items⟩
def cutN11 (n : L11.IP.Inn) : L11.IP.Inn := ⟨n.self, n.level, n.right, L11.cutH n.high, n.kids.take 30, L11.cutSs n.seps⟩
section
variable {w : World} {a : LV} {b : NV} {l : L10.NP.Lf} {n : L11.IP.Inn} (h : FourOk w a b l n)
include h
theorem FourOk.cutL (W : World) (hb : Below w.heap.size w W) : Calls Tryz.prog 33 #[lvO a] W fun e w' => ∃ a' : LV, e = .returned (lvO a') ∧ HasL w' a' (cutL10 l) ∧ Below W.heap.size W w' := by
  have k := L10.cutO_any a.F a.R a.H a.A l.items a.ca W (h.hl.rows.on hb) (Nat.le_trans h.li (by decide)) (by rw [h.hl.h]; exact h.lh) h.ls
  rw [← h.hl.n] at k
  refine k.mono ?_
  rintro e w' ⟨G, cap, rfl, h2, h3⟩
  exact ⟨⟨a.F, a.R, L10.cutH a.H, G, _, cap⟩, rfl, ⟨h.hl.f, h.hl.r, by rw [h.hl.h]; rfl, rfl, L10.lies5_own h2 rfl⟩, h3⟩
theorem FourOk.cutN (W : World) (hb : Below w.heap.size w W) : Calls Tryz.prog 35 #[nvO b] W fun e w' => ∃ b' : NV, e = .returned (nvO b') ∧ HasN w' b' (cutN11 n) ∧ Below W.heap.size W w' := by
  have k := L11.cutO_any b.F b.L b.R b.H b.A b.n b.ca b.C b.m b.cb n.kids n.seps W (h.hn.rows.on hb) h.nn h.nc h.nm (by rw [h.hn.h]; exact h.nh) h.ns
  refine k.mono ?_
  rintro e w' ⟨G, gc, D, dc, rfl, h2, h3, h4⟩
  have e1 : (n.kids.take 30).length = min 30 b.n := by rw [List.length_take, h.hn.rows.nk]
  have e2 : (L11.cutSs n.seps).length = min 30 b.m := by
    have := h3.1
    rw [L5.strCells_length] at this
    omega
  refine ⟨⟨b.F, b.L, b.R, L11.cutH b.H, some ⟨G, 0, none⟩, min 30 b.n, gc, some ⟨D, 0, none⟩, min 30 b.m, dc⟩, rfl, ⟨h.hn.f, h.hn.l, h.hn.r, by rw [h.hn.h]; rfl, ⟨L11.liesN_own h2 e1.symm, L5.lies_own h3 e2.symm, e1, e2, ?_, ?_⟩⟩, h4⟩
  · exact L5.own_cap h2
  · exact L5.own_cap h3
end
theorem encL10 {w W : World} {a' : LV} {l : L10.NP.Lf} {S : ByteArray} {r : Int} (he : L10.NP.enc (cutL10 l) 128 = (S, r)) (hg : L10.Glo W) (h : HasL W a' (cutL10 l)) : Calls Tryz.prog 32 #[lvO a', .int .i64 128] W fun e w' => e = .returned (.tuple #[.string S, .int .i64 r]) ∧ Below W.heap.size W w' := by
  have hn : (L10.cut20 l.items).length ≤ 1000 := by simp [L10.cut20]; omega
  have hh : (L10.cutH l.high).size ≤ maxLen := by unfold L10.cutH; rw [ByteArray.size_extract]; unfold maxLen; omega
  have k := L10.enc_any a'.F a'.R a'.H a'.A (L10.cut20 l.items) a'.ca 128 W hg.sizes h.rows hn (by rw [h.h]; exact hh)
  rw [show (L10.cut20 l.items).length = a'.n from h.n.symm, show (⟨a'.F, a'.R, a'.H, L10.cut20 l.items⟩ : L10.NP.Lf) = cutL10 l from by rw [h.f, h.r, h.h]; rfl, L10.encV, he] at k
  exact k
theorem encN11 {w W : World} {b' : NV} {n : L11.IP.Inn} {S : ByteArray} {r : Int} (he : L11.IP.enc (cutN11 n) 128 = (S, r)) (hg : L10.Glo W) (h : HasN W b' (cutN11 n)) (hm : b'.n ≤ 1000) (hm2 : b'.m ≤ 1000) : Calls Tryz.prog 34 #[nvO b', .int .i64 128] W fun e w' => e = .returned (.tuple #[.string S, .int .i64 r]) ∧ Below W.heap.size W w' := by
  have k := L11.enc_any b'.F b'.L b'.R b'.H b'.A b'.n b'.ca b'.C b'.m b'.cb _ _ 128 W hg.sizes h.rows hm hm2
  rw [show (⟨b'.F, b'.L, b'.R, b'.H, (cutN11 n).kids, (cutN11 n).seps⟩ : L11.IP.Inn) = cutN11 n from by rw [h.f, h.l, h.r, h.h], L11.encV, he] at k
  exact k
theorem cutN_few {W : World} {b' : NV} {n : L11.IP.Inn} (h : HasN W b' (cutN11 n)) : b'.n ≤ 1000 ∧ b'.m ≤ 1000 := by
  have h1 := h.rows.nk
  have h2 := h.rows.nm
  have h3 : (cutN11 n).kids.length ≤ 30 := by simp [cutN11]; omega
  have h4 : (cutN11 n).seps.length ≤ 30 := by
    show (L11.cutSs n.seps).length ≤ 30
    unfold L11.cutSs
    cases n.seps with
    | nil => simp
    | cons s r => simp [L5.cutL]; omega
  omega
set_option maxHeartbeats 8000000 in
set_option maxRecDepth 100000 in
theorem pageEach_nat (m : Mv) (a : LV) (b : NV) (c : CV) (l : L10.NP.Lf) (n : L11.IP.Inn) (i : Nat) (w : World) (hg : L10.Glo w) (hf : FourOk w a b l n) (hi : i ≤ 255) :
    Calls Tryz.prog 6 #[.agg #[.int .i64 m.p, .int .i64 m.pg, .int .i64 m.r, .int .i64 m.l, .int .i64 m.n, .int .i64 a.F, .int .i64 a.R, .string a.H, .slice a.A a.n a.ca, .int .i64 b.F, .int .i64 b.L, .int .i64 b.R, .string b.H, .slice b.A b.n b.ca, .slice b.C b.m b.cb, .int .i64 c.F, .int .i64 c.N, .string c.D], .int .u8 i] w fun e w' => e = .returned (.bool true) ∧ Below w.heap.size w w' := by
  obtain ⟨i0, hi0, hz0, hz1, hz2⟩ := info_parts GC.Tryz.infoStrG
  obtain ⟨S1, r1, he1⟩ : ∃ S r, L13.MP.enc m = (S, r) := ⟨_, _, rfl⟩
  obtain ⟨S2, r2, he2⟩ : ∃ S r, L10.NP.enc (cutL10 l) 128 = (S, r) := ⟨_, _, rfl⟩
  obtain ⟨S3, r3, he3⟩ : ∃ S r, L11.IP.enc (cutN11 n) 128 = (S, r) := ⟨_, _, rfl⟩
  obtain ⟨S4, r4, he4⟩ : ∃ S r, L12.CP.enc c.F c.N (L12.cutD c.D) 128 = (S, r) := ⟨_, _, rfl⟩
  have HE1 : Hid (∀ W, Below w.heap.size w W → Calls Tryz.prog 31 #[L13.mv m.p m.pg m.r m.l m.n] W fun e w' => e = .returned (.tuple #[.string S1, .int .i64 r1]) ∧ Below W.heap.size W w') := Lib.hid fun W hb => by
    have k := L13.enc_any m.p m.pg m.r m.l m.n W (hg.on hb).sizes
    rw [L13.encV, show (⟨m.p, m.pg, m.r, m.l, m.n⟩ : L13.MP.Mt) = m from rfl, he1] at k
    exact k
  have HC2 := Lib.hid hf.cutL
  have HC3 := Lib.hid hf.cutN
  have HE2 := Lib.hid (fun W (hb : Below w.heap.size w W) a' (h : HasL W a' (cutL10 l)) => encL10 (w := w) he2 (hg.on hb) h)
  have HE3 := Lib.hid (fun W (hb : Below w.heap.size w W) b' (h : HasN W b' (cutN11 n)) => encN11 (w := w) he3 (hg.on hb) h (cutN_few h).1 (cutN_few h).2)
  have HE4 : Hid (∀ W, Below w.heap.size w W → Calls Tryz.prog 36 #[L12.cv c.F c.N (L12.cutD c.D), .int .i64 128] W fun e w' => e = .returned (.tuple #[.string S4, .int .i64 r4]) ∧ Below W.heap.size W w') := Lib.hid fun W hb => by
    have k := L12.enc_any c.F c.N (L12.cutD c.D) 128 W (hg.on hb).sizes
    rw [L12.encV, he4] at k
    exact k
  have HALL : Hid (∀ j, j < 4 → [r1 == 0, r2 == 0, r3 == 0, r4 == 0].getD j false = true → ∃ x, GP.dec ([S1, S2, S3, S4].getD j ⟨#[]⟩) = some x ∧ x.k = (j : Int) + 1 ∧ GP.self x = [0, a.F, b.F, c.F].getD j 0) := Lib.hid fun j hj hr => by
    rcases (show j = 0 ∨ j = 1 ∨ j = 2 ∨ j = 3 by omega) with rfl | rfl | rfl | rfl
    · have e : r1 = 0 := by simpa using hr
      subst e
      exact ⟨_, m_back he1, rfl, rfl⟩
    · have e : r2 = 0 := by simpa using hr
      subst e
      exact ⟨_, l_back he2, rfl, hf.hl.f.symm⟩
    · have e : r3 = 0 := by simpa using hr
      subst e
      exact ⟨_, n_back he3, rfl, hf.hn.f.symm⟩
    · have e : r4 = 0 := by simpa using hr
      subst e
      exact ⟨_, c_back he4, rfl, rfl⟩
  have HF : Hid Fixes := Lib.hid fixed_any
  have HG0 := Lib.hid hg
  have HI9 := Lib.hid hi
  have hb0 := L5.below_alloc w (.cells #[.int .i64 m.p, .int .i64 m.pg, .int .i64 m.r, .int .i64 m.l, .int .i64 m.n, .int .i64 a.F, .int .i64 a.R, .string a.H, .slice a.A a.n a.ca, .int .i64 b.F, .int .i64 b.L, .int .i64 b.R, .string b.H, .slice b.A b.n b.ca, .slice b.C b.m b.cb, .int .i64 c.F, .int .i64 c.N, .string c.D] 74)
  have HB := Lib.hid hb0
  have HG := Lib.hid (hg.on hb0)
  have HX : Hid (Fx w.heap.size m a b c (w.alloc (.cells #[.int .i64 m.p, .int .i64 m.pg, .int .i64 m.r, .int .i64 m.l, .int .i64 m.n, .int .i64 a.F, .int .i64 a.R, .string a.H, .slice a.A a.n a.ca, .int .i64 b.F, .int .i64 b.L, .int .i64 b.R, .string b.H, .slice b.A b.n b.ca, .slice b.C b.m b.cb, .int .i64 c.F, .int .i64 c.N, .string c.D] 74))) := Lib.hid (heap_alloc_new _ _)
  clear hg hf hi hb0 he1 he2 he3 he4
  generalize hw0 : w.alloc (.cells #[.int .i64 m.p, .int .i64 m.pg, .int .i64 m.r, .int .i64 m.l, .int .i64 m.n, .int .i64 a.F, .int .i64 a.R, .string a.H, .slice a.A a.n a.ca, .int .i64 b.F, .int .i64 b.L, .int .i64 b.R, .string b.H, .slice b.A b.n b.ca, .slice b.C b.m b.cb, .int .i64 c.F, .int .i64 c.N, .string c.D] 74) = W0 at *
  go_enter Tryz.func6, Tryz.ntmps6
  obtain ⟨x0, x1, x2, x3, x4, -⟩ := HX.out.cells
  go_wp2_with fail
  clear x0 x1 x2 x3 x4
  refine (HE1.out _ HB.out).mono ?_
  rintro e V ⟨rfl, hb⟩
  replace HB := Lib.hid (HB.out.trans' hb)
  replace HG := Lib.hid (HG.out.on hb)
  replace HX := Lib.hid (HX.out.below hb)
  clear hb
  obtain ⟨-, -, -, -, -, x5, x6, x7, x8, -⟩ := HX.out.cells
  go_wp2_with fail
  clear x5 x6 x7 x8
  refine (HC2.out _ HB.out).mono ?_
  rintro e V ⟨a2, rfl, hl, hb⟩
  replace HB := Lib.hid (HB.out.trans' hb)
  replace HG := Lib.hid (HG.out.on hb)
  replace HX := Lib.hid (HX.out.below hb)
  have HT := Lib.hid hl
  clear hl
  clear hb
  go_wp2_with fail
  refine (HE2.out _ HB.out a2 HT.out).mono ?_
  rintro e V ⟨rfl, hb⟩
  replace HB := Lib.hid (HB.out.trans' hb)
  replace HG := Lib.hid (HG.out.on hb)
  replace HX := Lib.hid (HX.out.below hb)
  clear HT
  clear hb
  obtain ⟨-, -, -, -, -, -, -, -, -, x9, x10, x11, x12, x13, x14, -⟩ := HX.out.cells
  go_wp2_with fail
  clear x9 x10 x11 x12 x13 x14
  refine (HC3.out _ HB.out).mono ?_
  rintro e V ⟨b2, rfl, hl, hb⟩
  replace HB := Lib.hid (HB.out.trans' hb)
  replace HG := Lib.hid (HG.out.on hb)
  replace HX := Lib.hid (HX.out.below hb)
  have HT := Lib.hid hl
  clear hl
  clear hb
  go_wp2_with fail
  refine (HE3.out _ HB.out b2 HT.out).mono ?_
  rintro e V ⟨rfl, hb⟩
  replace HB := Lib.hid (HB.out.trans' hb)
  replace HG := Lib.hid (HG.out.on hb)
  replace HX := Lib.hid (HX.out.below hb)
  clear HT
  clear hb
  obtain ⟨-, -, -, -, -, -, -, -, -, -, -, -, -, -, -, x15, x16, x17⟩ := HX.out.cells
  go_wp2_with fail
  clear x15 x16 x17
  refine (L12.cut_any c.F c.N c.D _).mono ?_
  rintro e V ⟨rfl, hb⟩
  replace HB := Lib.hid (HB.out.trans' hb)
  replace HG := Lib.hid (HG.out.on hb)
  replace HX := Lib.hid (HX.out.below hb)
  clear hb
  go_wp2_with fail
  refine (HE4.out _ HB.out).mono ?_
  rintro e V ⟨rfl, hb⟩
  have g1 := L5.below_alloc V (.cells #[.string S1, .string S2, .string S3, .string S4] 9)
  have g2 := L5.below_alloc (V.alloc (.cells #[.string S1, .string S2, .string S3, .string S4] 9)) (.cells #[.bool (r1 == 0), .bool (r2 == 0), .bool (r3 == 0), .bool (r4 == 0)] 4)
  have g3 := L5.below_alloc ((V.alloc (.cells #[.string S1, .string S2, .string S3, .string S4] 9)).alloc (.cells #[.bool (r1 == 0), .bool (r2 == 0), .bool (r3 == 0), .bool (r4 == 0)] 4)) (.cells #[.int .i64 0, .int .i64 a.F, .int .i64 b.F, .int .i64 c.F] 3)
  have hb2 := hb.trans' (g1.trans' g2)
  obtain ⟨-, -, -, -, -, y5, -, -, -, y9, -, -, -, -, -, y15, -, -⟩ := (HX.out.below hb2).cells
  have s1 : (V.alloc (.cells #[.string S1, .string S2, .string S3, .string S4] 9)).heap.size = V.heap.size + 1 := by simp
  have s2 : ((V.alloc (.cells #[.string S1, .string S2, .string S3, .string S4] 9)).alloc (.cells #[.bool (r1 == 0), .bool (r2 == 0), .bool (r3 == 0), .bool (r4 == 0)] 4)).heap.size = V.heap.size + 1 + 1 := by simp
  have HR1 : Hid ((((V.alloc (.cells #[.string S1, .string S2, .string S3, .string S4] 9)).alloc (.cells #[.bool (r1 == 0), .bool (r2 == 0), .bool (r3 == 0), .bool (r4 == 0)] 4)).alloc (.cells #[.int .i64 0, .int .i64 a.F, .int .i64 b.F, .int .i64 c.F] 3)).heap[V.heap.size]? = some (.cells #[.string S1, .string S2, .string S3, .string S4] 9 (0, 0))) := Lib.hid (((g2.trans' g3).block _ (by simp)).trans (heap_alloc_new _ _))
  have HR2 : Hid ((((V.alloc (.cells #[.string S1, .string S2, .string S3, .string S4] 9)).alloc (.cells #[.bool (r1 == 0), .bool (r2 == 0), .bool (r3 == 0), .bool (r4 == 0)] 4)).alloc (.cells #[.int .i64 0, .int .i64 a.F, .int .i64 b.F, .int .i64 c.F] 3)).heap[V.heap.size + 1]? = some (.cells #[.bool (r1 == 0), .bool (r2 == 0), .bool (r3 == 0), .bool (r4 == 0)] 4 (0, 0))) := Lib.hid ((g3.block _ (by simp)).trans (by rw [← s1]; exact heap_alloc_new _ _))
  have HR3 : Hid ((((V.alloc (.cells #[.string S1, .string S2, .string S3, .string S4] 9)).alloc (.cells #[.bool (r1 == 0), .bool (r2 == 0), .bool (r3 == 0), .bool (r4 == 0)] 4)).alloc (.cells #[.int .i64 0, .int .i64 a.F, .int .i64 b.F, .int .i64 c.F] 3)).heap[V.heap.size + 1 + 1]? = some (.cells #[.int .i64 0, .int .i64 a.F, .int .i64 b.F, .int .i64 c.F] 3 (0, 0))) := Lib.hid (by rw [← s2]; exact heap_alloc_new _ _)
  have HBX := Lib.hid (HB.out.trans' (hb2.trans' g3))
  have HGX := Lib.hid (HG0.out.on HBX.out)
  clear hb hb2 g1 g2 g3 HB HG HX s1 s2
  go_wp2_with fail
  clear y5 y9 y15
  generalize ((V.alloc (.cells #[.string S1, .string S2, .string S3, .string S4] 9)).alloc (.cells #[.bool (r1 == 0), .bool (r2 == 0), .bool (r3 == 0), .bool (r4 == 0)] 4)).alloc (.cells #[.int .i64 0, .int .i64 a.F, .int .i64 b.F, .int .i64 c.F] 3) = U at *
  have HS4 := Lib.hid (row4S HR1.out)
  have HB4 := Lib.hid (row4B HR2.out)
  have HI4 := Lib.hid (row4I HR3.out)
  have hg1 : V.heap.size < U.heap.size := (Array.getElem?_eq_some_iff.1 HR1.out).1
  have hg2 : V.heap.size + 1 < U.heap.size := (Array.getElem?_eq_some_iff.1 HR2.out).1
  have hg3 : V.heap.size + 1 + 1 < U.heap.size := (Array.getElem?_eq_some_iff.1 HR3.out).1
  have HL1 := Lib.hid hg1
  have HL2 := Lib.hid hg2
  have HL3 := Lib.hid hg3
  clear hg1 hg2 hg3 HR1 HR2 HR3
  generalize V.heap.size + 1 + 1 = gi at *
  generalize V.heap.size + 1 = gb at *
  generalize V.heap.size = gs at *
  clear HE1 HE2 HE3 HE4 HC2 HC3
  go_loopw [16] (fun iv wr => ∃ j : Nat, j ≤ 4 ∧ iv = .int .i64 j ∧ Hid (Below U.heap.size U wr)) (fun iv _ => 4 - (intOf iv).toNat)
  case atStart => exact ⟨0, by omega, rfl, Lib.hid (Below.refl _ _)⟩
  case round =>
    obtain ⟨j, hj4, rfl, HW⟩ := hrel
    by_cases h4 : j < 4
    · have q1 : decide ((j : Int) < 4) = true := decide_eq_true (by omega)
      have q2 : (0 : Int) ≤ j := by omega
      have q3 : (j : Int) < 4 := by omega
      have q4 : wrap64 ((j : Int) + 1) = (j : Int) + 1 := IntWalk.wrap64_in _ (by omega)
      have HQ4 := Lib.hid q4
      have HQ5 : Hid (IntKind.i64.wrap ((j : Int) + 1) = (j : Int) + 1) := Lib.hid (IntWalk.i64_in _ (by clear q4; omega))
      have hcb := HB4.out _ HW.out j h4
      have HJ := Lib.hid (HALL.out j h4)
      obtain ⟨bj, hbj⟩ : ∃ bj, [r1 == 0, r2 == 0, r3 == 0, r4 == 0].getD j false = bj := ⟨_, rfl⟩
      rw [hbj] at hcb HJ
      clear hbj
      cases bj with
      | false =>
        clear q4
        go_wp2_with fail
        go_roundw
        case rel => exact ⟨j + 1, by omega, by first | (rw [HQ4.out]; simp) | simp, HW⟩
        case measure => (try rw [HQ4.out]); simp only [intOf]; omega
      | true =>
        obtain ⟨x, hdx, hkx, hsx⟩ := HJ.out rfl
        obtain ⟨Sj, hSj⟩ : ∃ Sj, [S1, S2, S3, S4].getD j ⟨#[]⟩ = Sj := ⟨_, rfl⟩
        obtain ⟨vj, hvj⟩ : ∃ vj, [0, a.F, b.F, c.F].getD j 0 = vj := ⟨_, rfl⟩
        have hcs := HS4.out _ HW.out j h4
        rw [hSj] at hdx hcs
        rw [hvj] at hsx
        have HDX := Lib.hid hdx
        have HVJ := Lib.hid hsx
        have HSM := Lib.hid (small_dec hdx)
        have HZJ : Hid (Sj.size ≤ 1000000) := Lib.hid (by have := GP.dec_size hdx; omega)
        have HCI : Hid (∀ W, Below U.heap.size U W → W.cell? ⟨gi, j, none⟩ = some (.int .i64 vj)) := Lib.hid (fun W h => by rw [← hvj]; exact HI4.out W h j h4)
        have HCS : Hid (∀ W, Below U.heap.size U W → W.cell? ⟨gs, j, none⟩ = some (.string Sj)) := Lib.hid (fun W h => by rw [← hSj]; exact HS4.out W h j h4)
        have HKX := Lib.hid hkx
        have HGW := Lib.hid (HGX.out.on HW.out)
        clear hdx hsx hkx hSj hvj HJ q4
        go_wp2_with fail
        clear hcb
        refine (pdec1 HDX.out HZJ.out HGW.out).mono ?_
        rintro e V ⟨kp, ap, bp, cp, mp, rfl, hG, hO, hb⟩
        obtain rfl : kp = (j : Int) + 1 := hG.kind.trans HKX.out
        have hba := gbox_below 35 ((j : Int) + 1) ap bp cp mp V
        have hbb := hb.trans' hba
        have HW := Lib.hid (HW.out.trans (hbb.mono HW.out.size))
        have HGW := Lib.hid (HGW.out.on hbb)
        have HP := Lib.hid (gbox_new 35 ((j : Int) + 1) ap bp cp mp V)
        have HPG := Lib.hid (hG.on hba)
        clear hG hO hb hba hbb hcs
        go_wp2_with (refine store_page Tryz.sizeG rfl _ _ rfl V.heap.size ((j : Int) + 1) ap bp cp mp rfl rfl (gbox_zero 35 V) ?_; rw [setG_alloc]; generalize gbox 35 ((j : Int) + 1) ap bp cp mp V = V1 at *)
        generalize V.heap.size = gp at *
        have HSV : Hid (∀ W, Below V1.heap.size V1 W → Hid (Below V1.heap.size V1 W) ∧ W.cell? ⟨gp, 0, none⟩ = some (.int .i64 ((j : Int) + 1)) ∧ W.cell? ⟨gi, j, none⟩ = some (.int .i64 vj)) := Lib.hid (fun W h => ⟨Lib.hid h, (HP.out.below h).cells.1, HCI.out W (HW.out.trans (h.mono HW.out.size))⟩)
        have q4 := HQ4.out
        have q5 := HQ5.out
        refine wp_region_held_drew (S := fun W => Hid (Below V1.heap.size V1 W) ∧ W.cell? ⟨gp, 0, none⟩ = some (.int .i64 ((j : Int) + 1)) ∧ W.cell? ⟨gi, j, none⟩ = some (.int .i64 vj)) (by kernel_rfl) (HSV.out _ (L10.drew_below (Below.refl _ _))) (fun hHeld => ?_)
        generalize V1.drew = D at *
        refine L10.take_op' (i := 0) (d := some 91) (v := ?_) rfl rfl (by kernel_rfl) (by kernel_rfl) (by kernel_rfl) (fun _ _ _ h => h) (Or.inl ⟨by kernel_rfl, ?_⟩) (by assumption) ?_
        rotate_left
        · intro W hSw; (try dsimp only at hSw); go_simp; (first | done | with_reducible rfl)
        try simp only [Act.put, List.setIfInBounds_toArray, List.set_cons_zero, List.set_cons_succ]
        refine L10.take_op' (i := 1) (d := some 92) (v := ?_) rfl rfl (by kernel_rfl) (by kernel_rfl) (by kernel_rfl) (fun _ _ _ h => h) (Or.inl ⟨by kernel_rfl, ?_⟩) (by assumption) ?_
        rotate_left
        · intro W hSw; (try dsimp only at hSw); go_simp; (first | done | with_reducible rfl)
        try simp only [Act.put, List.setIfInBounds_toArray, List.set_cons_zero, List.set_cons_succ]
        refine L10.take_op' (i := 2) (d := some 93) (v := ?_) rfl rfl (by kernel_rfl) (by kernel_rfl) (by kernel_rfl) (fun _ _ _ h => h) (Or.inl ⟨by kernel_rfl, ?_⟩) (by assumption) ?_
        rotate_left
        · intro W hSw; (try dsimp only at hSw); go_simp; (first | done | with_reducible rfl)
        try simp only [Act.put, List.setIfInBounds_toArray, List.set_cons_zero, List.set_cons_succ]
        refine L10.take_op' (i := 3) (d := some 94) (v := ?_) rfl rfl (by kernel_rfl) (by kernel_rfl) (by kernel_rfl) (fun _ _ _ h => h) (Or.inl ⟨by kernel_rfl, ?_⟩) (by assumption) ?_
        rotate_left
        · intro W hSw; (try dsimp only at hSw); go_simp; (first | done | with_reducible rfl)
        try simp only [Act.put, List.setIfInBounds_toArray, List.set_cons_zero, List.set_cons_succ]
        refine L10.take_op' (i := 4) (d := some 95) (v := ?_) rfl rfl (by kernel_rfl) (by kernel_rfl) (by kernel_rfl) (fun _ _ _ h => h) (Or.inl ⟨by kernel_rfl, ?_⟩) (by assumption) ?_
        rotate_left
        · intro W hSw; (try dsimp only at hSw); go_simp; (first | done | with_reducible rfl)
        try simp only [Act.put, List.setIfInBounds_toArray, List.set_cons_zero, List.set_cons_succ]
        refine L10.take_op' (i := 5) (d := some 96) (v := ?_) rfl rfl (by kernel_rfl) (by kernel_rfl) (by kernel_rfl) (fun _ _ _ h => h) (Or.inl ⟨by kernel_rfl, ?_⟩) (by assumption) ?_
        rotate_left
        · intro W hSw; (try dsimp only at hSw); go_simp; (first | done | with_reducible rfl)
        try simp only [Act.put, List.setIfInBounds_toArray, List.set_cons_zero, List.set_cons_succ]
        refine L10.take_op' (i := 6) (d := some 97) (v := ?_) rfl rfl (by kernel_rfl) (by kernel_rfl) (by kernel_rfl) (fun _ _ _ h => h) (Or.inl ⟨by kernel_rfl, ?_⟩) (by assumption) ?_
        rotate_left
        · intro W hSw; (try dsimp only at hSw); go_simp; (first | done | with_reducible rfl)
        try simp only [Act.put, List.setIfInBounds_toArray, List.set_cons_zero, List.set_cons_succ]
        refine L10.take_op' (i := 7) (d := some 98) (v := ?_) rfl rfl (by kernel_rfl) (by kernel_rfl) (by kernel_rfl) (fun _ _ _ h => h) (Or.inl ⟨by kernel_rfl, ?_⟩) (by assumption) ?_
        rotate_left
        · intro W hSw; (try dsimp only at hSw); go_simp; (first | done | with_reducible rfl)
        try simp only [Act.put, List.setIfInBounds_toArray, List.set_cons_zero, List.set_cons_succ]
        refine L10.take_op' (i := 8) (d := some 99) (v := ?_) rfl rfl (by kernel_rfl) (by kernel_rfl) (by kernel_rfl) (fun _ _ _ h => h) (Or.inl ⟨by kernel_rfl, ?_⟩) (by assumption) ?_
        rotate_left
        · intro W hSw; (try dsimp only at hSw); go_simp; (first | done | with_reducible rfl)
        try simp only [Act.put, List.setIfInBounds_toArray, List.set_cons_zero, List.set_cons_succ]
        refine L10.take_op' (i := 9) (d := some 100) (v := ?_) rfl rfl (by kernel_rfl) (by kernel_rfl) (by kernel_rfl) (fun _ _ _ h => h) (Or.inl ⟨by kernel_rfl, ?_⟩) (by assumption) ?_
        rotate_left
        · intro W hSw; (try dsimp only at hSw); go_simp; (first | done | with_reducible rfl)
        try simp only [Act.put, List.setIfInBounds_toArray, List.set_cons_zero, List.set_cons_succ]
        refine L10.take_op' (i := 10) (d := some 101) (v := (gv ((j : Int) + 1) ap bp cp mp)) rfl rfl (by kernel_rfl) (by kernel_rfl) (by kernel_rfl) (fun _ _ _ h => h) (yieldsPE (.tmp 17) rfl (by kernel_rfl) rfl fun W h => HP.out.below h.1.out) (by assumption) ?_
        try simp only [Act.put, List.setIfInBounds_toArray, List.set_cons_zero, List.set_cons_succ]
        refine L10.take_op' (i := 12) (d := some 103) (v := ?_) rfl rfl (by kernel_rfl) (by kernel_rfl) (by kernel_rfl) (fun _ _ _ h => h) (Or.inl ⟨by kernel_rfl, ?_⟩) (by assumption) ?_
        rotate_left
        · intro W hSw; (try dsimp only at hSw); go_simp; (first | done | with_reducible rfl)
        try simp only [Act.put, List.setIfInBounds_toArray, List.set_cons_zero, List.set_cons_succ]
        refine L10.take_op' (i := 13) (d := some 104) (v := ?_) rfl rfl (by kernel_rfl) (by kernel_rfl) (by kernel_rfl) (fun _ _ _ h => h) (Or.inl ⟨by kernel_rfl, ?_⟩) (by assumption) ?_
        rotate_left
        · intro W hSw; (try dsimp only at hSw); go_simp; (first | done | with_reducible rfl)
        try simp only [Act.put, List.setIfInBounds_toArray, List.set_cons_zero, List.set_cons_succ]
        refine L10.take_op' (i := 14) (d := some 105) (v := ?_) rfl rfl (by kernel_rfl) (by kernel_rfl) (by kernel_rfl) (fun _ _ _ h => h) (Or.inl ⟨by kernel_rfl, ?_⟩) (by assumption) ?_
        rotate_left
        · intro W hSw; (try dsimp only at hSw); go_simp; (first | done | with_reducible rfl)
        try simp only [Act.put, List.setIfInBounds_toArray, List.set_cons_zero, List.set_cons_succ]
        refine L10.take_op' (i := 15) (d := some 106) (v := ?_) rfl rfl (by kernel_rfl) (by kernel_rfl) (by kernel_rfl) (fun _ _ _ h => h) (Or.inl ⟨by kernel_rfl, ?_⟩) (by assumption) ?_
        rotate_left
        · intro W hSw; (try dsimp only at hSw); go_simp; (first | done | with_reducible rfl)
        try simp only [Act.put, List.setIfInBounds_toArray, List.set_cons_zero, List.set_cons_succ]
        refine wpAnyH_ready (rs := [11]) (by kernel_rfl) (by simp) (AllReadyH.cons rfl (fun QQ hK => ?_) AllReadyH.nil)
        go_simp
        refine ((pself1 HPG.out HVJ.out).out _).mono ?_
        rintro e V ⟨rfl, hb⟩
        go_wp2_with fail
        have hb9 := hHeld.1.out.trans' hb
        have hHeld := HSV.out _ hb9
        clear hb
        refine hK.out _ _ hHeld (fun _ => ?_)
        clear hK
        try simp only [Act.put, List.setIfInBounds_toArray, List.set_cons_zero, List.set_cons_succ]
        refine L10.take_op' (i := 16) (d := some 107) (v := ?_) rfl rfl (by kernel_rfl) (by kernel_rfl) (by kernel_rfl) (fun _ _ _ h => h) (Or.inl ⟨by kernel_rfl, ?_⟩) (by assumption) ?_
        rotate_left
        · intro W hSw; (try dsimp only at hSw); go_simp; (first | done | with_reducible rfl)
        try simp only [Act.put, List.setIfInBounds_toArray, List.set_cons_zero, List.set_cons_succ]
        refine L10.take_op' (i := 17) (d := some 108) (v := ?_) rfl rfl (by kernel_rfl) (by kernel_rfl) (by kernel_rfl) (fun _ _ _ h => h) (Or.inl ⟨by kernel_rfl, ?_⟩) (by assumption) ?_
        rotate_left
        · intro W hSw; (try dsimp only at hSw); go_simp; (first | done | with_reducible rfl)
        try simp only [Act.put, List.setIfInBounds_toArray, List.set_cons_zero, List.set_cons_succ]
        refine wpAnyH_done (by kernel_rfl) ?_ _
        clear q4 q5
        have HW := Lib.hid (HW.out.trans (hb9.mono HW.out.size))
        have HGW := Lib.hid (HGW.out.on hb9)
        replace HP := Lib.hid (HP.out.below hb9)
        replace HPG := Lib.hid (HPG.out.on hb9)
        clear hb9 hHeld HSV
        obtain ⟨k, hk, hk9⟩ : ∃ k : Nat, i % 9 = k ∧ k < 9 := ⟨i % 9, rfl, by omega⟩
        have hrem := rem9 HI9.out hk
        have p1 : (0 : Int) ≤ k := by omega
        have p2 : (k : Int) < 9 := by omega
        have HK9 := Lib.hid hk9
        clear hk hk9
        have hcs := HCS.out _ HW.out
        clear hcs
        generalize hgv : V.heap.size = g9 at *
        have HGV9 := Lib.hid hgv
        clear hgv
        go_wp2_with (at_make; refine wpList_make_full _ rfl _ _ 22 rfl g9 9 i0 (.string ⟨#[]⟩) 1 Tryz.underlying22 hi0 hz0 hz1 _ _ _ _ 9 rfl rfl rfl rfl (by rw [hz2]; decide) (by decide) (Nat.le_of_eq HGV9.out.symm) ?_; intro w2 hown2 hg2; rw [HGV9.out] at hown2; have hbm : Below V.heap.size V w2 := (Below.refl _ V).grown hg2 (Nat.le_refl _) (by simp); have HBM := Lib.hid hbm; have HWM := Lib.hid (HW.out.trans (hbm.mono HW.out.size)); have HGM := Lib.hid (HGW.out.on hbm); have HPM := Lib.hid (HP.out.below hbm); have HPGM := Lib.hid (HPG.out.on hbm); have hcs := HCS.out _ HWM.out; have HO9 := Lib.hid (own9 hown2); have hc9 := HO9.out.cellAt k (by omega); rw [cell9 (show k < 9 by omega)] at hc9; have hf9 := HO9.out.frozenAt k; have HG9 : Hid (U.heap.size ≤ g9) := Lib.hid (by rw [← HGV9.out]; exact HW.out.size); have HGP : Hid (gp < g9) := Lib.hid (by rw [← HGV9.out]; exact (Array.getElem?_eq_some_iff.1 HP.out).1); rw [HGV9.out]; clear hown2 hg2 hbm)
        have hst := HO9.out.stored k (.string Sj)
        obtain ⟨L9, hL9⟩ : ∃ L, (List.replicate 9 (⟨#[]⟩ : ByteArray)).set k Sj = L := ⟨_, rfl⟩
        have HOW : Hid (L5.Owns (w2.setCell ⟨g9, k, none⟩ (.string Sj)) g9 (.slice (some ⟨g9, 0, none⟩) 9 9) 9 L9) := Lib.hid (by
          have h := hst.1
          rw [show (L5.strCells (List.replicate 9 ⟨#[]⟩)).set k (.string Sj) = L5.strCells L9 from by rw [← hL9]; simp only [L5.strCells, List.map_set]] at h
          exact h)
        have HLL : Hid (L9.length = 9) := Lib.hid (by rw [← hL9, List.length_set, List.length_replicate])
        have HL9 : Hid (L5.Lies (w2.setCell ⟨g9, k, none⟩ (.string Sj)) (w2.setCell ⟨g9, k, none⟩ (.string Sj)).heap.size (some ⟨g9, 0, none⟩) L9) := Lib.hid (L5.lies_own HOW.out HLL.out.symm)
        have HW3 := Lib.hid (HWM.out.setCell (p := ⟨g9, k, none⟩) HG9.out (.string Sj))
        have HG3 := Lib.hid (HGX.out.on HW3.out)
        have hne : gp ≠ g9 := Nat.ne_of_lt HGP.out
        have HP3 : Hid (Gx 35 gp ((j : Int) + 1) ap bp cp mp (w2.setCell ⟨g9, k, none⟩ (.string Sj))) := Lib.hid (by
          unfold Gx
          rw [Below.heap_setCell w2 ⟨g9, k, none⟩ (.string Sj) gp hne]
          exact HPM.out)
        have HPG3 : Hid (HasG (w2.setCell ⟨g9, k, none⟩ (.string Sj)) ((j : Int) + 1) ap bp cp mp x) := Lib.hid (HPG.out.on (below_set HGV9.out HBM.out k (.string Sj)))
        have HSS : Hid (∀ s ∈ L9, s.size ≤ 1000000) := Lib.hid (fun t ht => by
          rw [← hL9] at ht
          rcases List.mem_or_eq_of_mem_set ht with h | h
          · rw [List.eq_of_mem_replicate h]; decide
          · rw [h]; exact HZJ.out)
        have HLK : Hid (L9[k]? = some Sj) := Lib.hid (by rw [← hL9, List.getElem?_set_self (by rw [List.length_replicate]; exact HK9.out)])
        clear hst hL9 hc9 hf9 hcs hne HOW HO9 HWM HGM HPM HPGM HW HGW HP HPG HBM
        generalize w2.setCell ⟨g9, k, none⟩ (.string Sj) = U3 at *
        have hci := HCI.out
        by_cases hs : vj = k
        · have HAT := Lib.hid (GP.at_ok HLK.out HDX.out (HVJ.out.trans hs))
          have hs1 : ((k : Int) == vj) = true := by simp [hs]
          clear hs
          refine (pat1 HAT.out HLL.out HSS.out HG3.out HL9.out).mono ?_
          rintro e V ⟨kq, aq, bq, cq, mq, rfl, hG, hO, hb⟩
          have hba := gbox_below 35 kq aq bq cq mq V
          have hbb := hb.trans' hba
          have HW4 := Lib.hid (HW3.out.trans (hbb.mono HW3.out.size))
          have HP4 := Lib.hid (HP3.out.below hbb)
          have HPG4 := Lib.hid (HPG3.out.on hbb)
          have HQ := Lib.hid (gbox_new 35 kq aq bq cq mq V)
          have HQG := Lib.hid (hG.on hba)
          have hci2 := hci _ HW4.out
          clear hci hG hO hb hba hbb
          go_wp2_with (first | (refine store_page Tryz.sizeG rfl _ _ rfl V.heap.size kq aq bq cq mq rfl rfl (gbox_zero 35 V) ?_; rw [setG_alloc]; generalize gbox 35 kq aq bq cq mq V = V1 at *) | (refine load_wantedP0 (.tmp 17) rfl HP4.out rfl (by rfl) ?_) | (refine load_wantedP0 (.tmp 21) rfl HQ.out rfl (by rfl) ?_))
          refine (psame_any _ HPG4.out HQG.out HSM.out HSM.out (q := true) (by simp)).mono ?_
          rintro e V5 ⟨rfl, hb⟩
          have HWN := Lib.hid (HW4.out.trans (hb.mono HW4.out.size))
          clear hci2 hb hs1
          go_wp2_with fail
          go_roundw
          case rel => exact ⟨j + 1, by omega, by first | (rw [HQ4.out]; simp) | simp, HWN⟩
          case measure => (try rw [HQ4.out]); simp only [intOf]; omega
        · have HAT := Lib.hid (GP.at_moved HLK.out HDX.out (fun h => hs (HVJ.out.symm.trans h)))
          have hs1 : ((k : Int) == vj) = false := by simpa using fun h => hs h.symm
          clear hs
          refine (pat0 HAT.out HLL.out HSS.out HG3.out HL9.out).mono ?_
          rintro e V ⟨rfl, hb⟩
          have hba := gbox_below 35 0 LV0 NV0 CV0 Mv0 V
          have hbb := hb.trans' hba
          have HW4 := Lib.hid (HW3.out.trans (hbb.mono HW3.out.size))
          have hci2 := hci _ HW4.out
          clear hci hb hba hbb
          go_wp2_with (refine store_page Tryz.sizeG rfl _ _ rfl V.heap.size 0 LV0 NV0 CV0 Mv0 rfl rfl (gbox_zero 35 V) ?_; rw [setG_alloc]; generalize gbox 35 0 LV0 NV0 CV0 Mv0 V = V1 at *)
          clear hci2 hs1
          go_roundw
          case rel => exact ⟨j + 1, by omega, by first | (rw [HQ4.out]; simp) | simp, HW4⟩
          case measure => (try rw [HQ4.out]); simp only [intOf]; omega
    · have q1 : decide ((j : Int) < 4) = false := decide_eq_false (by omega)
      go_wp2_with fail
      refine (HF.out _ (HGX.out.on HW.out)).mono ?_
      rintro e V4 ⟨rfl, hb⟩
      go_wp2_with fail
      go_ret
      exact ⟨rfl, (HBX.out.trans' HW.out).trans' hb⟩
theorem pageEach_walk (m : Mv) (a : LV) (b : NV) (c : CV) (l : L10.NP.Lf) (n : L11.IP.Inn) (i : Int) (w : World) (hg : L10.Glo w) (hf : FourOk w a b l n) (wi : (Lit.int .u8 i).wf = true) :
    Calls Tryz.prog 6 #[.agg #[.int .i64 m.p, .int .i64 m.pg, .int .i64 m.r, .int .i64 m.l, .int .i64 m.n, .int .i64 a.F, .int .i64 a.R, .string a.H, .slice a.A a.n a.ca, .int .i64 b.F, .int .i64 b.L, .int .i64 b.R, .string b.H, .slice b.A b.n b.ca, .slice b.C b.m b.cb, .int .i64 c.F, .int .i64 c.N, .string c.D], .int .u8 i] w fun e w' => e = .returned (.bool true) ∧ Below w.heap.size w w' := by
  have h2 : 0 ≤ i ∧ i ≤ 255 := by simpa [Lit.wf, IntKind.min, IntKind.max, IntKind.signed, IntKind.bits] using wi
  obtain ⟨k, rfl⟩ := Int.eq_ofNat_of_zero_le h2.1
  exact pageEach_nat m a b c l n k w hg hf (by omega)
end Go.Proofs.YtpeghilfldpgfaaGreatDoor
