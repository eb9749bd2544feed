/-
  Walk of the iterator that key.columns makes.
-/
import Derived.RangeFuncNested
import Derived.RangeFuncBound
import Derived.RangeFuncCalls
import Derived.RangeFuncLeaves
import Derived.RangeFuncBox
import Derived.Shelf.RegionOpen
import Derived.WalkKit
import Derived.OwnWalkIn
import Derived.TacticsInMore
import Derived.LoopNIn
import Derived.LoopIn
import Derived.Test.YtdcijbclafpkmaaDoorKJoin
namespace Go.Proofs.YtdcijbclafpkmaaDoor
open Go.RowKit
set_option linter.unusedVariables false
set_option linter.unusedSimpArgs false
attribute [local go_sem] Oper.semAt_some

/-- What the iterator tells in a round: a column, or an error. -/
abbrev Told := Sum QC Nat
def toldVals : Told → Array Value
  | .inl c => #[c.val, .nilIface]
  | .inr e => #[.agg #[.int .i64 0, .int .i64 0, .int .u64 0, .string ⟨#[]⟩], .iface 84 (.agg #[.int .i64 e])]
/-- All have come: they are a key's columns, if they are columns. -/
def AllTold (s : ByteArray) (xs : List Told) : Prop := ∀ cs : List QC, xs = cs.map .inl → KP.get s.data.toList = (cols cs, 0)
/-- It was left at an error. -/
def SomeTold (s : ByteArray) (xs : List Told) : Prop := ∀ ys e, xs = ys ++ [.inr e] → e ≠ 0 ∧ KP.get s.data.toList = ([], e)
theorem someTold_col (s : ByteArray) (ys : List Told) (c : QC) : SomeTold s (ys ++ [.inl c]) := fun zs e h => by
  have := List.append_inj_right' h (by simp)
  simp at this
theorem allTold_err (s : ByteArray) (ys : List Told) (e : Nat) : AllTold s (ys ++ [.inr e]) := fun cs h => by
  have h1 : Sum.inr e ∈ cs.map Sum.inl := by rw [← h]; simp
  obtain ⟨c, _, hc⟩ := List.mem_map.1 h1
  cases hc
theorem someTold_err {s : ByteArray} {ys : List Told} {e : Nat} (he : e ≠ 0) (h : KP.get s.data.toList = ([], e)) : SomeTold s (ys ++ [.inr e]) := fun zs f hz => by
  have := List.append_inj_right' hz (by simp)
  simp at this
  subst this
  exact ⟨he, h⟩
/-- What a round must keep: the text's box. -/
def KeepsBox (Bs : Nat) (s : ByteArray) (W W' : World) : Prop := Boxed W Bs 9 (.string s) → Boxed W' Bs 9 (.string s)

theorem abides_below {β : Type} {B : Nat} {J : β → World → Prop} {x : β} {W W' : World} (h : AbidesFrom B J) (hj : J x W) (b : Below W.heap.size W W') : J x W' :=
  h x W W' none hj ⟨b.os, b.tape, b.output, b.size, fun k hk _ => b.block k hk⟩ (fun r e => by cases e)
theorem boxed_below {W W' : World} {B : Nat} {t : TypeId} {v : Value} (h : Boxed W B t v) (b : Below W.heap.size W W') : Boxed W' B t v := (b.block B h.lt).trans h

set_option maxRecDepth 100000 in
set_option maxHeartbeats 2000000 in
theorem columns1_in (n : Nat) (hn : 1 ≤ n) (l Bs : Nat) (s : ByteArray) (hs : s.size ≤ 1000000) (J Jx : List Told → World → Prop) (W0 : World) (hJ : AbidesFrom W0.heap.size J) (hJx : AbidesFrom W0.heap.size Jx)
    (hY : ∀ pre x W, J pre W → pre.length < s.size + 1 → YieldAt Fence.wide (n - 1) Tryd.prog l (toldVals x) W fun e W' =>
      (e = .returned (.bool true) ∧ J (pre ++ [x]) W' ∧ KeepsBox Bs s W W') ∨ (e = .returned (.bool false) ∧ Jx (pre ++ [x]) W'))
    (hB : Boxed W0 Bs 9 (.string s)) (h0 : J [] W0) :
    CallsIn Fence.wide n Tryd.prog 36 #[.func (.yield l) #[] #[], .pointer (some ⟨Bs, 0, none⟩)] W0 fun e W' => (∃ v, e = .returned v) ∧
      ((∃ xs, AllTold s xs ∧ J xs W') ∨ (∃ pre, SomeTold s pre ∧ Jx pre W')) := by
  refine callsIn_of_wp Tryd.func36 rfl trivial ?_ rfl
  simp only [Tryd.ntmps36, List.size_toArray, List.length_cons, List.length_nil, Nat.reduceAdd, Nat.reduceSub, Array.replicate_succ, Array.replicate_zero, List.push_toArray, List.append_toArray, List.nil_append, List.cons_append]
  gi_wp2
  gi_loopw [3] (fun iv wr => ∃ (k : Nat) (cs : List QC), k ≤ s.size ∧ iv = .int .i64 k ∧ cs.length ≤ k ∧ Hid (KP.get s.data.toList = KP.glue (cols cs) (KP.kget s.data.toList (s.size + 1) k)) ∧ Hid (J (cs.map .inl) wr) ∧ Hid (Boxed wr Bs 9 (.string s)))
    (fun iv wr => s.size - (intOf iv).toNat)
  case atStart =>
    exact ⟨0, [], by omega, rfl, by simp, Lib.hid (by rw [show cols [] = [] from rfl, KP.glue_nil (KP.kget_no _ _ _)]; simp [KP.get]), Lib.hid h0, Lib.hid hB⟩
  case round =>
    obtain ⟨k, cs, hk, rfl, hck, HG, HJ, HB⟩ := hrel
    have cB := HB.out.cell
    by_cases hlt : k < s.size
    · have hd : decide ((k : Int) < s.size) = true := decide_eq_true (by omega)
      have hdr := WP.drop_cons s k hlt
      have hcl : (cs.map (Sum.inl : QC → Told)).length < s.size + 1 := by simp; omega
      by_cases h1 : s[k] = 1
      · have hne : ((s[k].toNat : Int) != (((⟨#[1]⟩ : ByteArray)[0]'(by decide)).toNat : Int)) = false := by
          show ((s[k].toNat : Int) != 1) = false
          rw [h1]; rfl
        rw [h1] at hdr
        by_cases hl : k + 1 = s.size
        · have hdr2 : s.data.toList.drop (k + 1) = [] := List.drop_eq_nil_of_le (by simp; omega)
          rw [hdr2] at hdr
          have he : (s.extract k s.size).toList = [1] := by rw [Lib.toList_data, Lib.extract_data, hdr]; exact List.take_of_length_le (by simp; omega)
          have he1 : ((s.extract k s.size).toList == [1]) = true := by rw [he]; rfl
          have HE : Hid (KP.get s.data.toList = (cols cs, 0)) := Lib.hid (by rw [HG.out, KP.kget_one hdr (by omega)]; simp [KP.glue])
          have hJ2 : ∀ n, J (cs.map .inl) (wr.drewN n) := fun n => abides_below hJ HJ.out (Joins.below_draws _ wr n)
          have HJ2 := Lib.hid hJ2
          clear hdr hdr2 he h1 HG hJ2
          gi_wp2
          gi_quiet (fail)
          gi_wp2_with fail
          go_end0
          exact ⟨⟨_, rfl⟩, .inl ⟨_, fun ds hds => by rw [HE.out, (List.map_inj_right (fun a b h => by injection h)).1 hds], HJ2.out _⟩⟩
        · have hdl : (s.data.toList.drop (k + 1)).length = s.size - (k + 1) := by simp
          have hdr2 : s.data.toList.drop (k + 1) ≠ [] := fun e => by rw [e] at hdl; simp at hdl; omega
          have he : (s.extract k s.size).toList = 1 :: s.data.toList.drop (k + 1) := by rw [Lib.toList_data, Lib.extract_data, hdr]; exact List.take_of_length_le (by simp; omega)
          have he1 : ((s.extract k s.size).toList == [1]) = false := by rw [he]; simpa using hdr2
          have he2 : (s.extract k s.size).toList.isEmpty = false := by rw [he]; rfl
          have HE : Hid (KP.get s.data.toList = ([], 3)) := Lib.hid (by rw [HG.out, KP.kget_one hdr (by omega), if_neg hdr2]; simp [KP.glue])
          have hJ2 : ∀ n, J (cs.map .inl) (wr.drewN n) := fun n => abides_below hJ HJ.out (Joins.below_draws _ wr n)
          have HJ2 := Lib.hid hJ2
          clear hdr hdl hdr2 he h1 HG hJ2 hl
          gi_wp2
          gi_quiet (fail)
          obtain ⟨fn, tmps, assign, body, hy, hR⟩ := hY _ (.inr 3) _ (HJ2.out nq) hcl
          dsimp only [toldVals] at hy
          rw [show ((3 : Nat) : Int) = 3 from rfl] at hy
          gi_wp2_with fail
          refine hR.mono ?_
          rintro e W3 (⟨rfl, hJ3, hk3⟩ | ⟨rfl, hJx3⟩)
          · gi_wp2_with fail
            go_end0
            exact ⟨⟨_, rfl⟩, .inl ⟨_, allTold_err _ _ _, hJ3⟩⟩
          · gi_wp2_with fail
            go_end0
            exact ⟨⟨_, rfl⟩, .inr ⟨_, someTold_err (by omega) HE.out, hJx3⟩⟩
      · have hne : ((s[k].toNat : Int) != (((⟨#[1]⟩ : ByteArray)[0]'(by decide)).toNat : Int)) = true := by
          show ((s[k].toNat : Int) != 1) = true
          simp only [bne_iff_ne, ne_eq]
          intro e
          exact h1 (UInt8.toNat_inj.1 (by show s[k].toNat = 1; omega))
        have hg := fun W => colGet_any s k W (by omega) hs
        rcases CP.get_spec s.data.toList k with h | h | ⟨⟨K, I, U, S⟩, to, h, ho, hrt, hto, h2, h3, h4⟩
        · have HE : Hid (KP.get s.data.toList = ([], 7)) := Lib.hid (by rw [HG.out, KP.kget_err hdr h1 (by omega) (by omega) h]; simp [KP.glue])
          have HGET : Hid (∀ W, Calls Tryd.prog 37 #[.string s, .int .i64 k] W fun e w' => e = .returned (.tuple #[.agg #[.int .i64 0, .int .i64 0, .int .u64 0, .string ⟨#[]⟩], .int .i64 0, .int .i64 7]) ∧ Below W.heap.size W w') := Lib.hid (by rw [h] at hg; exact hg)
          clear hdr h hg h1 HG
          gi_wp2
          gi_quiet (fail)
          gi_wp2_with fail
          refine ⟨trivial, ?_⟩
          refine (callsIn_wide.2 (HGET.out _)).mono ?_
          rintro e w2 ⟨rfl, hb2⟩
          have hJ2 := abides_below hJ HJ.out ((below_of_drewN hb2).trans' (below_alloc w2 (.cells #[.int .i64 0, .int .i64 0, .int .u64 0, .string ⟨#[]⟩] 51)))
          obtain ⟨fn, tmps, assign, body, hy, hR⟩ := hY _ (.inr 7) _ hJ2 hcl
          dsimp only [toldVals] at hy
          rw [show ((7 : Nat) : Int) = 7 from rfl] at hy
          gi_wp2_with fail
          refine hR.mono ?_
          rintro e W3 (⟨rfl, hJ3, hk3⟩ | ⟨rfl, hJx3⟩)
          · gi_wp2_with fail
            refine bodyPost_ret (results_none rfl _ _ _) rfl ?_
            exact ⟨⟨_, rfl⟩, .inl ⟨_, allTold_err _ _ _, hJ3⟩⟩
          · gi_wp2_with fail
            refine bodyPost_ret (results_none rfl _ _ _) rfl ?_
            exact ⟨⟨_, rfl⟩, .inr ⟨_, someTold_err (by omega) HE.out, hJx3⟩⟩
        · have HE : Hid (KP.get s.data.toList = ([], 3)) := Lib.hid (by rw [HG.out, KP.kget_err hdr h1 (by omega) (by omega) h]; simp [KP.glue])
          have HGET : Hid (∀ W, Calls Tryd.prog 37 #[.string s, .int .i64 k] W fun e w' => e = .returned (.tuple #[.agg #[.int .i64 0, .int .i64 0, .int .u64 0, .string ⟨#[]⟩], .int .i64 0, .int .i64 3]) ∧ Below W.heap.size W w') := Lib.hid (by rw [h] at hg; exact hg)
          clear hdr h hg h1 HG
          gi_wp2
          gi_quiet (fail)
          gi_wp2_with fail
          refine ⟨trivial, ?_⟩
          refine (callsIn_wide.2 (HGET.out _)).mono ?_
          rintro e w2 ⟨rfl, hb2⟩
          have hJ2 := abides_below hJ HJ.out ((below_of_drewN hb2).trans' (below_alloc w2 (.cells #[.int .i64 0, .int .i64 0, .int .u64 0, .string ⟨#[]⟩] 51)))
          obtain ⟨fn, tmps, assign, body, hy, hR⟩ := hY _ (.inr 3) _ hJ2 hcl
          dsimp only [toldVals] at hy
          rw [show ((3 : Nat) : Int) = 3 from rfl] at hy
          gi_wp2_with fail
          refine hR.mono ?_
          rintro e W3 (⟨rfl, hJ3, hk3⟩ | ⟨rfl, hJx3⟩)
          · gi_wp2_with fail
            refine bodyPost_ret (results_none rfl _ _ _) rfl ?_
            exact ⟨⟨_, rfl⟩, .inl ⟨_, allTold_err _ _ _, hJ3⟩⟩
          · gi_wp2_with fail
            refine bodyPost_ret (results_none rfl _ _ _) rfl ?_
            exact ⟨⟨_, rfl⟩, .inr ⟨_, someTold_err (by omega) HE.out, hJx3⟩⟩
        · have HE : Hid (KP.get s.data.toList = KP.glue (cols (cs ++ [⟨K, I, U, ⟨S.toArray⟩⟩])) (KP.kget s.data.toList (s.size + 1) to)) := Lib.hid (by
            have hsl : s.data.toList.length = s.size := by simp
            rw [HG.out, KP.kget_go hdr h1 h, KP.kget_fuel s.data.toList s.size (s.size + 1) to (by omega) (by omega), cols_append, ← KP.glue_glue]
            rfl)
          have hto2 : to ≤ s.size := by simpa using h2
          have HGET : Hid (∀ W, Calls Tryd.prog 37 #[.string s, .int .i64 k] W fun e w' => e = .returned (.tuple #[.agg #[.int .i64 K, .int .i64 I, .int .u64 U, .string ⟨S.toArray⟩], .int .i64 to, .int .i64 0]) ∧ Below W.heap.size W w') := Lib.hid (by rw [h] at hg; exact hg)
          clear hdr h hg h1 HG h2 h3 h4 ho hrt
          generalize (⟨S.toArray⟩ : ByteArray) = T at *
          gi_wp2
          gi_quiet (fail)
          gi_wp2_with fail
          refine ⟨trivial, ?_⟩
          refine (callsIn_wide.2 (HGET.out _)).mono ?_
          rintro e w2 ⟨rfl, hb2⟩
          have hJ2 := abides_below hJ HJ.out ((below_of_drewN hb2).trans' (below_alloc w2 (.cells #[.int .i64 K, .int .i64 I, .int .u64 U, .string T] 51)))
          have HB2 := Lib.hid (boxed_below HB.out ((below_of_drewN hb2).trans' (below_alloc w2 (.cells #[.int .i64 K, .int .i64 I, .int .u64 U, .string T] 51))))
          obtain ⟨fn, tmps, assign, body, hy, hR⟩ := hY _ (.inl ⟨K, I, U, T⟩) _ hJ2 hcl
          dsimp only [toldVals, QC.val] at hy
          gi_wp2_with fail
          refine hR.mono ?_
          rintro e W3 (⟨rfl, hJ3, hk3⟩ | ⟨rfl, hJx3⟩)
          · have HB3 := Lib.hid (hk3 HB2.out)
            gi_wp2_with fail
            go_roundw
            case rel => exact ⟨to, cs ++ [⟨K, I, U, T⟩], hto2, rfl, by simp; omega, HE, Lib.hid (by simpa using hJ3), HB3⟩
            case measure => simp [intOf]; omega
          · gi_wp2_with fail
            refine bodyPost_ret (results_none rfl _ _ _) rfl ?_
            exact ⟨⟨_, rfl⟩, .inr ⟨_, someTold_col _ _ _, hJx3⟩⟩
    · have hks : k = s.size := by omega
      have hd : decide ((k : Int) < s.size) = false := decide_eq_false (by omega)
      have hdr : s.data.toList.drop k = [] := List.drop_eq_nil_of_le (by simp; omega)
      have he : (s.extract k s.size).toList = [] := by rw [Lib.toList_data, Lib.extract_data, hdr, List.take_nil]
      have he1 : ((s.extract k s.size).toList == [1]) = false := by rw [he]; rfl
      have he2 : (s.extract k s.size).toList.isEmpty = true := by rw [he]; rfl
      have hcl : (cs.map (Sum.inl : QC → Told)).length < s.size + 1 := by simp; omega
      have HE : Hid (KP.get s.data.toList = ([], 7)) := Lib.hid (by rw [HG.out, KP.kget_end _ hdr]; simp [KP.glue])
      have hJ2 : ∀ n, J (cs.map .inl) (wr.drewN n) := fun n => abides_below hJ HJ.out (Joins.below_draws _ wr n)
      have HJ2 := Lib.hid hJ2
      clear hdr he hlt HG hJ2
      gi_wp2
      gi_quiet (fail)
      obtain ⟨fn, tmps, assign, body, hy, hR⟩ := hY _ (.inr 7) _ (HJ2.out nq) hcl
      dsimp only [toldVals] at hy
      rw [show ((7 : Nat) : Int) = 7 from rfl] at hy
      gi_wp2_with fail
      refine hR.mono ?_
      rintro e W3 (⟨rfl, hJ3, hk3⟩ | ⟨rfl, hJx3⟩)
      · gi_wp2_with fail
        go_end0
        exact ⟨⟨_, rfl⟩, .inl ⟨_, allTold_err _ _ _, hJ3⟩⟩
      · gi_wp2_with fail
        go_end0
        exact ⟨⟨_, rfl⟩, .inr ⟨_, someTold_err (by omega) HE.out, hJx3⟩⟩
end Go.Proofs.YtdcijbclafpkmaaDoor
