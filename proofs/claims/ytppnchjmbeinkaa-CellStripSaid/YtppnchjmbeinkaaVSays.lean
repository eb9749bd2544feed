/-
  What package cell answers, as contracts; the document's Repeat; calls with one answer.
-/
import Derived.Test.YtppnchjmbeinkaaVDocL
import Derived.Deep.AppendLies
import Derived.Laws.OwnMore
import Derived.WalkLawsBesides
namespace Go.Proofs.Ytppnchjmbeinkaa
open Go.RowKit
set_option linter.unusedVariables false
set_option linter.unusedSimpArgs false

/-- Calls of one function at given arguments, with one answer, in any world. -/
def Tells (f : Nat) (args : Array Value) (v : Value) : Prop := ∀ W, Calls Try.prog f args W fun e w' => e = .returned v ∧ Below W.heap.size W w'
/-- Package cell answers as the document says. -/
structure Says : Prop where
  right : ∀ (O : Bool) (S : ByteArray) (L P : Int), Tells 19 #[vv O S L P] (.bool (decide (VP.Right (pv O S L P))))
  putV : ∀ (t : ByteArray) (O : Bool) (S : ByteArray) (L P : Int), t.size ≤ 1000000 → S.size ≤ 1000000 → Tells 10 #[.string t, vv O S L P] (putVV t (pv O S L P))
  getV : ∀ s : ByteArray, s.size ≤ 1000000 → Tells 15 #[.string s] (gotV (VP.getV s.data.toList))
  putK : ∀ (k : Int) (t : ByteArray), t.size ≤ 1000000 → Tells 13 #[.int .i64 k, .string t] (putKV k t)
  getK : ∀ s : ByteArray, s.size ≤ 1000000 → Tells 17 #[.string s] (gotK (VP.getK s.data.toList))
theorem Tells.at {f : Nat} {args : Array Value} {v : Value} (h : Tells f args v) {B W : World} (hb : Below B.heap.size B W) : Calls Try.prog f args W fun e w' => e = .returned v ∧ Below B.heap.size B w' :=
  (h W).mono fun e w' ⟨h1, h2⟩ => ⟨h1, hb.trans' h2⟩
theorem below_drewN {c : Nat} {w v : World} (h : Below c w v) (n : Nat) : Below c w (v.drewN n) := ⟨h.os, h.tape, h.output, h.size, h.block⟩

theorem Try.infoByte : (Try.prog.info? 5).map (fun i => (i.zero, i.size, i.bytes)) = some (some (.int .u8 0), 1, 1) := by kernel_rfl
theorem byteCells_snoc (l : List UInt8) (b : UInt8) : byteCells (l ++ [b]) = byteCells l ++ [.int .u8 b.toNat] := by simp [byteCells]
set_option maxHeartbeats 400000 in
theorem refRepeat_any (c : UInt8) (n : Nat) (w : World) (hn : n ≤ 100000) :
    Calls Try.prog 35 #[.int .u8 c.toNat, .int .i64 n] w fun e w' => e = .returned (.string ⟨(List.replicate n c).toArray⟩) ∧ Below w.heap.size w w' := by
  obtain ⟨i0, hi, hz0, hz1, hz2⟩ := info_parts Try.infoByte
  go_enter Try.func35, Try.ntmps35
  go_wp2_with fail
  go_loopw [5, 6] (fun v i wr => ∃ (k g cap : Nat), k ≤ n ∧ i = .int .i64 k ∧ v = .slice (some ⟨g, 0, none⟩) k cap ∧ w.heap.size ≤ g ∧ wr.ownsRow w.heap.size 5 1 (.slice (some ⟨g, 0, none⟩) k cap) k (byteCells (List.replicate k c)) ∧ Below w.heap.size w wr) (fun _ i _ => n - (intOf i).toNat)
  case atStart => exact ⟨0, w.heap.size, 0, by omega, rfl, rfl, Nat.le_refl _, own_none (Nat.le_refl _), (Below.refl _ w).alloc (Nat.le_refl _) _⟩
  case round =>
    obtain ⟨k, g, cap, hk, rfl, rfl, hg, hown, hb⟩ := hrel
    have hbs := hb.size
    by_cases hlt : k < n
    · go_wp2_with (at_builtin; refine wpList_append_lies _ rfl _ _ 47 rfl w.heap.size 5 i0 (.int .u8 0) 1 1 Try.underlying47 hi hz0 hz1 hz2 rfl (by decide) (.slice (some ⟨g, 0, none⟩) k cap) k _ rfl (hown.alloc _) ⟨wr.heap.size, 0, none⟩ 1 1 [.int .u8 c.toNat] rfl rfl (World.news_of_block (cs := #[.int .u8 c.toNat]) (t := 5) (fr := (0, 0)) (heap_alloc_new wr _)) (by simp [Value.oneCell']) (by omega) (by unfold maxLen; omega) (by omega) (by simp; omega) (wr.heap.size + 1) (by simp) ?_; intro g' cap' w1 hown1 hgrow hat hlt1)
      have hg' : w.heap.size ≤ g' := by rcases hat with h | h; (simp [Value.ownBlock] at h; omega); omega
      have hb' : Below w.heap.size w w1 := (hb.alloc hbs _).grown hgrow (by simp; omega) (fun j e => by simp [Value.ownBlock] at e; omega)
      clear hat hgrow hlt1
      go_roundw
      case rel => exact ⟨k + 1, g', cap', by omega, by go_num, rfl, hg', by rw [List.replicate_succ', byteCells_snoc]; exact hown1, hb'⟩
      case measure => simp [intOf]; omega
    · obtain rfl : k = n := by omega
      have hcv := conv_own Try.underlying47 Try.underlying5 Try.underlying9 hown (by simp)
      go_wp2_with fail
      go_ret
      exact ⟨rfl, hb⟩
end Go.Proofs.Ytppnchjmbeinkaa
