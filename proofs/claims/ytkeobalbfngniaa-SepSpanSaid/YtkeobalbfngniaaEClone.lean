/-
  Walks of strings.Clone, sep.Least.
-/
import Derived.Test.YtkeobalbfngniaaEAlike
import Derived.Lib.Walk
import Derived.Lib.BufferWrite
import Derived.Lib.UnsafeStr
import Derived.Laws.MakeOwn
import Derived.Laws.Cover1
namespace Go.Proofs.Ytkeobalbfngniaa
open Go.RowKit
set_option linter.unusedVariables false
set_option linter.unusedSimpArgs false

theorem Try.infoByte : (Try.prog.info? 5).map (fun i => (i.zero, i.size, i.bytes)) = some (some (.int .u8 0), 1, 1) := by kernel_rfl

/-- The cells of a text's bytes. -/
def txt (s : ByteArray) : Array Value := (Lib.byteCells (B s)).toArray
theorem txt_size (s : ByteArray) : (txt s).size = s.size := by simp [txt, Lib.byteCells_length]

set_option maxHeartbeats 2000000 in
set_option maxRecDepth 100000 in
theorem litClone_any (s : ByteArray) (w : World) (hs : s.size ≤ 1000000) :
    Calls Try.prog 23 #[.string s] w fun e w' => e = .returned (.string s) ∧ Below w.heap.size w w' := by
  by_cases h0 : s.size = 0
  · obtain rfl : s = ⟨#[]⟩ := ByteArray.ext (Array.eq_empty_of_size_eq_zero h0)
    go_enter Try.func23, Try.ntmps23
    go_wp2
    go_ret
    exact ⟨rfl, Below.refl _ _⟩
  · obtain ⟨i0, hi, hz0, hz1, hz2⟩ := info_parts Try.infoByte
    have hsz : (Try.prog.info? 5).map (·.size) = some 1 := by rw [hi]; simp [hz1]
    have hcells : Try.prog.cellsOf 5 = 1 := by simp [Program.cellsOf, hi, hz1]
    obtain ⟨Z, hZ⟩ : ∃ Z, Z = madeCells (Value.int .u8 0).cells (((s.size : Nat) : Int).toNat * i0.size) := ⟨_, rfl⟩
    have hZs : Z.size = s.size := by rw [hZ, size_madeCells, hz1]; simp
    -- the bytes are made,
    have mk : ∀ W : World, (Instr.makeSlice 43 (.int .i64 (s.size : Int)) (.int .i64 (s.size : Int))).run Try.prog W = .ok (.slice (some ⟨W.heap.size, 0, none⟩) s.size s.size) (W.alloc (.cells Z 5)) := fun W => by
      have h := run_make (P := Try.prog) W 43 5 i0 (.int .u8 0) Try.underlying43 hi hz0 .i64 .i64 (s.size : Int) (s.size : Int) (by omega) (by omega) (by rw [hz2]; omega) (by omega)
      rw [← hZ] at h
      simpa using h
    clear hZ
    -- become the text's,
    have heap1 := heap_alloc_new w (.cells Z 5)
    have cp := Lib.run_copy_row_string (P := Try.prog) (w.alloc (.cells Z 5)) 43 9 3 5 w.heap.size 0 s.size s.size s Z 5 Try.underlying43 hsz heap1 (Nat.le_refl _) (by omega)
    rw [show (Z.toList.take 0 ++ Lib.byteCells s.data.toList ++ Z.toList.drop (0 + s.size)).toArray = txt s by
      rw [List.take_zero, List.nil_append, List.drop_of_length_le (by simp; omega), List.append_nil]; rfl] at cp
    have heap2 : ((w.alloc (.cells Z 5)).setRow w.heap.size (txt s)).heap[w.heap.size]? = some (.cells (txt s) 5 (0, 0)) := setRow_heap _ _ Z _ 5 (0, 0) heap1
    have hb2 : Below w.heap.size w ((w.alloc (.cells Z 5)).setRow w.heap.size (txt s)) := (below_alloc w _).trans ⟨rfl, rfl, rfl, by simp, fun k hk => setRow_other _ _ _ _ (by omega)⟩
    have hne : B s ≠ [] := fun e => h0 (by rw [← b_size, e]; rfl)
    generalize (w.alloc (.cells Z 5)).setRow w.heap.size (txt s) = w2 at *
    -- and are the answer.
    have us := Lib.run_unsafeString_row (P := Try.prog) w2 44 3 9 5 Try.underlying44 hcells w.heap.size (txt s).size (by unfold World.shape?; rw [heap2]) (B s) hne (by rw [b_size, txt_size]; exact Nat.le_refl _) (by rw [b_size]; omega)
      (fun j x hx => Lib.cells_of_row heap2 (txt s).size j _ (by rw [List.take_of_length_le (by rw [Array.length_toList]; exact Nat.le_refl _)]; simp [txt, Lib.byteCells, hx]))
    rw [b_size] at us
    have hfz := Lib.below_freeze hb2 (p := ⟨w.heap.size, 0, none⟩) (Nat.le_refl _) s.size
    go_enter Try.func23, Try.ntmps23
    go_wp2
    go_ret
    exact ⟨rfl, hfz⟩

theorem clone_any (s : ByteArray) (w : World) (hs : s.size ≤ 1000000) :
    Calls Try.prog 21 #[.string s] w fun e w' => e = .returned (.string s) ∧ Below w.heap.size w w' := by
  go_enter Try.func21, Try.ntmps21
  go_wp2_with fail
  refine (litClone_any s _ hs).mono ?_
  rintro e w1 ⟨rfl, hb1⟩
  go_wp2_with fail
  go_ret
  exact ⟨rfl, hb1⟩

theorem less_of (a b : ByteArray) : Op.bytesLess a.toList b.toList = decide (B a < B b) := by rw [bytesLess_eq, Lib.toList_data, Lib.toList_data]
theorem less_yes {a b : ByteArray} (h : B a < B b) : Op.bytesLess a.toList b.toList = true := by rw [less_of]; exact decide_eq_true h
theorem less_no {a b : ByteArray} (h : ¬ B a < B b) : Op.bytesLess a.toList b.toList = false := by rw [less_of]; exact decide_eq_false h
theorem same_yes {a b : ByteArray} (h : B a = B b) : (a.toList == b.toList) = true := by rw [Lib.toList_data, Lib.toList_data]; exact beq_iff_eq.2 h
theorem same_no {a b : ByteArray} (h : B a ≠ B b) : (a.toList == b.toList) = false := by rw [Lib.toList_data, Lib.toList_data]; exact beq_eq_false_iff_ne.2 h

/-- What Least answers. -/
def leastV (a b : ByteArray) : Value := .tuple (if B a < B b then #[.string (b.extract 0 (EP.com (B a) (B b) + 1)), .int .i64 0] else #[.string ⟨#[]⟩, .int .i64 1])
theorem leastV_yes {a b : ByteArray} (h : B a < B b) : leastV a b = .tuple #[.string (b.extract 0 (EP.com (B a) (B b) + 1)), .int .i64 0] := by rw [leastV, if_pos h]
theorem leastV_no {a b : ByteArray} (h : ¬ B a < B b) : leastV a b = .tuple #[.string ⟨#[]⟩, .int .i64 1] := by rw [leastV, if_neg h]

set_option maxHeartbeats 400000 in
theorem least_any (a b : ByteArray) (w : World) (ha : a.size ≤ 1000) (hb : b.size ≤ 1000) :
    Calls Try.prog 10 #[.string a, .string b] w fun e w' => e = .returned (leastV a b) ∧ Below w.heap.size w w' := by
  by_cases h : B a < B b
  · rw [leastV_yes h]
    have hl := EP.lt_com h
    rw [b_size] at hl
    have HC := Lib.hid (common_any a b w (by omega) (by omega))
    have d1 := less_yes h
    generalize EP.com (B a) (B b) = n at *
    have HT := Lib.hid (clone_any (b.extract 0 (n + 1)))
    have hs : (b.extract 0 (n + 1)).size ≤ 1000000 := by simp; omega
    clear h
    go_enter Try.func10, Try.ntmps10
    go_wp2_with fail
    refine HC.out.mono ?_
    rintro e w1 ⟨rfl, hb1⟩
    go_wp2_with fail
    refine (HT.out _ hs).mono ?_
    rintro e w2 ⟨rfl, hb2⟩
    go_wp2_with fail
    go_ret2
    exact ⟨rfl, hb1.trans' hb2⟩
  · rw [leastV_no h]
    have d1 := less_no h
    clear h
    go_enter Try.func10, Try.ntmps10
    go_wp2_with fail
    go_ret2
    exact ⟨rfl, Below.refl _ _⟩

/-- What Between answers. -/
def betw (s low high : ByteArray) (ends : Bool) : Bool := !decide (B s < B low) && (!ends || decide (B s < B high))
theorem between_any (s low high : ByteArray) (ends : Bool) (w : World) :
    Calls Try.prog 19 #[.string s, .string low, .string high, .bool ends] w fun e w' => e = .returned (.bool (betw s low high ends)) ∧ Below w.heap.size w w' := by
  unfold betw
  rw [← less_of, ← less_of]
  cases h1 : Op.bytesLess s.toList low.toList <;> cases h2 : Op.bytesLess s.toList high.toList <;> cases ends <;>
    (go_enter Try.func19, Try.ntmps19
     go_wp2_with fail
     go_ret
     exact ⟨rfl, Below.refl _ _⟩)
end Go.Proofs.Ytkeobalbfngniaa
