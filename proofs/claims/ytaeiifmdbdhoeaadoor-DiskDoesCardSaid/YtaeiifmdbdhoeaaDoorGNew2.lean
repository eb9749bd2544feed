/-
  The walks of the program's Size and New.
-/
import Derived.Test.YtaeiifmdbdhoeaaDoorGNew
namespace Go.Proofs.YtaeiifmdbdhoeaaDoor
open Go.RowKit
open Go.ChangeShapes
open DP (W D)
set_option linter.unusedVariables false
set_option linter.unusedSimpArgs false
variable {Fb : Nat → Prop}

def four : Value := .agg #[.int .i64 128, .int .i64 256, .int .i64 512, .int .i64 1024]
theorem ix0 : ∀ W : World, (Instr.index 75 (.agg #[.int .i64 128, .int .i64 256, .int .i64 512, .int .i64 1024]) (.int .i64 0)).run Tryd.prog W = .ok (.int .i64 128) W := fun W => by kernel_rfl
theorem ix1 : ∀ W : World, (Instr.index 75 (.agg #[.int .i64 128, .int .i64 256, .int .i64 512, .int .i64 1024]) (.int .i64 1)).run Tryd.prog W = .ok (.int .i64 256) W := fun W => by kernel_rfl
theorem ix2 : ∀ W : World, (Instr.index 75 (.agg #[.int .i64 128, .int .i64 256, .int .i64 512, .int .i64 1024]) (.int .i64 2)).run Tryd.prog W = .ok (.int .i64 512) W := fun W => by kernel_rfl
theorem ix3 : ∀ W : World, (Instr.index 75 (.agg #[.int .i64 128, .int .i64 256, .int .i64 512, .int .i64 1024]) (.int .i64 3)).run Tryd.prog W = .ok (.int .i64 1024) W := fun W => by kernel_rfl
def mayBe (p : Int) : Bool := decide (p = 128 ∨ p = 256 ∨ p = 512 ∨ p = 1024)
set_option maxHeartbeats 1000000 in
set_option maxRecDepth 100000 in
theorem size_any (p : Int) (w : World) (h : Sizes w) : Calls Tryd.prog 11 #[.int .i64 p] w fun e w' => e = .returned (.bool (mayBe p)) ∧ w = w' := by
  obtain ⟨s0, s1, s2, s3⟩ := h
  have ix0 := ix0
  have ix1 := ix1
  have ix2 := ix2
  have ix3 := ix3
  obtain ⟨r, hr⟩ : ∃ r, r = mayBe p := ⟨_, rfl⟩
  have HR := Lib.hid hr
  rw [← hr]
  clear hr
  go_enter Tryd.func11, Tryd.ntmps11
  go_wp2_with fail
  go_loopw [6] (fun iv wr => ∃ k : Nat, k ≤ 4 ∧ iv = .int .i64 k ∧ Hid (wr = w) ∧ Hid ((0 < k → p ≠ 128) ∧ (1 < k → p ≠ 256) ∧ (2 < k → p ≠ 512) ∧ (3 < k → p ≠ 1024))) (fun iv _ => 4 - (intOf iv).toNat)
  case atStart => exact ⟨0, by omega, rfl, Lib.hid rfl, Lib.hid ⟨by omega, by omega, by omega, by omega⟩⟩
  case round =>
    obtain ⟨k, hk, rfl, HW, HP⟩ := hrel
    obtain rfl := HW.out
    by_cases h4 : k = 4
    · subst h4
      have HF : Hid (r = false) := Lib.hid (by
        rw [HR.out]
        obtain ⟨a, b, c, d⟩ := HP.out
        have := a (by omega); have := b (by omega); have := c (by omega); have := d (by omega)
        unfold mayBe
        simp [*])
      go_wp2_with fail
      go_ret
      exact ⟨by rw [HF.out]; try rfl, rfl⟩
    · have hcase : k = 0 ∨ k = 1 ∨ k = 2 ∨ k = 3 := by omega
      clear hk h4
      rcases hcase with rfl | rfl | rfl | rfl
      · by_cases hp : p = 128
        · subst hp
          have HT : Hid (r = true) := Lib.hid (by rw [HR.out]; rfl)
          go_wp2_with fail
          go_ret
          exact ⟨by rw [HT.out]; try rfl, rfl⟩
        · have q1 : (p == 128) = false := beq_eq_false_iff_ne.2 hp
          go_wp2_with fail
          go_roundw
          case rel => exact ⟨1, by omega, rfl, (by first | exact Lib.hid rfl | exact Lib.hid trivial), Lib.hid ⟨fun _ => hp, by omega, by omega, by omega⟩⟩
          case measure => simp [intOf]
      · by_cases hp : p = 256
        · subst hp
          have HT : Hid (r = true) := Lib.hid (by rw [HR.out]; rfl)
          go_wp2_with fail
          go_ret
          exact ⟨by rw [HT.out]; try rfl, rfl⟩
        · have q1 : (p == 256) = false := beq_eq_false_iff_ne.2 hp
          go_wp2_with fail
          go_roundw
          case rel => exact ⟨2, by omega, rfl, (by first | exact Lib.hid rfl | exact Lib.hid trivial), Lib.hid ⟨fun _ => HP.out.1 (by omega), fun _ => hp, by omega, by omega⟩⟩
          case measure => simp [intOf]
      · by_cases hp : p = 512
        · subst hp
          have HT : Hid (r = true) := Lib.hid (by rw [HR.out]; rfl)
          go_wp2_with fail
          go_ret
          exact ⟨by rw [HT.out]; try rfl, rfl⟩
        · have q1 : (p == 512) = false := beq_eq_false_iff_ne.2 hp
          go_wp2_with fail
          go_roundw
          case rel => exact ⟨3, by omega, rfl, (by first | exact Lib.hid rfl | exact Lib.hid trivial), Lib.hid ⟨fun _ => HP.out.1 (by omega), fun _ => HP.out.2.1 (by omega), fun _ => hp, by omega⟩⟩
          case measure => simp [intOf]
      · by_cases hp : p = 1024
        · subst hp
          have HT : Hid (r = true) := Lib.hid (by rw [HR.out]; rfl)
          go_wp2_with fail
          go_ret
          exact ⟨by rw [HT.out]; try rfl, rfl⟩
        · have q1 : (p == 1024) = false := beq_eq_false_iff_ne.2 hp
          go_wp2_with fail
          go_roundw
          case rel => exact ⟨4, by omega, rfl, (by first | exact Lib.hid rfl | exact Lib.hid trivial), Lib.hid ⟨fun _ => HP.out.1 (by omega), fun _ => HP.out.2.1 (by omega), fun _ => HP.out.2.2.1 (by omega), fun _ => hp⟩⟩
          case measure => simp [intOf]

def fresh (p room : Nat) : D := ⟨p, room, [], [], none, 0⟩
theorem fresh_ok (p room : Nat) : (fresh p room).Ok := ⟨DP.Sized.nil p, Nat.zero_le _, fun w hw => by simp [fresh] at hw, fun w hw => by simp [fresh] at hw⟩
theorem obd_fresh (w : World) (b p room : Nat) (hp : 0 < p) (hp2 : p ≤ 1024) (hr : 0 < room) (hr2 : room ≤ 4096) (h : Obd w b p room 0 0 (.slice none 0 0) 0 (.slice none 0 0) (.pointer none) false 0) : HasX Fb w b (fresh p room) :=
  ⟨⟨none, 0, [], none, 0, [], .pointer none, false, 0, h, ⟨Blocks.nil _, Rep.nil p⟩, ⟨Blocks.nil _, Rep.nil p⟩, rfl, ⟨by omega, rfl⟩⟩, fresh_ok p room, ⟨hp, hp2, hr, hr2, by show 0 ≤ _; omega⟩⟩

/-- New refuses these. -/
def newBad (p room : Int) : Prop := mayBe p = false ∨ room < 1 ∨ 4096 < room
set_option maxRecDepth 100000 in
theorem new_bad (p room : Int) (w : World) (h : Sizes w) (hb : newBad p room) :
    Calls Tryd.prog 23 #[.int .i64 p, .int .i64 room] w fun e w' => e = .returned (.tuple #[.pointer none, .int .i64 4]) ∧ w = w' := by
  have HS := Lib.hid (size_any p w h)
  unfold newBad at hb
  cases hm : mayBe p with
  | false =>
    rw [hm] at HS
    clear hb h hm
    go_enter Tryd.func23, Tryd.ntmps23
    go_wp2_with fail
    refine HS.out.mono ?_
    rintro e w1 ⟨rfl, rfl⟩
    go_wp2_with fail
    go_ret2
    exact ⟨rfl, rfl⟩
  | true =>
    rw [hm] at HS hb
    by_cases h1 : room < 1
    · have d1 : decide (room < 1) = true := decide_eq_true h1
      clear hb h hm h1
      go_enter Tryd.func23, Tryd.ntmps23
      go_wp2_with fail
      refine HS.out.mono ?_
      rintro e w1 ⟨rfl, rfl⟩
      go_wp2_with fail
      go_ret2
      exact ⟨rfl, rfl⟩
    · have d1 : decide (room < 1) = false := decide_eq_false h1
      have h2 : 4096 < room := by rcases hb with h | h | h; cases h; omega; exact h
      have d2 : decide (4096 < room) = true := decide_eq_true h2
      clear hb h hm h1 h2
      go_enter Tryd.func23, Tryd.ntmps23
      go_wp2_with fail
      refine HS.out.mono ?_
      rintro e w1 ⟨rfl, rfl⟩
      go_wp2_with fail
      go_ret2
      exact ⟨rfl, rfl⟩
set_option maxRecDepth 100000 in
theorem new_goodX (p room : Nat) (w : World) (h : Sizes w) (hm : mayBe p = true) (hr : 0 < room) (hr2 : room ≤ 4096) :
    Calls Tryd.prog 23 #[.int .i64 p, .int .i64 room] w fun e w' => ∃ b, e = .returned (.tuple #[.pointer (some ⟨b, 0, none⟩), .int .i64 0]) ∧ HasX Fb w' b (fresh p room) ∧ w.heap.size ≤ b ∧ Below w.heap.size w w' := by
  have HS := Lib.hid (size_any p w h)
  have hp : 0 < p ∧ p ≤ 1024 := by
    unfold mayBe at hm
    have := of_decide_eq_true hm
    omega
  have HF := Lib.hid (fun W b => obd_fresh (Fb := Fb) W b p room hp.1 hp.2 hr hr2)
  rw [hm] at HS
  have d1 : decide ((room : Int) < 1) = false := decide_eq_false (by omega)
  have d2 : decide ((4096 : Int) < (room : Int)) = false := decide_eq_false (by omega)
  have d2n : decide (4096 < room) = false := decide_eq_false (by omega)
  have d1n : decide (room < 1) = false := decide_eq_false (by omega)
  clear h hm hp
  go_enter Tryd.func23, Tryd.ntmps23
  go_wp2_with fail
  refine HS.out.mono ?_
  rintro e w1 ⟨rfl, rfl⟩
  go_wp2_with fail
  go_ret2
  have hb := (below_alloc w (.cells #[.int .i64 (p : Int), .int .i64 0, .slice none 0 0] 67)).trans' (below_alloc _ (.cells #[.int .i64 (room : Int), .int .i64 0, .int .i64 (p : Int), .int .i64 0, .slice none 0 0, .int .i64 (p : Int), .int .i64 0, .slice none 0 0, .pointer none, .bool false, .int .i64 0] 70))
  refine ⟨w.heap.size + 1, rfl, HF.out _ _ ?_, by omega, ?_⟩
  · have := heap_alloc_new (w.alloc (.cells #[.int .i64 (p : Int), .int .i64 0, .slice none 0 0] 67)) (.cells #[.int .i64 (room : Int), .int .i64 0, .int .i64 (p : Int), .int .i64 0, .slice none 0 0, .int .i64 (p : Int), .int .i64 0, .slice none 0 0, .pointer none, .bool false, .int .i64 0] 70)
    simpa [Obd] using this
  · exact hb
end Go.Proofs.YtaeiifmdbdhoeaaDoor
