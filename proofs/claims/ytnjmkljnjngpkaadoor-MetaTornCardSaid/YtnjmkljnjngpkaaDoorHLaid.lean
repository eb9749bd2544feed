/-
  The walk of the program's laid.
-/
import Derived.Test.YtnjmkljnjngpkaaDoorHFields
import Derived.Deep.RegionHeld3
namespace Go.Proofs.YtnjmkljnjngpkaaDoor.L7
open Go.RowKit
set_option linter.unusedVariables false
set_option linter.unusedSimpArgs false

def piece (h : HP.H) (k : Nat) : List UInt8 := (Lib.leBytes 4 (fd h k).n.toNat).take (fd h k).sz
def outAt (h : HP.H) (k : Nat) : List UInt8 := (List.range k).flatMap (piece h)
theorem outAt_succ (h : HP.H) (k : Nat) : outAt h (k + 1) = outAt h k ++ piece h k := by simp [outAt, List.range_succ]
theorem piece_length (h : HP.H) (k : Nat) : (piece h k).length ≤ 4 := by simp [piece, Lib.leBytes_length]; omega
theorem outAt_length (h : HP.H) : ∀ k, (outAt h k).length ≤ 4 * k
  | 0 => by simp [outAt]
  | k + 1 => by
    rw [outAt_succ, List.length_append]
    have := outAt_length h k
    have := piece_length h k
    omega
theorem outAt_all (h : HP.H) (hh : HP.Ok h) : outAt h 5 = HP.front h := by
  obtain ⟨k, l, c, r, s⟩ := h
  obtain ⟨h1, h2, h3, h4, h5, h6, h7, h8, h9, h10⟩ := hh
  simp only at h1 h2 h3 h4 h5 h6 h7 h8 h9 h10
  obtain ⟨k, rfl⟩ := Int.eq_ofNat_of_zero_le (show 0 ≤ k by omega)
  obtain ⟨l, rfl⟩ := Int.eq_ofNat_of_zero_le h3
  obtain ⟨c, rfl⟩ := Int.eq_ofNat_of_zero_le h5
  obtain ⟨r, rfl⟩ := Int.eq_ofNat_of_zero_le h7
  obtain ⟨s, rfl⟩ := Int.eq_ofNat_of_zero_le h9
  have e : ∀ v : Nat, (Lib.leBytes 4 v).take 4 = Lib.leBytes 4 v := fun v => List.take_of_length_le (by rw [Lib.leBytes_length]; exact Nat.le_refl _)
  have e1 : ∀ v : Nat, v < 256 → (Lib.leBytes 4 v).take 1 = [HP.u8 v] := fun v hv => by
    simp only [Lib.leBytes, List.take_succ_cons, List.take_zero, HP.u8]
    rw [u8n v v rfl]
    congr 1
    apply UInt8.toNat_inj.1
    simp [Nat.toUInt8]
  have e2 : ∀ v : Nat, v < 65536 → (Lib.leBytes 4 v).take 2 = [HP.u8 (v % 256), HP.u8 (v / 256)] := fun v hv => by
    simp only [Lib.leBytes, List.take_succ_cons, List.take_zero, HP.u8]
    rw [show (v % 256).toUInt8 = UInt8.ofNat (v % 256) from rfl, show (v / 256 % 256).toUInt8 = UInt8.ofNat (v / 256 % 256) from rfl, Nat.mod_eq_of_lt (show v / 256 < 256 by omega)]
  simp only [outAt, List.range, List.range.loop, List.flatMap_cons, List.flatMap_nil, piece, fd, Int.toNat_natCast, e, HP.front]
  rw [e1 k (by omega), e1 l (by omega), e2 c (by omega)]
  simp
/-- What is laid behind k rounds, as a text. -/
def outS (h : HP.H) (k : Nat) : ByteArray := ⟨(outAt h k).toArray⟩
theorem outS_succ (h : HP.H) (k : Nat) : outS h k ++ (⟨(Lib.leBytes 4 (fd h k).n.toNat).toArray⟩ : ByteArray).extract 0 (fd h k).sz = outS h (k + 1) := by
  unfold outS
  rw [outAt_succ]
  apply ByteArray.ext
  simp [piece]
theorem outS_size (h : HP.H) (k : Nat) : (outS h k).size ≤ 4 * k := by
  have := outAt_length h k
  simpa [outS, ByteArray.size] using this
theorem fd_sz (h : HP.H) (k : Nat) (hk : k < 5) : (fd h k).sz ≤ 4 := by
  rcases (show k = 0 ∨ k = 1 ∨ k = 2 ∨ k = 3 ∨ k = 4 by omega) with rfl | rfl | rfl | rfl | rfl <;> simp [fd]
theorem fd_n (h : HP.H) (hh : HP.Ok h) (k : Nat) (hk : k < 5) : 0 ≤ (fd h k).n ∧ (fd h k).n ≤ 65535 := by
  obtain ⟨h1, h2, h3, h4, h5, h6, h7, h8, h9, h10⟩ := hh
  rcases (show k = 0 ∨ k = 1 ∨ k = 2 ∨ k = 3 ∨ k = 4 by omega) with rfl | rfl | rfl | rfl | rfl <;> simp only [fd] <;> omega
/-- A field's box. -/
def Fx (g : Nat) (f : Fd) (w : World) : Prop := w.heap[g]? = some (.cells #[.string f.nm, .int .i64 f.n, .int .i64 f.lo, .int .i64 f.hi, .int .i64 f.sz] 111 (0, 0))
theorem Fx.cells {g : Nat} {f : Fd} {w : World} (k : Fx g f w) : w.cell? ⟨g, 1, none⟩ = some (.int .i64 f.n) ∧ w.cell? ⟨g, 4, none⟩ = some (.int .i64 f.sz) := by
  unfold Fx at k
  refine ⟨?_, ?_⟩ <;> simp [World.cell?, k]
theorem Fx.lt {g : Nat} {f : Fd} {w : World} (k : Fx g f w) : g < w.heap.size := (Array.getElem?_eq_some_iff.1 k).1
theorem Fx.below {g : Nat} {f : Fd} {w w' : World} (k : Fx g f w) (b : Below w.heap.size w w') : Fx g f w' := (b.block g k.lt).trans k
theorem hasFx {g : Nat} {f : Fd} {w : World} (k : Fx g f w) : Hid (Fx g f w) ∧ w.cell? ⟨g, 1, none⟩ = some (.int .i64 f.n) ∧ w.cell? ⟨g, 4, none⟩ = some (.int .i64 f.sz) := ⟨Lib.hid k, k.cells⟩

set_option maxHeartbeats 2000000 in
set_option maxRecDepth 100000 in
theorem laid_any (h : HP.H) (hh : HP.Ok h) (a : Addr) (w : World) (ha : FL w a h) :
    Calls Tryd.prog 56 #[.slice (some a) 5 5] w fun e w' => e = .returned (.string ⟨(HP.front h).toArray⟩) ∧ Below w.heap.size w w' := by
  have HA := Lib.hid ha
  clear ha
  have HE : Hid (outS h 5 = ⟨(HP.front h).toArray⟩) := Lib.hid (by unfold outS; rw [outAt_all h hh])
  rw [← HE.out]
  clear HE
  have hz0 : outS h 0 = ⟨#[]⟩ := rfl
  go_enter Tryd.func56, Tryd.ntmps56
  go_wp2_with fail
  go_loopw [3, 8] (fun ov iv wr => ∃ k : Nat, k ≤ 5 ∧ iv = .int .i64 k ∧ ov = .string (outS h k) ∧ Below w.heap.size w wr) (fun _ iv _ => 5 - (intOf iv).toNat)
  case atStart => exact ⟨0, by omega, rfl, rfl, Below.refl _ _⟩
  case round =>
    obtain ⟨k, hk, rfl, rfl, hbw⟩ := hrel
    by_cases hlt : k < 5
    · have hF := (HA.out.below hbw).2 k hlt
      have hsz := fd_sz h k hlt
      have hn := fd_n h hh k hlt
      have hos := outS_size h k
      have HS := Lib.hid (outS_succ h k)
      obtain ⟨f, hf⟩ : ∃ f, fd h k = f := ⟨_, rfl⟩
      rw [hf] at hF hsz hn HS
      clear hf
      obtain ⟨nm, n, lo, hi, sz⟩ := f
      obtain ⟨hab, x0, x1, x2, x3, x4⟩ := hF
      simp only at x0 x1 x2 x3 x4 hsz hn HS
      clear hab
      obtain ⟨n, rfl⟩ := Int.eq_ofNat_of_zero_le hn.1
      obtain ⟨T, hT⟩ : ∃ T : ByteArray, ⟨(Lib.leBytes 4 n).toArray⟩ = T := ⟨_, rfl⟩
      have sT : T.size = 4 := by rw [← hT]; simp [ByteArray.size, Lib.leBytes_length]
      have HF : Hid (∀ W, Calls Tryd.prog 23 #[.int .u32 (n : Int)] W fun e w' => e = .returned (.string T) ∧ Below W.heap.size W w') := Lib.hid (fun W => by
        have h := four_any (n : Int) W (by omega) (by omega)
        rw [Int.toNat_natCast, hT] at h
        exact h)
      rw [Int.toNat_natCast, hT] at HS
      clear hT
      obtain ⟨O, hO⟩ : ∃ O, outS h k = O := ⟨_, rfl⟩
      rw [hO] at HS hos ⊢
      clear hO
      have q1 : IntKind.u32.wrap (n : Int) = n := IntWalk.u32_in _ (by omega)
      obtain ⟨U, hU⟩ : ∃ U, T.extract 0 sz = U := ⟨_, rfl⟩
      have sU : U.size = sz := by rw [← hU]; simp; omega
      have HS2 : Hid (O ++ U = outS h (k + 1)) := Lib.hid (by rw [← hU]; exact HS.out)
      have b1 : (0 : Int) ≤ (sz : Int) := by omega
      have b2 : (sz : Int) ≤ (T.size : Int) := by omega
      have b3 : sz ≤ T.size := by omega
      have b5 : ¬ 9223372036854775807 < O.size + U.size := by omega
      have b6 : ¬ (9223372036854775807 : Int) < (O.size : Int) + (U.size : Int) := by omega
      clear sT sU hos HS hsz
      have hfx : Fx wr.heap.size ⟨nm, n, lo, hi, sz⟩ (wr.alloc (.cells #[.string nm, .int .i64 n, .int .i64 lo, .int .i64 hi, .int .i64 sz] 111)) := heap_alloc_new wr _
      have hb0 := hbw.trans' (below_alloc wr (.cells #[.string nm, .int .i64 n, .int .i64 lo, .int .i64 hi, .int .i64 sz] 111))
      have HSB : Hid (∀ V V' : World, Below V.heap.size V V' → (Hid (Fx wr.heap.size ⟨nm, n, lo, hi, sz⟩ V) ∧ V.cell? ⟨wr.heap.size, 1, none⟩ = some (.int .i64 n) ∧ V.cell? ⟨wr.heap.size, 4, none⟩ = some (.int .i64 sz)) → (Hid (Fx wr.heap.size ⟨nm, n, lo, hi, sz⟩ V') ∧ V'.cell? ⟨wr.heap.size, 1, none⟩ = some (.int .i64 n) ∧ V'.cell? ⟨wr.heap.size, 4, none⟩ = some (.int .i64 sz))) := Lib.hid (fun V V' hb hh => hasFx (hh.1.out.below hb))
      have hSV := hasFx hfx
      have hSd := HSB.out _ _ (below_drewN (Below.refl _ (wr.alloc (.cells #[.string nm, .int .i64 n, .int .i64 lo, .int .i64 hi, .int .i64 sz] 111))) 1) hSV
      have HB0 := Lib.hid hb0
      clear hfx hb0
      go_wp2_with fail
      go_region_held3 (fun V => Hid (Fx wr.heap.size ⟨nm, n, lo, hi, sz⟩ V) ∧ V.cell? ⟨wr.heap.size, 1, none⟩ = some (.int .i64 n) ∧ V.cell? ⟨wr.heap.size, 4, none⟩ = some (.int .i64 sz))
        (first | assumption | exact hSd)
        (first
          | (go_at_call 23; refine (HF.out _).mono ?_; rintro e V2 ⟨rfl, hb2⟩; have HB2 := Lib.hid (below_of_drew hb2); have hSV2 := HSB.out _ _ (below_of_drew hb2) (by assumption))
          | fail "no arm")
      rw [HS2.out]
      go_wp2_with fail
      go_roundw
      case rel => exact ⟨k + 1, by omega, by go_num, rfl, HB0.out.trans' HB2.out⟩
      case measure => simp [intOf]; omega
    · obtain rfl : k = 5 := by omega
      go_wp2_with fail
      go_ret
      exact ⟨rfl, hbw⟩
end Go.Proofs.YtnjmkljnjngpkaaDoor.L7
