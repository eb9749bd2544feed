import Derived.Test.YtpeghilfldpgfaaGreatDoorQ02
import Derived.Lib.LaidTab
import Derived.Test.YtpeghilfldpgfaaGreatDoorShelf
import Derived.OpenShut
import Derived.ShutString
import Derived.ChangeOld
import Derived.Lib.Repeat
import Derived.Deep.RegionWith
namespace Go.Proofs.YtpeghilfldpgfaaGreatDoor.L7
open Go.RowKit
set_option linter.unusedVariables false
set_option linter.unusedSimpArgs false
def piece (h : HP.H) (k : Nat) : List UInt8 := (Lib.leBytes 4 (fd h k).n.toNat).take (fd h k).sz
def outAt (h : HP.H) (k : Nat) : List UInt8 := (List.range k).flatMap (piece h)
theorem outAt_succ (h : HP.H) (k : Nat) : outAt h (k + 1) = outAt h k ++ piece h k := by simp [outAt, List.range_succ]
theorem piece_length (h : HP.H) (k : Nat) : (piece h k).length ≤ 4 := by simp [piece, Lib.leBytes_length]; omega
theorem outAt_length (h : HP.H) : ∀ k, (outAt h k).length ≤ 4 * k
  | 0 => by simp [outAt]
  | k + 1 => by
    rw [outAt_succ, List.length_append]
    have := outAt_length h k
    have := piece_length h k
    omega
theorem outAt_all (h : HP.H) (hh : HP.Ok h) : outAt h 5 = HP.front h := by
  obtain ⟨k, l, c, r, s⟩ := h
  obtain ⟨h1, h2, h3, h4, h5, h6, h7, h8, h9, h10⟩ := hh
  simp only at h1 h2 h3 h4 h5 h6 h7 h8 h9 h10
  obtain ⟨k, rfl⟩ := Int.eq_ofNat_of_zero_le (show 0 ≤ k by omega)
  obtain ⟨l, rfl⟩ := Int.eq_ofNat_of_zero_le h3
  obtain ⟨c, rfl⟩ := Int.eq_ofNat_of_zero_le h5
  obtain ⟨r, rfl⟩ := Int.eq_ofNat_of_zero_le h7
  obtain ⟨s, rfl⟩ := Int.eq_ofNat_of_zero_le h9
  have e : ∀ v : Nat, (Lib.leBytes 4 v).take 4 = Lib.leBytes 4 v := fun v => List.take_of_length_le (by rw [Lib.leBytes_length]; exact Nat.le_refl _)
  have e1 : ∀ v : Nat, v < 256 → (Lib.leBytes 4 v).take 1 = [HP.u8 v] := fun v hv => by
    simp only [Lib.leBytes, List.take_succ_cons, List.take_zero, HP.u8]
    rw [u8n v v rfl]
    congr 1
    apply UInt8.toNat_inj.1
    simp [Nat.toUInt8]
  have e2 : ∀ v : Nat, v < 65536 → (Lib.leBytes 4 v).take 2 = [HP.u8 (v % 256), HP.u8 (v / 256)] := fun v hv => by
    simp only [Lib.leBytes, List.take_succ_cons, List.take_zero, HP.u8]
    rw [show (v % 256).toUInt8 = UInt8.ofNat (v % 256) from rfl, show (v / 256 % 256).toUInt8 = UInt8.ofNat (v / 256 % 256) from rfl, Nat.mod_eq_of_lt (show v / 256 < 256 by omega)]
  simp only [outAt, List.range, List.range.loop, List.flatMap_cons, List.flatMap_nil, piece, fd, Int.toNat_natCast, e, HP.front]
  rw [e1 k (by omega), e1 l (by omega), e2 c (by omega)]
  simp
def outS (h : HP.H) (k : Nat) : ByteArray := ⟨(outAt h k).toArray⟩
theorem outS_succ (h : HP.H) (k : Nat) : outS h k ++ (⟨(Lib.leBytes 4 (fd h k).n.toNat).toArray⟩ : ByteArray).extract 0 (fd h k).sz = outS h (k + 1) := by
  unfold outS
  rw [outAt_succ]
  apply ByteArray.ext
  simp [piece]
theorem outS_size (h : HP.H) (k : Nat) : (outS h k).size ≤ 4 * k := by
  have := outAt_length h k
  simpa [outS, ByteArray.size] using this
theorem fd_sz (h : HP.H) (k : Nat) (hk : k < 5) : (fd h k).sz ≤ 4 := by
  rcases (show k = 0 ∨ k = 1 ∨ k = 2 ∨ k = 3 ∨ k = 4 by omega) with rfl | rfl | rfl | rfl | rfl <;> simp [fd]
theorem fd_n (h : HP.H) (hh : HP.Ok h) (k : Nat) (hk : k < 5) : 0 ≤ (fd h k).n ∧ (fd h k).n ≤ 65535 := by
  obtain ⟨h1, h2, h3, h4, h5, h6, h7, h8, h9, h10⟩ := hh
  rcases (show k = 0 ∨ k = 1 ∨ k = 2 ∨ k = 3 ∨ k = 4 by omega) with rfl | rfl | rfl | rfl | rfl <;> simp only [fd] <;> omega
def Fx (g : Nat) (f : Fd) (w : World) : Prop := w.heap[g]? = some (.cells #[.string f.nm, .int .i64 f.n, .int .i64 f.lo, .int .i64 f.hi, .int .i64 f.sz] 299 (0, 0))
theorem Fx.cells {g : Nat} {f : Fd} {w : World} (k : Fx g f w) : w.cell? ⟨g, 1, none⟩ = some (.int .i64 f.n) ∧ w.cell? ⟨g, 4, none⟩ = some (.int .i64 f.sz) := by
  unfold Fx at k
  refine ⟨?_, ?_⟩ <;> simp [World.cell?, k]
theorem Fx.lt {g : Nat} {f : Fd} {w : World} (k : Fx g f w) : g < w.heap.size := (Array.getElem?_eq_some_iff.1 k).1
theorem Fx.below {g : Nat} {f : Fd} {w w' : World} (k : Fx g f w) (b : Below w.heap.size w w') : Fx g f w' := (b.block g k.lt).trans k
theorem hasFx {g : Nat} {f : Fd} {w : World} (k : Fx g f w) : Hid (Fx g f w) ∧ w.cell? ⟨g, 1, none⟩ = some (.int .i64 f.n) ∧ w.cell? ⟨g, 4, none⟩ = some (.int .i64 f.sz) := ⟨Lib.hid k, k.cells⟩
set_option maxHeartbeats 2000000 in
set_option maxRecDepth 100000 in
theorem laid_any (h : HP.H) (hh : HP.Ok h) (a : Addr) (w : World) (ha : FL w a h) :
    Calls Tryz.prog 169 #[.slice (some a) 5 5] w fun e w' => e = .returned (.string ⟨(HP.front h).toArray⟩) ∧ Below w.heap.size w w' := by
  have HA := Lib.hid ha
  clear ha
  have HE : Hid (outS h 5 = ⟨(HP.front h).toArray⟩) := Lib.hid (by unfold outS; rw [outAt_all h hh])
  rw [← HE.out]
  clear HE
  have hz0 : outS h 0 = ⟨#[]⟩ := rfl
  go_enter Tryz.func169, Tryz.ntmps169
  go_wp2_with fail
  go_loopw [3, 8] (fun ov iv wr => ∃ k : Nat, k ≤ 5 ∧ iv = .int .i64 k ∧ ov = .string (outS h k) ∧ Below w.heap.size w wr) (fun _ iv _ => 5 - (intOf iv).toNat)
  case atStart => exact ⟨0, by omega, rfl, rfl, Below.refl _ _⟩
  case round =>
    obtain ⟨k, hk, rfl, rfl, hbw⟩ := hrel
    by_cases hlt : k < 5
    · have hF := (HA.out.below hbw).2 k hlt
      have hsz := fd_sz h k hlt
      have hn := fd_n h hh k hlt
      have hos := outS_size h k
      have HS := Lib.hid (outS_succ h k)
      obtain ⟨f, hf⟩ : ∃ f, fd h k = f := ⟨_, rfl⟩
      rw [hf] at hF hsz hn HS
      clear hf
      obtain ⟨nm, n, lo, hi, sz⟩ := f
      obtain ⟨hab, x0, x1, x2, x3, x4⟩ := hF
      simp only at x0 x1 x2 x3 x4 hsz hn HS
      clear hab
      obtain ⟨n, rfl⟩ := Int.eq_ofNat_of_zero_le hn.1
      obtain ⟨T, hT⟩ : ∃ T : ByteArray, ⟨(Lib.leBytes 4 n).toArray⟩ = T := ⟨_, rfl⟩
      have sT : T.size = 4 := by rw [← hT]; simp [ByteArray.size, Lib.leBytes_length]
      have HF : Hid (∀ W, Calls Tryz.prog 61 #[.int .u32 (n : Int)] W fun e w' => e = .returned (.string T) ∧ Below W.heap.size W w') := Lib.hid (fun W => by
        have h := four_any (n : Int) W (by omega) (by omega)
        rw [Int.toNat_natCast, hT] at h
        exact h)
      rw [Int.toNat_natCast, hT] at HS
      clear hT
      obtain ⟨O, hO⟩ : ∃ O, outS h k = O := ⟨_, rfl⟩
      rw [hO] at HS hos ⊢
      clear hO
      have q1 : IntKind.u32.wrap (n : Int) = n := IntWalk.u32_in _ (by omega)
      obtain ⟨U, hU⟩ : ∃ U, T.extract 0 sz = U := ⟨_, rfl⟩
      have sU : U.size = sz := by rw [← hU]; simp; omega
      have HS2 : Hid (O ++ U = outS h (k + 1)) := Lib.hid (by rw [← hU]; exact HS.out)
      have b1 : (0 : Int) ≤ (sz : Int) := by omega
      have b2 : (sz : Int) ≤ (T.size : Int) := by omega
      have b3 : sz ≤ T.size := by omega
      have b5 : ¬ 9223372036854775807 < O.size + U.size := by omega
      have b6 : ¬ (9223372036854775807 : Int) < (O.size : Int) + (U.size : Int) := by omega
      clear sT sU hos HS hsz
      have hfx : Fx wr.heap.size ⟨nm, n, lo, hi, sz⟩ (wr.alloc (.cells #[.string nm, .int .i64 n, .int .i64 lo, .int .i64 hi, .int .i64 sz] 299)) := heap_alloc_new wr _
      have hb0 := hbw.trans' (below_alloc wr (.cells #[.string nm, .int .i64 n, .int .i64 lo, .int .i64 hi, .int .i64 sz] 299))
      have HSB : Hid (∀ V V' : World, Below V.heap.size V V' → (Hid (Fx wr.heap.size ⟨nm, n, lo, hi, sz⟩ V) ∧ V.cell? ⟨wr.heap.size, 1, none⟩ = some (.int .i64 n) ∧ V.cell? ⟨wr.heap.size, 4, none⟩ = some (.int .i64 sz)) → (Hid (Fx wr.heap.size ⟨nm, n, lo, hi, sz⟩ V') ∧ V'.cell? ⟨wr.heap.size, 1, none⟩ = some (.int .i64 n) ∧ V'.cell? ⟨wr.heap.size, 4, none⟩ = some (.int .i64 sz))) := Lib.hid (fun V V' hb hh => hasFx (hh.1.out.below hb))
      have hSV := hasFx hfx
      have hSd := HSB.out _ _ (below_drewN (Below.refl _ (wr.alloc (.cells #[.string nm, .int .i64 n, .int .i64 lo, .int .i64 hi, .int .i64 sz] 299))) 1) hSV
      have HB0 := Lib.hid hb0
      clear hfx hb0
      go_wp2_with fail
      go_region_held3 (fun V => Hid (Fx wr.heap.size ⟨nm, n, lo, hi, sz⟩ V) ∧ V.cell? ⟨wr.heap.size, 1, none⟩ = some (.int .i64 n) ∧ V.cell? ⟨wr.heap.size, 4, none⟩ = some (.int .i64 sz))
        (first | assumption | exact hSd)
        (first
          | (go_at_call 61; refine (HF.out _).mono ?_; rintro e V2 ⟨rfl, hb2⟩; have HB2 := Lib.hid (below_of_drew hb2); have hSV2 := HSB.out _ _ (below_of_drew hb2) (by assumption))
          | fail "no arm")
      rw [HS2.out]
      go_wp2_with fail
      go_roundw
      case rel => exact ⟨k + 1, by omega, by go_num, rfl, HB0.out.trans' HB2.out⟩
      case measure => simp [intOf]; omega
    · obtain rfl : k = 5 := by omega
      go_wp2_with fail
      go_ret
      exact ⟨rfl, hbw⟩
end Go.Proofs.YtpeghilfldpgfaaGreatDoor.L7
namespace Go.Proofs.YtpeghilfldpgfaaGreatDoor.L7
open Go.RowKit
open Go.ChangeShapes
set_option linter.unusedVariables false
set_option linter.unusedSimpArgs false
def Sizes (w : World) : Prop := w.cell? ⟨1, 0, none⟩ = some (.int .i64 128) ∧ w.cell? ⟨1, 1, none⟩ = some (.int .i64 256) ∧ w.cell? ⟨1, 2, none⟩ = some (.int .i64 512) ∧ w.cell? ⟨1, 3, none⟩ = some (.int .i64 1024)
theorem Sizes.lt {w : World} (h : Sizes w) : 1 < w.heap.size := by
  refine Nat.lt_of_not_le fun hn => ?_
  have := h.1
  simp [World.cell?, Array.getElem?_eq_none hn] at this
theorem Sizes.below {w w' : World} {c : Nat} (h : Sizes w) (hc : 1 < c) (k : Below c w w') : Sizes w' :=
  ⟨(k.cell hc).trans h.1, (k.cell hc).trans h.2.1, (k.cell hc).trans h.2.2.1, (k.cell hc).trans h.2.2.2⟩
theorem sizes_of {W : World} (h : laidMet Tryz.prog [("withy/disk.sizes", Rows.laid_withy_disk_sizes)] W) : Sizes W := by
  have t : Lib.TabIs Tryz.prog W "withy/disk.sizes" .i64 [128, 256, 512, 1024] :=
    Lib.tabIs_of_head (g := 1) (t := 209) (e := 3) (n := 4) (rest := []) (by kernel_rfl) (by kernel_rfl) Tryz.underlying209 Tryz.underlying3 (by kernel_rfl) (by kernel_rfl) h
  have hg : Tryz.prog.globalNamed "withy/disk.sizes" = some 1 := by kernel_rfl
  exact ⟨t.cell hg 0 (by decide), t.cell hg 1 (by decide), t.cell hg 2 (by decide), t.cell hg 3 (by decide)⟩
theorem ix0 : ∀ W : World, (Instr.index 209 (.agg #[.int .i64 128, .int .i64 256, .int .i64 512, .int .i64 1024]) (.int .i64 0)).run Tryz.prog W = .ok (.int .i64 128) W := fun W => by kernel_rfl
theorem ix1 : ∀ W : World, (Instr.index 209 (.agg #[.int .i64 128, .int .i64 256, .int .i64 512, .int .i64 1024]) (.int .i64 1)).run Tryz.prog W = .ok (.int .i64 256) W := fun W => by kernel_rfl
theorem ix2 : ∀ W : World, (Instr.index 209 (.agg #[.int .i64 128, .int .i64 256, .int .i64 512, .int .i64 1024]) (.int .i64 2)).run Tryz.prog W = .ok (.int .i64 512) W := fun W => by kernel_rfl
theorem ix3 : ∀ W : World, (Instr.index 209 (.agg #[.int .i64 128, .int .i64 256, .int .i64 512, .int .i64 1024]) (.int .i64 3)).run Tryz.prog W = .ok (.int .i64 1024) W := fun W => by kernel_rfl
set_option maxHeartbeats 1000000 in
set_option maxRecDepth 100000 in
theorem size_any (p : Int) (w : World) (h : Sizes w) : Calls Tryz.prog 64 #[.int .i64 p] w fun e w' => e = .returned (.bool (mayBe p)) ∧ w = w' := by
  obtain ⟨s0, s1, s2, s3⟩ := h
  have ix0 := ix0
  have ix1 := ix1
  have ix2 := ix2
  have ix3 := ix3
  obtain ⟨r, hr⟩ : ∃ r, r = mayBe p := ⟨_, rfl⟩
  have HR := Lib.hid hr
  rw [← hr]
  clear hr
  go_enter Tryz.func64, Tryz.ntmps64
  go_wp2_with fail
  go_loopw [6] (fun iv wr => ∃ k : Nat, k ≤ 4 ∧ iv = .int .i64 k ∧ Hid (wr = w) ∧ Hid ((0 < k → p ≠ 128) ∧ (1 < k → p ≠ 256) ∧ (2 < k → p ≠ 512) ∧ (3 < k → p ≠ 1024))) (fun iv _ => 4 - (intOf iv).toNat)
  case atStart => exact ⟨0, by omega, rfl, Lib.hid rfl, Lib.hid ⟨by omega, by omega, by omega, by omega⟩⟩
  case round =>
    obtain ⟨k, hk, rfl, HW, HP⟩ := hrel
    obtain rfl := HW.out
    by_cases h4 : k = 4
    · subst h4
      have HF : Hid (r = false) := Lib.hid (by
        rw [HR.out]
        obtain ⟨a, b, c, d⟩ := HP.out
        have := a (by omega); have := b (by omega); have := c (by omega); have := d (by omega)
        unfold mayBe
        simp [*])
      go_wp2_with fail
      go_ret
      exact ⟨by rw [HF.out]; try rfl, rfl⟩
    · have hcase : k = 0 ∨ k = 1 ∨ k = 2 ∨ k = 3 := by omega
      clear hk h4
      rcases hcase with rfl | rfl | rfl | rfl
      · by_cases hp : p = 128
        · subst hp
          have HT : Hid (r = true) := Lib.hid (by rw [HR.out]; rfl)
          go_wp2_with fail
          go_ret
          exact ⟨by rw [HT.out]; try rfl, rfl⟩
        · have q1 : (p == 128) = false := beq_eq_false_iff_ne.2 hp
          go_wp2_with fail
          go_roundw
          case rel => exact ⟨1, by omega, rfl, (by first | exact Lib.hid rfl | exact Lib.hid trivial), Lib.hid ⟨fun _ => hp, by omega, by omega, by omega⟩⟩
          case measure => simp [intOf]
      · by_cases hp : p = 256
        · subst hp
          have HT : Hid (r = true) := Lib.hid (by rw [HR.out]; rfl)
          go_wp2_with fail
          go_ret
          exact ⟨by rw [HT.out]; try rfl, rfl⟩
        · have q1 : (p == 256) = false := beq_eq_false_iff_ne.2 hp
          go_wp2_with fail
          go_roundw
          case rel => exact ⟨2, by omega, rfl, (by first | exact Lib.hid rfl | exact Lib.hid trivial), Lib.hid ⟨fun _ => HP.out.1 (by omega), fun _ => hp, by omega, by omega⟩⟩
          case measure => simp [intOf]
      · by_cases hp : p = 512
        · subst hp
          have HT : Hid (r = true) := Lib.hid (by rw [HR.out]; rfl)
          go_wp2_with fail
          go_ret
          exact ⟨by rw [HT.out]; try rfl, rfl⟩
        · have q1 : (p == 512) = false := beq_eq_false_iff_ne.2 hp
          go_wp2_with fail
          go_roundw
          case rel => exact ⟨3, by omega, rfl, (by first | exact Lib.hid rfl | exact Lib.hid trivial), Lib.hid ⟨fun _ => HP.out.1 (by omega), fun _ => HP.out.2.1 (by omega), fun _ => hp, by omega⟩⟩
          case measure => simp [intOf]
      · by_cases hp : p = 1024
        · subst hp
          have HT : Hid (r = true) := Lib.hid (by rw [HR.out]; rfl)
          go_wp2_with fail
          go_ret
          exact ⟨by rw [HT.out]; try rfl, rfl⟩
        · have q1 : (p == 1024) = false := beq_eq_false_iff_ne.2 hp
          go_wp2_with fail
          go_roundw
          case rel => exact ⟨4, by omega, rfl, (by first | exact Lib.hid rfl | exact Lib.hid trivial), Lib.hid ⟨fun _ => HP.out.1 (by omega), fun _ => HP.out.2.1 (by omega), fun _ => HP.out.2.2.1 (by omega), fun _ => hp⟩⟩
          case measure => simp [intOf]
end Go.Proofs.YtpeghilfldpgfaaGreatDoor.L7
namespace Go.Proofs.YtpeghilfldpgfaaGreatDoor.L7
open Go.RowKit
set_option linter.unusedVariables false
set_option linter.unusedSimpArgs false
theorem Sizes.kept {w w' : World} (h : Sizes w) (k : Below w.heap.size w w') : Sizes w' := h.below h.lt k
theorem Sizes.alloc {w : World} (h : Sizes w) (o : Obj) : Sizes (w.alloc o) := h.kept (below_alloc w o)
def Why (h : HP.H) (b : ByteArray) (p : Int) (v : Value) : Prop :=
  (mayBe p = false ∧ ∃ a, v = fa a (er 4)) ∨ (mayBe p = true ∧ HP.right h = false ∧ ∃ a c, v = fa a (fa c (er 3))) ∨ (mayBe p = true ∧ HP.right h = true ∧ p - 16 < (b.size : Int) ∧ ∃ a, v = fa a (er 8)) ∨ (mayBe p = true ∧ HP.right h = true ∧ ¬ p - 16 < (b.size : Int) ∧ v = .nilIface)
set_option maxHeartbeats 2000000 in
set_option maxRecDepth 100000 in
theorem sealable_any (h : HP.H) (b : ByteArray) (p : Int) (w : World) (hs : Sizes w) (hp : (Lit.int .i64 p).wf = true) (hb : b.size ≤ maxLen) :
    Calls Tryz.prog 107 #[hv h, .string b, .int .i64 p] w fun e w' => ∃ v, e = .returned v ∧ Below w.heap.size w w' ∧ Why h b p v := by
  have hpb := bounds_i64 hp
  unfold maxLen at hb
  have HZ : ∀ W, Sizes W → Calls Tryz.prog 64 #[.int .i64 p] W fun e w' => e = .returned (.bool (mayBe p)) ∧ W = w' := fun W hW => size_any p W hW
  have HF := Lib.hid (fields_any h)
  have HW := Lib.hid (within_any h)
  obtain ⟨bo, hbo⟩ : ∃ bo : Obj, bo = .cells #[.int .i64 h.k, .int .i64 h.l, .int .i64 h.c, .int .i64 h.r, .int .i64 h.s] 120 := ⟨_, rfl⟩
  have hs1 : Sizes (w.alloc (.cells #[.int .i64 h.k, .int .i64 h.l, .int .i64 h.c, .int .i64 h.r, .int .i64 h.s] 120)) := hs.alloc _
  have HB0 := Lib.hid (below_alloc w (.cells #[.int .i64 h.k, .int .i64 h.l, .int .i64 h.c, .int .i64 h.r, .int .i64 h.s] 120))
  clear hbo
  cases hm : mayBe p with
  | false =>
    have HZ2 := Lib.hid (HZ _ hs1)
    rw [hm] at HZ2
    have HM := Lib.hid hm
    clear HZ hm hs hs1 hp
    unfold hv
    go_enter Tryz.func107, Tryz.ntmps107
    go_wp2_with fail
    refine HZ2.out.mono ?_
    rintro e w1 ⟨rfl, rfl⟩
    go_wp2_with fail
    go_ret
    exact ⟨_, rfl, HB0.out, .inl ⟨HM.out, _, rfl⟩⟩
  | true =>
    have hpb2 := HP.mayBe_bd hm
    have HZ2 := Lib.hid (HZ _ hs1)
    rw [hm] at HZ2
    have HM := Lib.hid hm
    clear HZ hm hs hs1 hp
    obtain ⟨q, hq⟩ : ∃ q, HP.right h = q := ⟨_, rfl⟩
    rw [hq] at HW
    have HQ := Lib.hid hq
    clear hq
    unfold hv at *
    go_enter Tryz.func107, Tryz.ntmps107
    go_wp2_with fail
    refine HZ2.out.mono ?_
    rintro e w1 ⟨rfl, rfl⟩
    go_wp2_with fail
    refine (HF.out _).mono ?_
    rintro e w1 ⟨a, rfl, hL, hb1⟩
    have HB1 := Lib.hid (HB0.out.trans' hb1)
    clear hb1
    go_wp2_with fail
    refine (HW.out a _ hL).mono ?_
    rintro e w2 ⟨v, rfl, hb2, hv2⟩
    have HB2 := Lib.hid (HB1.out.trans' hb2)
    clear hb2 hL
    rcases hv2 with ⟨rfl, rfl⟩ | ⟨rfl, nm, rfl⟩
    · by_cases hbig : p - 16 < (b.size : Int)
      · have HG := Lib.hid hbig
        go_wp2_with fail
        go_ret
        exact ⟨_, rfl, HB2.out, .inr (.inr (.inl ⟨HM.out, HQ.out, HG.out, _, rfl⟩))⟩
      · have HG := Lib.hid hbig
        go_wp2_with fail
        go_ret
        exact ⟨_, rfl, HB2.out, .inr (.inr (.inr ⟨HM.out, HQ.out, Int.not_lt.2 HG.out, rfl⟩))⟩
    · unfold fa
      go_wp2_with fail
      go_ret
      exact ⟨_, rfl, HB2.out, .inr (.inl ⟨HM.out, HQ.out, _, nm, rfl⟩)⟩
theorem zeros_repeat (m : Nat) : Lib.repeatL [0] m = List.replicate m 0 := by
  have h := Lib.repeatL_replicate 0 1 m
  rw [Nat.mul_one] at h
  exact h
theorem repeat_zeros (n : Nat) (w : World) (hn : n ≤ 100000) :
    Calls Tryz.prog 62 #[.string ⟨#[0]⟩, .int .i64 n] w fun e w' => e = .returned (.string ⟨(List.replicate n (0 : UInt8)).toArray⟩) ∧ Below w.heap.size w w' := by
  refine (Tryz.strings_Repeat ⟨#[0]⟩ n w (by omega) (by show 1 * n ≤ _; omega)).mono fun e w' ⟨he, hw⟩ => ⟨?_, hw⟩
  rw [he, show (⟨#[0]⟩ : ByteArray).data.toList = [0] from rfl, zeros_repeat]
set_option maxHeartbeats 2000000 in
set_option maxRecDepth 100000 in
theorem sealed_any (h : HP.H) (b : ByteArray) (p : Nat) (w : World) (hr : HP.Ok h) (hb : b.size + 16 ≤ p) (hp : p ≤ 1024) :
    Calls Tryz.prog 109 #[hv h, .string b, .int .i64 p] w fun e w' => e = .returned (.string ⟨(HP.page (HP.front h) (HP.rest b.data.toList p)).toArray⟩) ∧ Below w.heap.size w w' := by
  have HFi := Lib.hid (fields_any h)
  have HLa := Lib.hid (laid_any h hr)
  obtain ⟨F, hF⟩ : ∃ F : ByteArray, ⟨(HP.front h).toArray⟩ = F := ⟨_, rfl⟩
  rw [hF] at HLa
  have sF : F.size = 12 := by rw [← hF]; simp [ByteArray.size, HP.front_length]
  obtain ⟨n, hn⟩ : ∃ n : Nat, n = p - 16 - b.size := ⟨_, rfl⟩
  have hn2 : (p : Int) - 16 - b.size = n := by omega
  obtain ⟨Z, hZ⟩ : ∃ Z : ByteArray, Z = ⟨(List.replicate n (0 : UInt8)).toArray⟩ := ⟨_, rfl⟩
  have HZ : Hid (∀ W, Calls Tryz.prog 62 #[.string ⟨#[0]⟩, .int .i64 n] W fun e w' => e = .returned (.string Z) ∧ Below W.heap.size W w') := Lib.hid (fun W => by have h := repeat_zeros n W (by omega); rw [hZ]; exact h)
  obtain ⟨R, hR⟩ : ∃ R, b ++ Z = R := ⟨_, rfl⟩
  have hRd : R = ⟨(HP.rest b.data.toList p).toArray⟩ := by
    rw [← hR, hZ]
    apply ByteArray.ext
    simp [HP.rest, hn]
  have sZ : Z.size = n := by rw [hZ]; simp [ByteArray.size]
  have sR : R.size = p - 16 := by rw [← hR, ByteArray.size_append]; omega
  obtain ⟨O, hO⟩ : ∃ O : ByteArray, O = ⟨(Lib.leBytes 4 0).toArray⟩ := ⟨_, rfl⟩
  have HO : Hid (∀ W, Calls Tryz.prog 61 #[.int .u32 0] W fun e w' => e = .returned (.string O) ∧ Below W.heap.size W w') := Lib.hid (fun W => by have h := four_any 0 W (by omega) (by omega); rw [hO]; exact h)
  have sO : O.size = 4 := by rw [hO, le4_size]
  obtain ⟨X, hX⟩ : ∃ X, F ++ O = X := ⟨_, rfl⟩
  have sX : X.size = 16 := by rw [← hX, ByteArray.size_append]; omega
  obtain ⟨Y, hY⟩ : ∃ Y, X ++ R = Y := ⟨_, rfl⟩
  have sY : Y.size = p := by rw [← hY, ByteArray.size_append]; omega
  obtain ⟨v, hv_⟩ : ∃ v : Nat, v = HP.crc (HP.front h) (HP.rest b.data.toList p) := ⟨_, rfl⟩
  have hvl : v < 4294967296 := by rw [hv_]; exact HP.crc_lt _ _
  have HSum : Hid (∀ W, Calls Tryz.prog 170 #[.string Y] W fun e w' => e = .returned (.int .u32 v) ∧ Below W.heap.size W w') := Lib.hid (fun W => by
    have h := table_any Y W (by unfold maxLen; omega)
    have e : SP.sum Y.data.toList = v := by
      rw [hv_, ← hY, ← hX, hRd, ← hF, hO]
      simp [HP.crc, Lib.leBytes]
    rwa [e] at h)
  obtain ⟨C, hC⟩ : ∃ C : ByteArray, C = ⟨(Lib.leBytes 4 v).toArray⟩ := ⟨_, rfl⟩
  have sC : C.size = 4 := by rw [hC, le4_size]
  have HC : Hid (∀ W, Calls Tryz.prog 61 #[.int .u32 (v : Int)] W fun e w' => e = .returned (.string C) ∧ Below W.heap.size W w') := Lib.hid (fun W => by have h := four_any (v : Int) W (by omega) (by omega); rw [hC]; exact h)
  obtain ⟨G, hG⟩ : ∃ G, F ++ C = G := ⟨_, rfl⟩
  have sG : G.size = 16 := by rw [← hG, ByteArray.size_append]; omega
  obtain ⟨E, hE⟩ : ∃ E, G ++ R = E := ⟨_, rfl⟩
  have hEd : E = ⟨(HP.page (HP.front h) (HP.rest b.data.toList p)).toArray⟩ := by
    rw [← hE, ← hG, hRd, hC, ← hF, hv_]
    apply ByteArray.ext
    simp [HP.page]
  rw [← hEd]
  have a3 : ¬ 9223372036854775807 < b.size + Z.size := by omega
  have a4 : ¬ 9223372036854775807 < F.size + O.size := by omega
  have a5 : ¬ 9223372036854775807 < X.size + R.size := by omega
  have a6 : ¬ 9223372036854775807 < F.size + C.size := by omega
  have a7 : ¬ 9223372036854775807 < G.size + R.size := by omega
  have hw1 : IntKind.i64.wrap ((p : Int) - 16) = (p : Int) - 16 := IntWalk.i64_in _ (by omega)
  have hw2 : IntKind.i64.wrap ((p : Int) - 16 - b.size) = n := by rw [hn2]; exact IntWalk.i64_in _ (by omega)
  have HB0 := Lib.hid (below_alloc w (.cells #[.int .i64 h.k, .int .i64 h.l, .int .i64 h.c, .int .i64 h.r, .int .i64 h.s] 120))
  clear hF hn hZ hRd sZ sR hO sO sX sY hv_ hvl hC sC sG hEd
  unfold hv at *
  go_enter Tryz.func109, Tryz.ntmps109
  go_wp2_with fail
  refine (HFi.out _).mono ?_
  rintro e w1 ⟨a, rfl, hL, hb1⟩
  have HB1 := Lib.hid (HB0.out.trans' hb1)
  clear hb1
  go_wp2_with fail
  refine (HLa.out a _ hL).mono ?_
  rintro e w2 ⟨rfl, hb2⟩
  have HB2 := Lib.hid (HB1.out.trans' hb2)
  clear hb2 hL
  go_wp2_with fail
  refine (HZ.out _).mono ?_
  rintro e w3 ⟨rfl, hb3⟩
  have HB3 := Lib.hid (HB2.out.trans' hb3)
  clear hb3
  go_wp2_with fail
  refine (HO.out _).mono ?_
  rintro e w4 ⟨rfl, hb4⟩
  have HB4 := Lib.hid (HB3.out.trans' hb4)
  clear hb4
  go_wp2_with fail
  refine (HSum.out _).mono ?_
  rintro e w5 ⟨rfl, hb5⟩
  have HB5 := Lib.hid (HB4.out.trans' hb5)
  clear hb5
  go_wp2_with fail
  refine (HC.out _).mono ?_
  rintro e w6 ⟨rfl, hb6⟩
  have HB6 := Lib.hid (HB5.out.trans' hb6)
  clear hb6
  go_wp2_with fail
  go_ret
  exact ⟨rfl, HB6.out⟩
theorem jx0 : ∀ W : World, (Instr.index 206 (.agg #[.int .i64 4, .int .i64 3, .int .i64 8]) (.int .i64 0)).run Tryz.prog W = .ok (.int .i64 4) W := fun W => by kernel_rfl
theorem jx1 : ∀ W : World, (Instr.index 206 (.agg #[.int .i64 4, .int .i64 3, .int .i64 8]) (.int .i64 1)).run Tryz.prog W = .ok (.int .i64 3) W := fun W => by kernel_rfl
theorem jx2 : ∀ W : World, (Instr.index 206 (.agg #[.int .i64 4, .int .i64 3, .int .i64 8]) (.int .i64 2)).run Tryz.prog W = .ok (.int .i64 8) W := fun W => by kernel_rfl
set_option maxHeartbeats 4000000 in
set_option maxRecDepth 100000 in
theorem seal_any (h : HP.H) (b : ByteArray) (p : Int) (w : World) (hs : Sizes w) (hp : (Lit.int .i64 p).wf = true) (hb : b.size ≤ maxLen) :
    Calls Tryz.prog 63 #[hv h, .string b, .int .i64 p] w fun e w' => e = .returned (.tuple #[.string (HP.sea h b p).1, .int .i64 (HP.sea h b p).2]) ∧ Below w.heap.size w w' := by
  have HB0 := Lib.hid (below_alloc w (.cells #[.int .i64 h.k, .int .i64 h.l, .int .i64 h.c, .int .i64 h.r, .int .i64 h.s] 120))
  have HSE := Lib.hid (sealable_any h b p _ (hs.alloc (.cells #[.int .i64 h.k, .int .i64 h.l, .int .i64 h.c, .int .i64 h.r, .int .i64 h.s] 120)) hp hb)
  have hbx := heap_alloc_new w (.cells #[.int .i64 h.k, .int .i64 h.l, .int .i64 h.c, .int .i64 h.r, .int .i64 h.s] 120)
  obtain ⟨x0, x1, x2, x3, x4⟩ := Bx.cells (h := h) (t := 120) hbx
  have HBX : Hid (Bx 120 w.heap.size h (w.alloc (.cells #[.int .i64 h.k, .int .i64 h.l, .int .i64 h.c, .int .i64 h.r, .int .i64 h.s] 120))) := Lib.hid hbx
  obtain ⟨S1, hS1⟩ : ∃ x, (HP.sea h b p).1 = x := ⟨_, rfl⟩
  obtain ⟨e1, he1⟩ : ∃ x, (HP.sea h b p).2 = x := ⟨_, rfl⟩
  have HSe : Hid (HP.sea h b p = (S1, e1)) := Lib.hid (by rw [← hS1, ← he1])
  rw [hS1, he1]
  clear hS1 he1
  have jx0 := jx0
  have jx1 := jx1
  have jx2 := jx2
  clear hs hp hbx
  unfold hv at *
  generalize hw0 : w.alloc (.cells #[.int .i64 h.k, .int .i64 h.l, .int .i64 h.c, .int .i64 h.r, .int .i64 h.s] 120) = W0 at *
  go_enter Tryz.func63, Tryz.ntmps63
  go_wp2_with fail
  refine HSE.out.mono ?_
  rintro e w1 ⟨v, rfl, hb1, hwhy⟩
  have hbx1 := HBX.out.below hb1
  have HB1 := Lib.hid (HB0.out.trans' hb1)
  clear hb1 x0 x1 x2 x3 x4 HSE
  rcases hwhy with ⟨hm, a, rfl⟩ | ⟨hm, hr, a, c, rfl⟩ | ⟨hm, hr, hg, a, rfl⟩ | ⟨hm, hr, hg, rfl⟩
  · obtain ⟨rfl, rfl⟩ := Prod.mk.inj (HSe.out.symm.trans (HP.seal_arg h b hm))
    have HI := Lib.hid (Is_fa1 a 4)
    clear hm hbx1
    unfold er at *
    go_wp2_with fail
    refine wp_loop_rounds 4 ?_
    rw [rounds_succ]
    go_wp2_with fail
    refine (HI.out _ _).mono ?_
    rintro e w2 ⟨rfl, hb2⟩
    have HB2 := Lib.hid (HB1.out.trans' hb2)
    clear hb2
    go_wp2_with fail
    go_ret2
    exact ⟨rfl, HB2.out⟩
  · obtain ⟨rfl, rfl⟩ := Prod.mk.inj (HSe.out.symm.trans (HP.seal_form b hm hr))
    have HI := Lib.hid (Is_fa2 a c 3)
    clear hm hr hbx1
    unfold er at *
    go_wp2_with fail
    refine wp_loop_rounds 4 ?_
    rw [rounds_succ]
    go_wp2_with fail
    refine (HI.out _ _).mono ?_
    rintro e w2 ⟨rfl, hb2⟩
    have HB2 := Lib.hid (HB1.out.trans' hb2)
    clear hb2
    go_wp2_with fail
    rw [rounds_succ]
    go_wp2_with fail
    refine (HI.out _ _).mono ?_
    rintro e w3 ⟨rfl, hb3⟩
    have HB3 := Lib.hid (HB2.out.trans' hb3)
    clear hb3
    go_wp2_with fail
    go_ret2
    exact ⟨rfl, HB3.out⟩
  · obtain ⟨rfl, rfl⟩ := Prod.mk.inj (HSe.out.symm.trans (HP.seal_big hm hr hg))
    have HI := Lib.hid (Is_fa1 a 8)
    clear hm hr hg hbx1
    unfold er at *
    go_wp2_with fail
    refine wp_loop_rounds 4 ?_
    rw [rounds_succ]
    go_wp2_with fail
    refine (HI.out _ _).mono ?_
    rintro e w2 ⟨rfl, hb2⟩
    have HB2 := Lib.hid (HB1.out.trans' hb2)
    clear hb2
    go_wp2_with fail
    rw [rounds_succ]
    go_wp2_with fail
    refine (HI.out _ _).mono ?_
    rintro e w3 ⟨rfl, hb3⟩
    have HB3 := Lib.hid (HB2.out.trans' hb3)
    clear hb3
    go_wp2_with fail
    rw [rounds_succ]
    go_wp2_with fail
    refine (HI.out _ _).mono ?_
    rintro e w4 ⟨rfl, hb4⟩
    have HB4 := Lib.hid (HB3.out.trans' hb4)
    clear hb4
    go_wp2_with fail
    go_ret2
    exact ⟨rfl, HB4.out⟩
  · obtain ⟨hS, rfl⟩ := Prod.mk.inj (HSe.out.symm.trans (HP.seal_good hm hr hg))
    have hpb := HP.mayBe_bd hm
    obtain ⟨q, rfl⟩ := Int.eq_ofNat_of_zero_le (show 0 ≤ p by omega)
    have HSD := Lib.hid (fun W => sealed_any h b q W (HP.right_iff.1 hr) (by omega) (by omega))
    unfold hv at HSD
    rw [Int.toNat_natCast] at hS
    rw [← hS] at HSD
    clear hS
    have HI := Lib.hid Is_nil
    obtain ⟨x0, x1, x2, x3, x4⟩ := hbx1.cells
    clear hm hr hg hbx1 hpb
    unfold er at *
    go_wp2_with fail
    refine wp_loop_rounds 4 ?_
    rw [rounds_succ]
    go_wp2_with fail
    refine (HI.out _ _).mono ?_
    rintro e w2 ⟨rfl, rfl⟩
    go_wp2_with fail
    rw [rounds_succ]
    go_wp2_with fail
    refine (HI.out _ _).mono ?_
    rintro e w3 ⟨rfl, rfl⟩
    go_wp2_with fail
    rw [rounds_succ]
    go_wp2_with fail
    refine (HI.out _ _).mono ?_
    rintro e w4 ⟨rfl, rfl⟩
    go_wp2_with fail
    rw [rounds_succ]
    go_wp2_with fail
    refine (HSD.out _).mono ?_
    rintro e w5 ⟨rfl, hb5⟩
    have HB5 := Lib.hid (HB1.out.trans' hb5)
    clear hb5
    go_wp2_with fail
    go_ret2
    exact ⟨rfl, HB5.out⟩
end Go.Proofs.YtpeghilfldpgfaaGreatDoor.L7
namespace Go.Proofs.YtpeghilfldpgfaaGreatDoor.L7
open Go.RowKit
set_option linter.unusedVariables false
set_option linter.unusedSimpArgs false
theorem mask32 (v : Nat) (h : v < 4294967296) : bits .and .u32 (v : Int) 255 = ((v % 256 : Nat) : Int) := by
  have e := u32_and_nat v 255 h (by omega)
  rw [show (255 : Int) = ((255 : Nat) : Int) from rfl, e, show (255 : Nat) = 2 ^ 8 - 1 from rfl, Nat.and_two_pow_sub_one_eq_mod]
theorem headOf_num (s : List UInt8) (hs : 12 ≤ s.length) : HP.headOf s = ⟨((Lib.leNat (s.take 4) % 256 : Nat) : Int), ((Lib.leNat (s.take 4) / 256 % 256 : Nat) : Int), ((Lib.leNat (s.take 4) / 65536 : Nat) : Int), ((Lib.leNat ((s.drop 4).take 4) : Nat) : Int), ((Lib.leNat ((s.drop 8).take 4) : Nat) : Int)⟩ := by
  obtain ⟨a, b, c, d, t, rfl⟩ : ∃ a b c d t, s = a :: b :: c :: d :: t := by
    match s, hs with
    | a :: b :: c :: d :: t, _ => exact ⟨a, b, c, d, t, rfl⟩
  have e0 : Lib.leNat ((a :: b :: c :: d :: t).take 4) = a.toNat + 256 * (b.toNat + 256 * (c.toNat + 256 * d.toNat)) := by
    simp [Lib.leNat]
  have ha := a.toNat_lt
  have hb := b.toNat_lt
  have hc := c.toNat_lt
  have hd := d.toNat_lt
  unfold HP.headOf
  rw [e0]
  simp only [List.getD_cons_zero, List.getD_cons_succ]
  congr 1 <;> omega
set_option maxHeartbeats 2000000 in
set_option maxRecDepth 100000 in
theorem headRead_any (s : ByteArray) (w : World) (h1 : 128 ≤ s.size) (h2 : s.size ≤ 1024) :
    Calls Tryz.prog 97 #[.string s] w fun e w' => e = .returned (hv (HP.headOf s.data.toList)) ∧ Below w.heap.size w w' := by
  rw [headOf_num s.data.toList (by simp; omega)]
  have HR0 := Lib.hid (fun W => read_any s 0 W (by omega) (by omega) (by unfold maxLen; omega))
  have HR4 := Lib.hid (fun W => read_any s 4 W (by omega) (by omega) (by unfold maxLen; omega))
  have HR8 := Lib.hid (fun W => read_any s 8 W (by omega) (by omega) (by unfold maxLen; omega))
  rw [show ((0 : Int)).toNat = 0 from rfl, List.drop_zero] at HR0
  rw [show ((4 : Int)).toNat = 4 from rfl] at HR4
  rw [show ((8 : Int)).toNat = 8 from rfl] at HR8
  have b0 : Lib.leNat (s.data.toList.take 4) < 4294967296 := Nat.lt_of_lt_of_le (WP.leNat_lt _) (by rw [show (4294967296 : Nat) = 256 ^ 4 from rfl]; exact Nat.pow_le_pow_right (by omega) (by simp; omega))
  have b4 : Lib.leNat ((s.data.toList.drop 4).take 4) < 4294967296 := Nat.lt_of_lt_of_le (WP.leNat_lt _) (by rw [show (4294967296 : Nat) = 256 ^ 4 from rfl]; exact Nat.pow_le_pow_right (by omega) (by simp; omega))
  have b8 : Lib.leNat ((s.data.toList.drop 8).take 4) < 4294967296 := Nat.lt_of_lt_of_le (WP.leNat_lt _) (by rw [show (4294967296 : Nat) = 256 ^ 4 from rfl]; exact Nat.pow_le_pow_right (by omega) (by simp; omega))
  generalize Lib.leNat (s.data.toList.take 4) = n at *
  generalize Lib.leNat ((s.data.toList.drop 4).take 4) = r at *
  generalize Lib.leNat ((s.data.toList.drop 8).take 4) = f at *
  have m0 : bits .and .u32 (n : Int) 255 = (n : Int) % 256 := by rw [mask32 n b0]; omega
  have m1 : bits .and .u32 ((n : Int) / 256) 255 = (n : Int) / 256 % 256 := by
    have e := mask32 (n / 256) (by omega)
    rw [show ((n / 256 : Nat) : Int) = (n : Int) / 256 by omega] at e
    rw [e]
    omega
  have m2 : bits .and .u32 ((n : Int) / 256 % 4294967296) 255 = (n : Int) / 256 % 256 := by
    rw [Int.emod_eq_of_lt (by omega) (by omega)]; exact m1
  unfold hv
  go_enter Tryz.func97, Tryz.ntmps97
  go_wp2_with fail
  refine (HR0.out _).mono ?_
  rintro e w1 ⟨rfl, rfl⟩
  go_wp2_with fail
  refine (HR4.out _).mono ?_
  rintro e w1 ⟨rfl, rfl⟩
  go_wp2_with fail
  refine (HR8.out _).mono ?_
  rintro e w1 ⟨rfl, rfl⟩
  go_wp2_with fail
  refine bodyPost_ret (v := .agg #[.int .i64 ((n : Int) % 256), .int .i64 ((n : Int) / 256 % 256), .int .i64 ((n : Int) / 65536), .int .i64 r, .int .i64 f]) (by simp [results, Tryz.results97, go_sem]) rfl ⟨?_, ?_⟩
  · rw [show ((n % 256 : Nat) : Int) = (n : Int) % 256 by omega, show ((n / 256 % 256 : Nat) : Int) = (n : Int) / 256 % 256 by omega, show ((n / 65536 : Nat) : Int) = (n : Int) / 65536 by omega]
  · exact below_alloc _ _
end Go.Proofs.YtpeghilfldpgfaaGreatDoor.L7
namespace Go.Proofs.YtpeghilfldpgfaaGreatDoor.L7
open Go.RowKit
set_option linter.unusedVariables false
set_option linter.unusedSimpArgs false
abbrev B (s : ByteArray) : List UInt8 := s.data.toList
theorem b_size (s : ByteArray) : (B s).length = s.size := by simp [B]
def txt (s : ByteArray) : Array Value := (Lib.byteCells (B s)).toArray
theorem txt_size (s : ByteArray) : (txt s).size = s.size := by simp [txt, Lib.byteCells_length]
set_option maxHeartbeats 2000000 in
set_option maxRecDepth 100000 in
theorem litClone_any (s : ByteArray) (w : World) (hs : s.size ≤ 1000000) :
    Calls Tryz.prog 160 #[.string s] w fun e w' => e = .returned (.string s) ∧ Below w.heap.size w w' := by
  by_cases h0 : s.size = 0
  · obtain rfl : s = ⟨#[]⟩ := ByteArray.ext (Array.eq_empty_of_size_eq_zero h0)
    go_enter Tryz.func160, Tryz.ntmps160
    go_wp2
    go_ret
    exact ⟨rfl, Below.refl _ _⟩
  · obtain ⟨i0, hi, hz0, hz1, hz2⟩ := info_parts Tryz.infoByte
    have hsz : (Tryz.prog.info? 5).map (·.size) = some 1 := by rw [hi]; simp [hz1]
    have hcells : Tryz.prog.cellsOf 5 = 1 := by simp [Program.cellsOf, hi, hz1]
    obtain ⟨Z, hZ⟩ : ∃ Z, Z = madeCells (Value.int .u8 0).cells (((s.size : Nat) : Int).toNat * i0.size) := ⟨_, rfl⟩
    have hZs : Z.size = s.size := by rw [hZ, size_madeCells, hz1]; simp
    -- the bytes are made,
    have mk : ∀ W : World, (Instr.makeSlice 86 (.int .i64 (s.size : Int)) (.int .i64 (s.size : Int))).run Tryz.prog W = .ok (.slice (some ⟨W.heap.size, 0, none⟩) s.size s.size) (W.alloc (.cells Z 5)) := fun W => by
      have h := run_make (P := Tryz.prog) W 86 5 i0 (.int .u8 0) Tryz.underlying86 hi hz0 .i64 .i64 (s.size : Int) (s.size : Int) (by omega) (by omega) (by rw [hz2]; omega) (by omega)
      rw [← hZ] at h
      simpa using h
    clear hZ
    -- become the text's,
    have heap1 := heap_alloc_new w (.cells Z 5)
    have cp := Lib.run_copy_row_string (P := Tryz.prog) (w.alloc (.cells Z 5)) 86 9 3 5 w.heap.size 0 s.size s.size s Z 5 Tryz.underlying86 hsz heap1 (Nat.le_refl _) (by omega)
    rw [show (Z.toList.take 0 ++ Lib.byteCells s.data.toList ++ Z.toList.drop (0 + s.size)).toArray = txt s by
      rw [List.take_zero, List.nil_append, List.drop_of_length_le (by simp; omega), List.append_nil]; rfl] at cp
    have heap2 : ((w.alloc (.cells Z 5)).setRow w.heap.size (txt s)).heap[w.heap.size]? = some (.cells (txt s) 5 (0, 0)) := setRow_heap _ _ Z _ 5 (0, 0) heap1
    have hb2 : Below w.heap.size w ((w.alloc (.cells Z 5)).setRow w.heap.size (txt s)) := (below_alloc w _).trans ⟨rfl, rfl, rfl, by simp, fun k hk => setRow_other _ _ _ _ (by omega)⟩
    have hne : B s ≠ [] := fun e => h0 (by rw [← b_size, e]; rfl)
    generalize (w.alloc (.cells Z 5)).setRow w.heap.size (txt s) = w2 at *
    -- and are the answer.
    have us := Lib.run_unsafeString_row (P := Tryz.prog) w2 272 3 9 5 Tryz.underlying272 hcells w.heap.size (txt s).size (by unfold World.shape?; rw [heap2]) (B s) hne (by rw [b_size, txt_size]; exact Nat.le_refl _) (by rw [b_size]; omega)
      (fun j x hx => Lib.cells_of_row heap2 (txt s).size j _ (by rw [List.take_of_length_le (by rw [Array.length_toList]; exact Nat.le_refl _)]; simp [txt, Lib.byteCells, hx]))
    rw [b_size] at us
    have hfz := Lib.below_freeze hb2 (p := ⟨w.heap.size, 0, none⟩) (Nat.le_refl _) s.size
    go_enter Tryz.func160, Tryz.ntmps160
    go_wp2
    go_ret
    exact ⟨rfl, hfz⟩
theorem clone_any (s : ByteArray) (w : World) (hs : s.size ≤ 1000000) :
    Calls Tryz.prog 98 #[.string s] w fun e w' => e = .returned (.string s) ∧ Below w.heap.size w w' := by
  go_enter Tryz.func98, Tryz.ntmps98
  go_wp2_with fail
  refine (litClone_any s _ hs).mono ?_
  rintro e w1 ⟨rfl, hb1⟩
  go_wp2_with fail
  go_ret
  exact ⟨rfl, hb1⟩
end Go.Proofs.YtpeghilfldpgfaaGreatDoor.L7
namespace Go.Proofs.YtpeghilfldpgfaaGreatDoor.L7
open Go.RowKit
set_option linter.unusedVariables false
set_option linter.unusedSimpArgs false
def Zx (t : TypeId) (g : Nat) (w : World) : Prop := w.heap[g]? = some (.cells #[.int .i64 0, .int .i64 0, .int .i64 0, .int .i64 0, .int .i64 0] t (0, 0))
theorem Zx.bx {t : TypeId} {g : Nat} {w : World} (k : Zx t g w) : Bx t g HP.H0 w := k
theorem Zx.lt {t : TypeId} {g : Nat} {w : World} (k : Zx t g w) : g < w.heap.size := (Array.getElem?_eq_some_iff.1 k).1
theorem Zx.below {t : TypeId} {g : Nat} {w w' : World} (k : Zx t g w) (b : Below w.heap.size w w') : Zx t g w' := (b.block g k.lt).trans k
theorem zx_after {V V' : World} {t : TypeId} (k : Below (V.alloc (.cells #[.int .i64 0, .int .i64 0, .int .i64 0, .int .i64 0, .int .i64 0] t)).heap.size (V.alloc (.cells #[.int .i64 0, .int .i64 0, .int .i64 0, .int .i64 0, .int .i64 0] t)) V') : Zx t V.heap.size V' := (k.block _ (by simp)).trans (heap_alloc_new V _)
theorem Zx.cells {t : TypeId} {g : Nat} {w : World} (k : Zx t g w) : w.cell? ⟨g, 0, none⟩ = some (.int .i64 0) ∧ w.cell? ⟨g, 1, none⟩ = some (.int .i64 0) ∧ w.cell? ⟨g, 2, none⟩ = some (.int .i64 0) ∧ w.cell? ⟨g, 3, none⟩ = some (.int .i64 0) ∧ w.cell? ⟨g, 4, none⟩ = some (.int .i64 0) := k.bx.cells
theorem Zx.frozen {t : TypeId} {g : Nat} {w : World} (k : Zx t g w) : w.frozen? ⟨g, 0, none⟩ = false ∧ w.frozen? ⟨g, 1, none⟩ = false ∧ w.frozen? ⟨g, 2, none⟩ = false ∧ w.frozen? ⟨g, 3, none⟩ = false ∧ w.frozen? ⟨g, 4, none⟩ = false := k.bx.frozen
theorem sea_open (s : ByteArray) (hm : mayBe s.size = true) :
    (HP.sea (HP.headOf s.data.toList) (s.extract 16 s.size) s.size = (s, 0) ∧ HP.opn s = (HP.headOf s.data.toList, s.extract 16 s.size, 0)) ∨
    (HP.sea (HP.headOf s.data.toList) (s.extract 16 s.size) s.size = (⟨#[]⟩, 3) ∧ HP.opn s = (HP.H0, ⟨#[]⟩, 3)) ∨
    (∃ U : ByteArray, U ≠ s ∧ HP.sea (HP.headOf s.data.toList) (s.extract 16 s.size) s.size = (U, 0) ∧ HP.opn s = (HP.H0, ⟨#[]⟩, 3)) := by
  have hpb := HP.mayBe_bd hm
  have hl : 16 ≤ s.data.toList.length := by simp; omega
  have hT : (s.extract 16 s.size).data.toList = s.data.toList.drop 16 := by
    rw [Lib.extract_data]
    exact List.take_of_length_le (by simp)
  have hTs : (s.extract 16 s.size).size = s.size - 16 := by simp
  have hrest : HP.rest (s.data.toList.drop 16) s.size = s.data.toList.drop 16 := by
    unfold HP.rest
    rw [List.length_drop, show s.size - 16 - (s.data.toList.length - 16) = 0 by simp]
    simp
  cases hr : HP.right (HP.headOf s.data.toList) with
  | false =>
    refine .inr (.inl ⟨HP.seal_form _ hm hr, HP.opn_bad fun h => ?_⟩)
    have := HP.right_iff.2 h.2.1
    rw [hr] at this
    cases this
  | true =>
    have hsea := HP.seal_good (h := HP.headOf s.data.toList) (b := s.extract 16 s.size) hm hr (by rw [hTs]; omega)
    rw [hT, Int.toNat_natCast, hrest] at hsea
    by_cases hg : HP.good s.data.toList
    · refine .inl ⟨?_, HP.opn_good hm hg⟩
      rw [hsea, HP.page_of_good _ hl hg]
    · refine .inr (.inr ⟨_, fun e => hg ?_, hsea, HP.opn_bad fun h => hg h.2⟩)
      refine (HP.good_iff _ hl).2 ⟨HP.right_iff.1 hr, ?_⟩
      have := congrArg (fun x : ByteArray => x.data.toList) e
      simpa using this
def opnV (s : ByteArray) : Value := .tuple #[hv (HP.opn s).1, .string (HP.opn s).2.1, .int .i64 (HP.opn s).2.2]
set_option maxHeartbeats 4000000 in
set_option maxRecDepth 100000 in
theorem open_any (s : ByteArray) (w : World) (hs : Sizes w) (hln : s.size ≤ maxLen) :
    Calls Tryz.prog 55 #[.string s] w fun e w' => e = .returned (opnV s) ∧ Below w.heap.size w w' := by
  unfold maxLen at hln
  have HZ := fun W (hW : Sizes W) => size_any (s.size : Int) W hW
  obtain ⟨ro, hro⟩ : ∃ ro : Obj, ro = .cells #[.int .i64 0, .int .i64 0, .int .i64 0, .int .i64 0, .int .i64 0] 120 := ⟨_, rfl⟩
  have hs1 : Sizes (w.alloc (.cells #[.int .i64 0, .int .i64 0, .int .i64 0, .int .i64 0, .int .i64 0] 120)) := hs.alloc _
  have HB0 := Lib.hid (below_alloc w (.cells #[.int .i64 0, .int .i64 0, .int .i64 0, .int .i64 0, .int .i64 0] 120))
  clear hro
  have HZ2 := Lib.hid (HZ _ hs1)
  clear HZ
  cases hm : mayBe s.size with
  | false =>
    have hv0 : opnV s = .tuple #[.agg #[.int .i64 0, .int .i64 0, .int .i64 0, .int .i64 0, .int .i64 0], .string ⟨#[]⟩, .int .i64 3] := by
      unfold opnV
      rw [HP.opn_bad (s := s) (by rw [hm]; simp)]
      rfl
    rw [hv0]
    rw [hm] at HZ2
    clear hm hs hs1 hv0
    go_enter Tryz.func55, Tryz.ntmps55
    go_wp2_with fail
    refine HZ2.out.mono ?_
    rintro e w1 ⟨rfl, rfl⟩
    go_wp2_with fail
    refine bodyPost_ret (v := .tuple #[.agg #[.int .i64 0, .int .i64 0, .int .i64 0, .int .i64 0, .int .i64 0], .string ⟨#[]⟩, .int .i64 3]) (by simp [results, Tryz.results55, go_sem]) rfl ⟨rfl, HB0.out⟩
  | true =>
    have hpb := HP.mayBe_bd hm
    have HR := Lib.hid (fun W => headRead_any s W (by omega) (by omega))
    have hsl : (0 : Int) ≤ 16 ∧ (16 : Int) ≤ s.size := by omega
    obtain ⟨T, hT⟩ : ∃ T, s.extract 16 s.size = T := ⟨_, rfl⟩
    have sT : T.size = s.size - 16 := by rw [← hT]; simp
    have HC := Lib.hid (fun W => clone_any T W (by omega))
    obtain ⟨hd, hhd⟩ : ∃ hd, HP.headOf s.data.toList = hd := ⟨_, rfl⟩
    rw [hhd] at HR
    obtain ⟨hk, hl, hc, hr, hs5⟩ := hd
    unfold hv at HR
    rw [hm] at HZ2
    have HS1 := Lib.hid hs1
    have HM := Lib.hid hm
    have HT := Lib.hid hT
    have HHD := Lib.hid hhd
    have HRX := Lib.hid (show Zx 120 w.heap.size (w.alloc (.cells #[.int .i64 0, .int .i64 0, .int .i64 0, .int .i64 0, .int .i64 0] 120)) from heap_alloc_new _ _)
    have HLT := Lib.hid (show w.heap.size < (w.alloc (.cells #[.int .i64 0, .int .i64 0, .int .i64 0, .int .i64 0, .int .i64 0] 120)).heap.size by simp)
    have HSE := Lib.hid (fun W (hW : Sizes W) => seal_any ⟨hk, hl, hc, hr, hs5⟩ T s.size W hW (by simp [Lit.wf, IntKind.min, IntKind.max, IntKind.signed, IntKind.bits]; omega) (by unfold maxLen; omega))
    have HCASE := Lib.hid (sea_open s hm)
    rw [hhd, hT] at HCASE
    clear hm hs hs1 hhd
    unfold hv at HSE
    generalize hw0 : w.alloc (.cells #[.int .i64 0, .int .i64 0, .int .i64 0, .int .i64 0, .int .i64 0] 120) = W0 at *
    have HW0 := Lib.hid hw0
    go_enter Tryz.func55, Tryz.ntmps55
    go_wp2_with fail
    clear hw0
    refine HZ2.out.mono ?_
    rintro e w1 ⟨rfl, rfl⟩
    go_wp2_with fail
    go_region_with (first
      | (go_at_call 97; refine (HR.out _).mono ?_; rintro e V2 ⟨rfl, hb2⟩; (try have k2 := Lib.hid (show Zx 120 W0.heap.size V2 from zx_after (below_of_drew hb2))); have HB2 := Lib.hid (below_of_drew hb2); clear hb2)
      | (go_at_call 98; refine (HC.out _).mono ?_; rintro e V3 ⟨rfl, hb3⟩; (try have k3 := Lib.hid (show Zx 120 V2.heap.size V3 from zx_after hb3)); (try have k3 := Lib.hid (k2.out.below hb3)); have HB3 := Lib.hid hb3; clear hb3; (try obtain ⟨y0, y1, y2, y3, y4⟩ := k3.out.cells); (try obtain ⟨z0, z1, z2, z3, z4⟩ := k3.out.frozen)))
    -- each order
    · have hA : Bx 120 (V3.heap.size) ⟨hk, hl, hc, hr, hs5⟩ (V3.alloc (.cells #[.int .i64 hk, .int .i64 hl, .int .i64 hc, .int .i64 hr, .int .i64 hs5] 120)) ∧ Below W0.heap.size W0 (V3.alloc (.cells #[.int .i64 hk, .int .i64 hl, .int .i64 hc, .int .i64 hr, .int .i64 hs5] 120)) ∧ W0.heap.size ≤ V3.heap.size := ⟨heap_alloc_new _ _, (HB2.out.trans' HB3.out).trans' (below_alloc _ _), Nat.le_trans HB2.out.size HB3.out.size⟩
      generalize V3.alloc (.cells #[.int .i64 hk, .int .i64 hl, .int .i64 hc, .int .i64 hr, .int .i64 hs5] 120) = W4 at *
      generalize V3.heap.size = g at *
      obtain ⟨hbx, hb4, hg4⟩ := hA
      have HB4 := Lib.hid (HB0.out.trans' hb4)
      have HZX := Lib.hid (HRX.out.below hb4)
      have HS4 := Lib.hid (HS1.out.kept hb4)
      clear HB0 HRX HS1 hg4
      obtain ⟨x0, x1, x2, x3, x4⟩ := hbx.cells
      have HBX := Lib.hid hbx
      simp only at x0 x1 x2 x3 x4
      clear hbx hb4
      go_wp2_with fail
      refine (HSE.out _ HS4.out).mono ?_
      rintro e W5 ⟨rfl, hb5⟩
      have HB5 := Lib.hid (HB4.out.trans' hb5)
      have HZ5 := Lib.hid (HZX.out.below hb5)
      obtain ⟨v0, v1, v2, v3, v4⟩ := HZ5.out.cells
      obtain ⟨f0, f1, f2, f3, f4⟩ := HZ5.out.frozen
      obtain ⟨c0, c1, c2, c3, c4⟩ := (HBX.out.below hb5).cells
      simp only at c0 c1 c2 c3 c4
      clear hb5 x0 x1 x2 x3 x4
      rcases HCASE.out with ⟨hse, hop⟩ | ⟨hse, hop⟩ | ⟨U, hU, hse, hop⟩
      · rw [hse]
        have HO := Lib.hid hop
        clear hse hop
        simp only
        go_wp2_with fail
        obtain ⟨r0, r1, r2, r3, r4⟩ := (set5_box HZ5.out.bx ⟨hk, hl, hc, hr, hs5⟩).cells
        unfold set5 at r0 r1 r2 r3 r4
        simp only [HP.H0] at r0 r1 r2 r3 r4
        refine bodyPost_ret (v := .tuple #[.agg #[.int .i64 hk, .int .i64 hl, .int .i64 hc, .int .i64 hr, .int .i64 hs5], .string T, .int .i64 0]) (by simp [results, Tryz.results55, go_sem, r0, r1, r2, r3, r4]) rfl ⟨?_, ?_⟩
        · unfold opnV
          rw [HO.out]
          rfl
        · exact set5_below HB5.out (Nat.le_refl _) ⟨hk, hl, hc, hr, hs5⟩
      · rw [hse]
        have HO := Lib.hid hop
        clear hse hop
        simp only
        go_wp2_with fail
        obtain ⟨r0, r1, r2, r3, r4⟩ := (set5_box HZ5.out.bx HP.H0).cells
        unfold set5 at r0 r1 r2 r3 r4
        simp only [HP.H0] at r0 r1 r2 r3 r4
        refine bodyPost_ret (v := .tuple #[.agg #[.int .i64 0, .int .i64 0, .int .i64 0, .int .i64 0, .int .i64 0], .string ⟨#[]⟩, .int .i64 3]) (by simp [results, Tryz.results55, go_sem, r0, r1, r2, r3, r4]) rfl ⟨?_, ?_⟩
        · unfold opnV
          rw [HO.out]
          rfl
        · exact set5_below HB5.out (Nat.le_refl _) HP.H0
      · rw [hse]
        have HO := Lib.hid hop
        have hne : (U.toList == s.toList) = false := by
          rw [Lib.toList_data, Lib.toList_data]
          exact beq_eq_false_iff_ne.2 fun e => hU (ByteArray.ext (Array.toList_inj.1 e))
        clear hse hop
        simp only
        go_wp2_with fail
        obtain ⟨r0, r1, r2, r3, r4⟩ := (set5_box HZ5.out.bx HP.H0).cells
        unfold set5 at r0 r1 r2 r3 r4
        simp only [HP.H0] at r0 r1 r2 r3 r4
        refine bodyPost_ret (v := .tuple #[.agg #[.int .i64 0, .int .i64 0, .int .i64 0, .int .i64 0, .int .i64 0], .string ⟨#[]⟩, .int .i64 3]) (by simp [results, Tryz.results55, go_sem, r0, r1, r2, r3, r4]) rfl ⟨?_, ?_⟩
        · unfold opnV
          rw [HO.out]
          rfl
        · exact set5_below HB5.out (Nat.le_refl _) HP.H0
    · have hA : Bx 120 (V2.heap.size) ⟨hk, hl, hc, hr, hs5⟩ (((((V3.setCell ⟨V2.heap.size, 0, none⟩ (.int .i64 hk)).setCell ⟨V2.heap.size, 1, none⟩ (.int .i64 hl)).setCell ⟨V2.heap.size, 2, none⟩ (.int .i64 hc)).setCell ⟨V2.heap.size, 3, none⟩ (.int .i64 hr)).setCell ⟨V2.heap.size, 4, none⟩ (.int .i64 hs5)) ∧ Below W0.heap.size W0 (((((V3.setCell ⟨V2.heap.size, 0, none⟩ (.int .i64 hk)).setCell ⟨V2.heap.size, 1, none⟩ (.int .i64 hl)).setCell ⟨V2.heap.size, 2, none⟩ (.int .i64 hc)).setCell ⟨V2.heap.size, 3, none⟩ (.int .i64 hr)).setCell ⟨V2.heap.size, 4, none⟩ (.int .i64 hs5)) ∧ W0.heap.size ≤ V2.heap.size := ⟨set5_box k3.out.bx ⟨hk, hl, hc, hr, hs5⟩, set5_below ((HB2.out.trans' (below_alloc _ _)).trans' HB3.out) HB2.out.size ⟨hk, hl, hc, hr, hs5⟩, HB2.out.size⟩
      generalize ((((V3.setCell ⟨V2.heap.size, 0, none⟩ (.int .i64 hk)).setCell ⟨V2.heap.size, 1, none⟩ (.int .i64 hl)).setCell ⟨V2.heap.size, 2, none⟩ (.int .i64 hc)).setCell ⟨V2.heap.size, 3, none⟩ (.int .i64 hr)).setCell ⟨V2.heap.size, 4, none⟩ (.int .i64 hs5) = W4 at *
      generalize V2.heap.size = g at *
      obtain ⟨hbx, hb4, hg4⟩ := hA
      have HB4 := Lib.hid (HB0.out.trans' hb4)
      have HZX := Lib.hid (HRX.out.below hb4)
      have HS4 := Lib.hid (HS1.out.kept hb4)
      clear HB0 HRX HS1 hg4
      obtain ⟨x0, x1, x2, x3, x4⟩ := hbx.cells
      have HBX := Lib.hid hbx
      simp only at x0 x1 x2 x3 x4
      clear hbx hb4
      go_wp2_with fail
      refine (HSE.out _ HS4.out).mono ?_
      rintro e W5 ⟨rfl, hb5⟩
      have HB5 := Lib.hid (HB4.out.trans' hb5)
      have HZ5 := Lib.hid (HZX.out.below hb5)
      obtain ⟨v0, v1, v2, v3, v4⟩ := HZ5.out.cells
      obtain ⟨f0, f1, f2, f3, f4⟩ := HZ5.out.frozen
      obtain ⟨c0, c1, c2, c3, c4⟩ := (HBX.out.below hb5).cells
      simp only at c0 c1 c2 c3 c4
      clear hb5 x0 x1 x2 x3 x4
      rcases HCASE.out with ⟨hse, hop⟩ | ⟨hse, hop⟩ | ⟨U, hU, hse, hop⟩
      · rw [hse]
        have HO := Lib.hid hop
        clear hse hop
        simp only
        go_wp2_with fail
        obtain ⟨r0, r1, r2, r3, r4⟩ := (set5_box HZ5.out.bx ⟨hk, hl, hc, hr, hs5⟩).cells
        unfold set5 at r0 r1 r2 r3 r4
        simp only [HP.H0] at r0 r1 r2 r3 r4
        refine bodyPost_ret (v := .tuple #[.agg #[.int .i64 hk, .int .i64 hl, .int .i64 hc, .int .i64 hr, .int .i64 hs5], .string T, .int .i64 0]) (by simp [results, Tryz.results55, go_sem, r0, r1, r2, r3, r4]) rfl ⟨?_, ?_⟩
        · unfold opnV
          rw [HO.out]
          rfl
        · exact set5_below HB5.out (Nat.le_refl _) ⟨hk, hl, hc, hr, hs5⟩
      · rw [hse]
        have HO := Lib.hid hop
        clear hse hop
        simp only
        go_wp2_with fail
        obtain ⟨r0, r1, r2, r3, r4⟩ := (set5_box HZ5.out.bx HP.H0).cells
        unfold set5 at r0 r1 r2 r3 r4
        simp only [HP.H0] at r0 r1 r2 r3 r4
        refine bodyPost_ret (v := .tuple #[.agg #[.int .i64 0, .int .i64 0, .int .i64 0, .int .i64 0, .int .i64 0], .string ⟨#[]⟩, .int .i64 3]) (by simp [results, Tryz.results55, go_sem, r0, r1, r2, r3, r4]) rfl ⟨?_, ?_⟩
        · unfold opnV
          rw [HO.out]
          rfl
        · exact set5_below HB5.out (Nat.le_refl _) HP.H0
      · rw [hse]
        have HO := Lib.hid hop
        have hne : (U.toList == s.toList) = false := by
          rw [Lib.toList_data, Lib.toList_data]
          exact beq_eq_false_iff_ne.2 fun e => hU (ByteArray.ext (Array.toList_inj.1 e))
        clear hse hop
        simp only
        go_wp2_with fail
        obtain ⟨r0, r1, r2, r3, r4⟩ := (set5_box HZ5.out.bx HP.H0).cells
        unfold set5 at r0 r1 r2 r3 r4
        simp only [HP.H0] at r0 r1 r2 r3 r4
        refine bodyPost_ret (v := .tuple #[.agg #[.int .i64 0, .int .i64 0, .int .i64 0, .int .i64 0, .int .i64 0], .string ⟨#[]⟩, .int .i64 3]) (by simp [results, Tryz.results55, go_sem, r0, r1, r2, r3, r4]) rfl ⟨?_, ?_⟩
        · unfold opnV
          rw [HO.out]
          rfl
        · exact set5_below HB5.out (Nat.le_refl _) HP.H0
    · have hA : Bx 120 (W0.heap.size) ⟨hk, hl, hc, hr, hs5⟩ (((((V3.setCell ⟨W0.heap.size, 0, none⟩ (.int .i64 hk)).setCell ⟨W0.heap.size, 1, none⟩ (.int .i64 hl)).setCell ⟨W0.heap.size, 2, none⟩ (.int .i64 hc)).setCell ⟨W0.heap.size, 3, none⟩ (.int .i64 hr)).setCell ⟨W0.heap.size, 4, none⟩ (.int .i64 hs5)) ∧ Below W0.heap.size W0 (((((V3.setCell ⟨W0.heap.size, 0, none⟩ (.int .i64 hk)).setCell ⟨W0.heap.size, 1, none⟩ (.int .i64 hl)).setCell ⟨W0.heap.size, 2, none⟩ (.int .i64 hc)).setCell ⟨W0.heap.size, 3, none⟩ (.int .i64 hr)).setCell ⟨W0.heap.size, 4, none⟩ (.int .i64 hs5)) ∧ W0.heap.size ≤ W0.heap.size := ⟨set5_box k3.out.bx ⟨hk, hl, hc, hr, hs5⟩, set5_below (((below_alloc _ _).trans' HB2.out).trans' HB3.out) (Nat.le_refl _) ⟨hk, hl, hc, hr, hs5⟩, Nat.le_refl _⟩
      generalize ((((V3.setCell ⟨W0.heap.size, 0, none⟩ (.int .i64 hk)).setCell ⟨W0.heap.size, 1, none⟩ (.int .i64 hl)).setCell ⟨W0.heap.size, 2, none⟩ (.int .i64 hc)).setCell ⟨W0.heap.size, 3, none⟩ (.int .i64 hr)).setCell ⟨W0.heap.size, 4, none⟩ (.int .i64 hs5) = W4 at *
      obtain ⟨hbx, hb4, hg4⟩ := hA
      have HB4 := Lib.hid (HB0.out.trans' hb4)
      have HZX := Lib.hid (HRX.out.below hb4)
      have HS4 := Lib.hid (HS1.out.kept hb4)
      clear HB0 HRX HS1 hg4
      obtain ⟨x0, x1, x2, x3, x4⟩ := hbx.cells
      have HBX := Lib.hid hbx
      simp only at x0 x1 x2 x3 x4
      clear hbx hb4
      go_wp2_with fail
      refine (HSE.out _ HS4.out).mono ?_
      rintro e W5 ⟨rfl, hb5⟩
      have HB5 := Lib.hid (HB4.out.trans' hb5)
      have HZ5 := Lib.hid (HZX.out.below hb5)
      obtain ⟨v0, v1, v2, v3, v4⟩ := HZ5.out.cells
      obtain ⟨f0, f1, f2, f3, f4⟩ := HZ5.out.frozen
      obtain ⟨c0, c1, c2, c3, c4⟩ := (HBX.out.below hb5).cells
      simp only at c0 c1 c2 c3 c4
      clear hb5 x0 x1 x2 x3 x4
      rcases HCASE.out with ⟨hse, hop⟩ | ⟨hse, hop⟩ | ⟨U, hU, hse, hop⟩
      · rw [hse]
        have HO := Lib.hid hop
        clear hse hop
        simp only
        go_wp2_with fail
        obtain ⟨r0, r1, r2, r3, r4⟩ := (set5_box HZ5.out.bx ⟨hk, hl, hc, hr, hs5⟩).cells
        unfold set5 at r0 r1 r2 r3 r4
        simp only [HP.H0] at r0 r1 r2 r3 r4
        refine bodyPost_ret (v := .tuple #[.agg #[.int .i64 hk, .int .i64 hl, .int .i64 hc, .int .i64 hr, .int .i64 hs5], .string T, .int .i64 0]) (by simp [results, Tryz.results55, go_sem, r0, r1, r2, r3, r4]) rfl ⟨?_, ?_⟩
        · unfold opnV
          rw [HO.out]
          rfl
        · exact set5_below HB5.out (Nat.le_refl _) ⟨hk, hl, hc, hr, hs5⟩
      · rw [hse]
        have HO := Lib.hid hop
        clear hse hop
        simp only
        go_wp2_with fail
        obtain ⟨r0, r1, r2, r3, r4⟩ := (set5_box HZ5.out.bx HP.H0).cells
        unfold set5 at r0 r1 r2 r3 r4
        simp only [HP.H0] at r0 r1 r2 r3 r4
        refine bodyPost_ret (v := .tuple #[.agg #[.int .i64 0, .int .i64 0, .int .i64 0, .int .i64 0, .int .i64 0], .string ⟨#[]⟩, .int .i64 3]) (by simp [results, Tryz.results55, go_sem, r0, r1, r2, r3, r4]) rfl ⟨?_, ?_⟩
        · unfold opnV
          rw [HO.out]
          rfl
        · exact set5_below HB5.out (Nat.le_refl _) HP.H0
      · rw [hse]
        have HO := Lib.hid hop
        have hne : (U.toList == s.toList) = false := by
          rw [Lib.toList_data, Lib.toList_data]
          exact beq_eq_false_iff_ne.2 fun e => hU (ByteArray.ext (Array.toList_inj.1 e))
        clear hse hop
        simp only
        go_wp2_with fail
        obtain ⟨r0, r1, r2, r3, r4⟩ := (set5_box HZ5.out.bx HP.H0).cells
        unfold set5 at r0 r1 r2 r3 r4
        simp only [HP.H0] at r0 r1 r2 r3 r4
        refine bodyPost_ret (v := .tuple #[.agg #[.int .i64 0, .int .i64 0, .int .i64 0, .int .i64 0, .int .i64 0], .string ⟨#[]⟩, .int .i64 3]) (by simp [results, Tryz.results55, go_sem, r0, r1, r2, r3, r4]) rfl ⟨?_, ?_⟩
        · unfold opnV
          rw [HO.out]
          rfl
        · exact set5_below HB5.out (Nat.le_refl _) HP.H0
end Go.Proofs.YtpeghilfldpgfaaGreatDoor.L7
namespace Go.Proofs.YtpeghilfldpgfaaGreatDoor.L7
open Go.RowKit
set_option linter.unusedVariables false
set_option linter.unusedSimpArgs false
def Tells (f : FuncId) (args : Array Value) (v : Value) : Prop := ∀ W, Sizes W → Calls Tryz.prog f args W fun e w' => e = .returned v ∧ Below W.heap.size W w'
theorem Tells.at {f : FuncId} {args : Array Value} {v : Value} {W0 W : World} (t : Hid (Tells f args v)) (s : Hid (Sizes W0)) (b : Below W0.heap.size W0 W) : Calls Tryz.prog f args W fun e w' => e = .returned v ∧ Below W0.heap.size W0 w' :=
  (t.out W (s.out.kept b)).mono fun e w' ⟨h1, h2⟩ => ⟨h1, b.trans' h2⟩
theorem Tells.held {c : Prop} {f : FuncId} {args : Array Value} {v : Value} {W0 W : World} (t : Hid (Tells f args v)) (s : Hid (Sizes W0)) (b : Hid (Below W0.heap.size W0 W) ∧ c) : Calls Tryz.prog f args W fun e w' => e = .returned v ∧ Below W0.heap.size W0 w' := Tells.at t s b.1.out
def seaV (h : HP.H) (b : ByteArray) (p : Int) : Value := .tuple #[.string (HP.sea h b p).1, .int .i64 (HP.sea h b p).2]
theorem toBytes (l : List UInt8) : (⟨l.toArray⟩ : ByteArray).data.toList = l := rfl
theorem sizeOf (l : List UInt8) : (⟨l.toArray⟩ : ByteArray).size = l.length := by simp [ByteArray.size]
theorem opened {L R : List UInt8} {h : HP.H} (hm : mayBe L.length = true) (hg : HP.good L) (hh : HP.headOf L = h) (hd : L.drop 16 = R) : HP.opn ⟨L.toArray⟩ = (h, ⟨R.toArray⟩, 0) := by
  have hs := sizeOf L
  have e : (⟨L.toArray⟩ : ByteArray).extract 16 L.length = ⟨R.toArray⟩ := by
    apply ByteArray.ext
    apply Array.toList_inj.1
    rw [Lib.extract_data, toBytes, hd, List.take_of_length_le (by rw [← hd, List.length_drop]; exact Nat.le_refl _)]
  have hx := HP.opn_good (s := ⟨L.toArray⟩) (by rw [hs]; exact hm) hg
  rw [hx, hs, e, toBytes, hh]
theorem page_size (h : HP.H) (b : ByteArray) (p : Nat) (hb : b.size + 16 ≤ p) : (HP.page (HP.front h) (HP.rest b.data.toList p)).length = p := by
  have hbl : b.data.toList.length = b.size := by simp
  rw [HP.page_length, HP.front_length, HP.rest_length _ _ (by omega)]
  omega
theorem page_opened {h : HP.H} {b : ByteArray} {p : Nat} (hm : mayBe p = true) (hr : HP.Ok h) (hb : b.size + 16 ≤ p) :
    HP.opn ⟨(HP.page (HP.front h) (HP.rest b.data.toList p)).toArray⟩ = (h, ⟨(HP.rest b.data.toList p).toArray⟩, 0) :=
  opened (by rw [page_size h b p hb]; exact hm) (HP.good_page h _ hr) (HP.headOf_page h _ hr) (HP.page_drop _ _ (HP.front_length h))
end Go.Proofs.YtpeghilfldpgfaaGreatDoor.L7
namespace Go.Proofs.YtpeghilfldpgfaaGreatDoor.L12.CP
open Go.Proofs.YtpeghilfldpgfaaGreatDoor.L7
set_option linter.unusedSimpArgs false
set_option linter.unusedVariables false
def NumOk (F N : Int) : Prop := 1 ≤ F ∧ F ≤ 4095 ∧ 0 ≤ N ∧ N ≤ 4095 ∧ N ≠ F
instance (F N : Int) : Decidable (NumOk F N) := by unfold NumOk; infer_instance
def DataOk (N : Int) (z : Nat) (p : Int) : Prop := 1 ≤ z ∧ (z : Int) ≤ p - 16 ∧ (N = 0 ∨ (z : Int) = p - 16)
instance (N : Int) (z : Nat) (p : Int) : Decidable (DataOk N z p) := by unfold DataOk; infer_instance
def May (F N : Int) (z : Nat) (p : Int) : Prop := mayBe p = true ∧ NumOk F N ∧ DataOk N z p
instance (F N : Int) (z : Nat) (p : Int) : Decidable (May F N z p) := by unfold May; infer_instance
theorem mayBe_le {p : Int} (h : mayBe p = true) : 128 ≤ p ∧ p ≤ 1024 := HP.mayBe_bd h
def hd (F N : Int) (D : ByteArray) : HP.H := ⟨4, 0, D.size, N, F⟩
def page (F N : Int) (D : ByteArray) (p : Nat) : List UInt8 := HP.page (HP.front (hd F N D)) (HP.rest D.data.toList p)
def enc (F N : Int) (D : ByteArray) (p : Int) : ByteArray × Int :=
  if mayBe p = false then (⟨#[]⟩, 4) else if ¬ May F N D.size p then (⟨#[]⟩, 3) else (⟨(page F N D p.toNat).toArray⟩, 0)
theorem enc_arg {F N : Int} {D : ByteArray} {p : Int} (h : mayBe p = false) : enc F N D p = (⟨#[]⟩, 4) := by unfold enc; rw [if_pos h]
theorem enc_form {F N : Int} {D : ByteArray} {p : Int} (h : mayBe p = true) (hm : ¬ May F N D.size p) : enc F N D p = (⟨#[]⟩, 3) := by unfold enc; rw [if_neg (by simp [h]), if_pos hm]
theorem enc_good {F N : Int} {D : ByteArray} {p : Int} (hm : May F N D.size p) : enc F N D p = (⟨(page F N D p.toNat).toArray⟩, 0) := by unfold enc; rw [if_neg (by simp [hm.1]), if_neg (by simpa using hm)]
theorem enc_cases (F N : Int) (D : ByteArray) (p : Int) : (mayBe p = false ∧ ¬ May F N D.size p ∧ enc F N D p = (⟨#[]⟩, 4)) ∨ (mayBe p = true ∧ ¬ May F N D.size p ∧ enc F N D p = (⟨#[]⟩, 3)) ∨ (mayBe p = true ∧ May F N D.size p ∧ enc F N D p = (⟨(page F N D p.toNat).toArray⟩, 0)) := by
  cases hp : mayBe p with
  | false => exact .inl ⟨rfl, fun h => by have := h.1; rw [hp] at this; exact absurd this (by simp), enc_arg hp⟩
  | true =>
    by_cases hm : May F N D.size p
    · exact .inr (.inr ⟨rfl, hm, enc_good hm⟩)
    · exact .inr (.inl ⟨rfl, hm, enc_form hp hm⟩)
theorem enc_ok {F N : Int} {D : ByteArray} {p : Int} {s : ByteArray} (h : enc F N D p = (s, 0)) : May F N D.size p ∧ s = ⟨(page F N D p.toNat).toArray⟩ := by
  rcases enc_cases F N D p with ⟨_, _, e⟩ | ⟨_, _, e⟩ | ⟨_, h1, e⟩
  · rw [e] at h; simp at h
  · rw [e] at h; simp at h
  · rw [e] at h
    exact ⟨h1, (congrArg Prod.fst h).symm⟩
theorem hd_ok {F N : Int} {D : ByteArray} {p : Int} (hm : May F N D.size p) : HP.Ok (hd F N D) := by
  obtain ⟨h1, ⟨h2, h3, h4, h5, h6⟩, h7, h8, h9⟩ := hm
  have := mayBe_le h1
  unfold HP.Ok hd
  simp only
  omega
theorem seal_ok {F N : Int} {D : ByteArray} {p : Int} (hm : May F N D.size p) : HP.sea (hd F N D) D p = (⟨(page F N D p.toNat).toArray⟩, 0) :=
  HP.seal_good hm.1 (HP.right_iff.2 (hd_ok hm)) (by have := hm.2.2.2.1; omega)
theorem page_open {F N : Int} {D : ByteArray} {p : Int} (hm : May F N D.size p) : HP.opn ⟨(page F N D p.toNat).toArray⟩ = (hd F N D, ⟨(HP.rest D.data.toList p.toNat).toArray⟩, 0) := by
  have hp := mayBe_le hm.1
  obtain ⟨q, rfl⟩ : ∃ q : Nat, p = q := Int.eq_ofNat_of_zero_le (by omega)
  exact page_opened hm.1 (hd_ok hm) (by have := hm.2.2.2.1; omega)
def dec (s : ByteArray) : Option (Int × Int × ByteArray) :=
  if (HP.opn s).2.2 = 0 ∧ (HP.opn s).1.c ≤ ((HP.opn s).2.1.size : Int) then
    if enc (HP.opn s).1.s (HP.opn s).1.r ((HP.opn s).2.1.extract 0 (HP.opn s).1.c.toNat) s.size = (s, 0) then some ((HP.opn s).1.s, (HP.opn s).1.r, (HP.opn s).2.1.extract 0 (HP.opn s).1.c.toNat) else none
  else none
theorem rest_extract (D : ByteArray) (p : Nat) (h : D.size + 16 ≤ p) : (⟨(HP.rest D.data.toList p).toArray⟩ : ByteArray).extract 0 D.size = D := by
  apply ByteArray.ext
  apply Array.toList_inj.1
  rw [Lib.extract_data, toBytes]
  unfold HP.rest
  rw [List.drop_zero, Nat.sub_zero]
  have : D.data.toList.length = D.size := by simp
  rw [← this, List.take_left]
theorem dec_iff (s : ByteArray) (F N : Int) (D : ByteArray) : dec s = some (F, N, D) ↔ enc F N D s.size = (s, 0) := by
  constructor
  · intro h
    unfold dec at h
    split at h
    · split at h
      · rename_i h2
        simp only [Option.some.injEq, Prod.mk.injEq] at h
        obtain ⟨e1, e2, e3⟩ := h
        rw [e1, e2, e3] at h2
        exact h2
      · exact nomatch h
    · exact nomatch h
  · intro h
    obtain ⟨hm, hs⟩ := enc_ok h
    have ho := page_open hm
    rw [← hs] at ho
    have hp := mayBe_le hm.1
    have hd3 : DataOk N D.size s.size := hm.2.2
    have hx : (⟨(HP.rest D.data.toList (s.size : Int).toNat).toArray⟩ : ByteArray).extract 0 (hd F N D).c.toNat = D := by
      show (⟨(HP.rest D.data.toList (s.size : Int).toNat).toArray⟩ : ByteArray).extract 0 D.size = D
      exact rest_extract D _ (by have := hd3.2.1; omega)
    have hz : (⟨(HP.rest D.data.toList (s.size : Int).toNat).toArray⟩ : ByteArray).size = s.size - 16 := by
      rw [L7.sizeOf, HP.rest_length _ _ (by have := hd3.2.1; simp; omega)]
      omega
    unfold dec
    rw [ho]
    simp only [hx, hz]
    have hc : (hd F N D).c = (D.size : Int) := rfl
    rw [if_pos ⟨trivial, by rw [hc]; have := hd3.2.1; omega⟩]
    show (if enc F N D s.size = (s, 0) then some (F, N, D) else none) = _
    rw [if_pos h]
theorem dec_kind {s : ByteArray} (h : (HP.opn s).1.k ≠ 4) : dec s = none := by
  cases hx : dec s with
  | none => rfl
  | some x =>
    obtain ⟨F, N, D⟩ := x
    obtain ⟨hm, hs⟩ := enc_ok ((dec_iff s F N D).1 hx)
    have ho := page_open hm
    rw [← hs] at ho
    rw [ho] at h
    exact absurd rfl h
theorem dec_bad {s : ByteArray} (h : ¬ ((HP.opn s).2.2 = 0 ∧ (HP.opn s).1.c ≤ ((HP.opn s).2.1.size : Int))) : dec s = none := by unfold dec; rw [if_neg h]
theorem dec_yes {s : ByteArray} (h : (HP.opn s).2.2 = 0 ∧ (HP.opn s).1.c ≤ ((HP.opn s).2.1.size : Int)) (he : enc (HP.opn s).1.s (HP.opn s).1.r ((HP.opn s).2.1.extract 0 (HP.opn s).1.c.toNat) s.size = (s, 0)) : dec s = some ((HP.opn s).1.s, (HP.opn s).1.r, (HP.opn s).2.1.extract 0 (HP.opn s).1.c.toNat) := by unfold dec; rw [if_pos h, if_pos he]
theorem dec_no {s : ByteArray} (h : (HP.opn s).2.2 = 0 ∧ (HP.opn s).1.c ≤ ((HP.opn s).2.1.size : Int)) (he : ¬ enc (HP.opn s).1.s (HP.opn s).1.r ((HP.opn s).2.1.extract 0 (HP.opn s).1.c.toNat) s.size = (s, 0)) : dec s = none := by unfold dec; rw [if_pos h, if_neg he]
end Go.Proofs.YtpeghilfldpgfaaGreatDoor.L12.CP
namespace Go.Proofs.YtpeghilfldpgfaaGreatDoor.L7
open Go.RowKit
set_option linter.unusedVariables false
set_option linter.unusedSimpArgs false
theorem rest_full (A : ByteArray) (p : Nat) (h : A.size + 16 = p) : HP.rest A.data.toList p = A.data.toList := by
  unfold HP.rest
  rw [show p - 16 - A.data.toList.length = 0 by simp; omega]
  simp
end Go.Proofs.YtpeghilfldpgfaaGreatDoor.L7
namespace Go.Proofs.YtpeghilfldpgfaaGreatDoor.L13.MP
open Go.Proofs.YtpeghilfldpgfaaGreatDoor.L7
set_option linter.unusedSimpArgs false
set_option linter.unusedVariables false
structure Mt where
  p : Int
  pg : Int
  r : Int
  l : Int
  n : Int
def Mt0 : Mt := ⟨0, 0, 0, 0, 0⟩
def May (m : Mt) : Prop := mayBe m.p = true ∧ 2 ≤ m.pg ∧ m.pg ≤ 4096 ∧ 1 ≤ m.r ∧ m.r < m.pg ∧ 0 ≤ m.l ∧ m.l ≤ 255 ∧ 0 ≤ m.n ∧ m.n ≤ 2147483647
instance (m : Mt) : Decidable (May m) := by unfold May; infer_instance
theorem mayBe_le {p : Int} (h : mayBe p = true) : 128 ≤ p ∧ p ≤ 1024 := HP.mayBe_bd h
def hd (m : Mt) : HP.H := ⟨1, m.l, 0, m.r, 0⟩
def front (m : Mt) : List UInt8 := [119, 105, 116, 104, 121] ++ Lib.leBytes 4 m.p.toNat ++ Lib.leBytes 4 m.pg.toNat ++ Lib.leBytes 4 m.n.toNat
def body (m : Mt) : List UInt8 := front m ++ List.replicate (m.p.toNat - 34) 0 ++ [87]
def page (m : Mt) : List UInt8 := HP.page (HP.front (hd m)) (body m)
theorem front_length (m : Mt) : (front m).length = 17 := by simp [front, Lib.leBytes_length]
theorem body_length (m : Mt) (h : 34 ≤ m.p) : (body m).length = m.p.toNat - 16 := by
  unfold body
  rw [List.length_append, List.length_append, front_length, List.length_replicate, List.length_singleton]
  omega
theorem hd_ok {m : Mt} (h : May m) : HP.Ok (hd m) := by
  obtain ⟨h1, h2, h3, h4, h5, h6, h7, h8, h9⟩ := h
  unfold HP.Ok hd
  simp only
  omega
theorem page_length {m : Mt} (h : May m) : (page m).length = m.p.toNat := by
  have := mayBe_le h.1
  unfold page
  rw [HP.page_length, HP.front_length, body_length m (by omega)]
  omega
def enc (m : Mt) : ByteArray × Int := if May m then (⟨(page m).toArray⟩, 0) else (⟨#[]⟩, 3)
theorem enc_good {m : Mt} (h : May m) : enc m = (⟨(page m).toArray⟩, 0) := by unfold enc; rw [if_pos h]
theorem enc_form {m : Mt} (h : ¬ May m) : enc m = (⟨#[]⟩, 3) := by unfold enc; rw [if_neg h]
theorem enc_ok {m : Mt} {s : ByteArray} (h : enc m = (s, 0)) : May m ∧ s = ⟨(page m).toArray⟩ := by
  by_cases hm : May m
  · rw [enc_good hm] at h
    exact ⟨hm, (congrArg Prod.fst h).symm⟩
  · rw [enc_form hm] at h
    simp at h
theorem enc_size {m : Mt} {s : ByteArray} (h : enc m = (s, 0)) : (s.size : Int) = m.p := by
  obtain ⟨hm, rfl⟩ := enc_ok h
  have := mayBe_le hm.1
  rw [L7.sizeOf, page_length hm]
  omega
theorem body_size {m : Mt} (h : May m) : (⟨(body m).toArray⟩ : ByteArray).size + 16 = m.p.toNat := by
  have := mayBe_le h.1
  rw [L7.sizeOf, body_length m (by omega)]
  omega
theorem seal_ok {m : Mt} (h : May m) : HP.sea (hd m) ⟨(body m).toArray⟩ m.p = (⟨(page m).toArray⟩, 0) := by
  have hp := mayBe_le h.1
  have hb := body_size h
  rw [HP.seal_good h.1 (HP.right_iff.2 (hd_ok h)) (by omega), rest_full _ _ hb]
  rfl
theorem page_open {m : Mt} (h : May m) : HP.opn ⟨(page m).toArray⟩ = (hd m, ⟨(body m).toArray⟩, 0) := by
  have hp := mayBe_le h.1
  have hb := body_size h
  have e := page_opened (h := hd m) (b := ⟨(body m).toArray⟩) (p := m.p.toNat) (by rw [Int.toNat_of_nonneg (by omega)]; exact h.1) (hd_ok h) (by omega)
  rw [rest_full _ _ hb] at e
  exact e
def num (b : ByteArray) (i : Nat) : Int := (Lib.leNat ((b.data.toList.drop i).take 4) : Nat)
def told (h : HP.H) (b : ByteArray) : Mt := ⟨num b 5, num b 9, h.r, h.l, num b 13⟩
theorem drop_app {x y : List UInt8} {i : Nat} (h : x.length = i) : (x ++ y).drop i = y := by rw [← h, List.drop_left]
theorem take_app {x y : List UInt8} {i : Nat} (h : x.length = i) : (x ++ y).take i = x := by rw [← h, List.take_left]
theorem told_body {m : Mt} (h : May m) : told (hd m) ⟨(body m).toArray⟩ = m := by
  obtain ⟨p, pg, r, l, n⟩ := m
  obtain ⟨h1, h2, h3, h4, h5, h6, h7, h8, h9⟩ := h
  have hp := mayBe_le h1
  simp only at h1 h2 h3 h4 h5 h6 h7 h8 h9 hp
  have b5 : (body ⟨p, pg, r, l, n⟩).drop 5 = Lib.leBytes 4 p.toNat ++ (Lib.leBytes 4 pg.toNat ++ (Lib.leBytes 4 n.toNat ++ (List.replicate (p.toNat - 34) 0 ++ [87]))) := by
    simp [body, front]
  have b9 : (body ⟨p, pg, r, l, n⟩).drop 9 = Lib.leBytes 4 pg.toNat ++ (Lib.leBytes 4 n.toNat ++ (List.replicate (p.toNat - 34) 0 ++ [87])) := by
    rw [show (9 : Nat) = 5 + 4 from rfl, ← List.drop_drop, b5, drop_app (Lib.leBytes_length 4 _)]
  have b13 : (body ⟨p, pg, r, l, n⟩).drop 13 = Lib.leBytes 4 n.toNat ++ (List.replicate (p.toNat - 34) 0 ++ [87]) := by
    rw [show (13 : Nat) = 9 + 4 from rfl, ← List.drop_drop, b9, drop_app (Lib.leBytes_length 4 _)]
  unfold told num
  rw [L7.toBytes, b5, b9, b13, take_app (Lib.leBytes_length 4 _), take_app (Lib.leBytes_length 4 _), take_app (Lib.leBytes_length 4 _), HP.le4_back _ (by omega), HP.le4_back _ (by omega), HP.le4_back _ (by omega)]
  simp only [hd, Mt.mk.injEq]
  exact ⟨by omega, by omega, trivial, trivial, by omega⟩
def dec (s : ByteArray) : Option Mt :=
  if (HP.opn s).2.2 = 0 then
    if enc (told (HP.opn s).1 (HP.opn s).2.1) = (s, 0) then some (told (HP.opn s).1 (HP.opn s).2.1) else none
  else none
theorem dec_iff (s : ByteArray) (m : Mt) : dec s = some m ↔ enc m = (s, 0) := by
  constructor
  · intro h
    unfold dec at h
    split at h
    · split at h
      · rename_i h2
        rw [Option.some.injEq] at h
        rw [h] at h2
        exact h2
      · exact nomatch h
    · exact nomatch h
  · intro h
    obtain ⟨hm, hs⟩ := enc_ok h
    have ho := page_open hm
    rw [← hs] at ho
    unfold dec
    rw [ho]
    simp only [told_body hm]
    rw [if_pos trivial, if_pos h]
theorem dec_bad {s : ByteArray} (h : (HP.opn s).2.2 ≠ 0) : dec s = none := by unfold dec; rw [if_neg h]
theorem dec_yes {s : ByteArray} (h : (HP.opn s).2.2 = 0) (he : enc (told (HP.opn s).1 (HP.opn s).2.1) = (s, 0)) : dec s = some (told (HP.opn s).1 (HP.opn s).2.1) := by unfold dec; rw [if_pos h, if_pos he]
theorem dec_no {s : ByteArray} (h : (HP.opn s).2.2 = 0) (he : enc (told (HP.opn s).1 (HP.opn s).2.1) ≠ (s, 0)) : dec s = none := by unfold dec; rw [if_pos h, if_neg he]
end Go.Proofs.YtpeghilfldpgfaaGreatDoor.L13.MP
namespace Go.Proofs.YtpeghilfldpgfaaGreatDoor.L13.MP
open Go.Proofs.YtpeghilfldpgfaaGreatDoor.L7
set_option linter.unusedSimpArgs false
set_option linter.unusedVariables false
def rep (c : UInt8) (n : Nat) : ByteArray := ⟨(List.replicate n c).toArray⟩
theorem rep_size (c : UInt8) (n : Nat) : (rep c n).size = n := by
  show (List.replicate n c).toArray.size = n
  rw [List.size_toArray, List.length_replicate]
end Go.Proofs.YtpeghilfldpgfaaGreatDoor.L13.MP
namespace Go.Proofs.YtpeghilfldpgfaaGreatDoor.GP
open Go.Proofs.YtpeghilfldpgfaaGreatDoor.L7
set_option linter.unusedSimpArgs false
set_option linter.unusedVariables false
abbrev Ch := Int × Int × ByteArray
structure Pg where
  k : Int
  l : L10.NP.Lf
  n : L11.IP.Inn
  c : Ch
  m : L13.MP.Mt
def c0 : Ch := (0, 0, ⟨#[]⟩)
def Pg0 : Pg := ⟨0, L10.NP.Lf0, L11.IP.In0, c0, L13.MP.Mt0⟩
def ofL (l : L10.NP.Lf) : Pg := ⟨2, l, L11.IP.In0, c0, L13.MP.Mt0⟩
def ofN (n : L11.IP.Inn) : Pg := ⟨3, L10.NP.Lf0, n, c0, L13.MP.Mt0⟩
def ofC (c : Ch) : Pg := ⟨4, L10.NP.Lf0, L11.IP.In0, c, L13.MP.Mt0⟩
def ofM (m : L13.MP.Mt) : Pg := ⟨1, L10.NP.Lf0, L11.IP.In0, c0, m⟩
def kd (s : ByteArray) : Int := (HP.opn s).1.k
theorem kd_l {s : ByteArray} {l : L10.NP.Lf} (h : L10.NP.dec s = some l) : kd s = 2 := by
  obtain ⟨h1, h2, h3, _⟩ := L10.NP.enc_head ((L10.NP.dec_iff s l).1 h)
  unfold kd
  rw [HP.opn_good h1 h2, h3]
  rfl
theorem kd_n {s : ByteArray} {n : L11.IP.Inn} (h : L11.IP.dec s = some n) : kd s = 3 := by
  obtain ⟨h1, h2, h3, _⟩ := L11.IP.enc_head ((L11.IP.dec_iff s n).1 h)
  unfold kd
  rw [HP.opn_good h1 h2, h3]
  rfl
theorem kd_c {s : ByteArray} {c : Ch} (h : L12.CP.dec s = some c) : kd s = 4 := by
  by_cases e : kd s = 4
  · exact e
  · rw [L12.CP.dec_kind e] at h
    cases h
theorem kd_m {s : ByteArray} {m : L13.MP.Mt} (h : L13.MP.dec s = some m) : kd s = 1 := by
  obtain ⟨h1, h2⟩ := L13.MP.enc_ok ((L13.MP.dec_iff s m).1 h)
  unfold kd
  rw [h2, L13.MP.page_open h1]
  rfl
theorem no_l {s : ByteArray} (h : kd s ≠ 2) : L10.NP.dec s = none := by
  cases e : L10.NP.dec s with
  | none => rfl
  | some x => exact absurd (kd_l e) h
theorem no_n {s : ByteArray} (h : kd s ≠ 3) : L11.IP.dec s = none := by
  cases e : L11.IP.dec s with
  | none => rfl
  | some x => exact absurd (kd_n e) h
theorem no_c {s : ByteArray} (h : kd s ≠ 4) : L12.CP.dec s = none := by
  cases e : L12.CP.dec s with
  | none => rfl
  | some x => exact absurd (kd_c e) h
theorem no_m {s : ByteArray} (h : kd s ≠ 1) : L13.MP.dec s = none := by
  cases e : L13.MP.dec s with
  | none => rfl
  | some x => exact absurd (kd_m e) h
def dec (s : ByteArray) : Option Pg := match L10.NP.dec s with
  | some l => some (ofL l)
  | none => match L11.IP.dec s with
    | some n => some (ofN n)
    | none => match L12.CP.dec s with
      | some c => some (ofC c)
      | none => match L13.MP.dec s with
        | some m => some (ofM m)
        | none => none
theorem dec_l {s : ByteArray} {l : L10.NP.Lf} (h : L10.NP.dec s = some l) : dec s = some (ofL l) := by unfold dec; rw [h]
theorem dec_n {s : ByteArray} {n : L11.IP.Inn} (h : L11.IP.dec s = some n) : dec s = some (ofN n) := by
  unfold dec
  rw [no_l (by rw [kd_n h]; decide), h]
theorem dec_c {s : ByteArray} {c : Ch} (h : L12.CP.dec s = some c) : dec s = some (ofC c) := by
  unfold dec
  rw [no_l (by rw [kd_c h]; decide), no_n (by rw [kd_c h]; decide), h]
theorem dec_m {s : ByteArray} {m : L13.MP.Mt} (h : L13.MP.dec s = some m) : dec s = some (ofM m) := by
  unfold dec
  rw [no_l (by rw [kd_m h]; decide), no_n (by rw [kd_m h]; decide), no_c (by rw [kd_m h]; decide), h]
theorem dec_0 {s : ByteArray} (hl : L10.NP.dec s = none) (hn : L11.IP.dec s = none) (hc : L12.CP.dec s = none) (hm : L13.MP.dec s = none) : dec s = none := by
  unfold dec
  rw [hl, hn, hc, hm]
theorem dec_cases (s : ByteArray) :
    (∃ l, L10.NP.dec s = some l ∧ L11.IP.dec s = none ∧ L12.CP.dec s = none ∧ L13.MP.dec s = none ∧ dec s = some (ofL l)) ∨
    (∃ n, L10.NP.dec s = none ∧ L11.IP.dec s = some n ∧ L12.CP.dec s = none ∧ L13.MP.dec s = none ∧ dec s = some (ofN n)) ∨
    (∃ c, L10.NP.dec s = none ∧ L11.IP.dec s = none ∧ L12.CP.dec s = some c ∧ L13.MP.dec s = none ∧ dec s = some (ofC c)) ∨
    (∃ m, L10.NP.dec s = none ∧ L11.IP.dec s = none ∧ L12.CP.dec s = none ∧ L13.MP.dec s = some m ∧ dec s = some (ofM m)) ∨
    (L10.NP.dec s = none ∧ L11.IP.dec s = none ∧ L12.CP.dec s = none ∧ L13.MP.dec s = none ∧ dec s = none) := by
  cases hl : L10.NP.dec s with
  | some l => exact .inl ⟨l, rfl, no_n (by rw [kd_l hl]; decide), no_c (by rw [kd_l hl]; decide), no_m (by rw [kd_l hl]; decide), dec_l hl⟩
  | none =>
    cases hn : L11.IP.dec s with
    | some n => exact .inr (.inl ⟨n, rfl, rfl, no_c (by rw [kd_n hn]; decide), no_m (by rw [kd_n hn]; decide), dec_n hn⟩)
    | none =>
      cases hc : L12.CP.dec s with
      | some c => exact .inr (.inr (.inl ⟨c, rfl, rfl, rfl, no_m (by rw [kd_c hc]; decide), dec_c hc⟩))
      | none =>
        cases hm : L13.MP.dec s with
        | some m => exact .inr (.inr (.inr (.inl ⟨m, rfl, rfl, rfl, rfl, dec_m hm⟩)))
        | none => exact .inr (.inr (.inr (.inr ⟨rfl, rfl, rfl, rfl, dec_0 hl hn hc hm⟩)))
def self (x : Pg) : Int := if x.k = 2 then x.l.self else if x.k = 3 then x.n.self else if x.k = 4 then x.c.1 else 0
def right (x : Pg) : Int := if x.k = 1 then x.m.r else if x.k = 2 then x.l.right else if x.k = 3 then x.n.right else if x.k = 4 then x.c.2.1 else 0
def at_ (l : List ByteArray) (i : Int) : Except Int Pg :=
  if h : 0 ≤ i ∧ i < l.length then
    match dec (l[i.toNat]'(by omega)) with
    | some x => if self x = i then .ok x else .error 3
    | none => .error 3
  else .error 4
def kindAt (l : List ByteArray) (i : Nat) : Int := match at_ l i with
  | .ok x => x.k
  | .error _ => 0
def survey (l : List ByteArray) : List Int := (List.range l.length).map (kindAt l)
theorem at_arg {l : List ByteArray} {i : Int} (h : ¬ (0 ≤ i ∧ i < l.length)) : at_ l i = .error 4 := by unfold at_; rw [dif_neg h]
theorem at_in {l : List ByteArray} {i : Nat} {s : ByteArray} (h : l[i]? = some s) : at_ l i = match dec s with
    | some x => if self x = i then .ok x else .error 3
    | none => .error 3 := by
  obtain ⟨h1, h2⟩ := List.getElem?_eq_some_iff.1 h
  subst h2
  unfold at_
  rw [dif_pos ⟨by omega, by omega⟩]
  rfl
theorem at_none {l : List ByteArray} {i : Nat} {s : ByteArray} (h : l[i]? = some s) (hd : dec s = none) : at_ l i = .error 3 := by rw [at_in h, hd]
theorem at_moved {l : List ByteArray} {i : Nat} {s : ByteArray} {x : Pg} (h : l[i]? = some s) (hd : dec s = some x) (hs : self x ≠ i) : at_ l i = .error 3 := by rw [at_in h, hd]; simp only; rw [if_neg hs]
theorem at_ok {l : List ByteArray} {i : Nat} {s : ByteArray} {x : Pg} (h : l[i]? = some s) (hd : dec s = some x) (hs : self x = i) : at_ l i = .ok x := by rw [at_in h, hd]; simp only; rw [if_pos hs]
theorem dec_open {s : ByteArray} {x : Pg} (h : dec s = some x) : mayBe s.size = true ∧ HP.good s.data.toList := by
  by_cases e : mayBe s.size = true ∧ HP.good s.data.toList
  · exact e
  · have hk : kd s = 0 := by unfold kd; rw [HP.opn_bad e]; rfl
    rw [dec_0 (no_l (by rw [hk]; decide)) (no_n (by rw [hk]; decide)) (no_c (by rw [hk]; decide)) (no_m (by rw [hk]; decide))] at h
    cases h
theorem dec_size {s : ByteArray} {x : Pg} (h : dec s = some x) : s.size = 128 ∨ s.size = 256 ∨ s.size = 512 ∨ s.size = 1024 := by
  have := of_decide_eq_true (show decide ((s.size : Int) = 128 ∨ (s.size : Int) = 256 ∨ (s.size : Int) = 512 ∨ (s.size : Int) = 1024) = true from (dec_open h).1)
  omega
theorem dec_more {s t : ByteArray} {x : Pg} (h : dec s = some x) (ht : t.size = s.size + 1 ∨ t.size + 1 = s.size) : dec t = none := by
  cases e : dec t with
  | none => rfl
  | some y =>
    have h1 := dec_size h
    have h2 := dec_size e
    omega
theorem headOf_same (c : UInt8) (n : Nat) (hn : 128 ≤ n) : HP.headOf (List.replicate n c) = ⟨c.toNat, c.toNat, (c.toNat + 256 * c.toNat : Nat), (Lib.leNat [c, c, c, c] : Nat), (Lib.leNat [c, c, c, c] : Nat)⟩ := by
  obtain ⟨k, rfl⟩ : ∃ k, n = k + 16 := ⟨n - 16, by omega⟩
  unfold HP.headOf
  simp only [List.drop_replicate, List.take_replicate]
  have e1 : min 4 (k + 16 - 4) = 4 := by omega
  have e2 : min 4 (k + 16 - 8) = 4 := by omega
  rw [e1, e2]
  simp [List.replicate_succ]
theorem dec_same (c : UInt8) (n : Nat) : dec (L13.MP.rep c n) = none := by
  cases e : dec (L13.MP.rep c n) with
  | none => rfl
  | some x =>
    exfalso
    have h1 := dec_size e
    rw [L13.MP.rep_size] at h1
    have h2 := (dec_open e).2.1
    rw [show (L13.MP.rep c n).data.toList = List.replicate n c from rfl, headOf_same c n (by omega)] at h2
    obtain ⟨a1, a2, a3, a4, a5, a6, a7, a8, _⟩ := h2
    simp only [Lib.leNat] at a1 a8
    omega
end Go.Proofs.YtpeghilfldpgfaaGreatDoor.GP
