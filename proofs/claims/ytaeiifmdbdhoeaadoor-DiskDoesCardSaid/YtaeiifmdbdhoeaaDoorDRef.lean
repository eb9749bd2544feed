/-
  The document's disk: its block, its rows; the walks of its put, All, Len, Size.
-/
import Derived.Test.YtaeiifmdbdhoeaaDoorDRepeat
import Derived.Laws.Cover1
import Derived.Laws.AppendOwnNone
namespace Go.Proofs.YtaeiifmdbdhoeaaDoor
open Go.RowKit
open DP (W D)
set_option linter.unusedVariables false
set_option linter.unusedSimpArgs false

theorem Tryd.infoStr : (Tryd.prog.info? 9).map (fun i => (i.zero, i.size, i.bytes)) = some (some (.string ⟨#[]⟩), 1, 16) := by kernel_rfl

/-- Behind an address below block b stand these writes. -/
def LiesW (w : World) (b : Nat) (A : Option Addr) (q : List W) : Prop :=
  ∀ i x, q[i]? = some x → ∃ a, A = some a ∧ a.block < b ∧ w.cell? (a.add (i * 2)) = some (.int .i64 x.i) ∧ w.cell? ⟨(a.add (i * 2)).block, (a.add (i * 2)).off + 1, none⟩ = some (.string x.s)
theorem LiesW.keep {w w' : World} {b : Nat} {A : Option Addr} {q : List W} (h : LiesW w b A q) (hk : ∀ p : Addr, p.block < b → w'.cell? p = w.cell? p) : LiesW w' b A q := fun i x hx => by
  obtain ⟨a, e, hb, h0, h1⟩ := h i x hx
  exact ⟨a, e, hb, (hk _ (by rw [addr_block]; exact hb)).trans h0, (hk _ (by show (a.add (i * 2)).block < b; rw [addr_block]; exact hb)).trans h1⟩
theorem LiesW.more {w : World} {b b' : Nat} {A : Option Addr} {q : List W} (h : LiesW w b A q) (hB : b ≤ b') : LiesW w b' A q := fun i x hx => by
  obtain ⟨a, e, hb, h1⟩ := h i x hx
  exact ⟨a, e, by omega, h1⟩
theorem LiesW.on {w w' : World} {A : Option Addr} {q : List W} (h : LiesW w w.heap.size A q) (k : Below w.heap.size w w') : LiesW w' w'.heap.size A q := (h.keep fun _ hp => k.cell hp).more k.size
/-- The cells of writes. -/
def wCells (q : List W) : List Value := q.flatMap fun x => [.int .i64 x.i, .string x.s]
theorem wCells_snoc (q : List W) (x : W) : wCells (q ++ [x]) = wCells q ++ [.int .i64 x.i, .string x.s] := by simp [wCells]
theorem wCells_length : ∀ q : List W, (wCells q).length = q.length * 2
  | [] => rfl
  | x :: q => by
    have := wCells_length q
    simp only [wCells, List.flatMap_cons, List.length_append, List.length_cons] at *
    rw [this]
    simp; omega
theorem wCells_get : ∀ (q : List W) (i : Nat) (x : W), q[i]? = some x → (wCells q)[i * 2]? = some (.int .i64 x.i) ∧ (wCells q)[i * 2 + 1]? = some (.string x.s)
  | [], i, x, h => by simp at h
  | y :: q, 0, x, h => by
    simp at h
    subst h
    exact ⟨rfl, rfl⟩
  | y :: q, i + 1, x, h => by
    have := wCells_get q i x (by simpa using h)
    rw [show (i + 1) * 2 = i * 2 + 1 + 1 by omega]
    exact this
theorem liesW_own {w : World} {base e : Nat} {A : Option Addr} {n cap : Nat} {q : List W} (h : w.ownsRow base e 2 (.slice A n cap) n (wCells q)) (hn : n = q.length) : LiesW w w.heap.size A q := fun i x hx => by
  have hi : i < q.length := (List.getElem?_eq_some_iff.1 hx).1
  obtain ⟨g, cap', hv, _, hlt⟩ := h.form (by omega)
  have hA : A = some ⟨g, 0, none⟩ := by injection hv
  subst hA
  obtain ⟨h0, h1⟩ := wCells_get q i x hx
  refine ⟨_, rfl, hlt, h.cells (g := g) rfl _ _ h0, ?_⟩
  have h2 := h.cells (g := g) rfl _ _ h1
  rw [addr_at] at h2 ⊢
  exact h2

/-- The block of a disk. -/
def Six (w : World) (b : Nat) (p room reads : Int) (K P : Value) (lf : Int) : Prop := w.heap[b]? = some (.cells #[.int .i64 p, .int .i64 room, .int .i64 reads, K, P, .int .i64 lf] 42 (0, 0))
section
variable {w w' : World} {b : Nat} {p room reads lf : Int} {K P : Value}
theorem Six.cells (h : Six w b p room reads K P lf) : w.cell? ⟨b, 0, none⟩ = some (.int .i64 p) ∧ w.cell? ⟨b, 1, none⟩ = some (.int .i64 room) ∧ w.cell? ⟨b, 2, none⟩ = some (.int .i64 reads) ∧ w.cell? ⟨b, 3, none⟩ = some K ∧ w.cell? ⟨b, 4, none⟩ = some P ∧ w.cell? ⟨b, 5, none⟩ = some (.int .i64 lf) := by
  unfold Six at h
  refine ⟨?_, ?_, ?_, ?_, ?_, ?_⟩ <;> simp [World.cell?, h]
theorem Six.free (h : Six w b p room reads K P lf) (i : Nat) : w.frozen? ⟨b, i, none⟩ = false := by
  unfold Six at h
  simp [World.frozen?, h]
theorem Six.lt (h : Six w b p room reads K P lf) : b < w.heap.size := by
  unfold Six at h
  exact (Array.getElem?_eq_some_iff.1 h).1
theorem Six.stays (h : Six w b p room reads K P lf) (hb : w'.heap[b]? = w.heap[b]?) : Six w' b p room reads K P lf := hb.trans h
theorem Six.below (h : Six w b p room reads K P lf) (k : Below w.heap.size w w') : Six w' b p room reads K P lf := h.stays (k.block b h.lt)
theorem Six.set2 (h : Six w b p room reads K P lf) (v : Int) : Six (w.setCell ⟨b, 2, none⟩ (.int .i64 v)) b p room v K P lf := heap_setCell_same w b 2 _ _ _ h
theorem Six.set3 (h : Six w b p room reads K P lf) (v : Value) : Six (w.setCell ⟨b, 3, none⟩ v) b p room reads v P lf := heap_setCell_same w b 3 _ _ _ h
theorem Six.set4 (h : Six w b p room reads K P lf) (v : Value) : Six (w.setCell ⟨b, 4, none⟩ v) b p room reads K v lf := heap_setCell_same w b 4 _ _ _ h
theorem Six.set5 (h : Six w b p room reads K P lf) (v : Int) : Six (w.setCell ⟨b, 5, none⟩ (.int .i64 v)) b p room reads K P v := heap_setCell_same w b 5 _ _ _ h
end

theorem sizeRef_any (p : Int) (w : World) : Calls Tryd.prog 12 #[.int .i64 p] w fun e w' => e = .returned (.bool (decide (p = 128 ∨ p = 256 ∨ p = 512 ∨ p = 1024))) ∧ w = w' := by
  by_cases h1 : p = 128
  · subst h1
    go_enter Tryd.func12, Tryd.ntmps12
    go_wp2_with fail
    go_ret
    exact ⟨rfl, rfl⟩
  have e1 : (p == 128) = false := beq_eq_false_iff_ne.2 h1
  by_cases h2 : p = 256
  · subst h2
    go_enter Tryd.func12, Tryd.ntmps12
    go_wp2_with fail
    go_ret
    exact ⟨rfl, rfl⟩
  have e2 : (p == 256) = false := beq_eq_false_iff_ne.2 h2
  by_cases h3 : p = 512
  · subst h3
    go_enter Tryd.func12, Tryd.ntmps12
    go_wp2_with fail
    go_ret
    exact ⟨rfl, rfl⟩
  have e3 : (p == 512) = false := beq_eq_false_iff_ne.2 h3
  by_cases h4 : p = 1024
  · subst h4
    go_enter Tryd.func12, Tryd.ntmps12
    go_wp2_with fail
    go_ret
    exact ⟨rfl, rfl⟩
  have e4 : (p == 1024) = false := beq_eq_false_iff_ne.2 h4
  have hv : decide (p = 128 ∨ p = 256 ∨ p = 512 ∨ p = 1024) = false := by simp [h1, h2, h3, h4]
  rw [hv]
  clear h1 h2 h3 h4 hv
  go_enter Tryd.func12, Tryd.ntmps12
  go_wp2_with fail
  go_ret
  exact ⟨rfl, rfl⟩

/-- How long a slice is. -/
def sliceLen : Value → Nat
  | .slice _ n _ => n
  | _ => 0
theorem own_some {w : World} {base e size n : Nat} {v : Value} {xs : List Value} (h : w.ownsRow base e size v n xs) (hv : v ≠ .slice none 0 0) : ∃ g cap, v = .slice (some ⟨g, 0, none⟩) n cap ∧ n ≤ cap := by
  rcases h.2 with ⟨h1, _⟩ | ⟨g, cap, cur, rfl, _, _, hc, _⟩
  · exact absurd h1 hv
  · exact ⟨g, cap, rfl, hc⟩
theorem dpair_cells {w : World} {b : Nat} {x y : Value} {t : TypeId} (h : w.heap[b]? = some (.cells #[x, y] t (0, 0))) : w.cell? ⟨b, 0, none⟩ = some x ∧ w.cell? ⟨b, 1, none⟩ = some y := by
  refine ⟨?_, ?_⟩ <;> simp [World.cell?, h]

/-- Calls of the document's Repeat that make a page of bytes 0. -/
theorem zero_any (p : Nat) (w : World) (hp : p ≤ 1024) : Calls Tryd.prog 33 #[.int .u8 0, .int .i64 p] w fun e w' => e = .returned (.string (DP.zero p)) ∧ Below w.heap.size w w' := refRepeat_any 0 p w (by omega)

set_option maxHeartbeats 1000000 in
set_option maxRecDepth 100000 in
theorem put_some (a : Addr) (l : List ByteArray) (ca p i : Nat) (s : ByteArray) (w : World) (ha : Lies w w.heap.size (some a) l) (hl : l.length ≤ 5000) (hp : p ≤ 1024) (hi : i ≤ 5000) :
    Calls Tryd.prog 41 #[.slice (some a) l.length ca, .int .i64 p, .agg #[.int .i64 i, .string s]] w fun e w' => ∃ g cap, e = .returned (.slice (some ⟨g, 0, none⟩) (DP.put (DP.zero p) l ⟨i, s⟩).length cap) ∧ w'.ownsRow w.heap.size 9 1 (.slice (some ⟨g, 0, none⟩) (DP.put (DP.zero p) l ⟨i, s⟩).length cap) (DP.put (DP.zero p) l ⟨i, s⟩).length (strCells (DP.put (DP.zero p) l ⟨i, s⟩)) ∧ Below w.heap.size w w' := by
  obtain ⟨i0, hi0, hz0, hz1, hz2⟩ := info_parts Tryd.infoStr
  have HA := Lib.hid ha
  have HPL := Lib.hid (DP.put_length (DP.zero p) l ⟨i, s⟩)
  have HPUT : Hid (DP.put (DP.zero p) l ⟨i, s⟩ = (DP.fill (DP.zero p) l (i + 1)).set i s) := Lib.hid rfl
  have HFL := Lib.hid (fun m => DP.fill_length (DP.zero p) l m)
  have HFE := Lib.hid (fun m => DP.fill_enough (DP.zero p) l m)
  have HFS : Hid (∀ m, l.length ≤ m → DP.fill (DP.zero p) l (m + 1) = DP.fill (DP.zero p) l m ++ [DP.zero p]) := Lib.hid (fun m h => by
    unfold DP.fill
    rw [show m + 1 - l.length = (m - l.length) + 1 by omega, List.replicate_succ', List.append_assoc])
  have HREP := Lib.hid (fun W => zero_any p W hp)
  have HBOX := Lib.hid (heap_alloc_new w (.cells #[.int .i64 (i : Int), .string s] 80))
  generalize DP.put (DP.zero p) l ⟨i, s⟩ = out at *
  generalize DP.zero p = z at *
  obtain ⟨n, hn⟩ : ∃ n, n = l.length := ⟨_, rfl⟩
  have HN := Lib.hid hn
  have HNW : Hid (∀ W, Below w.heap.size w W → ∀ j u, (strCells l)[j]? = some u → W.cell? (a.add j) = some u) := Lib.hid (fun W hW => lies_news (HA.out.on hW))
  have hsc : Hid ((strCells l).length = n) := Lib.hid (by rw [strCells_length, hn])
  rw [← hn]
  rw [← hn] at hl
  clear ha hn
  go_enter Tryd.func41, Tryd.ntmps41
  go_wp2_with (at_builtin; refine wpList_append_own _ rfl _ _ 39 rfl (w.heap.size + 1) 9 i0 (.string ⟨#[]⟩) 1 16 Tryd.underlying39 hi0 hz0 hz1 hz2 rfl (by decide) (.slice (some ⟨w.heap.size + 1, 0, none⟩) 0 0) 0 [] rfl (by have h := own_empty (w.alloc (.cells #[.int .i64 (i : Int), .string s] 80)) 9 1; simpa using h) a n ca (strCells l) rfl (by rw [hsc.out]; omega) (HNW.out _ ((below_alloc w _).trans' (below_alloc _ _))) (strs_one l) (by unfold maxLen; omega) (by omega) (by simp) ?_; intro v1 w1 hown1 hgrow1 hnil1)
  rw [Nat.zero_add, List.nil_append] at hown1
  obtain ⟨g1, cap1, rfl, hcap1⟩ := own_some hown1 (fun e => by have := hnil1.1 e; simp at this)
  have hb1 : Below (w.heap.size + 1) (w.alloc (.cells #[.int .i64 (i : Int), .string s] 80)) w1 := by
    have h2 : (w.alloc (.cells #[.int .i64 (i : Int), .string s] 80)).heap.size = w.heap.size + 1 := by simp
    have h1 := below_alloc (w.alloc (.cells #[.int .i64 (i : Int), .string s] 80)) (.cells #[] 9)
    rw [h2] at h1
    refine h1.trans ?_
    have h3 := own_empty (w.alloc (.cells #[.int .i64 (i : Int), .string s] 80)) 9 1
    rw [h2] at h3
    exact own_apart h3 hgrow1 (Nat.le_refl _) (by simp)
  have HO1 : Hid (w1.ownsRow (w.heap.size + 1) 9 1 (.slice (some ⟨g1, 0, none⟩) n cap1) n (strCells (DP.fill z l n))) := Lib.hid (by rw [HFE.out n (by have := HN.out; omega)]; exact hown1)
  clear hgrow1 hnil1 hown1
  generalize hw0 : w.alloc (.cells #[.int .i64 (i : Int), .string s] 80) = w0 at *
  have HW0 : Hid (Below w.heap.size w w0) := Lib.hid (by rw [← hw0]; exact below_alloc _ _)
  have HSZ0 : Hid (w0.heap.size = w.heap.size + 1) := Lib.hid (by rw [← hw0]; simp)
  clear hw0
  go_loopw [7] (fun ov wr => ∃ (m g cap : Nat), n ≤ m ∧ m ≤ max n (i + 1) ∧ ov = .slice (some ⟨g, 0, none⟩) m cap ∧ m ≤ cap ∧ Hid (wr.ownsRow (w.heap.size + 1) 9 1 (.slice (some ⟨g, 0, none⟩) m cap) m (strCells (DP.fill z l m))) ∧ Hid (Below (w.heap.size + 1) w0 wr)) (fun ov _ => i + 1 - sliceLen ov)
  case atStart => exact ⟨n, g1, cap1, Nat.le_refl _, by omega, rfl, hcap1, HO1, Lib.hid hb1⟩
  case round =>
    obtain ⟨m, g, cap, hnm, hmx, rfl, hcap, HO, HB⟩ := hrel
    have hbx : wr.heap[w.heap.size]? = some (.cells #[.int .i64 (i : Int), .string s] 80 (0, 0)) := (HB.out.block _ (by omega)).trans HBOX.out
    obtain ⟨x0, x1⟩ := dpair_cells hbx
    have hbs := HB.out.size
    have hsz0 := HSZ0.out
    clear hbx
    by_cases hle : m ≤ i
    · have d1 : decide ((m : Int) ≤ i) = true := by simp; omega
      have HF := Lib.hid (HFS.out m (by have := HN.out; omega))
      have hwr : w.heap.size + 1 ≤ wr.heap.size := by omega
      clear hsz0 hbs
      go_wp2_with fail
      refine (HREP.out _).mono ?_
      rintro e w2 ⟨rfl, hb2⟩
      have HO2 := Lib.hid (own_below HO.out hb2)
      have hb3 : Below (w.heap.size + 1) w0 w2 := HB.out.trans (hb2.mono hwr)
      have hw2 : w.heap.size + 1 ≤ w2.heap.size := Nat.le_trans hwr hb2.size
      clear hb2 x0 x1
      go_wp2_with (at_builtin; refine wpList_append_lies _ rfl _ _ 39 rfl (w.heap.size + 1) 9 i0 (.string ⟨#[]⟩) 1 16 Tryd.underlying39 hi0 hz0 hz1 hz2 rfl (by decide) (.slice (some ⟨g, 0, none⟩) m cap) m _ rfl (HO2.out.alloc _) ⟨w2.heap.size, 0, none⟩ 1 1 [.string z] rfl rfl (World.news_of_block (cs := #[.string z]) (t := 9) (fr := (0, 0)) (heap_alloc_new w2 _)) (str_one _) (by omega) (by unfold maxLen; omega) (by omega) (by simp; omega) (w2.heap.size + 1) (by simp) ?_; intro g' cap' w3 hown3 hgrow3 hat3 hlt3)
      have hb4 : Below (w.heap.size + 1) w0 w3 := (hb3.trans ((Below.refl _ w2).alloc hw2 (.cells #[.string z] 9))).trans (own_apart (HO2.out.alloc _) hgrow3 (Nat.le_refl _) (by simp; omega))
      have hcap' := own_cap hown3
      clear hat3 hlt3 hgrow3
      go_roundw
      case rel => exact ⟨m + 1, g', cap', by omega, by omega, rfl, hcap', Lib.hid (by rw [HF.out, strCells_snoc]; exact hown3), Lib.hid hb4⟩
      case measure => show i + 1 - (m + 1) < i + 1 - m; omega
    · have d1 : decide ((m : Int) ≤ i) = false := by simp; omega
      have him : i < m := by omega
      have hmn : Hid (m = out.length) := Lib.hid (by have h1 : out.length = max l.length (i + 1) := HPL.out; have := HN.out; omega)
      have hlen : Hid (DP.fill z l m = DP.fill z l (i + 1)) := Lib.hid (by
        by_cases e : n = m
        · rw [HFE.out m (by have := HN.out; omega), HFE.out (i + 1) (by have := HN.out; omega)]
        · rw [show m = i + 1 by omega])
      have hcell : wr.cell? ⟨g, i, none⟩ = (strCells (DP.fill z l m))[i]? := HO.out.cellAt i (by omega)
      have hget : ∃ v, (strCells (DP.fill z l m))[i]? = some (.string v) := by
        have h1 := HFL.out m
        refine ⟨(DP.fill z l m)[i]'(by omega), ?_⟩
        rw [strCells, List.getElem?_map, List.getElem?_eq_getElem (by omega)]
        rfl
      obtain ⟨v, hv⟩ := hget
      rw [hv] at hcell
      have hfr := HO.out.frozenAt i
      have hgl := (HO.out.lt g rfl).1
      have hi0' : (0 : Int) ≤ i := by omega
      have him' : (i : Int) < m := by omega
      have HST := Lib.hid (HO.out.stored i (.string s)).1
      have HOUT : Hid (strCells out = (strCells (DP.fill z l m)).set i (.string s)) := Lib.hid (by rw [HPUT.out, hlen.out, strCells, strCells, List.map_set])
      clear hv hsz0 hbs
      go_wp2_with fail
      go_ret
      refine ⟨g, cap, by rw [← hmn.out]; try rfl, ?_, HW0.out.trans ((HB.out.setCell hgl _).mono (by omega))⟩
      rw [← hmn.out, HOUT.out]
      exact ⟨HST.out.1, by rcases HST.out.2 with ⟨h, _⟩ | ⟨g', c, cu, h1, h2, h3⟩; exact .inl (by cases h); exact .inr ⟨g', c, cu, h1, by omega, h3⟩⟩
set_option maxHeartbeats 1000000 in
set_option maxRecDepth 100000 in
theorem put_none (p i : Nat) (s : ByteArray) (w : World) (hp : p ≤ 1024) (hi : i ≤ 5000) :
    Calls Tryd.prog 41 #[.slice none 0 0, .int .i64 p, .agg #[.int .i64 i, .string s]] w fun e w' => ∃ g cap, e = .returned (.slice (some ⟨g, 0, none⟩) (DP.put (DP.zero p) [] ⟨i, s⟩).length cap) ∧ w'.ownsRow w.heap.size 9 1 (.slice (some ⟨g, 0, none⟩) (DP.put (DP.zero p) [] ⟨i, s⟩).length cap) (DP.put (DP.zero p) [] ⟨i, s⟩).length (strCells (DP.put (DP.zero p) [] ⟨i, s⟩)) ∧ Below w.heap.size w w' := by
  obtain ⟨i0, hi0, hz0, hz1, hz2⟩ := info_parts Tryd.infoStr
  have HPL := Lib.hid (DP.put_length (DP.zero p) [] ⟨i, s⟩)
  have HPUT : Hid (DP.put (DP.zero p) [] ⟨i, s⟩ = (DP.fill (DP.zero p) [] (i + 1)).set i s) := Lib.hid rfl
  have HFL := Lib.hid (fun m => DP.fill_length (DP.zero p) [] m)
  have HFE := Lib.hid (fun m => DP.fill_enough (DP.zero p) [] m)
  have HFS : Hid (∀ m, ([] : List ByteArray).length ≤ m → DP.fill (DP.zero p) [] (m + 1) = DP.fill (DP.zero p) [] m ++ [DP.zero p]) := Lib.hid (fun m h => by
    unfold DP.fill
    rw [show m + 1 - ([] : List ByteArray).length = (m - ([] : List ByteArray).length) + 1 by omega, List.replicate_succ', List.append_assoc])
  have HREP := Lib.hid (fun W => zero_any p W hp)
  have HBOX := Lib.hid (heap_alloc_new w (.cells #[.int .i64 (i : Int), .string s] 80))
  generalize DP.put (DP.zero p) [] ⟨i, s⟩ = out at *
  generalize DP.zero p = z at *
  obtain ⟨n, hn⟩ : ∃ n, n = ([] : List ByteArray).length := ⟨_, rfl⟩
  have HN := Lib.hid hn
  have hl : n ≤ 5000 := by rw [hn]; simp
  have hnz : n = 0 := by rw [hn]; rfl
  clear hn
  go_enter Tryd.func41, Tryd.ntmps41
  go_wp2_with (at_builtin; refine wpList_append_own_none _ rfl _ _ 39 rfl (w.heap.size + 1) 9 i0 1 Tryd.underlying39 hi0 (.slice (some ⟨w.heap.size + 1, 0, none⟩) 0 0) 0 [] rfl (by have h := own_empty (w.alloc (.cells #[.int .i64 (i : Int), .string s] 80)) 9 1; simpa using h) rfl ?_)
  have hb1 : Below (w.heap.size + 1) (w.alloc (.cells #[.int .i64 (i : Int), .string s] 80)) ((w.alloc (.cells #[.int .i64 (i : Int), .string s] 80)).alloc (.cells #[] 9)) := by
    have h2 : (w.alloc (.cells #[.int .i64 (i : Int), .string s] 80)).heap.size = w.heap.size + 1 := by simp
    have h1 := below_alloc (w.alloc (.cells #[.int .i64 (i : Int), .string s] 80)) (.cells #[] 9)
    rwa [h2] at h1
  have hown1 : ((w.alloc (.cells #[.int .i64 (i : Int), .string s] 80)).alloc (.cells #[] 9)).ownsRow (w.heap.size + 1) 9 1 (.slice (some ⟨w.heap.size + 1, 0, none⟩) 0 0) 0 [] := by
    have h := own_empty (w.alloc (.cells #[.int .i64 (i : Int), .string s] 80)) 9 1
    simpa using h
  obtain ⟨g1, hg1⟩ : ∃ g1, g1 = w.heap.size + 1 := ⟨_, rfl⟩
  obtain ⟨cap1, hc1⟩ : ∃ cap1, cap1 = 0 := ⟨_, rfl⟩
  have hcap1 : n ≤ cap1 := by omega
  obtain ⟨w1, hw1⟩ : ∃ w1, w1 = (w.alloc (.cells #[.int .i64 (i : Int), .string s] 80)).alloc (.cells #[] 9) := ⟨_, rfl⟩
  rw [← hw1] at hb1 hown1 ⊢
  rw [← hg1] at hown1
  subst hnz
  obtain rfl := hc1
  have HO1 : Hid (w1.ownsRow (w.heap.size + 1) 9 1 (.slice (some ⟨g1, 0, none⟩) 0 0) 0 (strCells (DP.fill z [] 0))) := Lib.hid (by rw [HFE.out 0 (by simp), ← hg1]; exact hown1)
  clear hown1 hw1
  generalize hw0 : w.alloc (.cells #[.int .i64 (i : Int), .string s] 80) = w0 at *
  have HW0 : Hid (Below w.heap.size w w0) := Lib.hid (by rw [← hw0]; exact below_alloc _ _)
  have HSZ0 : Hid (w0.heap.size = w.heap.size + 1) := Lib.hid (by rw [← hw0]; simp)
  clear hw0
  go_loopw [7] (fun ov wr => ∃ (m g cap : Nat), 0 ≤ m ∧ m ≤ max 0 (i + 1) ∧ ov = .slice (some ⟨g, 0, none⟩) m cap ∧ m ≤ cap ∧ Hid (wr.ownsRow (w.heap.size + 1) 9 1 (.slice (some ⟨g, 0, none⟩) m cap) m (strCells (DP.fill z [] m))) ∧ Hid (Below (w.heap.size + 1) w0 wr)) (fun ov _ => i + 1 - sliceLen ov)
  case atStart => exact ⟨0, g1, 0, Nat.le_refl _, by omega, by rw [hg1], Nat.le_refl _, HO1, Lib.hid hb1⟩
  case round =>
    obtain ⟨m, g, cap, hnm, hmx, rfl, hcap, HO, HB⟩ := hrel
    have hbx : wr.heap[w.heap.size]? = some (.cells #[.int .i64 (i : Int), .string s] 80 (0, 0)) := (HB.out.block _ (by omega)).trans HBOX.out
    obtain ⟨x0, x1⟩ := dpair_cells hbx
    have hbs := HB.out.size
    have hsz0 := HSZ0.out
    clear hbx
    by_cases hle : m ≤ i
    · have d1 : decide ((m : Int) ≤ i) = true := by simp; omega
      have HF := Lib.hid (HFS.out m (by have := HN.out; omega))
      have hwr : w.heap.size + 1 ≤ wr.heap.size := by omega
      clear hsz0 hbs
      go_wp2_with fail
      refine (HREP.out _).mono ?_
      rintro e w2 ⟨rfl, hb2⟩
      have HO2 := Lib.hid (own_below HO.out hb2)
      have hb3 : Below (w.heap.size + 1) w0 w2 := HB.out.trans (hb2.mono hwr)
      have hw2 : w.heap.size + 1 ≤ w2.heap.size := Nat.le_trans hwr hb2.size
      clear hb2 x0 x1
      go_wp2_with (at_builtin; refine wpList_append_lies _ rfl _ _ 39 rfl (w.heap.size + 1) 9 i0 (.string ⟨#[]⟩) 1 16 Tryd.underlying39 hi0 hz0 hz1 hz2 rfl (by decide) (.slice (some ⟨g, 0, none⟩) m cap) m _ rfl (HO2.out.alloc _) ⟨w2.heap.size, 0, none⟩ 1 1 [.string z] rfl rfl (World.news_of_block (cs := #[.string z]) (t := 9) (fr := (0, 0)) (heap_alloc_new w2 _)) (str_one _) (by omega) (by unfold maxLen; omega) (by omega) (by simp; omega) (w2.heap.size + 1) (by simp) ?_; intro g' cap' w3 hown3 hgrow3 hat3 hlt3)
      have hb4 : Below (w.heap.size + 1) w0 w3 := (hb3.trans ((Below.refl _ w2).alloc hw2 (.cells #[.string z] 9))).trans (own_apart (HO2.out.alloc _) hgrow3 (Nat.le_refl _) (by simp; omega))
      have hcap' := own_cap hown3
      clear hat3 hlt3 hgrow3
      go_roundw
      case rel => exact ⟨m + 1, g', cap', by omega, by omega, rfl, hcap', Lib.hid (by rw [HF.out, strCells_snoc]; exact hown3), Lib.hid hb4⟩
      case measure => show i + 1 - (m + 1) < i + 1 - m; omega
    · have d1 : decide ((m : Int) ≤ i) = false := by simp; omega
      have him : i < m := by omega
      have hmn : Hid (m = out.length) := Lib.hid (by have h1 : out.length = max ([] : List ByteArray).length (i + 1) := HPL.out; have := HN.out; omega)
      have hlen : Hid (DP.fill z [] m = DP.fill z [] (i + 1)) := Lib.hid (by
        by_cases e : 0 = m
        · rw [HFE.out m (by have := HN.out; omega), HFE.out (i + 1) (by have := HN.out; omega)]
        · rw [show m = i + 1 by omega])
      have hcell : wr.cell? ⟨g, i, none⟩ = (strCells (DP.fill z [] m))[i]? := HO.out.cellAt i (by omega)
      have hget : ∃ v, (strCells (DP.fill z [] m))[i]? = some (.string v) := by
        have h1 := HFL.out m
        refine ⟨(DP.fill z [] m)[i]'(by omega), ?_⟩
        rw [strCells, List.getElem?_map, List.getElem?_eq_getElem (by omega)]
        rfl
      obtain ⟨v, hv⟩ := hget
      rw [hv] at hcell
      have hfr := HO.out.frozenAt i
      have hgl := (HO.out.lt g rfl).1
      have hi0' : (0 : Int) ≤ i := by omega
      have him' : (i : Int) < m := by omega
      have HST := Lib.hid (HO.out.stored i (.string s)).1
      have HOUT : Hid (strCells out = (strCells (DP.fill z [] m)).set i (.string s)) := Lib.hid (by rw [HPUT.out, hlen.out, strCells, strCells, List.map_set])
      clear hv hsz0 hbs
      go_wp2_with fail
      go_ret
      refine ⟨g, cap, by rw [← hmn.out]; try rfl, ?_, HW0.out.trans ((HB.out.setCell hgl _).mono (by omega))⟩
      rw [← hmn.out, HOUT.out]
      exact ⟨HST.out.1, by rcases HST.out.2 with ⟨h, _⟩ | ⟨g', c, cu, h1, h2, h3⟩; exact .inl (by cases h); exact .inr ⟨g', c, cu, h1, by omega, h3⟩⟩
end Go.Proofs.YtaeiifmdbdhoeaaDoor
