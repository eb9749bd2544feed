/-
  Walks of key.joined, key.Put.
-/
import Derived.Test.YtdcijbclafpkmaaDoorKRow
import Derived.Test.YtdcijbclafpkmaaDoorKBuild
import Derived.Test.YtdcijbclafpkmaaDoorCFixed
namespace Go.Proofs.YtdcijbclafpkmaaDoor
open Go.RowKit
set_option linter.unusedVariables false
set_option linter.unusedSimpArgs false

/-- The numbers are of their kinds, the text isn't long. -/
def QOk (l : List QC) : Prop := ∀ c ∈ l, CP.Ok c.col ∧ c.s.size ≤ 1000
theorem QOk.nil : QOk [] := fun c h => by simp at h
theorem QOk.at_ {l : List QC} (h : QOk l) {i : Nat} {c : QC} (hc : l[i]? = some c) : CP.Ok c.col ∧ c.s.size ≤ 1000 := h c (List.mem_of_getElem? hc)
theorem QOk.take {l : List QC} (h : QOk l) (k : Nat) : QOk (l.take k) := fun d hd => h d (List.mem_of_mem_take hd)
theorem QOk.append {l m : List QC} (h : QOk l) (k : QOk m) : QOk (l ++ m) := fun d hd => by
  rcases List.mem_append.1 hd with e | e
  · exact h d e
  · exact k d e
/-- All may be. -/
def allRt (l : List QC) : Bool := l.all fun c => rt c.k c.i c.u c.s
theorem rt_iff (c : QC) : rt c.k c.i c.u c.s = true ↔ CP.Right c.col := by unfold rt; exact decide_eq_true_iff
theorem allRt_all {l : List QC} (h : allRt l = true) (ho : QOk l) : KP.All (cols l) := fun c hc => by
  obtain ⟨d, hd, rfl⟩ := List.mem_map.1 hc
  exact ⟨(ho d hd).1, (rt_iff d).1 (List.all_eq_true.1 h d hd)⟩
theorem allRt_take (l : List QC) (k : Nat) (h : allRt l = true) : allRt (l.take k) = true :=
  List.all_eq_true.2 fun c hc => List.all_eq_true.1 h c (List.mem_of_mem_take hc)
theorem allRt_of {l : List QC} (h : KP.All (cols l)) : allRt l = true :=
  List.all_eq_true.2 fun c hc => (rt_iff c).2 (h c.col (List.mem_map.2 ⟨c, hc, rfl⟩)).2
theorem allRt_append (l m : List QC) : allRt (l ++ m) = (allRt l && allRt m) := by simp [allRt]
theorem allRt_succ (l : List QC) (k : Nat) (c : QC) (hc : l[k]? = some c) : allRt (l.take (k + 1)) = (allRt (l.take k) && rt c.k c.i c.u c.s) := by
  have h : l.take (k + 1) = l.take k ++ [c] := by rw [List.take_add_one, hc]; rfl
  rw [h, allRt_append]
  simp [allRt]
theorem body_succ (l : List QC) (k : Nat) (c : QC) (hc : l[k]? = some c) : KP.body (cols (l.take (k + 1))) = KP.body (cols (l.take k)) ++ CP.put c.col := by
  have h : l.take (k + 1) = l.take k ++ [c] := by rw [List.take_add_one, hc]; rfl
  rw [h, cols_append]
  exact KP.body_snoc _ _
theorem not_all {l : List QC} {k : Nat} {c : QC} (hc : l[k]? = some c) (h : rt c.k c.i c.u c.s = false) : allRt l = false := by
  cases hl : allRt l with
  | false => rfl
  | true => rw [List.all_eq_true.1 hl c (List.mem_of_getElem? hc)] at h; cases h
theorem body_size (l : List QC) (ho : QOk l) (h : allRt l = true) : (KP.body (cols l)).length ≤ 2010 * l.length := by
  have := KP.body_le (cols l) (allRt_all h ho) (fun c hc => by
    obtain ⟨d, hd, rfl⟩ := List.mem_map.1 hc
    have := (ho d hd).2
    simpa [QC.col] using this)
  rwa [cols_length] at this

/-- What key.joined answers. -/
def joinV (l : List QC) : Value := .tuple (if allRt l = true then #[.string ⟨(KP.body (cols l)).toArray⟩, .int .i64 0] else #[.string ⟨#[]⟩, .int .i64 3])
/-- What key.Put answers. -/
def keyV (l : List QC) : Value := .tuple (if allRt l = true then #[.string ⟨(KP.key (cols l)).toArray⟩, .int .i64 0] else #[.string ⟨#[]⟩, .int .i64 3])

theorem strCells_bytes (s : ByteArray) : Lib.strCells s = Lib.byteCells s.data.toList := rfl

set_option maxHeartbeats 2000000 in
set_option maxRecDepth 100000 in
theorem joined_any (A : Option Addr) (l : List QC) (ca : Nat) (w : World) (M : MaxIs w) (ha : Lies w w.heap.size A l) (ho : QOk l) (hl : l.length ≤ 1000) :
    Calls Tryd.prog 23 #[.slice A l.length ca] w fun e w' => e = .returned (joinV l) ∧ Below w.heap.size w w' := by
  have HA := Lib.hid ha
  have HO := Lib.hid ho
  obtain ⟨r, HR⟩ : ∃ r, Hid (r = joinV l) := ⟨_, Lib.hid rfl⟩
  rw [← HR.out]
  obtain ⟨n, hn⟩ : ∃ n, n = l.length := ⟨_, rfl⟩
  have HN := Lib.hid hn
  rw [← hn]
  rw [← hn] at hl
  clear ha ho hn
  have HB0 := Lib.hid (Lib.fresh_isBuilder 74 5 w)
  go_enter Tryd.func23, Tryd.ntmps23
  go_wp2_with fail
  go_loopw [11] (fun iv wr => ∃ k : Nat, k ≤ n ∧ iv = .int .i64 k ∧ allRt (l.take k) = true ∧ Hid (Lib.IsBuilder 74 5 w.heap.size w.heap.size (Lib.byteCells (KP.body (cols (l.take k)))) wr) ∧ Below w.heap.size w wr) (fun iv _ => n - (intOf iv).toNat)
  case atStart =>
    exact ⟨0, by omega, rfl, rfl, HB0, below_alloc _ _⟩
  case round =>
    obtain ⟨k, hk, rfl, hrt, HB, hbw⟩ := hrel
    have HRT := Lib.hid hrt
    clear hrt
    by_cases hlt : k < n
    · obtain ⟨⟨K, I, U, S⟩, hc⟩ : ∃ c, l[k]? = some c := ⟨_, List.getElem?_eq_getElem (by have := HN.out; omega)⟩
      obtain ⟨a, rfl, hab, x0, x1, x2, x3⟩ := (HA.out.below hbw).load hc
      have HC := Lib.hid hc
      obtain ⟨hok, hsz⟩ := HO.out.at_ hc
      have HP := Lib.hid (fun W (HW : MaxIs W) => colPut_any K I U S W hok hsz HW)
      have HBS := Lib.hid (body_size (l.take k) (HO.out.take k) HRT.out)
      have HPL : Hid (rt K I U S = true → (CP.put ⟨K, I, U, S.data.toList⟩).length ≤ 2010) := Lib.hid (fun h => by
        have h1 : (CP.put ⟨K, I, U, S.data.toList⟩).length ≤ 10 + 2 * S.data.toList.length := CP.put_le hok ((rt_iff ⟨K, I, U, S⟩).1 h)
        have h2 : S.data.toList.length = S.size := by simp
        have h3 : S.size ≤ 1000 := hsz
        rw [h2] at h1
        omega)
      have hbs := hbw.size
      clear hc hab hok hsz
      go_wp2_with fail
      refine (HP.out _ ((M.below hbw).alloc _)).mono ?_
      rintro e w2 ⟨rfl, hb2⟩
      have HB2 := Lib.hid (isBuilder_below (isBuilder_below HB.out (below_alloc _ _)) hb2)
      have hb3 : Below w.heap.size w w2 := (hbw.trans' (below_alloc _ _)).trans' hb2
      cases hr : rt K I U S with
      | false =>
        have HV : Hid (r = .tuple #[.string ⟨#[]⟩, .int .i64 3]) := Lib.hid (by rw [HR.out, joinV, if_neg (by rw [not_all HC.out hr]; decide)])
        unfold putV
        rw [if_neg (by rw [hr]; decide)]
        go_wp2_with fail
        go_ret2
        exact ⟨by rw [HV.out]; rfl, hb3⟩
      | true =>
        have HS : Hid (CP.put ⟨K, I, U, S.data.toList⟩ = CP.put (QC.col ⟨K, I, U, S⟩)) := Lib.hid rfl
        unfold putV
        rw [if_pos hr]
        obtain ⟨X, hX⟩ : ∃ X : ByteArray, X = ⟨(CP.put ⟨K, I, U, S.data.toList⟩).toArray⟩ := ⟨_, rfl⟩
        have HX := Lib.hid hX
        rw [← hX]
        clear hX
        go_wp2_with fail
        have HW : Hid ((Lib.byteCells (KP.body (cols (l.take k)))).length + X.size ≤ 140737488355328) := Lib.hid (by
          have h1 := HBS.out
          have h2 : X.size ≤ 2010 := by rw [HX.out]; show (CP.put ⟨K, I, U, S.data.toList⟩).toArray.size ≤ 2010; have := HPL.out; simpa using this hr
          have h3 : (l.take k).length ≤ k := by simp; omega
          rw [Lib.byteCells_length]
          omega)
        refine (writeString_any w.heap.size w.heap.size _ X w2 HB2.out HW.out hb3.size).mono ?_
        rintro e w3 ⟨rfl, HB3, hb4⟩
        have HB4 : Hid (Lib.IsBuilder 74 5 w.heap.size w.heap.size (Lib.byteCells (KP.body (cols (l.take (k + 1))))) w3) := Lib.hid (by
          rw [body_succ l k _ HC.out, Lib.byteCells_append]
          rw [strCells_bytes, HX.out] at HB3
          exact HB3)
        have HRT2 : Hid (allRt (l.take (k + 1)) = true) := Lib.hid (by rw [allRt_succ l k _ HC.out, HRT.out]; exact hr)
        clear HB3
        go_wp2_with fail
        go_roundw
        case rel => exact ⟨k + 1, by omega, by simp, HRT2.out, HB4, hb3.trans hb4⟩
        case measure => simp [intOf]; omega
    · have hkn : k = n := by omega
      subst hkn
      have hll : l.take k = l := List.take_of_length_le (by have := HN.out; omega)
      rw [hll] at HRT HB
      have HV : Hid (r = .tuple #[.string ⟨(KP.body (cols l)).toArray⟩, .int .i64 0]) := Lib.hid (by rw [HR.out, joinV, if_pos HRT.out])
      have HT := Lib.hid (Tryd.Builder_String_any w.heap.size w.heap.size (KP.body (cols l)) wr HB.out hbw.size)
      obtain ⟨X, hX⟩ : ∃ X : ByteArray, X = ⟨(KP.body (cols l)).toArray⟩ := ⟨_, rfl⟩
      rw [← hX] at HV HT
      clear hll hX HB
      go_wp2_with fail
      refine HT.out.mono ?_
      rintro e w3 ⟨rfl, hb4⟩
      go_wp2_with fail
      go_ret2
      exact ⟨by rw [HV.out]; rfl, hbw.trans hb4⟩

set_option maxHeartbeats 1000000 in
theorem keyPut_any (A : Option Addr) (l : List QC) (ca : Nat) (w : World) (M : MaxIs w) (ha : Lies w w.heap.size A l) (ho : QOk l) (hl : l.length ≤ 1000) :
    Calls Tryd.prog 10 #[.slice A l.length ca] w fun e w' => e = .returned (keyV l) ∧ Below w.heap.size w w' := by
  have HJ := Lib.hid (joined_any A l ca w M ha ho hl)
  cases hr : allRt l with
  | false =>
    unfold joinV at HJ
    unfold keyV
    rw [if_neg (by rw [hr]; decide)] at HJ ⊢
    clear ha ho
    generalize l.length = n at *
    go_enter Tryd.func10, Tryd.ntmps10
    go_wp2_with fail
    refine HJ.out.mono ?_
    rintro e w1 ⟨rfl, hb1⟩
    go_wp2_with fail
    go_ret2
    exact ⟨rfl, hb1⟩
  | true =>
    have HS := Lib.hid (body_size l ho hr)
    have hk : (⟨(KP.key (cols l)).toArray⟩ : ByteArray) = (⟨(KP.body (cols l)).toArray⟩ : ByteArray) ++ ⟨#[1]⟩ := bytes_of_list (by simp [KP.key])
    unfold joinV at HJ
    unfold keyV
    rw [if_pos hr] at HJ ⊢
    rw [hk]
    obtain ⟨X, hX⟩ : ∃ X : ByteArray, X = ⟨(KP.body (cols l)).toArray⟩ := ⟨_, rfl⟩
    have hsz : X.size ≤ 2010000 := by rw [hX]; have := HS.out; show (KP.body (cols l)).toArray.size ≤ _; simp; omega
    rw [← hX] at HJ ⊢
    have hone : (⟨#[1]⟩ : ByteArray).size = 1 := rfl
    have hno : ¬ 9223372036854775807 < X.size + (⟨#[1]⟩ : ByteArray).size := by rw [hone]; omega
    clear ha ho hX hr hk HS
    generalize l.length = n at *
    go_enter Tryd.func10, Tryd.ntmps10
    go_wp2_with fail
    refine HJ.out.mono ?_
    rintro e w1 ⟨rfl, hb1⟩
    go_wp2_with fail
    go_ret2
    exact ⟨rfl, hb1⟩
end Go.Proofs.YtdcijbclafpkmaaDoor
