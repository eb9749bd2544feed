/-
  The document's PutValue and PutKid.
-/
import Derived.Test.YtppnchjmbeinkaaVDoc
namespace Go.Proofs.Ytppnchjmbeinkaa
open Go.RowKit
set_option linter.unusedVariables false
set_option linter.unusedSimpArgs false

/-- What PutValue and PutKid answer. -/
def cellS (t : ByteArray) (v : VP.V) : ByteArray := ⟨(VP.cellV t.data.toList v).toArray⟩
def putVV (t : ByteArray) (v : VP.V) : Value := if VP.OkV t.data.toList v then .tuple #[.string (cellS t v), .int .i64 0] else .tuple #[.string ⟨#[]⟩, .int .i64 3]
def kidS (k : Nat) (t : ByteArray) : ByteArray := ⟨(VP.cellK k t.data.toList).toArray⟩
def putKV (k : Int) (t : ByteArray) : Value := if VP.OkK k t.data.toList then .tuple #[.string (kidS k.toNat t), .int .i64 0] else .tuple #[.string ⟨#[]⟩, .int .i64 3]
theorem bytes_size (l : List UInt8) : (⟨l.toArray⟩ : ByteArray).size = l.length := by simp [ByteArray.size]
theorem wput_size (n : Nat) (h : n ≤ 18446744073709551615) : (⟨(WP.put n).toArray⟩ : ByteArray).size ≤ 9 := by
  obtain ⟨_, _, _, _, _, h1⟩ := WP.put_form n h
  have := WP.size_bd n
  rw [bytes_size]
  omega
theorem four_size (n : Nat) : (⟨(Lib.leBytes 4 n).toArray⟩ : ByteArray).size = 4 := by rw [bytes_size, Lib.leBytes_length]
def textS (t : ByteArray) : ByteArray := ⟨(VP.text t.data.toList).toArray⟩
theorem textS_eq (t : ByteArray) (n : Nat) (h : t.size = n) : (⟨(WP.put n).toArray⟩ : ByteArray) ++ t = textS t := by
  subst h
  apply ByteArray.ext
  simp [textS, VP.text]
theorem cellS_over (t : ByteArray) (S : ByteArray) (l p : Nat) : textS t ++ ⟨#[1]⟩ ++ ⟨(WP.put l).toArray⟩ ++ ⟨(Lib.leBytes 4 p).toArray⟩ = cellS t (pv true S l p) := by
  apply ByteArray.ext
  simp [textS, cellS, VP.cellV, VP.tail, pv]
theorem cellS_text (t : ByteArray) (S : ByteArray) (L P : Int) (n : Nat) (h : S.size = n) : textS t ++ ⟨#[0]⟩ ++ ⟨(WP.put n).toArray⟩ ++ S = cellS t (pv false S L P) := by
  subst h
  apply ByteArray.ext
  simp [textS, cellS, VP.cellV, VP.tail, pv, VP.text]
theorem textS_size (t : ByteArray) (h : t.size ≤ 1000000) : (textS t).size ≤ 9 + t.size := by
  have h1 := textS_eq t _ rfl
  have h2 := wput_size t.size (by omega)
  rw [← h1, ByteArray.size_append]
  omega
theorem vbox_keep (t : TypeId) (g : Nat) (O : Bool) (S : ByteArray) (L P : Int) : Hid (∀ W W' : World, Below W.heap.size W W' → (Hid (Bx t g O S L P W) ∧ W.cell? ⟨g, 0, none⟩ = some (.bool O) ∧ W.cell? ⟨g, 1, none⟩ = some (.string S) ∧ W.cell? ⟨g, 2, none⟩ = some (.int .i64 L) ∧ W.cell? ⟨g, 3, none⟩ = some (.int .i64 P)) → Hid (Bx t g O S L P W') ∧ W'.cell? ⟨g, 0, none⟩ = some (.bool O) ∧ W'.cell? ⟨g, 1, none⟩ = some (.string S) ∧ W'.cell? ⟨g, 2, none⟩ = some (.int .i64 L) ∧ W'.cell? ⟨g, 3, none⟩ = some (.int .i64 P)) :=
  Lib.hid fun W W' hb h => HasBx.below (t := t) (g := g) (O := O) (S := S) (L := L) (P := P) h hb

set_option maxHeartbeats 1000000 in
set_option maxRecDepth 100000 in
theorem rputv_any (t : ByteArray) (O : Bool) (S : ByteArray) (L P : Int) (w : World) (ht : t.size ≤ 1000000) (hs : S.size ≤ 1000000) :
    Calls Try.prog 11 #[.string t, vv O S L P] w fun e w' => e = .returned (putVV t (pv O S L P)) ∧ Below w.heap.size w w' := by
  have hb0 := below_alloc w (.cells #[.bool O, .string S, .int .i64 L, .int .i64 P] 31)
  by_cases h1 : 128 < t.size
  · have e : putVV t (pv O S L P) = .tuple #[.string ⟨#[]⟩, .int .i64 3] := if_neg (fun h => by have := h.1; simp only [Array.length_toList, ByteArray.size_data] at this; omega)
    rw [e]
    have d1 : decide (128 < t.size) = true := decide_eq_true h1
    have d2 : decide ((128 : Int) < t.size) = true := decide_eq_true (by omega)
    go_enter Try.func11, Try.ntmps11
    go_wp2_with fail
    go_ret2
    exact ⟨rfl, hb0⟩
  have d1 : decide (128 < t.size) = false := decide_eq_false h1
  have d2 : decide ((128 : Int) < t.size) = false := decide_eq_false (by omega)
  have HR := Lib.hid (fun W => rright_any O S L P W)
  by_cases h2 : VP.Right (pv O S L P)
  · have e : putVV t (pv O S L P) = .tuple #[.string (cellS t (pv O S L P)), .int .i64 0] := if_pos ⟨by simp only [Array.length_toList, ByteArray.size_data]; omega, h2⟩
    rw [decide_eq_true h2] at HR
    rw [e]
    clear e
    have HT := Lib.hid (textS_eq t t.size rfl)
    have hts := textS_size t ht
    have HPT := Lib.hid (fun W => rput_any (t.size : Int) W (by omega) (by omega))
    have hDs := wput_size t.size (by omega)
    rw [Int.toNat_natCast] at HPT
    obtain ⟨D, hD⟩ : ∃ D : ByteArray, ⟨(WP.put t.size).toArray⟩ = D := ⟨_, rfl⟩
    rw [hD] at HT HPT hDs
    have a1 : IntKind.u64.wrap (t.size : Int) = t.size := Int.emod_eq_of_lt (by omega) (by show (t.size : Int) < 18446744073709551616; omega)
    have b1 : ¬ 9223372036854775807 < D.size + t.size := by omega
    have HK0 := Lib.hid (Bx.new 31 O S L P w)
    have HKeep := vbox_keep 31 w.heap.size O S L P
    clear hD
    cases O with
    | true =>
      obtain ⟨hS, hL1, hL2, hP1, hP2⟩ := (right_over S L P).1 h2
      obtain ⟨l, rfl⟩ := Int.eq_ofNat_of_zero_le (show 0 ≤ L by omega)
      obtain ⟨p, rfl⟩ := Int.eq_ofNat_of_zero_le (show 0 ≤ P by omega)
      have HPL := Lib.hid (fun W => rput_any (l : Int) W (by omega) (by omega))
      have HPF := Lib.hid (fun W => rfour_any (p : Int) W (by omega) (by omega))
      have hEs := wput_size l (by omega)
      have hGs := four_size p
      rw [Int.toNat_natCast] at HPL HPF
      have HC := cellS_over t S l p
      obtain ⟨E, hE⟩ : ∃ E : ByteArray, ⟨(WP.put l).toArray⟩ = E := ⟨_, rfl⟩
      obtain ⟨G, hG⟩ : ∃ G : ByteArray, ⟨(Lib.leBytes 4 p).toArray⟩ = G := ⟨_, rfl⟩
      rw [hE] at HPL hEs HC
      rw [hG] at HPF hGs HC
      rw [← HC]
      have HTE := HT.out
      generalize textS t = X at *
      have a2 : IntKind.u64.wrap (l : Int) = l := Int.emod_eq_of_lt (by omega) (by show (l : Int) < 18446744073709551616; omega)
      have a3 : IntKind.u32.wrap (p : Int) = p := Int.emod_eq_of_lt (by omega) (by show (p : Int) < 4294967296; omega)
      have o1 : (⟨#[1]⟩ : ByteArray).size = 1 := rfl
      have z1 : (X ++ (⟨#[1]⟩ : ByteArray)).size = X.size + 1 := by rw [ByteArray.size_append]; rfl
      obtain ⟨Y, hY⟩ : ∃ Y, X ++ (⟨#[1]⟩ : ByteArray) = Y := ⟨_, rfl⟩
      rw [hY] at z1 ⊢
      have z2 : (Y ++ E).size = Y.size + E.size := ByteArray.size_append
      obtain ⟨Z, hZ⟩ : ∃ Z, Y ++ E = Z := ⟨_, rfl⟩
      rw [hZ] at z2 ⊢
      have b2 : ¬ 9223372036854775807 < X.size + (⟨#[1]⟩ : ByteArray).size := by omega
      have b2' : ¬ 9223372036854775807 < X.size + 1 := by omega
      have b3 : ¬ 9223372036854775807 < Y.size + E.size := by omega
      have b4 : ¬ 9223372036854775807 < Z.size + G.size := by omega
      clear hE hG HC hS h2 o1 hEs hGs z1 z2 hts hDs hL1 hL2 hP1 hP2 HT
      go_enter Try.func11, Try.ntmps11
      go_wp2_with fail
      refine (HR.out _).mono ?_
      rintro e w1 ⟨rfl, hb1⟩
      go_wp2_with fail
      refine (HPT.out _).mono ?_
      rintro e w2 ⟨rfl, hb2⟩
      have hb12 := hb1.trans' hb2
      have S2 := HKeep.out _ _ hb12 ⟨HK0, HK0.out.cells⟩
      obtain ⟨K2, c0, c1, c2, c3⟩ := S2
      go_wp2_with fail
      go_region_held3 (fun W => Hid (Bx 31 w.heap.size true S (l : Int) (p : Int) W) ∧ W.cell? ⟨w.heap.size, 0, none⟩ = some (.bool true) ∧ W.cell? ⟨w.heap.size, 1, none⟩ = some (.string S) ∧ W.cell? ⟨w.heap.size, 2, none⟩ = some (.int .i64 (l : Int)) ∧ W.cell? ⟨w.heap.size, 3, none⟩ = some (.int .i64 (p : Int)))
        (first | assumption | exact ⟨K2, c0, c1, c2, c3⟩ | exact HKeep.out _ _ (by assumption) (by assumption))
        (first
          | (go_at_call 22; refine (HPL.out _).mono ?_; rintro e w3 ⟨rfl, hb3⟩)
          | (go_at_call 27; refine (HPF.out _).mono ?_; rintro e w4 ⟨rfl, hb4⟩)
          | fail "no arm")
      all_goals
        go_wp2_with fail
        go_ret2
        exact ⟨rfl, (((hb0.trans' hb12).trans' (below_of_drew hb3)).trans' hb4)⟩
    | false =>
      obtain ⟨hS, rfl, rfl⟩ := (right_text S L P).1 h2
      have HPL := Lib.hid (fun W => rput_any (S.size : Int) W (by omega) (by omega))
      have hEs := wput_size S.size (by omega)
      rw [Int.toNat_natCast] at HPL
      have HC := cellS_text t S 0 0 S.size rfl
      obtain ⟨E, hE⟩ : ∃ E : ByteArray, ⟨(WP.put S.size).toArray⟩ = E := ⟨_, rfl⟩
      rw [hE] at HPL hEs HC
      rw [← HC]
      have HTE := HT.out
      generalize textS t = X at *
      have a2 : IntKind.u64.wrap (S.size : Int) = S.size := Int.emod_eq_of_lt (by omega) (by show (S.size : Int) < 18446744073709551616; omega)
      have z1 : (X ++ (⟨#[0]⟩ : ByteArray)).size = X.size + 1 := by rw [ByteArray.size_append]; rfl
      obtain ⟨Y, hY⟩ : ∃ Y, X ++ (⟨#[0]⟩ : ByteArray) = Y := ⟨_, rfl⟩
      rw [hY] at z1 ⊢
      have z2 : (Y ++ E).size = Y.size + E.size := ByteArray.size_append
      obtain ⟨Z, hZ⟩ : ∃ Z, Y ++ E = Z := ⟨_, rfl⟩
      rw [hZ] at z2 ⊢
      have o1 : (⟨#[0]⟩ : ByteArray).size = 1 := rfl
      have b2 : ¬ 9223372036854775807 < X.size + (⟨#[0]⟩ : ByteArray).size := by omega
      have b2' : ¬ 9223372036854775807 < X.size + 1 := by omega
      have b3 : ¬ 9223372036854775807 < Y.size + E.size := by omega
      have b4 : ¬ 9223372036854775807 < Z.size + S.size := by omega
      clear hE HC hS h2 o1 hEs z1 z2 hts hDs HT
      go_enter Try.func11, Try.ntmps11
      go_wp2_with fail
      refine (HR.out _).mono ?_
      rintro e w1 ⟨rfl, hb1⟩
      go_wp2_with fail
      refine (HPT.out _).mono ?_
      rintro e w2 ⟨rfl, hb2⟩
      have hb12 := hb1.trans' hb2
      have S2 := HKeep.out _ _ hb12 ⟨HK0, HK0.out.cells⟩
      obtain ⟨K2, c0, c1, c2, c3⟩ := S2
      go_wp2_with fail
      go_region_held3 (fun W => Hid (Bx 31 w.heap.size false S 0 0 W) ∧ W.cell? ⟨w.heap.size, 0, none⟩ = some (.bool false) ∧ W.cell? ⟨w.heap.size, 1, none⟩ = some (.string S) ∧ W.cell? ⟨w.heap.size, 2, none⟩ = some (.int .i64 0) ∧ W.cell? ⟨w.heap.size, 3, none⟩ = some (.int .i64 0))
        (first | assumption | exact ⟨K2, c0, c1, c2, c3⟩ | exact HKeep.out _ _ (by assumption) (by assumption))
        (first
          | (go_at_call 22; refine (HPL.out _).mono ?_; rintro e w3 ⟨rfl, hb3⟩)
          | fail "no arm")
      all_goals
        go_wp2_with fail
        go_ret2
        exact ⟨rfl, (hb0.trans' hb12).trans' (below_of_drew hb3)⟩
  · have e : putVV t (pv O S L P) = .tuple #[.string ⟨#[]⟩, .int .i64 3] := if_neg (fun h => h2 h.2)
    rw [e]
    rw [decide_eq_false h2] at HR
    go_enter Try.func11, Try.ntmps11
    go_wp2_with fail
    refine (HR.out _).mono ?_
    rintro e w1 ⟨rfl, hb1⟩
    go_wp2_with fail
    go_ret2
    exact ⟨rfl, hb0.trans' hb1⟩
end Go.Proofs.Ytppnchjmbeinkaa
