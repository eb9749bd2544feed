/-
  The document's GetKid.
-/
import Derived.Test.YtppnchjmbeinkaaVDocG
namespace Go.Proofs.Ytppnchjmbeinkaa
open Go.RowKit
set_option linter.unusedVariables false
set_option linter.unusedSimpArgs false

/-- What GetKid answers. -/
def gotK : Option (Nat × List UInt8) → Value
  | none => .tuple #[.int .i64 0, .string ⟨#[]⟩, .int .i64 3]
  | some x => .tuple #[.int .i64 (x.1 : Nat), .string ⟨x.2.toArray⟩, .int .i64 0]
theorem getK_of {l t : List UInt8} {k : Nat} (h : VP.parseK l = some (k, t)) : VP.getK l = if VP.OkK k t ∧ VP.cellK k t = l then some (k, t) else none := by unfold VP.getK; rw [h]
theorem getK_of_none {l : List UInt8} (h : VP.parseK l = none) : VP.getK l = none := by unfold VP.getK; rw [h]
theorem putKV_form (k : Int) (t : ByteArray) : ∃ (P : ByteArray) (e : Int), putKV k t = .tuple #[.string P, .int .i64 e] := by
  unfold putKV
  split
  · exact ⟨_, _, rfl⟩
  · exact ⟨_, _, rfl⟩

set_option maxHeartbeats 2000000 in
set_option maxRecDepth 100000 in
theorem rgetk_any (s : ByteArray) (w : World) (hs : s.size ≤ 1000000) :
    Calls Try.prog 18 #[.string s] w fun e w' => e = .returned (gotK (VP.getK s.data.toList)) ∧ Below w.heap.size w w' := by
  have hts : s.data.toList.length = s.size := by simp
  by_cases h4 : 4 ≤ s.size
  · have HRD := Lib.hid (fun W => rread_any s 0 W (by omega) (by omega) (by unfold maxLen; omega))
    simp only [show (0 : Int).toNat = 0 from rfl, List.drop_zero] at HRD
    have hle4 := WP.leNat_four s.data.toList
    obtain ⟨pg, hpg⟩ : ∃ p, Lib.leNat (s.data.toList.take 4) = p := ⟨_, rfl⟩
    rw [hpg] at HRD hle4
    by_cases hp : 4095 < pg
    · have hv : VP.getK s.data.toList = none := getK_of_none (by unfold VP.parseK; rw [hpg, if_neg fun h => by omega])
      rw [hv]
      have d2 : decide ((4095 : Int) < pg) = true := decide_eq_true (by omega)
      have d3 : decide (4095 < pg) = true := decide_eq_true hp
      clear hv hpg hts
      go_enter Try.func18, Try.ntmps18
      go_wp2_with fail
      refine (HRD.out _).mono ?_
      rintro e w1 ⟨rfl, rfl⟩
      go_wp2_with fail
      go_ret3
      exact ⟨rfl, Below.refl _ _⟩
    have d2 : decide ((4095 : Int) < pg) = false := decide_eq_false (by omega)
    have d3 : decide (4095 < pg) = false := decide_eq_false hp
    have q8 : IntKind.i64.wrap (pg : Int) = pg := IntWalk.i64_in _ (by omega)
    have HT := Lib.hid (fun W => rtext_any s 4 W h4 hs)
    cases hg : VP.gtext s.data.toList 4 with
    | none =>
      have hp1 : VP.parseK s.data.toList = none := by
        unfold VP.parseK
        rw [hpg, if_pos ⟨by omega, by omega⟩]
        simp only [hg]
      rw [hg] at HT
      simp only [gotT, show ((4 : Nat) : Int) = 4 from rfl] at HT
      rw [getK_of_none hp1]
      obtain ⟨P, er, hpk⟩ := putKV_form pg ⟨#[]⟩
      have HPK := Lib.hid (fun W => rputk_any pg ⟨#[]⟩ W (by decide))
      rw [hpk] at HPK
      clear hp1 hg hpg hpk hts
      go_enter Try.func18, Try.ntmps18
      go_wp2_with fail
      refine (HRD.out _).mono ?_
      rintro e w1 ⟨rfl, rfl⟩
      go_wp2_with fail
      refine (HT.out _).mono ?_
      rintro e w1 ⟨rfl, hb1⟩
      go_wp2_with fail
      refine (HPK.out _).mono ?_
      rintro e w2 ⟨rfl, hb2⟩
      go_wp2_with fail
      go_ret3
      exact ⟨rfl, hb1.trans' hb2⟩
    | some x =>
      obtain ⟨t, i⟩ := x
      obtain ⟨hi, htl⟩ := gtext_some hg
      rw [hts] at hi htl
      obtain ⟨T, rfl⟩ := listS t
      have hTs : T.size ≤ s.size := by simpa using htl
      have hTe : (⟨T.data.toList.toArray⟩ : ByteArray) = T := ByteArray.ext (by simp)
      have hp1 : VP.parseK s.data.toList = some (pg, T.data.toList) := by
        unfold VP.parseK
        rw [hpg, if_pos ⟨by omega, by omega⟩]
        simp only [hg]
      rw [hg] at HT
      simp only [gotT, show ((4 : Nat) : Int) = 4 from rfl] at HT
      rw [hTe] at HT
      have HPK := Lib.hid (fun W => rputk_any pg T W (by omega))
      have d4 : decide ((i : Int) < 0) = false := decide_eq_false (by omega)
      by_cases hOk : VP.OkK (pg : Int) T.data.toList
      · have e1 : putKV pg T = .tuple #[.string (kidS pg T), .int .i64 0] := if_pos hOk
        rw [e1] at HPK
        by_cases hcs : kidS pg T = s
        · have hv : VP.getK s.data.toList = some (pg, T.data.toList) := by
            rw [getK_of hp1, if_pos ⟨hOk, by rw [← hcs]; rfl⟩]
          rw [hv]
          rw [hcs] at HPK
          simp only [gotK]
          rw [hTe]
          have q2 : (s.toList == s.toList) = true := beq_self_eq_true _
          have q3 : (s.toList != s.toList) = false := by simp
          clear hv hcs e1 hOk hp1 hg hpg hts hTe htl
          go_enter Try.func18, Try.ntmps18
          go_wp2_with fail
          refine (HRD.out _).mono ?_
          rintro e w1 ⟨rfl, rfl⟩
          go_wp2_with fail
          refine (HT.out _).mono ?_
          rintro e w1 ⟨rfl, hb1⟩
          go_wp2_with fail
          refine (HPK.out _).mono ?_
          rintro e w2 ⟨rfl, hb2⟩
          go_wp2_with fail
          go_ret3
          exact ⟨rfl, hb1.trans' hb2⟩
        · have hv : VP.getK s.data.toList = none := by
            rw [getK_of hp1, if_neg]
            rintro ⟨_, h⟩
            exact hcs (ByteArray.ext (Array.toList_inj.1 h))
          rw [hv]
          obtain ⟨C, hC⟩ : ∃ C, kidS pg T = C := ⟨_, rfl⟩
          rw [hC] at HPK hcs
          have q2 : (C.toList == s.toList) = false := by
            rw [Lib.toList_data, Lib.toList_data]
            exact beq_eq_false_iff_ne.2 fun e => hcs (ByteArray.ext (Array.toList_inj.1 e))
          have q3 : (C.toList != s.toList) = true := by rw [bne, q2]; rfl
          clear hv hcs e1 hOk hp1 hg hpg hts hTe htl hC
          go_enter Try.func18, Try.ntmps18
          go_wp2_with fail
          refine (HRD.out _).mono ?_
          rintro e w1 ⟨rfl, rfl⟩
          go_wp2_with fail
          refine (HT.out _).mono ?_
          rintro e w1 ⟨rfl, hb1⟩
          go_wp2_with fail
          refine (HPK.out _).mono ?_
          rintro e w2 ⟨rfl, hb2⟩
          go_wp2_with fail
          go_ret3
          exact ⟨rfl, hb1.trans' hb2⟩
      · have e1 : putKV pg T = .tuple #[.string ⟨#[]⟩, .int .i64 3] := if_neg hOk
        rw [e1] at HPK
        have hv : VP.getK s.data.toList = none := by
          rw [getK_of hp1, if_neg fun h => hOk h.1]
        rw [hv]
        clear hv e1 hOk hp1 hg hpg hts hTe htl
        go_enter Try.func18, Try.ntmps18
        go_wp2_with fail
        refine (HRD.out _).mono ?_
        rintro e w1 ⟨rfl, rfl⟩
        go_wp2_with fail
        refine (HT.out _).mono ?_
        rintro e w1 ⟨rfl, hb1⟩
        go_wp2_with fail
        refine (HPK.out _).mono ?_
        rintro e w2 ⟨rfl, hb2⟩
        go_wp2_with fail
        go_ret3
        exact ⟨rfl, hb1.trans' hb2⟩
  · have hv : VP.getK s.data.toList = none := getK_of_none (by unfold VP.parseK; rw [if_neg fun h => by omega])
    rw [hv]
    have HRD := Lib.hid (fun W => rread_short s 0 W (by omega) (by omega) (by omega) hs)
    clear hv hts
    go_enter Try.func18, Try.ntmps18
    go_wp2_with fail
    refine (HRD.out _).mono ?_
    rintro e w1 ⟨rfl, rfl⟩
    go_wp2_with fail
    go_ret3
    exact ⟨rfl, Below.refl _ _⟩
end Go.Proofs.Ytppnchjmbeinkaa
