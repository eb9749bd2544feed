/-
  The walk of LeafRise.
-/
import Derived.Test.YtpehkikdmckldaaGreatDoorJ18
import Derived.Test.YtpehkikdmckldaaGreatDoorJNRiseM
import Derived.BigQuiet
namespace Go.Proofs.YtpehkikdmckldaaGreatDoor
open Go.RowKit NP
set_option linter.unusedVariables false
set_option linter.unusedSimpArgs false

theorem neq_val (O : Bool) (S : ByteArray) (L P : Int) (w : World) :
    (binOp .neq 41 (.agg #[.bool O, .string S, .int .i64 L, .int .i64 P]) (.agg #[.bool O, .string S, .int .i64 L, .int .i64 P])).run Tryz.prog w = .ok (.bool false) w := by
  simp [go_sem]
attribute [local go_sem high] neq_val
theorem some_snoc : ∀ (l : List It) (x : It) (key : ByteArray), (fnd (l ++ [x]) key).isSome = ((fnd l key).isSome || decide (x.k = key))
  | [], x, key => by by_cases h : x.k = key <;> simp [fnd, h]
  | y :: l, x, key => by
    have ih := some_snoc l x key
    by_cases h : y.k = key
    · simp [fnd, h]
    · simp only [List.cons_append, fnd, h, if_false, ih]
theorem seen_next {l : List It} {k : Nat} {x : It} (hc : l[k]? = some x) (key : ByteArray) : (fnd (l.take (k + 1)) key).isSome = ((fnd (l.take k) key).isSome || decide (x.k = key)) := by
  rw [take_snoc hc, some_snoc]
theorem find_self {F R : Int} {HH : ByteArray} {l : List It} {p : Int} (hr : Rises ⟨F, R, HH, l⟩ p) (hf : l.length ≤ 1000000) (G : Option Addr) (n : Nat) (hn : n = l.length) (k : Nat) (KK : ByteArray) (O : Bool) (S : ByteArray) (L P : Int) (hc : l[k]? = some ⟨KK, O, S, L, P⟩) (W : World) (h : Lies5 W W.heap.size G l) :
    Calls Tryz.prog 15 #[lv F R HH G n n, .string KK] W fun e w' => e = .returned (.tuple #[.agg #[.bool O, .string S, .int .i64 L, .int .i64 P], .bool true]) ∧ Below W.heap.size W w' := by
  subst hn
  refine (find_any F R HH G l l.length KK W h hf (fun x hx => by have := hr.short x hx; omega)).mono fun e w' ⟨h1, h2⟩ => ⟨?_, h2⟩
  rw [h1, hr.found k _ hc]
  rfl
theorem find_key (l : List It) (key : ByteArray) : ∃ O S L P, foundV (fnd l key) = .tuple #[.agg #[.bool O, .string S, .int .i64 L, .int .i64 P], .bool (fnd l key).isSome] := by
  cases fnd l key with
  | none => exact ⟨_, _, _, _, rfl⟩
  | some x => exact ⟨_, _, _, _, rfl⟩
set_option maxHeartbeats 4000000 in
set_option maxRecDepth 100000 in
theorem leafRise_any (hfx : Fixes) (s key : ByteArray) (w : World) (hg : Glo w) (hs : s.size ≤ maxLen) :
    Calls Tryz.prog 6 #[.string s, .string key] w fun e w' => e = .returned (.bool true) ∧ Below w.heap.size w w' := by
  have HG0 := Lib.hid hg
  have HFX := Lib.hid hfx
  obtain ⟨m, hm1, hm2, hm3⟩ := cut_1100 s
  obtain ⟨T, hT⟩ : ∃ T, s.extract 0 m = T := ⟨_, rfl⟩
  have hT2 : T.size ≤ 1100 := by rw [← hT, ByteArray.size_extract]; omega
  have HD := Lib.hid (dec_any T w hg (by omega))
  unfold maxLen at hs
  clear hfx hg
  go_enter Tryz.func6, Tryz.ntmps6
  go_wp2_with fail
  (try rw [hT])
  refine HD.out.mono ?_
  rintro e V ⟨hd, hb⟩
  rcases hd with ⟨⟨F, R, HH, l⟩, G, hl, rfl, hL⟩ | ⟨hl, rfl⟩
  · have HR := Lib.hid (dec_rises hl)
    simp only at hL ⊢
    have HL := Lib.hid (hL.on (lbox_below 24 F R HH G l.length l.length V))
    have HX := Lib.hid (lbox_new 24 F R HH G l.length l.length V)
    have HB := Lib.hid (hb.trans' (lbox_below 24 F R HH G l.length l.length V))
    have HG := Lib.hid (HG0.out.on HB.out)
    clear hL hb
    simp only [lbox] at HL HX HB HG
    obtain ⟨n, hn⟩ : ∃ n, n = l.length := ⟨_, rfl⟩
    have HN := Lib.hid hn
    rw [← hn] at HX HL HB HG ⊢
    have hn1 : n ≤ 1000000 := by have := HR.out.few; simp only at this; omega
    have HFI := Lib.hid (fun k KK O S L P hc W h => find_self HR.out (by omega) G n hn k KK O S L P hc W h)
    have HFK := Lib.hid (fun W h => find_any F R HH G l l.length key W h (by omega) (fun x hx => by have := HR.out.short x hx; omega))
    rw [← hn] at HFK
    clear hn
    have hw8 : IntKind.i64.wrap ((T.size : Int) / 8) = (T.size : Int) / 8 := IntWalk.i64_in _ (by omega)
    go_wp2_with fail
    generalize V.alloc (.cells #[.int .i64 F, .int .i64 R, .string HH, .slice G n n] 24) = D at *
    generalize V.heap.size = g at *
    go_loopw [7, 8] (fun sv iv wr => ∃ k : Nat, k ≤ n ∧ iv = .int .i64 k ∧ sv = .bool ((fnd (l.take k) key).isSome) ∧ Hid (Below D.heap.size D wr)) (fun _ iv _ => n - (intOf iv).toNat)
    case atStart => exact ⟨0, by omega, rfl, by simp [fnd], Lib.hid (Below.refl _ D)⟩
    case round =>
      obtain ⟨k, hk, rfl, rfl, HW⟩ := hrel
      have HXw := Lib.hid (HX.out.below HW.out)
      obtain ⟨p0, p1, p2, p3⟩ := HXw.out.cells
      by_cases hlt : k < n
      · obtain ⟨⟨KK, O, S, L, P⟩, hc⟩ : ∃ c, l[k]? = some c := ⟨_, List.getElem?_eq_getElem (by have := HN.out; omega)⟩
        obtain ⟨a, rfl, hab, x0, x1, x2, x3, x4⟩ := (HL.out.on HW.out).load hc
        have h0 : (0 : Int) ≤ k := by omega
        have hkn : (k : Int) < n := by omega
        have HWI := Lib.hid (HW.out.trans' (L5.below_alloc wr (.cells #[.string KK, .bool O, .string S, .int .i64 L, .int .i64 P] 59)))
        have HI := Lib.hid (IBx.new 59 KK O S L P wr)
        have HXI := Lib.hid (HX.out.below HWI.out)
        have HLI := Lib.hid (HL.out.on HWI.out)
        obtain ⟨q0, q1, q2, q3⟩ := HXI.out.cells
        obtain ⟨y0, -, -, -, -⟩ := HI.out.cells
        go_wp2_with fail
        refine (HFI.out k _ _ _ _ _ hc _ HLI.out).mono ?_
        rintro e V2 ⟨rfl, hb2⟩
        have hb3 := hb2.trans' (L5.below_alloc V2 (.cells #[.bool O, .string S, .int .i64 L, .int .i64 P] 41))
        have HW3 := Lib.hid (HWI.out.trans' hb3)
        have HX3 := Lib.hid (HXI.out.below hb3)
        have HL3 := Lib.hid (HLI.out.on hb3)
        have HI3 := Lib.hid (HI.out.below hb3)
        have HV3 := Lib.hid (L9.Bx.new 41 O S L P V2)
        have hkey8 := HR.out.key _ (List.mem_of_getElem? hc)
        simp only at hkey8
        have d8 : decide ((T.size : Int) / 8 < (KK.size : Int)) = false := decide_eq_false (by omega)
        have d8n : decide (T.size / 8 < KK.size) = false := decide_eq_false (by omega)
        have HS1 : Hid ((fnd (l.take (k + 1)) key).isSome = ((fnd (l.take k) key).isSome || decide (KK = key))) := Lib.hid (seen_next hc key)
        clear HXI HLI HI HWI hb2 hb3 q0 q1 q2 q3 y0 p0 p1 p2 p3 x0 x1 x2 x3 x4 hab HXw
        go_wp2_with fail
        generalize V2.alloc (.cells #[.bool O, .string S, .int .i64 L, .int .i64 P] 41) = D3 at *
        generalize wr.heap.size = bi at *
        generalize V2.heap.size = bv at *
        generalize (fnd (l.take k) key).isSome = sn at *
        obtain ⟨q0, q1, q2, q3⟩ := HX3.out.cells
        obtain ⟨y0, y1, y2, y3, y4⟩ := HI3.out.cells
        obtain ⟨v0, v1, v2, v3⟩ := HV3.out.cells
        obtain ⟨k', hk'⟩ : ∃ k', k' = k + 1 := ⟨_, rfl⟩
        rw [← hk'] at HS1
        cases k with
        | zero =>
          have hz := True.intro
          by_cases hR : R = 0
          · subst hR
            have hzh := True.intro
            go_wp2_with fail
            go_quiet (fail)
            clear hz hzh
            cases sn with
            | true =>
              go_wp2_with fail
              go_roundw
              case rel => exact ⟨k', by omega, by simp [hk'], by rw [HS1.out] <;> rfl, Lib.hid (L5.below_drewN HW3.out _)⟩
              case measure => simp [intOf]; omega
            | false =>
              by_cases hkey : KK = key
              · have hz2 := text_yes hkey
                rw [decide_eq_true hkey] at HS1
                clear hkey
                go_wp2_with fail
                go_roundw
                case rel => exact ⟨k', by omega, by simp [hk'], by rw [HS1.out] <;> rfl, Lib.hid (L5.below_drewN HW3.out _)⟩
                case measure => simp [intOf]; omega
              · have hz2 := text_no hkey
                rw [decide_eq_false hkey] at HS1
                clear hkey
                go_wp2_with fail
                go_roundw
                case rel => exact ⟨k', by omega, by simp [hk'], by rw [HS1.out] <;> rfl, Lib.hid (L5.below_drewN HW3.out _)⟩
                case measure => simp [intOf]; omega
          · have hR' : (R != 0) = true := by simpa using hR
            have hzh := L5.less_yes (HR.out.below hR _ (List.mem_of_getElem? hc))
            simp only at hzh
            clear hR
            go_wp2_with fail
            go_quiet (fail)
            clear hz hzh
            cases sn with
            | true =>
              go_wp2_with fail
              go_roundw
              case rel => exact ⟨k', by omega, by simp [hk'], by rw [HS1.out] <;> rfl, Lib.hid (L5.below_drewN HW3.out _)⟩
              case measure => simp [intOf]; omega
            | false =>
              by_cases hkey : KK = key
              · have hz2 := text_yes hkey
                rw [decide_eq_true hkey] at HS1
                clear hkey
                go_wp2_with fail
                go_roundw
                case rel => exact ⟨k', by omega, by simp [hk'], by rw [HS1.out] <;> rfl, Lib.hid (L5.below_drewN HW3.out _)⟩
                case measure => simp [intOf]; omega
              · have hz2 := text_no hkey
                rw [decide_eq_false hkey] at HS1
                clear hkey
                go_wp2_with fail
                go_roundw
                case rel => exact ⟨k', by omega, by simp [hk'], by rw [HS1.out] <;> rfl, Lib.hid (L5.below_drewN HW3.out _)⟩
                case measure => simp [intOf]; omega
        | succ j =>
          obtain ⟨⟨KJ, OJ, SJ, LJ, PJ⟩, hcj⟩ : ∃ c, l[j]? = some c := ⟨_, List.getElem?_eq_getElem (by have := HN.out; omega)⟩
          have hz := L5.less_yes (rise_get HR.out.rise hcj hc (Nat.lt_succ_self j))
          simp only at hz
          obtain ⟨a', hae, hab', z0, z1, z2, z3, z4⟩ := HL3.out.load hcj
          obtain rfl := Option.some.inj hae
          have hwj : IntKind.i64.wrap (((j + 1 : Nat) : Int) - 1) = (j : Int) := by rw [show ((j + 1 : Nat) : Int) - 1 = j by omega]; exact IntWalk.i64_in _ (by omega)
          have hwj' : IntKind.i64.wrap ((j : Int) + 1 - 1) = (j : Int) := by rw [show (j : Int) + 1 - 1 = j by omega]; exact IntWalk.i64_in _ (by omega)
          have hj0 : decide ((0 : Int) < ((j + 1 : Nat) : Int)) = true := decide_eq_true (by omega)
          have hwj0 : IntKind.i64.wrap (j : Int) = (j : Int) := IntWalk.i64_in _ (by omega)
          have hjn : (j : Int) < n := by omega
          have hjn2 : j < n := by omega
          have hj1 : (0 : Int) ≤ j := by omega
          clear hae
          clear hcj hab'
          by_cases hR : R = 0
          · subst hR
            have hzh := True.intro
            go_wp2_with fail
            go_quiet (fail)
            clear hz hzh
            cases sn with
            | true =>
              go_wp2_with fail
              go_roundw
              case rel => exact ⟨k', by omega, by simp [hk'], by rw [HS1.out] <;> rfl, Lib.hid (L5.below_drewN HW3.out _)⟩
              case measure => simp [intOf]; omega
            | false =>
              by_cases hkey : KK = key
              · have hz2 := text_yes hkey
                rw [decide_eq_true hkey] at HS1
                clear hkey
                go_wp2_with fail
                go_roundw
                case rel => exact ⟨k', by omega, by simp [hk'], by rw [HS1.out] <;> rfl, Lib.hid (L5.below_drewN HW3.out _)⟩
                case measure => simp [intOf]; omega
              · have hz2 := text_no hkey
                rw [decide_eq_false hkey] at HS1
                clear hkey
                go_wp2_with fail
                go_roundw
                case rel => exact ⟨k', by omega, by simp [hk'], by rw [HS1.out] <;> rfl, Lib.hid (L5.below_drewN HW3.out _)⟩
                case measure => simp [intOf]; omega
          · have hR' : (R != 0) = true := by simpa using hR
            have hzh := L5.less_yes (HR.out.below hR _ (List.mem_of_getElem? hc))
            simp only at hzh
            clear hR
            go_wp2_with fail
            go_quiet (fail)
            clear hz hzh
            cases sn with
            | true =>
              go_wp2_with fail
              go_roundw
              case rel => exact ⟨k', by omega, by simp [hk'], by rw [HS1.out] <;> rfl, Lib.hid (L5.below_drewN HW3.out _)⟩
              case measure => simp [intOf]; omega
            | false =>
              by_cases hkey : KK = key
              · have hz2 := text_yes hkey
                rw [decide_eq_true hkey] at HS1
                clear hkey
                go_wp2_with fail
                go_roundw
                case rel => exact ⟨k', by omega, by simp [hk'], by rw [HS1.out] <;> rfl, Lib.hid (L5.below_drewN HW3.out _)⟩
                case measure => simp [intOf]; omega
              · have hz2 := text_no hkey
                rw [decide_eq_false hkey] at HS1
                clear hkey
                go_wp2_with fail
                go_roundw
                case rel => exact ⟨k', by omega, by simp [hk'], by rw [HS1.out] <;> rfl, Lib.hid (L5.below_drewN HW3.out _)⟩
                case measure => simp [intOf]; omega
      · have hlt' : ¬ (k : Int) < n := by omega
        have htk : (fnd (l.take k) key).isSome = (fnd l key).isSome := by rw [List.take_of_length_le (by have := HN.out; omega)]
        rw [htk]
        have HLw := Lib.hid (HL.out.on HW.out)
        obtain ⟨O4, S4, L4, P4, hfk⟩ := find_key l key
        have hself := HR.out.self
        have hhigh := HR.out.high
        simp only at hself hhigh
        have hF1 : decide (0 < F) = true := decide_eq_true hself
        have he := empty_of HH
        have he' := empty_of' HH
        rw [hfk] at HFK
        generalize (fnd l key).isSome = sn at *
        clear hk hlt htk hfk
        go_wp2_with fail
        refine (HFK.out _ HLw.out).mono ?_
        rintro e V4 ⟨rfl, hb4⟩
        have hb4' := hb4.trans' (L5.below_alloc V4 (.cells #[.bool O4, .string S4, .int .i64 L4, .int .i64 P4] 41))
        have HX4 := Lib.hid (HXw.out.below hb4')
        have HB4 := Lib.hid (HB.out.trans' (HW.out.trans' hb4'))
        have HG4 := Lib.hid (HG0.out.on HB4.out)
        clear hb4 hb4' p0 p1 p2 p3
        obtain ⟨q0, q1, q2, q3⟩ := HX4.out.cells
        by_cases hR : R = 0
        · rw [decide_eq_true (hhigh.1 hR)] at he he'
          clear hhigh
          subst hR
          cases sn with
          | true =>
            go_wp2_with fail
            refine (HFX.out _ HG4.out).mono ?_
            rintro e V5 ⟨rfl, hb5⟩
            go_wp2_with fail
            go_ret
            exact ⟨rfl, HB4.out.trans' hb5⟩
          | false =>
            go_wp2_with fail
            refine (HFX.out _ HG4.out).mono ?_
            rintro e V5 ⟨rfl, hb5⟩
            go_wp2_with fail
            go_ret
            exact ⟨rfl, HB4.out.trans' hb5⟩
        · have hR' : (R == 0) = false := beq_eq_false_iff_ne.2 hR
          rw [decide_eq_false (fun h => hR (hhigh.2 h))] at he he'
          clear hhigh
          cases sn with
          | true =>
            go_wp2_with fail
            refine (HFX.out _ HG4.out).mono ?_
            rintro e V5 ⟨rfl, hb5⟩
            go_wp2_with fail
            go_ret
            exact ⟨rfl, HB4.out.trans' hb5⟩
          | false =>
            go_wp2_with fail
            refine (HFX.out _ HG4.out).mono ?_
            rintro e V5 ⟨rfl, hb5⟩
            go_wp2_with fail
            go_ret
            exact ⟨rfl, HB4.out.trans' hb5⟩
  · have HB := Lib.hid (hb.trans' (L5.below_alloc V (.cells #[.int .i64 0, .int .i64 0, .string ⟨#[]⟩, .slice none 0 0] 24)))
    have HG := Lib.hid (HG0.out.on HB.out)
    clear hb
    go_wp2_with fail
    generalize V.alloc (.cells #[.int .i64 0, .int .i64 0, .string ⟨#[]⟩, .slice none 0 0] 24) = D at *
    refine (HFX.out _ HG.out).mono ?_
    rintro e V2 ⟨rfl, hb2⟩
    go_wp2_with fail
    go_ret
    exact ⟨rfl, HB.out.trans' hb2⟩
end Go.Proofs.YtpehkikdmckldaaGreatDoor
