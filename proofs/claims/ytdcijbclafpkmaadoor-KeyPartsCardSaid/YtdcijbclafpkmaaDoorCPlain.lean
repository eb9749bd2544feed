/-
  Plain facts about columns as bytes; nothing of the program.
-/
import Derived.Test.YtdcijbclafpkmaaDoorWMath
namespace Go.Proofs.YtdcijbclafpkmaaDoor
open Go.RowKit

namespace CP
open WP (Parts)
/-- A column: its kind, its two numbers, its text. -/
structure Col where
  k : Int
  i : Int
  u : Int
  s : List UInt8
theorem Col.eq {a b : Col} (h1 : a.k = b.k) (h2 : a.i = b.i) (h3 : a.u = b.u) (h4 : a.s = b.s) : a = b := by
  cases a; cases b; simp_all
theorem Col.eq_iff (a b : Col) : a = b ↔ a.k = b.k ∧ a.i = b.i ∧ a.u = b.u ∧ a.s = b.s :=
  ⟨fun h => by subst h; exact ⟨rfl, rfl, rfl, rfl⟩, fun ⟨h1, h2, h3, h4⟩ => Col.eq h1 h2 h3 h4⟩
/-- The numbers are of their kinds. -/
def Ok (c : Col) : Prop := (-9223372036854775808 ≤ c.k ∧ c.k ≤ 9223372036854775807) ∧ (-9223372036854775808 ≤ c.i ∧ c.i ≤ 9223372036854775807) ∧ 0 ≤ c.u ∧ c.u ≤ 18446744073709551615
/-- It may be. -/
def Right (c : Col) : Prop :=
  (c.k = 0 ∧ c.i = 0 ∧ c.u = 0 ∧ c.s = []) ∨ (c.k = 1 ∧ c.i = 0 ∧ c.u ≤ 1 ∧ c.s = []) ∨ (c.k = 2 ∧ c.u = 0 ∧ c.s = []) ∨ (c.k = 3 ∧ c.i = 0 ∧ c.s = []) ∨ (c.k = 4 ∧ c.i = 0 ∧ c.u = 0)
instance (c : Col) : Decidable (Right c) := by unfold Right; infer_instance
theorem Right.kind {c : Col} (h : Right c) : 0 ≤ c.k ∧ c.k ≤ 4 := by unfold Right at h; omega

/-- Each byte 0 with a byte 255 behind it. -/
def esc : List UInt8 → List UInt8
  | [] => []
  | b :: r => if b = 0 then 0 :: 255 :: esc r else b :: esc r
theorem esc_zero (r : List UInt8) : esc (0 :: r) = 0 :: 255 :: esc r := rfl
theorem esc_other (b : UInt8) (r : List UInt8) (h : b ≠ 0) : esc (b :: r) = b :: esc r := by rw [esc, if_neg h]
theorem esc_append : ∀ (x y : List UInt8), esc (x ++ y) = esc x ++ esc y
  | [], y => rfl
  | b :: r, y => by
    by_cases h : b = 0
    · subst h; rw [List.cons_append, esc_zero, esc_zero, esc_append r y]; rfl
    · rw [List.cons_append, esc_other _ _ h, esc_other _ _ h, esc_append r y]; rfl
/-- How many bytes 0 there are. -/
def zeros : List UInt8 → Nat
  | [] => 0
  | b :: r => if b = 0 then zeros r + 1 else zeros r
theorem zeros_cons (b : UInt8) (r : List UInt8) : zeros (b :: r) = if b = 0 then zeros r + 1 else zeros r := rfl
theorem esc_length : ∀ (x : List UInt8), (esc x).length = x.length + zeros x
  | [] => rfl
  | b :: r => by
    by_cases h : b = 0
    · subst h; rw [esc_zero, show zeros (0 :: r) = zeros r + 1 from rfl]; simp only [List.length_cons, esc_length r]; omega
    · rw [esc_other _ _ h, show zeros (b :: r) = zeros r by rw [zeros, if_neg h]]; simp only [List.length_cons, esc_length r]; omega
theorem zeros_append : ∀ (x y : List UInt8), zeros (x ++ y) = zeros x + zeros y
  | [], y => by simp [zeros]
  | b :: r, y => by
    rw [List.cons_append, zeros_cons, zeros_cons, zeros_append r y]
    split <;> omega
theorem zeros_le : ∀ (x : List UInt8), zeros x ≤ x.length
  | [] => Nat.le_refl _
  | b :: r => by
    have := zeros_le r
    rw [zeros_cons, List.length_cons]
    split <;> omega
theorem toU8 (n : Nat) : n.toUInt8.toNat = n % 256 := by simp

/-- The bytes of a column that may be. -/
def put (c : Col) : List UInt8 :=
  if c.k = 0 then [16] else if c.k = 1 then [(32 + c.u.toNat).toUInt8] else if c.k = 2 then 48 :: Lib.beBytes 8 (c.i + 9223372036854775808).toNat
  else if c.k = 3 then 64 :: WP.put c.u.toNat else 80 :: (esc c.s ++ [0, 1])
theorem put0 {c : Col} (h : c.k = 0) : put c = [16] := by unfold put; rw [if_pos h]
theorem put1 {c : Col} (h : c.k = 1) : put c = [(32 + c.u.toNat).toUInt8] := by unfold put; rw [if_neg (by omega), if_pos h]
theorem put2 {c : Col} (h : c.k = 2) : put c = 48 :: Lib.beBytes 8 (c.i + 9223372036854775808).toNat := by unfold put; rw [if_neg (by omega), if_neg (by omega), if_pos h]
theorem put3 {c : Col} (h : c.k = 3) : put c = 64 :: WP.put c.u.toNat := by unfold put; rw [if_neg (by omega), if_neg (by omega), if_neg (by omega), if_pos h]
theorem put4 {c : Col} (h : c.k = 4) : put c = 80 :: (esc c.s ++ [0, 1]) := by unfold put; rw [if_neg (by omega), if_neg (by omega), if_neg (by omega), if_neg (by omega)]
theorem wput_len (n : Nat) (h : n ≤ 18446744073709551615) : 1 ≤ (WP.put n).length ∧ (WP.put n).length ≤ 9 := by
  obtain ⟨b, r, _, _, _, hl⟩ := WP.put_form n h
  rw [hl]
  exact WP.size_bd n
theorem put_head {c : Col} (ho : Ok c) (h : Right c) : ∃ b r, put c = b :: r ∧ (b.toNat : Int) / 16 = c.k + 1 := by
  unfold Ok at ho
  rcases h with h | h | h | h | h
  · exact ⟨_, _, put0 h.1, by rw [h.1]; rfl⟩
  · refine ⟨_, _, put1 h.1, ?_⟩
    rw [toU8]
    omega
  · exact ⟨_, _, put2 h.1, by rw [h.1]; rfl⟩
  · exact ⟨_, _, put3 h.1, by rw [h.1]; rfl⟩
  · exact ⟨_, _, put4 h.1, by rw [h.1]; rfl⟩
theorem put_pos {c : Col} (ho : Ok c) (h : Right c) : 0 < (put c).length := by
  obtain ⟨b, r, e, _⟩ := put_head ho h
  rw [e]
  simp
theorem put_le {c : Col} (ho : Ok c) (h : Right c) : (put c).length ≤ 10 + 2 * c.s.length := by
  unfold Ok at ho
  rcases h with h | h | h | h | h
  · rw [put0 h.1]; simp; omega
  · rw [put1 h.1]; simp; omega
  · rw [put2 h.1]; simp [Lib.beBytes_length]; omega
  · rw [put3 h.1]; have := wput_len c.u.toNat (by omega); simp only [List.length_cons]; omega
  · rw [put4 h.1]; have := esc_length c.s; have := zeros_le c.s; simp only [List.length_cons, List.length_append, List.length_nil]; omega

/-- Which of two is ahead. -/
def cmp (a b : Col) : Int :=
  if a.k ≠ b.k then (if a.k < b.k then -1 else 1) else if a.i ≠ b.i then (if a.i < b.i then -1 else 1) else if a.u ≠ b.u then (if a.u < b.u then -1 else 1)
  else if Op.bytesLess a.s b.s then -1 else if Op.bytesLess b.s a.s then 1 else 0

/-- Texts: the same, or one is less: a beginning of the other one, or by one byte. -/
theorem texts (x y : List UInt8) : (x = y ∧ Op.bytesLess x y = false ∧ Op.bytesLess y x = false) ∨ (Op.bytesLess x y = true ∧ Op.bytesLess y x = false ∧ (Parts x y ∨ ∃ d r, y = x ++ d :: r)) ∨
    (Op.bytesLess x y = false ∧ Op.bytesLess y x = true ∧ (Parts y x ∨ ∃ d r, x = y ++ d :: r)) := by
  induction x generalizing y with
  | nil =>
    cases y with
    | nil => exact .inl ⟨rfl, rfl, rfl⟩
    | cons d r => exact .inr (.inl ⟨rfl, rfl, .inr ⟨d, r, rfl⟩⟩)
  | cons c x ih =>
    cases y with
    | nil => exact .inr (.inr ⟨rfl, rfl, .inr ⟨c, x, rfl⟩⟩)
    | cons d y =>
      rcases Nat.lt_trichotomy c.toNat d.toNat with h | h | h
      · have hl := WP.less_head c d x y (UInt8.lt_iff_toNat_lt.2 h)
        exact .inr (.inl ⟨hl.1, hl.2, .inl ⟨[], c, d, x, y, rfl, rfl, UInt8.lt_iff_toNat_lt.2 h⟩⟩)
      · obtain rfl : c = d := UInt8.toNat_inj.1 h
        have e1 := WP.less_same [c] x y
        have e2 := WP.less_same [c] y x
        simp only [List.singleton_append] at e1 e2
        rw [e1, e2]
        rcases ih y with ⟨rfl, h1, h2⟩ | ⟨h1, h2, h3⟩ | ⟨h1, h2, h3⟩
        · exact .inl ⟨rfl, h1, h2⟩
        · refine .inr (.inl ⟨h1, h2, ?_⟩)
          rcases h3 with h3 | ⟨e, r, rfl⟩
          · exact .inl (h3.cons c)
          · exact .inr ⟨e, r, rfl⟩
        · refine .inr (.inr ⟨h1, h2, ?_⟩)
          rcases h3 with h3 | ⟨e, r, rfl⟩
          · exact .inl (h3.cons c)
          · exact .inr ⟨e, r, rfl⟩
      · have hl := WP.less_head d c y x (UInt8.lt_iff_toNat_lt.2 h)
        exact .inr (.inr ⟨hl.2, hl.1, .inl ⟨[], d, c, y, x, rfl, rfl, UInt8.lt_iff_toNat_lt.2 h⟩⟩)

theorem parts_pre (p : List UInt8) {x y : List UInt8} (h : Parts x y) : Parts (p ++ x) (p ++ y) := by
  obtain ⟨q, c, d, x', y', rfl, rfl, hcd⟩ := h
  exact ⟨p ++ q, c, d, x', y', by simp, by simp, hcd⟩
theorem parts_post {x y : List UInt8} (h : Parts x y) (u v : List UInt8) : Parts (x ++ u) (y ++ v) := by
  obtain ⟨q, c, d, x', y', rfl, rfl, hcd⟩ := h
  exact ⟨q, c, d, x' ++ u, y' ++ v, by simp, by simp, hcd⟩
theorem esc_parts {x y : List UInt8} (h : Parts x y ∨ ∃ d r, y = x ++ d :: r) : Parts (esc x ++ [0, 1]) (esc y ++ [0, 1]) := by
  rcases h with ⟨p, c, d, x', y', rfl, rfl, hcd⟩ | ⟨d, r, rfl⟩
  · have hd : d ≠ 0 := by intro e; subst e; simp only [UInt8.lt_iff_toNat_lt] at hcd; simp at hcd
    rw [esc_append, esc_append, List.append_assoc, List.append_assoc, esc_other d _ hd]
    apply parts_pre
    by_cases hc : c = 0
    · subst hc; rw [esc_zero]; exact ⟨[], 0, d, _, _, rfl, rfl, hcd⟩
    · rw [esc_other c _ hc]; exact ⟨[], c, d, _, _, rfl, rfl, hcd⟩
  · rw [esc_append, List.append_assoc]
    apply parts_pre
    by_cases hc : d = 0
    · subst hc; rw [esc_zero]; exact ⟨[0], 1, 255, [], _, rfl, rfl, by decide⟩
    · rw [esc_other d _ hc]
      refine ⟨[], 0, d, [1], _, rfl, rfl, ?_⟩
      rw [UInt8.lt_iff_toNat_lt]
      have : d.toNat ≠ 0 := fun e => hc (UInt8.toNat_inj.1 (by simpa using e))
      show 0 < d.toNat
      omega
theorem be8_parts (a b : Nat) (hb : b ≤ 18446744073709551615) (h : a < b) : Parts (Lib.beBytes 8 a) (Lib.beBytes 8 b) := by
  apply WP.parts_of_beNat
  · rw [Lib.beBytes_length, Lib.beBytes_length]
  · rw [WP.beNat_beBytes 8 a (by omega), WP.beNat_beBytes 8 b (by omega)]; exact h

theorem cmp_less {a b : Col} (ha : Ok a) (hb : Ok b) (ra : Right a) (rb : Right b) (h : a.k < b.k ∨ (a.k = b.k ∧ (a.i < b.i ∨ (a.i = b.i ∧ (a.u < b.u ∨ (a.u = b.u ∧ (Parts a.s b.s ∨ ∃ d r, b.s = a.s ++ d :: r))))))) : Parts (put a) (put b) := by
  unfold Ok at ha hb
  rcases h with h | ⟨hk, h⟩
  · obtain ⟨c, x, e1, h1⟩ := put_head ha ra
    obtain ⟨d, y, e2, h2⟩ := put_head hb rb
    rw [e1, e2]
    exact ⟨[], c, d, x, y, rfl, rfl, UInt8.lt_iff_toNat_lt.2 (by omega)⟩
  · rcases ra with ra | ra | ra | ra | ra <;> rcases rb with rb | rb | rb | rb | rb <;> try omega
    · rw [ra.2.2.2, rb.2.2.2] at h
      rcases h with h | ⟨_, h | ⟨_, h | ⟨d, r, h⟩⟩⟩
      · omega
      · omega
      · exact absurd rfl h.ne
      · simp at h
    · rw [ra.2.2.2, rb.2.2.2] at h
      rcases h with h | ⟨_, h | ⟨_, h | ⟨d, r, h⟩⟩⟩
      · omega
      · rw [put1 ra.1, put1 rb.1]
        refine ⟨[], _, _, [], [], rfl, rfl, ?_⟩
        rw [UInt8.lt_iff_toNat_lt, toU8, toU8]
        omega
      · exact absurd rfl h.ne
      · simp at h
    · rw [ra.2.2, rb.2.2] at h
      rcases h with h | ⟨_, h | ⟨_, h | ⟨d, r, h⟩⟩⟩
      · rw [put2 ra.1, put2 rb.1]
        exact (be8_parts _ _ (by omega) (by omega)).cons 48
      · omega
      · exact absurd rfl h.ne
      · simp at h
    · rw [ra.2.2, rb.2.2] at h
      rcases h with h | ⟨_, h | ⟨_, h | ⟨d, r, h⟩⟩⟩
      · omega
      · rw [put3 ra.1, put3 rb.1]
        exact (WP.put_parts _ _ (by omega) (by omega)).cons 64
      · exact absurd rfl h.ne
      · simp at h
    · rcases h with h | ⟨_, h | ⟨_, h⟩⟩
      · omega
      · omega
      · rw [put4 ra.1, put4 rb.1]
        exact (esc_parts h).cons 80
/-- What Compare says. -/
theorem cmp_cases {a b : Col} (ha : Ok a) (hb : Ok b) (ra : Right a) (rb : Right b) :
    (cmp a b = 0 ∧ a = b) ∨ (cmp a b = -1 ∧ a ≠ b ∧ Parts (put a) (put b)) ∨ (cmp a b = 1 ∧ a ≠ b ∧ Parts (put b) (put a)) := by
  have hl := cmp_less ha hb ra rb
  have hm := cmp_less hb ha rb ra
  have hlift : ∀ {x y : Col}, Parts (put x) (put y) → x ≠ y := fun {x y} h e => by subst e; exact h.ne rfl
  unfold cmp
  by_cases hk : a.k = b.k
  · rw [if_neg (by simpa using hk)]
    by_cases hi : a.i = b.i
    · rw [if_neg (by simpa using hi)]
      by_cases hu : a.u = b.u
      · rw [if_neg (by simpa using hu)]
        rcases texts a.s b.s with ⟨e, h1, h2⟩ | ⟨h1, h2, h3⟩ | ⟨h1, h2, h3⟩
        · rw [h1, h2]; exact .inl ⟨rfl, Col.eq hk hi hu e⟩
        · rw [h1]; have := hl (.inr ⟨hk, .inr ⟨hi, .inr ⟨hu, h3⟩⟩⟩); exact .inr (.inl ⟨rfl, hlift this, this⟩)
        · rw [h1, h2]; have := hm (.inr ⟨hk.symm, .inr ⟨hi.symm, .inr ⟨hu.symm, h3⟩⟩⟩); exact .inr (.inr ⟨rfl, (hlift this).symm, this⟩)
      · rw [if_pos hu]
        by_cases h : a.u < b.u
        · rw [if_pos h]; have := hl (.inr ⟨hk, .inr ⟨hi, .inl h⟩⟩); exact .inr (.inl ⟨rfl, hlift this, this⟩)
        · rw [if_neg h]; have := hm (.inr ⟨hk.symm, .inr ⟨hi.symm, .inl (by omega)⟩⟩); exact .inr (.inr ⟨rfl, (hlift this).symm, this⟩)
    · rw [if_pos hi]
      by_cases h : a.i < b.i
      · rw [if_pos h]; have := hl (.inr ⟨hk, .inl h⟩); exact .inr (.inl ⟨rfl, hlift this, this⟩)
      · rw [if_neg h]; have := hm (.inr ⟨hk.symm, .inl (by omega)⟩); exact .inr (.inr ⟨rfl, (hlift this).symm, this⟩)
  · rw [if_pos hk]
    by_cases h : a.k < b.k
    · rw [if_pos h]; have := hl (.inl h); exact .inr (.inl ⟨rfl, hlift this, this⟩)
    · rw [if_neg h]; have := hm (.inl (by omega)); exact .inr (.inr ⟨rfl, (hlift this).symm, this⟩)
end CP
end Go.Proofs.YtdcijbclafpkmaaDoor
