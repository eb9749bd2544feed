/-
  Plain facts about a disk: pages that are kept, writes that are pending, what is read, and what a crash leaves; nothing of the program.
-/
import Derived.Lib.Strings
namespace Go.Proofs.YtaeiifmdbdhoeaaDoor
namespace DP
set_option linter.unusedVariables false

/-- A page of bytes 0. -/
def zero (p : Nat) : ByteArray := ⟨(List.replicate p (0 : UInt8)).toArray⟩
theorem zero_size (p : Nat) : (zero p).size = p := by simp [zero, ByteArray.size]

/-- Pages, at least so many: those that are missing are z. -/
def fill (z : ByteArray) (l : List ByteArray) (n : Nat) : List ByteArray := l ++ List.replicate (n - l.length) z
theorem fill_length (z : ByteArray) (l : List ByteArray) (n : Nat) : (fill z l n).length = max l.length n := by simp [fill]; omega
theorem fill_enough (z : ByteArray) (l : List ByteArray) (n : Nat) (h : n ≤ l.length) : fill z l n = l := by simp [fill, Nat.sub_eq_zero_of_le h]
theorem fill_snoc (z : ByteArray) (l : List ByteArray) (n : Nat) (h : l.length < n) : fill z (l ++ [z]) n = fill z l n := by
  simp only [fill, List.append_assoc]
  congr 1
  rw [show n - l.length = (n - (l ++ [z]).length) + 1 by simp; omega, List.replicate_succ]
  rfl
theorem fill_old (z : ByteArray) (l : List ByteArray) (n i : Nat) (h : i < l.length) : (fill z l n)[i]? = l[i]? := by
  rw [fill, List.getElem?_append_left h]
theorem fill_new (z : ByteArray) (l : List ByteArray) (n i : Nat) (h : l.length ≤ i) (k : i < n) : (fill z l n)[i]? = some z := by
  rw [fill, List.getElem?_append_right h, List.getElem?_replicate, if_pos (by omega)]
/-- A write: which page, and its bytes. -/
structure W where
  i : Nat
  s : ByteArray
/-- Pages with a write. -/
def put (z : ByteArray) (l : List ByteArray) (w : W) : List ByteArray := (fill z l (w.i + 1)).set w.i w.s
theorem put_length (z : ByteArray) (l : List ByteArray) (w : W) : (put z l w).length = max l.length (w.i + 1) := by simp [put, fill_length]
theorem put_at (z : ByteArray) (l : List ByteArray) (w : W) : (put z l w)[w.i]? = some w.s := by
  rw [put, List.getElem?_set_self (by rw [fill_length]; omega)]
theorem put_other (z : ByteArray) (l : List ByteArray) (w : W) (i : Nat) (h : i ≠ w.i) : (put z l w)[i]? = if i < l.length then l[i]? else if i < w.i then some z else none := by
  rw [put, List.getElem?_set_ne (Ne.symm h)]
  split
  · exact fill_old z l _ i ‹_›
  split
  · exact fill_new z l _ i (by omega) (by omega)
  · exact List.getElem?_eq_none (by rw [fill_length]; omega)
/-- A page as it is read of pages: bytes 0, if it isn't held. -/
def page (z : ByteArray) (l : List ByteArray) (i : Nat) : ByteArray := l.getD i z
theorem page_put (z : ByteArray) (l : List ByteArray) (w : W) (i : Nat) : page z (put z l w) i = if i = w.i then w.s else page z l i := by
  unfold page
  rw [List.getD_eq_getElem?_getD, List.getD_eq_getElem?_getD]
  split
  · subst i; rw [put_at]; rfl
  · rw [put_other z l w i ‹_›]
    split
    · rfl
    · rw [List.getElem?_eq_none (by omega)]
      split <;> rfl
/-- All that is read. -/
def all (z : ByteArray) (l : List ByteArray) (q : List W) : List ByteArray := q.foldl (put z) l
theorem all_snoc (z : ByteArray) (l : List ByteArray) (q : List W) (w : W) : all z l (q ++ [w]) = put z (all z l q) w := by simp [all]
theorem all_append (z : ByteArray) (l : List ByteArray) (q r : List W) : all z l (q ++ r) = all z (all z l q) r := by simp [all]
/-- How many pages are held. -/
def len (n : Nat) (q : List W) : Nat := q.foldl (fun n w => max n (w.i + 1)) n
theorem len_snoc (n : Nat) (q : List W) (w : W) : len n (q ++ [w]) = max (len n q) (w.i + 1) := by simp [len]
theorem all_length (z : ByteArray) : ∀ (q : List W) (l : List ByteArray), (all z l q).length = len l.length q
  | [], l => rfl
  | w :: q, l => by
    have := all_length z q (put z l w)
    rw [put_length] at this
    exact this
/-- The last of the writes to a page. -/
def last : List W → Nat → Option ByteArray
  | [], _ => none
  | w :: q, i => (last q i).or (if w.i = i then some w.s else none)
theorem last_snoc : ∀ (q : List W) (w : W) (i : Nat), last (q ++ [w]) i = if w.i = i then some w.s else last q i
  | [], w, i => by simp [last]
  | v :: q, w, i => by
    rw [List.cons_append, last, last, last_snoc q w i]
    split <;> simp
theorem page_all (z : ByteArray) (i : Nat) : ∀ (q : List W) (l : List ByteArray), page z (all z l q) i = (last q i).getD (page z l i)
  | [], l => rfl
  | w :: q, l => by
    have h := page_all z i q (put z l w)
    rw [page_put] at h
    show page z (all z (put z l w) q) i = _
    rw [h, last]
    by_cases e : w.i = i
    · rw [if_pos e.symm, if_pos e]
      cases last q i <;> rfl
    · rw [if_neg (Ne.symm e), if_neg e]
      cases last q i <;> rfl
/-- A page that is held, as it is read. -/
theorem all_get (z : ByteArray) (l : List ByteArray) (q : List W) (i : Nat) (h : i < len l.length q) : (all z l q)[i]? = some ((last q i).getD (page z l i)) := by
  rw [← page_all]
  have hl : i < (all z l q).length := by rw [all_length]; exact h
  unfold page
  rw [List.getD_eq_getElem?_getD, List.getElem?_eq_getElem hl]
  rfl

/-- Where a write is torn. -/
def clamp (p : Nat) (at_ : Int) : Nat := min at_.toNat p
/-- A torn write: its first bytes, and behind these what was there. -/
def torn (p : Nat) (was s : ByteArray) (at_ : Int) : ByteArray := s.extract 0 (clamp p at_) ++ was.extract (clamp p at_) p
theorem torn_size (p : Nat) (was s : ByteArray) (a : Int) (h : was.size = p) (k : s.size = p) : (torn p was s a).size = p := by
  unfold torn clamp
  rw [ByteArray.size_append, ByteArray.size_extract, ByteArray.size_extract]
  omega
theorem torn_whole (p : Nat) (was s : ByteArray) (a : Int) (h : was.size = p) (k : s.size = p) (ha : p ≤ a) : torn p was s a = s := by
  have hc : clamp p a = p := by unfold clamp; omega
  unfold torn
  rw [hc]
  apply ByteArray.ext
  apply Array.toList_inj.1
  have h1 : (s.extract 0 p ++ was.extract p p).data.toList = (s.extract 0 p).data.toList ++ (was.extract p p).data.toList := by simp
  rw [h1, Lib.extract_data, Lib.extract_data, Nat.sub_self, List.take_zero, List.append_nil, List.drop_zero, Nat.sub_zero]
  exact List.take_of_length_le (by simp; omega)
/-- What becomes of a write: kind 1 whole, kind 2 torn, of all others nothing. -/
structure C where
  k : Int
  at_ : Int
def chosen (p : Nat) (l : List ByteArray) (w : W) (c : C) : List ByteArray :=
  if c.k = 1 then put (zero p) l w else if c.k = 2 then put (zero p) l ⟨w.i, torn p (page (zero p) l w.i) w.s c.at_⟩ else l
/-- What a crash leaves. -/
def crash (p : Nat) (l : List ByteArray) : List W → List C → List ByteArray
  | w :: q, c :: cs => crash p (chosen p l w c) q cs
  | _, _ => l
theorem crash_nil (p : Nat) (l : List ByteArray) (q : List W) : crash p l q [] = l := by cases q <;> rfl
theorem crash_none (p : Nat) (l : List ByteArray) (cs : List C) : crash p l [] cs = l := by cases cs <;> rfl
/-- One step of a crash more. -/
theorem crash_snoc (p : Nat) : ∀ (q : List W) (cs : List C) (l : List ByteArray) (w : W) (c : C), q.length = cs.length → crash p l (q ++ [w]) (cs ++ [c]) = chosen p (crash p l q cs) w c
  | [], [], l, w, c, _ => rfl
  | v :: q, d :: cs, l, w, c, h => crash_snoc p q cs _ w c (by simpa using h)
/-- The first steps are all, where writes or choices end. -/
theorem crash_take (p : Nat) : ∀ (k : Nat) (q : List W) (cs : List C) (l : List ByteArray), (q.length ≤ k ∨ cs.length ≤ k) → crash p l (q.take k) (cs.take k) = crash p l q cs
  | 0, q, cs, l, h => by
    rcases h with h | h
    · rw [List.eq_nil_of_length_eq_zero (Nat.le_zero.1 h)]; rfl
    · rw [List.eq_nil_of_length_eq_zero (Nat.le_zero.1 h), List.take_nil, crash_nil, crash_nil]
  | k + 1, [], cs, l, h => by rw [List.take_nil, crash_none, crash_none]
  | k + 1, w :: q, [], l, h => by rw [List.take_nil, crash_nil, crash_nil]
  | k + 1, w :: q, c :: cs, l, h => by
    rw [List.take_succ_cons, List.take_succ_cons, crash, crash]
    exact crash_take p k q cs _ (by simpa using h)
/-- All pages have the size. -/
def Sized (p : Nat) (l : List ByteArray) : Prop := ∀ s ∈ l, s.size = p
theorem Sized.nil (p : Nat) : Sized p [] := fun s h => by simp at h
theorem Sized.page {p : Nat} {l : List ByteArray} (h : Sized p l) (i : Nat) : (page (zero p) l i).size = p := by
  unfold DP.page
  rw [List.getD_eq_getElem?_getD]
  cases hc : l[i]? with
  | none => exact zero_size p
  | some s => exact h s (List.mem_of_getElem? hc)
theorem Sized.put {p : Nat} {l : List ByteArray} (h : Sized p l) (w : W) (hw : w.s.size = p) : Sized p (put (zero p) l w) := fun s hs => by
  obtain ⟨i, hi⟩ := List.getElem?_of_mem hs
  by_cases e : i = w.i
  · subst e; rw [put_at] at hi; rw [← Option.some.inj hi]; exact hw
  · rw [put_other _ _ _ _ e] at hi
    split at hi
    · exact h s (List.mem_of_getElem? hi)
    split at hi
    · rw [← Option.some.inj hi]; exact zero_size p
    · cases hi
theorem Sized.all {p : Nat} : ∀ {q : List W} {l : List ByteArray}, Sized p l → (∀ w ∈ q, w.s.size = p) → Sized p (all (zero p) l q)
  | [], l, h, _ => h
  | w :: q, l, h, k => Sized.all (q := q) (h.put w (k w (by simp))) (fun v hv => k v (by simp [hv]))
theorem Sized.chosen {p : Nat} {l : List ByteArray} (h : Sized p l) (w : W) (hw : w.s.size = p) (c : C) : Sized p (chosen p l w c) := by
  unfold DP.chosen
  split
  · exact h.put w hw
  split
  · exact h.put _ (torn_size p _ _ _ (h.page _) hw)
  · exact h
theorem Sized.crash {p : Nat} : ∀ {q : List W} {cs : List C} {l : List ByteArray}, Sized p l → (∀ w ∈ q, w.s.size = p) → Sized p (crash p l q cs)
  | [], cs, l, h, _ => by rw [crash_none]; exact h
  | w :: q, [], l, h, _ => by rw [crash_nil]; exact h
  | w :: q, c :: cs, l, h, k => Sized.crash (q := q) (cs := cs) (h.chosen w (k w (by simp)) c) (fun v hv => k v (by simp [hv]))
/-- A crash with all writes whole, or torn behind their last bytes, leaves what is read. -/
theorem crash_whole {p : Nat} : ∀ {q : List W} {cs : List C} {l : List ByteArray}, Sized p l → (∀ w ∈ q, w.s.size = p) → q.length = cs.length → (∀ c ∈ cs, c.k = 1 ∨ c.k = 2 ∧ p ≤ c.at_) → crash p l q cs = all (zero p) l q
  | [], [], l, _, _, _, _ => rfl
  | w :: q, c :: cs, l, h, k, hl, hc => by
    have e : chosen p l w c = put (zero p) l w := by
      unfold chosen
      rcases hc c (by simp) with h1 | ⟨h1, h2⟩
      · rw [if_pos h1]
      · rw [if_neg (by omega), if_pos h1, torn_whole p _ _ _ (h.page _) (k w (by simp)) h2]
    rw [crash, e]
    exact crash_whole (h.put w (k w (by simp))) (fun v hv => k v (by simp [hv])) (by simpa using hl) (fun d hd => hc d (by simp [hd]))

/-- A disk: the size, the room, pages that are kept, writes that are pending, calls till it stops, reads. -/
structure D where
  p : Nat
  room : Nat
  kept : List ByteArray
  q : List W
  left : Option Nat
  reads : Nat
def D.all (d : D) : List ByteArray := DP.all (zero d.p) d.kept d.q
def D.len (d : D) : Nat := DP.len d.kept.length d.q
theorem D.all_length (d : D) : d.all.length = d.len := DP.all_length _ _ _
def D.less (d : D) : Option Nat := d.left.map fun n => n - 1
/-- Calls, with the error that each answers. -/
def D.write (d : D) (i : Int) (s : ByteArray) : D × Int :=
  if d.left = some 0 then (d, 9) else if i < 0 ∨ s.size ≠ d.p then (d, 4) else if (d.room : Int) ≤ i then (d, 2) else
  ({ d with q := d.q ++ [⟨i.toNat, s⟩], left := d.less }, 0)
def D.sync (d : D) : D × Int := if d.left = some 0 then (d, 9) else ({ d with kept := d.all, q := [], left := d.less }, 0)
def D.limit (d : D) (n : Int) : D := { d with left := some n.toNat }
def D.read (d : D) (i : Int) : D × ByteArray × Int := ({ d with reads := d.reads + 1 }, if 0 ≤ i ∧ i < d.len then (page (zero d.p) d.all i.toNat, 0) else (⟨#[]⟩, 4))
def D.crash (d : D) (cs : List C) : D := { d with kept := DP.crash d.p d.kept d.q cs, q := [], left := none }
/-- What always holds of a disk. -/
structure D.Ok (d : D) : Prop where
  sized : Sized d.p d.kept
  fits : d.kept.length ≤ d.room
  whole : ∀ w ∈ d.q, w.s.size = d.p
  inside : ∀ w ∈ d.q, w.i < d.room
theorem len_le {m : Nat} : ∀ {q : List W} {n : Nat}, n ≤ m → (∀ w ∈ q, w.i < m) → len n q ≤ m
  | [], n, h, _ => h
  | w :: q, n, h, k => len_le (q := q) (n := max n (w.i + 1)) (by have := k w (by simp); omega) (fun v hv => k v (by simp [hv]))
theorem D.Ok.len {d : D} (h : d.Ok) : d.len ≤ d.room := len_le h.fits h.inside
theorem D.Ok.write {d : D} (h : d.Ok) (i : Int) (s : ByteArray) : (d.write i s).1.Ok := by
  unfold D.write
  split
  · exact h
  split
  · exact h
  split
  · exact h
  · refine ⟨h.sized, h.fits, fun w hw => ?_, fun w hw => ?_⟩
    · rcases List.mem_append.1 hw with e | e
      · exact h.whole w e
      · rw [List.mem_singleton.1 e]
        exact Decidable.not_not.1 fun hn => by simp_all
    · rcases List.mem_append.1 hw with e | e
      · exact h.inside w e
      · rw [List.mem_singleton.1 e]
        show i.toNat < d.room
        omega
theorem D.Ok.sync {d : D} (h : d.Ok) : d.sync.1.Ok := by
  unfold D.sync
  split
  · exact h
  · exact ⟨h.sized.all h.whole, by have := h.len; rw [← D.all_length] at this; exact this, fun w hw => by simp at hw, fun w hw => by simp at hw⟩
theorem D.Ok.limit {d : D} (h : d.Ok) (n : Int) : (d.limit n).Ok := ⟨h.sized, h.fits, h.whole, h.inside⟩
theorem D.Ok.read {d : D} (h : d.Ok) (i : Int) : (d.read i).1.Ok := ⟨h.sized, h.fits, h.whole, h.inside⟩
theorem chosen_length (p : Nat) (l : List ByteArray) (w : W) (c : C) (m : Nat) (h : l.length ≤ m) (k : w.i < m) : (chosen p l w c).length ≤ m := by
  unfold chosen
  split
  · rw [put_length]; omega
  split
  · rw [put_length]; simp only; omega
  · exact h
theorem crash_length (p m : Nat) : ∀ (q : List W) (cs : List C) (l : List ByteArray), l.length ≤ m → (∀ w ∈ q, w.i < m) → (DP.crash p l q cs).length ≤ m
  | [], cs, l, h, _ => by rw [crash_none]; exact h
  | w :: q, [], l, h, _ => by rw [crash_nil]; exact h
  | w :: q, c :: cs, l, h, k => crash_length p m q cs _ (chosen_length p l w c m h (k w (by simp))) (fun v hv => k v (by simp [hv]))
theorem D.Ok.crash {d : D} (h : d.Ok) (cs : List C) : (d.crash cs).Ok :=
  ⟨h.sized.crash h.whole, crash_length _ _ _ _ _ h.fits h.inside, fun w hw => by simp [D.crash] at hw, fun w hw => by simp [D.crash] at hw⟩
theorem D.write_p (d : D) (i : Int) (s : ByteArray) : (d.write i s).1.p = d.p ∧ (d.write i s).1.room = d.room ∧ (d.write i s).1.reads = d.reads := by
  unfold D.write
  split
  · exact ⟨rfl, rfl, rfl⟩
  split
  · exact ⟨rfl, rfl, rfl⟩
  split <;> exact ⟨rfl, rfl, rfl⟩
theorem D.sync_p (d : D) : d.sync.1.p = d.p ∧ d.sync.1.room = d.room ∧ d.sync.1.reads = d.reads := by
  unfold D.sync
  split <;> exact ⟨rfl, rfl, rfl⟩
/-- What is refused changes nothing. -/
theorem D.write_no (d : D) (i : Int) (s : ByteArray) (h : (d.write i s).2 ≠ 0) : (d.write i s).1 = d := by
  unfold D.write at h ⊢
  split
  · rfl
  split
  · rfl
  split
  · rfl
  · simp_all
theorem D.sync_no (d : D) (h : d.sync.2 ≠ 0) : d.sync.1 = d := by
  unfold D.sync at h ⊢
  split
  · rfl
  · simp_all
/-- A write that goes through. -/
theorem D.write_ok (d : D) (i : Nat) (s : ByteArray) (h : d.left ≠ some 0) (hs : s.size = d.p) (hi : i < d.room) : d.write i s = ({ d with q := d.q ++ [⟨i, s⟩], left := d.less }, 0) := by
  unfold D.write
  rw [if_neg h, if_neg (by omega), if_neg (by omega)]
  rfl
theorem D.sync_ok (d : D) (h : d.left ≠ some 0) : d.sync = ({ d with kept := d.all, q := [], left := d.less }, 0) := by
  unfold D.sync
  rw [if_neg h]

/-- The k-th page of bytes: the last one with bytes 0 behind. -/
def cut (p : Nat) (s : ByteArray) (k : Nat) : ByteArray := s.extract (k * p) (min (k * p + p) s.size) ++ zero (p - (min (k * p + p) s.size - k * p))
def cuts (p : Nat) (s : ByteArray) (n : Nat) : List ByteArray := (List.range n).map (cut p s)
theorem cuts_succ (p : Nat) (s : ByteArray) (n : Nat) : cuts p s (n + 1) = cuts p s n ++ [cut p s n] := by simp [cuts, List.range_succ]
theorem cuts_length (p : Nat) (s : ByteArray) (n : Nat) : (cuts p s n).length = n := by simp [cuts]
theorem cut_size (p : Nat) (s : ByteArray) (k : Nat) (h : k * p ≤ s.size) : (cut p s k).size = p := by
  unfold cut
  rw [ByteArray.size_append, ByteArray.size_extract, zero_size]
  omega
/-- How many pages bytes are. -/
def many (p n : Nat) : Nat := (n + p - 1) / p
theorem many_lt (p n k : Nat) (hp : 0 < p) : k < many p n ↔ k * p < n := by
  unfold many
  rw [Nat.lt_div_iff_mul_lt hp]
  omega
/-- A disk of bytes. -/
def made (p room : Nat) (s : ByteArray) : D := ⟨p, room, cuts p s (many p s.size), [], none, 0⟩
theorem made_ok (p room : Nat) (s : ByteArray) (hp : 0 < p) (h : s.size ≤ room * p) : (made p room s).Ok := by
  refine ⟨fun t ht => ?_, ?_, fun w hw => by simp [made] at hw, fun w hw => by simp [made] at hw⟩
  · obtain ⟨k, hk, rfl⟩ := List.mem_map.1 ht
    have := (many_lt p s.size k hp).1 (List.mem_range.1 hk)
    exact cut_size p s k (by omega)
  · show (cuts p s (many p s.size)).length ≤ room
    rw [cuts_length]
    refine Nat.le_of_not_lt fun hlt => ?_
    have := (many_lt p s.size room hp).1 hlt
    omega
end DP
end Go.Proofs.YtaeiifmdbdhoeaaDoor
