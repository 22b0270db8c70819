/- Spans, and rows of them: plain mathematics. -/
import Derived.Test.YtbhohedkgeokgaaKeB
namespace Go.Proofs.Ytbhohedkgeokgaa
set_option linter.unusedVariables false
set_option linter.unusedSimpArgs false

theorem toList_inj {a b : ByteArray} (h : a.toList = b.toList) : a = b := by
  rw [ByteArray.toList_eq, ByteArray.toList_eq] at h
  obtain ⟨⟨a⟩⟩ := a
  obtain ⟨⟨b⟩⟩ := b
  simp at h
  rw [h]
theorem key_eq (a b : ByteArray) : (a.toList == b.toList) = decide (a = b) := by
  by_cases h : a = b
  · simp [h]
  · have : ¬ a.toList = b.toList := fun e => h (toList_inj e)
    simp [h, this]

/-- is a text among these? -/
def inK (k : ByteArray) (l : List ByteArray) : Bool := l.any (fun x => decide (k = x))
theorem inK_iff (k : ByteArray) (l : List ByteArray) : inK k l = true ↔ k ∈ l := by simp [inK]
theorem inK_true {k : ByteArray} {l : List ByteArray} (h : k ∈ l) : inK k l = true := (inK_iff k l).2 h
theorem inK_false {k : ByteArray} {l : List ByteArray} (h : ¬ k ∈ l) : inK k l = false := by
  cases e : inK k l
  · rfl
  · exact absurd ((inK_iff k l).1 e) h
theorem inK_of {k : ByteArray} {l : List ByteArray} {b : Bool} (h : b = true ↔ k ∈ l) : b = inK k l := by
  by_cases hm : k ∈ l
  · rw [inK_true hm, h.2 hm]
  · rw [inK_false hm]
    cases b
    · rfl
    · exact absurd (h.1 rfl) hm

abbrev Id := Int × Int
/-- a span: its holder, its numbers, its keys (and where they lie) -/
structure Spn where
  id : Id
  at_ : Int
  till : Int
  rd : List ByteArray
  wr : List ByteArray
  rv : Value
  wv : Value
/-- the document's row -/
structure Rw where
  id : Id
  key : ByteArray
  wri : Bool
  at_ : Int
  till : Int

/-- the program's -/
def holdsS (H : List Spn) (id : Id) : Bool := H.any fun s => decide (s.id = id)
def busyS (H : List Spn) (key : ByteArray) (w : Bool) : Bool := H.any fun s => inK key s.wr || (w && inK key s.rd)
def allR (l : List ByteArray) : Bool := l.all right
def takeE (H : List Spn) (last : Int) (id : Id) (at_ : Int) (rd wr : List ByteArray) : Int :=
  if at_ ≤ last then 1 else if (allR rd && allR wr) = false then 1 else if holdsS H id = true then 7
  else if (rd.any (busyS H · false) || wr.any (busyS H · true)) = true then 11 else 0
def freeE (H : List Spn) (last : Int) (id : Id) (at_ : Int) : Int := if at_ ≤ last then 1 else if holdsS H id = true then 0 else 6
def isW (key : ByteArray) (n : Int) (s : Spn) : Bool := decide (s.at_ ≤ n) && (decide (s.till = 0) || decide (n < s.till)) && inK key s.wr
def writerS (l : List Spn) (key : ByteArray) (n : Int) : Option Id := (l.find? (isW key n)).map Spn.id
/-- the document's -/
def holdsR (L : List Rw) (id : Id) : Bool := L.any fun r => decide (r.till = 0) && decide (r.id = id)
def busyR (L : List Rw) (key : ByteArray) (w : Bool) : Bool := L.any fun r => decide (r.till = 0) && decide (r.key = key) && decide (key ≠ ⟨#[]⟩) && (r.wri || w)
def takeR (L : List Rw) (last : Int) (id : Id) (at_ : Int) (rd wr : List ByteArray) : Int :=
  if at_ ≤ last then 1 else if (allR rd && allR wr) = false then 1 else if holdsR L id = true then 7
  else if (rd.any (busyR L · false) || wr.any (busyR L · true)) = true then 11 else 0
def freeR (L : List Rw) (last : Int) (id : Id) (at_ : Int) : Int := if at_ ≤ last then 1 else if holdsR L id = true then 0 else 6
def endR (id : Id) (at_ : Int) (r : Rw) : Rw := if r.till = 0 ∧ r.id = id then { r with till := at_ } else r
def isWR (key : ByteArray) (n : Int) (r : Rw) : Bool := r.wri && decide (r.key = key) && decide (r.at_ ≤ n) && (decide (r.till = 0) || decide (n < r.till))
def writerR (L : List Rw) (key : ByteArray) (n : Int) : Option Id := (L.find? (isWR key n)).map Rw.id
def lenR (L : List Rw) : Nat := L.countP fun r => decide (r.key = ⟨#[]⟩) && decide (r.till = 0)
/-- a span's rows -/
def newRows (id : Id) (at_ till : Int) (rd wr : List ByteArray) : List Rw := ⟨id, ⟨#[]⟩, false, at_, till⟩ :: (rd.map (fun k => ⟨id, k, false, at_, till⟩) ++ wr.map (fun k => ⟨id, k, true, at_, till⟩))
def rowsOf (s : Spn) : List Rw := newRows s.id s.at_ s.till s.rd s.wr
theorem newRows_length (id : Id) (a t : Int) (rd wr : List ByteArray) : (newRows id a t rd wr).length = 1 + rd.length + wr.length := by simp [newRows]; omega

/-- all spans, in the order in which they were taken -/
def heldG (G : List Spn) : List Spn := G.filter fun s => decide (s.till = 0)
def rowsG (G : List Spn) : List Rw := G.flatMap rowsOf
def endS (id : Id) (at_ : Int) (s : Spn) : Spn := if s.till = 0 ∧ s.id = id then { s with till := at_ } else s

/-- two spans, the second one taken later -/
structure Apart (s t : Spn) : Prop where
  id : s.till = 0 → t.till = 0 → s.id ≠ t.id
  ww : ∀ k, k ∈ s.wr → k ∈ t.wr → s.till ≠ 0 ∧ s.till ≤ t.at_
  wr : s.till = 0 → t.till = 0 → ∀ k, k ∈ s.wr → k ∈ t.rd → False
  rw : s.till = 0 → t.till = 0 → ∀ k, k ∈ s.rd → k ∈ t.wr → False
structure GoodS (last : Int) (s : Spn) : Prop where
  pos : 0 < s.at_
  le : s.at_ ≤ last
  till : s.till = 0 ∨ (0 < s.till ∧ s.till ≤ last)
  rd : ∀ k ∈ s.rd, right k = true
  wr : ∀ k ∈ s.wr, right k = true
structure Inv (G F : List Spn) (last : Int) : Prop where
  nonneg : 0 ≤ last
  good : ∀ s ∈ G, GoodS last s
  apart : G.Pairwise Apart
  freed : ∀ key n id, (∃ f ∈ F, f.id = id ∧ isW key n f = true) ↔ (∃ s ∈ G, s.till ≠ 0 ∧ s.id = id ∧ isW key n s = true)

theorem right_ne {k : ByteArray} (h : right k = true) : k ≠ ⟨#[]⟩ := by
  intro e
  rw [e] at h
  exact absurd h (by decide)

theorem holds_rows (G : List Spn) (id : Id) : holdsR (rowsG G) id = holdsS (heldG G) id := by
  rw [Bool.eq_iff_iff]
  simp only [holdsR, holdsS, List.any_eq_true, rowsG, heldG, List.mem_flatMap, List.mem_filter, Bool.and_eq_true, decide_eq_true_eq]
  constructor
  · rintro ⟨r, ⟨s, hs, hr⟩, h1, h2⟩
    refine ⟨s, ⟨hs, ?_⟩, ?_⟩
    · simp only [rowsOf, newRows, List.mem_cons, List.mem_append, List.mem_map] at hr
      rcases hr with rfl | ⟨_, _, rfl⟩ | ⟨_, _, rfl⟩ <;> exact h1
    · simp only [rowsOf, newRows, List.mem_cons, List.mem_append, List.mem_map] at hr
      rcases hr with rfl | ⟨_, _, rfl⟩ | ⟨_, _, rfl⟩ <;> exact h2
  · rintro ⟨s, ⟨hs, h1⟩, h2⟩
    exact ⟨⟨s.id, ⟨#[]⟩, false, s.at_, s.till⟩, ⟨s, hs, by simp [rowsOf, newRows]⟩, h1, h2⟩

theorem busy_rows (G : List Spn) (key : ByteArray) (w : Bool) (last : Int) (hg : ∀ s ∈ G, GoodS last s) : busyR (rowsG G) key w = busyS (heldG G) key w := by
  rw [Bool.eq_iff_iff]
  simp only [busyR, busyS, List.any_eq_true, rowsG, heldG, List.mem_flatMap, List.mem_filter, Bool.and_eq_true, Bool.or_eq_true, decide_eq_true_eq, inK_iff]
  constructor
  · rintro ⟨r, ⟨s, hs, hr⟩, ⟨⟨h1, h2⟩, h3⟩, h4⟩
    simp only [rowsOf, newRows, List.mem_cons, List.mem_append, List.mem_map] at hr
    rcases hr with rfl | ⟨k, hk, rfl⟩ | ⟨k, hk, rfl⟩
    · exact absurd h2.symm h3
    · simp only at h1 h2 h4
      subst h2
      exact ⟨s, ⟨hs, h1⟩, .inr ⟨by simpa using h4, hk⟩⟩
    · simp only at h1 h2
      subst h2
      exact ⟨s, ⟨hs, h1⟩, .inl hk⟩
  · rintro ⟨s, ⟨hs, h1⟩, h2 | ⟨h2, h3⟩⟩
    · exact ⟨⟨s.id, key, true, s.at_, s.till⟩, ⟨s, hs, by simp [rowsOf, newRows]; exact h2⟩, ⟨⟨h1, rfl⟩, right_ne ((hg s hs).wr key h2)⟩, .inl rfl⟩
    · exact ⟨⟨s.id, key, false, s.at_, s.till⟩, ⟨s, hs, by simp [rowsOf, newRows]; exact .inr h3⟩, ⟨⟨h1, rfl⟩, right_ne ((hg s hs).rd key h3)⟩, .inr h2⟩

theorem len_rows (G : List Spn) (last : Int) (hg : ∀ s ∈ G, GoodS last s) : lenR (rowsG G) = (heldG G).length := by
  induction G with
  | nil => rfl
  | cons s G ih =>
    have h0 := hg s (by simp)
    have e1 : rowsG (s :: G) = rowsOf s ++ rowsG G := by simp [rowsG]
    have ih := ih (fun t ht => hg t (by simp [ht]))
    have z : ∀ (l : List ByteArray) (b : Bool), (∀ k ∈ l, right k = true) → (l.map fun k => (⟨s.id, k, b, s.at_, s.till⟩ : Rw)).countP (fun r => decide (r.key = ⟨#[]⟩) && decide (r.till = 0)) = 0 := by
      intro l b hl
      rw [List.countP_eq_zero]
      intro r hr
      obtain ⟨k, hk, rfl⟩ := List.mem_map.1 hr
      simp [right_ne (hl k hk)]
    unfold lenR at ih ⊢
    rw [e1, List.countP_append, ih]
    rw [rowsOf, newRows, List.countP_cons, List.countP_append, z _ _ h0.rd, z _ _ h0.wr]
    by_cases ht : s.till = 0 <;> simp [heldG, ht] <;> omega

theorem take_rows (G F : List Spn) (last : Int) (h : Inv G F last) (id : Id) (a : Int) (rd wr : List ByteArray) : takeR (rowsG G) last id a rd wr = takeE (heldG G) last id a rd wr := by
  have e : ∀ w, (fun k => busyR (rowsG G) k w) = (fun k => busyS (heldG G) k w) := fun w => funext fun k => busy_rows G k w last h.good
  simp only [takeR, takeE, holds_rows, e]
theorem free_rows (G : List Spn) (last : Int) (id : Id) (a : Int) : freeR (rowsG G) last id a = freeE (heldG G) last id a := by simp only [freeR, freeE, holds_rows]

theorem end_rows (id : Id) (a : Int) (G : List Spn) : (rowsG G).map (endR id a) = rowsG (G.map (endS id a)) := by
  induction G with
  | nil => rfl
  | cons s G ih =>
    have e1 : ∀ (s : Spn) G, rowsG (s :: G) = rowsOf s ++ rowsG G := fun s G => by simp [rowsG]
    rw [List.map_cons, e1, e1, List.map_append, ih]
    congr 1
    by_cases h : s.till = 0 ∧ s.id = id
    · simp [rowsOf, newRows, endR, endS, h, Function.comp_def]
    · simp [rowsOf, newRows, endR, endS, h, Function.comp_def]

theorem take_rows_new (G : List Spn) (s : Spn) : rowsG (G ++ [s]) = rowsG G ++ newRows s.id s.at_ s.till s.rd s.wr := by simp [rowsG, rowsOf]
theorem held_new (G : List Spn) (s : Spn) (h : s.till = 0) : heldG (G ++ [s]) = heldG G ++ [s] := by simp [heldG, h]

theorem isW_mem {key : ByteArray} {n : Int} {s : Spn} (h : isW key n s = true) : key ∈ s.wr ∧ s.at_ ≤ n ∧ (s.till = 0 ∨ n < s.till) := by
  simp only [isW, Bool.and_eq_true, Bool.or_eq_true, decide_eq_true_eq, inK_iff] at h
  exact ⟨h.2, h.1.1, h.1.2⟩

/-- at most one writes -/
theorem one_writer {G : List Spn} (h : G.Pairwise Apart) {key : ByteArray} {n : Int} {s t : Spn} (hs : s ∈ G) (ht : t ∈ G) (h1 : isW key n s = true) (h2 : isW key n t = true) : s = t := by
  obtain ⟨a1, a2, a3⟩ := isW_mem h1
  obtain ⟨b1, b2, b3⟩ := isW_mem h2
  induction G with
  | nil => cases hs
  | cons r G ih =>
    rw [List.pairwise_cons] at h
    rcases List.mem_cons.1 hs with rfl | hs' <;> rcases List.mem_cons.1 ht with rfl | ht'
    · rfl
    · have := (h.1 t ht').ww key a1 b1
      rcases a3 with a3 | a3 <;> omega
    · have := (h.1 s hs').ww key b1 a1
      rcases b3 with b3 | b3 <;> omega
    · exact ih h.2 hs' ht'

theorem writer_rows_find (G : List Spn) (key : ByteArray) (n : Int) : writerR (rowsG G) key n = (G.find? (isW key n)).map Spn.id := by
  induction G with
  | nil => rfl
  | cons s G ih =>
    have e1 : rowsG (s :: G) = rowsOf s ++ rowsG G := by simp [rowsG]
    unfold writerR at ih ⊢
    rw [e1, List.find?_append, List.find?_cons]
    cases hw : isW key n s
    · have : (rowsOf s).find? (isWR key n) = none := by
        rw [List.find?_eq_none]
        intro r hr hc
        simp only [rowsOf, newRows, List.mem_cons, List.mem_append, List.mem_map] at hr
        rcases hr with rfl | ⟨k, hk, rfl⟩ | ⟨k, hk, rfl⟩
        · simp [isWR] at hc
        · simp [isWR] at hc
        · simp only [isWR, Bool.and_eq_true, Bool.or_eq_true, decide_eq_true_eq, inK_iff] at hc
          have : isW key n s = true := by
            simp only [isW, Bool.and_eq_true, Bool.or_eq_true, decide_eq_true_eq, inK_iff]
            exact ⟨⟨hc.1.2, hc.2⟩, by rw [← hc.1.1.2]; exact hk⟩
          rw [hw] at this
          cases this
      rw [this]
      exact ih
    · obtain ⟨a1, a2, a3⟩ := isW_mem hw
      cases hf : (rowsOf s).find? (isWR key n) with
      | none =>
        rw [List.find?_eq_none] at hf
        have := hf ⟨s.id, key, true, s.at_, s.till⟩ (by simp [rowsOf, newRows]; exact a1)
        simp [isWR] at this
        rcases a3 with a3 | a3 <;> omega
      | some r =>
        have hr := List.mem_of_find?_eq_some hf
        simp only [rowsOf, newRows, List.mem_cons, List.mem_append, List.mem_map] at hr
        rcases hr with rfl | ⟨k, hk, rfl⟩ | ⟨k, hk, rfl⟩ <;> rfl

theorem writer_rows (G F : List Spn) (last : Int) (h : Inv G F last) (key : ByteArray) (n : Int) : writerR (rowsG G) key n = writerS (heldG G ++ F) key n := by
  rw [writer_rows_find, writerS]
  cases hf : (heldG G ++ F).find? (isW key n) with
  | none =>
    rw [List.find?_eq_none] at hf
    cases hg : G.find? (isW key n) with
    | none => rfl
    | some s =>
      exfalso
      have hs := List.mem_of_find?_eq_some hg
      have hw := List.find?_some hg
      by_cases ht : s.till = 0
      · exact hf s (by simp [heldG, hs, ht]) hw
      · obtain ⟨f, hf1, _, hf2⟩ := (h.freed key n s.id).2 ⟨s, hs, ht, rfl, hw⟩
        exact hf f (by simp [hf1]) hf2
  | some f =>
    have hm := List.mem_of_find?_eq_some hf
    have hw := List.find?_some hf
    obtain ⟨s, hs, hsw, hid⟩ : ∃ s ∈ G, isW key n s = true ∧ s.id = f.id := by
      rcases List.mem_append.1 hm with hm | hm
      · exact ⟨f, (List.mem_filter.1 hm).1, hw, rfl⟩
      · obtain ⟨s, h1, _, h2, h3⟩ := (h.freed key n f.id).1 ⟨f, hm, rfl, hw⟩
        exact ⟨s, h1, h3, h2⟩
    cases hg : G.find? (isW key n) with
    | none =>
      rw [List.find?_eq_none] at hg
      exact absurd hsw (hg s hs)
    | some t =>
      have e := one_writer h.apart (List.mem_of_find?_eq_some hg) hs (List.find?_some hg) hsw
      simp [e, hid]

theorem Inv.nil : Inv [] [] 0 := ⟨Int.le_refl _, by simp, by simp, by simp⟩

/-- one more is taken -/
theorem Inv.take {G F : List Spn} {last : Int} (h : Inv G F last) {s : Spn} (ht : s.till = 0) (he : takeE (heldG G) last s.id s.at_ s.rd s.wr = 0) : Inv (G ++ [s]) F s.at_ := by
  unfold takeE at he
  by_cases h1 : s.at_ ≤ last
  · rw [if_pos h1] at he; cases he
  rw [if_neg h1] at he
  by_cases h2 : (allR s.rd && allR s.wr) = false
  · rw [if_pos h2] at he; cases he
  rw [if_neg h2] at he
  by_cases h3 : holdsS (heldG G) s.id = true
  · rw [if_pos h3] at he; cases he
  rw [if_neg h3] at he
  by_cases h4 : (s.rd.any (busyS (heldG G) · false) || s.wr.any (busyS (heldG G) · true)) = true
  · rw [if_pos h4] at he; cases he
  simp only [Bool.not_eq_false, Bool.and_eq_true, allR, List.all_eq_true] at h2
  simp only [holdsS, List.any_eq_true, decide_eq_true_eq, heldG, List.mem_filter, not_exists, not_and] at h3
  simp only [Bool.or_eq_true, List.any_eq_true, busyS, heldG, List.mem_filter, decide_eq_true_eq, not_or, not_exists, not_and, Bool.and_eq_true, inK_iff] at h4
  obtain ⟨h4a, h4b⟩ := h4
  have hl := h.nonneg
  refine ⟨by omega, ?_, ?_, ?_⟩
  · intro r hr
    rcases List.mem_append.1 hr with hr | hr
    · obtain ⟨g1, g2, g3, g4, g5⟩ := h.good r hr
      exact ⟨g1, by omega, by omega, g4, g5⟩
    · simp at hr
      subst hr
      exact ⟨by omega, Int.le_refl _, .inl ht, h2.1, h2.2⟩
  · rw [List.pairwise_append]
    refine ⟨h.apart, by simp, ?_⟩
    intro r hr t hr'
    simp at hr'
    subst hr'
    obtain ⟨g1, g2, g3, g4, g5⟩ := h.good r hr
    refine ⟨fun e _ => h3 r ⟨hr, e⟩, fun k k1 k2 => ?_, fun e _ k k1 k2 => ?_, fun e _ k k1 k2 => ?_⟩
    · by_cases e : r.till = 0
      · exact absurd k1 (h4b k k2 r ⟨hr, e⟩).1
      · exact ⟨e, by omega⟩
    · exact (h4a k k2 r ⟨hr, e⟩).1 k1
    · exact (h4b k k2 r ⟨hr, e⟩).2 trivial k1
  · intro key n id
    rw [h.freed key n id]
    constructor
    · rintro ⟨r, hr, h5⟩
      exact ⟨r, by simp [hr], h5⟩
    · rintro ⟨r, hr, h5, h6⟩
      rcases List.mem_append.1 hr with hr | hr
      · exact ⟨r, hr, h5, h6⟩
      · simp at hr
        subst hr
        exact absurd ht h5

theorem endS_id (id : Id) (a : Int) (s : Spn) : (endS id a s).id = s.id ∧ (endS id a s).at_ = s.at_ ∧ (endS id a s).rd = s.rd ∧ (endS id a s).wr = s.wr := by
  unfold endS
  split <;> exact ⟨rfl, rfl, rfl, rfl⟩
theorem endS_till (id : Id) (a : Int) (ha : a ≠ 0) (s : Spn) : (endS id a s).till = 0 ↔ s.till = 0 ∧ s.id ≠ id := by
  unfold endS
  split
  · rename_i h
    exact ⟨fun e => absurd e ha, fun e => absurd h.2 e.2⟩
  · rename_i h
    exact ⟨fun e => ⟨e, fun e' => h ⟨e, e'⟩⟩, fun e => e.1⟩
theorem endS_not (id : Id) (a : Int) (s : Spn) (h : s.till ≠ 0) : endS id a s = s := by
  unfold endS
  rw [if_neg (fun e => h e.1)]

/-- what is left of those that are held -/
theorem held_end (id : Id) (a : Int) (ha : a ≠ 0) (G : List Spn) (hp : G.Pairwise Apart) : heldG (G.map (endS id a)) = (heldG G).eraseP (fun s => decide (s.id = id)) := by
  have none_left : ∀ G : List Spn, (∀ s ∈ G, s.till = 0 → s.id ≠ id) → heldG (G.map (endS id a)) = heldG G := by
    intro G h
    induction G with
    | nil => rfl
    | cons s G ih =>
      have ih := ih (fun t ht => h t (by simp [ht]))
      have e : endS id a s = s := by
        unfold endS
        rw [if_neg (fun e => h s (by simp) e.1 e.2)]
      rw [List.map_cons, e]
      unfold heldG at ih ⊢
      rw [List.filter_cons, List.filter_cons, ih]
  induction G with
  | nil => rfl
  | cons s G ih =>
    rw [List.pairwise_cons] at hp
    have ih := ih hp.2
    rw [List.map_cons]
    by_cases ht : s.till = 0
    · by_cases hi : s.id = id
      · have e1 : heldG (endS id a s :: G.map (endS id a)) = heldG (G.map (endS id a)) := by
          unfold heldG
          rw [List.filter_cons, if_neg (by simp [endS_till id a ha, hi])]
        have e2 : heldG (s :: G) = s :: heldG G := by simp [heldG, ht]
        rw [e1, e2, List.eraseP_cons_of_pos (by simp [hi])]
        refine none_left G (fun t htG ht0 => ?_)
        have := (hp.1 t htG).id ht ht0
        rw [hi] at this
        exact fun e => this e.symm
      · have e0 : endS id a s = s := by unfold endS; rw [if_neg (fun e => hi e.2)]
        have e1 : heldG (s :: G.map (endS id a)) = s :: heldG (G.map (endS id a)) := by simp [heldG, ht]
        have e2 : heldG (s :: G) = s :: heldG G := by simp [heldG, ht]
        rw [e0, e1, e2, List.eraseP_cons_of_neg (by simp [hi]), ih]
    · have e1 : heldG (endS id a s :: G.map (endS id a)) = heldG (G.map (endS id a)) := by
        unfold heldG
        rw [List.filter_cons, if_neg (by simp [endS_till id a ha, ht])]
      have e2 : heldG (s :: G) = heldG G := by simp [heldG, ht]
      rw [e1, e2, ih]

/-- what is kept of one that is freed -/
def keptS (s : Spn) (a : Int) : Spn := ⟨s.id, s.at_, a, [], s.wr, .slice none 0 0, s.wv⟩
def keepF (F : List Spn) (s : Spn) (a : Int) : List Spn := if s.wr = [] then F else F ++ [keptS s a]

theorem Inv.free {G F : List Spn} {last : Int} (h : Inv G F last) (id : Id) (a : Int) (ha : last < a) {s : Spn} (hs : s ∈ heldG G) (hi : s.id = id) : Inv (G.map (endS id a)) (keepF F s a) a := by
  have hl := h.nonneg
  have ha0 : a ≠ 0 := by omega
  obtain ⟨hsG, hst⟩ := List.mem_filter.1 hs
  simp only [decide_eq_true_eq] at hst
  refine ⟨by omega, ?_, ?_, ?_⟩
  · intro r hr
    obtain ⟨t, ht, rfl⟩ := List.mem_map.1 hr
    obtain ⟨g1, g2, g3, g4, g5⟩ := h.good t ht
    obtain ⟨e1, e2, e3, e4⟩ := endS_id id a t
    refine ⟨by omega, by omega, ?_, by rw [e3]; exact g4, by rw [e4]; exact g5⟩
    unfold endS
    split
    · exact .inr ⟨by show 0 < a; omega, Int.le_refl _⟩
    · omega
  · rw [List.pairwise_map]
    refine h.apart.imp ?_
    intro r t hrt
    obtain ⟨e1, e2, e3, e4⟩ := endS_id id a r
    obtain ⟨d1, d2, d3, d4⟩ := endS_id id a t
    refine ⟨fun k1 k2 => ?_, fun k k1 k2 => ?_, fun k1 k2 => ?_, fun k1 k2 => ?_⟩
    · rw [e1, d1]
      exact hrt.id ((endS_till id a ha0 r).1 k1).1 ((endS_till id a ha0 t).1 k2).1
    · rw [e4] at k1
      rw [d4] at k2
      obtain ⟨q1, q2⟩ := hrt.ww k k1 k2
      rw [endS_not id a r q1, d2]
      exact ⟨q1, q2⟩
    · rw [e4, d3]
      exact hrt.wr ((endS_till id a ha0 r).1 k1).1 ((endS_till id a ha0 t).1 k2).1
    · rw [e3, d4]
      exact hrt.rw ((endS_till id a ha0 r).1 k1).1 ((endS_till id a ha0 t).1 k2).1
  · intro key n x
    have kept : isW key n (keptS s a) = isW key n (endS id a s) := by
      unfold endS
      rw [if_pos ⟨hst, hi⟩]
      rfl
    have only : ∀ t ∈ G, t.till = 0 → t.id = id → t = s := by
      intro t ht h1 h2
      have hp := h.apart
      clear kept h hs
      induction G with
      | nil => cases ht
      | cons r G ih =>
        rw [List.pairwise_cons] at hp
        rcases List.mem_cons.1 ht with rfl | ht' <;> rcases List.mem_cons.1 hsG with rfl | hs'
        · rfl
        · exact absurd (h2.trans hi.symm) ((hp.1 s hs').id h1 hst)
        · exact absurd (hi.trans h2.symm) ((hp.1 t ht').id hst h1)
        · exact ih hs' ht' hp.2
    constructor
    · rintro ⟨f, hf, h1, h2⟩
      have old : (∃ f ∈ F, f.id = x ∧ isW key n f = true) → ∃ s ∈ G.map (endS id a), s.till ≠ 0 ∧ s.id = x ∧ isW key n s = true := by
        intro hh
        obtain ⟨t, k1, k2, k3⟩ := (h.freed key n x).1 hh
        exact ⟨t, List.mem_map.2 ⟨t, k1, endS_not id a t k2⟩, k2, k3⟩
      unfold keepF at hf
      split at hf
      · exact old ⟨f, hf, h1, h2⟩
      · rcases List.mem_append.1 hf with hf | hf
        · exact old ⟨f, hf, h1, h2⟩
        · simp at hf
          subst hf
          refine ⟨endS id a s, List.mem_map.2 ⟨s, hsG, rfl⟩, fun e => ((endS_till id a ha0 s).1 e).2 hi, ?_, ?_⟩
          · rw [(endS_id id a s).1]; exact h1
          · rw [← kept]; exact h2
    · rintro ⟨r, hr, h1, h2, h3⟩
      obtain ⟨t, ht, rfl⟩ := List.mem_map.1 hr
      by_cases h4 : t.till = 0
      · have h5 : t.id = id := by
          by_cases e : t.id = id
          · exact e
          · exact absurd ((endS_till id a ha0 t).2 ⟨h4, e⟩) h1
        have h6 := only t ht h4 h5
        subst h6
        have hw : t.wr ≠ [] := by
          intro e
          have := (isW_mem h3).1
          rw [(endS_id id a t).2.2.2, e] at this
          cases this
        refine ⟨keptS t a, ?_, ?_, by rw [kept]; exact h3⟩
        · unfold keepF; rw [if_neg hw]; simp
        · rw [(endS_id id a t).1] at h2; exact h2
      · rw [endS_not id a t h4] at h2 h3
        obtain ⟨f, k1, k2⟩ := (h.freed key n x).2 ⟨t, ht, h4, h2, h3⟩
        refine ⟨f, ?_, k2⟩
        unfold keepF
        split
        · exact k1
        · simp [k1]
end Go.Proofs.Ytbhohedkgeokgaa
