/- Versions of one thing: plain mathematics. -/
import Derived.Test.YtmahigfamgbhfaaKeB
namespace Go.Proofs.Ytmahigfamgbhfaa

/-- a version -/
structure Ver where
  pos : Int
  num : Nat
  val : ByteArray
  gone : Bool
def Ver.zero : Ver := ⟨0, 0, ⟨#[]⟩, false⟩
structure Ver.ok (v : Ver) : Prop where
  pos : (Lit.int .i64 v.pos).wf = true
  num : v.num < 18446744073709551616
  val : v.val.size ≤ maxLen
theorem Ver.zero_ok : Ver.zero.ok := ⟨rfl, by decide, Nat.zero_le _⟩

/-- may a value be, gone or not? -/
def may (val : ByteArray) (gone : Bool) : Bool := rightVal val && (!gone || decide (val.size = 0))
theorem rightVal_none (s : ByteArray) (h : s.size = 0) : rightVal s = true := by
  simp [rightVal, signs, h]
theorem may_gone (s : ByteArray) : may s true = decide (s.size = 0) := by
  by_cases h : s.size = 0
  · simp [may, h, rightVal_none]
  · simp [may, h]
theorem may_there (s : ByteArray) : may s false = rightVal s := by simp [may]

def nth (l : List Ver) (i : Nat) : Ver := l[i]?.getD Ver.zero
theorem nth_lt (l : List Ver) (i : Nat) (h : i < l.length) : nth l i = l[i] := by simp [nth, h]
theorem nth_ge (l : List Ver) (i : Nat) (h : l.length ≤ i) : nth l i = Ver.zero := by simp [nth, List.getElem?_eq_none h]
theorem nth_mem (l : List Ver) (i : Nat) (h : i < l.length) : nth l i ∈ l := by rw [nth_lt l i h]; exact List.getElem_mem h
/-- what stands ahead -/
def ahead (l : List Ver) (i : Nat) : Ver := if i = 0 then Ver.zero else nth l (i - 1)
theorem ahead_zero (l : List Ver) : ahead l 0 = Ver.zero := by simp [ahead]
theorem ahead_succ (l : List Ver) (i : Nat) : ahead l (i + 1) = nth l i := by simp [ahead]
def okAt (l : List Ver) (i : Nat) : Bool :=
  decide ((i = 0 ∨ (nth l i).num = ((ahead l i).num + 1) % 18446744073709551616) ∧ (nth l i).num ≠ 0 ∧ (ahead l i).pos < (nth l i).pos ∧ may (nth l i).val (nth l i).gone = true)
/-- are versions an object's? -/
def rightL (l : List Ver) : Bool := decide (∀ i, i < l.length → okAt l i = true)
theorem rightL_iff (l : List Ver) : rightL l = true ↔ ∀ i, i < l.length → okAt l i = true := by simp [rightL]
theorem okAt_iff (l : List Ver) (i : Nat) : okAt l i = true ↔ ((i = 0 ∨ (nth l i).num = ((ahead l i).num + 1) % 18446744073709551616) ∧ (nth l i).num ≠ 0 ∧ (ahead l i).pos < (nth l i).pos ∧ may (nth l i).val (nth l i).gone = true) := by
  simp only [okAt, decide_eq_true_eq]

theorem right_pos {l : List Ver} (h : ∀ i, i < l.length → okAt l i = true) : ∀ i, i < l.length → 1 ≤ (nth l i).pos := by
  intro i
  induction i with
  | zero =>
    intro hi
    have := ((okAt_iff l 0).1 (h 0 hi)).2.2.1
    rw [ahead_zero] at this
    simp [Ver.zero] at this
    omega
  | succ i ih =>
    intro hi
    have := ((okAt_iff l (i + 1)).1 (h (i + 1) hi)).2.2.1
    rw [ahead_succ] at this
    have := ih (by omega)
    omega
theorem right_lt {l : List Ver} (h : ∀ i, i < l.length → okAt l i = true) (i d : Nat) (hj : i + d + 1 < l.length) : (nth l i).pos < (nth l (i + d + 1)).pos := by
  induction d with
  | zero =>
    have := ((okAt_iff l (i + 1)).1 (h (i + 1) hj)).2.2.1
    rwa [ahead_succ] at this
  | succ d ih =>
    have h1 := ih (by omega)
    have := ((okAt_iff l (i + d + 1 + 1)).1 (h (i + d + 1 + 1) hj)).2.2.1
    rw [ahead_succ] at this
    show _ < (nth l (i + d + 1 + 1)).pos
    omega
def Rises (l : List Ver) : Prop := l.Pairwise fun a b => a.pos < b.pos
theorem right_rises {l : List Ver} (h : rightL l = true) : Rises l := by
  rw [rightL_iff] at h
  rw [Rises, List.pairwise_iff_getElem]
  intro i j hi hj hij
  have := right_lt h i (j - i - 1) (by omega)
  rw [show i + (j - i - 1) + 1 = j by omega] at this
  rwa [nth_lt l i hi, nth_lt l j hj] at this

/-- how many versions are not later than n -/
def upTo (l : List Ver) (n : Int) : Nat := l.countP fun v => decide (v.pos ≤ n)
theorem upTo_le (l : List Ver) (n : Int) : upTo l n ≤ l.length := List.countP_le_length
theorem rises_none {a : Ver} {l : List Ver} (h : Rises (a :: l)) {n : Int} (hn : n < a.pos) : l.countP (fun v => decide (v.pos ≤ n)) = 0 := by
  rw [List.countP_eq_zero]
  intro v hv
  have := (List.pairwise_cons.1 h).1 v hv
  simp
  omega
theorem upTo_iff {l : List Ver} (h : Rises l) (n : Int) : ∀ i (hi : i < l.length), l[i].pos ≤ n ↔ i < upTo l n := by
  induction l with
  | nil => intro i hi; simp at hi
  | cons a l ih =>
    intro i hi
    have ht := (List.pairwise_cons.1 h).2
    by_cases ha : a.pos ≤ n
    · rw [upTo, List.countP_cons_of_pos (by simpa using ha)]
      cases i with
      | zero => simp [ha]
      | succ i => simpa [upTo] using ih ht i (by simpa using hi)
    · have hz := rises_none h (n := n) (by omega)
      rw [upTo, List.countP_cons_of_neg (by simpa using ha), hz]
      cases i with
      | zero => simp; omega
      | succ i =>
        have := (List.pairwise_cons.1 h).1 _ (List.getElem_mem (show i < l.length by simpa using hi))
        simp
        omega
theorem upTo_nth {l : List Ver} (h : Rises l) (n : Int) (i : Nat) (hi : i < l.length) : (nth l i).pos ≤ n ↔ i < upTo l n := by
  rw [nth_lt l i hi]; exact upTo_iff h n i hi
theorem filter_take {l : List Ver} (h : Rises l) (n : Int) : l.filter (fun v => decide (v.pos ≤ n)) = l.take (upTo l n) := by
  induction l with
  | nil => rfl
  | cons a l ih =>
    have ht := (List.pairwise_cons.1 h).2
    by_cases ha : a.pos ≤ n
    · rw [upTo, List.countP_cons_of_pos (by simpa using ha), List.filter_cons_of_pos (by simpa using ha), List.take_succ_cons, ih ht]
      rfl
    · have hz := rises_none h (n := n) (by omega)
      rw [upTo, List.countP_cons_of_neg (by simpa using ha), hz, List.filter_cons_of_neg (by simpa using ha)]
      have := List.countP_eq_length_filter (p := fun v : Ver => decide (v.pos ≤ n)) (l := l)
      rw [hz] at this
      simpa using List.length_eq_zero_iff.1 this.symm
theorem filter_drop {l : List Ver} (h : Rises l) : ∀ i (hi : i < l.length), l.filter (fun v => decide (l[i].pos ≤ v.pos)) = l.drop i := by
  induction l with
  | nil => intro i hi; simp at hi
  | cons a l ih =>
    intro i hi
    obtain ⟨h1, ht⟩ := List.pairwise_cons.1 h
    cases i with
    | zero =>
      rw [List.drop_zero, List.filter_eq_self]
      intro v hv
      rcases List.mem_cons.1 hv with rfl | hv
      · simp
      · have := h1 v hv
        simp
        omega
    | succ i =>
      have hi' : i < l.length := by simpa using hi
      have := h1 _ (List.getElem_mem hi')
      rw [List.drop_succ_cons, ← ih ht i hi', List.filter_cons_of_neg (by simp; omega)]
      rfl

/-- the last one -/
def lastL (l : List Ver) : Ver := nth l (l.length - 1)
def undoL (l : List Ver) (n : Int) : List Ver := l.take (upTo l n)
def cleanL (l : List Ver) (n : Int) : List Ver := l.drop (upTo l n - 1)
def readV (l : List Ver) (n : Int) : Ver := if upTo l n = 0 then Ver.zero else nth l (upTo l n - 1)
def readB (l : List Ver) (n : Int) : Bool := decide (upTo l n ≠ 0)

theorem nth_drop (l : List Ver) (k i : Nat) : nth (l.drop k) i = nth l (k + i) := by simp [nth]
theorem nth_take (l : List Ver) (k i : Nat) (h : i < k) : nth (l.take k) i = nth l i := by simp [nth, h]
theorem right_drop {l : List Ver} (h : rightL l = true) (k : Nat) : rightL (l.drop k) = true := by
  rw [rightL_iff] at *
  intro i hi
  simp at hi
  have h0 := (okAt_iff _ _).1 (h (k + i) (by omega))
  have hp := right_pos h (k + i) (by omega)
  rw [okAt_iff, nth_drop]
  cases i with
  | zero =>
    rw [ahead_zero]
    refine ⟨.inl rfl, h0.2.1, ?_, h0.2.2.2⟩
    simp [Ver.zero]
    simp at hp
    omega
  | succ i =>
    rw [ahead_succ, nth_drop]
    rw [show k + (i + 1) = k + i + 1 by omega, ahead_succ] at h0
    exact ⟨.inr (h0.1.resolve_left (by omega)), h0.2⟩
theorem right_take {l : List Ver} (h : rightL l = true) (k : Nat) : rightL (l.take k) = true := by
  rw [rightL_iff] at *
  intro i hi
  simp at hi
  have h0 := (okAt_iff _ _).1 (h i (by omega))
  rw [okAt_iff, nth_take l k i (by omega)]
  cases i with
  | zero => rw [ahead_zero] at *; exact h0
  | succ i => rw [ahead_succ] at *; rw [nth_take l k i (by omega)]; exact h0
theorem nth_append_left (l : List Ver) (v : Ver) (i : Nat) (h : i < l.length) : nth (l ++ [v]) i = nth l i := by simp [nth, h, List.getElem?_append_left]
theorem nth_append_last (l : List Ver) (v : Ver) : nth (l ++ [v]) l.length = v := by simp [nth]
theorem right_snoc {l : List Ver} (h : rightL l = true) (v : Ver) (hn : v.num = (lastL l).num + 1) (hm : (lastL l).num < 18446744073709551615) (hp : (lastL l).pos < v.pos) (h1 : 1 ≤ v.pos) (hv : may v.val v.gone = true) : rightL (l ++ [v]) = true := by
  rw [rightL_iff] at *
  intro i hi
  simp at hi
  rcases Nat.lt_or_ge i l.length with hlt | hge
  · have h0 := (okAt_iff _ _).1 (h i hlt)
    rw [okAt_iff, nth_append_left l v i hlt]
    cases i with
    | zero => rw [ahead_zero] at *; exact h0
    | succ i => rw [ahead_succ] at *; rw [nth_append_left l v i (by omega)]; exact h0
  · obtain rfl : i = l.length := by omega
    rw [okAt_iff, nth_append_last]
    rcases Nat.eq_zero_or_pos l.length with h0 | h0
    · rw [h0, ahead_zero]
      exact ⟨.inl rfl, by omega, by simp [Ver.zero]; omega, hv⟩
    · obtain ⟨k, hk⟩ : ∃ k, l.length = k + 1 := ⟨l.length - 1, by omega⟩
      have e : ahead (l ++ [v]) l.length = lastL l := by
        rw [hk, ahead_succ, nth_append_left l v k (by omega), lastL, hk]
        rfl
      rw [e]
      exact ⟨.inr (by rw [hn, Nat.mod_eq_of_lt (by omega)]), by omega, hp, hv⟩
theorem rises_last {l : List Ver} (h : Rises l) (v : Ver) (hv : v ∈ l) : v.pos ≤ (lastL l).pos := by
  obtain ⟨i, hi, rfl⟩ := List.getElem_of_mem hv
  rw [lastL, nth_lt l _ (by omega)]
  rcases Nat.lt_or_ge i (l.length - 1) with h1 | h1
  · have := List.pairwise_iff_getElem.1 h i (l.length - 1) hi (by omega) h1
    omega
  · have : i = l.length - 1 := by omega
    subst this
    exact Int.le_refl _
theorem undo_snoc {l : List Ver} (h : Rises l) (v : Ver) (hp : (lastL l).pos < v.pos) : undoL (l ++ [v]) (v.pos - 1) = l := by
  have e : upTo (l ++ [v]) (v.pos - 1) = l.length := by
    rw [upTo, List.countP_append, List.countP_eq_length.2 (fun x hx => by have := rises_last h x hx; simp; omega)]
    simp
    omega
  rw [undoL, e]
  simp
theorem upTo_clean {l : List Ver} (h : Rises l) {n m : Int} (hnm : n ≤ m) : upTo (cleanL l n) m = upTo l m - (upTo l n - 1) ∧ upTo l n - 1 ≤ upTo l m ∧ (upTo l m = 0 → upTo l n = 0) ∧ upTo l n ≤ upTo l m := by
  have hle : upTo l n ≤ upTo l m := List.countP_mono_left (fun v _ hv => by simp at *; omega)
  have e : upTo l m = upTo (l.take (upTo l n - 1)) m + upTo (l.drop (upTo l n - 1)) m := by
    unfold upTo
    rw [← List.countP_append, List.take_append_drop]
  have ht : upTo (l.take (upTo l n - 1)) m = upTo l n - 1 := by
    have hl := upTo_le l n
    rw [upTo, List.countP_eq_length.2, List.length_take]
    · omega
    · intro v hv
      obtain ⟨i, hi, rfl⟩ := List.getElem_of_mem hv
      simp at hi
      have := (upTo_iff h n i (by omega)).2 (by omega)
      simp
      omega
  refine ⟨?_, by omega, by omega, hle⟩
  rw [cleanL]
  omega
theorem read_clean {l : List Ver} (h : Rises l) {n m : Int} (hnm : n ≤ m) : readV (cleanL l n) m = readV l m ∧ readB (cleanL l n) m = readB l m := by
  obtain ⟨h1, h2, h3, h4⟩ := upTo_clean h hnm
  unfold readV readB
  rw [h1]
  by_cases hz : upTo l m = 0
  · rw [hz]; simp
  · have : ¬ upTo l m - (upTo l n - 1) = 0 := by omega
    simp only [hz, this, if_false, ne_eq, not_false_eq_true, decide_true, and_true]
    rw [cleanL, nth_drop]
    congr 1
    omega
theorem last_clean {l : List Ver} (n : Int) : lastL (cleanL l n) = lastL l := by
  have := upTo_le l n
  unfold lastL cleanL
  rw [nth_drop, List.length_drop]
  rcases Nat.eq_zero_or_pos l.length with h0 | h0
  · rw [nth_ge _ _ (by omega), nth_ge _ _ (by omega)]
  · congr 1
    omega
/-- as the document's own: those that are not later; then without those ahead of the version at n -/
theorem undo_filter {l : List Ver} (h : Rises l) (n : Int) : l.filter (fun v => decide (v.pos ≤ n)) = undoL l n := filter_take h n
theorem read_undo {l : List Ver} (n : Int) : (undoL l n).length = upTo l n ∧ (upTo l n ≠ 0 → nth (undoL l n) (upTo l n - 1) = readV l n) := by
  have := upTo_le l n
  refine ⟨by rw [undoL, List.length_take]; omega, fun h => ?_⟩
  rw [undoL, nth_take _ _ _ (by omega), readV, if_neg h]
theorem clean_filter {l : List Ver} (h : Rises l) (n : Int) : l.filter (fun v => !readB l n || decide ((readV l n).pos ≤ v.pos)) = cleanL l n := by
  have hl := upTo_le l n
  unfold readB readV cleanL
  by_cases hz : upTo l n = 0
  · simp [hz]
  · simp only [hz, if_false, ne_eq, not_false_eq_true, decide_true, Bool.not_true, Bool.false_or]
    rw [nth_lt l _ (by omega)]
    exact filter_drop h _ (by omega)
end Go.Proofs.Ytmahigfamgbhfaa
