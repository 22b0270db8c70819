/- Bursts of turned bits and the cyclic sum: plain arithmetic. -/
import Derived.Test.YtmlpneiadkngaaaDoorCrcLin
namespace Go.Proofs.YtmlpneiadkngaaaDoor.Crc

theorem step_double (x : Nat) : step (2 * x) = x := by
  unfold step
  rw [if_neg (by omega)]
  simp
theorem steps_add (a b s : Nat) : steps (a + b) s = steps a (steps b s) := by
  induction a with
  | zero => simp [steps]
  | succ a ih => rw [Nat.succ_add]; simp only [steps, ih]
theorem steps_pow (k b : Nat) : steps k (2 ^ k * b) = b := by
  induction k generalizing b with
  | zero => simp [steps]
  | succ k ih =>
    have e : 2 ^ (k + 1) * b = 2 ^ k * (2 * b) := by rw [Nat.pow_succ, Nat.mul_assoc]
    rw [e]
    show step (steps k (2 ^ k * (2 * b))) = b
    rw [ih, step_double]
theorem add_xor (k x y : Nat) (h : x < 2 ^ k) : x + 2 ^ k * y = x ^^^ 2 ^ k * y := by
  have h1 := Nat.two_pow_add_eq_or_of_lt h y
  have h2 : (2 ^ k * y) &&& x = 0 := by
    apply Nat.eq_of_testBit_eq
    intro i
    simp only [Nat.testBit_and, Nat.zero_testBit, Bool.and_eq_false_iff]
    by_cases hi : i < k
    · left
      simp only [Nat.testBit_two_pow_mul, Bool.and_eq_false_iff, decide_eq_false_iff_not]
      left
      omega
    · right
      exact Nat.testBit_lt_two_pow (Nat.lt_of_lt_of_le h (Nat.pow_le_pow_right (by omega) (by omega)))
  have h3 : (2 ^ k * y) ||| x = (2 ^ k * y) ^^^ x := by
    apply Nat.eq_of_testBit_eq
    intro i
    have h4 := congrArg (fun z => z.testBit i) h2
    simp only [Nat.testBit_and, Nat.zero_testBit] at h4
    simp only [Nat.testBit_or, Nat.testBit_xor]
    revert h4
    cases (2 ^ k * y).testBit i <;> cases x.testBit i <;> simp
  rw [Nat.add_comm, h1, h3, Nat.xor_comm]
theorem low_cons (x : Nat) (l : List Nat) (h : x < 256) : low (x :: l) = x ^^^ 2 ^ 8 * low l := by
  rw [← add_xor 8 x _ (by omega)]
  rfl
theorem more_low (l : List Nat) : ∀ t, (∀ x ∈ l, x < 256) → more t l = steps (8 * l.length) (t ^^^ low l) := by
  induction l with
  | nil => intro t _; simp [more, steps, low]
  | cons x l ih =>
    intro t h
    have hx := h x (by simp)
    show more (behind t x) l = _
    rw [ih _ (fun y hy => h y (by simp [hy])), low_cons x l hx, List.length_cons, Nat.mul_add, steps_add]
    congr 1
    rw [← Nat.xor_assoc, show 8 * 1 = 8 from rfl, steps_xor 8, steps_pow]
    rfl
theorem step_pos (x : Nat) (h0 : x ≠ 0) (h : x < 4294967296) : step x ≠ 0 := by
  unfold step
  split
  · intro h1
    have h2 : x / 2 = 3988292384 := by
      have := congrArg (· ^^^ 3988292384) h1
      simpa [Nat.xor_assoc] using this
    omega
  · simp; omega
theorem steps_pos (k x : Nat) (h0 : x ≠ 0) (h : x < 4294967296) : steps k x ≠ 0 := by
  induction k with
  | zero => exact h0
  | succ k ih => exact step_pos _ ih (steps_lt k x h)
theorem whole_rest (l : List Nat) (h : ∀ x ∈ l, x < 256) (hw : whole l = true) : more 4294967295 l = steps 32 4294967295 := by
  unfold whole at hw
  rw [Bool.and_eq_true, decide_eq_true_eq] at hw
  obtain ⟨h4, hw⟩ := hw
  unfold wholeB at hw
  rw [beq_iff_eq] at hw
  have hw' : of (l.take (l.length - 4)) = low (l.drop (l.length - 4)) := by omega
  have e : more 4294967295 l = more (more 4294967295 (l.take (l.length - 4))) (l.drop (l.length - 4)) := by rw [← more_append, List.take_append_drop]
  rw [e, more_low _ _ (fun x hx => h x (List.mem_of_mem_drop hx)), ← hw']
  have e2 : 8 * (l.drop (l.length - 4)).length = 32 := by simp; omega
  rw [e2]
  congr 1
  unfold of
  rw [← Nat.xor_assoc, Nat.xor_self, Nat.zero_xor]
theorem burst (s c : List Nat) (fr b : Nat) (hs : ∀ x ∈ s, x < 256) (hc : ∀ x ∈ c, x < 256) (hl : c.length = s.length) (hlow : low c = low s ^^^ 2 ^ fr * b) (hfr : fr + 32 ≤ 8 * s.length) (hb : b ≠ 0) (hb2 : b < 4294967296)
    (hw : whole s = true) : whole c = false := by
  cases hcw : whole c with
  | false => rfl
  | true =>
    exfalso
    have h1 := whole_rest s hs hw
    have h2 := whole_rest c hc hcw
    rw [more_low _ _ hs] at h1
    rw [more_low _ _ hc, hl, hlow, ← Nat.xor_assoc, steps_xor, h1] at h2
    have h3 : steps (8 * s.length) (2 ^ fr * b) = 0 := by
      have := congrArg (steps 32 4294967295 ^^^ ·) h2
      simpa [← Nat.xor_assoc] using this
    have e : 8 * s.length = (8 * s.length - fr) + fr := by omega
    rw [e, steps_add, steps_pow] at h3
    exact steps_pos _ b hb hb2 h3

theorem low_set (l : List Nat) : ∀ (j r : Nat), (∀ x ∈ l, x < 256) → j < l.length → r < 8 → low (l.set j (l[j]?.getD 0 ^^^ 2 ^ r)) = low l ^^^ 2 ^ (8 * j + r) := by
  induction l with
  | nil => intro j r _ h; simp at h
  | cons x l ih =>
    intro j r h hj hr
    have hx := h x (by simp)
    cases j with
    | zero =>
      have h2 : 2 ^ r < 2 ^ 8 := Nat.pow_lt_pow_right (by omega) hr
      have h3 : x ^^^ 2 ^ r < 2 ^ 8 := Nat.xor_lt_two_pow (by omega) h2
      simp only [List.set_cons_zero, List.getElem?_cons_zero, Option.getD_some, Nat.mul_zero, Nat.zero_add]
      rw [low_cons _ _ (by omega), low_cons _ _ hx, Nat.xor_assoc, Nat.xor_comm (2 ^ r), ← Nat.xor_assoc]
    | succ j =>
      simp only [List.set_cons_succ, List.getElem?_cons_succ]
      rw [low_cons _ _ hx, low_cons _ _ hx, ih j r (fun y hy => h y (by simp [hy])) (by simpa using hj) hr]
      have e : 2 ^ 8 * (low l ^^^ 2 ^ (8 * j + r)) = 2 ^ 8 * low l ^^^ 2 ^ (8 * (j + 1) + r) := by
        have := Nat.shiftLeft_xor_distrib (a := low l) (b := 2 ^ (8 * j + r)) (i := 8)
        simp only [Nat.shiftLeft_eq] at this
        rw [Nat.mul_comm, this, Nat.mul_comm (low l), ← Nat.pow_add]
        congr 2
        omega
      rw [e, Nat.xor_assoc]
theorem bits_on (fr b k : Nat) (h : b / 2 ^ k % 2 = 1) : 2 ^ fr * (b % 2 ^ (k + 1)) = 2 ^ fr * (b % 2 ^ k) ^^^ 2 ^ (fr + k) := by
  have e : b % 2 ^ (k + 1) = b % 2 ^ k + 2 ^ k * 1 := by
    rw [Nat.mod_pow_succ, h]
  rw [e, add_xor k _ _ (Nat.mod_lt _ (Nat.two_pow_pos k)), Nat.mul_one]
  have := Nat.shiftLeft_xor_distrib (a := b % 2 ^ k) (b := 2 ^ k) (i := fr)
  simp only [Nat.shiftLeft_eq] at this
  rw [Nat.mul_comm, this, Nat.mul_comm (b % 2 ^ k), ← Nat.pow_add, Nat.add_comm k]
theorem bits_off (b k : Nat) (h : b / 2 ^ k % 2 = 0) : b % 2 ^ (k + 1) = b % 2 ^ k := by
  rw [Nat.mod_pow_succ, h, Nat.mul_zero, Nat.add_zero]
end Go.Proofs.YtmlpneiadkngaaaDoor.Crc
