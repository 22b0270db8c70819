/- Numbers as bytes, seven bits a byte: plain arithmetic. No program is named here. -/
import Derived.Laws.BitsAllLaws
namespace Go.Proofs.YteokhedljfakkaaDoor.Oct

/-- the bytes of a number, f more at most behind the first -/
def putF : Nat → Nat → List Nat
  | 0, n => [n]
  | f + 1, n => if n < 128 then [n] else (n % 128 + 128) :: putF f (n / 128)
/-- the bytes of a number below 2^64 -/
def put (n : Nat) : List Nat := putF 9 n

theorem putF_small (f n : Nat) (h : n < 128) : putF f n = [n] := by
  cases f with
  | zero => rfl
  | succ f => simp [putF, h]
theorem putF_big (f n : Nat) (h : 128 ≤ n) : putF (f + 1) n = (n % 128 + 128) :: putF f (n / 128) := by
  have : ¬ n < 128 := by omega
  simp [putF, this]
theorem putF_lt (f : Nat) : ∀ n, n < 2 ^ (7 * f + 1) → ∀ x ∈ putF f n, x < 256 := by
  induction f with
  | zero => intro n h x hx; simp [putF] at hx; simp at h; omega
  | succ f ih =>
    intro n h x hx
    by_cases hn : n < 128
    · rw [putF_small _ _ hn] at hx; simp at hx; omega
    · rw [putF_big _ _ (by omega)] at hx
      rcases List.mem_cons.1 hx with h1 | h1
      · omega
      · refine ih (n / 128) ?_ x h1
        have e : 2 ^ (7 * (f + 1) + 1) = 2 ^ (7 * f + 1) * 128 := by rw [show 7 * (f + 1) + 1 = (7 * f + 1) + 7 by omega, Nat.pow_add]
        rw [e] at h
        exact Nat.div_lt_of_lt_mul (by rw [Nat.mul_comm]; exact h)
theorem putF_len (f : Nat) : ∀ n, 1 ≤ (putF f n).length ∧ (putF f n).length ≤ f + 1 := by
  induction f with
  | zero => intro n; simp [putF]
  | succ f ih =>
    intro n
    by_cases hn : n < 128
    · rw [putF_small _ _ hn]; simp
    · rw [putF_big _ _ (by omega)]; have := ih (n / 128); simp; omega
theorem next_lt (f n : Nat) (h : n < 2 ^ (7 * (f + 1) + 1)) : n / 128 < 2 ^ (7 * f + 1) := by
  have e : 2 ^ (7 * (f + 1) + 1) = 2 ^ (7 * f + 1) * 128 := by rw [show 7 * (f + 1) + 1 = (7 * f + 1) + 7 by omega, Nat.pow_add]
  rw [e] at h
  exact Nat.div_lt_of_lt_mul (by rw [Nat.mul_comm]; exact h)
theorem or_128 (m : Nat) : bits .or .u8 ((m : Int) % 256) 128 = ((m % 128 + 128 : Nat) : Int) := by
  have h1 := u8_or_nat (m % 256) 128 (by omega) (by omega)
  have h2 : ∀ x : Fin 256, x.val ||| 128 = x.val % 128 + 128 := by decide +kernel
  have h3 := h2 ⟨m % 256, by omega⟩
  simp only at h3
  rw [h3] at h1
  have e : (m : Int) % 256 = ((m % 256 : Nat) : Int) := by omega
  rw [e]
  have e2 : m % 256 % 128 + 128 = m % 128 + 128 := by omega
  rw [e2] at h1
  exact h1

/-- the number that stands first in bytes, from byte i on, of which acc is read: the number and how many bytes it has; none: 0 bytes -/
def num (i acc : Nat) : List Nat → Nat × Nat
  | [] => (0, 0)
  | x :: l => if i = 9 ∧ 1 < x then (0, 0) else if 128 ≤ x then num (i + 1) (acc + x % 128 * 2 ^ (7 * i)) l else if x = 0 ∧ 0 < i then (0, 0) else (acc + x * 2 ^ (7 * i), i + 1)

theorem num_over (acc x : Nat) (l : List Nat) (h : 1 < x) : num 9 acc (x :: l) = (0, 0) := by simp [num, h]
theorem num_more (i acc x : Nat) (l : List Nat) (h : ¬ (i = 9 ∧ 1 < x)) (hx : 128 ≤ x) : num i acc (x :: l) = num (i + 1) (acc + x % 128 * 2 ^ (7 * i)) l := by
  simp only [num, h, hx, if_true, if_false]
theorem num_zero (i acc : Nat) (l : List Nat) (h : 0 < i) : num i acc (0 :: l) = (0, 0) := by simp [num, h]
theorem num_last (i acc x : Nat) (l : List Nat) (h : ¬ (i = 9 ∧ 1 < x)) (hx : x < 128) (h0 : ¬ (x = 0 ∧ 0 < i)) : num i acc (x :: l) = (acc + x * 2 ^ (7 * i), i + 1) := by
  have : ¬ 128 ≤ x := by omega
  simp only [num, h, this, h0, if_false]

/-- what is read of a number's own bytes is the number -/
theorem num_putF (f : Nat) : ∀ (i n acc : Nat) (l : List Nat), i + f = 9 → n < 2 ^ (7 * f + 1) → (0 < i → 0 < n) → num i acc (putF f n ++ l) = (acc + n * 2 ^ (7 * i), i + (putF f n).length) := by
  induction f with
  | zero =>
    intro i n acc l hi hn h0
    simp at hn
    have : i = 9 := by omega
    subst this
    have := h0 (by omega)
    simp only [putF, List.cons_append, List.nil_append]
    rw [num_last _ _ _ _ (by omega) (by omega) (by omega)]
    simp
  | succ f ih =>
    intro i n acc l hi hn h0
    by_cases hs : n < 128
    · rw [putF_small _ _ hs]
      simp only [List.cons_append, List.nil_append]
      rw [num_last _ _ _ _ (by omega) (by omega) (by omega)]
      simp
    · rw [putF_big _ _ (by omega)]
      simp only [List.cons_append]
      rw [num_more _ _ _ _ (by omega) (by omega), ih (i + 1) (n / 128) _ l (by omega) (next_lt f n hn) (by omega)]
      have e1 : (n % 128 + 128) % 128 = n % 128 := by omega
      have e2 : 2 ^ (7 * (i + 1)) = 128 * 2 ^ (7 * i) := by rw [show 7 * (i + 1) = 7 + 7 * i by omega, Nat.pow_add]
      have e3 : n % 128 * 2 ^ (7 * i) + n / 128 * (128 * 2 ^ (7 * i)) = n * 2 ^ (7 * i) := by
        rw [← Nat.mul_assoc, ← Nat.add_mul]
        congr 1
        omega
      rw [e1, e2, Nat.add_assoc, e3, List.length_cons]
      congr 1
      omega
theorem num_put (n : Nat) (l : List Nat) (h : n < 18446744073709551616) : num 0 0 (put n ++ l) = (n, (put n).length) := by
  have := num_putF 9 0 n 0 l (by omega) (by omega) (by omega)
  simpa [put] using this

/-- what is read as a number, are its own bytes -/
theorem num_own (l : List Nat) : ∀ (i acc : Nat), i ≤ 9 → (∀ x ∈ l, x < 256) → (num i acc l).2 ≠ 0 →
    ∃ n, (num i acc l).1 = acc + n * 2 ^ (7 * i) ∧ n < 2 ^ (7 * (9 - i) + 1) ∧ (0 < i → 0 < n) ∧ (num i acc l).2 = i + (putF (9 - i) n).length ∧ (putF (9 - i) n).length ≤ l.length ∧ l.take (putF (9 - i) n).length = putF (9 - i) n := by
  induction l with
  | nil => intro i acc _ _ h; simp [num] at h
  | cons x l ih =>
    intro i acc hi hb h
    have hx := hb x (by simp)
    by_cases h9 : i = 9 ∧ 1 < x
    · obtain ⟨rfl, h1⟩ := h9
      rw [num_over _ _ _ h1] at h; simp at h
    by_cases hm : 128 ≤ x
    · have hi8 : i ≤ 8 := by omega
      rw [num_more _ _ _ _ h9 hm] at h ⊢
      obtain ⟨n, h1, h2, h3, h4, h5, h6⟩ := ih (i + 1) _ (by omega) (fun y hy => hb y (by simp [hy])) h
      have hn := h3 (by omega)
      have ef : 9 - i = (9 - (i + 1)) + 1 := by omega
      have e2 : 2 ^ (7 * (i + 1)) = 128 * 2 ^ (7 * i) := by rw [show 7 * (i + 1) = 7 + 7 * i by omega, Nat.pow_add]
      have eN : putF (9 - i) (x % 128 + n * 128) = x :: putF (9 - (i + 1)) n := by
        rw [ef, putF_big _ _ (by omega)]
        have a1 : (x % 128 + n * 128) % 128 + 128 = x := by omega
        have a2 : (x % 128 + n * 128) / 128 = n := by omega
        rw [a1, a2]
      refine ⟨x % 128 + n * 128, ?_, ?_, by omega, ?_, ?_, ?_⟩
      · rw [h1, e2, Nat.add_mul, ← Nat.mul_assoc, Nat.add_assoc]
      · rw [ef, show 7 * (9 - (i + 1) + 1) + 1 = (7 * (9 - (i + 1)) + 1) + 7 by omega, Nat.pow_add]
        omega
      · rw [h4, eN, List.length_cons]; omega
      · rw [eN, List.length_cons, List.length_cons]; omega
      · rw [eN, List.length_cons, List.take_succ_cons, h6]
    · by_cases h0 : x = 0 ∧ 0 < i
      · obtain ⟨rfl, h1⟩ := h0
        rw [num_zero _ _ _ h1] at h; simp at h
      · rw [num_last _ _ _ _ h9 (by omega) h0]
        have es : putF (9 - i) x = [x] := putF_small _ _ (by omega)
        refine ⟨x, rfl, ?_, by omega, by simp [es], by simp [es], by simp [es]⟩
        by_cases h8 : i = 9
        · subst h8; simp; omega
        · have : 2 ^ 8 ≤ 2 ^ (7 * (9 - i) + 1) := Nat.pow_le_pow_right (by omega) (by omega)
          omega
theorem num_is (l : List Nat) (hb : ∀ x ∈ l, x < 256) (h : (num 0 0 l).2 ≠ 0) : (num 0 0 l).1 < 18446744073709551616 ∧ (num 0 0 l).2 ≤ l.length ∧ l.take (num 0 0 l).2 = put (num 0 0 l).1 := by
  obtain ⟨n, h1, h2, _, h4, h5, h6⟩ := num_own l 0 0 (by omega) hb h
  simp only [Nat.mul_zero, Nat.pow_zero, Nat.mul_one, Nat.zero_add, Nat.sub_zero] at h1 h2 h4 h5 h6
  rw [h1, h4]
  exact ⟨by omega, h5, h6⟩
theorem num_none (i acc : Nat) (l : List Nat) (h : (num i acc l).2 = 0) : (num i acc l).1 = 0 := by
  induction l generalizing i acc with
  | nil => rfl
  | cons x l ih =>
    unfold num at h ⊢
    split at h
    · simp [*]
    · split at h
      · simp only [*, if_false, if_true]
      · split at h
        · simp [*]
        · simp at h
theorem and_not (x : Nat) (h : x < 256) : bits .andNot .u8 (x : Int) 128 = ((x % 128 : Nat) : Int) := by
  have h1 := u8_andNot_nat x 128 h (by omega)
  have h2 : ∀ x : Fin 256, x.val &&& (255 - 128) = x.val % 128 := by decide +kernel
  have h3 := h2 ⟨x, h⟩
  simp only at h3
  rw [h3] at h1
  exact h1
theorem or_add (i t x : Nat) (ht : t < 2 ^ i) : t ||| x * 2 ^ i = t + x * 2 ^ i := by
  have := Nat.two_pow_add_eq_or_of_lt ht x
  rw [Nat.or_comm, Nat.mul_comm x, ← this, Nat.add_comm]
theorem acc_or (k acc x : Nat) (hk : k ≤ 9) (ha : acc < 2 ^ (7 * k)) (hx : x < 128) (h9 : k = 9 → x ≤ 1) :
    bits .or .u64 (acc : Int) (IntKind.u64.wrap ((x : Int) * 2 ^ (7 * k))) = ((acc + x * 2 ^ (7 * k) : Nat) : Int) ∧ acc + x * 2 ^ (7 * k) < 18446744073709551616 ∧ (k < 9 → acc + x * 2 ^ (7 * k) < 2 ^ (7 * (k + 1))) := by
  have h1 : k < 9 → x * 2 ^ (7 * k) + 2 ^ (7 * k) ≤ 2 ^ (7 * (k + 1)) := by
    intro _
    have e : 2 ^ (7 * (k + 1)) = 128 * 2 ^ (7 * k) := by rw [show 7 * (k + 1) = 7 + 7 * k by omega, Nat.pow_add]
    rw [e, ← Nat.succ_mul]
    exact Nat.mul_le_mul_right _ (by omega)
  have h2 : x * 2 ^ (7 * k) + 2 ^ (7 * k) ≤ 2 ^ 64 := by
    by_cases h : k < 9
    · exact Nat.le_trans (h1 h) (Nat.pow_le_pow_right (by omega) (by omega))
    · have : k = 9 := by omega
      subst this
      have := h9 rfl
      have : x = 0 ∨ x = 1 := by omega
      rcases this with rfl | rfl <;> decide
  have hp : x * 2 ^ (7 * k) < 18446744073709551616 := by
    have : 0 < 2 ^ (7 * k) := Nat.two_pow_pos _
    omega
  have ha64 : acc < 18446744073709551616 := by
    have : 2 ^ (7 * k) ≤ 2 ^ 64 := Nat.pow_le_pow_right (by omega) (by omega)
    omega
  have e : (x : Int) * 2 ^ (7 * k) % 18446744073709551616 = ((x * 2 ^ (7 * k) : Nat) : Int) := by
    have e1 : (x : Int) * 2 ^ (7 * k) = ((x * 2 ^ (7 * k) : Nat) : Int) := by simp
    rw [e1]
    generalize x * 2 ^ (7 * k) = y at hp
    omega
  refine ⟨?_, by omega, fun h => by have := h1 h; omega⟩
  rw [IntKind.wrap_u64, e, u64_or_nat _ _ ha64 hp, or_add _ _ _ ha]
/-- what is read of a reader's bytes: the next number, up to a greatest one; and what is left (none: bad) -/
def atMost (most : Nat) : Option (List Nat) → Nat × Option (List Nat)
  | none => (0, none)
  | some bs => if (num 0 0 bs).2 = 0 ∨ most < (num 0 0 bs).1 then (0, none) else ((num 0 0 bs).1, some (bs.drop (num 0 0 bs).2))
theorem atMost_bad (most : Nat) (bs : List Nat) (h : (num 0 0 bs).2 = 0 ∨ most < (num 0 0 bs).1) : atMost most (some bs) = (0, none) := by simp [atMost, h]
theorem atMost_good (most : Nat) (bs : List Nat) (h : ¬ ((num 0 0 bs).2 = 0 ∨ most < (num 0 0 bs).1)) : atMost most (some bs) = ((num 0 0 bs).1, some (bs.drop (num 0 0 bs).2)) := by simp only [atMost, h, if_false]
theorem atMost_put (most n : Nat) (l : List Nat) (h : n < 18446744073709551616) (hn : n ≤ most) : atMost most (some (put n ++ l)) = (n, some l) := by
  have h1 := num_put n l h
  have h2 := putF_len 9 n
  have h3 : ¬ ((put n).length = 0 ∨ most < n) := by unfold put; omega
  rw [atMost_good _ _ (by rw [h1]; exact h3), h1]
  simp
/-- likewise with a bound that has a sign -/
def atMostI (most : Int) (st : Option (List Nat)) : Nat × Option (List Nat) := if most < 0 then (0, none) else atMost most.toNat st
/-- the text that stands next, if it has at most so many bytes; and what is left -/
def textS (most : Int) (st : Option (List Nat)) : List Nat × Option (List Nat) :=
  match atMostI most st with
  | (_, none) => ([], none)
  | (n, some bs) => if bs.length < n then ([], none) else (bs.take n, some (bs.drop n))
theorem atMost_lt (most : Nat) (st : Option (List Nat)) (hb : ∀ bs, st = some bs → ∀ x ∈ bs, x < 256) : (atMost most st).1 ≤ most ∧ (atMost most st).1 < 18446744073709551616 := by
  cases st with
  | none => simp [atMost]
  | some bs =>
    by_cases h : (num 0 0 bs).2 = 0 ∨ most < (num 0 0 bs).1
    · rw [atMost_bad _ _ h]; simp
    · rw [atMost_good _ _ h]
      have := num_is bs (hb bs rfl) (fun h1 => h (.inl h1))
      exact ⟨by simp only; omega, this.1⟩
theorem atMost_none (most : Nat) (st : Option (List Nat)) (h : (atMost most st).2 = none) : (atMost most st).1 = 0 := by
  cases st with
  | none => rfl
  | some bs =>
    by_cases hb : (num 0 0 bs).2 = 0 ∨ most < (num 0 0 bs).1
    · rw [atMost_bad _ _ hb]
    · rw [atMost_good _ _ hb] at h; simp at h
theorem textS_put (ts l : List Nat) (most : Int) (h : (ts.length : Int) ≤ most) (hl : ts.length < 18446744073709551616) : textS most (some (put ts.length ++ (ts ++ l))) = (ts, some l) := by
  have h1 : atMostI most (some (put ts.length ++ (ts ++ l))) = (ts.length, some (ts ++ l)) := by
    unfold atMostI
    rw [if_neg (by omega), atMost_put _ _ _ hl (by omega)]
  have h2 : ¬ (ts ++ l).length < ts.length := by simp
  simp only [textS, h1, h2, if_false, List.take_left, List.drop_left]
end Go.Proofs.YteokhedljfakkaaDoor.Oct
