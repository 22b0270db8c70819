/- Plain arithmetic of the cyclic sum, over natural numbers: what one bit, one byte, and many bytes do to a state. No program is named here. -/
import Derived.Laws.BitsAllLaws
namespace Go.Proofs.YtmlpneiadkngaaaDoor.Crc

/-- one bit -/
def step (s : Nat) : Nat := (s / 2) ^^^ (if s % 2 = 1 then 3988292384 else 0)
/-- k bits -/
def steps : Nat → Nat → Nat
  | 0, s => s
  | k + 1, s => step (steps k s)
/-- one byte -/
def behind (s x : Nat) : Nat := steps 8 (s ^^^ x)
/-- many bytes -/
def more (s : Nat) : List Nat → Nat
  | [] => s
  | x :: l => more (behind s x) l
/-- the sum -/
def of (l : List Nat) : Nat := more 4294967295 l ^^^ 4294967295
/-- bytes as a number, the lowest one first -/
def low : List Nat → Nat
  | [] => 0
  | x :: l => x + 256 * low l
/-- a number as four bytes, the lowest one first -/
def four (n : Nat) : List Nat := [n % 256, n / 256 % 256, n / 65536 % 256, n / 16777216 % 256]
/-- bytes whose last four are the sum of the n ahead -/
def wholeB (n : Nat) (l : List Nat) : Bool := ((of (l.take n) : Nat) : Int) == ((low (l.drop n) : Nat) : Int)
/-- bytes that are whole -/
def whole (l : List Nat) : Bool := decide (4 ≤ l.length) && wholeB (l.length - 4) l
/-- a number's lowest bytes -/
def lows (n : Nat) : Nat → List Nat
  | 0 => []
  | k + 1 => lows n k ++ [n / 256 ^ k % 256]

theorem step_lt (s : Nat) (h : s < 4294967296) : step s < 4294967296 := by
  unfold step
  have : (s / 2) ^^^ (if s % 2 = 1 then 3988292384 else 0) < 2 ^ 32 := Nat.xor_lt_two_pow (by omega) (by split <;> omega)
  omega
theorem steps_lt (k s : Nat) (h : s < 4294967296) : steps k s < 4294967296 := by
  induction k with
  | zero => exact h
  | succ k ih => exact step_lt _ ih
theorem xor_lt (s x : Nat) (h : s < 4294967296) (hx : x < 256) : s ^^^ x < 4294967296 := by
  have : s ^^^ x < 2 ^ 32 := Nat.xor_lt_two_pow (by omega) (by omega)
  omega
theorem behind_lt (s x : Nat) (h : s < 4294967296) (hx : x < 256) : behind s x < 4294967296 := steps_lt 8 _ (xor_lt s x h hx)
theorem more_lt (l : List Nat) : ∀ s, s < 4294967296 → (∀ x ∈ l, x < 256) → more s l < 4294967296 := by
  induction l with
  | nil => intro s h _; exact h
  | cons a l ih => intro s h hb; exact ih _ (behind_lt s a h (hb a (by simp))) (fun x hx => hb x (by simp [hx]))
theorem more_append (l : List Nat) : ∀ s m, more s (l ++ m) = more (more s l) m := by
  induction l with
  | nil => intro s m; rfl
  | cons a l ih => intro s m; exact ih _ m
theorem more_take_succ (s : Nat) (l : List Nat) (k : Nat) (h : k < l.length) : more s (l.take (k + 1)) = behind (more s (l.take k)) (l[k]?.getD 0) := by
  rw [List.take_succ_eq_append_getElem h, more_append]
  simp [more, h]

/-- the same bit, in the program's words: a mask in place of a branch -/
theorem step_mask (s : Nat) (h : s < 4294967296) :
    bits .xor .u32 ((s : Int) / 2) (bits .and .u32 3988292384 (-bits .and .u32 (s : Int) 1 % 4294967296)) = ((step s : Nat) : Int) := by
  have e1 : bits .and .u32 (s : Int) 1 = ((s % 2 : Nat) : Int) := by
    have := u32_and_nat s 1 h (by omega)
    rw [Nat.and_one_is_mod] at this
    exact this
  rw [e1]
  rcases Nat.mod_two_eq_zero_or_one s with h0 | h0
  · rw [h0]
    have e2 : bits .and .u32 3988292384 (-((0 : Nat) : Int) % 4294967296) = ((0 : Nat) : Int) := by
      have := u32_and_nat 3988292384 0 (by omega) (by omega)
      simpa using this
    rw [e2]
    have := u32_xor_nat (s / 2) 0 (by omega) (by omega)
    simpa [step, h0] using this
  · rw [h0]
    have e2 : bits .and .u32 3988292384 (-((1 : Nat) : Int) % 4294967296) = ((3988292384 : Nat) : Int) := by
      have := u32_and_nat 3988292384 4294967295 (by omega) (by omega)
      have e3 : (3988292384 &&& 4294967295 : Nat) = 3988292384 := by decide
      rw [e3] at this
      simpa using this
    rw [e2]
    have := u32_xor_nat (s / 2) 3988292384 (by omega) (by omega)
    simpa [step, h0] using this
theorem step_odd (s : Nat) (h : s < 4294967296) (ho : s % 2 = 1) : bits .xor .u32 ((s : Int) / 2) 3988292384 = ((step s : Nat) : Int) := by
  have := u32_xor_nat (s / 2) 3988292384 (by omega) (by omega)
  simpa [step, ho] using this
theorem step_even (s : Nat) (ho : s % 2 = 0) : (s : Int) / 2 = ((step s : Nat) : Int) := by
  simp [step, ho]
theorem sub_xor (s : Nat) (h : s < 4294967296) : s ^^^ 4294967295 = 4294967295 - s := by
  have h1 := (BitVec.ofNat 32 s).toNat_not
  have h2 : (BitVec.ofNat 32 s ^^^ BitVec.allOnes 32) = ~~~ (BitVec.ofNat 32 s) := BitVec.xor_allOnes
  have h3 := congrArg BitVec.toNat h2
  rw [h1, BitVec.toNat_xor, BitVec.toNat_allOnes, BitVec.toNat_ofNat, Nat.mod_eq_of_lt (by omega)] at h3
  simpa using h3
theorem or_add (i t x : Nat) (ht : t < 2 ^ i) : t ||| x * 2 ^ i = t + x * 2 ^ i := by
  have := Nat.two_pow_add_eq_or_of_lt ht x
  rw [Nat.or_comm, Nat.mul_comm x, ← this, Nat.add_comm]
theorem low_or (t x k : Nat) (hk : k < 4) (ht : t < 2 ^ (8 * k)) (hx : x < 256) :
    bits .or .u32 (t : Int) ((x : Int) * 2 ^ (8 * k) % 4294967296) = ((t + x * 2 ^ (8 * k) : Nat) : Int) := by
  have hk4 : k = 0 ∨ k = 1 ∨ k = 2 ∨ k = 3 := by omega
  have hp : x * 2 ^ (8 * k) < 4294967296 := by
    rcases hk4 with rfl | rfl | rfl | rfl <;> simp only [Nat.reduceMul, Nat.reducePow] <;> omega
  have ht2 : t < 4294967296 := by
    rcases hk4 with rfl | rfl | rfl | rfl <;> simp only [Nat.reduceMul, Nat.reducePow] at ht <;> omega
  have e : (x : Int) * 2 ^ (8 * k) % 4294967296 = ((x * 2 ^ (8 * k) : Nat) : Int) := by
    have e1 : (x : Int) * 2 ^ (8 * k) = ((x * 2 ^ (8 * k) : Nat) : Int) := by simp
    rw [e1]; omega
  rw [e, u32_or_nat _ _ ht2 hp, or_add _ _ _ ht]
theorem low_snoc (l : List Nat) (x : Nat) : low (l ++ [x]) = low l + x * 2 ^ (8 * l.length) := by
  induction l with
  | nil => simp [low]
  | cons a l ih =>
    have e : 2 ^ (8 * (l.length + 1)) = 256 * 2 ^ (8 * l.length) := by rw [Nat.mul_add, Nat.pow_add]; omega
    simp only [List.cons_append, low, ih, List.length_cons, e]
    rw [Nat.mul_add, Nat.add_assoc]
    congr 2
    rw [Nat.mul_left_comm]
theorem low_lt (l : List Nat) (h : ∀ x ∈ l, x < 256) : low l < 2 ^ (8 * l.length) := by
  induction l with
  | nil => simp [low]
  | cons a l ih =>
    have e : 2 ^ (8 * (l.length + 1)) = 256 * 2 ^ (8 * l.length) := by rw [Nat.mul_add, Nat.pow_add]; omega
    have h1 := h a (by simp)
    have h2 := ih (fun x hx => h x (by simp [hx]))
    simp only [low, List.length_cons, e]
    omega
theorem low_take_succ (l : List Nat) (k : Nat) (h : k < l.length) : low (l.take (k + 1)) = low (l.take k) + l[k]?.getD 0 * 2 ^ (8 * k) := by
  rw [List.take_succ_eq_append_getElem h, low_snoc]
  simp [h, Nat.min_eq_left (Nat.le_of_lt h)]
theorem lows_four (n : Nat) : lows n 4 = four n := by simp [lows, four]
theorem lows_length (n k : Nat) : (lows n k).length = k := by
  induction k with
  | zero => rfl
  | succ k ih => simp [lows, ih]
theorem lows_lt (n k : Nat) : ∀ x ∈ lows n k, x < 256 := by
  induction k with
  | zero => intro x hx; simp [lows] at hx
  | succ k ih =>
    intro x hx
    simp only [lows, List.mem_append, List.mem_singleton] at hx
    rcases hx with h | h
    · exact ih x h
    · omega
theorem next_div (n k t : Nat) (h : t = n / 256 ^ k) : t / 256 = n / 256 ^ (k + 1) := by
  rw [h, Nat.div_div_eq_div_mul, Nat.pow_succ]
theorem of_lt (l : List Nat) (h : ∀ x ∈ l, x < 256) : of l < 4294967296 := by
  have h1 := more_lt l 4294967295 (by omega) h
  have : of l < 2 ^ 32 := Nat.xor_lt_two_pow (by omega) (by omega)
  omega
theorem low_four (n : Nat) (h : n < 4294967296) : low (four n) = n := by
  simp only [four, low]
  omega
theorem whole_sealed (l : List Nat) (h : ∀ x ∈ l, x < 256) : whole (l ++ four (of l)) = true := by
  have e : (l ++ four (of l)).length - 4 = l.length := by simp [four]
  have e4 : 4 ≤ (l ++ four (of l)).length := by simp [four]
  unfold whole wholeB
  rw [e, List.take_left, List.drop_left, low_four _ (of_lt l h)]
  simp [four]
theorem four_low (l : List Nat) (hl : l.length = 4) (h : ∀ x ∈ l, x < 256) : four (low l) = l := by
  match l, hl with
  | [a, b, c, d], _ =>
    have h1 := h a (by simp)
    have h2 := h b (by simp)
    have h3 := h c (by simp)
    have h4 := h d (by simp)
    simp only [four, low, List.cons.injEq, and_true]
    omega
theorem whole_much (l : List Nat) (n : Nat) (hl : l.length = n + 4) (h : ∀ x ∈ l, x < 256) : whole l = decide (four (of (l.take n)) = l.drop n) := by
  have e : l.length - 4 = n := by omega
  have e4 : 4 ≤ l.length := by omega
  have hd : (l.drop n).length = 4 := by simp; omega
  have hb : ∀ x ∈ l.drop n, x < 256 := fun x hx => h x (List.mem_of_mem_drop hx)
  have ht := of_lt (l.take n) (fun x hx => h x (List.mem_of_mem_take hx))
  unfold whole wholeB
  rw [e, Bool.eq_iff_iff]
  simp only [e4, decide_true, Bool.true_and, beq_iff_eq, decide_eq_true_eq]
  constructor
  · intro h1
    have h2 : of (l.take n) = low (l.drop n) := by omega
    rw [h2, four_low _ hd hb]
  · intro h1
    have h2 := congrArg low h1
    rw [low_four _ ht] at h2
    omega
theorem whole_little (l : List Nat) (h : l.length < 4) : whole l = false := by
  have : ¬ 4 ≤ l.length := by omega
  simp [whole, this]
end Go.Proofs.YtmlpneiadkngaaaDoor.Crc
