/- The cyclic sum is linear: plain arithmetic. -/
import Derived.Test.YtmlpneiadkngaaaDoorCrcMath
namespace Go.Proofs.YtmlpneiadkngaaaDoor.Crc

theorem step_xor (a b : Nat) : step (a ^^^ b) = step a ^^^ step b := by
  unfold step
  have e : (a ^^^ b) / 2 = a / 2 ^^^ b / 2 := by
    have h := Nat.shiftRight_xor_distrib (a := a) (b := b) (i := 1)
    simpa [Nat.shiftRight_succ] using h
  have m : (a ^^^ b) % 2 = (a % 2 + b % 2) % 2 := by
    have h1 : (a ^^^ b) % 2 = a % 2 ^^^ b % 2 := by
      have := Nat.xor_mod_two_pow (a := a) (b := b) (n := 1)
      simpa using this
    rw [h1]
    rcases Nat.mod_two_eq_zero_or_one a with ha | ha <;> rcases Nat.mod_two_eq_zero_or_one b with hb | hb <;> simp [ha, hb]
  rw [e, m]
  rcases Nat.mod_two_eq_zero_or_one a with ha | ha <;> rcases Nat.mod_two_eq_zero_or_one b with hb | hb <;> simp [ha, hb]
  · rw [Nat.xor_assoc]
  · rw [Nat.xor_assoc, Nat.xor_comm (b / 2), ← Nat.xor_assoc]
  · rw [Nat.xor_assoc, ← Nat.xor_assoc 3988292384, Nat.xor_comm 3988292384 (b / 2), Nat.xor_assoc, Nat.xor_self, Nat.xor_zero]
theorem steps_xor (k a b : Nat) : steps k (a ^^^ b) = steps k a ^^^ steps k b := by
  induction k with
  | zero => rfl
  | succ k ih => simp only [steps, ih, step_xor]
theorem behind_xor (s t x y : Nat) : behind (s ^^^ t) (x ^^^ y) = behind s x ^^^ behind t y := by
  unfold behind
  rw [← steps_xor]
  congr 1
  rw [Nat.xor_assoc, Nat.xor_assoc, ← Nat.xor_assoc t, Nat.xor_comm t x, Nat.xor_assoc]
theorem more_xor (a : List Nat) : ∀ (b : List Nat) (s t : Nat), a.length = b.length → more (s ^^^ t) (a.zipWith (· ^^^ ·) b) = more s a ^^^ more t b := by
  induction a with
  | nil => intro b s t h; cases b with | nil => rfl | cons y b => simp at h
  | cons x a ih =>
    intro b s t h
    cases b with
    | nil => simp at h
    | cons y b =>
      simp only [List.zipWith_cons_cons, more, behind_xor]
      exact ih b _ _ (by simpa using h)
end Go.Proofs.YtmlpneiadkngaaaDoor.Crc
