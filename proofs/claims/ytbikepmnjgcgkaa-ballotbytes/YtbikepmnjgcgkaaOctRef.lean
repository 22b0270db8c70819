/- The law's own way of reading a number is that of the program: plain arithmetic. -/
import Derived.Test.YtbikepmnjgcgkaaOctMath
namespace Go.Proofs.Ytbikepmnjgcgkaa.Oct

/-- how many bytes of 128 or more stand first -/
def lead : List Nat → Nat
  | [] => 0
  | x :: l => if 128 ≤ x then lead l + 1 else 0
/-- seven bits a byte, the lowest first -/
def val : List Nat → Nat
  | [] => 0
  | x :: l => x % 128 + 128 * val l

theorem lead_le (l : List Nat) : lead l ≤ l.length := by
  induction l with
  | nil => simp [lead]
  | cons x l ih => simp only [lead]; split <;> simp <;> omega
theorem lead_on (l : List Nat) : ∀ i, i < lead l → 128 ≤ l[i]?.getD 0 := by
  induction l with
  | nil => intro i h; simp [lead] at h
  | cons x l ih =>
    intro i h
    simp only [lead] at h
    split at h
    · cases i with
      | zero => simpa using ‹128 ≤ x›
      | succ i => simp only [List.getElem?_cons_succ]; exact ih i (by omega)
    · omega
theorem lead_off (l : List Nat) (h : lead l < l.length) : l[lead l]?.getD 0 < 128 := by
  induction l with
  | nil => simp at h
  | cons x l ih =>
    by_cases hx : 128 ≤ x
    · have e : lead (x :: l) = lead l + 1 := by simp [lead, hx]
      rw [e] at h ⊢
      simp only [List.getElem?_cons_succ]
      exact ih (by simpa using h)
    · have e : lead (x :: l) = 0 := by simp [lead, hx]
      rw [e]
      simp
      omega
theorem lead_putF (f : Nat) : ∀ (n : Nat) (l : List Nat), n < 2 ^ (7 * f + 1) → lead (putF f n ++ l) + 1 = (putF f n).length := by
  induction f with
  | zero => intro n l h; simp at h; have : ¬ 128 ≤ n := by omega
            simp [putF, lead, this]
  | succ f ih =>
    intro n l h
    by_cases hn : n < 128
    · have : ¬ 128 ≤ n := by omega
      rw [putF_small _ _ hn]
      simp [lead, this]
    · rw [putF_big _ _ (by omega)]
      have := ih (n / 128) l (next_lt f n h)
      simp only [List.cons_append, lead, List.length_cons]
      rw [if_pos (by omega)]
      omega
theorem val_putF (f : Nat) : ∀ (n : Nat), n < 2 ^ (7 * f + 1) → val (putF f n) = n := by
  induction f with
  | zero => intro n h; simp at h; simp [putF, val]; omega
  | succ f ih =>
    intro n h
    by_cases hn : n < 128
    · rw [putF_small _ _ hn]; simp [val]; omega
    · rw [putF_big _ _ (by omega)]
      simp only [val, ih (n / 128) (next_lt f n h)]
      omega
theorem ref_num (l : List Nat) (hb : ∀ x ∈ l, x < 256) : num 0 0 l = if l.length ≤ lead l ∨ 9 < lead l then (0, 0) else if put (val (l.take (lead l + 1)) % 18446744073709551616) = l.take (lead l + 1) then (val (l.take (lead l + 1)) % 18446744073709551616, lead l + 1) else (0, 0) := by
  by_cases h : (num 0 0 l).2 = 0
  · have h1 := num_none 0 0 l h
    have e : num 0 0 l = (0, 0) := Prod.ext h1 h
    rw [e]
    split
    · rfl
    · split
      · rename_i h2 h3
        exfalso
        have hv : val (l.take (lead l + 1)) % 18446744073709551616 < 18446744073709551616 := Nat.mod_lt _ (by omega)
        have el : l = put (val (l.take (lead l + 1)) % 18446744073709551616) ++ l.drop (lead l + 1) := by
          conv => lhs; rw [← List.take_append_drop (lead l + 1) l]
          rw [h3]
        have h4 := num_put _ (l.drop (lead l + 1)) hv
        rw [← el, e] at h4
        have h5 := (putF_len 9 (val (l.take (lead l + 1)) % 18446744073709551616)).1
        have h6 := congrArg Prod.snd h4
        unfold put at h6
        simp only at h6
        omega
      · rfl
  · obtain ⟨h1, h2, h3⟩ := num_is l hb h
    have hl9 := putF_len 9 (num 0 0 l).1
    have el : l = put (num 0 0 l).1 ++ l.drop (num 0 0 l).2 := by
      conv => lhs; rw [← List.take_append_drop (num 0 0 l).2 l]
      rw [h3]
    have hle : lead l + 1 = (num 0 0 l).2 := by
      have e1 := lead_putF 9 (num 0 0 l).1 (l.drop (num 0 0 l).2) (by omega)
      have e2 : (putF 9 (num 0 0 l).1).length = (num 0 0 l).2 := by
        have := congrArg List.length h3
        rw [List.length_take, Nat.min_eq_left h2] at this
        exact this.symm
      have e3 : lead (putF 9 (num 0 0 l).1 ++ l.drop (num 0 0 l).2) = lead l := congrArg lead el.symm
      omega
    have hpl : (put (num 0 0 l).1).length = (num 0 0 l).2 := by rw [← h3, List.length_take, Nat.min_eq_left h2]
    have hv : val (l.take (lead l + 1)) = (num 0 0 l).1 := by
      rw [hle, h3]
      exact val_putF 9 _ (by omega)
    have hpl' : (putF 9 (num 0 0 l).1).length = (num 0 0 l).2 := hpl
    rw [if_neg (by omega), hv, Nat.mod_eq_of_lt h1, hle, if_pos h3.symm]
theorem val_drop (l : List Nat) (t : Nat) (h : t < l.length) : val (l.drop t) = l[t]?.getD 0 % 128 + 128 * val (l.drop (t + 1)) := by
  rw [List.drop_eq_getElem_cons h]
  simp [val, h]
end Go.Proofs.Ytbikepmnjgcgkaa.Oct
