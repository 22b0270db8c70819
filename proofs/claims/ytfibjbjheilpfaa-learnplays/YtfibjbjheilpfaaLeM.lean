/- What was chosen, by slots: plain mathematics. -/
import Derived.Test.YtfibjbjheilpfaaEnG
namespace Go.Proofs.Ytfibjbjheilpfaa
open Go Go.RowKit
set_option linter.unusedVariables false
set_option linter.unusedSimpArgs false

/-- what was chosen, by slots -/
abbrev Ch := Nat → Option ByteArray
def valC (F : Ch) (i : Nat) : ByteArray := (F i).getD ⟨#[]⟩
def hasC (F : Ch) (i : Nat) : Bool := (F i).isSome
/-- the least slot below n for which nothing was chosen -/
def preTo (F : Ch) : Nat → Nat
  | 0 => 0
  | n + 1 => if preTo F n = n ∧ hasC F n = true then n + 1 else preTo F n
def prefC (F : Ch) : Nat := preTo F 400
theorem preTo_le (F : Ch) : ∀ n, preTo F n ≤ n
  | 0 => Nat.le_refl _
  | n + 1 => by have := preTo_le F n; unfold preTo; split <;> omega
theorem preTo_has (F : Ch) : ∀ n i, i < preTo F n → hasC F i = true
  | 0, i, h => by simp [preTo] at h
  | n + 1, i, h => by
    unfold preTo at h
    split at h
    · rename_i hc
      by_cases e : i = n
      · rw [e]; exact hc.2
      · exact preTo_has F n i (by omega)
    · exact preTo_has F n i h
theorem preTo_not (F : Ch) : ∀ n, preTo F n < n → hasC F (preTo F n) = false
  | 0, h => by omega
  | n + 1, h => by
    unfold preTo at h ⊢
    split
    · rename_i hc; rw [if_pos hc] at h; omega
    · rename_i hc
      by_cases e : preTo F n = n
      · rw [e]
        simpa [e] using hc
      · exact preTo_not F n (by have := preTo_le F n; omega)
theorem prefC_le (F : Ch) : prefC F ≤ 400 := preTo_le F 400
theorem prefC_has (F : Ch) (i : Nat) (h : i < prefC F) : hasC F i = true := preTo_has F 400 i h
theorem prefC_not (F : Ch) (h : prefC F < 400) : hasC F (prefC F) = false := preTo_not F 400 h
theorem prefC_is (F : Ch) (n : Nat) (h1 : n ≤ 400) (h2 : ∀ i, i < n → hasC F i = true) (h3 : n < 400 → hasC F n = false) : prefC F = n := by
  rcases Nat.lt_trichotomy (prefC F) n with h | h | h
  · have a := h2 _ h
    rw [prefC_not F (by omega)] at a
    cases a
  · exact h
  · have a := prefC_has F n h
    have := prefC_le F
    rw [h3 (by omega)] at a
    cases a
/-- the slot behind the greatest one below n for which something was chosen -/
def topTo (F : Ch) : Nat → Nat
  | 0 => 0
  | n + 1 => if hasC F n = true then n + 1 else topTo F n
def topC (F : Ch) : Nat := topTo F 400
theorem topTo_le (F : Ch) : ∀ n, topTo F n ≤ n
  | 0 => Nat.le_refl _
  | n + 1 => by have := topTo_le F n; unfold topTo; split <;> omega
theorem topTo_is (F : Ch) : ∀ n k, n ≤ k → (∀ i, n ≤ i → i < k → hasC F i = false) → (0 < n → hasC F (n - 1) = true) → topTo F k = n
  | n, 0, h1, h2, h3 => by simp [topTo]; omega
  | n, k + 1, h1, h2, h3 => by
    unfold topTo
    by_cases e : n = k + 1
    · subst e
      rw [if_pos (by simpa using h3 (by omega))]
    · rw [if_neg (by simp [h2 k (by omega) (by omega)])]
      exact topTo_is F n k (by omega) (fun i h h' => h2 i h (by omega)) h3
theorem topC_is (F : Ch) (n : Nat) (h1 : n ≤ 400) (h2 : ∀ i, n ≤ i → i < 400 → hasC F i = false) (h3 : 0 < n → hasC F (n - 1) = true) : topC F = n := topTo_is F n 400 h1 h2 h3

/-- how many values are told from slot s on, at most m, if the slots below p are full -/
def cntC (p : Nat) (s m : Int) : Nat := if s < 0 then 0 else (min m ((p : Int) - s)).toNat
def fromP (F : Ch) (p : Nat) (s m : Int) : List ByteArray := (List.range (cntC p s m)).map fun i => valC F (s.toNat + i)
def fromC (F : Ch) (s m : Int) : List ByteArray := fromP F (prefC F) s m
theorem range_snoc {α : Type} (f : Nat → α) (n : Nat) : (List.range (n + 1)).map f = (List.range n).map f ++ [f n] := by rw [List.range_succ, List.map_append]; rfl
theorem cntC_le (p : Nat) (s m : Int) : cntC p s m ≤ p := by unfold cntC; split <;> omega
theorem fromP_len (F : Ch) (p : Nat) (s m : Int) : (fromP F p s m).length = cntC p s m := by simp [fromP]
theorem fromP_zero (F : Ch) (s m : Int) : fromP F 0 s m = [] := by
  have : cntC 0 s m = 0 := by unfold cntC; split <;> omega
  simp [fromP, this]
theorem fromP_next (F : Ch) (p : Nat) (s m : Int) (h0 : 0 ≤ s) (h1 : s ≤ p) (h2 : ((cntC p s m : Nat) : Int) < m) : fromP F (p + 1) s m = fromP F p s m ++ [valC F p] := by
  have hc : ∀ q : Nat, cntC q s m = (min m ((q : Int) - s)).toNat := fun q => by unfold cntC; rw [if_neg (by omega)]
  rw [hc] at h2
  have e : cntC (p + 1) s m = cntC p s m + 1 := by rw [hc, hc]; omega
  have e2 : s.toNat + cntC p s m = p := by rw [hc]; omega
  unfold fromP
  rw [e, range_snoc, e2]
theorem fromP_stay (F : Ch) (p : Nat) (s m : Int) (h : s < 0 ∨ p < s ∨ m ≤ (cntC p s m : Nat)) : fromP F (p + 1) s m = fromP F p s m := by
  have e : cntC (p + 1) s m = cntC p s m := by
    unfold cntC at *
    by_cases hs : s < 0
    · rw [if_pos hs, if_pos hs]
    · rw [if_neg hs] at h ⊢
      rw [if_neg hs]
      omega
  unfold fromP
  rw [e]

/-- one more -/
def setC (F : Ch) (i : Nat) (v : ByteArray) : Ch := fun k => if k = i then some v else F k
/-- what Learn answers -/
def learnE (F : Ch) (s : Int) (v : ByteArray) : Int :=
  if s < 0 ∨ 400 ≤ s ∨ 64 < v.size then 1 else if hasC F s.toNat = true then (if valC F s.toNat = v then 7 else 10) else 0
def learnC (F : Ch) (s : Int) (v : ByteArray) : Ch := if learnE F s v = 0 then setC F s.toNat v else F
theorem hasC_set (F : Ch) (i k : Nat) (v : ByteArray) : hasC (setC F i v) k = if k = i then true else hasC F k := by unfold hasC setC; split <;> rfl
theorem valC_set (F : Ch) (i k : Nat) (v : ByteArray) : valC (setC F i v) k = if k = i then v else valC F k := by unfold valC setC; split <;> rfl
end Go.Proofs.Ytfibjbjheilpfaa
