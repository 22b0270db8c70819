/- The document's word on a transaction's reads: keys that may be, each once: plain mathematics, and the ways out ahead of them. -/
import Derived.Test.YtlefaicdcomkjaaEnE
namespace Go.Proofs.Ytlefaicdcomkjaa
open Go Go.RowKit
set_option linter.unusedVariables false
set_option linter.unusedSimpArgs false

/-- each may be a key, and stands there once: the first k of them -/
def GoodK (ks : List ByteArray) (k : Nat) : Prop := ∀ i x, i < k → ks[i]? = some x → right x = true ∧ ∀ j y, j < i → ks[j]? = some y → y ≠ x
theorem GoodK.next {ks : List ByteArray} {k : Nat} {x : ByteArray} (h : GoodK ks k) (hx : ks[k]? = some x) (h1 : right x = true) (h2 : ∀ j y, j < k → ks[j]? = some y → y ≠ x) : GoodK ks (k + 1) := by
  intro i y hi hy
  by_cases e : i = k
  · subst e
    rw [hx] at hy
    simp only [Option.some.injEq] at hy
    subst hy
    exact ⟨h1, h2⟩
  · exact h i y (by omega) hy
/-- the same, one behind the other, with those that were seen -/
def goodB : List ByteArray → List ByteArray → Bool
  | _, [] => true
  | seen, k :: l => right k && !(seen.any fun x => decide (x = k)) && goodB (seen ++ [k]) l
theorem goodB_iff : ∀ (l seen : List ByteArray), goodB seen l = true ↔ ∀ (i : Nat) (x : ByteArray), l[i]? = some x → right x = true ∧ (∀ y ∈ seen, y ≠ x) ∧ ∀ (j : Nat) (y : ByteArray), j < i → l[j]? = some y → y ≠ x := by
  intro l
  induction l with
  | nil => intro seen; simp [goodB]
  | cons k l ih =>
    intro seen
    rw [goodB, Bool.and_eq_true, Bool.and_eq_true, ih]
    constructor
    · rintro ⟨⟨h1, h2⟩, h3⟩ i x hx
      simp only [Bool.not_eq_true', List.any_eq_false, decide_eq_true_eq] at h2
      cases i with
      | zero =>
        simp only [List.getElem?_cons_zero, Option.some.injEq] at hx
        subst hx
        exact ⟨h1, h2, fun j y hj => by omega⟩
      | succ i =>
        simp only [List.getElem?_cons_succ] at hx
        obtain ⟨q1, q2, q3⟩ := h3 i x hx
        refine ⟨q1, fun y hy => q2 y (by simp [hy]), fun j y hj hy => ?_⟩
        cases j with
        | zero =>
          simp only [List.getElem?_cons_zero, Option.some.injEq] at hy
          subst hy
          exact q2 _ (by simp)
        | succ j =>
          simp only [List.getElem?_cons_succ] at hy
          exact q3 j y (by omega) hy
    · intro h
      have h0 := h 0 k (by simp)
      refine ⟨⟨h0.1, ?_⟩, fun i x hx => ?_⟩
      · simp only [Bool.not_eq_true', List.any_eq_false, decide_eq_true_eq]
        exact h0.2.1
      · obtain ⟨q1, q2, q3⟩ := h (i + 1) x (by simpa using hx)
        refine ⟨q1, fun y hy => ?_, fun j y hj hy => q3 (j + 1) y (by omega) (by simpa using hy)⟩
        rcases List.mem_append.1 hy with hy | hy
        · exact q2 y hy
        · simp only [List.mem_cons, List.not_mem_nil, or_false] at hy
          subst hy
          exact q3 0 y (by omega) (by simp)
theorem goodB_all {l : List ByteArray} (h : GoodK l l.length) : goodB [] l = true :=
  (goodB_iff l []).2 (fun i x hx => ⟨(h i x (List.getElem?_eq_some_iff.1 hx).1 hx).1, by simp, (h i x (List.getElem?_eq_some_iff.1 hx).1 hx).2⟩)
theorem goodB_wrong {l : List ByteArray} {k : Nat} {x : ByteArray} (h : l[k]? = some x) (hr : right x = false) : goodB [] l = false := by
  cases e : goodB [] l
  · rfl
  · rw [((goodB_iff l []).1 e k x h).1] at hr; cases hr
theorem goodB_twice {l : List ByteArray} {k j : Nat} {x : ByteArray} (h : l[k]? = some x) (hj : j < k) (hy : l[j]? = some x) : goodB [] l = false := by
  cases e : goodB [] l
  · rfl
  · exact absurd rfl (((goodB_iff l []).1 e k x h).2.2 j x hj hy)
/-- is a transaction right? -/
def rtxn (id : Id) (plain : Bool) (l1 : List Rdv) (l2 : List Wrv) : Bool := rid id && rcounts plain l1.length l2.length && goodB [] (l1.map Rdv.key) && goodB [] (l2.map Wrv.key) && l2.all rval1
end Go.Proofs.Ytlefaicdcomkjaa
