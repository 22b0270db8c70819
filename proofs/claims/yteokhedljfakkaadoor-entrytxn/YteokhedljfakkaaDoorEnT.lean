/- A transaction's parts in the shards: plain mathematics. -/
import Derived.Test.YteokhedljfakkaaDoorEnQ
import Derived.Test.YteokhedljfakkaaDoorKeC
namespace Go.Proofs.YteokhedljfakkaaDoor
open Go Go.RowKit
set_option linter.unusedVariables false
set_option linter.unusedSimpArgs false

theorem filter_or {α : Type} (p q : α → Bool) (l : List α) (h : ∀ x ∈ l, ¬ (p x = true ∧ q x = true)) : (l.filter p).length + (l.filter q).length = (l.filter fun x => p x || q x).length := by
  induction l with
  | nil => rfl
  | cons x l ih =>
    have h1 := ih (fun y hy => h y (by simp [hy]))
    have h2 := h x (by simp)
    cases hp : p x <;> cases hq : q x <;> simp [List.filter_cons, hp, hq] at h2 ⊢ <;> omega
theorem sum_parts {α : Type} (f : α → Nat) (l : List α) : ∀ S : List Nat, S.Nodup → (S.map fun j => (l.filter fun x => f x == j).length).sum = (l.filter fun x => S.contains (f x)).length := by
  intro S
  induction S with
  | nil =>
    intro _
    have h0 : (l.filter fun x => ([] : List Nat).contains (f x)) = [] := List.filter_eq_nil_iff.2 (by simp)
    rw [h0]; rfl
  | cons j S ih =>
    intro hS
    rw [List.nodup_cons] at hS
    rw [List.map_cons, List.sum_cons, ih hS.2, filter_or]
    · congr 1
    · intro x _ hh
      simp only [beq_iff_eq, List.contains_iff_mem] at hh
      rw [hh.1] at hh
      exact hS.1 hh.2
/-- the shards of which B says so -/
def selN (B : Nat → Bool) : List Nat := (List.range 4).filter B
theorem selN_nodup (B : Nat → Bool) : (selN B).Nodup := List.Nodup.sublist List.filter_sublist List.nodup_range
theorem parts_all {α : Type} (f : α → Nat) (B : Nat → Bool) (l : List α) (h : ∀ x ∈ l, f x < 4 ∧ B (f x) = true) :
    ((selN B).map fun j => (l.filter fun x => f x == j).length).sum = l.length := by
  rw [sum_parts f l _ (selN_nodup B), List.filter_eq_self.2]
  intro x hx
  rw [List.contains_iff_mem, selN, List.mem_filter, List.mem_range]
  exact h x hx
def partR (n : Int) (s : Int) (l : List Rdv) : List Rdv := l.filter fun r => ((shard r.key n : Nat) : Int) == s
def partW (n : Int) (s : Int) (l : List Wrv) : List Wrv := l.filter fun r => ((shard r.key n : Nat) : Int) == s
end Go.Proofs.YteokhedljfakkaaDoor
