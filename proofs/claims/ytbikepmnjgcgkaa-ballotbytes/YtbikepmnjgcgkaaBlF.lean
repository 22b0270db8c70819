/- Ballots compared as structs; what is less than what is less is less. -/
import Derived.Test.YtbikepmnjgcgkaaBlD
namespace Go.Proofs.Ytbikepmnjgcgkaa
open Go.RowKit
theorem neq_bal (r r' : Nat) (n n' : Int) (h : ¬ (r = r' ∧ n = n')) (w : World) : (binOp .neq 24 (bal r n) (bal r' n')).run Try.prog w = .ok (.bool true) w := by
  by_cases hr : r = r'
  · subst hr
    have hn : ¬ n = n' := fun e => h ⟨rfl, e⟩
    have hn2 : (n == n') = false := by simpa using hn
    go_simp
  · have hr2 : ((r : Int) == (r' : Int)) = false := by simp; omega
    have hr3 : ¬ ((r : Int) = (r' : Int)) := by omega
    go_simp
theorem neq_same (r : Nat) (n : Int) (w : World) : (binOp .neq 24 (bal r n) (bal r n)).run Try.prog w = .ok (.bool false) w := by
  go_simp
theorem eql_same (r : Nat) (n : Int) (w : World) : (binOp .eql 24 (bal r n) (bal r n)).run Try.prog w = .ok (.bool true) w := by
  go_simp
theorem lss_trans (r0 r1 r2 : Nat) (n0 n1 n2 : Int) (h1 : lss r0 n0 r1 n1 = true) (h2 : lss r1 n1 r2 n2 = true) : lss r0 n0 r2 n2 = true := by
  unfold lss at *
  by_cases h01 : r0 = r1
  · subst h01
    by_cases h12 : r0 = r2
    · subst h12
      simp at *
      omega
    · simp [h12] at *
      exact h2
  · by_cases h12 : r1 = r2
    · subst h12
      simp [h01] at *
      exact h1
    · simp [h01, h12] at h1 h2
      rw [if_neg (by omega)]
      simp
      omega
end Go.Proofs.Ytbikepmnjgcgkaa
