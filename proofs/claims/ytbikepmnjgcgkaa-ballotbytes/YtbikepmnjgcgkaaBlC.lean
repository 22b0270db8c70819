/- What package ballot's Less, Max, Next do: contracts; ballots between the program and the document. -/
import Derived.Test.YtbikepmnjgcgkaaBlA
namespace Go.Proofs.Ytbikepmnjgcgkaa
open Go.RowKit

/-- a ballot as a value -/
abbrev bal (r : Nat) (n : Int) : Value := .agg #[.int .u64 (r : Nat), .int .i64 n]

theorem ours_any (r : Nat) (n : Int) (w : World) :
    Calls Try.prog 11 #[bal r n] w fun e w' => e = .returned (bal r n) ∧ Below w.heap.size w w' := by
  go_enter Try.func11, Try.ntmps11
  go_wp2
  go_returns
  refine ⟨rfl, ?_⟩
  go_grown

theorem plain_any (r : Nat) (n : Int) (w : World) :
    Calls Try.prog 14 #[bal r n] w fun e w' => e = .returned (bal r n) ∧ Below w.heap.size w w' := by
  go_enter Try.func14, Try.ntmps14
  go_wp2
  go_returns
  refine ⟨rfl, ?_⟩
  go_grown

/-- is a ballot less? -/
def lss (r : Nat) (n : Int) (r' : Nat) (n' : Int) : Bool := if r = r' then decide (n < n') else decide (r < r')

theorem less_any (r r' : Nat) (n n' : Int) (w : World) :
    Calls Try.prog 12 #[bal r n, bal r' n'] w fun e w' => e = .returned (.bool (lss r n r' n')) ∧ Below w.heap.size w w' := by
  unfold lss
  by_cases h : r = r'
  · subst h
    rw [if_pos rfl]
    go_enter Try.func12, Try.ntmps12
    go_wp2
    go_ret
    refine ⟨rfl, ?_⟩
    go_grown
  · rw [if_neg h]
    go_enter Try.func12, Try.ntmps12
    go_wp2
    go_ret
    refine ⟨by simp, ?_⟩
    go_grown

theorem ref_less_any (r r' : Nat) (n n' : Int) (w : World) :
    Calls Try.prog 13 #[bal r n, bal r' n'] w fun e w' => e = .returned (.bool (lss r n r' n')) ∧ Below w.heap.size w w' := by
  unfold lss
  by_cases h : r = r'
  · subst h
    rw [if_pos rfl]
    go_enter Try.func13, Try.ntmps13
    go_wp2
    go_ret
    refine ⟨rfl, ?_⟩
    go_grown
  · rw [if_neg h]
    go_enter Try.func13, Try.ntmps13
    go_wp2
    go_ret
    refine ⟨by simp, ?_⟩
    go_grown

theorem lss_flip (r r' : Nat) (n n' : Int) (h : ¬ (r = r' ∧ n = n')) : lss r' n' r n = !lss r n r' n' := by
  unfold lss
  by_cases hr : r = r'
  · subst hr
    simp only [true_and] at h
    by_cases h1 : n < n'
    · simp [h1]; omega
    · simp [h1]; omega
  · rw [if_neg (fun h => hr h.symm), if_neg hr]
    by_cases h1 : r < r'
    · simp [h1]; omega
    · simp [h1]; omega
theorem lss_self (r : Nat) (n : Int) : lss r n r n = false := by simp [lss]

theorem max_same (r : Nat) (n : Int) (w : World) :
    Calls Try.prog 15 #[bal r n, bal r n] w fun e w' => e = .returned (bal r n) ∧ Below w.heap.size w w' := by
  go_enter Try.func15, Try.ntmps15
  go_wp2
  go_returns
  refine ⟨rfl, ?_⟩
  go_grown

theorem max_less (r r' : Nat) (n n' : Int) (w : World) (h : lss r n r' n' = true) :
    Calls Try.prog 15 #[bal r n, bal r' n'] w fun e w' => e = .returned (bal r' n') ∧ Below w.heap.size w w' := by
  unfold lss at h
  by_cases hr : r = r'
  · subst hr
    simp only [if_true, decide_eq_true_eq] at h
    go_enter Try.func15, Try.ntmps15
    go_wp2
    go_returns
    refine ⟨rfl, ?_⟩
    go_grown
  · simp only [if_neg hr, decide_eq_true_eq] at h
    go_enter Try.func15, Try.ntmps15
    go_wp2
    go_returns
    refine ⟨rfl, ?_⟩
    go_grown

theorem max_more (r r' : Nat) (n n' : Int) (w : World) (h : lss r n r' n' = false) :
    Calls Try.prog 15 #[bal r n, bal r' n'] w fun e w' => e = .returned (bal r n) ∧ Below w.heap.size w w' := by
  by_cases he : r = r' ∧ n = n'
  · obtain ⟨rfl, rfl⟩ := he
    exact max_same _ _ _
  · unfold lss at h
    by_cases hr : r = r'
    · subst hr
      simp only [if_true, decide_eq_false_iff_not] at h
      simp only [true_and] at he
      go_enter Try.func15, Try.ntmps15
      go_wp2
      go_returns
      refine ⟨rfl, ?_⟩
      go_grown
    · simp only [if_neg hr, decide_eq_false_iff_not] at h
      go_enter Try.func15, Try.ntmps15
      go_wp2
      go_returns
      refine ⟨rfl, ?_⟩
      go_grown

theorem next_out (r : Nat) (n k : Int) (w : World) (h : ¬ (0 ≤ k ∧ k < 5)) :
    Calls Try.prog 17 #[bal r n, .int .i64 k] w fun e w' => e = .returned (.tuple #[bal 0 0, .int .i64 1]) ∧ Below w.heap.size w w' := by
  go_enter Try.func17, Try.ntmps17
  go_wp2_with fail
  refine (isMaster_any _ _).mono ?_
  rintro e w1 ⟨rfl, hw⟩
  subst w1
  rw [decide_eq_false h]
  go_wp2
  go_returns
  refine ⟨rfl, ?_⟩
  go_grown

theorem next_full (n k : Int) (w : World) (h : 0 ≤ k ∧ k < 5) :
    Calls Try.prog 17 #[bal 18446744073709551615 n, .int .i64 k] w fun e w' => e = .returned (.tuple #[bal 0 0, .int .i64 9]) ∧ Below w.heap.size w w' := by
  go_enter Try.func17, Try.ntmps17
  go_wp2_with fail
  refine (isMaster_any _ _).mono ?_
  rintro e w1 ⟨rfl, hw⟩
  subst w1
  rw [decide_eq_true h]
  go_wp2
  go_returns
  refine ⟨rfl, ?_⟩
  go_grown

theorem next_in (r : Nat) (n k : Int) (w : World) (h : 0 ≤ k ∧ k < 5) (hr : r < 18446744073709551615) :
    Calls Try.prog 17 #[bal r n, .int .i64 k] w fun e w' => e = .returned (.tuple #[bal (r + 1) k, .int .i64 0]) ∧ Below w.heap.size w w' := by
  go_enter Try.func17, Try.ntmps17
  go_wp2_with fail
  refine (isMaster_any _ _).mono ?_
  rintro e w1 ⟨rfl, hw⟩
  subst w1
  rw [decide_eq_true h]
  go_wp2
  go_returns
  refine ⟨rfl, ?_⟩
  go_grown
end Go.Proofs.Ytbikepmnjgcgkaa
