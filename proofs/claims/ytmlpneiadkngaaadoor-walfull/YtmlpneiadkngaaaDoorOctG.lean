/- What a reader's Text, Int and Flag do: contracts. -/
import Derived.Test.YtmlpneiadkngaaaDoorOctF
namespace Go.Proofs.YtmlpneiadkngaaaDoor
open Go.RowKit

theorem Rd.bytes {w : World} {g : Nat} {st : Option (List Nat)} (h : Rd w g st) : ∀ bs, st = some bs → ∀ x ∈ bs, x < 256 := by
  intro bs hs
  subst hs
  obtain ⟨a, n, cap, _, hr, _⟩ := h
  exact hr.2.1

theorem atMostI_facts (most : Int) (st : Option (List Nat)) (hb : ∀ bs, st = some bs → ∀ x ∈ bs, x < 256) (hm : most ≤ 9223372036854775807) :
    (Oct.atMostI most st).1 ≤ 9223372036854775807 ∧ ((Oct.atMostI most st).2 = none → (Oct.atMostI most st).1 = 0) := by
  unfold Oct.atMostI
  by_cases h : most < 0
  · simp [h]
  · rw [if_neg h]
    have h1 := Oct.atMost_lt most.toNat st hb
    exact ⟨by omega, Oct.atMost_none _ _⟩

end Go.Proofs.YtmlpneiadkngaaaDoor
