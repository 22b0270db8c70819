/- What a reader's Text, Int and Flag do: contracts. -/
import Derived.Test.YtgpjplpfjghcgaaOctF
namespace Go.Proofs.Ytgpjplpfjghcgaa
open Go.RowKit

theorem Rd.bytes {w : World} {g : Nat} {st : Option (List Nat)} (h : Rd w g st) : ∀ bs, st = some bs → ∀ x ∈ bs, x < 256 := by
  intro bs hs
  subst hs
  obtain ⟨a, n, cap, _, hr, _⟩ := h
  exact hr.2.1

theorem atMostI_facts (most : Int) (st : Option (List Nat)) (hb : ∀ bs, st = some bs → ∀ x ∈ bs, x < 256) (hm : most ≤ 9223372036854775807) :
    (Oct.atMostI most st).1 ≤ 9223372036854775807 ∧ ((Oct.atMostI most st).2 = none → (Oct.atMostI most st).1 = 0) := by
  unfold Oct.atMostI
  by_cases h : most < 0
  · simp [h]
  · rw [if_neg h]
    have h1 := Oct.atMost_lt most.toNat st hb
    exact ⟨by omega, Oct.atMost_none _ _⟩

theorem int_any (g : Nat) (most : Int) (st : Option (List Nat)) (w : World) (h : Rd w g st) (hm : most ≤ 9223372036854775807) :
    Calls Try.prog 61 #[.pointer (some ⟨g, 0, none⟩), .int .i64 most] w fun e w' => e = .returned (.int .i64 ((Oct.atMostI most st).1 : Nat)) ∧ Rd w' g (Oct.atMostI most st).2 ∧ Only g w w' := by
  have hc := atMostI_any g most st w h hm
  obtain ⟨hf1, _⟩ := atMostI_facts most st h.bytes hm
  generalize Oct.atMostI most st = R at hc hf1 ⊢
  go_enter Try.func61, Try.ntmps61
  go_wp2_with fail
  refine hc.mono ?_
  rintro e w2 ⟨rfl, h2, h3⟩
  go_wp2
  go_ret
  exact ⟨rfl, h2, h3⟩

theorem flag_any (g : Nat) (st : Option (List Nat)) (w : World) (h : Rd w g st) :
    Calls Try.prog 62 #[.pointer (some ⟨g, 0, none⟩)] w fun e w' => e = .returned (.bool (((Oct.atMost 1 st).1 : Int) == 1)) ∧ Rd w' g (Oct.atMost 1 st).2 ∧ Only g w w' := by
  have hc := atMost_any g 1 st w h
  generalize Oct.atMost 1 st = R at hc ⊢
  go_enter Try.func62, Try.ntmps62
  go_wp2_with fail
  refine hc.mono ?_
  rintro e w2 ⟨rfl, h2, h3⟩
  go_wp2
  go_ret
  exact ⟨rfl, h2, h3⟩
end Go.Proofs.Ytgpjplpfjghcgaa
