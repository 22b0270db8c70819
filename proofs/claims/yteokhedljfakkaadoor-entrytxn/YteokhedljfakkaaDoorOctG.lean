/- What a reader's Text, Int and Flag do: contracts. -/
import Derived.Test.YteokhedljfakkaaDoorOctF
namespace Go.Proofs.YteokhedljfakkaaDoor
open Go.RowKit

theorem Rd.bytes {w : World} {g : Nat} {st : Option (List Nat)} (h : Rd w g st) : ∀ bs, st = some bs → ∀ x ∈ bs, x < 256 := by
  intro bs hs
  subst hs
  obtain ⟨a, n, cap, _, hr, _⟩ := h
  exact hr.2.1

theorem atMostI_facts (most : Int) (st : Option (List Nat)) (hb : ∀ bs, st = some bs → ∀ x ∈ bs, x < 256) (hm : most ≤ 9223372036854775807) :
    (Oct.atMostI most st).1 ≤ 9223372036854775807 ∧ ((Oct.atMostI most st).2 = none → (Oct.atMostI most st).1 = 0) := by
  unfold Oct.atMostI
  by_cases h : most < 0
  · simp [h]
  · rw [if_neg h]
    have h1 := Oct.atMost_lt most.toNat st hb
    exact ⟨by omega, Oct.atMost_none _ _⟩

set_option maxRecDepth 100000 in
set_option maxHeartbeats 1000000 in
theorem rtext_any (g : Nat) (most : Int) (st : Option (List Nat)) (w : World) (h : Rd w g st) (hm : most ≤ 9223372036854775807) :
    Calls Tryd.prog 65 #[.pointer (some ⟨g, 0, none⟩), .int .i64 most] w fun e w' => e = .returned (.string (str (Oct.textS most st).1)) ∧ Rd w' g (Oct.textS most st).2 ∧ Only g w w' := by
  have hc := atMostI_any g most st w h hm
  obtain ⟨hf1, hf2⟩ := atMostI_facts most st h.bytes hm
  have hS : Oct.textS most st = match Oct.atMostI most st with | (_, none) => ([], none) | (n, some bs) => if bs.length < n then ([], none) else (bs.take n, some (bs.drop n)) := rfl
  rw [hS]
  clear hS
  generalize Oct.atMostI most st = R at hc hf1 hf2 ⊢
  obtain ⟨n, st1⟩ := R
  simp only at hc hf1 hf2
  cases st1 with
  | none =>
    obtain rfl : n = 0 := hf2 rfl
    have kn : ∀ w, (convert 46 9 (.slice none 0 0)).run Tryd.prog w = .ok (.string ⟨#[]⟩) w := fun w => Lib.run_convert_nil_bytes w 46 9 5 0 Tryd.underlying46 Tryd.underlying5 Tryd.underlying9
    simp only
    go_enter Tryd.func65, Tryd.ntmps65
    go_wp2_with fail
    refine hc.mono ?_
    rintro e w2 ⟨rfl, h2, h3⟩
    go_wp2_with fail
    refine (left_any g _ w2 h2).mono ?_
    rintro e w' ⟨rfl, hw⟩
    subst w'
    go_wp2_with fail
    refine (take_bad g _ w2 h2).mono ?_
    rintro e w' ⟨rfl, hw⟩
    subst w'
    go_wp2
    go_ret
    exact ⟨rfl, h2, h3⟩
  | some bs =>
    simp only
    by_cases hl : bs.length < n
    · rw [if_pos hl]
      go_enter Tryd.func65, Tryd.ntmps65
      go_wp2_with fail
      refine hc.mono ?_
      rintro e w2 ⟨rfl, h2, h3⟩
      have hbl : bs.length ≤ 9223372036854775807 := by obtain ⟨a, k, cap, _, hr, _⟩ := h2; have := hr.2.2.1; unfold maxLen at this; omega
      go_wp2_with fail
      refine (left_any g _ w2 h2).mono ?_
      rintro e w' ⟨rfl, hw⟩
      subst w'
      simp only [Option.getD_some]
      generalize bs.length = L at hl hbl ⊢
      go_wp2_with fail
      refine (spoil_any g _ w2 h2).mono ?_
      rintro e w4 ⟨rfl, h4, h5⟩
      go_wp2
      go_ret
      exact ⟨rfl, h4, h3.trans h5⟩
    · rw [if_neg hl]
      go_enter Tryd.func65, Tryd.ntmps65
      go_wp2_with fail
      refine hc.mono ?_
      rintro e w2 ⟨rfl, h2, h3⟩
      have hbl : bs.length ≤ 9223372036854775807 := by obtain ⟨a, k, cap, _, hr, _⟩ := h2; have := hr.2.2.1; unfold maxLen at this; omega
      have htk := take_any g n bs w2 h2 (by omega)
      go_wp2_with fail
      refine (left_any g _ w2 h2).mono ?_
      rintro e w' ⟨rfl, hw⟩
      subst w'
      simp only [Option.getD_some]
      generalize bs.length = L at hl hbl ⊢
      go_wp2_with fail
      refine htk.mono ?_
      rintro e w4 ⟨⟨a4, rfl, r4, _⟩, h4, h5⟩
      have kc := conv_row r4 n
      go_wp2
      go_ret
      exact ⟨rfl, h4, h3.trans h5⟩

theorem int_any (g : Nat) (most : Int) (st : Option (List Nat)) (w : World) (h : Rd w g st) (hm : most ≤ 9223372036854775807) :
    Calls Tryd.prog 64 #[.pointer (some ⟨g, 0, none⟩), .int .i64 most] w fun e w' => e = .returned (.int .i64 ((Oct.atMostI most st).1 : Nat)) ∧ Rd w' g (Oct.atMostI most st).2 ∧ Only g w w' := by
  have hc := atMostI_any g most st w h hm
  obtain ⟨hf1, _⟩ := atMostI_facts most st h.bytes hm
  generalize Oct.atMostI most st = R at hc hf1 ⊢
  go_enter Tryd.func64, Tryd.ntmps64
  go_wp2_with fail
  refine hc.mono ?_
  rintro e w2 ⟨rfl, h2, h3⟩
  go_wp2
  go_ret
  exact ⟨rfl, h2, h3⟩

theorem flag_any (g : Nat) (st : Option (List Nat)) (w : World) (h : Rd w g st) :
    Calls Tryd.prog 63 #[.pointer (some ⟨g, 0, none⟩)] w fun e w' => e = .returned (.bool (((Oct.atMost 1 st).1 : Int) == 1)) ∧ Rd w' g (Oct.atMost 1 st).2 ∧ Only g w w' := by
  have hc := atMost_any g 1 st w h
  generalize Oct.atMost 1 st = R at hc ⊢
  go_enter Tryd.func63, Tryd.ntmps63
  go_wp2_with fail
  refine hc.mono ?_
  rintro e w2 ⟨rfl, h2, h3⟩
  go_wp2
  go_ret
  exact ⟨rfl, h2, h3⟩
end Go.Proofs.YteokhedljfakkaaDoor
