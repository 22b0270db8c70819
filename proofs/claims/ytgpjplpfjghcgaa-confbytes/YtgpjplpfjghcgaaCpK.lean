/- What is read as a configuration, to its end, is just that one's bytes. -/
import Derived.Test.YtgpjplpfjghcgaaCpH
namespace Go.Proofs.Ytgpjplpfjghcgaa
open Go Go.RowKit
set_option linter.unusedVariables false
set_option linter.unusedSimpArgs false

theorem atMost_back {most : Nat} {st : Option (List Nat)} {t : List Nat} (h : (Oct.atMost most st).2 = some t) (hb : ∀ l, st = some l → ∀ x ∈ l, x < 256) :
    st = some (Oct.put (Oct.atMost most st).1 ++ t) ∧ (Oct.atMost most st).1 ≤ most := by
  cases st with
  | none => simp [Oct.atMost] at h
  | some l =>
    by_cases hc : (Oct.num 0 0 l).2 = 0 ∨ most < (Oct.num 0 0 l).1
    · rw [Oct.atMost_bad _ _ hc] at h; cases h
    · rw [Oct.atMost_good _ _ hc] at h ⊢
      simp only [Option.some.injEq] at h
      have h1 : (Oct.num 0 0 l).2 ≠ 0 := fun e => hc (.inl e)
      obtain ⟨h2, h3, h4⟩ := Oct.num_is l (hb l rfl) h1
      refine ⟨?_, by show (Oct.num 0 0 l).1 ≤ most; omega⟩
      show some l = some (Oct.put (Oct.num 0 0 l).1 ++ t)
      rw [← h4, ← h, List.take_append_drop]
theorem atMostI_back {most : Int} {st : Option (List Nat)} {t : List Nat} (h : (Oct.atMostI most st).2 = some t) (hb : ∀ l, st = some l → ∀ x ∈ l, x < 256) :
    st = some (Oct.put (Oct.atMostI most st).1 ++ t) ∧ ((Oct.atMostI most st).1 : Int) ≤ most := by
  unfold Oct.atMostI at h ⊢
  split at h
  · cases h
  · rename_i hm
    rw [if_neg hm]
    obtain ⟨h1, h2⟩ := atMost_back h hb
    exact ⟨h1, by omega⟩
theorem tail_bytes {l a t : List Nat} (h : l = a ++ t) (hb : ∀ x ∈ l, x < 256) : ∀ x ∈ t, x < 256 := fun x hx => hb x (by rw [h]; simp [hx])
theorem readMs_back : ∀ (k : Nat) (st : Option (List Nat)) (t : List Nat), (readMs k st).2 = some t → (∀ l, st = some l → ∀ x ∈ l, x < 256) → st = some (membersB (readMs k st).1 ++ t) := by
  intro k
  induction k with
  | zero => intro st t h _; exact h
  | succ k ih =>
    intro st t h hb
    have h0 : (Oct.atMost 1 (Oct.atMostI 7 (readMs k st).2).2).2 = some t := h
    cases h1 : (readMs k st).2 with
    | none => rw [h1] at h0; simp [Oct.atMostI, Oct.atMost] at h0
    | some l1 =>
      have i1 := ih st l1 h1 hb
      have b1 : ∀ x ∈ l1, x < 256 := fun x hx => hb _ i1 x (by simp [hx])
      rw [h1] at h0
      cases h2 : (Oct.atMostI 7 (some l1)).2 with
      | none => rw [h2] at h0; simp [Oct.atMost] at h0
      | some l2 =>
        obtain ⟨i2, _⟩ := atMostI_back h2 (by intro l e; cases e; exact b1)
        have e2 : l1 = Oct.put (Oct.atMostI 7 (some l1)).1 ++ l2 := Option.some.inj i2
        have b2 := tail_bytes e2 b1
        rw [h2] at h0
        obtain ⟨i3, m3⟩ := atMost_back h0 (by intro l e; cases e; exact b2)
        have e3 : l2 = Oct.put (Oct.atMost 1 (some l2)).1 ++ t := Option.some.inj i3
        have hs : (readMs (k + 1) st).1 = (readMs k st).1 ++ [(((Oct.atMostI 7 (some l1)).1 : Int), ((Oct.atMost 1 (some l2)).1 : Int) == 1)] := by
          show (readMs k st).1 ++ [_] = _
          rw [h1, h2]
        rw [hs, membersB_snoc]
        have hbit : bit (((Oct.atMost 1 (some l2)).1 : Int) == 1) = (Oct.atMost 1 (some l2)).1 := by
          generalize (Oct.atMost 1 (some l2)).1 = q at m3
          rcases (by omega : q = 0 ∨ q = 1) with rfl | rfl <;> rfl
        simp only [Int.toNat_natCast, hbit]
        rw [List.append_assoc, ← e3, List.append_assoc, ← e2]
        exact i1

theorem readC_own {bs t : List Nat} (hb : ∀ x ∈ bs, x < 256) (h : (rdL (some bs)).2 = some t) : bs = bytesC (readC (some bs)) ++ t := by
  have n1 : ∀ m : Int, (Oct.atMostI m none).2 = none := fun m => by unfold Oct.atMostI; split <;> rfl
  have nM : ∀ k, (readMs k none).2 = none := fun k => by
    induction k with
    | zero => rfl
    | succ k ih => show (Oct.atMost 1 (Oct.atMostI 7 (readMs k none).2).2).2 = none; rw [ih, n1]; rfl
  cases hE : (rdE (some bs)).2 with
  | none => exfalso; unfold rdL rdM rdN rdS at h; rw [hE] at h; simp [n1, nM] at h
  | some l1 =>
  obtain ⟨i1, m1⟩ := atMost_back hE (by intro l e; cases e; exact hb)
  have e1 := Option.some.inj i1
  have b1 := tail_bytes e1 hb
  cases hS : (rdS (some bs)).2 with
  | none => exfalso; unfold rdL rdM rdN at h; rw [hS] at h; simp [n1, nM] at h
  | some l2 =>
  have hS' : (Oct.atMostI 3 (some l1)).2 = some l2 := by unfold rdS at hS; rw [hE] at hS; exact hS
  obtain ⟨i2, m2⟩ := atMostI_back hS' (by intro l e; cases e; exact b1)
  have e2 := Option.some.inj i2
  have b2 := tail_bytes e2 b1
  cases hN : (rdN (some bs)).2 with
  | none => exfalso; unfold rdL rdM at h; rw [hN] at h; simp [n1, nM] at h
  | some l3 =>
  have hN' : (Oct.atMostI 8 (some l2)).2 = some l3 := by unfold rdN at hN; rw [hS] at hN; exact hN
  obtain ⟨i3, m3⟩ := atMostI_back hN' (by intro l e; cases e; exact b2)
  have e3 := Option.some.inj i3
  have b3 := tail_bytes e3 b2
  cases hM : (rdM (some bs)).2 with
  | none => exfalso; unfold rdL at h; rw [hM] at h; simp [n1] at h
  | some l4 =>
  have hM' : (readMs (rdN (some bs)).1 (some l3)).2 = some l4 := by unfold rdM at hM; rw [hN] at hM; exact hM
  have i4 := readMs_back _ _ _ hM' (by intro l e; cases e; exact b3)
  have e4 := Option.some.inj i4
  have b4 := tail_bytes e4 b3
  have hL' : (Oct.atMostI 8 (some l4)).2 = some t := by unfold rdL at h; rw [hM] at h; exact h
  obtain ⟨i5, m5⟩ := atMostI_back hL' (by intro l e; cases e; exact b4)
  have e5 := Option.some.inj i5
  have q1 : (rdE (some bs)).1 = (Oct.atMost 18446744073709551615 (some bs)).1 := rfl
  have q2 : (rdS (some bs)).1 = (Oct.atMostI 3 (some l1)).1 := by unfold rdS; rw [hE]
  have q3 : (rdN (some bs)).1 = (Oct.atMostI 8 (some l2)).1 := by unfold rdN; rw [hS]
  have q4 : (rdM (some bs)).1 = (readMs (rdN (some bs)).1 (some l3)).1 := by unfold rdM; rw [hN]
  have q5 : (rdL (some bs)).1 = (Oct.atMostI 8 (some l4)).1 := by unfold rdL; rw [hM]
  have q6 : (rdM (some bs)).1.length = (rdN (some bs)).1 := readMs_length _ _
  have hl : learnerB (readC (some bs)).le = (rdL (some bs)).1 := by
    show learnerB (if ((rdL (some bs)).1 : Int) = 8 then -1 else ((rdL (some bs)).1 : Nat)) = _
    by_cases h8 : ((rdL (some bs)).1 : Int) = 8
    · rw [if_pos h8]; unfold learnerB; rw [if_pos rfl]; omega
    · rw [if_neg h8]; unfold learnerB; rw [if_neg (by omega)]; rfl
  show bs = Oct.put (rdE (some bs)).1 ++ Oct.put (((rdS (some bs)).1 : Int)).toNat ++ Oct.put (rdM (some bs)).1.length ++ membersB (rdM (some bs)).1 ++ Oct.put (learnerB (readC (some bs)).le) ++ t
  rw [hl, q6, q5, q4, q3, q2, Int.toNat_natCast]
  rw [q3] at e4
  conv => lhs; rw [e1, e2, e3, e4, e5]
  simp only [List.append_assoc]
  rfl
end Go.Proofs.Ytgpjplpfjghcgaa
