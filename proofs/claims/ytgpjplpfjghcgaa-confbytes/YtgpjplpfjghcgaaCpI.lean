/- A right configuration's bytes, read back. -/
import Derived.Test.YtgpjplpfjghcgaaCpH
namespace Go.Proofs.Ytgpjplpfjghcgaa
open Go Go.RowKit

theorem atMostI_put (most n : Nat) (l : List Nat) (h : n ≤ most) (hm : most < 100) : Oct.atMostI (most : Nat) (some (Oct.put n ++ l)) = (n, some l) := by
  have e : ¬ ((most : Int) < 0) := by omega
  unfold Oct.atMostI
  rw [if_neg e, Int.toNat_natCast]
  exact Oct.atMost_put most n l (by omega) h
theorem readMs_put (l : List Mb) (h : ∀ m ∈ l, 0 ≤ m.1 ∧ m.1 < 8) (t : List Nat) : ∀ k, k ≤ l.length → readMs k (some (membersB l ++ t)) = (l.take k, some (membersB (l.drop k) ++ t)) := by
  intro k
  induction k with
  | zero => intro _; simp [readMs]
  | succ k ih =>
    intro hk
    have hkl : k < l.length := by omega
    rw [readMs, ih (by omega)]
    have h1 : l.drop k = l[k] :: l.drop (k + 1) := List.drop_eq_getElem_cons hkl
    have h2 : l.take (k + 1) = l.take k ++ [l[k]] := List.take_succ_eq_append_getElem hkl
    have h3 := h l[k] (List.getElem_mem hkl)
    rw [h1, h2]
    generalize l[k] = m at *
    obtain ⟨x, f⟩ := m
    simp only at h3
    obtain ⟨n, rfl⟩ : ∃ n : Nat, x = (n : Int) := ⟨x.toNat, by omega⟩
    have e1 : membersB (((n : Int), f) :: l.drop (k + 1)) ++ t = Oct.put n ++ (Oct.put (bit f) ++ (membersB (l.drop (k + 1)) ++ t)) := by simp [membersB]
    have e2 : Oct.atMostI 7 (some (Oct.put n ++ (Oct.put (bit f) ++ (membersB (l.drop (k + 1)) ++ t)))) = (n, some (Oct.put (bit f) ++ (membersB (l.drop (k + 1)) ++ t))) := by
      exact atMostI_put 7 n _ (by omega) (by omega)
    have e3 : Oct.atMost 1 (some (Oct.put (bit f) ++ (membersB (l.drop (k + 1)) ++ t))) = (bit f, some (membersB (l.drop (k + 1)) ++ t)) := Oct.atMost_put 1 _ _ (by cases f <;> decide) (by cases f <;> decide)
    simp only [e1, e2, e3]
    cases f <;> simp [bit]

theorem readC_put (c : Cf) (hr : rightB c = true) (he : c.ep < 18446744073709551616) (t : List Nat) : readC (some (bytesC c ++ t)) = c ∧ (rdL (some (bytesC c ++ t))).2 = some t := by
  have R := right_true hr
  have hfew := R.few
  have hall : ∀ m ∈ c.l, 0 ≤ m.1 ∧ m.1 < 8 := by
    intro m hm
    have h1 := R.ch
    simp only [chOk, okUpto, Bool.and_eq_true, List.all_eq_true] at h1
    exact srv_true.1 (h1.1.1 m.1 (List.mem_map_of_mem hm))
  have hle : c.le = -1 ∨ (0 ≤ c.le ∧ c.le < 8) := by
    have h1 := R.le
    unfold leOk at h1
    by_cases e : c.le = -1
    · exact .inl e
    · simp [e] at h1
      exact .inr (srv_true.1 h1.1)
  have hsh0 := R.sh0
  have hsh4 := R.sh4
  clear R hr
  obtain ⟨ep, sh, l, le⟩ := c
  simp only at *
  obtain ⟨sn, rfl⟩ : ∃ sn : Nat, sh = (sn : Int) := ⟨sh.toNat, by omega⟩
  obtain ⟨X, hX⟩ : ∃ X, X = some (bytesC ⟨ep, (sn : Int), l, le⟩ ++ t) := ⟨_, rfl⟩
  rw [← hX]
  have e0 : X = some (Oct.put ep ++ (Oct.put sn ++ (Oct.put l.length ++ (membersB l ++ (Oct.put (learnerB le) ++ t))))) := by
    rw [hX]; simp [bytesC, headB]
  have e1 : rdE X = (ep, some (Oct.put sn ++ (Oct.put l.length ++ (membersB l ++ (Oct.put (learnerB le) ++ t))))) := by
    unfold rdE; rw [e0]; exact Oct.atMost_put _ _ _ he (by omega)
  have e2 : rdS X = (sn, some (Oct.put l.length ++ (membersB l ++ (Oct.put (learnerB le) ++ t)))) := by
    unfold rdS; rw [e1]; exact atMostI_put 3 _ _ (by omega) (by omega)
  have e3 : rdN X = (l.length, some (membersB l ++ (Oct.put (learnerB le) ++ t))) := by
    unfold rdN; rw [e2]; exact atMostI_put 8 _ _ (by omega) (by omega)
  have e4 : rdM X = (l, some (Oct.put (learnerB le) ++ t)) := by
    unfold rdM; rw [e3]
    have := readMs_put l hall (Oct.put (learnerB le) ++ t) l.length (Nat.le_refl _)
    simp only [List.take_length, List.drop_length] at this
    exact this
  have hl8 : learnerB le ≤ 8 := by
    unfold learnerB; split <;> omega
  have e5 : rdL X = (learnerB le, some t) := by
    unfold rdL; rw [e4]; exact atMostI_put 8 _ _ hl8 (by omega)
  refine ⟨?_, by rw [e5]⟩
  unfold readC
  rw [e1, e2, e4, e5]
  have e6 : (if ((learnerB le : Nat) : Int) = 8 then (-1 : Int) else ((learnerB le : Nat) : Int)) = le := by
    rcases hle with rfl | ⟨h1, h2⟩
    · simp [learnerB]
    · have e7 : learnerB le = le.toNat := by unfold learnerB; rw [if_neg (by omega)]
      rw [e7, if_neg (by omega)]
      omega
  simp only [e6]
end Go.Proofs.Ytgpjplpfjghcgaa
