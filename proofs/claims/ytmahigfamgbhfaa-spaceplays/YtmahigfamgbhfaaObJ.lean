/- Whether two rows of versions are the same: the program's answer, and the document's own. -/
import Derived.Test.YtmahigfamgbhfaaObE
namespace Go.Proofs.Ytmahigfamgbhfaa
open Go.RowKit
set_option linter.unusedVariables false

def sameB (l m : List Ver) : Bool := decide (l.length = m.length) && decide (∀ i, i < l.length → eqV (nth l i) (nth m i) = true)
theorem sameB_self (l : List Ver) : sameB l l = true := by
  simp [sameB, eqV_self]


set_option maxRecDepth 100000 in
set_option maxHeartbeats 2000000 in
theorem equal_any (a a' : Option Addr) (n n' cap cap' : Nat) (l l' : List Ver) (w : World) (hr : VRow w a n l) (hr' : VRow w a' n' l') :
    Calls Try.prog 47 #[.slice a n cap, .slice a' n' cap'] w fun e w' => e = .returned (.bool (sameB l l')) ∧ ∃ q, w' = w.drewN q := by
  have hlen : n ≤ 9223372036854775807 := by have := hr.2.2.1; unfold maxLen at this; omega
  by_cases hn : n = n'
  · subst hn
    have HR : Hid (VRow w a n l) := hr
    have HR' : Hid (VRow w a' n l') := hr'
    clear hr hr'
    go_enter Try.func47, Try.ntmps47
    go_wp2
    go_loopw [13] (fun t wr => ∃ k q : Nat, t = .int .i64 (k : Nat) ∧ k ≤ n ∧ wr = w.drewN q ∧ Hid (∀ i, i < k → eqV (nth l i) (nth l' i) = true)) (fun t _ => n - (intOf t).toNat)
    case atStart => exact ⟨0, 0, rfl, by omega, rfl, fun i hi => by omega⟩
    case round =>
      obtain ⟨k, q, rfl, hk, rfl, HK⟩ := hrel
      by_cases hlt : k < n
      · obtain ⟨b, off, rfl, hc⟩ := HR.out.at (by omega)
        obtain ⟨b', off', rfl, hc'⟩ := HR'.out.at (by omega)
        obtain ⟨c0, c1, c2, c3⟩ := hc k hlt
        obtain ⟨d0, d1, d2, d3⟩ := hc' k hlt
        clear hc hc'
        have heq := neq_36 (nth l k) (nth l' k)
        have hkz : (k : Int) < (n : Int) := by omega
        cases hv : eqV (nth l k) (nth l' k)
        · rw [hv] at heq
          have HF : Hid (sameB l l' = false) := by
            show sameB l l' = false
            cases hs : sameB l l' with
            | false => rfl
            | true =>
              simp only [sameB, Bool.and_eq_true, decide_eq_true_eq] at hs
              have := hs.2 k (by rw [HR.out.1]; exact hlt)
              rw [hv] at this
              cases this
          clear hv
          generalize nth l k = x at *
          generalize nth l' k = y at *
          go_wp2
          go_quiet (fail)
          go_wp2
          go_ret
          refine ⟨?_, q + nq, World.drewN_drewN _ _ _⟩
          rw [HF.out]
          rfl
        · rw [hv] at heq
          have HN : Hid (∀ i, i < k + 1 → eqV (nth l i) (nth l' i) = true) := by
            intro i hi
            by_cases e : i = k
            · rw [e]; exact hv
            · exact HK.out i (by omega)
          clear hv
          generalize nth l k = x at *
          generalize nth l' k = y at *
          go_wp2
          go_quiet (fail)
          go_wp2
          go_roundw
          case rel => exact ⟨k + 1, q + nq, by go_num, by omega, rfl, HN.out⟩
          case measure => simp [intOf]; omega
      · have HE : Hid (sameB l l' = true) := by
          show sameB l l' = true
          simp only [sameB, Bool.and_eq_true, decide_eq_true_eq]
          exact ⟨by rw [HR.out.1, HR'.out.1], fun i hi => HK.out i (by have := HR.out.1; omega)⟩
        go_wp2
        go_ret
        refine ⟨?_, q, rfl⟩
        rw [HE.out]
        rfl
  · rw [show sameB l l' = false by rw [sameB, decide_eq_false (by rw [hr.1, hr'.1]; exact hn)]; rfl]
    have e1 : ((n : Int) == (n' : Int)) = false := by simp; omega
    go_enter Try.func47, Try.ntmps47
    go_wp2
    go_ret
    exact ⟨rfl, 0, rfl⟩


set_option maxRecDepth 100000 in
set_option maxHeartbeats 2000000 in
theorem ref_same_any (a a' : Option Addr) (n n' cap cap' : Nat) (l l' : List Ver) (w : World) (hr : VRow w a n l) (hr' : VRow w a' n' l') :
    Calls Try.prog 23 #[.slice a n cap, .slice a' n' cap'] w fun e w' => e = .returned (.bool (sameB l l')) ∧ ∃ q, w' = w.drewN q := by
  have hlen : n ≤ 9223372036854775807 := by have := hr.2.2.1; unfold maxLen at this; omega
  by_cases hn : n = n'
  · subst hn
    have HR : Hid (VRow w a n l) := hr
    have HR' : Hid (VRow w a' n l') := hr'
    clear hr hr'
    go_enter Try.func23, Try.ntmps23
    go_wp2
    go_loopw [13] (fun t wr => ∃ k q : Nat, t = .int .i64 (k : Nat) ∧ k ≤ n ∧ wr = w.drewN q ∧ Hid (∀ i, i < k → eqV (nth l i) (nth l' i) = true)) (fun t _ => n - (intOf t).toNat)
    case atStart => exact ⟨0, 0, rfl, by omega, rfl, fun i hi => by omega⟩
    case round =>
      obtain ⟨k, q, rfl, hk, rfl, HK⟩ := hrel
      by_cases hlt : k < n
      · obtain ⟨b, off, rfl, hc⟩ := HR.out.at (by omega)
        obtain ⟨b', off', rfl, hc'⟩ := HR'.out.at (by omega)
        obtain ⟨c0, c1, c2, c3⟩ := hc k hlt
        obtain ⟨d0, d1, d2, d3⟩ := hc' k hlt
        clear hc hc'
        have heq := neq_43 (nth l k) (nth l' k)
        have hkz : (k : Int) < (n : Int) := by omega
        cases hv : eqV (nth l k) (nth l' k)
        · rw [hv] at heq
          have HF : Hid (sameB l l' = false) := by
            show sameB l l' = false
            cases hs : sameB l l' with
            | false => rfl
            | true =>
              simp only [sameB, Bool.and_eq_true, decide_eq_true_eq] at hs
              have := hs.2 k (by rw [HR.out.1]; exact hlt)
              rw [hv] at this
              cases this
          clear hv
          generalize nth l k = x at *
          generalize nth l' k = y at *
          go_wp2
          go_quiet (fail)
          go_wp2
          go_ret
          refine ⟨?_, q + nq, World.drewN_drewN _ _ _⟩
          rw [HF.out]
          rfl
        · rw [hv] at heq
          have HN : Hid (∀ i, i < k + 1 → eqV (nth l i) (nth l' i) = true) := by
            intro i hi
            by_cases e : i = k
            · rw [e]; exact hv
            · exact HK.out i (by omega)
          clear hv
          generalize nth l k = x at *
          generalize nth l' k = y at *
          go_wp2
          go_quiet (fail)
          go_wp2
          go_roundw
          case rel => exact ⟨k + 1, q + nq, by go_num, by omega, rfl, HN.out⟩
          case measure => simp [intOf]; omega
      · have HE : Hid (sameB l l' = true) := by
          show sameB l l' = true
          simp only [sameB, Bool.and_eq_true, decide_eq_true_eq]
          exact ⟨by rw [HR.out.1, HR'.out.1], fun i hi => HK.out i (by have := HR.out.1; omega)⟩
        go_wp2
        go_ret
        refine ⟨?_, q, rfl⟩
        rw [HE.out]
        rfl
  · rw [show sameB l l' = false by rw [sameB, decide_eq_false (by rw [hr.1, hr'.1]; exact hn)]; rfl]
    have e1 : ((n : Int) == (n' : Int)) = false := by simp; omega
    go_enter Try.func23, Try.ntmps23
    go_wp2
    go_ret
    exact ⟨rfl, 0, rfl⟩


theorem same_any (u u' : Value) (l l' : List Ver) (w : World) (h : Ob w u l) (h' : Ob w u' l') :
    Calls Try.prog 24 #[.agg #[u], .agg #[u']] w fun e w' => e = .returned (.bool (sameB l l')) ∧ Below w.heap.size w w' := by
  obtain ⟨a, cap, rfl, hv, -⟩ := h
  obtain ⟨a', cap', rfl, hv', -⟩ := h'
  have HB : Hid (Below w.heap.size w ((w.alloc (.cells #[.slice a l.length cap] 25)).alloc (.cells #[.slice a' l'.length cap'] 25))) := ((Below.refl _ w).alloc (Nat.le_refl _) _).alloc (by simp) _
  have h1 := equal_any a a' l.length l'.length cap cap' l l' _ (hv.later HB.out) (hv'.later HB.out)
  clear hv hv'
  go_enter Try.func24, Try.ntmps24
  go_wp2_with fail
  refine h1.mono ?_
  rintro e w1 ⟨rfl, q, rfl⟩
  go_wp2
  go_ret
  exact ⟨rfl, below_drewN HB.out _⟩
end Go.Proofs.Ytmahigfamgbhfaa

