/- As Dz: what the last store waits for by another one. -/
import Derived.Test.YtlefaicdcomkjaaDz
namespace Go.Proofs.Ytlefaicdcomkjaa
open Go Go.RowKit
set_option linter.unusedVariables false

theorem Letz.first2 {P : Program} {md : Region.Mode} {ops : Array Oper} {Q : Exit → Act → World → Prop} {z m : Nat} {S : World → Prop} {i : Nat} {oi : Oper} {v : Value} (hi : ops[i]? = some oi) (hz : waits md ops z m = true) (hm : waits md ops m i = true) (hiz : i ≠ z) (him : i ≠ m) (hs : ∀ (j : Nat) (o : Oper) cs b, ops[j]? = some o → o.op ≠ .select cs b)
    (hQ : ∀ c a w, Q (.panic c) (a.put oi.dst v) w → Q (.panic c) a w) (n : Nat) : ∀ (done : Array Bool) (a : Act) (w : World),
    (∀ j oj, ops[j]? = some oj → j ≠ i → done.getD j true = false → (∀ e ∈ oj.after, Region.binds md e = true → e.on ≠ i) → oi.apart ops oj = true) →
    i ∈ Region.ready md ops done → done.getD z true = false → done.getD m true = false → YieldsIf P ops S oi v a → S w → Letz P md ops Q z S n (done.setIfInBounds i true) (a.put oi.dst v) w → Letz P md ops Q z S (n + 1) done a w := by
  induction n with
  | zero =>
    intro done a w _ hr hdz hdm hy hS h
    refine ⟨fun e => absurd (e ▸ hr) (by simp), fun j hj => ?_⟩
    by_cases e : j = i
    · rw [e]
      exact hy.wpOp hi hS ⟨fun _ => hS, h⟩
    · exact absurd (h.1 ▸ ready_mono hj e) (by simp)
  | succ n ih =>
    intro done a w hfree hr hdz hdm hy hS h
    refine ⟨fun e => absurd (e ▸ hr) (by simp), fun j hj => ?_⟩
    by_cases e : j = i
    · rw [e]
      exact hy.wpOp hi hS ⟨fun _ => hS, h⟩
    · obtain ⟨hjun, oj, hoj, hall⟩ := mem_ready.1 hj
      have hno : ∀ x ∈ oj.after, Region.binds md x = true → x.on ≠ i := by
        intro x hx hb hxi
        have h1 := hall x hx hb
        have h0 := (mem_ready.1 hr).1
        rw [hxi] at h1
        by_cases hlt : i < done.size
        · simp [hlt] at h0 h1
          rw [h0] at h1
          cases h1
        · simp [Array.getElem?_eq_none (Nat.le_of_not_lt hlt)] at h1
      have hjm : j ≠ m := by
        intro ejz
        rw [ejz] at hoj
        obtain ⟨x, hx, hb, hxi⟩ := waits_spec hm hoj
        exact hno x hx hb hxi
      have hjz : j ≠ z := by
        intro ejz
        rw [ejz] at hoj
        obtain ⟨x, hx, hb, hxi⟩ := waits_spec hz hoj
        have h1 := hall x hx hb
        rw [hxi] at h1
        by_cases hlt : m < done.size
        · simp [hlt] at hdm h1
          rw [h1] at hdm
          cases hdm
        · simp [Array.getElem?_eq_none (Nat.le_of_not_lt hlt)] at h1
      refine wpOp_mono ?_ (wpOp_putIf hoj (hfree j oj hoj e hjun hno) (fun cs b => hs i oi cs b hi) (fun cs b => hs j oj cs b hoj) hQ hy (h.2 j (ready_mono hj e)))
      rintro a' w' ⟨k1, k2, k3⟩
      have hcomm : (done.setIfInBounds i true).setIfInBounds j true = (done.setIfInBounds j true).setIfInBounds i true := (Array.setIfInBounds_comm _ _ (Ne.symm e))
      have hd1 : (done.setIfInBounds j true).getD z true = false := by rw [getD_set_ne true hjz]; exact hdz
      have hdm1 : (done.setIfInBounds j true).getD m true = false := by rw [getD_set_ne true hjm]; exact hdm
      have hd2 : ((done.setIfInBounds i true).setIfInBounds j true).getD z true = false := by rw [hcomm, getD_set_ne true hiz]; exact hd1
      have hSw := k2 hd2
      rw [hcomm] at k3
      refine ⟨fun _ => hSw, ih _ a' w' ?_ (ready_mono hr (Ne.symm e)) hd1 hdm1 k1 hSw k3⟩
      intro k ok hk hki hun hnok
      refine hfree k ok hk hki ?_ hnok
      by_cases ejk : j = k
      · rw [← ejk]; exact hjun
      · rwa [getD_set_ne true ejk] at hun

/-- the next operation that yields in every world in which S holds; number z waits for number m, which waits for it -/
theorem letz_take2 (m : Nat) {P : Program} {md : Region.Mode} {ops : Array Oper} {Q : Exit → Act → World → Prop} {z : Nat} {S : World → Prop} {i d : Nat} {oi : Oper} {v : Value} {fuel : Nat} {done : Array Bool} {a : Act} {w : World} (hi : ops[i]? = some oi) (hd : oi.dst = some d)
    (hz : (waits md ops z m && waits md ops m i && i != z && i != m && !done.getD z true && !done.getD m true) = true) (hs : Region.noSelect ops = true) (hf : Region.free md ops done i = true) (hr : (Region.ready md ops done).contains i = true)
    (hQ : ∀ c a w, Q (.panic c) (a.put oi.dst v) w → Q (.panic c) a w) (hy : YieldsIf P ops S oi v a) (hS : S w)
    (h : Letz P md ops Q z S fuel (done.setIfInBounds i true) (a.put (some d) v) w) : Letz P md ops Q z S (fuel + 1) done a w := by
  simp only [Bool.and_eq_true, bne_iff_ne, Bool.not_eq_true'] at hz
  obtain ⟨⟨⟨⟨⟨z1, z2⟩, z3⟩, z4⟩, z5⟩, z6⟩ := hz
  exact Letz.first2 hi z1 z2 z3 z4 (Region.noSelect_spec hs) hQ fuel done a w (Region.free_spec hi hf) (by simpa using hr) z5 z6 hy hS (by rw [hd]; exact h)
end Go.Proofs.Ytlefaicdcomkjaa
