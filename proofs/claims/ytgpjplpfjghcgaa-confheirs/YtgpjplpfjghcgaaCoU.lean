/- Regions that draw their order and make memory: an invariant in place of every order; what a change makes no longer than by one. -/
import Derived.Test.YtgpjplpfjghcgaaCoT
namespace Go.Proofs.Ytgpjplpfjghcgaa
open Go Go.RowKit
set_option linter.unusedVariables false
set_option linter.unusedSimpArgs false

theorem held_inv {P : Program} {md : Region.Mode} {ops : Array Oper} {Q : Exit → Act → World → Prop} {S : World → Prop} (Inv : Nat → Array Bool → Act → World → Prop)
    (step : ∀ n listed a w, Inv n listed a w → wpAnyH P md ops Q S n listed a w ∨ ∃ m, n = m + 1 ∧ Region.ready md ops listed ≠ [] ∧ ∀ i ∈ Region.ready md ops listed, wpOp P ops Q i (fun a' w' => S w' ∧ Inv m (listed.setIfInBounds i true) a' w') a w) :
    ∀ n listed a w, Inv n listed a w → wpAnyH P md ops Q S n listed a w := by
  intro n
  induction n with
  | zero =>
    intro listed a w h
    rcases step _ _ _ _ h with h | ⟨m, hm, _⟩
    · exact h
    · omega
  | succ n ih =>
    intro listed a w h
    rcases step _ _ _ _ h with hs | ⟨m, hm, hne, hs⟩
    · exact hs
    · obtain rfl : n = m := by omega
      exact ⟨fun e => absurd e hne, fun i hi => wpOp_mono (fun a w hk => ⟨hk.1, ih _ _ _ hk.2⟩) (hs i hi)⟩
theorem wpOp_shut {P : Program} {ops : Array Oper} {Q : Exit → Act → World → Prop} {i : Nat} {o : Oper} {K0 : Act → World → Prop} {a : Act} {w : World} (ho : ops[i]? = some o)
    (h : ∀ K : Act → World → Prop, Shut (∀ a w, K0 a w → K a w) → if Region.wanted o (yielded ops a.tmps) = true then Oper.wp P o a w K Q else K (a.put o.dst undef) w) : wpOp P ops Q i K0 a w :=
  wpOp_step ho (fun K hK => h K hK)
/-- a variable's block, if it was made already -/
def Blk (w : World) (B : Nat) (o : Obj) (l : Bool) (v : Value) : Prop := l = true → ∃ p, v = .pointer (some ⟨p, 0, none⟩) ∧ w.heap[p]? = some o ∧ B ≤ p
theorem Blk.later {w wx : World} {B : Nat} {o : Obj} {l : Bool} {v : Value} (h : Blk w B o l v) (hb : Below w.heap.size w wx) : Blk wx B o l v := fun hl => by
  obtain ⟨p, h1, h2, h3⟩ := h hl
  exact ⟨p, h1, by rw [hb.block p (Array.getElem?_eq_some_iff.1 h2).1]; exact h2, h3⟩
theorem Blk.new (w : World) (B : Nat) (o : Obj) (l : Bool) (h : B ≤ w.heap.size) : Blk (w.alloc o) B o l (.pointer (some ⟨w.heap.size, 0, none⟩)) := fun _ =>
  ⟨_, rfl, by show (w.heap.push o)[w.heap.size]? = _; simp, h⟩
theorem Blk.no (w : World) (B : Nat) (o : Obj) (v : Value) : Blk w B o false v := fun h => by cases h

theorem turn_len (c : Cf) (kd x : Int) (e : Nat) : (turnC c kd x e).1.l.length ≤ c.l.length + 1 := by
  unfold turnC removeC learnC promoteC markC
  repeat' split
  all_goals simp [zeroC, List.length_eraseIdx, List.length_set]
  all_goals first | omega | (split <;> omega)
end Go.Proofs.Ytgpjplpfjghcgaa
