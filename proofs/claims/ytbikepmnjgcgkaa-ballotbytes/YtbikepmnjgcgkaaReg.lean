/- Regions that draw their order and make memory: an invariant in place of every order. -/
import Derived.Test.YtbikepmnjgcgkaaBase
namespace Go.Proofs.Ytbikepmnjgcgkaa
open Go.RowKit

theorem held_inv {P : Program} {md : Region.Mode} {ops : Array Oper} {Q : Exit → Act → World → Prop} {S : World → Prop} (Inv : Nat → Array Bool → Act → World → Prop)
    (step : ∀ n listed a w, Inv n listed a w → wpAnyH P md ops Q S n listed a w ∨ ∃ m, n = m + 1 ∧ Region.ready md ops listed ≠ [] ∧ ∀ i ∈ Region.ready md ops listed, wpOp P ops Q i (fun a' w' => S w' ∧ Inv m (listed.setIfInBounds i true) a' w') a w) :
    ∀ n listed a w, Inv n listed a w → wpAnyH P md ops Q S n listed a w := by
  intro n
  induction n with
  | zero =>
    intro listed a w h
    rcases step _ _ _ _ h with h | ⟨m, hm, _⟩
    · exact h
    · omega
  | succ n ih =>
    intro listed a w h
    rcases step _ _ _ _ h with hs | ⟨m, hm, hne, hs⟩
    · exact hs
    · obtain rfl : n = m := by omega
      exact ⟨fun e => absurd e hne, fun i hi => wpOp_mono (fun a w hk => ⟨hk.1, ih _ _ _ hk.2⟩) (hs i hi)⟩

theorem wpOp_shut {P : Program} {ops : Array Oper} {Q : Exit → Act → World → Prop} {i : Nat} {o : Oper} {K0 : Act → World → Prop} {a : Act} {w : World} (ho : ops[i]? = some o)
    (h : ∀ K : Act → World → Prop, Shut (∀ a w, K0 a w → K a w) → if Region.wanted o (yielded ops a.tmps) = true then Oper.wp P o a w K Q else K (a.put o.dst undef) w) : wpOp P ops Q i K0 a w :=
  wpOp_step ho (fun K hK => h K hK)

/-- a variable's block, if it was made already -/
def Blk (w : World) (B : Nat) (o : Obj) (l : Bool) (v : Value) : Prop := l = true → ∃ p, v = .pointer (some ⟨p, 0, none⟩) ∧ w.heap[p]? = some o ∧ B ≤ p
theorem Blk.later {w wx : World} {B : Nat} {o : Obj} {l : Bool} {v : Value} (h : Blk w B o l v) (hb : Below w.heap.size w wx) : Blk wx B o l v := fun hl => by
  obtain ⟨p, h1, h2, h3⟩ := h hl
  exact ⟨p, h1, by rw [hb.block p (Array.getElem?_eq_some_iff.1 h2).1]; exact h2, h3⟩
theorem Blk.new (w : World) (B : Nat) (o : Obj) (l : Bool) (h : B ≤ w.heap.size) : Blk (w.alloc o) B o l (.pointer (some ⟨w.heap.size, 0, none⟩)) := fun _ =>
  ⟨_, rfl, by show (w.heap.push o)[w.heap.size]? = _; simp, h⟩
/-- a block that is there is another one than a new one -/
theorem Blk.apart {w : World} {B : Nat} {o : Obj} {l : Bool} {v : Value} (h : Blk w B o l v) (hl : l = true) : v ≠ .pointer (some ⟨w.heap.size, 0, none⟩) := by
  obtain ⟨p, rfl, h2, _⟩ := h hl
  intro e
  simp at e
  have := (Array.getElem?_eq_some_iff.1 h2).1
  omega
theorem two_same {w : World} {p : Nat} {x y u v : Value} {t : TypeId} (h : w.heap[p]? = some (.cells #[x, y] t (0, 0))) : ((w.setCell ⟨p, 0, none⟩ u).setCell ⟨p, 1, none⟩ v).heap[p]? = some (.cells #[u, v] t (0, 0)) :=
  heap_setCell_same _ _ _ _ _ _ (heap_setCell_same _ _ _ _ _ _ h)
theorem two_else {w : World} {p q : Nat} {u v : Value} {o : Obj} (h : w.heap[q]? = some o) (e : p ≠ q) : ((w.setCell ⟨p, 0, none⟩ u).setCell ⟨p, 1, none⟩ v).heap[q]? = some o := by
  rw [heap_setCell_other _ _ _ _ e.symm, heap_setCell_other _ _ _ _ e.symm]
  exact h
theorem Blk.no (w : World) (B : Nat) (o : Obj) (v : Value) : Blk w B o false v := fun h => by cases h
end Go.Proofs.Ytbikepmnjgcgkaa
