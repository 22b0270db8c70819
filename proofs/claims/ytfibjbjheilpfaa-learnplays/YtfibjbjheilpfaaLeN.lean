/- Both learners side by side. -/
import Derived.Test.YtfibjbjheilpfaaLeL
namespace Go.Proofs.Ytfibjbjheilpfaa
open Go Go.RowKit
set_option linter.unusedVariables false
set_option linter.unusedSimpArgs false

/-- the program's learner at p, the document's at q: they say the same -/
structure Bo (w : World) (p q : Nat) (L : List Ro) : Prop where
  le_ : Le w p (chL L)
  rt : Rt w q q L
  pq : p < q
  ok : OkL L
theorem Bo.le {w : World} {p q : Nat} {L : List Ro} (h : Bo w p q L) : p ≤ w.heap.size := Nat.le_of_lt h.le_.lt
theorem Bo.ql {w : World} {p q : Nat} {L : List Ro} (h : Bo w p q L) : q < w.heap.size := by
  obtain ⟨v, h1, _⟩ := h.rt.box
  exact (Array.getElem?_eq_some_iff.1 h1).1
theorem Bo.later {w wx : World} {p q : Nat} {L : List Ro} (h : Bo w p q L) (hb : Below w.heap.size w wx) : Bo wx p q L := ⟨h.le_.later hb, h.rt.later hb, h.pq, h.ok⟩
theorem Rt.drews {w : World} {b g : Nat} {L : List Ro} (h : Rt w b g L) (d : Nat) : Rt (w.drewN d) b g L := ⟨h.lo, h.box.elim fun v hv => ⟨v, hv⟩⟩
theorem Bo.drews {w : World} {p q : Nat} {L : List Ro} (h : Bo w p q L) (d : Nat) : Bo (w.drewN d) p q L := ⟨h.le_.drews d, h.rt.drews d, h.pq, h.ok⟩
/-- the block behind all others is neither one's, nor that of the rows -/
theorem Bo.apart {w : World} {p q : Nat} {L : List Ro} (h : Bo w p q L) (o : Obj) : w.heap.size ≠ p ∧ w.heap.size ≠ q ∧ ∀ w2 : World, ∀ v, w2.heap[q]? = (w.alloc o).heap[q]? → w2.heap[q]? = some (.cells #[v] 27 (0, 0)) → v.ownBlock ≠ some w.heap.size := by
  have h1 := h.le_.lt
  have h2 := h.ql
  refine ⟨by omega, by omega, fun w2 v e1 e2 e3 => ?_⟩
  obtain ⟨v0, h3, h4⟩ := h.rt.box
  rw [e1, heap_alloc_old _ _ h2, h3] at e2
  simp at e2
  subst e2
  have := tag_lt (owns_tag h4 _ e3).2
  omega
theorem Le.frk {w w' : World} {g base : Nat} {T : List Nat} {F : Ch} (h : Le w g F) (hf : Fr base T w w') (hT : 49 ∉ T) : Le w' g F := by
  obtain ⟨cur, h1, h2⟩ := h.box
  exact ⟨cur, hf.cells h1 hT, h2⟩
theorem keep_cells {w w' : World} {g : Nat} {o : Obj} (hb : Below w.heap.size w w') (h : w.heap[g]? = some o) : w'.heap[g]? = some o := (hb.block g (Array.getElem?_eq_some_iff.1 h).1).trans h
theorem below_of_drews {w w' : World} (h : ∃ n, w' = w.drewN n) : Below w.heap.size w w' := by
  obtain ⟨n, rfl⟩ := h
  exact below_drews (Below.refl _ _) n
theorem pre_both {p q : Nat} {L : List Ro} (w : World) (h : Bo w p q L) : Calls Try.prog 10 #[.pointer (some ⟨p, 0, none⟩)] w fun e w' => e = .returned (.int .i64 (prefC (chL L) : Nat)) ∧ Below w.heap.size w w' :=
  (prefix_any p _ w h.le_).mono fun e w' ⟨h1, h2⟩ => ⟨h1, below_of_drews h2⟩
theorem top_both {p q : Nat} {L : List Ro} (w : World) (h : Bo w p q L) : Calls Try.prog 12 #[.pointer (some ⟨p, 0, none⟩)] w fun e w' => e = .returned (.int .i64 (topC (chL L) : Nat)) ∧ Below w.heap.size w w' :=
  (top_any p _ w h.le_).mono fun e w' ⟨h1, h2⟩ => ⟨h1, below_of_drews h2⟩
theorem rpre_both {p q : Nat} {L : List Ro} (w : World) (h : Bo w p q L) (hl : L.length ≤ 100000) : Calls Try.prog 11 #[.pointer (some ⟨q, 0, none⟩)] w fun e w' => e = .returned (.int .i64 (prefC (chL L) : Nat)) ∧ Below w.heap.size w w' := rprefix_any q q L w h.rt hl
theorem rtop_both {p q : Nat} {L : List Ro} (w : World) (h : Bo w p q L) (hl : L.length ≤ 100000) : Calls Try.prog 13 #[.pointer (some ⟨q, 0, none⟩)] w fun e w' => e = .returned (.int .i64 (topC (chL L) : Nat)) ∧ Below w.heap.size w w' := rtop_any q q L w h.rt hl h.ok
theorem rval2_any (base g : Nat) (L : List Ro) (s : Int) (w : World) (h : Rt w base g L) (hlen : L.length ≤ 100000) (hok : OkL L) :
    Calls Try.prog 15 #[.pointer (some ⟨g, 0, none⟩), .int .i64 s] w fun e w' => e = .returned (.tuple #[.string (valS (chL L) s), .bool (hasS (chL L) s)]) ∧ Below w.heap.size w w' := by
  have h1 := rval_any base g L s w h hlen
  by_cases hs : 0 ≤ s ∧ s < 400
  · obtain ⟨i, rfl⟩ : ∃ i : Nat, s = (i : Nat) := ⟨s.toNat, by omega⟩
    have e1 : valS (chL L) (i : Nat) = (fL L (i : Nat)).getD ⟨#[]⟩ := by unfold valS; rw [if_pos hs]; rfl
    have e2 : hasS (chL L) (i : Nat) = (fL L (i : Nat)).isSome := by unfold hasS; rw [if_pos hs]; rfl
    rw [e1, e2]
    exact h1
  · have e1 : valS (chL L) s = ⟨#[]⟩ := by unfold valS; rw [if_neg hs]
    have e2 : hasS (chL L) s = false := by unfold hasS; rw [if_neg hs]
    rw [e1, e2]
    rw [fL_in hok (by omega)] at h1
    exact h1
end Go.Proofs.Ytfibjbjheilpfaa
