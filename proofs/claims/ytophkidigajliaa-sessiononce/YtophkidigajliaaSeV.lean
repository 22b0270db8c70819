/- A slot's Seq never falls: plain mathematics; a slot of five cells, stored. -/
import Derived.Test.YtophkidigajliaaSeP
import Derived.Test.YtophkidigajliaaSeQ
namespace Go.Proofs.Ytophkidigajliaa
open Go Go.RowKit
set_option linter.unusedVariables false
set_option linter.unusedSimpArgs false

abbrev sarr (s : Slot) : Array Value := #[.int .u64 s.seq, .bool s.opn, .int .i64 s.at_, .int .i64 s.code, .int .u64 s.num]
def Rises (L L2 : Log) (c : Int) : Prop := hasL L c = true → hasL L2 c = true ∧ ¬ (slotL L2 c).seq < (slotL L c).seq ∧ ((slotL L2 c).seq = (slotL L c).seq → (slotL L c).opn = false → slotL L2 c = slotL L c)
theorem Rises.refl (L : Log) (c : Int) : Rises L L c := fun h => ⟨h, Int.lt_irrefl _, fun _ _ => rfl⟩
theorem Rises.snoc {L : Log} {x : Id} {s : Slot} {c : Int} (hq : s.seq = x.2) (h : x.1 = c → hasL L c = true → (slotL L c).seq < x.2 ∨ ((slotL L c).seq = x.2 ∧ (slotL L c).opn = true)) : Rises L (L ++ [(x.1, s)]) c := by
  intro hh
  rw [hasL_snoc, slotL_snoc]
  by_cases e : x.1 = c
  · simp only [if_pos e]
    rcases h e hh with h1 | ⟨h1, h2⟩
    · exact ⟨trivial, by omega, fun h3 => by omega⟩
    · exact ⟨trivial, by omega, fun _ h3 => by rw [h2] at h3; cases h3⟩
  · simp only [if_neg e]
    exact ⟨hh, Int.lt_irrefl _, by simp⟩
theorem how0 {L : Log} {x : Id} (h : howL L x = 0) (hh : hasL L x.1 = true) : (slotL L x.1).seq < x.2 := by
  unfold howL at h
  by_cases h1 : hasL L x.1 = false ∨ (slotL L x.1).seq < x.2
  · rcases h1 with h1 | h1
    · rw [hh] at h1; cases h1
    · exact h1
  · rw [if_neg h1] at h
    by_cases h2 : (slotL L x.1).seq = x.2
    · rw [if_pos h2] at h; cases h
    · rw [if_neg h2] at h; cases h
theorem how1 {L : Log} {x : Id} (h : howL L x = 1) : hasL L x.1 = true ∧ (slotL L x.1).seq = x.2 := by
  unfold howL at h
  by_cases h1 : hasL L x.1 = false ∨ (slotL L x.1).seq < x.2
  · rw [if_pos h1] at h; cases h
  · rw [if_neg h1] at h
    by_cases h2 : (slotL L x.1).seq = x.2
    · refine ⟨?_, h2⟩
      cases hh : hasL L x.1
      · exact absurd (.inl hh) h1
      · rfl
    · rw [if_neg h2] at h; cases h
theorem rises_open (L : Log) (x : Id) (a : Int) (c : Int) : Rises L (openLg L x a) c := by
  unfold openLg
  by_cases h : openE L x a = 0
  · rw [if_pos h]
    refine Rises.snoc rfl (fun e hh => ?_)
    subst e
    rcases open_cases L x a with ⟨_, h1⟩ | ⟨_, h1⟩ | ⟨_, ⟨_, h1⟩ | ⟨_, _, h1⟩ | ⟨h2, _, h1⟩⟩
    · rw [h] at h1; cases h1
    · rw [h] at h1; cases h1
    · rw [h] at h1; cases h1
    · rw [h] at h1; cases h1
    · exact .inl (how0 h2 hh)
  · rw [if_neg h]
    exact Rises.refl L c
theorem rises_done (L : Log) (x : Id) (a cd n : Int) (c : Int) : Rises L (doneLg L x a cd n) c := by
  unfold doneLg
  by_cases h : doneE L x a = 0
  · rw [if_pos h]
    refine Rises.snoc rfl (fun e hh => ?_)
    subst e
    rcases done_cases L x a with ⟨_, h1⟩ | ⟨_, h1⟩ | ⟨_, ⟨h2, h3, h1⟩ | ⟨_, _, h1⟩ | ⟨_, _, h1⟩ | ⟨h2, _, h1⟩⟩
    · rw [h] at h1; cases h1
    · rw [h] at h1; cases h1
    · exact .inr ⟨(how1 h2).2, h3⟩
    · rw [h] at h1; cases h1
    · rw [h] at h1; cases h1
    · exact .inl (how0 h2 hh)
  · rw [if_neg h]
    exact Rises.refl L c

theorem five_cells {w : World} {g : Nat} {a b c d e : Value} {t : TypeId} (h : w.heap[g]? = some (.cells #[a, b, c, d, e] t (0, 0))) :
    w.cell? ⟨g, 0, none⟩ = some a ∧ w.cell? ⟨g, 1, none⟩ = some b ∧ w.cell? ⟨g, 2, none⟩ = some c ∧ w.cell? ⟨g, 3, none⟩ = some d ∧ w.cell? ⟨g, 4, none⟩ = some e :=
  ⟨cell_of_heap h rfl, cell_of_heap h rfl, cell_of_heap h rfl, cell_of_heap h rfl, cell_of_heap h rfl⟩
theorem five_frozen {w : World} {g : Nat} {a b c d e : Value} {t : TypeId} (h : w.heap[g]? = some (.cells #[a, b, c, d, e] t (0, 0))) :
    w.frozen? ⟨g, 0, none⟩ = false ∧ w.frozen? ⟨g, 1, none⟩ = false ∧ w.frozen? ⟨g, 2, none⟩ = false ∧ w.frozen? ⟨g, 3, none⟩ = false ∧ w.frozen? ⟨g, 4, none⟩ = false := by
  refine ⟨?_, ?_, ?_, ?_, ?_⟩ <;> simp [World.frozen?, h]
abbrev put5 (w : World) (g : Nat) (a b c d e : Value) : World := ((((w.setCell ⟨g, 0, none⟩ a).setCell ⟨g, 1, none⟩ b).setCell ⟨g, 2, none⟩ c).setCell ⟨g, 3, none⟩ d).setCell ⟨g, 4, none⟩ e
theorem five_put {w : World} {g : Nat} {a b c d e a' b' c' d' e' : Value} {t : TypeId} (h : w.heap[g]? = some (.cells #[a, b, c, d, e] t (0, 0))) :
    (put5 w g a' b' c' d' e').heap[g]? = some (.cells #[a', b', c', d', e'] t (0, 0)) :=
  heap_setCell_same _ _ _ _ _ _ (heap_setCell_same _ _ _ _ _ _ (heap_setCell_same _ _ _ _ _ _ (heap_setCell_same _ _ _ _ _ _ (heap_setCell_same _ _ _ _ _ _ h))))
theorem below_put5 {B : Nat} {a w : World} (h : Below B a w) {g : Nat} (hp : B ≤ g) (x y z u v : Value) : Below B a (put5 w g x y z u v) :=
  ((((h.setCell (p := ⟨g, 0, none⟩) hp x).setCell (p := ⟨g, 1, none⟩) hp y).setCell (p := ⟨g, 2, none⟩) hp z).setCell (p := ⟨g, 3, none⟩) hp u).setCell (p := ⟨g, 4, none⟩) hp v
theorem put5_other {w : World} {g k : Nat} (a b c d e : Value) (h : k ≠ g) : (put5 w g a b c d e).heap[k]? = w.heap[k]? := by
  unfold put5
  repeat rw [Below.heap_setCell _ _ _ _ (by exact h)]
theorem neq_42 (a : Slot) (w : World) : (binOp .neq 42 (.agg #[.int .u64 a.seq, .bool a.opn, .int .i64 a.at_, .int .i64 a.code, .int .u64 a.num]) (.agg #[.int .u64 a.seq, .bool a.opn, .int .i64 a.at_, .int .i64 a.code, .int .u64 a.num])).run Try.prog w = .ok (.bool false) w := by
  have hS : Try.prog.underlying 42 = some (.struct (Try.prog.fieldsOf 42)) := by kernel_rfl
  have hp : Try.prog.stoodInHeld 42 = false := by kernel_rfl
  obtain ⟨q, o, t, c, n⟩ := a
  rw [run_neq_struct, show (10000 : Nat) = 9999 + 1 from rfl, run_equalIn_agg w 9999 42 _ _ hS hp]
  simp only [Program.fieldsOf, Try.underlying42]
  go_simp
theorem eql_42 (a : Slot) (w : World) : (binOp .eql 42 (.agg #[.int .u64 a.seq, .bool a.opn, .int .i64 a.at_, .int .i64 a.code, .int .u64 a.num]) (.agg #[.int .u64 a.seq, .bool a.opn, .int .i64 a.at_, .int .i64 a.code, .int .u64 a.num])).run Try.prog w = .ok (.bool true) w := by
  have hS : Try.prog.underlying 42 = some (.struct (Try.prog.fieldsOf 42)) := by kernel_rfl
  have hp : Try.prog.stoodInHeld 42 = false := by kernel_rfl
  obtain ⟨q, o, t, c, n⟩ := a
  rw [run_eql_struct, show (10000 : Nat) = 9999 + 1 from rfl, run_equalIn_agg w 9999 42 _ _ hS hp]
  simp only [Program.fieldsOf, Try.underlying42]
  go_simp
end Go.Proofs.Ytophkidigajliaa
