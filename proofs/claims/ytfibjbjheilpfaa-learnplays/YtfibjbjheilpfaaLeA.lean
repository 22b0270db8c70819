/- A learner in memory: what was chosen, by slots; contracts of the program's functions that read. -/
import Derived.Test.YtfibjbjheilpfaaLeM
namespace Go.Proofs.Ytfibjbjheilpfaa
open Go Go.RowKit
set_option linter.unusedVariables false
set_option linter.unusedSimpArgs false

structure Le (w : World) (g : Nat) (F : Ch) : Prop where
  box : ∃ cur, w.heap[g]? = some (.cells cur 49 (0, 0)) ∧ (∀ i, i < 400 → cur[i * 2]? = some (.string (valC F i)) ∧ cur[i * 2 + 1]? = some (.bool (hasC F i)))
theorem Le.lt {w : World} {g : Nat} {F : Ch} (h : Le w g F) : g < w.heap.size := by
  obtain ⟨cur, h1, h2⟩ := h.box
  exact (Array.getElem?_eq_some_iff.1 h1).1
theorem Le.cell {w : World} {g : Nat} {F : Ch} (h : Le w g F) (i : Nat) (hi : i < 400) : w.cell? ⟨g, i * 2, none⟩ = some (.string (valC F i)) ∧ w.cell? ⟨g, i * 2 + 1, none⟩ = some (.bool (hasC F i)) := by
  obtain ⟨cur, h1, h2⟩ := h.box
  exact ⟨cell_of_heap h1 (h2 i hi).1, cell_of_heap h1 (h2 i hi).2⟩
theorem Le.later {w wx : World} {g : Nat} {F : Ch} (h : Le w g F) (hb : Below w.heap.size w wx) : Le wx g F := by
  obtain ⟨cur, h1, h2⟩ := h.box
  exact ⟨cur, (hb.block g h.lt).trans h1, h2⟩


theorem slot_in (s : Int) (w : World) (h1 : 0 ≤ s) (h2 : s < 400) : Calls Try.prog 20 #[.int .i64 s] w fun e w' => e = .returned (.bool true) ∧ w' = w := by
  have h3 : decide (s < 400) = true := by simpa using h2
  go_enter Try.func20, Try.ntmps20
  go_wp2
  go_ret
  exact ⟨rfl, rfl⟩
theorem slot_out (s : Int) (w : World) (h : s < 0 ∨ 400 ≤ s) : Calls Try.prog 20 #[.int .i64 s] w fun e w' => e = .returned (.bool false) ∧ w' = w := by
  by_cases h1 : 0 ≤ s
  · have h3 : decide (s < 400) = false := by simp; omega
    go_enter Try.func20, Try.ntmps20
    go_wp2
    go_ret
    exact ⟨rfl, rfl⟩
  · go_enter Try.func20, Try.ntmps20
    go_wp2
    go_ret
    exact ⟨rfl, rfl⟩
theorem val_out (g : Nat) (s : Int) (w : World) (h : s < 0 ∨ 400 ≤ s) :
    Calls Try.prog 14 #[.pointer (some ⟨g, 0, none⟩), .int .i64 s] w fun e w' => e = .returned (.tuple #[.string ⟨#[]⟩, .bool false]) ∧ w' = w := by
  go_enter Try.func14, Try.ntmps14
  go_wp2_with (first | (go_at_call 20; refine (slot_out s w h).mono ?_; rintro e w' ⟨rfl, rfl⟩) | fail)
  go_ret2
  exact ⟨rfl, rfl⟩
theorem val_nil (s : Int) (w : World) :
    Calls Try.prog 14 #[.pointer none, .int .i64 s] w fun e w' => e = .returned (.tuple #[.string ⟨#[]⟩, .bool false]) ∧ w' = w := by
  go_enter Try.func14, Try.ntmps14
  go_wp2
  go_ret2
  exact ⟨rfl, rfl⟩
set_option maxRecDepth 100000 in
theorem val_in (g : Nat) (F : Ch) (i : Nat) (w : World) (h : Le w g F) (hi : i < 400) :
    Calls Try.prog 14 #[.pointer (some ⟨g, 0, none⟩), .int .i64 (i : Nat)] w fun e w' => e = .returned (.tuple #[.string (valC F i), .bool (hasC F i)]) ∧ ∃ n, w' = w.drewN n := by
  obtain ⟨c0, c1⟩ := h.cell i hi
  go_enter Try.func14, Try.ntmps14
  go_wp2_with (first | (go_at_call 20; refine (slot_in _ w (by omega) (by omega)).mono ?_; rintro e w' ⟨rfl, rfl⟩) | fail)
  go_quiet (fail)
  go_wp2
  go_ret2
  exact ⟨rfl, _, rfl⟩
/-- a learner's cells when nothing was chosen -/
def zc (u : Unit) : List Value := [Value.string ⟨#[]⟩, Value.bool false]
def zn (n : Nat) : List Unit := List.replicate n ()
def zer : Array Value := ((zn 400).flatMap zc).toArray
theorem zero49 (w : World) : (zeroValue 49).run Try.prog w = .ok (.agg zer) w := by kernel_rfl
theorem zn_at (n i : Nat) (hi : i < n) : (zn n)[i]? = some () := by unfold zn; rw [List.getElem?_replicate, if_pos hi]
theorem zer_at (i : Nat) (hi : i < 400) : zer[i * 2]? = some (.string ⟨#[]⟩) ∧ zer[i * 2 + 1]? = some (.bool false) := by
  have h := flat_at zc 2 (fun _ => rfl) (zn 400)
  have h1 := h i 0 () (zn_at 400 i hi) (by omega)
  have h2 := h i 1 () (zn_at 400 i hi) (by omega)
  rw [Nat.add_zero] at h1
  have e : ∀ k, zer[k]? = ((zn 400).flatMap zc)[k]? := fun k => by unfold zer; rw [List.getElem?_toArray]
  rw [e, e, h1, h2]
  exact ⟨rfl, rfl⟩
set_option maxRecDepth 100000 in
theorem new_any (w : World) : Calls Try.prog 7 #[] w fun e w' => e = .returned (.pointer (some ⟨w.heap.size, 0, none⟩)) ∧ Le w' w.heap.size (fun _ => none) ∧ Below w.heap.size w w' := by
  have hz := zero49 w
  generalize hzz : zer = z at hz
  go_enter Try.func7, Try.ntmps7
  go_wp2
  go_ret
  subst hzz
  exact ⟨rfl, ⟨zer, heap_alloc_new _ _, zer_at⟩, (Below.refl _ _).alloc (Nat.le_refl _) _⟩
end Go.Proofs.Ytfibjbjheilpfaa
