/- What the law's own disk does: contracts. -/
import Derived.Test.YtpejijiolcfglaaDkB
namespace Go.Proofs.Ytpejijiolcfglaa
open Go.RowKit

theorem Rk.cells {w : World} {g : Nat} {d : DS} (h : Rk w g d) : w.cell? ⟨g, 0, none⟩ = some (.int .i64 (d.room : Nat)) ∧ w.cell? ⟨g, 1, none⟩ = some (.string (str d.b0)) ∧ w.cell? ⟨g, 2, none⟩ = some (.string (str d.b1)) ∧ w.cell? ⟨g, 3, none⟩ = some (.int .i64 (d.s0 : Nat)) ∧ w.cell? ⟨g, 4, none⟩ = some (.int .i64 (d.s1 : Nat)) ∧ w.cell? ⟨g, 5, none⟩ = some (.bool d.lost) ∧ w.cell? ⟨g, 6, none⟩ = some (.int .i64 (match d.left with | none => (-1 : Int) | some n => (n : Int))) ∧ ∀ i, w.frozen? ⟨g, i, none⟩ = false :=
  ⟨cell_of_heap h.1 rfl, cell_of_heap h.1 rfl, cell_of_heap h.1 rfl, cell_of_heap h.1 rfl, cell_of_heap h.1 rfl, cell_of_heap h.1 rfl, cell_of_heap h.1 rfl, fun _ => frozen_heap h.1⟩

theorem rnew_any (n : Int) (w : World) :
    Calls Try.prog 8 #[.int .i64 n] w fun e w' => e = .returned (.pointer (some ⟨w.heap.size, 0, none⟩)) ∧ Rk w' w.heap.size (DS.new (min n.toNat 1048576)) ∧ Below w.heap.size w w' := by
  obtain ⟨R, hR⟩ : ∃ R, R = min n.toNat 1048576 := ⟨_, rfl⟩
  rw [← hR]
  have hok := DS.new_ok R (by omega)
  have fin : ∀ x : Int, x = (R : Int) → Rk (w.alloc (.cells #[.int .i64 x, .string ⟨#[]⟩, .string ⟨#[]⟩, .int .i64 0, .int .i64 0, .bool false, .int .i64 (-1)] 44)) w.heap.size (DS.new R) ∧ Below w.heap.size w (w.alloc (.cells #[.int .i64 x, .string ⟨#[]⟩, .string ⟨#[]⟩, .int .i64 0, .int .i64 0, .bool false, .int .i64 (-1)] 44)) := by
    intro x hx
    subst hx
    refine ⟨⟨?_, hok⟩, (Below.refl _ _).alloc (Nat.le_refl _) _⟩
    show (w.heap.push _)[w.heap.size]? = _
    simp [DS.new, str]
  have FIN : Hid (∀ x : Int, _) := fin
  have HR : Hid (R = _) := hR
  clear fin hok hR
  by_cases h0 : n < 0
  · go_enter Try.func8, Try.ntmps8
    go_wp2
    go_ret
    exact ⟨rfl, FIN.out _ (by have := HR.out; omega)⟩
  · by_cases h1 : 1048576 < n
    · go_enter Try.func8, Try.ntmps8
      go_wp2
      go_ret
      exact ⟨rfl, FIN.out _ (by have := HR.out; omega)⟩
    · go_enter Try.func8, Try.ntmps8
      go_wp2
      go_ret
      exact ⟨rfl, FIN.out _ (by have := HR.out; omega)⟩

theorem rroom_any (g : Nat) (d : DS) (w : World) (h : Rk w g d) :
    Calls Try.prog 27 #[.pointer (some ⟨g, 0, none⟩)] w fun e w' => e = .returned (.int .i64 (d.free : Nat)) ∧ ∃ k, w' = w.drewN k := by
  obtain ⟨e0, e1, e2, -⟩ := h.cells
  have r0 := h.2.room
  have r1 := h.2.sum
  have hfree : (d.free : Int) = (d.room : Int) - (d.b0.length : Int) - (d.b1.length : Int) := by unfold DS.free; omega
  have HF : Hid (_ = _) := hfree
  have z0 := str_size d.b0
  have z1 := str_size d.b1
  clear hfree h
  go_enter Try.func27, Try.ntmps27
  go_wp2
  go_quiet (fail)
  go_wp2
  go_ret
  exact ⟨ret_int HF.out.symm, _, rfl⟩

/-- what the law's own write answers -/
def DS.wcode (d : DS) : Nat := if d.lost then 1 else if d.left = some 0 then 2 else 0

theorem DS.wcode_write (d : DS) : (d.wcode = 0 ∧ d.write.1 = 0) ∨ (0 < d.wcode ∧ d.wcode ≤ 2 ∧ d.write.1 = 12) := by
  unfold DS.wcode DS.write
  cases hl : d.lost
  · rcases hd : d.left with _ | _ | n <;> simp
  · simp
theorem DS.wcode_lost (d : DS) : d.wcode = 1 ↔ d.lost = true := by
  unfold DS.wcode
  cases hl : d.lost
  · rcases hd : d.left with _ | _ | n <;> simp
  · simp

theorem rwrite_any (g : Nat) (d : DS) (w : World) (h : Rk w g d) :
    Calls Try.prog 32 #[.pointer (some ⟨g, 0, none⟩)] w fun e w' => e = .returned (.int .i64 (d.wcode : Nat)) ∧ Rk w' g d.write.2 ∧ Fr (· = g) w w' := by
  have hok := DS.write_ok h.2
  have hle := h.2.left
  obtain ⟨-, -, -, -, -, e5, e6, f⟩ := h.cells
  have f5 := f 5
  have f6 := f 6
  have HH : Hid (Rk w g d) := h
  clear h f
  obtain ⟨room, b0, s0, b1, s1, lost, left⟩ := d
  dsimp only at *
  cases lost with
  | true =>
    go_enter Try.func32, Try.ntmps32
    go_wp2
    go_ret
    exact ⟨rfl, HH.out, Fr.refl _ _⟩
  | false =>
    rcases left with _ | _ | n
    · go_enter Try.func32, Try.ntmps32
      go_wp2
      go_ret
      exact ⟨rfl, HH.out, Fr.refl _ _⟩
    · dsimp only at e6
      go_enter Try.func32, Try.ntmps32
      go_wp2
      go_ret
      exact ⟨rfl, ⟨heap_setCell_same w g 5 _ 44 _ HH.out.1, hok⟩, Fr.one _ _ _ _⟩
    · have hn2 : n + 1 ≤ 9223372036854775807 := hle
      dsimp only at e6
      go_enter Try.func32, Try.ntmps32
      go_wp2
      go_ret
      refine ⟨rfl, ⟨?_, hok⟩, Fr.one _ _ _ _⟩
      have q := heap_setCell_same w g 6 _ 44 (.int .i64 (n : Nat)) HH.out.1
      exact q
end Go.Proofs.Ytpejijiolcfglaa
