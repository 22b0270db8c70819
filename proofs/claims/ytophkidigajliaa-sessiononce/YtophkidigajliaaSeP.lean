/- The chapter's example. -/
import Derived.Test.YtophkidigajliaaSeC
namespace Go.Proofs.Ytophkidigajliaa
open Go Go.RowKit
set_option linter.unusedVariables false
set_option linter.unusedSimpArgs false

abbrev aw1 : Log := [] ++ [openS (0, 1) 1]
abbrev aw2 : Log := aw1 ++ [doneS (0, 1) 3 8 0]
abbrev aw3 : Log := aw2 ++ [openS (0, 2) 4]
theorem aw_a : openE [] (0, 1) 1 = 0 := by decide
theorem aw_b : openE aw1 (0, 2) 2 = 10 := by decide
theorem aw_c : doneE aw1 (0, 1) 3 = 0 := by decide
theorem aw_d : openE aw2 (0, 2) 4 = 0 := by decide
theorem aw_n : cnt aw3 = 1 := by decide
theorem below_of_grown {base : Nat} {w w' : World} {b : Nat} (h : w.grownBy w' (some b)) (h1 : base ≤ w.heap.size) (h2 : base ≤ b) : Below base w w' :=
  ⟨h.os, h.tape, h.output, h.size, fun k hk => h.block k (by omega) (fun e => by simp at e; omega)⟩
set_option maxRecDepth 100000 in
set_option maxHeartbeats 2000000 in
theorem awake_any (w : World) : Calls Try.prog 14 #[] w fun e w' => e = .returned (.bool true) ∧ Below w.heap.size w w' := by
  have wf0 : (Lit.int .i64 0).wf = true := by decide
  go_enter Try.func14, Try.ntmps14
  go_wp2_with fail
  refine (new_any w).mono ?_
  rintro e w0 ⟨g, bm, rfl, hS0, hb0, hg, hbm⟩
  have HS : Hid (Se w0 g bm []) := hS0
  have HB : Hid (Below w.heap.size w w0) := hb0
  clear hS0 hb0
  go_wp2_with fail
  refine (open_any g bm [] (0, 1) 1 w0 HS.out wf0 (by simp)).mono ?_
  rintro e w1 ⟨rfl, hS1, hg1⟩
  rw [aw_a]
  have HS1 : Hid (Se w1 g bm aw1) := by rw [openLg, if_pos aw_a] at hS1; exact hS1
  have HB1 : Hid (Below w.heap.size w w1) := HB.out.trans (below_of_grown hg1 HB.out.size hbm)
  clear hS1 hg1 HS HB
  go_wp2_with fail
  refine (open_any g bm aw1 (0, 2) 2 w1 HS1.out wf0 (by simp)).mono ?_
  rintro e w2 ⟨rfl, hS2, hg2⟩
  rw [aw_b]
  have HS2 : Hid (Se w2 g bm aw1) := by rw [openLg, if_neg (by rw [aw_b]; decide)] at hS2; exact hS2
  have HB2 : Hid (Below w.heap.size w w2) := HB1.out.trans (below_of_grown hg2 HB1.out.size hbm)
  clear hS2 hg2 HS1 HB1
  go_wp2_with fail
  refine (done_any g bm aw1 (0, 1) 3 8 0 w2 HS2.out wf0 (by simp)).mono ?_
  rintro e w3 ⟨rfl, hS3, hg3⟩
  rw [aw_c]
  have HS3 : Hid (Se w3 g bm aw2) := by rw [doneLg, if_pos aw_c] at hS3; exact hS3
  have HB3 : Hid (Below w.heap.size w w3) := HB2.out.trans (below_of_grown hg3 HB2.out.size hbm)
  clear hS3 hg3 HS2 HB2
  go_wp2_with fail
  refine (open_any g bm aw2 (0, 2) 4 w3 HS3.out wf0 (by simp)).mono ?_
  rintro e w4 ⟨rfl, hS4, hg4⟩
  rw [aw_d]
  have HS4 : Hid (Se w4 g bm aw3) := by rw [openLg, if_pos aw_d] at hS4; exact hS4
  have HB4 : Hid (Below w.heap.size w w4) := HB3.out.trans (below_of_grown hg4 HB3.out.size hbm)
  clear hS4 hg4 HS3 HB3
  have hl := len_any g bm aw3 w4 HS4.out
  rw [aw_n] at hl
  go_wp2_with fail
  refine hl.mono ?_
  rintro e w5 ⟨rfl, hw5⟩
  subst w5
  clear hl
  go_wp2
  go_ret
  exact ⟨rfl, HB4.out⟩
theorem how_nil (x : Id) (w : World) : Calls Try.prog 10 #[.pointer none, idv x] w fun e w' => e = .returned (.int .i64 0) ∧ Below w.heap.size w w' := by
  obtain ⟨c, s⟩ := x
  have h1 := of_nil c (w.alloc (.cells #[.int .i64 c, .int .u64 s] 25))
  have hb : Below w.heap.size w (w.alloc (.cells #[.int .i64 c, .int .u64 s] 25)) := (Below.refl _ _).alloc (Nat.le_refl _) _
  go_enter Try.func10, Try.ntmps10
  go_wp2_with fail
  refine h1.mono ?_
  rintro e w1 ⟨rfl, hb1⟩
  have HB : Hid (Below w.heap.size w w1) := hb.trans (hb1.mono hb.size)
  clear hb hb1 h1
  go_wp2
  go_ret
  exact ⟨rfl, HB.out.alloc HB.out.size _⟩
end Go.Proofs.Ytophkidigajliaa
