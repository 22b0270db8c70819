/- Whether a disk stands as the law's own: both are alike. -/
import Derived.Test.YtpejijiolcfglaaDkL
namespace Go.Proofs.Ytpejijiolcfglaa
open Go.RowKit

set_option maxHeartbeats 4000000 in
set_option maxRecDepth 100000 in
theorem like_true (g h : Nat) (S : Nat → Prop) (d : DS) (w : World) (t : Two w S g h d) :
    Calls Try.prog 10 #[.pointer (some ⟨g, 0, none⟩), .pointer (some ⟨h, 0, none⟩)] w fun e w' => e = .returned (.bool true) ∧ Below w.heap.size w w' := by
  go_enter Try.func10, Try.ntmps10
  go_wp2
  refine wp_loop_rounds 3 ?_
  rw [rounds_succ]
  go_wp2_with fail
  refine (dread_any g S d 0 w t.dk).mono ?_
  rintro e wa ⟨v, rfl, ho, hb⟩
  have twa := t.later hb
  have HBwa : Hid (Below w.heap.size w wa) := hb
  obtain ⟨a0, n0, c0, rfl, hrow, -⟩ := ho.slice
  have hcv : ∀ j, (convert 33 9 (.slice a0 n0 c0)).run Try.prog (wa.drewN j) = .ok (.string (str (d.read 0).1)) (wa.drewN j) := fun j => conv_row hrow.drews c0
  clear hb ho t hrow
  go_wp2_with fail
  refine (rread_any h d 0 wa twa.rk).mono ?_
  rintro e w2 ⟨rfl, hw⟩
  subst w2
  obtain ⟨-, -, -, e3, e4, e5, -, -⟩ := twa.rk.cells
  generalize str (d.read 0).1 = str0 at *
  generalize (d.read 0).2 = q0 at *
  have HS16 : Hid (∀ j, Calls Try.prog 16 #[.pointer (some ⟨g, 0, none⟩), .int .i64 0] (wa.drewN j) fun e w' => e = .returned (.int .i64 (d.s0 : Nat)) ∧ w' = wa.drewN j) := fun j => dsure_any g S d 0 _ (twa.dk.drews (k := j))
  go_wp2
  go_quiet ((exact Calls.quiet_of_same (HS16.out _)))
  go_wp2
  have tt0 : Two (wa.drewN nq) S g h d := twa.later (below_drewN (Below.refl _ _) _)
  have HBB0 : Hid (Below w.heap.size w (wa.drewN nq)) := below_drewN HBwa.out _
  generalize wa.drewN nq = W0 at *
  clear e3 e4 e5 HS16 hcv twa HBwa
  rw [rounds_succ]
  go_wp2_with fail
  refine (dread_any g S d 1 W0 tt0.dk).mono ?_
  rintro e wb ⟨v, rfl, ho, hb⟩
  have twb := tt0.later hb
  have HBwb : Hid (Below w.heap.size w wb) := HBB0.out.trans (hb.mono HBB0.out.size)
  obtain ⟨a1, n1, c1, rfl, hrow, -⟩ := ho.slice
  have hcv : ∀ j, (convert 33 9 (.slice a1 n1 c1)).run Try.prog (wb.drewN j) = .ok (.string (str (d.read 1).1)) (wb.drewN j) := fun j => conv_row hrow.drews c1
  clear hb ho tt0 hrow
  go_wp2_with fail
  refine (rread_any h d 1 wb twb.rk).mono ?_
  rintro e w2 ⟨rfl, hw⟩
  subst w2
  obtain ⟨-, -, -, e3, e4, e5, -, -⟩ := twb.rk.cells
  generalize str (d.read 1).1 = str1 at *
  generalize (d.read 1).2 = q1 at *
  have HS16 : Hid (∀ j, Calls Try.prog 16 #[.pointer (some ⟨g, 0, none⟩), .int .i64 1] (wb.drewN j) fun e w' => e = .returned (.int .i64 (d.s1 : Nat)) ∧ w' = wb.drewN j) := fun j => dsure_any g S d 1 _ (twb.dk.drews (k := j))
  go_wp2
  go_quiet ((exact Calls.quiet_of_same (HS16.out _)))
  go_wp2
  have tt1 : Two (wb.drewN nq) S g h d := twb.later (below_drewN (Below.refl _ _) _)
  have HBB1 : Hid (Below w.heap.size w (wb.drewN nq)) := below_drewN HBwb.out _
  generalize wb.drewN nq = W1 at *
  clear e3 e4 e5 HS16 hcv twb HBwb
  rw [rounds_succ]
  go_wp2
  obtain ⟨-, -, -, -, -, e5, -, -⟩ := tt1.rk.cells
  have HS15 : Hid (∀ j, Calls Try.prog 15 #[.pointer (some ⟨g, 0, none⟩)] (W1.drewN j) fun e w' => e = .returned (.bool d.lost) ∧ w' = W1.drewN j) := fun j => dlost_any g S d _ (tt1.dk.drews (k := j))
  have HS18 : Hid (∀ j, Calls Try.prog 18 #[.pointer (some ⟨g, 0, none⟩)] (W1.drewN j) fun e w' => e = .returned (.int .i64 (d.free : Nat)) ∧ ∃ k, w' = (W1.drewN j).drewN k) := fun j => droom_any g S d _ (tt1.dk.drews (k := j))
  have HS27 : Hid (∀ j, Calls Try.prog 27 #[.pointer (some ⟨h, 0, none⟩)] (W1.drewN j) fun e w' => e = .returned (.int .i64 (d.free : Nat)) ∧ ∃ k, w' = (W1.drewN j).drewN k) := fun j => rroom_any h d _ tt1.rk
  generalize d.lost = lo at *
  have hlo : (lo == lo) = true := by simp
  generalize d.free = fr at *
  go_quiet (first
    | exact Calls.quiet_of_same (HS15.out _)
    | exact Calls.quiet_of (HS18.out _)
    | exact Calls.quiet_of (HS27.out _))
  go_wp2
  go_ret
  exact ⟨rfl, below_drewN HBB1.out _⟩
end Go.Proofs.Ytpejijiolcfglaa
