/-
  Whatever is learned, a learner answers, and has, what the document says: sautoirlaw19.LearnPlays returns true at all rows and both numbers, and what came in reads as it did; no condition.
-/
import Derived.Test.YtfibjbjheilpfaaRows
import Derived.Test.YtfibjbjheilpfaaLeN
import Derived.WalkKit
import Derived.ProofKit
import Derived.OpenShut
import Derived.ShutString
import Derived.ChangeOld
import Derived.Below
namespace Go.Proofs.Ytfibjbjheilpfaa.learnPlays
open Go.ChangeShapes Go.WideShapes Go.ChangeAt Go.RowKit
open Go.ChangeMaps (open_string shut_string)
set_option linter.unusedSimpArgs false
set_option linter.unusedVariables false

theorem own : ownKnob Try.prog.godebug = none := by kernel_rfl
theorem laidOut : laidOutB Try.prog = true := by kernel_rfl

/-! The law returns true, and writes nothing that was there. -/
set_option maxRecDepth 100000 in
set_option maxHeartbeats 4000000 in
theorem walk (a0 : Option Addr) (len0 cap0 : Nat) (O0 : Nat → Ro) (a1 : Int) (a2 : Int) (w : World) (w0 : Rws w a0 len0 O0) (w1 : (Lit.int .i64 a1).wf = true) (w2 : (Lit.int .i64 a2).wf = true) :
    Calls Try.prog 3 #[.slice a0 len0 cap0, .int .i64 a1, .int .i64 a2] w fun e w' => e = .returned (.bool true) ∧ Below w.heap.size w w' := by
  have HZ : Hid (Rws w a0 len0 O0) := w0
  have hln : len0 ≤ maxLen := w0.1
  have HSW : Hid ((Lit.int .i64 a1).wf = true) := w1
  have HMW : Hid ((Lit.int .i64 a2).wf = true) := w2
  unfold maxLen at hln
  clear w0 w1 w2
  go_enter Try.func3, Try.ntmps3
  go_wp2_with fail
  refine (new_any w).mono ?_
  rintro e v1 ⟨rfl, hS, hb⟩
  have hb2 : Below v1.heap.size v1 (v1.alloc (.cells #[.slice none 0 0] 27)) := (Below.refl _ _).alloc (Nat.le_refl _) _
  have HBO : Hid (Bo (v1.alloc (.cells #[.slice none 0 0] 27)) w.heap.size v1.heap.size []) := ⟨hS.later hb2, ⟨Nat.le_refl _, _, heap_alloc_new v1 _, World.ownsRow_nil _ _ _ _⟩, hS.lt, by intro r hr; simp at hr⟩
  have HB : Hid (Below w.heap.size w (v1.alloc (.cells #[.slice none 0 0] 27))) := hb.trans (hb2.mono hb.size)
  clear hS hb hb2
  go_wp2
  generalize v1.alloc (.cells #[.slice none 0 0] 27) = v2 at *
  generalize hp : w.heap.size = p at *
  have HE : Hid (w.heap.size = p) := hp
  clear hp
  generalize v1.heap.size = q at *
  go_loopw [9, 20] (fun _ t wr => ∃ k : Nat, t = .int .i64 (k : Nat) ∧ k ≤ len0 ∧ Hid (∃ L, L.length ≤ k ∧ L.length ≤ 30 ∧ Bo wr p q L) ∧ Hid (Below p w wr)) (fun _ t _ => len0 - (intOf t).toNat)
  case atStart => exact ⟨0, rfl, by omega, ⟨[], by simp, by simp, HBO.out⟩, HB.out⟩
  case round =>
    obtain ⟨k, rfl, hk, HR, HW⟩ := hrel
    clear HBO HB
    obtain ⟨L, hL1, hL2, hS⟩ := HR.out
    have HS : Hid (Bo wr p q L) := hS
    clear HR hS
    by_cases hgo : k < len0 ∧ k < 30
    · obtain ⟨b, off, rfl, hc⟩ := HZ.out.at (by omega)
      obtain ⟨hok, d0, d1⟩ := hc k hgo.1
      clear hc
      have hlt := hgo.1
      have h30 := hgo.2
      have d0 := (HW.out.cell (by have := World.block_lt_of_cell? _ _ d0; rw [← HE.out]; exact this)).trans d0
      have d1 := (HW.out.cell (by have := World.block_lt_of_cell? _ _ d1; rw [← HE.out]; exact this)).trans d1
      generalize O0 k = x at d0 d1 hok
      obtain ⟨xs, xv⟩ := x
      simp only at d0 d1
      have HOK : Hid (RoOk (xs, xv)) := hok
      clear hok
      have bx : Below wr.heap.size wr (wr.alloc (.cells #[.int .i64 xs, .string xv] 29)) := (Below.refl _ _).alloc (Nat.le_refl _) _
      have HWX : Hid (Below p w (wr.alloc (.cells #[.int .i64 xs, .string xv] 29))) := HW.out.trans (bx.mono HS.out.le)
      have HXX : Hid ((wr.alloc (.cells #[.int .i64 xs, .string xv] 29)).heap[wr.heap.size]? = some (.cells #[.int .i64 xs, .string xv] 29)) := heap_alloc_new wr _
      have HSX : Hid (Bo (wr.alloc (.cells #[.int .i64 xs, .string xv] 29)) p q L) := HS.out.later bx
      have HAP : Hid (wr.heap.size ≠ p ∧ wr.heap.size ≠ q ∧ ∀ (w2 : World) (v : Value), w2.heap[q]? = (wr.alloc (.cells #[.int .i64 xs, .string xv] 29)).heap[q]? → w2.heap[q]? = some (.cells #[v] 27 (0, 0)) → v.ownBlock ≠ some wr.heap.size) := HS.out.apart _
      clear bx HS HW
      go_upto_region 6 with fail
      clear d0 d1 hgo
      generalize hw1 : wr.alloc (.cells #[.int .i64 xs, .string xv] 29) = y1 at *
      clear hw1
      generalize wr.heap.size = px at *
      have hst := lenL_learn L xs xv
      refine wp_region_noPanic ?_
      refine wp_region_held_drew (S := (fun w' => w'.cell? ⟨px, 0, none⟩ = some (.int .i64 xs) ∧ w'.cell? ⟨px, 1, none⟩ = some (.string xv))) (by kernel_rfl) ?_ (fun hHeld => ?_)
      · exact ⟨cell_of_heap HXX.out rfl, cell_of_heap HXX.out rfl⟩
      refine held_take (i := 0) (d := 27) (v := ?_) rfl rfl (by kernel_rfl) (by kernel_rfl) (by kernel_rfl) (fun _ _ _ h => h) (Or.inl ⟨by rfl, ?_⟩) hHeld ?_
      rotate_left
      · (intro w hSw; (try dsimp only at hSw); go_simp; all_goals (with_reducible rfl))
      try simp only [Act.put, List.setIfInBounds_toArray, List.set_cons_zero, List.set_cons_succ]
      refine held_take (i := 1) (d := 28) (v := ?_) rfl rfl (by kernel_rfl) (by kernel_rfl) (by kernel_rfl) (fun _ _ _ h => h) (Or.inl ⟨by rfl, ?_⟩) hHeld ?_
      rotate_left
      · (intro w hSw; (try dsimp only at hSw); go_simp; all_goals (with_reducible rfl))
      try simp only [Act.put, List.setIfInBounds_toArray, List.set_cons_zero, List.set_cons_succ]
      refine held_take (i := 2) (d := 29) (v := ?_) rfl rfl (by kernel_rfl) (by kernel_rfl) (by kernel_rfl) (fun _ _ _ h => h) (Or.inl ⟨by rfl, ?_⟩) hHeld ?_
      rotate_left
      · (intro w hSw; (try dsimp only at hSw); go_simp; all_goals (with_reducible rfl))
      try simp only [Act.put, List.setIfInBounds_toArray, List.set_cons_zero, List.set_cons_succ]
      refine held_take (i := 3) (d := 30) (v := ?_) rfl rfl (by kernel_rfl) (by kernel_rfl) (by kernel_rfl) (fun _ _ _ h => h) (Or.inl ⟨by rfl, ?_⟩) hHeld ?_
      rotate_left
      · (intro w hSw; (try dsimp only at hSw); go_simp; all_goals (with_reducible rfl))
      try simp only [Act.put, List.setIfInBounds_toArray, List.set_cons_zero, List.set_cons_succ]
      refine held_take (i := 4) (d := 31) (v := ?_) rfl rfl (by kernel_rfl) (by kernel_rfl) (by kernel_rfl) (fun _ _ _ h => h) (Or.inl ⟨by rfl, ?_⟩) hHeld ?_
      rotate_left
      · (intro w hSw; (try dsimp only at hSw); go_simp; all_goals (with_reducible rfl))
      try simp only [Act.put, List.setIfInBounds_toArray, List.set_cons_zero, List.set_cons_succ]
      refine held_take (i := 6) (d := 33) (v := ?_) rfl rfl (by kernel_rfl) (by kernel_rfl) (by kernel_rfl) (fun _ _ _ h => h) (Or.inl ⟨by rfl, ?_⟩) hHeld ?_
      rotate_left
      · (intro w hSw; (try dsimp only at hSw); go_simp; all_goals (with_reducible rfl))
      try simp only [Act.put, List.setIfInBounds_toArray, List.set_cons_zero, List.set_cons_succ]
      refine held_take (i := 7) (d := 34) (v := ?_) rfl rfl (by kernel_rfl) (by kernel_rfl) (by kernel_rfl) (fun _ _ _ h => h) (Or.inl ⟨by rfl, ?_⟩) hHeld ?_
      rotate_left
      · (intro w hSw; (try dsimp only at hSw); go_simp; all_goals (with_reducible rfl))
      try simp only [Act.put, List.setIfInBounds_toArray, List.set_cons_zero, List.set_cons_succ]
      refine held_take (i := 8) (d := 35) (v := ?_) rfl rfl (by kernel_rfl) (by kernel_rfl) (by kernel_rfl) (fun _ _ _ h => h) (Or.inl ⟨by rfl, ?_⟩) hHeld ?_
      rotate_left
      · (intro w hSw; (try dsimp only at hSw); go_simp; all_goals (with_reducible rfl))
      try simp only [Act.put, List.setIfInBounds_toArray, List.set_cons_zero, List.set_cons_succ]
      refine held_take (i := 9) (d := 36) (v := ?_) rfl rfl (by kernel_rfl) (by kernel_rfl) (by kernel_rfl) (fun _ _ _ h => h) (Or.inl ⟨by rfl, ?_⟩) hHeld ?_
      rotate_left
      · (intro w hSw; (try dsimp only at hSw); go_simp; all_goals (with_reducible rfl))
      try simp only [Act.put, List.setIfInBounds_toArray, List.set_cons_zero, List.set_cons_succ]
      refine held_take (i := 10) (d := 37) (v := ?_) rfl rfl (by kernel_rfl) (by kernel_rfl) (by kernel_rfl) (fun _ _ _ h => h) (Or.inl ⟨by rfl, ?_⟩) hHeld ?_
      rotate_left
      · (intro w hSw; (try dsimp only at hSw); go_simp; all_goals (with_reducible rfl))
      try simp only [Act.put, List.setIfInBounds_toArray, List.set_cons_zero, List.set_cons_succ]
      refine wpAnyH_ready (rs := [5]) (by kernel_rfl) (by simp) ?_
      refine AllReadyH.cons rfl (fun K hK => ?_) AllReadyH.nil
      go_simp
      have q1 := learn_any p (chL L) xs xv _ (HSX.out.le_.drews 1) HOK.out.2
      refine q1.mono ?_
      clear q1
      rintro e y2 ⟨rfl, hF, hg⟩
      have HF2 : Hid (Le y2 p (learnC (chL L) xs xv)) := hF
      have HR2 : Hid (Rt y2 q q L) := (HSX.out.rt.drews 1).fr ((HSX.out.le_.drews 1).fr hg) (by decide) (by decide)
      have HG2 : Hid (y2.heap[q]? = y1.heap[q]?) := hg.block q HSX.out.ql (by have := HSX.out.pq; simp; omega)
      have HX2 : Hid (y2.heap[px]? = some (.cells #[.int .i64 xs, .string xv] 29)) := (hg.block px (Array.getElem?_eq_some_iff.1 HXX.out).1 (by have := HAP.out.1; simp; omega)).trans HXX.out
      have HW2 : Hid (Below p w y2) := HWX.out.drew.trans (below_of_grown hg HSX.out.le (Nat.le_refl _))
      have HQ2 : Hid (q ≤ y2.heap.size ∧ p < q ∧ OkL L) := ⟨Nat.le_trans (Nat.le_of_lt HSX.out.ql) hg.size, HSX.out.pq, HSX.out.ok⟩
      clear hF hg HWX HXX HSX
      go_wp2_with fail
      refine hK.out _ _ ?_ (fun hHeld => ?_)
      · exact ⟨cell_of_heap HX2.out rfl, cell_of_heap HX2.out rfl⟩
      clear hK K
      try simp only [Act.put, List.setIfInBounds_toArray, List.set_cons_zero, List.set_cons_succ]
      refine wpAnyH_ready (rs := [11]) (by kernel_rfl) (by simp) ?_
      refine AllReadyH.cons rfl (fun K hK => ?_) AllReadyH.nil
      go_simp
      have q2 := rlearn_any2 q q L xs xv y2 HR2.out HQ2.out.1 (by omega) HOK.out.2
      refine q2.mono ?_
      clear q2
      rintro e y3 ⟨rfl, hR, hF, hK⟩
      have HB3 : Hid (Bo y3 p q (learnL L xs xv)) := ⟨by rw [chL_learn]; exact HF2.out.frk hF (by decide), hR, HQ2.out.2.1, okL_learn xs xv HQ2.out.2.2⟩
      have HX3 : Hid (y3.heap[px]? = some (.cells #[.int .i64 xs, .string xv] 29)) := (hK px (Array.getElem?_eq_some_iff.1 HX2.out).1 HAP.out.2.1 (fun v hv => HAP.out.2.2 y2 v HG2.out hv)).trans HX2.out
      have HW3 : Hid (Below p w y3) := HW2.out.trans ((hF.below HQ2.out.1).mono (Nat.le_of_lt HQ2.out.2.1))
      clear hR hF hK HF2 HR2 HG2 HX2 HW2 HQ2 HAP
      generalize learnE (chL L) xs xv = le at *
      generalize learnL L xs xv = L2 at *
      go_wp2_with fail
      refine hK.out _ _ ?_ (fun hHeld => ?_)
      · exact ⟨cell_of_heap HX3.out rfl, cell_of_heap HX3.out rfl⟩
      clear hK K
      try simp only [Act.put, List.setIfInBounds_toArray, List.set_cons_zero, List.set_cons_succ]
      refine held_take (i := 12) (d := 39) (v := ?_) rfl rfl (by kernel_rfl) (by kernel_rfl) (by kernel_rfl) (fun _ _ _ h => h) (Or.inl ⟨by rfl, ?_⟩) hHeld ?_
      rotate_left
      · (intro w hSw; (try dsimp only at hSw); go_simp; all_goals (with_reducible rfl))
      try simp only [Act.put, List.setIfInBounds_toArray, List.set_cons_zero, List.set_cons_succ]
      refine held_take (i := 13) (d := 40) (v := ?_) rfl rfl (by kernel_rfl) (by kernel_rfl) (by kernel_rfl) (fun _ _ _ h => h) (Or.inl ⟨by rfl, ?_⟩) hHeld ?_
      rotate_left
      · (intro w hSw; (try dsimp only at hSw); go_simp; all_goals (with_reducible rfl))
      try simp only [Act.put, List.setIfInBounds_toArray, List.set_cons_zero, List.set_cons_succ]
      refine held_take (i := 14) (d := 41) (v := ?_) rfl rfl (by kernel_rfl) (by kernel_rfl) (by kernel_rfl) (fun _ _ _ h => h) (Or.inl ⟨by rfl, ?_⟩) hHeld ?_
      rotate_left
      · (intro w hSw; (try dsimp only at hSw); go_simp; all_goals (with_reducible rfl))
      try simp only [Act.put, List.setIfInBounds_toArray, List.set_cons_zero, List.set_cons_succ]
      refine held_take (i := 16) (d := 43) (v := ?_) rfl rfl (by kernel_rfl) (by kernel_rfl) (by kernel_rfl) (fun _ _ _ h => h) (Or.inl ⟨by rfl, ?_⟩) hHeld ?_
      rotate_left
      · (intro w hSw; (try dsimp only at hSw); go_simp; all_goals (with_reducible rfl))
      try simp only [Act.put, List.setIfInBounds_toArray, List.set_cons_zero, List.set_cons_succ]
      refine wpAnyH_ready (rs := [15]) (by kernel_rfl) (by simp) ?_
      refine AllReadyH.cons rfl (fun K hK => ?_) AllReadyH.nil
      go_simp
      have q3 := pre_both y3 HB3.out
      refine q3.mono ?_
      clear q3
      rintro e y4 ⟨rfl, hb⟩
      have HB4 : Hid (Bo y4 p q L2) := HB3.out.later hb
      have HX4 : Hid (y4.heap[px]? = some (.cells #[.int .i64 xs, .string xv] 29)) := keep_cells hb HX3.out
      have HW4 : Hid (Below p w y4) := HW3.out.trans (hb.mono HB3.out.le)
      clear hb HB3 HX3 HW3
      go_wp2_with fail
      refine hK.out _ _ ?_ (fun hHeld => ?_)
      · exact ⟨cell_of_heap HX4.out rfl, cell_of_heap HX4.out rfl⟩
      clear hK K
      try simp only [Act.put, List.setIfInBounds_toArray, List.set_cons_zero, List.set_cons_succ]
      refine wpAnyH_ready (rs := [17]) (by kernel_rfl) (by simp) ?_
      refine AllReadyH.cons rfl (fun K hK => ?_) AllReadyH.nil
      go_simp
      have q3 := rpre_both y4 HB4.out (by omega)
      refine q3.mono ?_
      clear q3
      rintro e y5 ⟨rfl, hb⟩
      have HB5 : Hid (Bo y5 p q L2) := HB4.out.later hb
      have HX5 : Hid (y5.heap[px]? = some (.cells #[.int .i64 xs, .string xv] 29)) := keep_cells hb HX4.out
      have HW5 : Hid (Below p w y5) := HW4.out.trans (hb.mono HB4.out.le)
      clear hb HB4 HX4 HW4
      go_wp2_with fail
      refine hK.out _ _ ?_ (fun hHeld => ?_)
      · exact ⟨cell_of_heap HX5.out rfl, cell_of_heap HX5.out rfl⟩
      clear hK K
      try simp only [Act.put, List.setIfInBounds_toArray, List.set_cons_zero, List.set_cons_succ]
      refine held_take (i := 18) (d := 45) (v := ?_) rfl rfl (by kernel_rfl) (by kernel_rfl) (by kernel_rfl) (fun _ _ _ h => h) (Or.inl ⟨by rfl, ?_⟩) hHeld ?_
      rotate_left
      · (intro w hSw; (try dsimp only at hSw); go_simp; all_goals (with_reducible rfl))
      try simp only [Act.put, List.setIfInBounds_toArray, List.set_cons_zero, List.set_cons_succ]
      refine held_take (i := 19) (d := 46) (v := ?_) rfl rfl (by kernel_rfl) (by kernel_rfl) (by kernel_rfl) (fun _ _ _ h => h) (Or.inl ⟨by rfl, ?_⟩) hHeld ?_
      rotate_left
      · (intro w hSw; (try dsimp only at hSw); go_simp; all_goals (with_reducible rfl))
      try simp only [Act.put, List.setIfInBounds_toArray, List.set_cons_zero, List.set_cons_succ]
      refine held_take (i := 20) (d := 47) (v := ?_) rfl rfl (by kernel_rfl) (by kernel_rfl) (by kernel_rfl) (fun _ _ _ h => h) (Or.inl ⟨by rfl, ?_⟩) hHeld ?_
      rotate_left
      · (intro w hSw; (try dsimp only at hSw); go_simp; all_goals (with_reducible rfl))
      try simp only [Act.put, List.setIfInBounds_toArray, List.set_cons_zero, List.set_cons_succ]
      refine held_take (i := 21) (d := 48) (v := ?_) rfl rfl (by kernel_rfl) (by kernel_rfl) (by kernel_rfl) (fun _ _ _ h => h) (Or.inl ⟨by rfl, ?_⟩) hHeld ?_
      rotate_left
      · (intro w hSw; (try dsimp only at hSw); go_simp; all_goals (with_reducible rfl))
      try simp only [Act.put, List.setIfInBounds_toArray, List.set_cons_zero, List.set_cons_succ]
      refine held_take (i := 23) (d := 50) (v := ?_) rfl rfl (by kernel_rfl) (by kernel_rfl) (by kernel_rfl) (fun _ _ _ h => h) (Or.inl ⟨by rfl, ?_⟩) hHeld ?_
      rotate_left
      · (intro w hSw; (try dsimp only at hSw); go_simp; all_goals (with_reducible rfl))
      try simp only [Act.put, List.setIfInBounds_toArray, List.set_cons_zero, List.set_cons_succ]
      refine wpAnyH_ready (rs := [22]) (by kernel_rfl) (by simp) ?_
      refine AllReadyH.cons rfl (fun K hK => ?_) AllReadyH.nil
      go_simp
      have q3 := top_both y5 HB5.out
      refine q3.mono ?_
      clear q3
      rintro e y6 ⟨rfl, hb⟩
      have HB6 : Hid (Bo y6 p q L2) := HB5.out.later hb
      have HX6 : Hid (y6.heap[px]? = some (.cells #[.int .i64 xs, .string xv] 29)) := keep_cells hb HX5.out
      have HW6 : Hid (Below p w y6) := HW5.out.trans (hb.mono HB5.out.le)
      clear hb HB5 HX5 HW5
      go_wp2_with fail
      refine hK.out _ _ ?_ (fun hHeld => ?_)
      · exact ⟨cell_of_heap HX6.out rfl, cell_of_heap HX6.out rfl⟩
      clear hK K
      try simp only [Act.put, List.setIfInBounds_toArray, List.set_cons_zero, List.set_cons_succ]
      refine wpAnyH_ready (rs := [24]) (by kernel_rfl) (by simp) ?_
      refine AllReadyH.cons rfl (fun K hK => ?_) AllReadyH.nil
      go_simp
      have q3 := rtop_both y6 HB6.out (by omega)
      refine q3.mono ?_
      clear q3
      rintro e y7 ⟨rfl, hb⟩
      have HB7 : Hid (Bo y7 p q L2) := HB6.out.later hb
      have HX7 : Hid (y7.heap[px]? = some (.cells #[.int .i64 xs, .string xv] 29)) := keep_cells hb HX6.out
      have HW7 : Hid (Below p w y7) := HW6.out.trans (hb.mono HB6.out.le)
      clear hb HB6 HX6 HW6
      go_wp2_with fail
      refine hK.out _ _ ?_ (fun hHeld => ?_)
      · exact ⟨cell_of_heap HX7.out rfl, cell_of_heap HX7.out rfl⟩
      clear hK K
      try simp only [Act.put, List.setIfInBounds_toArray, List.set_cons_zero, List.set_cons_succ]
      refine held_take (i := 25) (d := 52) (v := ?_) rfl rfl (by kernel_rfl) (by kernel_rfl) (by kernel_rfl) (fun _ _ _ h => h) (Or.inl ⟨by rfl, ?_⟩) hHeld ?_
      rotate_left
      · (intro w hSw; (try dsimp only at hSw); go_simp; all_goals (with_reducible rfl))
      try simp only [Act.put, List.setIfInBounds_toArray, List.set_cons_zero, List.set_cons_succ]
      refine held_take (i := 26) (d := 53) (v := ?_) rfl rfl (by kernel_rfl) (by kernel_rfl) (by kernel_rfl) (fun _ _ _ h => h) (Or.inl ⟨by rfl, ?_⟩) hHeld ?_
      rotate_left
      · (intro w hSw; (try dsimp only at hSw); go_simp; all_goals (with_reducible rfl))
      try simp only [Act.put, List.setIfInBounds_toArray, List.set_cons_zero, List.set_cons_succ]
      refine wpAnyH_done (by kernel_rfl) ?_ _
      refine NoPanic.normal ?_
      go_wp2
      go_roundw
      case rel => exact ⟨k + 1, by go_num, by omega, ⟨L2, by omega, by omega, HB7.out⟩, HW7.out⟩
      case measure => simp [intOf]; omega
    · by_cases hl2 : k < len0
      · obtain ⟨b, off, rfl, hc⟩ := HZ.out.at (by omega)
        obtain ⟨hok, d0, d1⟩ := hc k hl2
        clear hc
        have d0 := (HW.out.cell (by have := World.block_lt_of_cell? _ _ d0; rw [← HE.out]; exact this)).trans d0
        have d1 := (HW.out.cell (by have := World.block_lt_of_cell? _ _ d1; rw [← HE.out]; exact this)).trans d1
        generalize O0 k = x at d0 d1 hok
        obtain ⟨xs, xv⟩ := x
        simp only at d0 d1
        have h30 : 30 ≤ k := by omega
        have bx : Below wr.heap.size wr (wr.alloc (.cells #[.int .i64 xs, .string xv] 29)) := (Below.refl _ _).alloc (Nat.le_refl _) _
        have HW1 : Hid (Below p w (wr.alloc (.cells #[.int .i64 xs, .string xv] 29))) := HW.out.trans (bx.mono HS.out.le)
        have HS1 : Hid (Bo (wr.alloc (.cells #[.int .i64 xs, .string xv] 29)) p q L) := HS.out.later bx
        clear bx HS HW hgo hok
        go_wp2_with fail
        generalize wr.alloc (.cells #[.int .i64 xs, .string xv] 29) = w1 at *
        refine (val_any p (chL L) a1 w1 HS1.out.le_).mono ?_
        rintro e w2 ⟨rfl, d, rfl⟩
        have HW2 : Hid (Below p w (w1.drewN d)) := below_drews HW1.out d
        have HS2 : Hid (Bo (w1.drewN d) p q L) := HS1.out.drews d
        clear HS1 HW1
        generalize w1.drewN d = w2 at *
        go_wp2_with fail
        refine (rval2_any q q L a1 w2 HS2.out.rt (by omega) HS2.out.ok).mono ?_
        rintro e w3 ⟨rfl, hb3⟩
        have HS3 : Hid (Bo w3 p q L) := HS2.out.later hb3
        have HW3 : Hid (Below p w w3) := HW2.out.trans (hb3.mono HS2.out.le)
        clear HS2 HW2 hb3
        generalize valS (chL L) a1 = v0 at *
        generalize hasS (chL L) a1 = b0 at *
        go_wp2_with fail
        refine (from_any p (chL L) a1 a2 w3 HS3.out.le_ HSW.out HMW.out).mono ?_
        rintro e w4 ⟨va, rfl, hva, hb4⟩
        have HVA : Hid (OwnV w4 w3.heap.size 9 va (encs (fromC (chL L) a1 a2))) := hva
        have HS4 : Hid (Bo w4 p q L) := HS3.out.later hb4
        have HW4 : Hid (Below p w w4) := HW3.out.trans (hb4.mono HS3.out.le)
        clear HS3 HW3 hb4 hva
        generalize w3.heap.size = b3 at *
        go_wp2_with fail
        refine (rfrom_any q q L a1 a2 w4 HS4.out.rt (by omega) HS4.out.ok).mono ?_
        rintro e w5 ⟨vb, rfl, hvb, hb5⟩
        have HVB : Hid (OwnV w5 w4.heap.size 9 vb (encs (fromC (chL L) a1 a2))) := hvb
        have HVA5 : Hid (OwnV w5 b3 9 va (encs (fromC (chL L) a1 a2))) := HVA.out.later hb5
        have HS5 : Hid (Bo w5 p q L) := HS4.out.later hb5
        have HW5 : Hid (Below p w w5) := HW4.out.trans (hb5.mono HS4.out.le)
        clear HS4 HW4 hb5 hvb HVA
        generalize w4.heap.size = b4 at *
        generalize fromC (chL L) a1 a2 = l at *
        go_wp2_with fail
        refine (keysame_any _ _ va vb l w5 HVA5.out HVB.out).mono ?_
        rintro e w6 ⟨rfl, hb6⟩
        have HS6 : Hid (Bo w6 p q L) := HS5.out.later hb6
        have HW6 : Hid (Below p w w6) := HW5.out.trans (hb6.mono HS5.out.le)
        clear HS5 HW5 hb6 HVA5 HVB
        go_wp2_with fail
        refine (awake_any w6).mono ?_
        rintro e w7 ⟨rfl, hb7⟩
        have HW7 : Hid (Below p w w7) := HW6.out.trans (hb7.mono HS6.out.le)
        clear HS6 HW6 hb7
        go_wp2
        go_ret
        exact ⟨rfl, by rw [HE.out]; exact HW7.out⟩
      · have HW1 : Hid (Below p w wr) := HW.out
        have HS1 : Hid (Bo wr p q L) := HS.out
        clear HS HW hgo
        go_wp2_with fail
        generalize wr = w1 at *
        refine (val_any p (chL L) a1 w1 HS1.out.le_).mono ?_
        rintro e w2 ⟨rfl, d, rfl⟩
        have HW2 : Hid (Below p w (w1.drewN d)) := below_drews HW1.out d
        have HS2 : Hid (Bo (w1.drewN d) p q L) := HS1.out.drews d
        clear HS1 HW1
        generalize w1.drewN d = w2 at *
        go_wp2_with fail
        refine (rval2_any q q L a1 w2 HS2.out.rt (by omega) HS2.out.ok).mono ?_
        rintro e w3 ⟨rfl, hb3⟩
        have HS3 : Hid (Bo w3 p q L) := HS2.out.later hb3
        have HW3 : Hid (Below p w w3) := HW2.out.trans (hb3.mono HS2.out.le)
        clear HS2 HW2 hb3
        generalize valS (chL L) a1 = v0 at *
        generalize hasS (chL L) a1 = b0 at *
        go_wp2_with fail
        refine (from_any p (chL L) a1 a2 w3 HS3.out.le_ HSW.out HMW.out).mono ?_
        rintro e w4 ⟨va, rfl, hva, hb4⟩
        have HVA : Hid (OwnV w4 w3.heap.size 9 va (encs (fromC (chL L) a1 a2))) := hva
        have HS4 : Hid (Bo w4 p q L) := HS3.out.later hb4
        have HW4 : Hid (Below p w w4) := HW3.out.trans (hb4.mono HS3.out.le)
        clear HS3 HW3 hb4 hva
        generalize w3.heap.size = b3 at *
        go_wp2_with fail
        refine (rfrom_any q q L a1 a2 w4 HS4.out.rt (by omega) HS4.out.ok).mono ?_
        rintro e w5 ⟨vb, rfl, hvb, hb5⟩
        have HVB : Hid (OwnV w5 w4.heap.size 9 vb (encs (fromC (chL L) a1 a2))) := hvb
        have HVA5 : Hid (OwnV w5 b3 9 va (encs (fromC (chL L) a1 a2))) := HVA.out.later hb5
        have HS5 : Hid (Bo w5 p q L) := HS4.out.later hb5
        have HW5 : Hid (Below p w w5) := HW4.out.trans (hb5.mono HS4.out.le)
        clear HS4 HW4 hb5 hvb HVA
        generalize w4.heap.size = b4 at *
        generalize fromC (chL L) a1 a2 = l at *
        go_wp2_with fail
        refine (keysame_any _ _ va vb l w5 HVA5.out HVB.out).mono ?_
        rintro e w6 ⟨rfl, hb6⟩
        have HS6 : Hid (Bo w6 p q L) := HS5.out.later hb6
        have HW6 : Hid (Below p w w6) := HW5.out.trans (hb6.mono HS5.out.le)
        clear HS5 HW5 hb6 HVA5 HVB
        go_wp2_with fail
        refine (awake_any w6).mono ?_
        rintro e w7 ⟨rfl, hb7⟩
        have HW7 : Hid (Below p w w7) := HW6.out.trans (hb7.mono HS6.out.le)
        clear HS6 HW6 hb7
        go_wp2
        go_ret
        exact ⟨rfl, by rw [HE.out]; exact HW7.out⟩

/-! From the call to the statement. -/
set_option maxRecDepth 100000 in
theorem lifted (os : Os) (started : os.Started) (H : Type) (enc : TypeId × Value → H) :
    ReturnsInHanded {} Try.checked os 3 .any (Rows.learnPlaysSpec.pre6 enc Try.prog Try.f3 Rows.learnPlaysRow.domain false) (Rows.learnPlaysSpec.post enc Try.prog Try.f3 false true false false) := by
  refine returnsInHanded_of_change (C := Try.checked) own started (by kernel_rfl) Try.func3
    (ChangeSpec.witness6 (enc := enc) (C := Try.checked) false ⟨#[], #[.slice none 0 0, .int .i64 0, .int .i64 0], []⟩ 8 (by kernel_rfl) (by kernel_rfl) (by kernel_rfl) (by kernel_rfl)) ?_
  intro W base args ds gs before hval0 hW hcnd _
  have hval : ∀ (j : Nat) t v, Try.f3.params[j]? = some t → args[j]? = some v → Value.okWide Try.prog W .any base t v := hval0
  have hW' := hW
  obtain ⟨p, q, hA0, hV, rfl, hfz, hnd⟩ := hW
  have hA : DataW.TrodAll enc Try.prog W 0 (fun _ => true) true Try.f3.params.toList args.toList ds p := hA0
  rw [Try.params3] at hA hval
  obtain ⟨v0, vs0, d0, ds0, p0, q0, hargs, rfl, rfl, h0, r0⟩ := trodAll_cons hA
  obtain ⟨v1, vs1, d1, ds1, p1, q1, rfl, rfl, rfl, h1, r1⟩ := trodAll_cons r0
  obtain ⟨v2, vs2, d2, ds2, p2, q2, rfl, rfl, rfl, h2, r2⟩ := trodAll_cons r1
  obtain ⟨rfl, rfl, rfl⟩ := trodAll_nil r2
  obtain rfl : args = #[v0, v1, v2] := by cases args; simp_all
  obtain ⟨rfl, rfl⟩ := trodVars_none hV
  obtain ⟨a0, len0, cap0, rfl⟩ := okWide_slice Try.underlying22 (hval 0 22 v0 rfl rfl)
  have k0 := h0
  have lt0 : ∀ x ∈ p0, x.block < W.heap.size := by obtain ⟨m, hm⟩ := k0; exact DataW.trod_lt m _ _ _ hm
  obtain ⟨O0, w0⟩ := open_rws h0
  obtain ⟨a1, rfl, rfl, rfl, w1⟩ := open_int Try.underlying3 (hval 1 3 v1 rfl rfl) h1
  obtain ⟨a2, rfl, rfl, rfl, w2⟩ := open_int Try.underlying3 (hval 2 3 v2 rfl rfl) h2
  clear hA0 hval0
  refine (walk a0 len0 cap0 O0 a1 a2 W w0 w1 w2).mono fun e W' ⟨he, bel⟩ => ?_
  subst he
  exact ⟨_, rfl, _, _, _, [], _, [], hW', trodAll_mk1 (shut_bool Try.underlying4 _), (trodAll_cons_mk (Below.trod laidOut (by kernel_rfl) (of_decide_eq_true (by kernel_rfl)) k0 bel lt0) (trodAll_cons_mk (shut_int Try.underlying3 w1) (trodAll_cons_mk (shut_int Try.underlying3 w2) trodAll_mk0))), rfl, bel.frame _, fun h => by cases h⟩

theorem over : Rows.learnPlaysRow.holds Try.pinned (OpenSpec.ofChange Rows.learnPlaysSpec) :=
  OpenClaim.holds_of_wide 3 Try.f3 rfl rfl rfl rfl rfl rfl rfl ⟨rfl, rfl, rfl, rfl, rfl⟩ rfl rfl rfl rfl rfl (by kernel_rfl) Try.func3 (by kernel_rfl)
    (of_decide_eq_true (by kernel_rfl)) (by unfold Func.isWrapper; first | (rw [if_pos (by decide +kernel)]; kernel_rfl) | (rw [if_neg (by decide +kernel)]; exact ⟨rfl, rfl⟩))
    (fun os started H enc _ => lifted os started H enc)
end Go.Proofs.Ytfibjbjheilpfaa.learnPlays
namespace Go.Proofs.Ytfibjbjheilpfaa
theorem learnPlays_holds : Rows.LearnPlaysSaid := learnPlays.over
#print axioms learnPlays_holds
end Go.Proofs.Ytfibjbjheilpfaa
