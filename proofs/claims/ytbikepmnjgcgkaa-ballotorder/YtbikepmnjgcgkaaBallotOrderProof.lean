/-
  Which ballot is less, and which the greater one, is as the chapter says, of two that are not the same one is less, and what is less than what is less is less: the law BallotOrder returns true at any three ballots, and changes none. No condition.
-/
import Derived.Test.YtbikepmnjgcgkaaRows
import Derived.Test.YtbikepmnjgcgkaaBlF
import Derived.Test.YtbikepmnjgcgkaaReg
import Derived.WalkKit
import Derived.ProofKit
import Derived.OpenShut
import Derived.ShutString
import Derived.ChangeOld
import Derived.Below
namespace Go.Proofs.Ytbikepmnjgcgkaa.ballotOrder
open Go.ChangeShapes Go.WideShapes Go.ChangeAt Go.RowKit
open Go.ChangeMaps (open_string shut_string)
set_option linter.unusedSimpArgs false
set_option linter.unusedVariables false

theorem own : ownKnob Try.prog.godebug = none := by kernel_rfl
theorem laidOut : laidOutB Try.prog = true := by kernel_rfl

/-! The law returns true, and writes nothing that was there. -/
set_option maxRecDepth 100000 in
set_option maxHeartbeats 4000000 in
theorem walk (r0 : Nat) (n0 : Int) (r1 : Nat) (n1 : Int) (r2 : Nat) (n2 : Int) (w : World) (hr0 : r0 < 18446744073709551616) (hn0 : (Lit.int .i64 n0).wf = true) (hr1 : r1 < 18446744073709551616) (hn1 : (Lit.int .i64 n1).wf = true) (hr2 : r2 < 18446744073709551616) (hn2 : (Lit.int .i64 n2).wf = true) :
    Calls Try.prog 3 #[bal r0 n0, bal r1 n1, bal r2 n2] w fun e w' => e = .returned (.bool true) ∧ Below w.heap.size w w' := by
  clear hr0 hr1 hr2 hn0 hn1 hn2
  go_enter Try.func3, Try.ntmps3
  go_wp2_with fail
  obtain ⟨W, hW⟩ : ∃ W, W = (((w.alloc (.cells #[.int .u64 (r0 : Nat), .int .i64 n0] 24)).alloc (.cells #[.int .u64 (r1 : Nat), .int .i64 n1] 24)).alloc (.cells #[.int .u64 (r2 : Nat), .int .i64 n2] 24)) := ⟨_, rfl⟩
  rw [← hW]
  have HBW : Hid (Below w.heap.size w W) := by rw [hW]; exact (((Below.refl _ _).alloc (Nat.le_refl _) _).alloc (by simp) _).alloc (by simp; omega) _
  have hsz : w.heap.size + 1 + 1 < W.heap.size := by rw [hW]; simp
  have c00 : W.cell? ⟨w.heap.size, 0, none⟩ = some (.int .u64 (r0 : Nat)) := by rw [hW]; go_cell
  have c01 : W.cell? ⟨w.heap.size, 1, none⟩ = some (.int .i64 n0) := by rw [hW]; go_cell
  have c10 : W.cell? ⟨w.heap.size + 1, 0, none⟩ = some (.int .u64 (r1 : Nat)) := by rw [hW]; go_cell
  have c11 : W.cell? ⟨w.heap.size + 1, 1, none⟩ = some (.int .i64 n1) := by rw [hW]; go_cell
  have c20 : W.cell? ⟨w.heap.size + 1 + 1, 0, none⟩ = some (.int .u64 (r2 : Nat)) := by rw [hW]; go_cell
  have c21 : W.cell? ⟨w.heap.size + 1 + 1, 1, none⟩ = some (.int .i64 n2) := by rw [hW]; go_cell
  have HS : Hid (∀ w', Below W.heap.size W w' → Below W.heap.size W w' ∧ w'.cell? ⟨w.heap.size, 0, none⟩ = some (.int .u64 (r0 : Nat)) ∧ w'.cell? ⟨w.heap.size, 1, none⟩ = some (.int .i64 n0) ∧ w'.cell? ⟨w.heap.size + 1, 0, none⟩ = some (.int .u64 (r1 : Nat)) ∧ w'.cell? ⟨w.heap.size + 1, 1, none⟩ = some (.int .i64 n1) ∧ w'.cell? ⟨w.heap.size + 1 + 1, 0, none⟩ = some (.int .u64 (r2 : Nat)) ∧ w'.cell? ⟨w.heap.size + 1 + 1, 1, none⟩ = some (.int .i64 n2)) := fun w' hb => ⟨hb, cell_later hb c00, cell_later hb c01, cell_later hb c10, cell_later hb c11, cell_later hb c20, cell_later hb c21⟩
  clear c00 c01 c10 c11 c20 c21
  clear hW
  have hd0 : Below W.heap.size W W.drew := (Below.refl _ _).drew
  refine wp_region_noPanic ?_
  refine wp_region_held_drew (S := fun w' => Below W.heap.size W w' ∧ w'.cell? ⟨w.heap.size, 0, none⟩ = some (.int .u64 (r0 : Nat)) ∧ w'.cell? ⟨w.heap.size, 1, none⟩ = some (.int .i64 n0) ∧ w'.cell? ⟨w.heap.size + 1, 0, none⟩ = some (.int .u64 (r1 : Nat)) ∧ w'.cell? ⟨w.heap.size + 1, 1, none⟩ = some (.int .i64 n1) ∧ w'.cell? ⟨w.heap.size + 1 + 1, 0, none⟩ = some (.int .u64 (r2 : Nat)) ∧ w'.cell? ⟨w.heap.size + 1 + 1, 1, none⟩ = some (.int .i64 n2)) (by kernel_rfl) ?_ (fun hHeld => ?_)
  · exact HS.out _ hd0
  refine held_take (i := 0) (d := 11) (v := ?_) rfl rfl (by kernel_rfl) (by kernel_rfl) (by kernel_rfl) (fun _ _ _ h => h) (Or.inl ⟨by rfl, ?_⟩) hHeld ?_
  rotate_left
  · (intro w hSw; (try dsimp only at hSw); go_simp; all_goals (with_reducible rfl))
  try simp only [Act.put, List.setIfInBounds_toArray, List.set_cons_zero, List.set_cons_succ]
  refine held_take (i := 2) (d := 13) (v := ?_) rfl rfl (by kernel_rfl) (by kernel_rfl) (by kernel_rfl) (fun _ _ _ h => h) (Or.inl ⟨by rfl, ?_⟩) hHeld ?_
  rotate_left
  · (intro w hSw; (try dsimp only at hSw); go_simp; all_goals (with_reducible rfl))
  try simp only [Act.put, List.setIfInBounds_toArray, List.set_cons_zero, List.set_cons_succ]
  refine held_take (i := 4) (d := 15) (v := ?_) rfl rfl (by kernel_rfl) (by kernel_rfl) (by kernel_rfl) (fun _ _ _ h => h) (Or.inl ⟨by rfl, ?_⟩) hHeld ?_
  rotate_left
  · (intro w hSw; (try dsimp only at hSw); go_simp; all_goals (with_reducible rfl))
  try simp only [Act.put, List.setIfInBounds_toArray, List.set_cons_zero, List.set_cons_succ]
  refine held_inv (fun n l a w' => ∃ (l1 l3 l5 l6 l7 l8 : Bool) (v7 v8 v9 v12 v14 v16 : Value), n + l1.toNat + l3.toNat + l5.toNat + l6.toNat + l7.toNat + l8.toNat = 9 ∧ l = #[true, l1, true, l3, true, l5, l6, l7, l8, false, false, false] ∧ a = { tmps := #[bal r0 n0, bal r1 n1, bal r2 n2, .pointer (some ⟨w.heap.size, 0, none⟩), .pointer (some ⟨w.heap.size + 1, 0, none⟩), .pointer (some ⟨w.heap.size + 1 + 1, 0, none⟩), .bool false, v7, v8, v9, undef, .agg #[.int .u64 (r0 : Nat), .int .i64 n0], v12, .agg #[.int .u64 (r1 : Nat), .int .i64 n1], v14, .agg #[.int .u64 (r2 : Nat), .int .i64 n2], v16, undef, undef, undef, undef, undef, undef, undef, undef, undef, undef, undef, undef, undef, undef, undef, undef, undef, undef, undef, undef, undef, undef, undef, undef, undef, undef, undef, undef, undef, undef, undef, undef, undef, undef, undef, undef, undef, undef, undef, undef, undef, undef, undef, undef, undef, undef, undef, undef, undef, undef, undef], defers := [] } ∧ (l3 = true → l1 = true) ∧ (l5 = true → l3 = true) ∧ (l1 = true → v12 = bal r0 n0) ∧ (l3 = true → v14 = bal r1 n1) ∧ (l5 = true → v16 = bal r2 n2) ∧ Blk w' W.heap.size (.cells #[.int .u64 0, .int .i64 0] 25 (0, 0)) l6 v7 ∧ Blk w' W.heap.size (.cells #[.int .u64 0, .int .i64 0] 25 (0, 0)) l7 v8 ∧ Blk w' W.heap.size (.cells #[.int .u64 0, .int .i64 0] 25 (0, 0)) l8 v9 ∧ (l6 = true → l7 = true → v7 ≠ v8) ∧ (l6 = true → l8 = true → v7 ≠ v9) ∧ (l7 = true → l8 = true → v8 ≠ v9) ∧ Below W.heap.size W w') ?_ _ _ _ _ ⟨false, false, false, false, false, false, undef, undef, undef, undef, undef, undef, rfl, by kernel_rfl, rfl, by simp, by simp, by simp, by simp, by simp, Blk.no _ _ _ _, Blk.no _ _ _ _, Blk.no _ _ _ _, by simp, by simp, by simp, hd0⟩
  rintro n l a w' ⟨l1, l3, l5, l6, l7, l8, v7, v8, v9, v12, v14, v16, hn, rfl, rfl, o31, o53, f1, f3, f5, f6, f7, f8, d67, d68, d78, hbw⟩
  by_cases hall : l1 = true ∧ l3 = true ∧ l5 = true ∧ l6 = true ∧ l7 = true ∧ l8 = true
  · left
    obtain ⟨rfl, rfl, rfl, rfl, rfl, rfl⟩ := hall
    obtain rfl : n = 3 := by simpa using hn
    obtain rfl := f1 rfl
    obtain rfl := f3 rfl
    obtain rfl := f5 rfl
    obtain ⟨p7, rfl, b7, s7⟩ := f6 rfl
    obtain ⟨p8, rfl, b8, s8⟩ := f7 rfl
    obtain ⟨p9, rfl, b9, s9⟩ := f8 rfl
    have e78 : p7 ≠ p8 := fun e => d67 rfl rfl (by rw [e])
    have e79 : p7 ≠ p9 := fun e => d68 rfl rfl (by rw [e])
    have e89 : p8 ≠ p9 := fun e => d78 rfl rfl (by rw [e])
    clear o31 o53 f1 f3 f5 f6 f7 f8 d67 d68 d78 hn
    have x0 : w'.cell? ⟨p7, 0, none⟩ = some (.int .u64 0) := cell_of_heap b7 rfl
    have x1 : w'.cell? ⟨p7, 1, none⟩ = some (.int .i64 0) := cell_of_heap b7 rfl
    have y0 : w'.frozen? ⟨p7, 0, none⟩ = false := frozen_of_row w' _ _ _ _ b7
    have y1 : w'.frozen? ⟨p7, 1, none⟩ = false := frozen_of_row w' _ _ _ _ b7
    refine wpAnyH_ready (rs := [9]) (by kernel_rfl) (by simp) ?_
    refine AllReadyH.cons rfl (fun K hK => ?_) AllReadyH.nil
    go_simp
    obtain ⟨w7, hw7⟩ : ∃ w7, w7 = (w'.setCell ⟨p7, 0, none⟩ (.int .u64 (r0 : Nat))).setCell ⟨p7, 1, none⟩ (.int .i64 n0) := ⟨_, rfl⟩
    rw [← hw7]
    replace b7 : w7.heap[p7]? = some (.cells #[.int .u64 (r0 : Nat), .int .i64 n0] 25 (0, 0)) := by rw [hw7]; exact two_same b7
    replace b8 := two_else (u := .int .u64 (r0 : Nat)) (v := .int .i64 n0) b8 (e78)
    rw [← hw7] at b8
    replace b9 := two_else (u := .int .u64 (r0 : Nat)) (v := .int .i64 n0) b9 (e79)
    rw [← hw7] at b9
    replace hbw : Below W.heap.size W w7 := by rw [hw7]; exact (hbw.setCell s7 _).setCell s7 _
    clear x0 x1 y0 y1 hw7
    refine hK.out _ _ (HS.out _ hbw) (fun hHeld => ?_)
    clear hK K
    have x0 : w7.cell? ⟨p8, 0, none⟩ = some (.int .u64 0) := cell_of_heap b8 rfl
    have x1 : w7.cell? ⟨p8, 1, none⟩ = some (.int .i64 0) := cell_of_heap b8 rfl
    have y0 : w7.frozen? ⟨p8, 0, none⟩ = false := frozen_of_row w7 _ _ _ _ b8
    have y1 : w7.frozen? ⟨p8, 1, none⟩ = false := frozen_of_row w7 _ _ _ _ b8
    refine wpAnyH_ready (rs := [10]) (by kernel_rfl) (by simp) ?_
    refine AllReadyH.cons rfl (fun K hK => ?_) AllReadyH.nil
    go_simp
    obtain ⟨w8, hw8⟩ : ∃ w8, w8 = (w7.setCell ⟨p8, 0, none⟩ (.int .u64 (r1 : Nat))).setCell ⟨p8, 1, none⟩ (.int .i64 n1) := ⟨_, rfl⟩
    rw [← hw8]
    replace b8 : w8.heap[p8]? = some (.cells #[.int .u64 (r1 : Nat), .int .i64 n1] 25 (0, 0)) := by rw [hw8]; exact two_same b8
    replace b7 := two_else (u := .int .u64 (r1 : Nat)) (v := .int .i64 n1) b7 (e78.symm)
    rw [← hw8] at b7
    replace b9 := two_else (u := .int .u64 (r1 : Nat)) (v := .int .i64 n1) b9 (e89)
    rw [← hw8] at b9
    replace hbw : Below W.heap.size W w8 := by rw [hw8]; exact (hbw.setCell s8 _).setCell s8 _
    clear x0 x1 y0 y1 hw8
    refine hK.out _ _ (HS.out _ hbw) (fun hHeld => ?_)
    clear hK K
    have x0 : w8.cell? ⟨p9, 0, none⟩ = some (.int .u64 0) := cell_of_heap b9 rfl
    have x1 : w8.cell? ⟨p9, 1, none⟩ = some (.int .i64 0) := cell_of_heap b9 rfl
    have y0 : w8.frozen? ⟨p9, 0, none⟩ = false := frozen_of_row w8 _ _ _ _ b9
    have y1 : w8.frozen? ⟨p9, 1, none⟩ = false := frozen_of_row w8 _ _ _ _ b9
    refine wpAnyH_ready (rs := [11]) (by kernel_rfl) (by simp) ?_
    refine AllReadyH.cons rfl (fun K hK => ?_) AllReadyH.nil
    go_simp
    obtain ⟨w9, hw9⟩ : ∃ w9, w9 = (w8.setCell ⟨p9, 0, none⟩ (.int .u64 (r2 : Nat))).setCell ⟨p9, 1, none⟩ (.int .i64 n2) := ⟨_, rfl⟩
    rw [← hw9]
    replace b9 : w9.heap[p9]? = some (.cells #[.int .u64 (r2 : Nat), .int .i64 n2] 25 (0, 0)) := by rw [hw9]; exact two_same b9
    replace b7 := two_else (u := .int .u64 (r2 : Nat)) (v := .int .i64 n2) b7 (e79.symm)
    rw [← hw9] at b7
    replace b8 := two_else (u := .int .u64 (r2 : Nat)) (v := .int .i64 n2) b8 (e89.symm)
    rw [← hw9] at b8
    replace hbw : Below W.heap.size W w9 := by rw [hw9]; exact (hbw.setCell s9 _).setCell s9 _
    clear x0 x1 y0 y1 hw9
    refine hK.out _ _ (HS.out _ hbw) (fun hHeld => ?_)
    clear hK K
    refine wpAnyH_done (by kernel_rfl) ?_ _
    refine NoPanic.normal ?_
    have HB9 : Hid (Below w.heap.size w w9) := HBW.out.trans (hbw.mono HBW.out.size)
    obtain ⟨-, q00, q01, q10, q11, -, -⟩ := hHeld
    have x70 : w9.cell? ⟨p7, 0, none⟩ = some (.int .u64 (r0 : Nat)) := cell_of_heap b7 rfl
    have x71 : w9.cell? ⟨p7, 1, none⟩ = some (.int .i64 n0) := cell_of_heap b7 rfl
    have x80 : w9.cell? ⟨p8, 0, none⟩ = some (.int .u64 (r1 : Nat)) := cell_of_heap b8 rfl
    have x81 : w9.cell? ⟨p8, 1, none⟩ = some (.int .i64 n1) := cell_of_heap b8 rfl
    have x90 : w9.cell? ⟨p9, 0, none⟩ = some (.int .u64 (r2 : Nat)) := cell_of_heap b9 rfl
    have x91 : w9.cell? ⟨p9, 1, none⟩ = some (.int .i64 n2) := cell_of_heap b9 rfl
    have HT : Hid (∀ w', Below w9.heap.size w9 w' → Below w9.heap.size w9 w' ∧ w'.cell? ⟨w.heap.size, 0, none⟩ = some (.int .u64 (r0 : Nat)) ∧ w'.cell? ⟨w.heap.size, 1, none⟩ = some (.int .i64 n0) ∧ w'.cell? ⟨w.heap.size + 1, 0, none⟩ = some (.int .u64 (r1 : Nat)) ∧ w'.cell? ⟨w.heap.size + 1, 1, none⟩ = some (.int .i64 n1) ∧ w'.cell? ⟨p7, 0, none⟩ = some (.int .u64 (r0 : Nat)) ∧ w'.cell? ⟨p7, 1, none⟩ = some (.int .i64 n0) ∧ w'.cell? ⟨p8, 0, none⟩ = some (.int .u64 (r1 : Nat)) ∧ w'.cell? ⟨p8, 1, none⟩ = some (.int .i64 n1) ∧ w'.cell? ⟨p9, 0, none⟩ = some (.int .u64 (r2 : Nat)) ∧ w'.cell? ⟨p9, 1, none⟩ = some (.int .i64 n2)) := fun w' hb => ⟨hb, cell_later hb q00, cell_later hb q01, cell_later hb q10, cell_later hb q11, cell_later hb x70, cell_later hb x71, cell_later hb x80, cell_later hb x81, cell_later hb x90, cell_later hb x91⟩
    clear q00 q01 q10 q11 x70 x71 x80 x81 x90 x91 b7 b8 b9 hd0 hbw HS HBW s7 s8 s9 e78 e79 e89 hsz
    have hd9 : Below w9.heap.size w9 w9.drew := (Below.refl _ _).drew
    go_wp2_with fail
    by_cases heq : r0 = r1 ∧ n0 = n1
    · have h12 : lss r0 n0 r1 n1 = false := by obtain ⟨rfl, rfl⟩ := heq; exact lss_self _ _
      have h21 : lss r1 n1 r0 n0 = false := by obtain ⟨rfl, rfl⟩ := heq; exact lss_self _ _
      have HNE : Hid (∀ w, (binOp .neq 24 (bal r0 n0) (bal r1 n1)).run Try.prog w = .ok (.bool false) w) := fun w => by obtain ⟨rfl, rfl⟩ := heq; exact neq_same _ _ w
      have HMX : Hid (∀ w, Calls Try.prog 15 #[bal r0 n0, bal r1 n1] w fun e w' => e = .returned (bal r0 n0) ∧ Below w.heap.size w w') := fun w => max_more _ _ _ _ w h12
      clear heq
      have hne := HNE.out
      refine wp_region_noPanic ?_
      refine wp_region_held_drew (S := (fun w' => Below w9.heap.size w9 w' ∧ w'.cell? ⟨w.heap.size, 0, none⟩ = some (.int .u64 (r0 : Nat)) ∧ w'.cell? ⟨w.heap.size, 1, none⟩ = some (.int .i64 n0) ∧ w'.cell? ⟨w.heap.size + 1, 0, none⟩ = some (.int .u64 (r1 : Nat)) ∧ w'.cell? ⟨w.heap.size + 1, 1, none⟩ = some (.int .i64 n1) ∧ w'.cell? ⟨p7, 0, none⟩ = some (.int .u64 (r0 : Nat)) ∧ w'.cell? ⟨p7, 1, none⟩ = some (.int .i64 n0) ∧ w'.cell? ⟨p8, 0, none⟩ = some (.int .u64 (r1 : Nat)) ∧ w'.cell? ⟨p8, 1, none⟩ = some (.int .i64 n1) ∧ w'.cell? ⟨p9, 0, none⟩ = some (.int .u64 (r2 : Nat)) ∧ w'.cell? ⟨p9, 1, none⟩ = some (.int .i64 n2))) (by kernel_rfl) ?_ (fun hHeld => ?_)
      · exact HT.out _ hd9
      refine held_take (i := 0) (d := 17) (v := ?_) rfl rfl (by kernel_rfl) (by kernel_rfl) (by kernel_rfl) (fun _ _ _ h => h) (Or.inl ⟨by rfl, ?_⟩) hHeld ?_
      rotate_left
      · (intro w hSw; (try dsimp only at hSw); go_simp; all_goals (with_reducible rfl))
      try simp only [Act.put, List.setIfInBounds_toArray, List.set_cons_zero, List.set_cons_succ]
      refine held_take (i := 1) (d := 18) (v := ?_) rfl rfl (by kernel_rfl) (by kernel_rfl) (by kernel_rfl) (fun _ _ _ h => h) (Or.inl ⟨by rfl, ?_⟩) hHeld ?_
      rotate_left
      · (intro w hSw; (try dsimp only at hSw); go_simp; all_goals (with_reducible rfl))
      try simp only [Act.put, List.setIfInBounds_toArray, List.set_cons_zero, List.set_cons_succ]
      refine held_take (i := 3) (d := 20) (v := ?_) rfl rfl (by kernel_rfl) (by kernel_rfl) (by kernel_rfl) (fun _ _ _ h => h) (Or.inl ⟨by rfl, ?_⟩) hHeld ?_
      rotate_left
      · (intro w hSw; (try dsimp only at hSw); go_simp; all_goals (with_reducible rfl))
      try simp only [Act.put, List.setIfInBounds_toArray, List.set_cons_zero, List.set_cons_succ]
      refine held_take (i := 4) (d := 21) (v := ?_) rfl rfl (by kernel_rfl) (by kernel_rfl) (by kernel_rfl) (fun _ _ _ h => h) (Or.inl ⟨by rfl, ?_⟩) hHeld ?_
      rotate_left
      · (intro w hSw; (try dsimp only at hSw); go_simp; all_goals (with_reducible rfl))
      try simp only [Act.put, List.setIfInBounds_toArray, List.set_cons_zero, List.set_cons_succ]
      refine wpAnyH_ready (rs := [2]) (by kernel_rfl) (by simp) ?_
      refine AllReadyH.cons rfl (fun K hK => ?_) AllReadyH.nil
      go_simp
      refine (less_any r0 r1 n0 n1 _).mono ?_
      rintro e u1 ⟨rfl, hu1⟩
      replace hu1 : Below w9.heap.size w9 u1 := hd9.trans (hu1.mono hd9.size)
      rw [h12]
      go_wp2_with fail
      refine hK.out _ _ ?_ (fun hHeld => ?_)
      · exact HT.out _ hu1
      clear hK K
      try simp only [Act.put, List.setIfInBounds_toArray, List.set_cons_zero, List.set_cons_succ]
      refine wpAnyH_ready (rs := [5]) (by kernel_rfl) (by simp) ?_
      refine AllReadyH.cons rfl (fun K hK => ?_) AllReadyH.nil
      go_simp
      refine (ref_less_any r0 r1 n0 n1 _).mono ?_
      rintro e u2 ⟨rfl, hu2⟩
      replace hu2 : Below w9.heap.size w9 u2 := hu1.trans (hu2.mono hu1.size)
      rw [h12]
      go_wp2_with fail
      refine hK.out _ _ ?_ (fun hHeld => ?_)
      · exact HT.out _ hu2
      clear hK K
      try simp only [Act.put, List.setIfInBounds_toArray, List.set_cons_zero, List.set_cons_succ]
      refine held_take (i := 6) (d := 23) (v := ?_) rfl rfl (by kernel_rfl) (by kernel_rfl) (by kernel_rfl) (fun _ _ _ h => h) (Or.inl ⟨by rfl, ?_⟩) hHeld ?_
      rotate_left
      · (intro w hSw; (try dsimp only at hSw); go_simp; all_goals (with_reducible rfl))
      try simp only [Act.put, List.setIfInBounds_toArray, List.set_cons_zero, List.set_cons_succ]
      refine held_take (i := 7) (d := 24) (v := ?_) rfl rfl (by kernel_rfl) (by kernel_rfl) (by kernel_rfl) (fun _ _ _ h => h) (Or.inl ⟨by rfl, ?_⟩) hHeld ?_
      rotate_left
      · (intro w hSw; (try dsimp only at hSw); go_simp; all_goals (with_reducible rfl))
      try simp only [Act.put, List.setIfInBounds_toArray, List.set_cons_zero, List.set_cons_succ]
      refine held_take (i := 8) (d := 25) (v := ?_) rfl rfl (by kernel_rfl) (by kernel_rfl) (by kernel_rfl) (fun _ _ _ h => h) (Or.inl ⟨by rfl, ?_⟩) hHeld ?_
      rotate_left
      · (intro w hSw; (try dsimp only at hSw); go_simp; all_goals (with_reducible rfl))
      try simp only [Act.put, List.setIfInBounds_toArray, List.set_cons_zero, List.set_cons_succ]
      refine held_take (i := 9) (d := 26) (v := ?_) rfl rfl (by kernel_rfl) (by kernel_rfl) (by kernel_rfl) (fun _ _ _ h => h) (Or.inl ⟨by rfl, ?_⟩) hHeld ?_
      rotate_left
      · (intro w hSw; (try dsimp only at hSw); go_simp; all_goals (with_reducible rfl))
      try simp only [Act.put, List.setIfInBounds_toArray, List.set_cons_zero, List.set_cons_succ]
      refine held_take (i := 16) (d := 33) (v := ?_) rfl rfl (by kernel_rfl) (by kernel_rfl) (by kernel_rfl) (fun _ _ _ h => h) (Or.inl ⟨by rfl, ?_⟩) hHeld ?_
      rotate_left
      · (intro w hSw; (try dsimp only at hSw); go_simp; all_goals (with_reducible rfl))
      try simp only [Act.put, List.setIfInBounds_toArray, List.set_cons_zero, List.set_cons_succ]
      refine held_take (i := 17) (d := 34) (v := ?_) rfl rfl (by kernel_rfl) (by kernel_rfl) (by kernel_rfl) (fun _ _ _ h => h) (Or.inl ⟨by rfl, ?_⟩) hHeld ?_
      rotate_left
      · (intro w hSw; (try dsimp only at hSw); go_simp; all_goals (with_reducible rfl))
      try simp only [Act.put, List.setIfInBounds_toArray, List.set_cons_zero, List.set_cons_succ]
      refine held_take (i := 18) (d := 35) (v := ?_) rfl rfl (by kernel_rfl) (by kernel_rfl) (by kernel_rfl) (fun _ _ _ h => h) (Or.inl ⟨by rfl, ?_⟩) hHeld ?_
      rotate_left
      · (intro w hSw; (try dsimp only at hSw); go_simp; all_goals (with_reducible rfl))
      try simp only [Act.put, List.setIfInBounds_toArray, List.set_cons_zero, List.set_cons_succ]
      refine wpAnyH_ready (rs := [10]) (by kernel_rfl) (by simp) ?_
      refine AllReadyH.cons rfl (fun K hK => ?_) AllReadyH.nil
      go_simp
      refine (less_any r0 r1 n0 n1 _).mono ?_
      rintro e u3 ⟨rfl, hu3⟩
      replace hu3 : Below w9.heap.size w9 u3 := hu2.trans (hu3.mono hu2.size)
      rw [h12]
      go_wp2_with fail
      refine hK.out _ _ ?_ (fun hHeld => ?_)
      · exact HT.out _ hu3
      clear hK K
      try simp only [Act.put, List.setIfInBounds_toArray, List.set_cons_zero, List.set_cons_succ]
      refine held_take (i := 11) (d := 28) (v := ?_) rfl rfl (by kernel_rfl) (by kernel_rfl) (by kernel_rfl) (fun _ _ _ h => h) (Or.inl ⟨by rfl, ?_⟩) hHeld ?_
      rotate_left
      · (intro w hSw; (try dsimp only at hSw); go_simp; all_goals (with_reducible rfl))
      try simp only [Act.put, List.setIfInBounds_toArray, List.set_cons_zero, List.set_cons_succ]
      refine held_take (i := 12) (d := 29) (v := ?_) rfl rfl (by kernel_rfl) (by kernel_rfl) (by kernel_rfl) (fun _ _ _ h => h) (Or.inl ⟨by rfl, ?_⟩) hHeld ?_
      rotate_left
      · (intro w hSw; (try dsimp only at hSw); go_simp; all_goals (with_reducible rfl))
      try simp only [Act.put, List.setIfInBounds_toArray, List.set_cons_zero, List.set_cons_succ]
      refine held_take (i := 13) (d := 30) (v := ?_) rfl rfl (by kernel_rfl) (by kernel_rfl) (by kernel_rfl) (fun _ _ _ h => h) (Or.inl ⟨by rfl, ?_⟩) hHeld ?_
      rotate_left
      · (intro w hSw; (try dsimp only at hSw); go_simp; all_goals (with_reducible rfl))
      try simp only [Act.put, List.setIfInBounds_toArray, List.set_cons_zero, List.set_cons_succ]
      refine wpAnyH_ready (rs := [14]) (by kernel_rfl) (by simp) ?_
      refine AllReadyH.cons rfl (fun K hK => ?_) AllReadyH.nil
      go_simp
      refine (less_any r1 r0 n1 n0 _).mono ?_
      rintro e u4 ⟨rfl, hu4⟩
      replace hu4 : Below w9.heap.size w9 u4 := hu3.trans (hu4.mono hu3.size)
      rw [h21]
      go_wp2_with fail
      refine hK.out _ _ ?_ (fun hHeld => ?_)
      · exact HT.out _ hu4
      clear hK K
      try simp only [Act.put, List.setIfInBounds_toArray, List.set_cons_zero, List.set_cons_succ]
      refine held_take (i := 15) (d := 32) (v := ?_) rfl rfl (by kernel_rfl) (by kernel_rfl) (by kernel_rfl) (fun _ _ _ h => h) (Or.inl ⟨by rfl, ?_⟩) hHeld ?_
      rotate_left
      · (intro w hSw; (try dsimp only at hSw); go_simp; all_goals (with_reducible rfl))
      try simp only [Act.put, List.setIfInBounds_toArray, List.set_cons_zero, List.set_cons_succ]
      refine held_take (i := 19) (d := 36) (v := ?_) rfl rfl (by kernel_rfl) (by kernel_rfl) (by kernel_rfl) (fun _ _ _ h => h) (Or.inl ⟨by rfl, ?_⟩) hHeld ?_
      rotate_left
      · (intro w hSw; (try dsimp only at hSw); go_simp; all_goals (with_reducible rfl))
      try simp only [Act.put, List.setIfInBounds_toArray, List.set_cons_zero, List.set_cons_succ]
      refine held_take (i := 20) (d := 37) (v := ?_) rfl rfl (by kernel_rfl) (by kernel_rfl) (by kernel_rfl) (fun _ _ _ h => h) (Or.inl ⟨by rfl, ?_⟩) hHeld ?_
      rotate_left
      · (intro w hSw; (try dsimp only at hSw); go_simp; all_goals (with_reducible rfl))
      try simp only [Act.put, List.setIfInBounds_toArray, List.set_cons_zero, List.set_cons_succ]
      refine held_take (i := 21) (d := 38) (v := ?_) rfl rfl (by kernel_rfl) (by kernel_rfl) (by kernel_rfl) (fun _ _ _ h => h) (Or.inl ⟨by rfl, ?_⟩) hHeld ?_
      rotate_left
      · (intro w hSw; (try dsimp only at hSw); go_simp; all_goals (with_reducible rfl))
      try simp only [Act.put, List.setIfInBounds_toArray, List.set_cons_zero, List.set_cons_succ]
      refine held_take (i := 22) (d := 39) (v := ?_) rfl rfl (by kernel_rfl) (by kernel_rfl) (by kernel_rfl) (fun _ _ _ h => h) (Or.inl ⟨by rfl, ?_⟩) hHeld ?_
      rotate_left
      · (intro w hSw; (try dsimp only at hSw); go_simp; all_goals (with_reducible rfl))
      try simp only [Act.put, List.setIfInBounds_toArray, List.set_cons_zero, List.set_cons_succ]
      refine held_take (i := 23) (d := 40) (v := ?_) rfl rfl (by kernel_rfl) (by kernel_rfl) (by kernel_rfl) (fun _ _ _ h => h) (Or.inl ⟨by rfl, ?_⟩) hHeld ?_
      rotate_left
      · (intro w hSw; (try dsimp only at hSw); go_simp; all_goals (with_reducible rfl))
      try simp only [Act.put, List.setIfInBounds_toArray, List.set_cons_zero, List.set_cons_succ]
      refine wpAnyH_ready (rs := [24]) (by kernel_rfl) (by simp) ?_
      refine AllReadyH.cons rfl (fun K hK => ?_) AllReadyH.nil
      go_simp
      refine (less_any r0 r1 n0 n1 _).mono ?_
      rintro e u5 ⟨rfl, hu5⟩
      replace hu5 : Below w9.heap.size w9 u5 := hu4.trans (hu5.mono hu4.size)
      rw [h12]
      go_wp2_with fail
      refine hK.out _ _ ?_ (fun hHeld => ?_)
      · exact HT.out _ hu5
      clear hK K
      try simp only [Act.put, List.setIfInBounds_toArray, List.set_cons_zero, List.set_cons_succ]
      refine held_take (i := 25) (d := 42) (v := ?_) rfl rfl (by kernel_rfl) (by kernel_rfl) (by kernel_rfl) (fun _ _ _ h => h) (Or.inl ⟨by rfl, ?_⟩) hHeld ?_
      rotate_left
      · (intro w hSw; (try dsimp only at hSw); go_simp; all_goals (with_reducible rfl))
      try simp only [Act.put, List.setIfInBounds_toArray, List.set_cons_zero, List.set_cons_succ]
      refine held_take (i := 26) (d := 43) (v := undef) rfl rfl (by kernel_rfl) (by kernel_rfl) (by kernel_rfl) (fun _ _ _ h => h) (Or.inr ⟨by rfl, rfl⟩) hHeld ?_
      try simp only [Act.put, List.setIfInBounds_toArray, List.set_cons_zero, List.set_cons_succ]
      refine held_take (i := 27) (d := 44) (v := undef) rfl rfl (by kernel_rfl) (by kernel_rfl) (by kernel_rfl) (fun _ _ _ h => h) (Or.inr ⟨by rfl, rfl⟩) hHeld ?_
      try simp only [Act.put, List.setIfInBounds_toArray, List.set_cons_zero, List.set_cons_succ]
      refine held_take (i := 28) (d := 45) (v := undef) rfl rfl (by kernel_rfl) (by kernel_rfl) (by kernel_rfl) (fun _ _ _ h => h) (Or.inr ⟨by rfl, rfl⟩) hHeld ?_
      try simp only [Act.put, List.setIfInBounds_toArray, List.set_cons_zero, List.set_cons_succ]
      refine held_take (i := 29) (d := 46) (v := ?_) rfl rfl (by kernel_rfl) (by kernel_rfl) (by kernel_rfl) (fun _ _ _ h => h) (Or.inl ⟨by rfl, ?_⟩) hHeld ?_
      rotate_left
      · (intro w hSw; (try dsimp only at hSw); go_simp; all_goals (with_reducible rfl))
      try simp only [Act.put, List.setIfInBounds_toArray, List.set_cons_zero, List.set_cons_succ]
      refine held_take (i := 30) (d := 47) (v := ?_) rfl rfl (by kernel_rfl) (by kernel_rfl) (by kernel_rfl) (fun _ _ _ h => h) (Or.inl ⟨by rfl, ?_⟩) hHeld ?_
      rotate_left
      · (intro w hSw; (try dsimp only at hSw); go_simp; all_goals (with_reducible rfl))
      try simp only [Act.put, List.setIfInBounds_toArray, List.set_cons_zero, List.set_cons_succ]
      refine held_take (i := 31) (d := 48) (v := undef) rfl rfl (by kernel_rfl) (by kernel_rfl) (by kernel_rfl) (fun _ _ _ h => h) (Or.inr ⟨by rfl, rfl⟩) hHeld ?_
      try simp only [Act.put, List.setIfInBounds_toArray, List.set_cons_zero, List.set_cons_succ]
      refine held_take (i := 32) (d := 49) (v := undef) rfl rfl (by kernel_rfl) (by kernel_rfl) (by kernel_rfl) (fun _ _ _ h => h) (Or.inr ⟨by rfl, rfl⟩) hHeld ?_
      try simp only [Act.put, List.setIfInBounds_toArray, List.set_cons_zero, List.set_cons_succ]
      refine held_take (i := 33) (d := 50) (v := undef) rfl rfl (by kernel_rfl) (by kernel_rfl) (by kernel_rfl) (fun _ _ _ h => h) (Or.inr ⟨by rfl, rfl⟩) hHeld ?_
      try simp only [Act.put, List.setIfInBounds_toArray, List.set_cons_zero, List.set_cons_succ]
      refine held_take (i := 34) (d := 51) (v := undef) rfl rfl (by kernel_rfl) (by kernel_rfl) (by kernel_rfl) (fun _ _ _ h => h) (Or.inr ⟨by rfl, rfl⟩) hHeld ?_
      try simp only [Act.put, List.setIfInBounds_toArray, List.set_cons_zero, List.set_cons_succ]
      refine held_take (i := 35) (d := 52) (v := ?_) rfl rfl (by kernel_rfl) (by kernel_rfl) (by kernel_rfl) (fun _ _ _ h => h) (Or.inl ⟨by rfl, ?_⟩) hHeld ?_
      rotate_left
      · (intro w hSw; (try dsimp only at hSw); go_simp; all_goals (with_reducible rfl))
      try simp only [Act.put, List.setIfInBounds_toArray, List.set_cons_zero, List.set_cons_succ]
      refine held_take (i := 36) (d := 53) (v := ?_) rfl rfl (by kernel_rfl) (by kernel_rfl) (by kernel_rfl) (fun _ _ _ h => h) (Or.inl ⟨by rfl, ?_⟩) hHeld ?_
      rotate_left
      · (intro w hSw; (try dsimp only at hSw); go_simp; all_goals (with_reducible rfl))
      try simp only [Act.put, List.setIfInBounds_toArray, List.set_cons_zero, List.set_cons_succ]
      refine wpAnyH_done (by kernel_rfl) ?_ _
      refine NoPanic.normal ?_
      have HBu : Hid (Below w.heap.size w u5) := HB9.out.trans (hu5.mono HB9.out.size)
      obtain ⟨-, q00, q01, q10, q11, x70, x71, x80, x81, -, -⟩ := hHeld
      clear hne HNE
      have z0 : w.heap.size < u5.heap.size := World.block_lt_of_cell? _ _ q00
      have z1 : w.heap.size + 1 < u5.heap.size := World.block_lt_of_cell? _ _ q10
      have z7 : p7 < u5.heap.size := World.block_lt_of_cell? _ _ x70
      have z8 : p8 < u5.heap.size := World.block_lt_of_cell? _ _ x80
      go_wp2_with fail
      refine (ref_less_any r0 r1 n0 n1 _).mono ?_
      rintro e y1 ⟨rfl, hy1⟩
      rw [h12]
      obtain ⟨Y, hY⟩ : ∃ Y, Y = u5.alloc (.cells #[.int .u64 (r0 : Nat), .int .i64 n0] 24) := ⟨_, rfl⟩
      rw [← hY] at hy1
      have HBY : Hid (Below w.heap.size w y1) := by
        have h1 : Below w.heap.size w Y := by rw [hY]; exact HBu.out.alloc HBu.out.size _
        exact h1.trans (hy1.mono h1.size)
      have hYs : Y.heap.size = u5.heap.size + 1 := by rw [hY]; simp
      have hYb : Below u5.heap.size u5 Y := by rw [hY]; exact (Below.refl _ _).alloc (Nat.le_refl _) _
      have hm : y1.heap[u5.heap.size]? = some (.cells #[.int .u64 (r0 : Nat), .int .i64 n0] 24 (0, 0)) := by
        rw [hy1.block _ (by omega), hY]
        show (u5.heap.push _)[u5.heap.size]? = _
        simp
      have w10 := cell_later hy1 (cell_later hYb q10)
      have w11 := cell_later hy1 (cell_later hYb q11)
      have w70 := cell_later hy1 (cell_later hYb x70)
      have w71 := cell_later hy1 (cell_later hYb x71)
      have w80 := cell_later hy1 (cell_later hYb x80)
      have w81 := cell_later hy1 (cell_later hYb x81)
      clear hy1 hYb hYs hY q00 q01 q10 q11 x70 x71 x80 x81 Y HBu
      generalize u5.heap.size = pm at *
      have m0 : y1.cell? ⟨pm, 0, none⟩ = some (.int .u64 (r0 : Nat)) := cell_of_heap hm rfl
      have m1 : y1.cell? ⟨pm, 1, none⟩ = some (.int .i64 n0) := cell_of_heap hm rfl
      have k0 : y1.frozen? ⟨pm, 0, none⟩ = false := frozen_of_row y1 _ _ _ _ hm
      have k1 : y1.frozen? ⟨pm, 1, none⟩ = false := frozen_of_row y1 _ _ _ _ hm
      have HM : Hid (y1.heap[pm]? = some (.cells #[.int .u64 (r0 : Nat), .int .i64 n0] 24 (0, 0))) := hm
      clear hm
      go_wp2_with fail
      obtain ⟨y2, hy2⟩ : ∃ y2, y2 = y1 := ⟨_, rfl⟩
      rw [← hy2] at HBY w70 w71 w80 w81 m0 m1 ⊢
      clear hy2
      have HU : Hid (∀ w', Below y2.heap.size y2 w' → Below y2.heap.size y2 w' ∧ w'.cell? ⟨p7, 0, none⟩ = some (.int .u64 (r0 : Nat)) ∧ w'.cell? ⟨p7, 1, none⟩ = some (.int .i64 n0) ∧ w'.cell? ⟨p8, 0, none⟩ = some (.int .u64 (r1 : Nat)) ∧ w'.cell? ⟨p8, 1, none⟩ = some (.int .i64 n1) ∧ w'.cell? ⟨pm, 0, none⟩ = some (.int .u64 (r0 : Nat)) ∧ w'.cell? ⟨pm, 1, none⟩ = some (.int .i64 n0)) := fun w' hb => ⟨hb, cell_later hb w70, cell_later hb w71, cell_later hb w80, cell_later hb w81, cell_later hb m0, cell_later hb m1⟩
      clear w10 w11 w70 w71 w80 w81 m0 m1 k0 k1 HM z0 z1 z7 z8 HT HB9 hd9
      have heqs : ∀ w, (binOp .eql 24 (bal r0 n0) (bal r0 n0)).run Try.prog w = .ok (.bool true) w := eql_same r0 n0
      have hd2 : Below y2.heap.size y2 y2.drew := (Below.refl _ _).drew
      refine wp_region_noPanic ?_
      refine wp_region_held_drew (S := (fun w' => Below y2.heap.size y2 w' ∧ w'.cell? ⟨p7, 0, none⟩ = some (.int .u64 (r0 : Nat)) ∧ w'.cell? ⟨p7, 1, none⟩ = some (.int .i64 n0) ∧ w'.cell? ⟨p8, 0, none⟩ = some (.int .u64 (r1 : Nat)) ∧ w'.cell? ⟨p8, 1, none⟩ = some (.int .i64 n1) ∧ w'.cell? ⟨pm, 0, none⟩ = some (.int .u64 (r0 : Nat)) ∧ w'.cell? ⟨pm, 1, none⟩ = some (.int .i64 n0))) (by kernel_rfl) ?_ (fun hHeld => ?_)
      · exact HU.out _ hd2
      refine held_take (i := 0) (d := 59) (v := ?_) rfl rfl (by kernel_rfl) (by kernel_rfl) (by kernel_rfl) (fun _ _ _ h => h) (Or.inl ⟨by rfl, ?_⟩) hHeld ?_
      rotate_left
      · (intro w hSw; (try dsimp only at hSw); go_simp; all_goals (with_reducible rfl))
      try simp only [Act.put, List.setIfInBounds_toArray, List.set_cons_zero, List.set_cons_succ]
      refine held_take (i := 1) (d := 60) (v := ?_) rfl rfl (by kernel_rfl) (by kernel_rfl) (by kernel_rfl) (fun _ _ _ h => h) (Or.inl ⟨by rfl, ?_⟩) hHeld ?_
      rotate_left
      · (intro w hSw; (try dsimp only at hSw); go_simp; all_goals (with_reducible rfl))
      try simp only [Act.put, List.setIfInBounds_toArray, List.set_cons_zero, List.set_cons_succ]
      refine held_take (i := 4) (d := 63) (v := ?_) rfl rfl (by kernel_rfl) (by kernel_rfl) (by kernel_rfl) (fun _ _ _ h => h) (Or.inl ⟨by rfl, ?_⟩) hHeld ?_
      rotate_left
      · (intro w hSw; (try dsimp only at hSw); go_simp; all_goals (with_reducible rfl))
      try simp only [Act.put, List.setIfInBounds_toArray, List.set_cons_zero, List.set_cons_succ]
      refine wpAnyH_ready (rs := [2]) (by kernel_rfl) (by simp) ?_
      refine AllReadyH.cons rfl (fun K hK => ?_) AllReadyH.nil
      go_simp
      refine (HMX.out _).mono ?_
      rintro e t1 ⟨rfl, ht1⟩
      replace ht1 : Below y2.heap.size y2 t1 := hd2.trans (ht1.mono hd2.size)
      go_wp2_with fail
      refine hK.out _ _ ?_ (fun hHeld => ?_)
      · exact HU.out _ ht1
      clear hK K
      try simp only [Act.put, List.setIfInBounds_toArray, List.set_cons_zero, List.set_cons_succ]
      refine wpAnyH_ready (rs := [3]) (by kernel_rfl) (by simp) ?_
      refine AllReadyH.cons rfl (fun K hK => ?_) AllReadyH.nil
      go_simp
      refine (plain_any r0 n0 _).mono ?_
      rintro e t2 ⟨rfl, ht2⟩
      replace ht2 : Below y2.heap.size y2 t2 := ht1.trans (ht2.mono ht1.size)
      go_wp2_with fail
      refine hK.out _ _ ?_ (fun hHeld => ?_)
      · exact HU.out _ ht2
      clear hK K
      try simp only [Act.put, List.setIfInBounds_toArray, List.set_cons_zero, List.set_cons_succ]
      refine held_take (i := 5) (d := 64) (v := ?_) rfl rfl (by kernel_rfl) (by kernel_rfl) (by kernel_rfl) (fun _ _ _ h => h) (Or.inl ⟨by rfl, ?_⟩) hHeld ?_
      rotate_left
      · (intro w hSw; (try dsimp only at hSw); go_simp; all_goals (with_reducible rfl))
      try simp only [Act.put, List.setIfInBounds_toArray, List.set_cons_zero, List.set_cons_succ]
      refine held_take (i := 6) (d := 65) (v := ?_) rfl rfl (by kernel_rfl) (by kernel_rfl) (by kernel_rfl) (fun _ _ _ h => h) (Or.inl ⟨by rfl, ?_⟩) hHeld ?_
      rotate_left
      · (intro w hSw; (try dsimp only at hSw); go_simp; all_goals (with_reducible rfl))
      try simp only [Act.put, List.setIfInBounds_toArray, List.set_cons_zero, List.set_cons_succ]
      refine wpAnyH_ready (rs := [7]) (by kernel_rfl) (by simp) ?_
      refine AllReadyH.cons rfl (fun K hK => ?_) AllReadyH.nil
      go_simp
      refine (awake7_any _).mono ?_
      rintro e t3 ⟨rfl, ht3⟩
      subst t3
      go_wp2_with fail
      refine hK.out _ _ ?_ (fun hHeld => ?_)
      · exact HU.out _ ht2
      clear hK K
      try simp only [Act.put, List.setIfInBounds_toArray, List.set_cons_zero, List.set_cons_succ]
      refine held_take (i := 8) (d := 67) (v := ?_) rfl rfl (by kernel_rfl) (by kernel_rfl) (by kernel_rfl) (fun _ _ _ h => h) (Or.inl ⟨by rfl, ?_⟩) hHeld ?_
      rotate_left
      · (intro w hSw; (try dsimp only at hSw); go_simp; all_goals (with_reducible rfl))
      try simp only [Act.put, List.setIfInBounds_toArray, List.set_cons_zero, List.set_cons_succ]
      refine held_take (i := 9) (d := 6) (v := ?_) rfl rfl (by kernel_rfl) (by kernel_rfl) (by kernel_rfl) (fun _ _ _ h => h) (Or.inl ⟨by rfl, ?_⟩) hHeld ?_
      rotate_left
      · (intro w hSw; (try dsimp only at hSw); go_simp; all_goals (with_reducible rfl))
      try simp only [Act.put, List.setIfInBounds_toArray, List.set_cons_zero, List.set_cons_succ]
      refine wpAnyH_done (by kernel_rfl) ?_ _
      refine NoPanic.normal ?_
      go_wp2
      go_ret
      exact ⟨rfl, HBY.out.trans (ht2.mono HBY.out.size)⟩
    · have HNE : Hid (∀ w, (binOp .neq 24 (bal r0 n0) (bal r1 n1)).run Try.prog w = .ok (.bool true) w) := neq_bal _ _ _ _ heq
      have hfl := lss_flip r0 r1 n0 n1 heq
      clear heq
      cases h12 : lss r0 n0 r1 n1
      · have h21 : lss r1 n1 r0 n0 = true := by rw [hfl, h12]; rfl
        have HMX : Hid (∀ w, Calls Try.prog 15 #[bal r0 n0, bal r1 n1] w fun e w' => e = .returned (bal r0 n0) ∧ Below w.heap.size w w') := fun w => max_more _ _ _ _ w h12
        clear hfl
        have hne := HNE.out
        refine wp_region_noPanic ?_
        refine wp_region_held_drew (S := (fun w' => Below w9.heap.size w9 w' ∧ w'.cell? ⟨w.heap.size, 0, none⟩ = some (.int .u64 (r0 : Nat)) ∧ w'.cell? ⟨w.heap.size, 1, none⟩ = some (.int .i64 n0) ∧ w'.cell? ⟨w.heap.size + 1, 0, none⟩ = some (.int .u64 (r1 : Nat)) ∧ w'.cell? ⟨w.heap.size + 1, 1, none⟩ = some (.int .i64 n1) ∧ w'.cell? ⟨p7, 0, none⟩ = some (.int .u64 (r0 : Nat)) ∧ w'.cell? ⟨p7, 1, none⟩ = some (.int .i64 n0) ∧ w'.cell? ⟨p8, 0, none⟩ = some (.int .u64 (r1 : Nat)) ∧ w'.cell? ⟨p8, 1, none⟩ = some (.int .i64 n1) ∧ w'.cell? ⟨p9, 0, none⟩ = some (.int .u64 (r2 : Nat)) ∧ w'.cell? ⟨p9, 1, none⟩ = some (.int .i64 n2))) (by kernel_rfl) ?_ (fun hHeld => ?_)
        · exact HT.out _ hd9
        refine held_take (i := 0) (d := 17) (v := ?_) rfl rfl (by kernel_rfl) (by kernel_rfl) (by kernel_rfl) (fun _ _ _ h => h) (Or.inl ⟨by rfl, ?_⟩) hHeld ?_
        rotate_left
        · (intro w hSw; (try dsimp only at hSw); go_simp; all_goals (with_reducible rfl))
        try simp only [Act.put, List.setIfInBounds_toArray, List.set_cons_zero, List.set_cons_succ]
        refine held_take (i := 1) (d := 18) (v := ?_) rfl rfl (by kernel_rfl) (by kernel_rfl) (by kernel_rfl) (fun _ _ _ h => h) (Or.inl ⟨by rfl, ?_⟩) hHeld ?_
        rotate_left
        · (intro w hSw; (try dsimp only at hSw); go_simp; all_goals (with_reducible rfl))
        try simp only [Act.put, List.setIfInBounds_toArray, List.set_cons_zero, List.set_cons_succ]
        refine held_take (i := 3) (d := 20) (v := ?_) rfl rfl (by kernel_rfl) (by kernel_rfl) (by kernel_rfl) (fun _ _ _ h => h) (Or.inl ⟨by rfl, ?_⟩) hHeld ?_
        rotate_left
        · (intro w hSw; (try dsimp only at hSw); go_simp; all_goals (with_reducible rfl))
        try simp only [Act.put, List.setIfInBounds_toArray, List.set_cons_zero, List.set_cons_succ]
        refine held_take (i := 4) (d := 21) (v := ?_) rfl rfl (by kernel_rfl) (by kernel_rfl) (by kernel_rfl) (fun _ _ _ h => h) (Or.inl ⟨by rfl, ?_⟩) hHeld ?_
        rotate_left
        · (intro w hSw; (try dsimp only at hSw); go_simp; all_goals (with_reducible rfl))
        try simp only [Act.put, List.setIfInBounds_toArray, List.set_cons_zero, List.set_cons_succ]
        refine wpAnyH_ready (rs := [2]) (by kernel_rfl) (by simp) ?_
        refine AllReadyH.cons rfl (fun K hK => ?_) AllReadyH.nil
        go_simp
        refine (less_any r0 r1 n0 n1 _).mono ?_
        rintro e u1 ⟨rfl, hu1⟩
        replace hu1 : Below w9.heap.size w9 u1 := hd9.trans (hu1.mono hd9.size)
        rw [h12]
        go_wp2_with fail
        refine hK.out _ _ ?_ (fun hHeld => ?_)
        · exact HT.out _ hu1
        clear hK K
        try simp only [Act.put, List.setIfInBounds_toArray, List.set_cons_zero, List.set_cons_succ]
        refine wpAnyH_ready (rs := [5]) (by kernel_rfl) (by simp) ?_
        refine AllReadyH.cons rfl (fun K hK => ?_) AllReadyH.nil
        go_simp
        refine (ref_less_any r0 r1 n0 n1 _).mono ?_
        rintro e u2 ⟨rfl, hu2⟩
        replace hu2 : Below w9.heap.size w9 u2 := hu1.trans (hu2.mono hu1.size)
        rw [h12]
        go_wp2_with fail
        refine hK.out _ _ ?_ (fun hHeld => ?_)
        · exact HT.out _ hu2
        clear hK K
        try simp only [Act.put, List.setIfInBounds_toArray, List.set_cons_zero, List.set_cons_succ]
        refine held_take (i := 6) (d := 23) (v := ?_) rfl rfl (by kernel_rfl) (by kernel_rfl) (by kernel_rfl) (fun _ _ _ h => h) (Or.inl ⟨by rfl, ?_⟩) hHeld ?_
        rotate_left
        · (intro w hSw; (try dsimp only at hSw); go_simp; all_goals (with_reducible rfl))
        try simp only [Act.put, List.setIfInBounds_toArray, List.set_cons_zero, List.set_cons_succ]
        refine held_take (i := 7) (d := 24) (v := ?_) rfl rfl (by kernel_rfl) (by kernel_rfl) (by kernel_rfl) (fun _ _ _ h => h) (Or.inl ⟨by rfl, ?_⟩) hHeld ?_
        rotate_left
        · (intro w hSw; (try dsimp only at hSw); go_simp; all_goals (with_reducible rfl))
        try simp only [Act.put, List.setIfInBounds_toArray, List.set_cons_zero, List.set_cons_succ]
        refine held_take (i := 8) (d := 25) (v := ?_) rfl rfl (by kernel_rfl) (by kernel_rfl) (by kernel_rfl) (fun _ _ _ h => h) (Or.inl ⟨by rfl, ?_⟩) hHeld ?_
        rotate_left
        · (intro w hSw; (try dsimp only at hSw); go_simp; all_goals (with_reducible rfl))
        try simp only [Act.put, List.setIfInBounds_toArray, List.set_cons_zero, List.set_cons_succ]
        refine held_take (i := 9) (d := 26) (v := ?_) rfl rfl (by kernel_rfl) (by kernel_rfl) (by kernel_rfl) (fun _ _ _ h => h) (Or.inl ⟨by rfl, ?_⟩) hHeld ?_
        rotate_left
        · (intro w hSw; (try dsimp only at hSw); go_simp; all_goals (with_reducible rfl))
        try simp only [Act.put, List.setIfInBounds_toArray, List.set_cons_zero, List.set_cons_succ]
        refine held_take (i := 16) (d := 33) (v := ?_) rfl rfl (by kernel_rfl) (by kernel_rfl) (by kernel_rfl) (fun _ _ _ h => h) (Or.inl ⟨by rfl, ?_⟩) hHeld ?_
        rotate_left
        · (intro w hSw; (try dsimp only at hSw); go_simp; all_goals (with_reducible rfl))
        try simp only [Act.put, List.setIfInBounds_toArray, List.set_cons_zero, List.set_cons_succ]
        refine held_take (i := 17) (d := 34) (v := ?_) rfl rfl (by kernel_rfl) (by kernel_rfl) (by kernel_rfl) (fun _ _ _ h => h) (Or.inl ⟨by rfl, ?_⟩) hHeld ?_
        rotate_left
        · (intro w hSw; (try dsimp only at hSw); go_simp; all_goals (with_reducible rfl))
        try simp only [Act.put, List.setIfInBounds_toArray, List.set_cons_zero, List.set_cons_succ]
        refine held_take (i := 18) (d := 35) (v := ?_) rfl rfl (by kernel_rfl) (by kernel_rfl) (by kernel_rfl) (fun _ _ _ h => h) (Or.inl ⟨by rfl, ?_⟩) hHeld ?_
        rotate_left
        · (intro w hSw; (try dsimp only at hSw); go_simp; all_goals (with_reducible rfl))
        try simp only [Act.put, List.setIfInBounds_toArray, List.set_cons_zero, List.set_cons_succ]
        refine wpAnyH_ready (rs := [10]) (by kernel_rfl) (by simp) ?_
        refine AllReadyH.cons rfl (fun K hK => ?_) AllReadyH.nil
        go_simp
        refine (less_any r0 r1 n0 n1 _).mono ?_
        rintro e u3 ⟨rfl, hu3⟩
        replace hu3 : Below w9.heap.size w9 u3 := hu2.trans (hu3.mono hu2.size)
        rw [h12]
        go_wp2_with fail
        refine hK.out _ _ ?_ (fun hHeld => ?_)
        · exact HT.out _ hu3
        clear hK K
        try simp only [Act.put, List.setIfInBounds_toArray, List.set_cons_zero, List.set_cons_succ]
        refine held_take (i := 11) (d := 28) (v := ?_) rfl rfl (by kernel_rfl) (by kernel_rfl) (by kernel_rfl) (fun _ _ _ h => h) (Or.inl ⟨by rfl, ?_⟩) hHeld ?_
        rotate_left
        · (intro w hSw; (try dsimp only at hSw); go_simp; all_goals (with_reducible rfl))
        try simp only [Act.put, List.setIfInBounds_toArray, List.set_cons_zero, List.set_cons_succ]
        refine held_take (i := 12) (d := 29) (v := ?_) rfl rfl (by kernel_rfl) (by kernel_rfl) (by kernel_rfl) (fun _ _ _ h => h) (Or.inl ⟨by rfl, ?_⟩) hHeld ?_
        rotate_left
        · (intro w hSw; (try dsimp only at hSw); go_simp; all_goals (with_reducible rfl))
        try simp only [Act.put, List.setIfInBounds_toArray, List.set_cons_zero, List.set_cons_succ]
        refine held_take (i := 13) (d := 30) (v := ?_) rfl rfl (by kernel_rfl) (by kernel_rfl) (by kernel_rfl) (fun _ _ _ h => h) (Or.inl ⟨by rfl, ?_⟩) hHeld ?_
        rotate_left
        · (intro w hSw; (try dsimp only at hSw); go_simp; all_goals (with_reducible rfl))
        try simp only [Act.put, List.setIfInBounds_toArray, List.set_cons_zero, List.set_cons_succ]
        refine wpAnyH_ready (rs := [14]) (by kernel_rfl) (by simp) ?_
        refine AllReadyH.cons rfl (fun K hK => ?_) AllReadyH.nil
        go_simp
        refine (less_any r1 r0 n1 n0 _).mono ?_
        rintro e u4 ⟨rfl, hu4⟩
        replace hu4 : Below w9.heap.size w9 u4 := hu3.trans (hu4.mono hu3.size)
        rw [h21]
        go_wp2_with fail
        refine hK.out _ _ ?_ (fun hHeld => ?_)
        · exact HT.out _ hu4
        clear hK K
        try simp only [Act.put, List.setIfInBounds_toArray, List.set_cons_zero, List.set_cons_succ]
        refine held_take (i := 15) (d := 32) (v := ?_) rfl rfl (by kernel_rfl) (by kernel_rfl) (by kernel_rfl) (fun _ _ _ h => h) (Or.inl ⟨by rfl, ?_⟩) hHeld ?_
        rotate_left
        · (intro w hSw; (try dsimp only at hSw); go_simp; all_goals (with_reducible rfl))
        try simp only [Act.put, List.setIfInBounds_toArray, List.set_cons_zero, List.set_cons_succ]
        refine held_take (i := 19) (d := 36) (v := ?_) rfl rfl (by kernel_rfl) (by kernel_rfl) (by kernel_rfl) (fun _ _ _ h => h) (Or.inl ⟨by rfl, ?_⟩) hHeld ?_
        rotate_left
        · (intro w hSw; (try dsimp only at hSw); go_simp; all_goals (with_reducible rfl))
        try simp only [Act.put, List.setIfInBounds_toArray, List.set_cons_zero, List.set_cons_succ]
        refine held_take (i := 20) (d := 37) (v := ?_) rfl rfl (by kernel_rfl) (by kernel_rfl) (by kernel_rfl) (fun _ _ _ h => h) (Or.inl ⟨by rfl, ?_⟩) hHeld ?_
        rotate_left
        · (intro w hSw; (try dsimp only at hSw); go_simp; all_goals (with_reducible rfl))
        try simp only [Act.put, List.setIfInBounds_toArray, List.set_cons_zero, List.set_cons_succ]
        refine held_take (i := 21) (d := 38) (v := ?_) rfl rfl (by kernel_rfl) (by kernel_rfl) (by kernel_rfl) (fun _ _ _ h => h) (Or.inl ⟨by rfl, ?_⟩) hHeld ?_
        rotate_left
        · (intro w hSw; (try dsimp only at hSw); go_simp; all_goals (with_reducible rfl))
        try simp only [Act.put, List.setIfInBounds_toArray, List.set_cons_zero, List.set_cons_succ]
        refine held_take (i := 22) (d := 39) (v := ?_) rfl rfl (by kernel_rfl) (by kernel_rfl) (by kernel_rfl) (fun _ _ _ h => h) (Or.inl ⟨by rfl, ?_⟩) hHeld ?_
        rotate_left
        · (intro w hSw; (try dsimp only at hSw); go_simp; all_goals (with_reducible rfl))
        try simp only [Act.put, List.setIfInBounds_toArray, List.set_cons_zero, List.set_cons_succ]
        refine held_take (i := 23) (d := 40) (v := ?_) rfl rfl (by kernel_rfl) (by kernel_rfl) (by kernel_rfl) (fun _ _ _ h => h) (Or.inl ⟨by rfl, ?_⟩) hHeld ?_
        rotate_left
        · (intro w hSw; (try dsimp only at hSw); go_simp; all_goals (with_reducible rfl))
        try simp only [Act.put, List.setIfInBounds_toArray, List.set_cons_zero, List.set_cons_succ]
        refine wpAnyH_ready (rs := [24]) (by kernel_rfl) (by simp) ?_
        refine AllReadyH.cons rfl (fun K hK => ?_) AllReadyH.nil
        go_simp
        refine (less_any r0 r1 n0 n1 _).mono ?_
        rintro e u5 ⟨rfl, hu5⟩
        replace hu5 : Below w9.heap.size w9 u5 := hu4.trans (hu5.mono hu4.size)
        rw [h12]
        go_wp2_with fail
        refine hK.out _ _ ?_ (fun hHeld => ?_)
        · exact HT.out _ hu5
        clear hK K
        try simp only [Act.put, List.setIfInBounds_toArray, List.set_cons_zero, List.set_cons_succ]
        refine held_take (i := 25) (d := 42) (v := ?_) rfl rfl (by kernel_rfl) (by kernel_rfl) (by kernel_rfl) (fun _ _ _ h => h) (Or.inl ⟨by rfl, ?_⟩) hHeld ?_
        rotate_left
        · (intro w hSw; (try dsimp only at hSw); go_simp; all_goals (with_reducible rfl))
        try simp only [Act.put, List.setIfInBounds_toArray, List.set_cons_zero, List.set_cons_succ]
        refine held_take (i := 26) (d := 43) (v := undef) rfl rfl (by kernel_rfl) (by kernel_rfl) (by kernel_rfl) (fun _ _ _ h => h) (Or.inr ⟨by rfl, rfl⟩) hHeld ?_
        try simp only [Act.put, List.setIfInBounds_toArray, List.set_cons_zero, List.set_cons_succ]
        refine held_take (i := 27) (d := 44) (v := undef) rfl rfl (by kernel_rfl) (by kernel_rfl) (by kernel_rfl) (fun _ _ _ h => h) (Or.inr ⟨by rfl, rfl⟩) hHeld ?_
        try simp only [Act.put, List.setIfInBounds_toArray, List.set_cons_zero, List.set_cons_succ]
        refine held_take (i := 28) (d := 45) (v := undef) rfl rfl (by kernel_rfl) (by kernel_rfl) (by kernel_rfl) (fun _ _ _ h => h) (Or.inr ⟨by rfl, rfl⟩) hHeld ?_
        try simp only [Act.put, List.setIfInBounds_toArray, List.set_cons_zero, List.set_cons_succ]
        refine held_take (i := 29) (d := 46) (v := ?_) rfl rfl (by kernel_rfl) (by kernel_rfl) (by kernel_rfl) (fun _ _ _ h => h) (Or.inl ⟨by rfl, ?_⟩) hHeld ?_
        rotate_left
        · (intro w hSw; (try dsimp only at hSw); go_simp; all_goals (with_reducible rfl))
        try simp only [Act.put, List.setIfInBounds_toArray, List.set_cons_zero, List.set_cons_succ]
        refine held_take (i := 30) (d := 47) (v := ?_) rfl rfl (by kernel_rfl) (by kernel_rfl) (by kernel_rfl) (fun _ _ _ h => h) (Or.inl ⟨by rfl, ?_⟩) hHeld ?_
        rotate_left
        · (intro w hSw; (try dsimp only at hSw); go_simp; all_goals (with_reducible rfl))
        try simp only [Act.put, List.setIfInBounds_toArray, List.set_cons_zero, List.set_cons_succ]
        refine held_take (i := 31) (d := 48) (v := undef) rfl rfl (by kernel_rfl) (by kernel_rfl) (by kernel_rfl) (fun _ _ _ h => h) (Or.inr ⟨by rfl, rfl⟩) hHeld ?_
        try simp only [Act.put, List.setIfInBounds_toArray, List.set_cons_zero, List.set_cons_succ]
        refine held_take (i := 32) (d := 49) (v := undef) rfl rfl (by kernel_rfl) (by kernel_rfl) (by kernel_rfl) (fun _ _ _ h => h) (Or.inr ⟨by rfl, rfl⟩) hHeld ?_
        try simp only [Act.put, List.setIfInBounds_toArray, List.set_cons_zero, List.set_cons_succ]
        refine held_take (i := 33) (d := 50) (v := undef) rfl rfl (by kernel_rfl) (by kernel_rfl) (by kernel_rfl) (fun _ _ _ h => h) (Or.inr ⟨by rfl, rfl⟩) hHeld ?_
        try simp only [Act.put, List.setIfInBounds_toArray, List.set_cons_zero, List.set_cons_succ]
        refine held_take (i := 34) (d := 51) (v := undef) rfl rfl (by kernel_rfl) (by kernel_rfl) (by kernel_rfl) (fun _ _ _ h => h) (Or.inr ⟨by rfl, rfl⟩) hHeld ?_
        try simp only [Act.put, List.setIfInBounds_toArray, List.set_cons_zero, List.set_cons_succ]
        refine held_take (i := 35) (d := 52) (v := ?_) rfl rfl (by kernel_rfl) (by kernel_rfl) (by kernel_rfl) (fun _ _ _ h => h) (Or.inl ⟨by rfl, ?_⟩) hHeld ?_
        rotate_left
        · (intro w hSw; (try dsimp only at hSw); go_simp; all_goals (with_reducible rfl))
        try simp only [Act.put, List.setIfInBounds_toArray, List.set_cons_zero, List.set_cons_succ]
        refine held_take (i := 36) (d := 53) (v := ?_) rfl rfl (by kernel_rfl) (by kernel_rfl) (by kernel_rfl) (fun _ _ _ h => h) (Or.inl ⟨by rfl, ?_⟩) hHeld ?_
        rotate_left
        · (intro w hSw; (try dsimp only at hSw); go_simp; all_goals (with_reducible rfl))
        try simp only [Act.put, List.setIfInBounds_toArray, List.set_cons_zero, List.set_cons_succ]
        refine wpAnyH_done (by kernel_rfl) ?_ _
        refine NoPanic.normal ?_
        have HBu : Hid (Below w.heap.size w u5) := HB9.out.trans (hu5.mono HB9.out.size)
        obtain ⟨-, q00, q01, q10, q11, x70, x71, x80, x81, -, -⟩ := hHeld
        clear hne HNE
        have z0 : w.heap.size < u5.heap.size := World.block_lt_of_cell? _ _ q00
        have z1 : w.heap.size + 1 < u5.heap.size := World.block_lt_of_cell? _ _ q10
        have z7 : p7 < u5.heap.size := World.block_lt_of_cell? _ _ x70
        have z8 : p8 < u5.heap.size := World.block_lt_of_cell? _ _ x80
        go_wp2_with fail
        refine (ref_less_any r0 r1 n0 n1 _).mono ?_
        rintro e y1 ⟨rfl, hy1⟩
        rw [h12]
        obtain ⟨Y, hY⟩ : ∃ Y, Y = u5.alloc (.cells #[.int .u64 (r0 : Nat), .int .i64 n0] 24) := ⟨_, rfl⟩
        rw [← hY] at hy1
        have HBY : Hid (Below w.heap.size w y1) := by
          have h1 : Below w.heap.size w Y := by rw [hY]; exact HBu.out.alloc HBu.out.size _
          exact h1.trans (hy1.mono h1.size)
        have hYs : Y.heap.size = u5.heap.size + 1 := by rw [hY]; simp
        have hYb : Below u5.heap.size u5 Y := by rw [hY]; exact (Below.refl _ _).alloc (Nat.le_refl _) _
        have hm : y1.heap[u5.heap.size]? = some (.cells #[.int .u64 (r0 : Nat), .int .i64 n0] 24 (0, 0)) := by
          rw [hy1.block _ (by omega), hY]
          show (u5.heap.push _)[u5.heap.size]? = _
          simp
        have w10 := cell_later hy1 (cell_later hYb q10)
        have w11 := cell_later hy1 (cell_later hYb q11)
        have w70 := cell_later hy1 (cell_later hYb x70)
        have w71 := cell_later hy1 (cell_later hYb x71)
        have w80 := cell_later hy1 (cell_later hYb x80)
        have w81 := cell_later hy1 (cell_later hYb x81)
        clear hy1 hYb hYs hY q00 q01 q10 q11 x70 x71 x80 x81 Y HBu
        generalize u5.heap.size = pm at *
        have m0 : y1.cell? ⟨pm, 0, none⟩ = some (.int .u64 (r0 : Nat)) := cell_of_heap hm rfl
        have m1 : y1.cell? ⟨pm, 1, none⟩ = some (.int .i64 n0) := cell_of_heap hm rfl
        have k0 : y1.frozen? ⟨pm, 0, none⟩ = false := frozen_of_row y1 _ _ _ _ hm
        have k1 : y1.frozen? ⟨pm, 1, none⟩ = false := frozen_of_row y1 _ _ _ _ hm
        have HM : Hid (y1.heap[pm]? = some (.cells #[.int .u64 (r0 : Nat), .int .i64 n0] 24 (0, 0))) := hm
        clear hm
        go_wp2_with fail
        obtain ⟨y2, hy2⟩ : ∃ y2, y2 = y1 := ⟨_, rfl⟩
        rw [← hy2] at HBY w70 w71 w80 w81 m0 m1 ⊢
        clear hy2
        have HU : Hid (∀ w', Below y2.heap.size y2 w' → Below y2.heap.size y2 w' ∧ w'.cell? ⟨p7, 0, none⟩ = some (.int .u64 (r0 : Nat)) ∧ w'.cell? ⟨p7, 1, none⟩ = some (.int .i64 n0) ∧ w'.cell? ⟨p8, 0, none⟩ = some (.int .u64 (r1 : Nat)) ∧ w'.cell? ⟨p8, 1, none⟩ = some (.int .i64 n1) ∧ w'.cell? ⟨pm, 0, none⟩ = some (.int .u64 (r0 : Nat)) ∧ w'.cell? ⟨pm, 1, none⟩ = some (.int .i64 n0)) := fun w' hb => ⟨hb, cell_later hb w70, cell_later hb w71, cell_later hb w80, cell_later hb w81, cell_later hb m0, cell_later hb m1⟩
        clear w10 w11 w70 w71 w80 w81 m0 m1 k0 k1 HM z0 z1 z7 z8 HT HB9 hd9
        have heqs : ∀ w, (binOp .eql 24 (bal r0 n0) (bal r0 n0)).run Try.prog w = .ok (.bool true) w := eql_same r0 n0
        have hd2 : Below y2.heap.size y2 y2.drew := (Below.refl _ _).drew
        refine wp_region_noPanic ?_
        refine wp_region_held_drew (S := (fun w' => Below y2.heap.size y2 w' ∧ w'.cell? ⟨p7, 0, none⟩ = some (.int .u64 (r0 : Nat)) ∧ w'.cell? ⟨p7, 1, none⟩ = some (.int .i64 n0) ∧ w'.cell? ⟨p8, 0, none⟩ = some (.int .u64 (r1 : Nat)) ∧ w'.cell? ⟨p8, 1, none⟩ = some (.int .i64 n1) ∧ w'.cell? ⟨pm, 0, none⟩ = some (.int .u64 (r0 : Nat)) ∧ w'.cell? ⟨pm, 1, none⟩ = some (.int .i64 n0))) (by kernel_rfl) ?_ (fun hHeld => ?_)
        · exact HU.out _ hd2
        refine held_take (i := 0) (d := 59) (v := ?_) rfl rfl (by kernel_rfl) (by kernel_rfl) (by kernel_rfl) (fun _ _ _ h => h) (Or.inl ⟨by rfl, ?_⟩) hHeld ?_
        rotate_left
        · (intro w hSw; (try dsimp only at hSw); go_simp; all_goals (with_reducible rfl))
        try simp only [Act.put, List.setIfInBounds_toArray, List.set_cons_zero, List.set_cons_succ]
        refine held_take (i := 1) (d := 60) (v := ?_) rfl rfl (by kernel_rfl) (by kernel_rfl) (by kernel_rfl) (fun _ _ _ h => h) (Or.inl ⟨by rfl, ?_⟩) hHeld ?_
        rotate_left
        · (intro w hSw; (try dsimp only at hSw); go_simp; all_goals (with_reducible rfl))
        try simp only [Act.put, List.setIfInBounds_toArray, List.set_cons_zero, List.set_cons_succ]
        refine held_take (i := 4) (d := 63) (v := ?_) rfl rfl (by kernel_rfl) (by kernel_rfl) (by kernel_rfl) (fun _ _ _ h => h) (Or.inl ⟨by rfl, ?_⟩) hHeld ?_
        rotate_left
        · (intro w hSw; (try dsimp only at hSw); go_simp; all_goals (with_reducible rfl))
        try simp only [Act.put, List.setIfInBounds_toArray, List.set_cons_zero, List.set_cons_succ]
        refine wpAnyH_ready (rs := [2]) (by kernel_rfl) (by simp) ?_
        refine AllReadyH.cons rfl (fun K hK => ?_) AllReadyH.nil
        go_simp
        refine (HMX.out _).mono ?_
        rintro e t1 ⟨rfl, ht1⟩
        replace ht1 : Below y2.heap.size y2 t1 := hd2.trans (ht1.mono hd2.size)
        go_wp2_with fail
        refine hK.out _ _ ?_ (fun hHeld => ?_)
        · exact HU.out _ ht1
        clear hK K
        try simp only [Act.put, List.setIfInBounds_toArray, List.set_cons_zero, List.set_cons_succ]
        refine wpAnyH_ready (rs := [3]) (by kernel_rfl) (by simp) ?_
        refine AllReadyH.cons rfl (fun K hK => ?_) AllReadyH.nil
        go_simp
        refine (plain_any r0 n0 _).mono ?_
        rintro e t2 ⟨rfl, ht2⟩
        replace ht2 : Below y2.heap.size y2 t2 := ht1.trans (ht2.mono ht1.size)
        go_wp2_with fail
        refine hK.out _ _ ?_ (fun hHeld => ?_)
        · exact HU.out _ ht2
        clear hK K
        try simp only [Act.put, List.setIfInBounds_toArray, List.set_cons_zero, List.set_cons_succ]
        refine held_take (i := 5) (d := 64) (v := ?_) rfl rfl (by kernel_rfl) (by kernel_rfl) (by kernel_rfl) (fun _ _ _ h => h) (Or.inl ⟨by rfl, ?_⟩) hHeld ?_
        rotate_left
        · (intro w hSw; (try dsimp only at hSw); go_simp; all_goals (with_reducible rfl))
        try simp only [Act.put, List.setIfInBounds_toArray, List.set_cons_zero, List.set_cons_succ]
        refine held_take (i := 6) (d := 65) (v := ?_) rfl rfl (by kernel_rfl) (by kernel_rfl) (by kernel_rfl) (fun _ _ _ h => h) (Or.inl ⟨by rfl, ?_⟩) hHeld ?_
        rotate_left
        · (intro w hSw; (try dsimp only at hSw); go_simp; all_goals (with_reducible rfl))
        try simp only [Act.put, List.setIfInBounds_toArray, List.set_cons_zero, List.set_cons_succ]
        refine wpAnyH_ready (rs := [7]) (by kernel_rfl) (by simp) ?_
        refine AllReadyH.cons rfl (fun K hK => ?_) AllReadyH.nil
        go_simp
        refine (awake7_any _).mono ?_
        rintro e t3 ⟨rfl, ht3⟩
        subst t3
        go_wp2_with fail
        refine hK.out _ _ ?_ (fun hHeld => ?_)
        · exact HU.out _ ht2
        clear hK K
        try simp only [Act.put, List.setIfInBounds_toArray, List.set_cons_zero, List.set_cons_succ]
        refine held_take (i := 8) (d := 67) (v := ?_) rfl rfl (by kernel_rfl) (by kernel_rfl) (by kernel_rfl) (fun _ _ _ h => h) (Or.inl ⟨by rfl, ?_⟩) hHeld ?_
        rotate_left
        · (intro w hSw; (try dsimp only at hSw); go_simp; all_goals (with_reducible rfl))
        try simp only [Act.put, List.setIfInBounds_toArray, List.set_cons_zero, List.set_cons_succ]
        refine held_take (i := 9) (d := 6) (v := ?_) rfl rfl (by kernel_rfl) (by kernel_rfl) (by kernel_rfl) (fun _ _ _ h => h) (Or.inl ⟨by rfl, ?_⟩) hHeld ?_
        rotate_left
        · (intro w hSw; (try dsimp only at hSw); go_simp; all_goals (with_reducible rfl))
        try simp only [Act.put, List.setIfInBounds_toArray, List.set_cons_zero, List.set_cons_succ]
        refine wpAnyH_done (by kernel_rfl) ?_ _
        refine NoPanic.normal ?_
        go_wp2
        go_ret
        exact ⟨rfl, HBY.out.trans (ht2.mono HBY.out.size)⟩
      · have HMX : Hid (∀ w, Calls Try.prog 15 #[bal r0 n0, bal r1 n1] w fun e w' => e = .returned (bal r1 n1) ∧ Below w.heap.size w w') := fun w => max_less _ _ _ _ w h12
        clear hfl
        cases h23 : lss r1 n1 r2 n2
        · skip
          have hne := HNE.out
          refine wp_region_noPanic ?_
          refine wp_region_held_drew (S := (fun w' => Below w9.heap.size w9 w' ∧ w'.cell? ⟨w.heap.size, 0, none⟩ = some (.int .u64 (r0 : Nat)) ∧ w'.cell? ⟨w.heap.size, 1, none⟩ = some (.int .i64 n0) ∧ w'.cell? ⟨w.heap.size + 1, 0, none⟩ = some (.int .u64 (r1 : Nat)) ∧ w'.cell? ⟨w.heap.size + 1, 1, none⟩ = some (.int .i64 n1) ∧ w'.cell? ⟨p7, 0, none⟩ = some (.int .u64 (r0 : Nat)) ∧ w'.cell? ⟨p7, 1, none⟩ = some (.int .i64 n0) ∧ w'.cell? ⟨p8, 0, none⟩ = some (.int .u64 (r1 : Nat)) ∧ w'.cell? ⟨p8, 1, none⟩ = some (.int .i64 n1) ∧ w'.cell? ⟨p9, 0, none⟩ = some (.int .u64 (r2 : Nat)) ∧ w'.cell? ⟨p9, 1, none⟩ = some (.int .i64 n2))) (by kernel_rfl) ?_ (fun hHeld => ?_)
          · exact HT.out _ hd9
          refine held_take (i := 0) (d := 17) (v := ?_) rfl rfl (by kernel_rfl) (by kernel_rfl) (by kernel_rfl) (fun _ _ _ h => h) (Or.inl ⟨by rfl, ?_⟩) hHeld ?_
          rotate_left
          · (intro w hSw; (try dsimp only at hSw); go_simp; all_goals (with_reducible rfl))
          try simp only [Act.put, List.setIfInBounds_toArray, List.set_cons_zero, List.set_cons_succ]
          refine held_take (i := 1) (d := 18) (v := ?_) rfl rfl (by kernel_rfl) (by kernel_rfl) (by kernel_rfl) (fun _ _ _ h => h) (Or.inl ⟨by rfl, ?_⟩) hHeld ?_
          rotate_left
          · (intro w hSw; (try dsimp only at hSw); go_simp; all_goals (with_reducible rfl))
          try simp only [Act.put, List.setIfInBounds_toArray, List.set_cons_zero, List.set_cons_succ]
          refine held_take (i := 3) (d := 20) (v := ?_) rfl rfl (by kernel_rfl) (by kernel_rfl) (by kernel_rfl) (fun _ _ _ h => h) (Or.inl ⟨by rfl, ?_⟩) hHeld ?_
          rotate_left
          · (intro w hSw; (try dsimp only at hSw); go_simp; all_goals (with_reducible rfl))
          try simp only [Act.put, List.setIfInBounds_toArray, List.set_cons_zero, List.set_cons_succ]
          refine held_take (i := 4) (d := 21) (v := ?_) rfl rfl (by kernel_rfl) (by kernel_rfl) (by kernel_rfl) (fun _ _ _ h => h) (Or.inl ⟨by rfl, ?_⟩) hHeld ?_
          rotate_left
          · (intro w hSw; (try dsimp only at hSw); go_simp; all_goals (with_reducible rfl))
          try simp only [Act.put, List.setIfInBounds_toArray, List.set_cons_zero, List.set_cons_succ]
          refine wpAnyH_ready (rs := [2]) (by kernel_rfl) (by simp) ?_
          refine AllReadyH.cons rfl (fun K hK => ?_) AllReadyH.nil
          go_simp
          refine (less_any r0 r1 n0 n1 _).mono ?_
          rintro e u1 ⟨rfl, hu1⟩
          replace hu1 : Below w9.heap.size w9 u1 := hd9.trans (hu1.mono hd9.size)
          rw [h12]
          go_wp2_with fail
          refine hK.out _ _ ?_ (fun hHeld => ?_)
          · exact HT.out _ hu1
          clear hK K
          try simp only [Act.put, List.setIfInBounds_toArray, List.set_cons_zero, List.set_cons_succ]
          refine wpAnyH_ready (rs := [5]) (by kernel_rfl) (by simp) ?_
          refine AllReadyH.cons rfl (fun K hK => ?_) AllReadyH.nil
          go_simp
          refine (ref_less_any r0 r1 n0 n1 _).mono ?_
          rintro e u2 ⟨rfl, hu2⟩
          replace hu2 : Below w9.heap.size w9 u2 := hu1.trans (hu2.mono hu1.size)
          rw [h12]
          go_wp2_with fail
          refine hK.out _ _ ?_ (fun hHeld => ?_)
          · exact HT.out _ hu2
          clear hK K
          try simp only [Act.put, List.setIfInBounds_toArray, List.set_cons_zero, List.set_cons_succ]
          refine held_take (i := 6) (d := 23) (v := ?_) rfl rfl (by kernel_rfl) (by kernel_rfl) (by kernel_rfl) (fun _ _ _ h => h) (Or.inl ⟨by rfl, ?_⟩) hHeld ?_
          rotate_left
          · (intro w hSw; (try dsimp only at hSw); go_simp; all_goals (with_reducible rfl))
          try simp only [Act.put, List.setIfInBounds_toArray, List.set_cons_zero, List.set_cons_succ]
          refine held_take (i := 7) (d := 24) (v := ?_) rfl rfl (by kernel_rfl) (by kernel_rfl) (by kernel_rfl) (fun _ _ _ h => h) (Or.inl ⟨by rfl, ?_⟩) hHeld ?_
          rotate_left
          · (intro w hSw; (try dsimp only at hSw); go_simp; all_goals (with_reducible rfl))
          try simp only [Act.put, List.setIfInBounds_toArray, List.set_cons_zero, List.set_cons_succ]
          refine held_take (i := 8) (d := 25) (v := ?_) rfl rfl (by kernel_rfl) (by kernel_rfl) (by kernel_rfl) (fun _ _ _ h => h) (Or.inl ⟨by rfl, ?_⟩) hHeld ?_
          rotate_left
          · (intro w hSw; (try dsimp only at hSw); go_simp; all_goals (with_reducible rfl))
          try simp only [Act.put, List.setIfInBounds_toArray, List.set_cons_zero, List.set_cons_succ]
          refine held_take (i := 9) (d := 26) (v := ?_) rfl rfl (by kernel_rfl) (by kernel_rfl) (by kernel_rfl) (fun _ _ _ h => h) (Or.inl ⟨by rfl, ?_⟩) hHeld ?_
          rotate_left
          · (intro w hSw; (try dsimp only at hSw); go_simp; all_goals (with_reducible rfl))
          try simp only [Act.put, List.setIfInBounds_toArray, List.set_cons_zero, List.set_cons_succ]
          refine held_take (i := 16) (d := 33) (v := ?_) rfl rfl (by kernel_rfl) (by kernel_rfl) (by kernel_rfl) (fun _ _ _ h => h) (Or.inl ⟨by rfl, ?_⟩) hHeld ?_
          rotate_left
          · (intro w hSw; (try dsimp only at hSw); go_simp; all_goals (with_reducible rfl))
          try simp only [Act.put, List.setIfInBounds_toArray, List.set_cons_zero, List.set_cons_succ]
          refine held_take (i := 17) (d := 34) (v := ?_) rfl rfl (by kernel_rfl) (by kernel_rfl) (by kernel_rfl) (fun _ _ _ h => h) (Or.inl ⟨by rfl, ?_⟩) hHeld ?_
          rotate_left
          · (intro w hSw; (try dsimp only at hSw); go_simp; all_goals (with_reducible rfl))
          try simp only [Act.put, List.setIfInBounds_toArray, List.set_cons_zero, List.set_cons_succ]
          refine held_take (i := 18) (d := 35) (v := ?_) rfl rfl (by kernel_rfl) (by kernel_rfl) (by kernel_rfl) (fun _ _ _ h => h) (Or.inl ⟨by rfl, ?_⟩) hHeld ?_
          rotate_left
          · (intro w hSw; (try dsimp only at hSw); go_simp; all_goals (with_reducible rfl))
          try simp only [Act.put, List.setIfInBounds_toArray, List.set_cons_zero, List.set_cons_succ]
          refine wpAnyH_ready (rs := [10]) (by kernel_rfl) (by simp) ?_
          refine AllReadyH.cons rfl (fun K hK => ?_) AllReadyH.nil
          go_simp
          refine (less_any r0 r1 n0 n1 _).mono ?_
          rintro e u3 ⟨rfl, hu3⟩
          replace hu3 : Below w9.heap.size w9 u3 := hu2.trans (hu3.mono hu2.size)
          rw [h12]
          go_wp2_with fail
          refine hK.out _ _ ?_ (fun hHeld => ?_)
          · exact HT.out _ hu3
          clear hK K
          try simp only [Act.put, List.setIfInBounds_toArray, List.set_cons_zero, List.set_cons_succ]
          refine held_take (i := 11) (d := 28) (v := ?_) rfl rfl (by kernel_rfl) (by kernel_rfl) (by kernel_rfl) (fun _ _ _ h => h) (Or.inl ⟨by rfl, ?_⟩) hHeld ?_
          rotate_left
          · (intro w hSw; (try dsimp only at hSw); go_simp; all_goals (with_reducible rfl))
          try simp only [Act.put, List.setIfInBounds_toArray, List.set_cons_zero, List.set_cons_succ]
          refine held_take (i := 12) (d := 29) (v := undef) rfl rfl (by kernel_rfl) (by kernel_rfl) (by kernel_rfl) (fun _ _ _ h => h) (Or.inr ⟨by rfl, rfl⟩) hHeld ?_
          try simp only [Act.put, List.setIfInBounds_toArray, List.set_cons_zero, List.set_cons_succ]
          refine held_take (i := 13) (d := 30) (v := undef) rfl rfl (by kernel_rfl) (by kernel_rfl) (by kernel_rfl) (fun _ _ _ h => h) (Or.inr ⟨by rfl, rfl⟩) hHeld ?_
          try simp only [Act.put, List.setIfInBounds_toArray, List.set_cons_zero, List.set_cons_succ]
          refine held_take (i := 14) (d := 31) (v := undef) rfl rfl (by kernel_rfl) (by kernel_rfl) (by kernel_rfl) (fun _ _ _ h => h) (Or.inr ⟨by rfl, rfl⟩) hHeld ?_
          try simp only [Act.put, List.setIfInBounds_toArray, List.set_cons_zero, List.set_cons_succ]
          refine held_take (i := 15) (d := 32) (v := ?_) rfl rfl (by kernel_rfl) (by kernel_rfl) (by kernel_rfl) (fun _ _ _ h => h) (Or.inl ⟨by rfl, ?_⟩) hHeld ?_
          rotate_left
          · (intro w hSw; (try dsimp only at hSw); go_simp; all_goals (with_reducible rfl))
          try simp only [Act.put, List.setIfInBounds_toArray, List.set_cons_zero, List.set_cons_succ]
          refine held_take (i := 19) (d := 36) (v := ?_) rfl rfl (by kernel_rfl) (by kernel_rfl) (by kernel_rfl) (fun _ _ _ h => h) (Or.inl ⟨by rfl, ?_⟩) hHeld ?_
          rotate_left
          · (intro w hSw; (try dsimp only at hSw); go_simp; all_goals (with_reducible rfl))
          try simp only [Act.put, List.setIfInBounds_toArray, List.set_cons_zero, List.set_cons_succ]
          refine held_take (i := 20) (d := 37) (v := ?_) rfl rfl (by kernel_rfl) (by kernel_rfl) (by kernel_rfl) (fun _ _ _ h => h) (Or.inl ⟨by rfl, ?_⟩) hHeld ?_
          rotate_left
          · (intro w hSw; (try dsimp only at hSw); go_simp; all_goals (with_reducible rfl))
          try simp only [Act.put, List.setIfInBounds_toArray, List.set_cons_zero, List.set_cons_succ]
          refine held_take (i := 21) (d := 38) (v := ?_) rfl rfl (by kernel_rfl) (by kernel_rfl) (by kernel_rfl) (fun _ _ _ h => h) (Or.inl ⟨by rfl, ?_⟩) hHeld ?_
          rotate_left
          · (intro w hSw; (try dsimp only at hSw); go_simp; all_goals (with_reducible rfl))
          try simp only [Act.put, List.setIfInBounds_toArray, List.set_cons_zero, List.set_cons_succ]
          refine held_take (i := 22) (d := 39) (v := ?_) rfl rfl (by kernel_rfl) (by kernel_rfl) (by kernel_rfl) (fun _ _ _ h => h) (Or.inl ⟨by rfl, ?_⟩) hHeld ?_
          rotate_left
          · (intro w hSw; (try dsimp only at hSw); go_simp; all_goals (with_reducible rfl))
          try simp only [Act.put, List.setIfInBounds_toArray, List.set_cons_zero, List.set_cons_succ]
          refine held_take (i := 23) (d := 40) (v := ?_) rfl rfl (by kernel_rfl) (by kernel_rfl) (by kernel_rfl) (fun _ _ _ h => h) (Or.inl ⟨by rfl, ?_⟩) hHeld ?_
          rotate_left
          · (intro w hSw; (try dsimp only at hSw); go_simp; all_goals (with_reducible rfl))
          try simp only [Act.put, List.setIfInBounds_toArray, List.set_cons_zero, List.set_cons_succ]
          refine wpAnyH_ready (rs := [24]) (by kernel_rfl) (by simp) ?_
          refine AllReadyH.cons rfl (fun K hK => ?_) AllReadyH.nil
          go_simp
          refine (less_any r0 r1 n0 n1 _).mono ?_
          rintro e u4 ⟨rfl, hu4⟩
          replace hu4 : Below w9.heap.size w9 u4 := hu3.trans (hu4.mono hu3.size)
          rw [h12]
          go_wp2_with fail
          refine hK.out _ _ ?_ (fun hHeld => ?_)
          · exact HT.out _ hu4
          clear hK K
          try simp only [Act.put, List.setIfInBounds_toArray, List.set_cons_zero, List.set_cons_succ]
          refine held_take (i := 25) (d := 42) (v := ?_) rfl rfl (by kernel_rfl) (by kernel_rfl) (by kernel_rfl) (fun _ _ _ h => h) (Or.inl ⟨by rfl, ?_⟩) hHeld ?_
          rotate_left
          · (intro w hSw; (try dsimp only at hSw); go_simp; all_goals (with_reducible rfl))
          try simp only [Act.put, List.setIfInBounds_toArray, List.set_cons_zero, List.set_cons_succ]
          refine held_take (i := 26) (d := 43) (v := ?_) rfl rfl (by kernel_rfl) (by kernel_rfl) (by kernel_rfl) (fun _ _ _ h => h) (Or.inl ⟨by rfl, ?_⟩) hHeld ?_
          rotate_left
          · (intro w hSw; (try dsimp only at hSw); go_simp; all_goals (with_reducible rfl))
          try simp only [Act.put, List.setIfInBounds_toArray, List.set_cons_zero, List.set_cons_succ]
          refine held_take (i := 27) (d := 44) (v := ?_) rfl rfl (by kernel_rfl) (by kernel_rfl) (by kernel_rfl) (fun _ _ _ h => h) (Or.inl ⟨by rfl, ?_⟩) hHeld ?_
          rotate_left
          · (intro w hSw; (try dsimp only at hSw); go_simp; all_goals (with_reducible rfl))
          try simp only [Act.put, List.setIfInBounds_toArray, List.set_cons_zero, List.set_cons_succ]
          refine wpAnyH_ready (rs := [28]) (by kernel_rfl) (by simp) ?_
          refine AllReadyH.cons rfl (fun K hK => ?_) AllReadyH.nil
          go_simp
          refine (less_any r1 r2 n1 n2 _).mono ?_
          rintro e u5 ⟨rfl, hu5⟩
          replace hu5 : Below w9.heap.size w9 u5 := hu4.trans (hu5.mono hu4.size)
          rw [h23]
          go_wp2_with fail
          refine hK.out _ _ ?_ (fun hHeld => ?_)
          · exact HT.out _ hu5
          clear hK K
          try simp only [Act.put, List.setIfInBounds_toArray, List.set_cons_zero, List.set_cons_succ]
          refine held_take (i := 29) (d := 46) (v := ?_) rfl rfl (by kernel_rfl) (by kernel_rfl) (by kernel_rfl) (fun _ _ _ h => h) (Or.inl ⟨by rfl, ?_⟩) hHeld ?_
          rotate_left
          · (intro w hSw; (try dsimp only at hSw); go_simp; all_goals (with_reducible rfl))
          try simp only [Act.put, List.setIfInBounds_toArray, List.set_cons_zero, List.set_cons_succ]
          refine held_take (i := 30) (d := 47) (v := ?_) rfl rfl (by kernel_rfl) (by kernel_rfl) (by kernel_rfl) (fun _ _ _ h => h) (Or.inl ⟨by rfl, ?_⟩) hHeld ?_
          rotate_left
          · (intro w hSw; (try dsimp only at hSw); go_simp; all_goals (with_reducible rfl))
          try simp only [Act.put, List.setIfInBounds_toArray, List.set_cons_zero, List.set_cons_succ]
          refine held_take (i := 31) (d := 48) (v := undef) rfl rfl (by kernel_rfl) (by kernel_rfl) (by kernel_rfl) (fun _ _ _ h => h) (Or.inr ⟨by rfl, rfl⟩) hHeld ?_
          try simp only [Act.put, List.setIfInBounds_toArray, List.set_cons_zero, List.set_cons_succ]
          refine held_take (i := 32) (d := 49) (v := undef) rfl rfl (by kernel_rfl) (by kernel_rfl) (by kernel_rfl) (fun _ _ _ h => h) (Or.inr ⟨by rfl, rfl⟩) hHeld ?_
          try simp only [Act.put, List.setIfInBounds_toArray, List.set_cons_zero, List.set_cons_succ]
          refine held_take (i := 33) (d := 50) (v := undef) rfl rfl (by kernel_rfl) (by kernel_rfl) (by kernel_rfl) (fun _ _ _ h => h) (Or.inr ⟨by rfl, rfl⟩) hHeld ?_
          try simp only [Act.put, List.setIfInBounds_toArray, List.set_cons_zero, List.set_cons_succ]
          refine held_take (i := 34) (d := 51) (v := undef) rfl rfl (by kernel_rfl) (by kernel_rfl) (by kernel_rfl) (fun _ _ _ h => h) (Or.inr ⟨by rfl, rfl⟩) hHeld ?_
          try simp only [Act.put, List.setIfInBounds_toArray, List.set_cons_zero, List.set_cons_succ]
          refine held_take (i := 35) (d := 52) (v := ?_) rfl rfl (by kernel_rfl) (by kernel_rfl) (by kernel_rfl) (fun _ _ _ h => h) (Or.inl ⟨by rfl, ?_⟩) hHeld ?_
          rotate_left
          · (intro w hSw; (try dsimp only at hSw); go_simp; all_goals (with_reducible rfl))
          try simp only [Act.put, List.setIfInBounds_toArray, List.set_cons_zero, List.set_cons_succ]
          refine held_take (i := 36) (d := 53) (v := ?_) rfl rfl (by kernel_rfl) (by kernel_rfl) (by kernel_rfl) (fun _ _ _ h => h) (Or.inl ⟨by rfl, ?_⟩) hHeld ?_
          rotate_left
          · (intro w hSw; (try dsimp only at hSw); go_simp; all_goals (with_reducible rfl))
          try simp only [Act.put, List.setIfInBounds_toArray, List.set_cons_zero, List.set_cons_succ]
          refine wpAnyH_done (by kernel_rfl) ?_ _
          refine NoPanic.normal ?_
          have HBu : Hid (Below w.heap.size w u5) := HB9.out.trans (hu5.mono HB9.out.size)
          obtain ⟨-, q00, q01, q10, q11, x70, x71, x80, x81, -, -⟩ := hHeld
          clear hne HNE
          have z0 : w.heap.size < u5.heap.size := World.block_lt_of_cell? _ _ q00
          have z1 : w.heap.size + 1 < u5.heap.size := World.block_lt_of_cell? _ _ q10
          have z7 : p7 < u5.heap.size := World.block_lt_of_cell? _ _ x70
          have z8 : p8 < u5.heap.size := World.block_lt_of_cell? _ _ x80
          go_wp2_with fail
          refine (ref_less_any r0 r1 n0 n1 _).mono ?_
          rintro e y1 ⟨rfl, hy1⟩
          rw [h12]
          obtain ⟨Y, hY⟩ : ∃ Y, Y = u5.alloc (.cells #[.int .u64 (r0 : Nat), .int .i64 n0] 24) := ⟨_, rfl⟩
          rw [← hY] at hy1
          have HBY : Hid (Below w.heap.size w y1) := by
            have h1 : Below w.heap.size w Y := by rw [hY]; exact HBu.out.alloc HBu.out.size _
            exact h1.trans (hy1.mono h1.size)
          have hYs : Y.heap.size = u5.heap.size + 1 := by rw [hY]; simp
          have hYb : Below u5.heap.size u5 Y := by rw [hY]; exact (Below.refl _ _).alloc (Nat.le_refl _) _
          have hm : y1.heap[u5.heap.size]? = some (.cells #[.int .u64 (r0 : Nat), .int .i64 n0] 24 (0, 0)) := by
            rw [hy1.block _ (by omega), hY]
            show (u5.heap.push _)[u5.heap.size]? = _
            simp
          have w10 := cell_later hy1 (cell_later hYb q10)
          have w11 := cell_later hy1 (cell_later hYb q11)
          have w70 := cell_later hy1 (cell_later hYb x70)
          have w71 := cell_later hy1 (cell_later hYb x71)
          have w80 := cell_later hy1 (cell_later hYb x80)
          have w81 := cell_later hy1 (cell_later hYb x81)
          clear hy1 hYb hYs hY q00 q01 q10 q11 x70 x71 x80 x81 Y HBu
          generalize u5.heap.size = pm at *
          have m0 : y1.cell? ⟨pm, 0, none⟩ = some (.int .u64 (r0 : Nat)) := cell_of_heap hm rfl
          have m1 : y1.cell? ⟨pm, 1, none⟩ = some (.int .i64 n0) := cell_of_heap hm rfl
          have k0 : y1.frozen? ⟨pm, 0, none⟩ = false := frozen_of_row y1 _ _ _ _ hm
          have k1 : y1.frozen? ⟨pm, 1, none⟩ = false := frozen_of_row y1 _ _ _ _ hm
          have HM : Hid (y1.heap[pm]? = some (.cells #[.int .u64 (r0 : Nat), .int .i64 n0] 24 (0, 0))) := hm
          clear hm
          go_wp2_with fail
          obtain ⟨y2, hy2⟩ : ∃ y2, y2 = (y1.setCell ⟨pm, 0, none⟩ (.int .u64 (r1 : Nat))).setCell ⟨pm, 1, none⟩ (.int .i64 n1) := ⟨_, rfl⟩
          rw [← hy2]
          have far : ∀ (q j : Nat) (u : Value), q < pm → y1.cell? ⟨q, j, none⟩ = some u → y2.cell? ⟨q, j, none⟩ = some u := fun q j u hq h => by
            rw [hy2, World.cell?_setCell_far _ _ _ _ (by simp; omega), World.cell?_setCell_far _ _ _ _ (by simp; omega)]
            exact h
          replace HBY : Hid (Below w.heap.size w y2) := by rw [hy2]; exact (HBY.out.setCell (p := ⟨pm, 0, none⟩) (by simp; omega) _).setCell (p := ⟨pm, 1, none⟩) (by simp; omega) _
          have hm2 : y2.heap[pm]? = some (.cells #[.int .u64 (r1 : Nat), .int .i64 n1] 24 (0, 0)) := by rw [hy2]; exact two_same HM.out
          replace m0 : y2.cell? ⟨pm, 0, none⟩ = some (.int .u64 (r1 : Nat)) := cell_of_heap hm2 rfl
          replace m1 : y2.cell? ⟨pm, 1, none⟩ = some (.int .i64 n1) := cell_of_heap hm2 rfl
          replace w70 := far _ _ _ z7 w70
          replace w71 := far _ _ _ z7 w71
          replace w80 := far _ _ _ z8 w80
          replace w81 := far _ _ _ z8 w81
          clear hm2 hy2 far
          have HU : Hid (∀ w', Below y2.heap.size y2 w' → Below y2.heap.size y2 w' ∧ w'.cell? ⟨p7, 0, none⟩ = some (.int .u64 (r0 : Nat)) ∧ w'.cell? ⟨p7, 1, none⟩ = some (.int .i64 n0) ∧ w'.cell? ⟨p8, 0, none⟩ = some (.int .u64 (r1 : Nat)) ∧ w'.cell? ⟨p8, 1, none⟩ = some (.int .i64 n1) ∧ w'.cell? ⟨pm, 0, none⟩ = some (.int .u64 (r1 : Nat)) ∧ w'.cell? ⟨pm, 1, none⟩ = some (.int .i64 n1)) := fun w' hb => ⟨hb, cell_later hb w70, cell_later hb w71, cell_later hb w80, cell_later hb w81, cell_later hb m0, cell_later hb m1⟩
          clear w10 w11 w70 w71 w80 w81 m0 m1 k0 k1 HM z0 z1 z7 z8 HT HB9 hd9
          have heqs : ∀ w, (binOp .eql 24 (bal r1 n1) (bal r1 n1)).run Try.prog w = .ok (.bool true) w := eql_same r1 n1
          have hd2 : Below y2.heap.size y2 y2.drew := (Below.refl _ _).drew
          refine wp_region_noPanic ?_
          refine wp_region_held_drew (S := (fun w' => Below y2.heap.size y2 w' ∧ w'.cell? ⟨p7, 0, none⟩ = some (.int .u64 (r0 : Nat)) ∧ w'.cell? ⟨p7, 1, none⟩ = some (.int .i64 n0) ∧ w'.cell? ⟨p8, 0, none⟩ = some (.int .u64 (r1 : Nat)) ∧ w'.cell? ⟨p8, 1, none⟩ = some (.int .i64 n1) ∧ w'.cell? ⟨pm, 0, none⟩ = some (.int .u64 (r1 : Nat)) ∧ w'.cell? ⟨pm, 1, none⟩ = some (.int .i64 n1))) (by kernel_rfl) ?_ (fun hHeld => ?_)
          · exact HU.out _ hd2
          refine held_take (i := 0) (d := 59) (v := ?_) rfl rfl (by kernel_rfl) (by kernel_rfl) (by kernel_rfl) (fun _ _ _ h => h) (Or.inl ⟨by rfl, ?_⟩) hHeld ?_
          rotate_left
          · (intro w hSw; (try dsimp only at hSw); go_simp; all_goals (with_reducible rfl))
          try simp only [Act.put, List.setIfInBounds_toArray, List.set_cons_zero, List.set_cons_succ]
          refine held_take (i := 1) (d := 60) (v := ?_) rfl rfl (by kernel_rfl) (by kernel_rfl) (by kernel_rfl) (fun _ _ _ h => h) (Or.inl ⟨by rfl, ?_⟩) hHeld ?_
          rotate_left
          · (intro w hSw; (try dsimp only at hSw); go_simp; all_goals (with_reducible rfl))
          try simp only [Act.put, List.setIfInBounds_toArray, List.set_cons_zero, List.set_cons_succ]
          refine held_take (i := 4) (d := 63) (v := ?_) rfl rfl (by kernel_rfl) (by kernel_rfl) (by kernel_rfl) (fun _ _ _ h => h) (Or.inl ⟨by rfl, ?_⟩) hHeld ?_
          rotate_left
          · (intro w hSw; (try dsimp only at hSw); go_simp; all_goals (with_reducible rfl))
          try simp only [Act.put, List.setIfInBounds_toArray, List.set_cons_zero, List.set_cons_succ]
          refine wpAnyH_ready (rs := [2]) (by kernel_rfl) (by simp) ?_
          refine AllReadyH.cons rfl (fun K hK => ?_) AllReadyH.nil
          go_simp
          refine (HMX.out _).mono ?_
          rintro e t1 ⟨rfl, ht1⟩
          replace ht1 : Below y2.heap.size y2 t1 := hd2.trans (ht1.mono hd2.size)
          go_wp2_with fail
          refine hK.out _ _ ?_ (fun hHeld => ?_)
          · exact HU.out _ ht1
          clear hK K
          try simp only [Act.put, List.setIfInBounds_toArray, List.set_cons_zero, List.set_cons_succ]
          refine wpAnyH_ready (rs := [3]) (by kernel_rfl) (by simp) ?_
          refine AllReadyH.cons rfl (fun K hK => ?_) AllReadyH.nil
          go_simp
          refine (plain_any r1 n1 _).mono ?_
          rintro e t2 ⟨rfl, ht2⟩
          replace ht2 : Below y2.heap.size y2 t2 := ht1.trans (ht2.mono ht1.size)
          go_wp2_with fail
          refine hK.out _ _ ?_ (fun hHeld => ?_)
          · exact HU.out _ ht2
          clear hK K
          try simp only [Act.put, List.setIfInBounds_toArray, List.set_cons_zero, List.set_cons_succ]
          refine held_take (i := 5) (d := 64) (v := ?_) rfl rfl (by kernel_rfl) (by kernel_rfl) (by kernel_rfl) (fun _ _ _ h => h) (Or.inl ⟨by rfl, ?_⟩) hHeld ?_
          rotate_left
          · (intro w hSw; (try dsimp only at hSw); go_simp; all_goals (with_reducible rfl))
          try simp only [Act.put, List.setIfInBounds_toArray, List.set_cons_zero, List.set_cons_succ]
          refine held_take (i := 6) (d := 65) (v := ?_) rfl rfl (by kernel_rfl) (by kernel_rfl) (by kernel_rfl) (fun _ _ _ h => h) (Or.inl ⟨by rfl, ?_⟩) hHeld ?_
          rotate_left
          · (intro w hSw; (try dsimp only at hSw); go_simp; all_goals (with_reducible rfl))
          try simp only [Act.put, List.setIfInBounds_toArray, List.set_cons_zero, List.set_cons_succ]
          refine wpAnyH_ready (rs := [7]) (by kernel_rfl) (by simp) ?_
          refine AllReadyH.cons rfl (fun K hK => ?_) AllReadyH.nil
          go_simp
          refine (awake7_any _).mono ?_
          rintro e t3 ⟨rfl, ht3⟩
          subst t3
          go_wp2_with fail
          refine hK.out _ _ ?_ (fun hHeld => ?_)
          · exact HU.out _ ht2
          clear hK K
          try simp only [Act.put, List.setIfInBounds_toArray, List.set_cons_zero, List.set_cons_succ]
          refine held_take (i := 8) (d := 67) (v := ?_) rfl rfl (by kernel_rfl) (by kernel_rfl) (by kernel_rfl) (fun _ _ _ h => h) (Or.inl ⟨by rfl, ?_⟩) hHeld ?_
          rotate_left
          · (intro w hSw; (try dsimp only at hSw); go_simp; all_goals (with_reducible rfl))
          try simp only [Act.put, List.setIfInBounds_toArray, List.set_cons_zero, List.set_cons_succ]
          refine held_take (i := 9) (d := 6) (v := ?_) rfl rfl (by kernel_rfl) (by kernel_rfl) (by kernel_rfl) (fun _ _ _ h => h) (Or.inl ⟨by rfl, ?_⟩) hHeld ?_
          rotate_left
          · (intro w hSw; (try dsimp only at hSw); go_simp; all_goals (with_reducible rfl))
          try simp only [Act.put, List.setIfInBounds_toArray, List.set_cons_zero, List.set_cons_succ]
          refine wpAnyH_done (by kernel_rfl) ?_ _
          refine NoPanic.normal ?_
          go_wp2
          go_ret
          exact ⟨rfl, HBY.out.trans (ht2.mono HBY.out.size)⟩
        · have h13 : lss r0 n0 r2 n2 = true := lss_trans _ _ _ _ _ _ h12 h23
          have hne := HNE.out
          refine wp_region_noPanic ?_
          refine wp_region_held_drew (S := (fun w' => Below w9.heap.size w9 w' ∧ w'.cell? ⟨w.heap.size, 0, none⟩ = some (.int .u64 (r0 : Nat)) ∧ w'.cell? ⟨w.heap.size, 1, none⟩ = some (.int .i64 n0) ∧ w'.cell? ⟨w.heap.size + 1, 0, none⟩ = some (.int .u64 (r1 : Nat)) ∧ w'.cell? ⟨w.heap.size + 1, 1, none⟩ = some (.int .i64 n1) ∧ w'.cell? ⟨p7, 0, none⟩ = some (.int .u64 (r0 : Nat)) ∧ w'.cell? ⟨p7, 1, none⟩ = some (.int .i64 n0) ∧ w'.cell? ⟨p8, 0, none⟩ = some (.int .u64 (r1 : Nat)) ∧ w'.cell? ⟨p8, 1, none⟩ = some (.int .i64 n1) ∧ w'.cell? ⟨p9, 0, none⟩ = some (.int .u64 (r2 : Nat)) ∧ w'.cell? ⟨p9, 1, none⟩ = some (.int .i64 n2))) (by kernel_rfl) ?_ (fun hHeld => ?_)
          · exact HT.out _ hd9
          refine held_take (i := 0) (d := 17) (v := ?_) rfl rfl (by kernel_rfl) (by kernel_rfl) (by kernel_rfl) (fun _ _ _ h => h) (Or.inl ⟨by rfl, ?_⟩) hHeld ?_
          rotate_left
          · (intro w hSw; (try dsimp only at hSw); go_simp; all_goals (with_reducible rfl))
          try simp only [Act.put, List.setIfInBounds_toArray, List.set_cons_zero, List.set_cons_succ]
          refine held_take (i := 1) (d := 18) (v := ?_) rfl rfl (by kernel_rfl) (by kernel_rfl) (by kernel_rfl) (fun _ _ _ h => h) (Or.inl ⟨by rfl, ?_⟩) hHeld ?_
          rotate_left
          · (intro w hSw; (try dsimp only at hSw); go_simp; all_goals (with_reducible rfl))
          try simp only [Act.put, List.setIfInBounds_toArray, List.set_cons_zero, List.set_cons_succ]
          refine held_take (i := 3) (d := 20) (v := ?_) rfl rfl (by kernel_rfl) (by kernel_rfl) (by kernel_rfl) (fun _ _ _ h => h) (Or.inl ⟨by rfl, ?_⟩) hHeld ?_
          rotate_left
          · (intro w hSw; (try dsimp only at hSw); go_simp; all_goals (with_reducible rfl))
          try simp only [Act.put, List.setIfInBounds_toArray, List.set_cons_zero, List.set_cons_succ]
          refine held_take (i := 4) (d := 21) (v := ?_) rfl rfl (by kernel_rfl) (by kernel_rfl) (by kernel_rfl) (fun _ _ _ h => h) (Or.inl ⟨by rfl, ?_⟩) hHeld ?_
          rotate_left
          · (intro w hSw; (try dsimp only at hSw); go_simp; all_goals (with_reducible rfl))
          try simp only [Act.put, List.setIfInBounds_toArray, List.set_cons_zero, List.set_cons_succ]
          refine wpAnyH_ready (rs := [2]) (by kernel_rfl) (by simp) ?_
          refine AllReadyH.cons rfl (fun K hK => ?_) AllReadyH.nil
          go_simp
          refine (less_any r0 r1 n0 n1 _).mono ?_
          rintro e u1 ⟨rfl, hu1⟩
          replace hu1 : Below w9.heap.size w9 u1 := hd9.trans (hu1.mono hd9.size)
          rw [h12]
          go_wp2_with fail
          refine hK.out _ _ ?_ (fun hHeld => ?_)
          · exact HT.out _ hu1
          clear hK K
          try simp only [Act.put, List.setIfInBounds_toArray, List.set_cons_zero, List.set_cons_succ]
          refine wpAnyH_ready (rs := [5]) (by kernel_rfl) (by simp) ?_
          refine AllReadyH.cons rfl (fun K hK => ?_) AllReadyH.nil
          go_simp
          refine (ref_less_any r0 r1 n0 n1 _).mono ?_
          rintro e u2 ⟨rfl, hu2⟩
          replace hu2 : Below w9.heap.size w9 u2 := hu1.trans (hu2.mono hu1.size)
          rw [h12]
          go_wp2_with fail
          refine hK.out _ _ ?_ (fun hHeld => ?_)
          · exact HT.out _ hu2
          clear hK K
          try simp only [Act.put, List.setIfInBounds_toArray, List.set_cons_zero, List.set_cons_succ]
          refine held_take (i := 6) (d := 23) (v := ?_) rfl rfl (by kernel_rfl) (by kernel_rfl) (by kernel_rfl) (fun _ _ _ h => h) (Or.inl ⟨by rfl, ?_⟩) hHeld ?_
          rotate_left
          · (intro w hSw; (try dsimp only at hSw); go_simp; all_goals (with_reducible rfl))
          try simp only [Act.put, List.setIfInBounds_toArray, List.set_cons_zero, List.set_cons_succ]
          refine held_take (i := 7) (d := 24) (v := ?_) rfl rfl (by kernel_rfl) (by kernel_rfl) (by kernel_rfl) (fun _ _ _ h => h) (Or.inl ⟨by rfl, ?_⟩) hHeld ?_
          rotate_left
          · (intro w hSw; (try dsimp only at hSw); go_simp; all_goals (with_reducible rfl))
          try simp only [Act.put, List.setIfInBounds_toArray, List.set_cons_zero, List.set_cons_succ]
          refine held_take (i := 8) (d := 25) (v := ?_) rfl rfl (by kernel_rfl) (by kernel_rfl) (by kernel_rfl) (fun _ _ _ h => h) (Or.inl ⟨by rfl, ?_⟩) hHeld ?_
          rotate_left
          · (intro w hSw; (try dsimp only at hSw); go_simp; all_goals (with_reducible rfl))
          try simp only [Act.put, List.setIfInBounds_toArray, List.set_cons_zero, List.set_cons_succ]
          refine held_take (i := 9) (d := 26) (v := ?_) rfl rfl (by kernel_rfl) (by kernel_rfl) (by kernel_rfl) (fun _ _ _ h => h) (Or.inl ⟨by rfl, ?_⟩) hHeld ?_
          rotate_left
          · (intro w hSw; (try dsimp only at hSw); go_simp; all_goals (with_reducible rfl))
          try simp only [Act.put, List.setIfInBounds_toArray, List.set_cons_zero, List.set_cons_succ]
          refine held_take (i := 16) (d := 33) (v := ?_) rfl rfl (by kernel_rfl) (by kernel_rfl) (by kernel_rfl) (fun _ _ _ h => h) (Or.inl ⟨by rfl, ?_⟩) hHeld ?_
          rotate_left
          · (intro w hSw; (try dsimp only at hSw); go_simp; all_goals (with_reducible rfl))
          try simp only [Act.put, List.setIfInBounds_toArray, List.set_cons_zero, List.set_cons_succ]
          refine held_take (i := 17) (d := 34) (v := ?_) rfl rfl (by kernel_rfl) (by kernel_rfl) (by kernel_rfl) (fun _ _ _ h => h) (Or.inl ⟨by rfl, ?_⟩) hHeld ?_
          rotate_left
          · (intro w hSw; (try dsimp only at hSw); go_simp; all_goals (with_reducible rfl))
          try simp only [Act.put, List.setIfInBounds_toArray, List.set_cons_zero, List.set_cons_succ]
          refine held_take (i := 18) (d := 35) (v := ?_) rfl rfl (by kernel_rfl) (by kernel_rfl) (by kernel_rfl) (fun _ _ _ h => h) (Or.inl ⟨by rfl, ?_⟩) hHeld ?_
          rotate_left
          · (intro w hSw; (try dsimp only at hSw); go_simp; all_goals (with_reducible rfl))
          try simp only [Act.put, List.setIfInBounds_toArray, List.set_cons_zero, List.set_cons_succ]
          refine wpAnyH_ready (rs := [10]) (by kernel_rfl) (by simp) ?_
          refine AllReadyH.cons rfl (fun K hK => ?_) AllReadyH.nil
          go_simp
          refine (less_any r0 r1 n0 n1 _).mono ?_
          rintro e u3 ⟨rfl, hu3⟩
          replace hu3 : Below w9.heap.size w9 u3 := hu2.trans (hu3.mono hu2.size)
          rw [h12]
          go_wp2_with fail
          refine hK.out _ _ ?_ (fun hHeld => ?_)
          · exact HT.out _ hu3
          clear hK K
          try simp only [Act.put, List.setIfInBounds_toArray, List.set_cons_zero, List.set_cons_succ]
          refine held_take (i := 11) (d := 28) (v := ?_) rfl rfl (by kernel_rfl) (by kernel_rfl) (by kernel_rfl) (fun _ _ _ h => h) (Or.inl ⟨by rfl, ?_⟩) hHeld ?_
          rotate_left
          · (intro w hSw; (try dsimp only at hSw); go_simp; all_goals (with_reducible rfl))
          try simp only [Act.put, List.setIfInBounds_toArray, List.set_cons_zero, List.set_cons_succ]
          refine held_take (i := 12) (d := 29) (v := undef) rfl rfl (by kernel_rfl) (by kernel_rfl) (by kernel_rfl) (fun _ _ _ h => h) (Or.inr ⟨by rfl, rfl⟩) hHeld ?_
          try simp only [Act.put, List.setIfInBounds_toArray, List.set_cons_zero, List.set_cons_succ]
          refine held_take (i := 13) (d := 30) (v := undef) rfl rfl (by kernel_rfl) (by kernel_rfl) (by kernel_rfl) (fun _ _ _ h => h) (Or.inr ⟨by rfl, rfl⟩) hHeld ?_
          try simp only [Act.put, List.setIfInBounds_toArray, List.set_cons_zero, List.set_cons_succ]
          refine held_take (i := 14) (d := 31) (v := undef) rfl rfl (by kernel_rfl) (by kernel_rfl) (by kernel_rfl) (fun _ _ _ h => h) (Or.inr ⟨by rfl, rfl⟩) hHeld ?_
          try simp only [Act.put, List.setIfInBounds_toArray, List.set_cons_zero, List.set_cons_succ]
          refine held_take (i := 15) (d := 32) (v := ?_) rfl rfl (by kernel_rfl) (by kernel_rfl) (by kernel_rfl) (fun _ _ _ h => h) (Or.inl ⟨by rfl, ?_⟩) hHeld ?_
          rotate_left
          · (intro w hSw; (try dsimp only at hSw); go_simp; all_goals (with_reducible rfl))
          try simp only [Act.put, List.setIfInBounds_toArray, List.set_cons_zero, List.set_cons_succ]
          refine held_take (i := 19) (d := 36) (v := ?_) rfl rfl (by kernel_rfl) (by kernel_rfl) (by kernel_rfl) (fun _ _ _ h => h) (Or.inl ⟨by rfl, ?_⟩) hHeld ?_
          rotate_left
          · (intro w hSw; (try dsimp only at hSw); go_simp; all_goals (with_reducible rfl))
          try simp only [Act.put, List.setIfInBounds_toArray, List.set_cons_zero, List.set_cons_succ]
          refine held_take (i := 20) (d := 37) (v := ?_) rfl rfl (by kernel_rfl) (by kernel_rfl) (by kernel_rfl) (fun _ _ _ h => h) (Or.inl ⟨by rfl, ?_⟩) hHeld ?_
          rotate_left
          · (intro w hSw; (try dsimp only at hSw); go_simp; all_goals (with_reducible rfl))
          try simp only [Act.put, List.setIfInBounds_toArray, List.set_cons_zero, List.set_cons_succ]
          refine held_take (i := 21) (d := 38) (v := ?_) rfl rfl (by kernel_rfl) (by kernel_rfl) (by kernel_rfl) (fun _ _ _ h => h) (Or.inl ⟨by rfl, ?_⟩) hHeld ?_
          rotate_left
          · (intro w hSw; (try dsimp only at hSw); go_simp; all_goals (with_reducible rfl))
          try simp only [Act.put, List.setIfInBounds_toArray, List.set_cons_zero, List.set_cons_succ]
          refine held_take (i := 22) (d := 39) (v := ?_) rfl rfl (by kernel_rfl) (by kernel_rfl) (by kernel_rfl) (fun _ _ _ h => h) (Or.inl ⟨by rfl, ?_⟩) hHeld ?_
          rotate_left
          · (intro w hSw; (try dsimp only at hSw); go_simp; all_goals (with_reducible rfl))
          try simp only [Act.put, List.setIfInBounds_toArray, List.set_cons_zero, List.set_cons_succ]
          refine held_take (i := 23) (d := 40) (v := ?_) rfl rfl (by kernel_rfl) (by kernel_rfl) (by kernel_rfl) (fun _ _ _ h => h) (Or.inl ⟨by rfl, ?_⟩) hHeld ?_
          rotate_left
          · (intro w hSw; (try dsimp only at hSw); go_simp; all_goals (with_reducible rfl))
          try simp only [Act.put, List.setIfInBounds_toArray, List.set_cons_zero, List.set_cons_succ]
          refine wpAnyH_ready (rs := [24]) (by kernel_rfl) (by simp) ?_
          refine AllReadyH.cons rfl (fun K hK => ?_) AllReadyH.nil
          go_simp
          refine (less_any r0 r1 n0 n1 _).mono ?_
          rintro e u4 ⟨rfl, hu4⟩
          replace hu4 : Below w9.heap.size w9 u4 := hu3.trans (hu4.mono hu3.size)
          rw [h12]
          go_wp2_with fail
          refine hK.out _ _ ?_ (fun hHeld => ?_)
          · exact HT.out _ hu4
          clear hK K
          try simp only [Act.put, List.setIfInBounds_toArray, List.set_cons_zero, List.set_cons_succ]
          refine held_take (i := 25) (d := 42) (v := ?_) rfl rfl (by kernel_rfl) (by kernel_rfl) (by kernel_rfl) (fun _ _ _ h => h) (Or.inl ⟨by rfl, ?_⟩) hHeld ?_
          rotate_left
          · (intro w hSw; (try dsimp only at hSw); go_simp; all_goals (with_reducible rfl))
          try simp only [Act.put, List.setIfInBounds_toArray, List.set_cons_zero, List.set_cons_succ]
          refine held_take (i := 26) (d := 43) (v := ?_) rfl rfl (by kernel_rfl) (by kernel_rfl) (by kernel_rfl) (fun _ _ _ h => h) (Or.inl ⟨by rfl, ?_⟩) hHeld ?_
          rotate_left
          · (intro w hSw; (try dsimp only at hSw); go_simp; all_goals (with_reducible rfl))
          try simp only [Act.put, List.setIfInBounds_toArray, List.set_cons_zero, List.set_cons_succ]
          refine held_take (i := 27) (d := 44) (v := ?_) rfl rfl (by kernel_rfl) (by kernel_rfl) (by kernel_rfl) (fun _ _ _ h => h) (Or.inl ⟨by rfl, ?_⟩) hHeld ?_
          rotate_left
          · (intro w hSw; (try dsimp only at hSw); go_simp; all_goals (with_reducible rfl))
          try simp only [Act.put, List.setIfInBounds_toArray, List.set_cons_zero, List.set_cons_succ]
          refine wpAnyH_ready (rs := [28]) (by kernel_rfl) (by simp) ?_
          refine AllReadyH.cons rfl (fun K hK => ?_) AllReadyH.nil
          go_simp
          refine (less_any r1 r2 n1 n2 _).mono ?_
          rintro e u5 ⟨rfl, hu5⟩
          replace hu5 : Below w9.heap.size w9 u5 := hu4.trans (hu5.mono hu4.size)
          rw [h23]
          go_wp2_with fail
          refine hK.out _ _ ?_ (fun hHeld => ?_)
          · exact HT.out _ hu5
          clear hK K
          try simp only [Act.put, List.setIfInBounds_toArray, List.set_cons_zero, List.set_cons_succ]
          refine held_take (i := 29) (d := 46) (v := ?_) rfl rfl (by kernel_rfl) (by kernel_rfl) (by kernel_rfl) (fun _ _ _ h => h) (Or.inl ⟨by rfl, ?_⟩) hHeld ?_
          rotate_left
          · (intro w hSw; (try dsimp only at hSw); go_simp; all_goals (with_reducible rfl))
          try simp only [Act.put, List.setIfInBounds_toArray, List.set_cons_zero, List.set_cons_succ]
          refine held_take (i := 30) (d := 47) (v := ?_) rfl rfl (by kernel_rfl) (by kernel_rfl) (by kernel_rfl) (fun _ _ _ h => h) (Or.inl ⟨by rfl, ?_⟩) hHeld ?_
          rotate_left
          · (intro w hSw; (try dsimp only at hSw); go_simp; all_goals (with_reducible rfl))
          try simp only [Act.put, List.setIfInBounds_toArray, List.set_cons_zero, List.set_cons_succ]
          refine held_take (i := 31) (d := 48) (v := ?_) rfl rfl (by kernel_rfl) (by kernel_rfl) (by kernel_rfl) (fun _ _ _ h => h) (Or.inl ⟨by rfl, ?_⟩) hHeld ?_
          rotate_left
          · (intro w hSw; (try dsimp only at hSw); go_simp; all_goals (with_reducible rfl))
          try simp only [Act.put, List.setIfInBounds_toArray, List.set_cons_zero, List.set_cons_succ]
          refine held_take (i := 32) (d := 49) (v := ?_) rfl rfl (by kernel_rfl) (by kernel_rfl) (by kernel_rfl) (fun _ _ _ h => h) (Or.inl ⟨by rfl, ?_⟩) hHeld ?_
          rotate_left
          · (intro w hSw; (try dsimp only at hSw); go_simp; all_goals (with_reducible rfl))
          try simp only [Act.put, List.setIfInBounds_toArray, List.set_cons_zero, List.set_cons_succ]
          refine wpAnyH_ready (rs := [33]) (by kernel_rfl) (by simp) ?_
          refine AllReadyH.cons rfl (fun K hK => ?_) AllReadyH.nil
          go_simp
          refine (less_any r0 r2 n0 n2 _).mono ?_
          rintro e u6 ⟨rfl, hu6⟩
          replace hu6 : Below w9.heap.size w9 u6 := hu5.trans (hu6.mono hu5.size)
          rw [h13]
          go_wp2_with fail
          refine hK.out _ _ ?_ (fun hHeld => ?_)
          · exact HT.out _ hu6
          clear hK K
          try simp only [Act.put, List.setIfInBounds_toArray, List.set_cons_zero, List.set_cons_succ]
          refine held_take (i := 34) (d := 51) (v := ?_) rfl rfl (by kernel_rfl) (by kernel_rfl) (by kernel_rfl) (fun _ _ _ h => h) (Or.inl ⟨by rfl, ?_⟩) hHeld ?_
          rotate_left
          · (intro w hSw; (try dsimp only at hSw); go_simp; all_goals (with_reducible rfl))
          try simp only [Act.put, List.setIfInBounds_toArray, List.set_cons_zero, List.set_cons_succ]
          refine held_take (i := 35) (d := 52) (v := ?_) rfl rfl (by kernel_rfl) (by kernel_rfl) (by kernel_rfl) (fun _ _ _ h => h) (Or.inl ⟨by rfl, ?_⟩) hHeld ?_
          rotate_left
          · (intro w hSw; (try dsimp only at hSw); go_simp; all_goals (with_reducible rfl))
          try simp only [Act.put, List.setIfInBounds_toArray, List.set_cons_zero, List.set_cons_succ]
          refine held_take (i := 36) (d := 53) (v := ?_) rfl rfl (by kernel_rfl) (by kernel_rfl) (by kernel_rfl) (fun _ _ _ h => h) (Or.inl ⟨by rfl, ?_⟩) hHeld ?_
          rotate_left
          · (intro w hSw; (try dsimp only at hSw); go_simp; all_goals (with_reducible rfl))
          try simp only [Act.put, List.setIfInBounds_toArray, List.set_cons_zero, List.set_cons_succ]
          refine wpAnyH_done (by kernel_rfl) ?_ _
          refine NoPanic.normal ?_
          have HBu : Hid (Below w.heap.size w u6) := HB9.out.trans (hu6.mono HB9.out.size)
          obtain ⟨-, q00, q01, q10, q11, x70, x71, x80, x81, -, -⟩ := hHeld
          clear hne HNE
          have z0 : w.heap.size < u6.heap.size := World.block_lt_of_cell? _ _ q00
          have z1 : w.heap.size + 1 < u6.heap.size := World.block_lt_of_cell? _ _ q10
          have z7 : p7 < u6.heap.size := World.block_lt_of_cell? _ _ x70
          have z8 : p8 < u6.heap.size := World.block_lt_of_cell? _ _ x80
          go_wp2_with fail
          refine (ref_less_any r0 r1 n0 n1 _).mono ?_
          rintro e y1 ⟨rfl, hy1⟩
          rw [h12]
          obtain ⟨Y, hY⟩ : ∃ Y, Y = u6.alloc (.cells #[.int .u64 (r0 : Nat), .int .i64 n0] 24) := ⟨_, rfl⟩
          rw [← hY] at hy1
          have HBY : Hid (Below w.heap.size w y1) := by
            have h1 : Below w.heap.size w Y := by rw [hY]; exact HBu.out.alloc HBu.out.size _
            exact h1.trans (hy1.mono h1.size)
          have hYs : Y.heap.size = u6.heap.size + 1 := by rw [hY]; simp
          have hYb : Below u6.heap.size u6 Y := by rw [hY]; exact (Below.refl _ _).alloc (Nat.le_refl _) _
          have hm : y1.heap[u6.heap.size]? = some (.cells #[.int .u64 (r0 : Nat), .int .i64 n0] 24 (0, 0)) := by
            rw [hy1.block _ (by omega), hY]
            show (u6.heap.push _)[u6.heap.size]? = _
            simp
          have w10 := cell_later hy1 (cell_later hYb q10)
          have w11 := cell_later hy1 (cell_later hYb q11)
          have w70 := cell_later hy1 (cell_later hYb x70)
          have w71 := cell_later hy1 (cell_later hYb x71)
          have w80 := cell_later hy1 (cell_later hYb x80)
          have w81 := cell_later hy1 (cell_later hYb x81)
          clear hy1 hYb hYs hY q00 q01 q10 q11 x70 x71 x80 x81 Y HBu
          generalize u6.heap.size = pm at *
          have m0 : y1.cell? ⟨pm, 0, none⟩ = some (.int .u64 (r0 : Nat)) := cell_of_heap hm rfl
          have m1 : y1.cell? ⟨pm, 1, none⟩ = some (.int .i64 n0) := cell_of_heap hm rfl
          have k0 : y1.frozen? ⟨pm, 0, none⟩ = false := frozen_of_row y1 _ _ _ _ hm
          have k1 : y1.frozen? ⟨pm, 1, none⟩ = false := frozen_of_row y1 _ _ _ _ hm
          have HM : Hid (y1.heap[pm]? = some (.cells #[.int .u64 (r0 : Nat), .int .i64 n0] 24 (0, 0))) := hm
          clear hm
          go_wp2_with fail
          obtain ⟨y2, hy2⟩ : ∃ y2, y2 = (y1.setCell ⟨pm, 0, none⟩ (.int .u64 (r1 : Nat))).setCell ⟨pm, 1, none⟩ (.int .i64 n1) := ⟨_, rfl⟩
          rw [← hy2]
          have far : ∀ (q j : Nat) (u : Value), q < pm → y1.cell? ⟨q, j, none⟩ = some u → y2.cell? ⟨q, j, none⟩ = some u := fun q j u hq h => by
            rw [hy2, World.cell?_setCell_far _ _ _ _ (by simp; omega), World.cell?_setCell_far _ _ _ _ (by simp; omega)]
            exact h
          replace HBY : Hid (Below w.heap.size w y2) := by rw [hy2]; exact (HBY.out.setCell (p := ⟨pm, 0, none⟩) (by simp; omega) _).setCell (p := ⟨pm, 1, none⟩) (by simp; omega) _
          have hm2 : y2.heap[pm]? = some (.cells #[.int .u64 (r1 : Nat), .int .i64 n1] 24 (0, 0)) := by rw [hy2]; exact two_same HM.out
          replace m0 : y2.cell? ⟨pm, 0, none⟩ = some (.int .u64 (r1 : Nat)) := cell_of_heap hm2 rfl
          replace m1 : y2.cell? ⟨pm, 1, none⟩ = some (.int .i64 n1) := cell_of_heap hm2 rfl
          replace w70 := far _ _ _ z7 w70
          replace w71 := far _ _ _ z7 w71
          replace w80 := far _ _ _ z8 w80
          replace w81 := far _ _ _ z8 w81
          clear hm2 hy2 far
          have HU : Hid (∀ w', Below y2.heap.size y2 w' → Below y2.heap.size y2 w' ∧ w'.cell? ⟨p7, 0, none⟩ = some (.int .u64 (r0 : Nat)) ∧ w'.cell? ⟨p7, 1, none⟩ = some (.int .i64 n0) ∧ w'.cell? ⟨p8, 0, none⟩ = some (.int .u64 (r1 : Nat)) ∧ w'.cell? ⟨p8, 1, none⟩ = some (.int .i64 n1) ∧ w'.cell? ⟨pm, 0, none⟩ = some (.int .u64 (r1 : Nat)) ∧ w'.cell? ⟨pm, 1, none⟩ = some (.int .i64 n1)) := fun w' hb => ⟨hb, cell_later hb w70, cell_later hb w71, cell_later hb w80, cell_later hb w81, cell_later hb m0, cell_later hb m1⟩
          clear w10 w11 w70 w71 w80 w81 m0 m1 k0 k1 HM z0 z1 z7 z8 HT HB9 hd9
          have heqs : ∀ w, (binOp .eql 24 (bal r1 n1) (bal r1 n1)).run Try.prog w = .ok (.bool true) w := eql_same r1 n1
          have hd2 : Below y2.heap.size y2 y2.drew := (Below.refl _ _).drew
          refine wp_region_noPanic ?_
          refine wp_region_held_drew (S := (fun w' => Below y2.heap.size y2 w' ∧ w'.cell? ⟨p7, 0, none⟩ = some (.int .u64 (r0 : Nat)) ∧ w'.cell? ⟨p7, 1, none⟩ = some (.int .i64 n0) ∧ w'.cell? ⟨p8, 0, none⟩ = some (.int .u64 (r1 : Nat)) ∧ w'.cell? ⟨p8, 1, none⟩ = some (.int .i64 n1) ∧ w'.cell? ⟨pm, 0, none⟩ = some (.int .u64 (r1 : Nat)) ∧ w'.cell? ⟨pm, 1, none⟩ = some (.int .i64 n1))) (by kernel_rfl) ?_ (fun hHeld => ?_)
          · exact HU.out _ hd2
          refine held_take (i := 0) (d := 59) (v := ?_) rfl rfl (by kernel_rfl) (by kernel_rfl) (by kernel_rfl) (fun _ _ _ h => h) (Or.inl ⟨by rfl, ?_⟩) hHeld ?_
          rotate_left
          · (intro w hSw; (try dsimp only at hSw); go_simp; all_goals (with_reducible rfl))
          try simp only [Act.put, List.setIfInBounds_toArray, List.set_cons_zero, List.set_cons_succ]
          refine held_take (i := 1) (d := 60) (v := ?_) rfl rfl (by kernel_rfl) (by kernel_rfl) (by kernel_rfl) (fun _ _ _ h => h) (Or.inl ⟨by rfl, ?_⟩) hHeld ?_
          rotate_left
          · (intro w hSw; (try dsimp only at hSw); go_simp; all_goals (with_reducible rfl))
          try simp only [Act.put, List.setIfInBounds_toArray, List.set_cons_zero, List.set_cons_succ]
          refine held_take (i := 4) (d := 63) (v := ?_) rfl rfl (by kernel_rfl) (by kernel_rfl) (by kernel_rfl) (fun _ _ _ h => h) (Or.inl ⟨by rfl, ?_⟩) hHeld ?_
          rotate_left
          · (intro w hSw; (try dsimp only at hSw); go_simp; all_goals (with_reducible rfl))
          try simp only [Act.put, List.setIfInBounds_toArray, List.set_cons_zero, List.set_cons_succ]
          refine wpAnyH_ready (rs := [2]) (by kernel_rfl) (by simp) ?_
          refine AllReadyH.cons rfl (fun K hK => ?_) AllReadyH.nil
          go_simp
          refine (HMX.out _).mono ?_
          rintro e t1 ⟨rfl, ht1⟩
          replace ht1 : Below y2.heap.size y2 t1 := hd2.trans (ht1.mono hd2.size)
          go_wp2_with fail
          refine hK.out _ _ ?_ (fun hHeld => ?_)
          · exact HU.out _ ht1
          clear hK K
          try simp only [Act.put, List.setIfInBounds_toArray, List.set_cons_zero, List.set_cons_succ]
          refine wpAnyH_ready (rs := [3]) (by kernel_rfl) (by simp) ?_
          refine AllReadyH.cons rfl (fun K hK => ?_) AllReadyH.nil
          go_simp
          refine (plain_any r1 n1 _).mono ?_
          rintro e t2 ⟨rfl, ht2⟩
          replace ht2 : Below y2.heap.size y2 t2 := ht1.trans (ht2.mono ht1.size)
          go_wp2_with fail
          refine hK.out _ _ ?_ (fun hHeld => ?_)
          · exact HU.out _ ht2
          clear hK K
          try simp only [Act.put, List.setIfInBounds_toArray, List.set_cons_zero, List.set_cons_succ]
          refine held_take (i := 5) (d := 64) (v := ?_) rfl rfl (by kernel_rfl) (by kernel_rfl) (by kernel_rfl) (fun _ _ _ h => h) (Or.inl ⟨by rfl, ?_⟩) hHeld ?_
          rotate_left
          · (intro w hSw; (try dsimp only at hSw); go_simp; all_goals (with_reducible rfl))
          try simp only [Act.put, List.setIfInBounds_toArray, List.set_cons_zero, List.set_cons_succ]
          refine held_take (i := 6) (d := 65) (v := ?_) rfl rfl (by kernel_rfl) (by kernel_rfl) (by kernel_rfl) (fun _ _ _ h => h) (Or.inl ⟨by rfl, ?_⟩) hHeld ?_
          rotate_left
          · (intro w hSw; (try dsimp only at hSw); go_simp; all_goals (with_reducible rfl))
          try simp only [Act.put, List.setIfInBounds_toArray, List.set_cons_zero, List.set_cons_succ]
          refine wpAnyH_ready (rs := [7]) (by kernel_rfl) (by simp) ?_
          refine AllReadyH.cons rfl (fun K hK => ?_) AllReadyH.nil
          go_simp
          refine (awake7_any _).mono ?_
          rintro e t3 ⟨rfl, ht3⟩
          subst t3
          go_wp2_with fail
          refine hK.out _ _ ?_ (fun hHeld => ?_)
          · exact HU.out _ ht2
          clear hK K
          try simp only [Act.put, List.setIfInBounds_toArray, List.set_cons_zero, List.set_cons_succ]
          refine held_take (i := 8) (d := 67) (v := ?_) rfl rfl (by kernel_rfl) (by kernel_rfl) (by kernel_rfl) (fun _ _ _ h => h) (Or.inl ⟨by rfl, ?_⟩) hHeld ?_
          rotate_left
          · (intro w hSw; (try dsimp only at hSw); go_simp; all_goals (with_reducible rfl))
          try simp only [Act.put, List.setIfInBounds_toArray, List.set_cons_zero, List.set_cons_succ]
          refine held_take (i := 9) (d := 6) (v := ?_) rfl rfl (by kernel_rfl) (by kernel_rfl) (by kernel_rfl) (fun _ _ _ h => h) (Or.inl ⟨by rfl, ?_⟩) hHeld ?_
          rotate_left
          · (intro w hSw; (try dsimp only at hSw); go_simp; all_goals (with_reducible rfl))
          try simp only [Act.put, List.setIfInBounds_toArray, List.set_cons_zero, List.set_cons_succ]
          refine wpAnyH_done (by kernel_rfl) ?_ _
          refine NoPanic.normal ?_
          go_wp2
          go_ret
          exact ⟨rfl, HBY.out.trans (ht2.mono HBY.out.size)⟩
  · right
    obtain ⟨m, rfl⟩ : ∃ m, n = m + 1 := by
      cases n with
      | zero => exfalso; revert hall hn; cases l1 <;> cases l3 <;> cases l5 <;> cases l6 <;> cases l7 <;> cases l8 <;> simp
      | succ m => exact ⟨m, rfl⟩
    refine ⟨m, rfl, ?_, ?_⟩
    · clear f1 f3 f5 f6 f7 f8 d67 d68 d78 hn
      revert l1 l3 l5 l6 l7 l8
      decide +kernel
    · intro i hi
      have hcase : (i = 1 ∧ l1 = false) ∨ (i = 3 ∧ l3 = false ∧ l1 = true) ∨ (i = 5 ∧ l5 = false ∧ l3 = true) ∨ (i = 6 ∧ l6 = false) ∨ (i = 7 ∧ l7 = false) ∨ (i = 8 ∧ l8 = false) := by
        refine of_decide_eq_true (List.all_eq_true.1 (?_ : List.all _ (fun i => decide ((i = 1 ∧ l1 = false) ∨ (i = 3 ∧ l3 = false ∧ l1 = true) ∨ (i = 5 ∧ l5 = false ∧ l3 = true) ∨ (i = 6 ∧ l6 = false) ∨ (i = 7 ∧ l7 = false) ∨ (i = 8 ∧ l8 = false))) = true) i hi)
        clear hi f1 f3 f5 f6 f7 f8 d67 d68 d78 hn
        revert l1 l3 l5 l6 l7 l8
        decide +kernel
      clear hi hall
      rcases hcase with ⟨rfl, rfl⟩ | ⟨rfl, rfl, rfl⟩ | ⟨rfl, rfl, rfl⟩ | ⟨rfl, rfl⟩ | ⟨rfl, rfl⟩ | ⟨rfl, rfl⟩
      · refine wpOp_shut rfl (fun K hK => ?_)
        go_simp
        refine (ours_any r0 n0 _).mono ?_
        rintro e w5 ⟨rfl, hb5⟩
        have hb6 := hbw.trans (hb5.mono hbw.size)
        go_wp2_with fail
        exact hK.out _ _ ⟨HS.out _ hb6, true, l3, l5, l6, l7, l8, v7, v8, v9, bal r0 n0, v14, v16, by simp only [Bool.toNat_true, Bool.toNat_false] at hn ⊢; omega, rfl, rfl, fun _ => rfl, o53, fun _ => rfl, f3, f5, f6.later hb5, f7.later hb5, f8.later hb5, d67, d68, d78, hb6⟩
      · obtain rfl := f1 rfl
        refine wpOp_shut rfl (fun K hK => ?_)
        go_simp
        refine (ours_any r1 n1 _).mono ?_
        rintro e w5 ⟨rfl, hb5⟩
        have hb6 := hbw.trans (hb5.mono hbw.size)
        go_wp2_with fail
        exact hK.out _ _ ⟨HS.out _ hb6, true, true, l5, l6, l7, l8, v7, v8, v9, bal r0 n0, bal r1 n1, v16, by simp only [Bool.toNat_true, Bool.toNat_false] at hn ⊢; omega, rfl, rfl, fun _ => rfl, fun _ => rfl, fun _ => rfl, fun _ => rfl, f5, f6.later hb5, f7.later hb5, f8.later hb5, d67, d68, d78, hb6⟩
      · obtain rfl := o31 rfl
        obtain rfl := f1 rfl
        obtain rfl := f3 rfl
        refine wpOp_shut rfl (fun K hK => ?_)
        go_simp
        refine (ours_any r2 n2 _).mono ?_
        rintro e w5 ⟨rfl, hb5⟩
        have hb6 := hbw.trans (hb5.mono hbw.size)
        go_wp2_with fail
        exact hK.out _ _ ⟨HS.out _ hb6, true, true, true, l6, l7, l8, v7, v8, v9, bal r0 n0, bal r1 n1, bal r2 n2, by simp only [Bool.toNat_true, Bool.toNat_false] at hn ⊢; omega, rfl, rfl, fun _ => rfl, fun _ => rfl, fun _ => rfl, fun _ => rfl, fun _ => rfl, f6.later hb5, f7.later hb5, f8.later hb5, d67, d68, d78, hb6⟩
      · have hb5 : Below w'.heap.size w' (w'.alloc (.cells #[.int .u64 0, .int .i64 0] 25 (0, 0))) := (Below.refl _ _).alloc (Nat.le_refl _) _
        have hb6 := hbw.trans (hb5.mono hbw.size)
        refine wpOp_shut rfl (fun K hK => ?_)
        go_simp
        exact hK.out _ _ ⟨HS.out _ hb6, l1, l3, l5, true, l7, l8, .pointer (some ⟨w'.heap.size, 0, none⟩), v8, v9, v12, v14, v16, by simp only [Bool.toNat_true, Bool.toNat_false] at hn ⊢; omega, rfl, rfl, o31, o53, f1, f3, f5, Blk.new _ _ _ _ hbw.size, f7.later hb5, f8.later hb5, fun _ h => (f7.apart h).symm, fun _ h => (f8.apart h).symm, d78, hb6⟩
      · have hb5 : Below w'.heap.size w' (w'.alloc (.cells #[.int .u64 0, .int .i64 0] 25 (0, 0))) := (Below.refl _ _).alloc (Nat.le_refl _) _
        have hb6 := hbw.trans (hb5.mono hbw.size)
        refine wpOp_shut rfl (fun K hK => ?_)
        go_simp
        exact hK.out _ _ ⟨HS.out _ hb6, l1, l3, l5, l6, true, l8, v7, .pointer (some ⟨w'.heap.size, 0, none⟩), v9, v12, v14, v16, by simp only [Bool.toNat_true, Bool.toNat_false] at hn ⊢; omega, rfl, rfl, o31, o53, f1, f3, f5, f6.later hb5, Blk.new _ _ _ _ hbw.size, f8.later hb5, fun h _ => f6.apart h, d68, fun _ h => (f8.apart h).symm, hb6⟩
      · have hb5 : Below w'.heap.size w' (w'.alloc (.cells #[.int .u64 0, .int .i64 0] 25 (0, 0))) := (Below.refl _ _).alloc (Nat.le_refl _) _
        have hb6 := hbw.trans (hb5.mono hbw.size)
        refine wpOp_shut rfl (fun K hK => ?_)
        go_simp
        exact hK.out _ _ ⟨HS.out _ hb6, l1, l3, l5, l6, l7, true, v7, v8, .pointer (some ⟨w'.heap.size, 0, none⟩), v12, v14, v16, by simp only [Bool.toNat_true, Bool.toNat_false] at hn ⊢; omega, rfl, rfl, o31, o53, f1, f3, f5, f6.later hb5, f7.later hb5, Blk.new _ _ _ _ hbw.size, d67, fun h _ => f6.apart h, fun h _ => f7.apart h, hb6⟩

/-! From the call to the statement. -/
set_option maxRecDepth 100000 in
theorem lifted (os : Os) (started : os.Started) (H : Type) (enc : TypeId × Value → H) :
    ReturnsInHanded {} Try.checked os 3 .any (Rows.ballotOrderSpec.pre6 enc Try.prog Try.f3 Rows.ballotOrderRow.domain false) (Rows.ballotOrderSpec.post enc Try.prog Try.f3 false true false false) := by
  refine returnsInHanded_of_change (C := Try.checked) own started (by kernel_rfl) Try.func3
    (ChangeSpec.witness6 (enc := enc) (C := Try.checked) false ⟨#[], #[.agg #[.int .u64 0, .int .i64 0], .agg #[.int .u64 0, .int .i64 0], .agg #[.int .u64 0, .int .i64 0]], []⟩ 8 (by kernel_rfl) (by kernel_rfl) (by kernel_rfl) (by kernel_rfl)) ?_
  intro W base args ds gs before hval0 hW hcnd _
  have hval : ∀ (j : Nat) t v, Try.f3.params[j]? = some t → args[j]? = some v → Value.okWide Try.prog W .any base t v := hval0
  have hW' := hW
  obtain ⟨p, q, hA0, hV, rfl, hfz, hnd⟩ := hW
  have hA : DataW.TrodAll enc Try.prog W 0 (fun _ => true) true Try.f3.params.toList args.toList ds p := hA0
  rw [Try.params3] at hA hval
  obtain ⟨v0, vs0, d0, ds0, p0, q0, hargs, rfl, rfl, h0, r0⟩ := trodAll_cons hA
  obtain ⟨v1, vs1, d1, ds1, p1, q1, rfl, rfl, rfl, h1, r1⟩ := trodAll_cons r0
  obtain ⟨v2, vs2, d2, ds2, p2, q2, rfl, rfl, rfl, h2, r2⟩ := trodAll_cons r1
  obtain ⟨rfl, rfl, rfl⟩ := trodAll_nil r2
  obtain rfl : args = #[v0, v1, v2] := by cases args; simp_all
  obtain ⟨rfl, rfl⟩ := trodVars_none hV
  have k0 := h0
  have lt0 : ∀ x ∈ p0, x.block < W.heap.size := by obtain ⟨m, hm⟩ := k0; exact DataW.trod_lt m _ _ _ hm
  obtain ⟨xr0, xn0, rfl, hr0, hn0⟩ := open_bal (hval 0 24 v0 rfl rfl) h0
  have k1 := h1
  have lt1 : ∀ x ∈ p1, x.block < W.heap.size := by obtain ⟨m, hm⟩ := k1; exact DataW.trod_lt m _ _ _ hm
  obtain ⟨xr1, xn1, rfl, hr1, hn1⟩ := open_bal (hval 1 24 v1 rfl rfl) h1
  have k2 := h2
  have lt2 : ∀ x ∈ p2, x.block < W.heap.size := by obtain ⟨m, hm⟩ := k2; exact DataW.trod_lt m _ _ _ hm
  obtain ⟨xr2, xn2, rfl, hr2, hn2⟩ := open_bal (hval 2 24 v2 rfl rfl) h2
  clear hA0 hval0
  refine (walk xr0 xn0 xr1 xn1 xr2 xn2 W hr0 hn0 hr1 hn1 hr2 hn2).mono fun e W' ⟨he, bel⟩ => ?_
  subst he
  exact ⟨_, rfl, _, _, _, [], _, [], hW', trodAll_mk1 (shut_bool Try.underlying4 _), (trodAll_cons_mk (Below.trod laidOut (by kernel_rfl) (of_decide_eq_true (by kernel_rfl)) k0 bel lt0) (trodAll_cons_mk (Below.trod laidOut (by kernel_rfl) (of_decide_eq_true (by kernel_rfl)) k1 bel lt1) (trodAll_cons_mk (Below.trod laidOut (by kernel_rfl) (of_decide_eq_true (by kernel_rfl)) k2 bel lt2) trodAll_mk0))), rfl, bel.frame _, fun h => by cases h⟩

theorem over : Rows.ballotOrderRow.holds Try.pinned (OpenSpec.ofChange Rows.ballotOrderSpec) :=
  OpenClaim.holds_of_wide 3 Try.f3 rfl rfl rfl rfl rfl rfl rfl ⟨rfl, rfl, rfl, rfl, rfl⟩ rfl rfl rfl rfl rfl (by kernel_rfl) Try.func3 (by kernel_rfl)
    (of_decide_eq_true (by kernel_rfl)) (by unfold Func.isWrapper; first | (rw [if_pos (by decide +kernel)]; kernel_rfl) | (rw [if_neg (by decide +kernel)]; exact ⟨rfl, rfl⟩))
    (fun os started H enc _ => lifted os started H enc)
end Go.Proofs.Ytbikepmnjgcgkaa.ballotOrder
namespace Go.Proofs.Ytbikepmnjgcgkaa
theorem ballotOrder_holds : Rows.BallotOrderSaid := ballotOrder.over
#print axioms ballotOrder_holds
end Go.Proofs.Ytbikepmnjgcgkaa
