/-
  A ballot's bytes are as the chapter says, and read as it was, if its node is a master: the law BallotBytes returns true at any ballot and any bytes, and changes neither. No condition.
-/
import Derived.Test.YtbikepmnjgcgkaaRows
import Derived.Test.YtbikepmnjgcgkaaBlD
import Derived.Test.YtbikepmnjgcgkaaBlF
import Derived.Test.YtbikepmnjgcgkaaBlH
import Derived.Test.YtbikepmnjgcgkaaReg
import Derived.WalkKit
import Derived.ProofKit
import Derived.OpenShut
import Derived.ShutString
import Derived.ChangeOld
import Derived.Below
namespace Go.Proofs.Ytbikepmnjgcgkaa.ballotBytes
open Go.ChangeShapes Go.WideShapes Go.ChangeAt Go.RowKit
open Go.ChangeMaps (open_string shut_string)
set_option linter.unusedSimpArgs false
set_option linter.unusedVariables false

theorem own : ownKnob Try.prog.godebug = none := by kernel_rfl
theorem laidOut : laidOutB Try.prog = true := by kernel_rfl

/-! The law returns true, and writes nothing that was there. -/
set_option maxRecDepth 100000 in
set_option maxHeartbeats 40000000 in
theorem walk (r0 : Nat) (n0 : Int) (a1 : Option Addr) (len1 cap1 : Nat) (z1 : List Int) (w : World) (hr0 : r0 < 18446744073709551616) (hn0 : (Lit.int .i64 n0).wf = true) (w1 : IsRow .u8 w a1 len1 cap1 z1) :
    Calls Try.prog 5 #[bal r0 n0, .slice a1 len1 cap1] w fun e w' => e = .returned (.bool true) ∧ Below w.heap.size w w' := by
  have hb0 : Below w.heap.size w (w.alloc (.cells #[.int .u64 (r0 : Nat), .int .i64 n0] 24)) := (Below.refl _ _).alloc (Nat.le_refl _) _
  have f1 := w1.facts
  clear hn0
  have HAB : Hid (∀ x, a1 = some x → 0 < min len1 60 → x.block < w.heap.size) := fun x hx h0 => by
    obtain ⟨b, off, hb, hcc⟩ := (w1.row (min len1 60) (Nat.min_le_left _ _)).at h0
    rw [hx] at hb
    simp only [Option.some.injEq] at hb
    subst hb
    exact World.block_lt_of_cell? _ _ (hcc 0 h0)
  by_cases hl : len1 ≤ 60
  · have rb := w1.row len1 (Nat.le_refl _)
    rw [Nat.min_eq_left hl] at HAB
    generalize firsts z1 len1 = bs at rb
    clear w1
    obtain ⟨m, hme⟩ : ∃ m, m = len1 := ⟨_, rfl⟩
    subst hme
    rcases (show (0 ≤ n0 ∧ n0 < 5) ∨ n0 < 0 ∨ (0 ≤ n0 ∧ 4 < n0) by omega) with hk | hk1 | ⟨hk1, hk2⟩
    · have k1 := hk.1
      have k2 := hk.2
      go_enter Try.func5, Try.ntmps5
      go_wp2_with fail
      refine (ours_any r0 n0 _).mono ?_
      rintro e w2 ⟨rfl, hb2⟩
      have hb2' := hb0.trans (hb2.mono hb0.size)
      have rb2 := rb.later hb2'
      go_wp2_with fail
      refine (bput_any _ m cap1 r0 n0 bs _ rb2 f1.2.2 (by omega) hr0).mono ?_
      rintro e w3 ⟨g3, N, rfl, rs3, hN, hb3⟩
      have hb3' := hb2'.trans (hb3.mono hb2'.size)
      have x30 : w3.cell? ⟨w.heap.size, 0, none⟩ = some (.int .u64 (r0 : Nat)) := cell_later hb3 (cell_later hb2 (by simp))
      have x31 : w3.cell? ⟨w.heap.size, 1, none⟩ = some (.int .i64 n0) := cell_later hb3 (cell_later hb2 (by simp))
      have hel : (enc r0 n0).length = N - m ∧ m < N := by
        have h1 := rs3.1
        have h2 := rb2.1
        have h3 := (Oct.putF_len 9 r0).1
        rw [List.length_append] at h1
        have h4 : (enc r0 n0).length = (Oct.putF 9 r0).length + (Oct.put (code n0)).length := by unfold enc; rw [List.length_append]; rfl
        omega
      have HG3 : Hid (g3 < w3.heap.size) := by
        obtain ⟨b, off, hb, hcc⟩ := rs3.at (by omega)
        simp only [Option.some.injEq, Addr.mk.injEq] at hb
        obtain ⟨rfl, _⟩ := hb
        exact World.block_lt_of_cell? _ _ (hcc 0 (by omega))
      have rd3 := rs3.drop m (by omega)
      rw [show List.drop m (bs ++ enc r0 n0) = enc r0 n0 by rw [← rb2.1, List.drop_left]] at rd3
      simp only [Nat.zero_add] at rd3
      have hNm : ¬ N = m := by omega
      have hmN : (m : Int) ≤ (N : Int) := by omega
      have hmN2 : ¬ (N : Int) < (m : Int) := by omega
      go_wp2_with fail
      refine (new_any _ (N - m) (N - m) _ _ rd3 (by simp) (by omega)).mono ?_
      rintro e w4 ⟨g4, rfl, rd4, hg4, hb4⟩
      have hb4' := hb3'.trans (hb4.mono hb3'.size)
      have x40 := cell_later hb4 x30
      have x41 := cell_later hb4 x31
      have rs4 := rs3.later hb4
      have rb4 := rb2.later (hb3.trans (hb4.mono hb3.size))
      have hx3 : w.heap.size < w3.heap.size := World.block_lt_of_cell? _ _ x30
      clear rs3 rd3 hb3 hb2 x30 x31 hel
      go_wp2_with fail
      refine (bread_any g4 _ _ rd4).mono ?_
      have hde := dec_enc r0 n0 hr0 []
      rw [List.append_nil] at hde
      rw [hde, if_pos hk]
      rintro e w5 ⟨rfl, rd5, ho5⟩
      clear hde
      have g3lt : g3 < w3.heap.size := HG3.out
      have rs5 := rs4.only ho5 (fun x hx _ => by simp at hx; subst hx; simp; omega)
      have rb5 := rb4.only ho5 (fun x hx h0 => by have := HAB.out x hx h0; omega)
      have x50 : w5.cell? ⟨w.heap.size, 0, none⟩ = some (.int .u64 (r0 : Nat)) := World.grownBy.cell ho5 x40 (by simp; omega)
      have x51 : w5.cell? ⟨w.heap.size, 1, none⟩ = some (.int .i64 n0) := World.grownBy.cell ho5 x41 (by simp; omega)
      have hb5' : Below w.heap.size w w5 := hb4'.trans (ho5.below (by omega) hb4'.size)
      clear rs4 rb4 x40 x41 ho5 hb4 hb4' rd4 rb2 hb3' hb2' hb0 rb
      go_wp2_with fail
      refine (plain_any r0 (n0) _).mono ?_
      rintro e w6 ⟨rfl, hb6⟩
      have rs6 := rs5.later hb6
      have rb6 := rb5.later hb6
      have rd6 := rd5.later hb6
      have x60 := cell_later hb6 x50
      have x61 := cell_later hb6 x51
      have hb6' := hb5'.trans (hb6.mono hb5'.size)
      have hx6 : w.heap.size < w6.heap.size := World.block_lt_of_cell? _ _ x60
      clear rs5 rb5 rd5 x50 x51 hb5' hb6
      go_upto_region 11 with fail
      obtain ⟨W, hW⟩ : ∃ W, W = (w6.alloc (.cells #[.int .u64 (r0 : Nat), .int .i64 n0] 24)).alloc (.cells #[.int .u64 (r0 : Nat), .int .i64 n0] 24) := ⟨_, rfl⟩
      rw [← hW]
      have hb7 : Below w6.heap.size w6 W := by rw [hW]; exact ((Below.refl _ _).alloc (Nat.le_refl _) _).alloc (by simp) _
      have q00 := cell_later hb7 x60
      have q01 := cell_later hb7 x61
      have q10 : W.cell? ⟨w6.heap.size, 0, none⟩ = some (.int .u64 (r0 : Nat)) := by rw [hW]; go_cell
      have q11 : W.cell? ⟨w6.heap.size, 1, none⟩ = some (.int .i64 n0) := by rw [hW]; go_cell
      have q20 : W.cell? ⟨w6.heap.size + 1, 0, none⟩ = some (.int .u64 (r0 : Nat)) := by rw [hW]; go_cell
      have q21 : W.cell? ⟨w6.heap.size + 1, 1, none⟩ = some (.int .i64 n0) := by rw [hW]; go_cell
      have rs7 := rs6.later hb7
      have rb7 := rb6.later hb7
      have rd7 := rd6.later hb7
      have HB7 : Hid (Below w.heap.size w W) := hb6'.trans (hb7.mono hb6'.size)
      have hsum : bs.length + (enc r0 n0).length = N := by have := rs7.1; rw [List.length_append] at this; exact this
      clear x60 x61 rs6 rb6 rd6 hb6' hb7 hW
      generalize w6.heap.size = yb at *
      have HS : Hid (∀ w', Below W.heap.size W w' → Below W.heap.size W w' ∧ w'.cell? ⟨w.heap.size, 0, none⟩ = some (.int .u64 (r0 : Nat)) ∧ w'.cell? ⟨w.heap.size, 1, none⟩ = some (.int .i64 n0) ∧ w'.cell? ⟨yb, 0, none⟩ = some (.int .u64 (r0 : Nat)) ∧ w'.cell? ⟨yb, 1, none⟩ = some (.int .i64 n0) ∧ w'.cell? ⟨yb + 1, 0, none⟩ = some (.int .u64 (r0 : Nat)) ∧ w'.cell? ⟨yb + 1, 1, none⟩ = some (.int .i64 n0) ∧ (convert 37 9 (.slice a1 m cap1)).run Try.prog w' = .ok (.string (str bs)) w' ∧ (convert 37 9 (.slice (some ⟨g3, 0, none⟩) N N)).run Try.prog w' = .ok (.string (str (bs ++ enc r0 n0))) w' ∧ Rd w' g4 (some [])) := fun w' hb => ⟨hb, cell_later hb q00, cell_later hb q01, cell_later hb q10, cell_later hb q11, cell_later hb q20, cell_later hb q21, conv_row (rb7.later hb) _, conv_row (rs7.later hb) _, rd7.later hb⟩
      have ha : ∀ w, (Op.stringOp .add (str bs) (str (enc r0 n0))).run Try.prog w = .ok (.string (str (bs ++ enc r0 n0))) w := fun w => add_str _ _ w (by omega)
      have hne : ∀ w, (binOp .neq 24 (bal r0 n0) (bal r0 n0)).run Try.prog w = .ok (.bool false) w := neq_same r0 n0
      clear q00 q01 q10 q11 q20 q21 rs7 rd7 hsum hx6
      have hd0 : Below W.heap.size W W.drew := (Below.refl _ _).drew
      refine wp_region_noPanic ?_
      refine wp_region_held_drew (S := (fun w' => Below W.heap.size W w' ∧ w'.cell? ⟨w.heap.size, 0, none⟩ = some (.int .u64 (r0 : Nat)) ∧ w'.cell? ⟨w.heap.size, 1, none⟩ = some (.int .i64 n0) ∧ w'.cell? ⟨yb, 0, none⟩ = some (.int .u64 (r0 : Nat)) ∧ w'.cell? ⟨yb, 1, none⟩ = some (.int .i64 n0) ∧ w'.cell? ⟨yb + 1, 0, none⟩ = some (.int .u64 (r0 : Nat)) ∧ w'.cell? ⟨yb + 1, 1, none⟩ = some (.int .i64 n0) ∧ (convert 37 9 (.slice a1 m cap1)).run Try.prog w' = .ok (.string (str bs)) w' ∧ (convert 37 9 (.slice (some ⟨g3, 0, none⟩) N N)).run Try.prog w' = .ok (.string (str (bs ++ enc r0 n0))) w' ∧ Rd w' g4 (some []))) (by kernel_rfl) ?_ (fun hHeld => ?_)
      · exact HS.out _ hd0
      refine held_take (i := 0) (d := 44) (v := ?_) rfl rfl (by kernel_rfl) (by kernel_rfl) (by kernel_rfl) (fun _ _ _ h => h) (Or.inl ⟨by rfl, ?_⟩) hHeld ?_
      rotate_left
      · (intro w hSw; (try dsimp only at hSw); go_simp; all_goals (with_reducible rfl))
      try simp only [Act.put, List.setIfInBounds_toArray, List.set_cons_zero, List.set_cons_succ]
      refine held_take (i := 1) (d := 45) (v := ?_) rfl rfl (by kernel_rfl) (by kernel_rfl) (by kernel_rfl) (fun _ _ _ h => h) (Or.inl ⟨by rfl, ?_⟩) hHeld ?_
      rotate_left
      · (intro w hSw; (try dsimp only at hSw); go_simp; all_goals (with_reducible rfl))
      try simp only [Act.put, List.setIfInBounds_toArray, List.set_cons_zero, List.set_cons_succ]
      refine held_take (i := 2) (d := 46) (v := ?_) rfl rfl (by kernel_rfl) (by kernel_rfl) (by kernel_rfl) (fun _ _ _ h => h) (Or.inl ⟨by rfl, ?_⟩) hHeld ?_
      rotate_left
      · (intro w hSw; (try dsimp only at hSw); go_simp; all_goals (with_reducible rfl))
      try simp only [Act.put, List.setIfInBounds_toArray, List.set_cons_zero, List.set_cons_succ]
      refine held_take (i := 3) (d := 47) (v := ?_) rfl rfl (by kernel_rfl) (by kernel_rfl) (by kernel_rfl) (fun _ _ _ h => h) (Or.inl ⟨by rfl, ?_⟩) hHeld ?_
      rotate_left
      · (intro w hSw; (try dsimp only at hSw); go_simp; all_goals (with_reducible rfl))
      try simp only [Act.put, List.setIfInBounds_toArray, List.set_cons_zero, List.set_cons_succ]
      refine held_take (i := 4) (d := 48) (v := ?_) rfl rfl (by kernel_rfl) (by kernel_rfl) (by kernel_rfl) (fun _ _ _ h => h) (Or.inl ⟨by rfl, ?_⟩) hHeld ?_
      rotate_left
      · (intro w hSw; (try dsimp only at hSw); go_simp; all_goals (with_reducible rfl))
      try simp only [Act.put, List.setIfInBounds_toArray, List.set_cons_zero, List.set_cons_succ]
      refine wpAnyH_ready (rs := [5]) (by kernel_rfl) (by simp) ?_
      refine AllReadyH.cons rfl (fun K hK => ?_) AllReadyH.nil
      go_simp
      refine (ref_bput_any r0 n0 _ hr0).mono ?_
      rintro e u1 ⟨a4, n4, cap4, rfl, r4, hu1⟩
      replace hu1 : Below W.heap.size W u1 := hd0.trans (hu1.mono hd0.size)
      go_wp2_with fail
      refine hK.out _ _ ?_ (fun hHeld => ?_)
      · exact HS.out _ hu1
      clear hK K
      try simp only [Act.put, List.setIfInBounds_toArray, List.set_cons_zero, List.set_cons_succ]
      have HS2 : Hid (∀ w', Below u1.heap.size u1 w' → (Below W.heap.size W w' ∧ w'.cell? ⟨w.heap.size, 0, none⟩ = some (.int .u64 (r0 : Nat)) ∧ w'.cell? ⟨w.heap.size, 1, none⟩ = some (.int .i64 n0) ∧ w'.cell? ⟨yb, 0, none⟩ = some (.int .u64 (r0 : Nat)) ∧ w'.cell? ⟨yb, 1, none⟩ = some (.int .i64 n0) ∧ w'.cell? ⟨yb + 1, 0, none⟩ = some (.int .u64 (r0 : Nat)) ∧ w'.cell? ⟨yb + 1, 1, none⟩ = some (.int .i64 n0) ∧ (convert 37 9 (.slice a1 m cap1)).run Try.prog w' = .ok (.string (str bs)) w' ∧ (convert 37 9 (.slice (some ⟨g3, 0, none⟩) N N)).run Try.prog w' = .ok (.string (str (bs ++ enc r0 n0))) w' ∧ Rd w' g4 (some [])) ∧ (convert 37 9 (.slice a4 n4 cap4)).run Try.prog w' = .ok (.string (str (enc r0 n0))) w') := fun w' hb => ⟨HS.out _ (hu1.trans (hb.mono hu1.size)), conv_row (r4.later hb) _⟩
      refine held_mono (S' := (fun w' => (Below W.heap.size W w' ∧ w'.cell? ⟨w.heap.size, 0, none⟩ = some (.int .u64 (r0 : Nat)) ∧ w'.cell? ⟨w.heap.size, 1, none⟩ = some (.int .i64 n0) ∧ w'.cell? ⟨yb, 0, none⟩ = some (.int .u64 (r0 : Nat)) ∧ w'.cell? ⟨yb, 1, none⟩ = some (.int .i64 n0) ∧ w'.cell? ⟨yb + 1, 0, none⟩ = some (.int .u64 (r0 : Nat)) ∧ w'.cell? ⟨yb + 1, 1, none⟩ = some (.int .i64 n0) ∧ (convert 37 9 (.slice a1 m cap1)).run Try.prog w' = .ok (.string (str bs)) w' ∧ (convert 37 9 (.slice (some ⟨g3, 0, none⟩) N N)).run Try.prog w' = .ok (.string (str (bs ++ enc r0 n0))) w' ∧ Rd w' g4 (some [])) ∧ (convert 37 9 (.slice a4 n4 cap4)).run Try.prog w' = .ok (.string (str (enc r0 n0))) w')) (fun _ h => h.1) _ _ _ _ ?_
      replace hHeld := HS2.out _ (Below.refl _ _)
      refine held_take (i := 6) (d := 50) (v := ?_) rfl rfl (by kernel_rfl) (by kernel_rfl) (by kernel_rfl) (fun _ _ _ h => h) (Or.inl ⟨by rfl, ?_⟩) hHeld ?_
      rotate_left
      · (intro w hSw; (try dsimp only at hSw); go_simp; all_goals (with_reducible rfl))
      try simp only [Act.put, List.setIfInBounds_toArray, List.set_cons_zero, List.set_cons_succ]
      refine held_take (i := 7) (d := 51) (v := ?_) rfl rfl (by kernel_rfl) (by kernel_rfl) (by kernel_rfl) (fun _ _ _ h => h) (Or.inl ⟨by rfl, ?_⟩) hHeld ?_
      rotate_left
      · (intro w hSw; (try dsimp only at hSw); go_simp; all_goals (with_reducible rfl))
      try simp only [Act.put, List.setIfInBounds_toArray, List.set_cons_zero, List.set_cons_succ]
      refine held_take (i := 8) (d := 52) (v := ?_) rfl rfl (by kernel_rfl) (by kernel_rfl) (by kernel_rfl) (fun _ _ _ h => h) (Or.inl ⟨by rfl, ?_⟩) hHeld ?_
      rotate_left
      · (intro w hSw; (try dsimp only at hSw); go_simp; all_goals (with_reducible rfl))
      try simp only [Act.put, List.setIfInBounds_toArray, List.set_cons_zero, List.set_cons_succ]
      refine held_take (i := 9) (d := 53) (v := ?_) rfl rfl (by kernel_rfl) (by kernel_rfl) (by kernel_rfl) (fun _ _ _ h => h) (Or.inl ⟨by rfl, ?_⟩) hHeld ?_
      rotate_left
      · (intro w hSw; (try dsimp only at hSw); go_simp; all_goals (with_reducible rfl))
      try simp only [Act.put, List.setIfInBounds_toArray, List.set_cons_zero, List.set_cons_succ]
      refine held_take (i := 10) (d := 54) (v := ?_) rfl rfl (by kernel_rfl) (by kernel_rfl) (by kernel_rfl) (fun _ _ _ h => h) (Or.inl ⟨by rfl, ?_⟩) hHeld ?_
      rotate_left
      · (intro w hSw; (try dsimp only at hSw); go_simp; all_goals (with_reducible rfl))
      try simp only [Act.put, List.setIfInBounds_toArray, List.set_cons_zero, List.set_cons_succ]
      refine held_take (i := 11) (d := 55) (v := ?_) rfl rfl (by kernel_rfl) (by kernel_rfl) (by kernel_rfl) (fun _ _ _ h => h) (Or.inl ⟨by rfl, ?_⟩) hHeld ?_
      rotate_left
      · (intro w hSw; (try dsimp only at hSw); go_simp; all_goals (with_reducible rfl))
      try simp only [Act.put, List.setIfInBounds_toArray, List.set_cons_zero, List.set_cons_succ]
      refine held_take (i := 12) (d := 56) (v := ?_) rfl rfl (by kernel_rfl) (by kernel_rfl) (by kernel_rfl) (fun _ _ _ h => h) (Or.inl ⟨by rfl, ?_⟩) hHeld ?_
      rotate_left
      · (intro w hSw; (try dsimp only at hSw); go_simp; all_goals (with_reducible rfl))
      try simp only [Act.put, List.setIfInBounds_toArray, List.set_cons_zero, List.set_cons_succ]
      refine held_take (i := 13) (d := 57) (v := ?_) rfl rfl (by kernel_rfl) (by kernel_rfl) (by kernel_rfl) (fun _ _ _ h => h) (Or.inl ⟨by rfl, ?_⟩) hHeld ?_
      rotate_left
      · (intro w hSw; (try dsimp only at hSw); go_simp; all_goals (with_reducible rfl))
      try simp only [Act.put, List.setIfInBounds_toArray, List.set_cons_zero, List.set_cons_succ]
      refine held_take (i := 14) (d := 58) (v := ?_) rfl rfl (by kernel_rfl) (by kernel_rfl) (by kernel_rfl) (fun _ _ _ h => h) (Or.inl ⟨by rfl, ?_⟩) hHeld ?_
      rotate_left
      · (intro w hSw; (try dsimp only at hSw); go_simp; all_goals (with_reducible rfl))
      try simp only [Act.put, List.setIfInBounds_toArray, List.set_cons_zero, List.set_cons_succ]
      refine held_take (i := 15) (d := 59) (v := ?_) rfl rfl (by kernel_rfl) (by kernel_rfl) (by kernel_rfl) (fun _ _ _ h => h) (Or.inl ⟨by rfl, ?_⟩) hHeld ?_
      rotate_left
      · (intro w hSw; (try dsimp only at hSw); go_simp; all_goals (with_reducible rfl))
      try simp only [Act.put, List.setIfInBounds_toArray, List.set_cons_zero, List.set_cons_succ]
      refine wpAnyH_ready (rs := [16]) (by kernel_rfl) (by simp) ?_
      refine AllReadyH.cons rfl (fun K hK => ?_) AllReadyH.nil
      go_simp
      refine (done_any g4 _ _ hHeld.1.2.2.2.2.2.2.2.2.2).mono ?_
      rintro e u2 ⟨rfl, hu2⟩
      subst u2
      rw [show ((some [] : Option (List Nat)) == some []) = true from rfl]
      go_wp2_with fail
      refine hK.out _ _ ?_ (fun hHeld => ?_)
      · exact HS2.out _ (Below.refl _ _)
      clear hK K
      try simp only [Act.put, List.setIfInBounds_toArray, List.set_cons_zero, List.set_cons_succ]
      refine held_take (i := 17) (d := 61) (v := ?_) rfl rfl (by kernel_rfl) (by kernel_rfl) (by kernel_rfl) (fun _ _ _ h => h) (Or.inl ⟨by rfl, ?_⟩) hHeld ?_
      rotate_left
      · (intro w hSw; (try dsimp only at hSw); go_simp; all_goals (with_reducible rfl))
      try simp only [Act.put, List.setIfInBounds_toArray, List.set_cons_zero, List.set_cons_succ]
      refine held_take (i := 18) (d := 62) (v := ?_) rfl rfl (by kernel_rfl) (by kernel_rfl) (by kernel_rfl) (fun _ _ _ h => h) (Or.inl ⟨by rfl, ?_⟩) hHeld ?_
      rotate_left
      · (intro w hSw; (try dsimp only at hSw); go_simp; all_goals (with_reducible rfl))
      try simp only [Act.put, List.setIfInBounds_toArray, List.set_cons_zero, List.set_cons_succ]
      refine wpAnyH_done (by kernel_rfl) ?_ _
      refine NoPanic.normal ?_
      have HBu : Hid (Below w.heap.size w u1) := HB7.out.trans (hu1.mono HB7.out.size)
      have rb8 : Row u1 a1 m bs := rb7.later hu1
      clear ha hne HS HS2 hHeld hd0 HB7 hu1 r4 rb7
      go_wp2_with fail
      have hws := HBu.out.size
      refine (new_any a1 m cap1 bs _ rb8 f1.2.2 (by omega)).mono ?_
      rintro e v1 ⟨gq, rfl, rd1, hgq, hv1⟩
      have rb9 := rb8.later hv1
      have hgl := rd1.lt
      have HB1 : Hid (Below w.heap.size w v1) := HBu.out.trans (hv1.mono HBu.out.size)
      obtain ⟨D, hD⟩ : ∃ D, D = dec (some bs) := ⟨_, rfl⟩
      have hv2 : Below v1.heap.size v1 (v1.alloc (.cells #[.slice a1 m cap1, .int .i64 0, .bool false] 45)) := (Below.refl _ _).alloc (Nat.le_refl _) _
      have rd2 := rd1.later hv2
      have rb10 := rb9.later hv2
      have rf2 : Rf (v1.alloc (.cells #[.slice a1 m cap1, .int .i64 0, .bool false] 45)) v1.heap.size a1 m cap1 bs (some bs) := ⟨0, Nat.zero_le _, by show (v1.heap.push _)[v1.heap.size]? = _; simp, by simp⟩
      have HB2 : Hid (Below w.heap.size w (v1.alloc (.cells #[.slice a1 m cap1, .int .i64 0, .bool false] 45))) := HB1.out.alloc HB1.out.size _
      clear hv1 rd1 rb8 rb9 hv2 HBu
      go_wp2_with fail
      refine (bread_any gq _ _ rd2).mono ?_
      rw [← hD]
      rintro e v3 ⟨rfl, rd3, ho3⟩
      have rf3 := rf2.only ho3 (by omega)
      have rb11 := rb10.only ho3 (fun x hx h0 => by have := HAB.out x hx h0; omega)
      have HB3 : Hid (Below w.heap.size w v3) := HB2.out.trans (ho3.below (by omega) HB2.out.size)
      have hpl : v1.heap.size < v3.heap.size := by have := ho3.size; simp at this; omega
      have hws1 := HB1.out.size
      clear rf2 rb10 ho3 HB1 HB2 rd2
      generalize v1.heap.size = pg at *
      obtain ⟨⟨d1, d2⟩, d3⟩ := D
      simp only at rd3
      go_wp2_with fail
      refine (plain_any d1 d2 _).mono ?_
      rintro e v4 ⟨rfl, hv4⟩
      have rf4 := rf3.later hv4
      have rb12 := rb11.later hv4
      have rd4 := rd3.later hv4
      have HB4 : Hid (Below w.heap.size w v4) := HB3.out.trans (hv4.mono HB3.out.size)
      have hpl4 : pg < v4.heap.size := by have := hv4.size; omega
      clear rf3 rb11 rd3 HB3 hv4
      go_wp2_with fail
      obtain ⟨V, hV⟩ : ∃ V, V = v4.alloc (.cells #[.int .u64 (d1 : Nat), .int .i64 d2] 24) := ⟨_, rfl⟩
      rw [← hV]
      have hv5 : Below v4.heap.size v4 V := by rw [hV]; exact (Below.refl _ _).alloc (Nat.le_refl _) _
      have z0 : V.cell? ⟨v4.heap.size, 0, none⟩ = some (.int .u64 (d1 : Nat)) := by rw [hV]; simp
      have z1 : V.cell? ⟨v4.heap.size, 1, none⟩ = some (.int .i64 d2) := by rw [hV]; simp
      have rf5 := rf4.later hv5
      have rb13 := rb12.later hv5
      have rd5 := rd4.later hv5
      have HBV : Hid (Below w.heap.size w V) := HB4.out.trans (hv5.mono HB4.out.size)
      clear rf4 rb12 rd4 HB4 hV hv5
      generalize v4.heap.size = zb at *
      have HS : Hid (∀ w', Only pg V w' → Only pg V w' ∧ w'.cell? ⟨zb, 0, none⟩ = some (.int .u64 (d1 : Nat)) ∧ w'.cell? ⟨zb, 1, none⟩ = some (.int .i64 d2) ∧ Rd w' gq d3) := fun w' ho => ⟨ho, World.grownBy.cell ho z0 (by simp; omega), World.grownBy.cell ho z1 (by simp; omega), rd5.only ho hgl⟩
      have HRD : Hid (∀ w', Below V.heap.size V w' → Calls Try.prog 23 #[.pointer (some ⟨pg, 0, none⟩)] w' fun e w'' => e = .returned (bal d1 d2) ∧ Rf w'' pg a1 m cap1 bs d3 ∧ Only pg w' w'') := fun w' hb => by
        have := ref_bread_any pg a1 m cap1 bs (some bs) w' (rf5.later hb) (rb13.later hb) (fun x hx h0 => by have := HAB.out x hx h0; omega) (by have := f1.1; omega) f1.2.1 (by omega)
        rw [← hD] at this
        exact this
      have heqs : ∀ w, (binOp .eql 24 (bal d1 d2) (bal d1 d2)).run Try.prog w = .ok (.bool true) w := eql_same d1 d2
      have hrl := rb13.1
      clear z0 z1 rd5 rf5 rb13 hD
      have hd1 : Below V.heap.size V V.drew := (Below.refl _ _).drew
      have hd0 : Only pg V V.drew := Below.only hd1
      refine wp_region_noPanic ?_
      refine wp_region_held_drew (S := (fun w' => Only pg V w' ∧ w'.cell? ⟨zb, 0, none⟩ = some (.int .u64 (d1 : Nat)) ∧ w'.cell? ⟨zb, 1, none⟩ = some (.int .i64 d2) ∧ Rd w' gq d3)) (by kernel_rfl) ?_ (fun hHeld => ?_)
      · exact HS.out _ hd0
      refine held_take (i := 0) (d := 71) (v := ?_) rfl rfl (by kernel_rfl) (by kernel_rfl) (by kernel_rfl) (fun _ _ _ h => h) (Or.inl ⟨by rfl, ?_⟩) hHeld ?_
      rotate_left
      · (intro w hSw; (try dsimp only at hSw); go_simp; all_goals (with_reducible rfl))
      try simp only [Act.put, List.setIfInBounds_toArray, List.set_cons_zero, List.set_cons_succ]
      refine held_take (i := 1) (d := 72) (v := ?_) rfl rfl (by kernel_rfl) (by kernel_rfl) (by kernel_rfl) (fun _ _ _ h => h) (Or.inl ⟨by rfl, ?_⟩) hHeld ?_
      rotate_left
      · (intro w hSw; (try dsimp only at hSw); go_simp; all_goals (with_reducible rfl))
      try simp only [Act.put, List.setIfInBounds_toArray, List.set_cons_zero, List.set_cons_succ]
      refine wpAnyH_ready (rs := [2]) (by kernel_rfl) (by simp) ?_
      refine AllReadyH.cons rfl (fun K hK => ?_) AllReadyH.nil
      go_simp
      refine (HRD.out _ hd1).mono ?_
      rintro e t1 ⟨rfl, rft, ht1⟩
      replace ht1 : Only pg V t1 := hd0.trans ht1
      go_wp2_with fail
      refine hK.out _ _ ?_ (fun hHeld => ?_)
      · exact HS.out _ ht1
      clear hK K
      try simp only [Act.put, List.setIfInBounds_toArray, List.set_cons_zero, List.set_cons_succ]
      have HS2 : Hid (∀ w', Below t1.heap.size t1 w' → (Only pg V w' ∧ w'.cell? ⟨zb, 0, none⟩ = some (.int .u64 (d1 : Nat)) ∧ w'.cell? ⟨zb, 1, none⟩ = some (.int .i64 d2) ∧ Rd w' gq d3) ∧ Rf w' pg a1 m cap1 bs d3 ∧ w'.cell? ⟨pg, 2, none⟩ = some (.bool d3.isNone)) := fun w' hb => ⟨HS.out _ (ht1.trans (Below.only hb)), rft.later hb, by obtain ⟨p, _, hh, _⟩ := rft.later hb; exact cell_of_heap hh rfl⟩
      refine held_mono (S' := (fun w' => (Only pg V w' ∧ w'.cell? ⟨zb, 0, none⟩ = some (.int .u64 (d1 : Nat)) ∧ w'.cell? ⟨zb, 1, none⟩ = some (.int .i64 d2) ∧ Rd w' gq d3) ∧ Rf w' pg a1 m cap1 bs d3 ∧ w'.cell? ⟨pg, 2, none⟩ = some (.bool d3.isNone))) (fun _ h => h.1) _ _ _ _ ?_
      replace hHeld := HS2.out _ (Below.refl _ _)
      refine held_take (i := 3) (d := 74) (v := ?_) rfl rfl (by kernel_rfl) (by kernel_rfl) (by kernel_rfl) (fun _ _ _ h => h) (Or.inl ⟨by rfl, ?_⟩) hHeld ?_
      rotate_left
      · (intro w hSw; (try dsimp only at hSw); go_simp; all_goals (with_reducible rfl))
      try simp only [Act.put, List.setIfInBounds_toArray, List.set_cons_zero, List.set_cons_succ]
      refine held_take (i := 4) (d := 75) (v := ?_) rfl rfl (by kernel_rfl) (by kernel_rfl) (by kernel_rfl) (fun _ _ _ h => h) (Or.inl ⟨by rfl, ?_⟩) hHeld ?_
      rotate_left
      · (intro w hSw; (try dsimp only at hSw); go_simp; all_goals (with_reducible rfl))
      try simp only [Act.put, List.setIfInBounds_toArray, List.set_cons_zero, List.set_cons_succ]
      refine held_take (i := 5) (d := 76) (v := ?_) rfl rfl (by kernel_rfl) (by kernel_rfl) (by kernel_rfl) (fun _ _ _ h => h) (Or.inl ⟨by rfl, ?_⟩) hHeld ?_
      rotate_left
      · (intro w hSw; (try dsimp only at hSw); go_simp; all_goals (with_reducible rfl))
      try simp only [Act.put, List.setIfInBounds_toArray, List.set_cons_zero, List.set_cons_succ]
      refine held_take (i := 7) (d := 78) (v := ?_) rfl rfl (by kernel_rfl) (by kernel_rfl) (by kernel_rfl) (fun _ _ _ h => h) (Or.inl ⟨by rfl, ?_⟩) hHeld ?_
      rotate_left
      · (intro w hSw; (try dsimp only at hSw); go_simp; all_goals (with_reducible rfl))
      try simp only [Act.put, List.setIfInBounds_toArray, List.set_cons_zero, List.set_cons_succ]
      refine held_take (i := 8) (d := 79) (v := ?_) rfl rfl (by kernel_rfl) (by kernel_rfl) (by kernel_rfl) (fun _ _ _ h => h) (Or.inl ⟨by rfl, ?_⟩) hHeld ?_
      rotate_left
      · (intro w hSw; (try dsimp only at hSw); go_simp; all_goals (with_reducible rfl))
      try simp only [Act.put, List.setIfInBounds_toArray, List.set_cons_zero, List.set_cons_succ]
      refine held_take (i := 9) (d := 80) (v := ?_) rfl rfl (by kernel_rfl) (by kernel_rfl) (by kernel_rfl) (fun _ _ _ h => h) (Or.inl ⟨by rfl, ?_⟩) hHeld ?_
      rotate_left
      · (intro w hSw; (try dsimp only at hSw); go_simp; all_goals (with_reducible rfl))
      try simp only [Act.put, List.setIfInBounds_toArray, List.set_cons_zero, List.set_cons_succ]
      refine held_take (i := 10) (d := 81) (v := ?_) rfl rfl (by kernel_rfl) (by kernel_rfl) (by kernel_rfl) (fun _ _ _ h => h) (Or.inl ⟨by rfl, ?_⟩) hHeld ?_
      rotate_left
      · (intro w hSw; (try dsimp only at hSw); go_simp; all_goals (with_reducible rfl))
      try simp only [Act.put, List.setIfInBounds_toArray, List.set_cons_zero, List.set_cons_succ]
      refine wpAnyH_ready (rs := [6]) (by kernel_rfl) (by simp) ?_
      refine AllReadyH.cons rfl (fun K hK => ?_) AllReadyH.nil
      go_simp
      refine (bad_any gq _ _ hHeld.1.2.2.2).mono ?_
      rintro e t2 ⟨rfl, hw⟩
      subst t2
      go_wp2_with fail
      refine hK.out _ _ ?_ (fun hHeld => ?_)
      · exact HS2.out _ (Below.refl _ _)
      clear hK K
      try simp only [Act.put, List.setIfInBounds_toArray, List.set_cons_zero, List.set_cons_succ]
      refine held_take (i := 11) (d := 82) (v := ?_) rfl rfl (by kernel_rfl) (by kernel_rfl) (by kernel_rfl) (fun _ _ _ h => h) (Or.inl ⟨by rfl, ?_⟩) hHeld ?_
      rotate_left
      · (intro w hSw; (try dsimp only at hSw); go_simp; all_goals (with_reducible rfl))
      try simp only [Act.put, List.setIfInBounds_toArray, List.set_cons_zero, List.set_cons_succ]
      refine held_take (i := 12) (d := 83) (v := ?_) rfl rfl (by kernel_rfl) (by kernel_rfl) (by kernel_rfl) (fun _ _ _ h => h) (Or.inl ⟨by rfl, ?_⟩) hHeld ?_
      rotate_left
      · (intro w hSw; (try dsimp only at hSw); go_simp; all_goals (with_reducible rfl))
      try simp only [Act.put, List.setIfInBounds_toArray, List.set_cons_zero, List.set_cons_succ]
      refine held_take (i := 13) (d := 84) (v := ?_) rfl rfl (by kernel_rfl) (by kernel_rfl) (by kernel_rfl) (fun _ _ _ h => h) (Or.inl ⟨by rfl, ?_⟩) hHeld ?_
      rotate_left
      · (intro w hSw; (try dsimp only at hSw); go_simp; all_goals (with_reducible rfl))
      try simp only [Act.put, List.setIfInBounds_toArray, List.set_cons_zero, List.set_cons_succ]
      refine held_take (i := 14) (d := 85) (v := ?_) rfl rfl (by kernel_rfl) (by kernel_rfl) (by kernel_rfl) (fun _ _ _ h => h) (Or.inl ⟨by rfl, ?_⟩) hHeld ?_
      rotate_left
      · (intro w hSw; (try dsimp only at hSw); go_simp; all_goals (with_reducible rfl))
      try simp only [Act.put, List.setIfInBounds_toArray, List.set_cons_zero, List.set_cons_succ]
      refine held_take (i := 16) (d := 87) (v := ?_) rfl rfl (by kernel_rfl) (by kernel_rfl) (by kernel_rfl) (fun _ _ _ h => h) (Or.inl ⟨by rfl, ?_⟩) hHeld ?_
      rotate_left
      · (intro w hSw; (try dsimp only at hSw); go_simp; all_goals (with_reducible rfl))
      try simp only [Act.put, List.setIfInBounds_toArray, List.set_cons_zero, List.set_cons_succ]
      refine wpAnyH_ready (rs := [15]) (by kernel_rfl) (by simp) ?_
      refine AllReadyH.cons rfl (fun K hK => ?_) AllReadyH.nil
      go_simp
      refine (left_any gq _ _ hHeld.1.2.2.2).mono ?_
      rintro e t2 ⟨rfl, hw⟩
      subst t2
      go_wp2_with fail
      refine hK.out _ _ ?_ (fun hHeld => ?_)
      · exact HS2.out _ (Below.refl _ _)
      clear hK K
      try simp only [Act.put, List.setIfInBounds_toArray, List.set_cons_zero, List.set_cons_succ]
      refine wpAnyH_ready (rs := [17]) (by kernel_rfl) (by simp) ?_
      refine AllReadyH.cons rfl (fun K hK => ?_) AllReadyH.nil
      go_simp
      refine (refleft_any pg a1 m cap1 bs _ _ hHeld.2.1 hrl (by omega)).mono ?_
      rintro e t3 ⟨rfl, kk, hw⟩
      have ht3 : Below t1.heap.size t1 t3 := by rw [hw]; exact below_drewN (Below.refl _ _) _
      clear hw
      go_wp2_with fail
      refine hK.out _ _ ?_ (fun hHeld => ?_)
      · exact HS2.out _ ht3
      clear hK K
      try simp only [Act.put, List.setIfInBounds_toArray, List.set_cons_zero, List.set_cons_succ]
      refine held_take (i := 18) (d := 89) (v := ?_) rfl rfl (by kernel_rfl) (by kernel_rfl) (by kernel_rfl) (fun _ _ _ h => h) (Or.inl ⟨by rfl, ?_⟩) hHeld ?_
      rotate_left
      · (intro w hSw; (try dsimp only at hSw); go_simp; all_goals (with_reducible rfl))
      try simp only [Act.put, List.setIfInBounds_toArray, List.set_cons_zero, List.set_cons_succ]
      refine held_take (i := 19) (d := 90) (v := ?_) rfl rfl (by kernel_rfl) (by kernel_rfl) (by kernel_rfl) (fun _ _ _ h => h) (Or.inl ⟨by rfl, ?_⟩) hHeld ?_
      rotate_left
      · (intro w hSw; (try dsimp only at hSw); go_simp; all_goals (with_reducible rfl))
      try simp only [Act.put, List.setIfInBounds_toArray, List.set_cons_zero, List.set_cons_succ]
      refine held_take (i := 20) (d := 91) (v := ?_) rfl rfl (by kernel_rfl) (by kernel_rfl) (by kernel_rfl) (fun _ _ _ h => h) (Or.inl ⟨by rfl, ?_⟩) hHeld ?_
      rotate_left
      · (intro w hSw; (try dsimp only at hSw); go_simp; all_goals (with_reducible rfl))
      try simp only [Act.put, List.setIfInBounds_toArray, List.set_cons_zero, List.set_cons_succ]
      refine wpAnyH_ready (rs := [21]) (by kernel_rfl) (by simp) ?_
      refine AllReadyH.cons rfl (fun K hK => ?_) AllReadyH.nil
      go_simp
      refine (awake7_any _).mono ?_
      rintro e t4 ⟨rfl, hw4⟩
      subst t4
      go_wp2_with fail
      refine hK.out _ _ ?_ (fun hHeld => ?_)
      · exact HS2.out _ ht3
      clear hK K
      try simp only [Act.put, List.setIfInBounds_toArray, List.set_cons_zero, List.set_cons_succ]
      refine held_take (i := 22) (d := 93) (v := ?_) rfl rfl (by kernel_rfl) (by kernel_rfl) (by kernel_rfl) (fun _ _ _ h => h) (Or.inl ⟨by rfl, ?_⟩) hHeld ?_
      rotate_left
      · (intro w hSw; (try dsimp only at hSw); go_simp; all_goals (with_reducible rfl))
      try simp only [Act.put, List.setIfInBounds_toArray, List.set_cons_zero, List.set_cons_succ]
      refine held_take (i := 23) (d := 4) (v := ?_) rfl rfl (by kernel_rfl) (by kernel_rfl) (by kernel_rfl) (fun _ _ _ h => h) (Or.inl ⟨by rfl, ?_⟩) hHeld ?_
      rotate_left
      · (intro w hSw; (try dsimp only at hSw); go_simp; all_goals (with_reducible rfl))
      try simp only [Act.put, List.setIfInBounds_toArray, List.set_cons_zero, List.set_cons_succ]
      refine wpAnyH_done (by kernel_rfl) ?_ _
      refine NoPanic.normal ?_
      go_wp2
      go_ret
      have hA := HBV.out.trans (ht1.below (by omega) HBV.out.size)
      exact ⟨rfl, hA.trans (ht3.mono hA.size)⟩
    · have hk : ¬ (0 ≤ n0 ∧ n0 < 5) := by omega
      go_enter Try.func5, Try.ntmps5
      go_wp2_with fail
      refine (ours_any r0 n0 _).mono ?_
      rintro e w2 ⟨rfl, hb2⟩
      have hb2' := hb0.trans (hb2.mono hb0.size)
      have rb2 := rb.later hb2'
      go_wp2_with fail
      refine (bput_any _ m cap1 r0 n0 bs _ rb2 f1.2.2 (by omega) hr0).mono ?_
      rintro e w3 ⟨g3, N, rfl, rs3, hN, hb3⟩
      have hb3' := hb2'.trans (hb3.mono hb2'.size)
      have x30 : w3.cell? ⟨w.heap.size, 0, none⟩ = some (.int .u64 (r0 : Nat)) := cell_later hb3 (cell_later hb2 (by simp))
      have x31 : w3.cell? ⟨w.heap.size, 1, none⟩ = some (.int .i64 n0) := cell_later hb3 (cell_later hb2 (by simp))
      have hel : (enc r0 n0).length = N - m ∧ m < N := by
        have h1 := rs3.1
        have h2 := rb2.1
        have h3 := (Oct.putF_len 9 r0).1
        rw [List.length_append] at h1
        have h4 : (enc r0 n0).length = (Oct.putF 9 r0).length + (Oct.put (code n0)).length := by unfold enc; rw [List.length_append]; rfl
        omega
      have HG3 : Hid (g3 < w3.heap.size) := by
        obtain ⟨b, off, hb, hcc⟩ := rs3.at (by omega)
        simp only [Option.some.injEq, Addr.mk.injEq] at hb
        obtain ⟨rfl, _⟩ := hb
        exact World.block_lt_of_cell? _ _ (hcc 0 (by omega))
      have rd3 := rs3.drop m (by omega)
      rw [show List.drop m (bs ++ enc r0 n0) = enc r0 n0 by rw [← rb2.1, List.drop_left]] at rd3
      simp only [Nat.zero_add] at rd3
      have hNm : ¬ N = m := by omega
      have hmN : (m : Int) ≤ (N : Int) := by omega
      have hmN2 : ¬ (N : Int) < (m : Int) := by omega
      go_wp2_with fail
      refine (new_any _ (N - m) (N - m) _ _ rd3 (by simp) (by omega)).mono ?_
      rintro e w4 ⟨g4, rfl, rd4, hg4, hb4⟩
      have hb4' := hb3'.trans (hb4.mono hb3'.size)
      have x40 := cell_later hb4 x30
      have x41 := cell_later hb4 x31
      have rs4 := rs3.later hb4
      have rb4 := rb2.later (hb3.trans (hb4.mono hb3.size))
      have hx3 : w.heap.size < w3.heap.size := World.block_lt_of_cell? _ _ x30
      clear rs3 rd3 hb3 hb2 x30 x31 hel
      go_wp2_with fail
      refine (bread_any g4 _ _ rd4).mono ?_
      have hde := dec_enc r0 n0 hr0 []
      rw [List.append_nil] at hde
      rw [hde, if_neg hk]
      rintro e w5 ⟨rfl, rd5, ho5⟩
      clear hde
      have g3lt : g3 < w3.heap.size := HG3.out
      have rs5 := rs4.only ho5 (fun x hx _ => by simp at hx; subst hx; simp; omega)
      have rb5 := rb4.only ho5 (fun x hx h0 => by have := HAB.out x hx h0; omega)
      have x50 : w5.cell? ⟨w.heap.size, 0, none⟩ = some (.int .u64 (r0 : Nat)) := World.grownBy.cell ho5 x40 (by simp; omega)
      have x51 : w5.cell? ⟨w.heap.size, 1, none⟩ = some (.int .i64 n0) := World.grownBy.cell ho5 x41 (by simp; omega)
      have hb5' : Below w.heap.size w w5 := hb4'.trans (ho5.below (by omega) hb4'.size)
      clear rs4 rb4 x40 x41 ho5 hb4 hb4' rd4 rb2 hb3' hb2' hb0 rb
      go_wp2_with fail
      refine (plain_any r0 (-1) _).mono ?_
      rintro e w6 ⟨rfl, hb6⟩
      have rs6 := rs5.later hb6
      have rb6 := rb5.later hb6
      have rd6 := rd5.later hb6
      have x60 := cell_later hb6 x50
      have x61 := cell_later hb6 x51
      have hb6' := hb5'.trans (hb6.mono hb5'.size)
      have hx6 : w.heap.size < w6.heap.size := World.block_lt_of_cell? _ _ x60
      clear rs5 rb5 rd5 x50 x51 hb5' hb6
      go_upto_region 11 with fail
      obtain ⟨W, hW⟩ : ∃ W, W = (w6.alloc (.cells #[.int .u64 (r0 : Nat), .int .i64 (-1)] 24)).alloc (.cells #[.int .u64 (r0 : Nat), .int .i64 (-1)] 24) := ⟨_, rfl⟩
      rw [← hW]
      have hb7 : Below w6.heap.size w6 W := by rw [hW]; exact ((Below.refl _ _).alloc (Nat.le_refl _) _).alloc (by simp) _
      have q00 := cell_later hb7 x60
      have q01 := cell_later hb7 x61
      have q10 : W.cell? ⟨w6.heap.size, 0, none⟩ = some (.int .u64 (r0 : Nat)) := by rw [hW]; go_cell
      have q11 : W.cell? ⟨w6.heap.size, 1, none⟩ = some (.int .i64 (-1)) := by rw [hW]; go_cell
      have q20 : W.cell? ⟨w6.heap.size + 1, 0, none⟩ = some (.int .u64 (r0 : Nat)) := by rw [hW]; go_cell
      have q21 : W.cell? ⟨w6.heap.size + 1, 1, none⟩ = some (.int .i64 (-1)) := by rw [hW]; go_cell
      have rs7 := rs6.later hb7
      have rb7 := rb6.later hb7
      have rd7 := rd6.later hb7
      have HB7 : Hid (Below w.heap.size w W) := hb6'.trans (hb7.mono hb6'.size)
      have hsum : bs.length + (enc r0 n0).length = N := by have := rs7.1; rw [List.length_append] at this; exact this
      clear x60 x61 rs6 rb6 rd6 hb6' hb7 hW
      generalize w6.heap.size = yb at *
      have HS : Hid (∀ w', Below W.heap.size W w' → Below W.heap.size W w' ∧ w'.cell? ⟨w.heap.size, 0, none⟩ = some (.int .u64 (r0 : Nat)) ∧ w'.cell? ⟨w.heap.size, 1, none⟩ = some (.int .i64 n0) ∧ w'.cell? ⟨yb, 0, none⟩ = some (.int .u64 (r0 : Nat)) ∧ w'.cell? ⟨yb, 1, none⟩ = some (.int .i64 (-1)) ∧ w'.cell? ⟨yb + 1, 0, none⟩ = some (.int .u64 (r0 : Nat)) ∧ w'.cell? ⟨yb + 1, 1, none⟩ = some (.int .i64 (-1)) ∧ (convert 37 9 (.slice a1 m cap1)).run Try.prog w' = .ok (.string (str bs)) w' ∧ (convert 37 9 (.slice (some ⟨g3, 0, none⟩) N N)).run Try.prog w' = .ok (.string (str (bs ++ enc r0 n0))) w' ∧ Rd w' g4 (some [])) := fun w' hb => ⟨hb, cell_later hb q00, cell_later hb q01, cell_later hb q10, cell_later hb q11, cell_later hb q20, cell_later hb q21, conv_row (rb7.later hb) _, conv_row (rs7.later hb) _, rd7.later hb⟩
      have ha : ∀ w, (Op.stringOp .add (str bs) (str (enc r0 n0))).run Try.prog w = .ok (.string (str (bs ++ enc r0 n0))) w := fun w => add_str _ _ w (by omega)
      have hne : ∀ w, (binOp .neq 24 (bal r0 (-1)) (bal r0 (-1))).run Try.prog w = .ok (.bool false) w := neq_same r0 (-1)
      clear q00 q01 q10 q11 q20 q21 rs7 rd7 hsum hx6
      have hd0 : Below W.heap.size W W.drew := (Below.refl _ _).drew
      refine wp_region_noPanic ?_
      refine wp_region_held_drew (S := (fun w' => Below W.heap.size W w' ∧ w'.cell? ⟨w.heap.size, 0, none⟩ = some (.int .u64 (r0 : Nat)) ∧ w'.cell? ⟨w.heap.size, 1, none⟩ = some (.int .i64 n0) ∧ w'.cell? ⟨yb, 0, none⟩ = some (.int .u64 (r0 : Nat)) ∧ w'.cell? ⟨yb, 1, none⟩ = some (.int .i64 (-1)) ∧ w'.cell? ⟨yb + 1, 0, none⟩ = some (.int .u64 (r0 : Nat)) ∧ w'.cell? ⟨yb + 1, 1, none⟩ = some (.int .i64 (-1)) ∧ (convert 37 9 (.slice a1 m cap1)).run Try.prog w' = .ok (.string (str bs)) w' ∧ (convert 37 9 (.slice (some ⟨g3, 0, none⟩) N N)).run Try.prog w' = .ok (.string (str (bs ++ enc r0 n0))) w' ∧ Rd w' g4 (some []))) (by kernel_rfl) ?_ (fun hHeld => ?_)
      · exact HS.out _ hd0
      refine held_take (i := 0) (d := 44) (v := ?_) rfl rfl (by kernel_rfl) (by kernel_rfl) (by kernel_rfl) (fun _ _ _ h => h) (Or.inl ⟨by rfl, ?_⟩) hHeld ?_
      rotate_left
      · (intro w hSw; (try dsimp only at hSw); go_simp; all_goals (with_reducible rfl))
      try simp only [Act.put, List.setIfInBounds_toArray, List.set_cons_zero, List.set_cons_succ]
      refine held_take (i := 1) (d := 45) (v := ?_) rfl rfl (by kernel_rfl) (by kernel_rfl) (by kernel_rfl) (fun _ _ _ h => h) (Or.inl ⟨by rfl, ?_⟩) hHeld ?_
      rotate_left
      · (intro w hSw; (try dsimp only at hSw); go_simp; all_goals (with_reducible rfl))
      try simp only [Act.put, List.setIfInBounds_toArray, List.set_cons_zero, List.set_cons_succ]
      refine held_take (i := 2) (d := 46) (v := ?_) rfl rfl (by kernel_rfl) (by kernel_rfl) (by kernel_rfl) (fun _ _ _ h => h) (Or.inl ⟨by rfl, ?_⟩) hHeld ?_
      rotate_left
      · (intro w hSw; (try dsimp only at hSw); go_simp; all_goals (with_reducible rfl))
      try simp only [Act.put, List.setIfInBounds_toArray, List.set_cons_zero, List.set_cons_succ]
      refine held_take (i := 3) (d := 47) (v := ?_) rfl rfl (by kernel_rfl) (by kernel_rfl) (by kernel_rfl) (fun _ _ _ h => h) (Or.inl ⟨by rfl, ?_⟩) hHeld ?_
      rotate_left
      · (intro w hSw; (try dsimp only at hSw); go_simp; all_goals (with_reducible rfl))
      try simp only [Act.put, List.setIfInBounds_toArray, List.set_cons_zero, List.set_cons_succ]
      refine held_take (i := 4) (d := 48) (v := ?_) rfl rfl (by kernel_rfl) (by kernel_rfl) (by kernel_rfl) (fun _ _ _ h => h) (Or.inl ⟨by rfl, ?_⟩) hHeld ?_
      rotate_left
      · (intro w hSw; (try dsimp only at hSw); go_simp; all_goals (with_reducible rfl))
      try simp only [Act.put, List.setIfInBounds_toArray, List.set_cons_zero, List.set_cons_succ]
      refine wpAnyH_ready (rs := [5]) (by kernel_rfl) (by simp) ?_
      refine AllReadyH.cons rfl (fun K hK => ?_) AllReadyH.nil
      go_simp
      refine (ref_bput_any r0 n0 _ hr0).mono ?_
      rintro e u1 ⟨a4, n4, cap4, rfl, r4, hu1⟩
      replace hu1 : Below W.heap.size W u1 := hd0.trans (hu1.mono hd0.size)
      go_wp2_with fail
      refine hK.out _ _ ?_ (fun hHeld => ?_)
      · exact HS.out _ hu1
      clear hK K
      try simp only [Act.put, List.setIfInBounds_toArray, List.set_cons_zero, List.set_cons_succ]
      have HS2 : Hid (∀ w', Below u1.heap.size u1 w' → (Below W.heap.size W w' ∧ w'.cell? ⟨w.heap.size, 0, none⟩ = some (.int .u64 (r0 : Nat)) ∧ w'.cell? ⟨w.heap.size, 1, none⟩ = some (.int .i64 n0) ∧ w'.cell? ⟨yb, 0, none⟩ = some (.int .u64 (r0 : Nat)) ∧ w'.cell? ⟨yb, 1, none⟩ = some (.int .i64 (-1)) ∧ w'.cell? ⟨yb + 1, 0, none⟩ = some (.int .u64 (r0 : Nat)) ∧ w'.cell? ⟨yb + 1, 1, none⟩ = some (.int .i64 (-1)) ∧ (convert 37 9 (.slice a1 m cap1)).run Try.prog w' = .ok (.string (str bs)) w' ∧ (convert 37 9 (.slice (some ⟨g3, 0, none⟩) N N)).run Try.prog w' = .ok (.string (str (bs ++ enc r0 n0))) w' ∧ Rd w' g4 (some [])) ∧ (convert 37 9 (.slice a4 n4 cap4)).run Try.prog w' = .ok (.string (str (enc r0 n0))) w') := fun w' hb => ⟨HS.out _ (hu1.trans (hb.mono hu1.size)), conv_row (r4.later hb) _⟩
      refine held_mono (S' := (fun w' => (Below W.heap.size W w' ∧ w'.cell? ⟨w.heap.size, 0, none⟩ = some (.int .u64 (r0 : Nat)) ∧ w'.cell? ⟨w.heap.size, 1, none⟩ = some (.int .i64 n0) ∧ w'.cell? ⟨yb, 0, none⟩ = some (.int .u64 (r0 : Nat)) ∧ w'.cell? ⟨yb, 1, none⟩ = some (.int .i64 (-1)) ∧ w'.cell? ⟨yb + 1, 0, none⟩ = some (.int .u64 (r0 : Nat)) ∧ w'.cell? ⟨yb + 1, 1, none⟩ = some (.int .i64 (-1)) ∧ (convert 37 9 (.slice a1 m cap1)).run Try.prog w' = .ok (.string (str bs)) w' ∧ (convert 37 9 (.slice (some ⟨g3, 0, none⟩) N N)).run Try.prog w' = .ok (.string (str (bs ++ enc r0 n0))) w' ∧ Rd w' g4 (some [])) ∧ (convert 37 9 (.slice a4 n4 cap4)).run Try.prog w' = .ok (.string (str (enc r0 n0))) w')) (fun _ h => h.1) _ _ _ _ ?_
      replace hHeld := HS2.out _ (Below.refl _ _)
      refine held_take (i := 6) (d := 50) (v := ?_) rfl rfl (by kernel_rfl) (by kernel_rfl) (by kernel_rfl) (fun _ _ _ h => h) (Or.inl ⟨by rfl, ?_⟩) hHeld ?_
      rotate_left
      · (intro w hSw; (try dsimp only at hSw); go_simp; all_goals (with_reducible rfl))
      try simp only [Act.put, List.setIfInBounds_toArray, List.set_cons_zero, List.set_cons_succ]
      refine held_take (i := 7) (d := 51) (v := ?_) rfl rfl (by kernel_rfl) (by kernel_rfl) (by kernel_rfl) (fun _ _ _ h => h) (Or.inl ⟨by rfl, ?_⟩) hHeld ?_
      rotate_left
      · (intro w hSw; (try dsimp only at hSw); go_simp; all_goals (with_reducible rfl))
      try simp only [Act.put, List.setIfInBounds_toArray, List.set_cons_zero, List.set_cons_succ]
      refine held_take (i := 8) (d := 52) (v := ?_) rfl rfl (by kernel_rfl) (by kernel_rfl) (by kernel_rfl) (fun _ _ _ h => h) (Or.inl ⟨by rfl, ?_⟩) hHeld ?_
      rotate_left
      · (intro w hSw; (try dsimp only at hSw); go_simp; all_goals (with_reducible rfl))
      try simp only [Act.put, List.setIfInBounds_toArray, List.set_cons_zero, List.set_cons_succ]
      refine held_take (i := 9) (d := 53) (v := ?_) rfl rfl (by kernel_rfl) (by kernel_rfl) (by kernel_rfl) (fun _ _ _ h => h) (Or.inl ⟨by rfl, ?_⟩) hHeld ?_
      rotate_left
      · (intro w hSw; (try dsimp only at hSw); go_simp; all_goals (with_reducible rfl))
      try simp only [Act.put, List.setIfInBounds_toArray, List.set_cons_zero, List.set_cons_succ]
      refine held_take (i := 10) (d := 54) (v := ?_) rfl rfl (by kernel_rfl) (by kernel_rfl) (by kernel_rfl) (fun _ _ _ h => h) (Or.inl ⟨by rfl, ?_⟩) hHeld ?_
      rotate_left
      · (intro w hSw; (try dsimp only at hSw); go_simp; all_goals (with_reducible rfl))
      try simp only [Act.put, List.setIfInBounds_toArray, List.set_cons_zero, List.set_cons_succ]
      refine held_take (i := 11) (d := 55) (v := ?_) rfl rfl (by kernel_rfl) (by kernel_rfl) (by kernel_rfl) (fun _ _ _ h => h) (Or.inl ⟨by rfl, ?_⟩) hHeld ?_
      rotate_left
      · (intro w hSw; (try dsimp only at hSw); go_simp; all_goals (with_reducible rfl))
      try simp only [Act.put, List.setIfInBounds_toArray, List.set_cons_zero, List.set_cons_succ]
      refine held_take (i := 12) (d := 56) (v := ?_) rfl rfl (by kernel_rfl) (by kernel_rfl) (by kernel_rfl) (fun _ _ _ h => h) (Or.inl ⟨by rfl, ?_⟩) hHeld ?_
      rotate_left
      · (intro w hSw; (try dsimp only at hSw); go_simp; all_goals (with_reducible rfl))
      try simp only [Act.put, List.setIfInBounds_toArray, List.set_cons_zero, List.set_cons_succ]
      refine held_take (i := 13) (d := 57) (v := ?_) rfl rfl (by kernel_rfl) (by kernel_rfl) (by kernel_rfl) (fun _ _ _ h => h) (Or.inl ⟨by rfl, ?_⟩) hHeld ?_
      rotate_left
      · (intro w hSw; (try dsimp only at hSw); go_simp; all_goals (with_reducible rfl))
      try simp only [Act.put, List.setIfInBounds_toArray, List.set_cons_zero, List.set_cons_succ]
      refine held_take (i := 14) (d := 58) (v := ?_) rfl rfl (by kernel_rfl) (by kernel_rfl) (by kernel_rfl) (fun _ _ _ h => h) (Or.inl ⟨by rfl, ?_⟩) hHeld ?_
      rotate_left
      · (intro w hSw; (try dsimp only at hSw); go_simp; all_goals (with_reducible rfl))
      try simp only [Act.put, List.setIfInBounds_toArray, List.set_cons_zero, List.set_cons_succ]
      refine held_take (i := 15) (d := 59) (v := ?_) rfl rfl (by kernel_rfl) (by kernel_rfl) (by kernel_rfl) (fun _ _ _ h => h) (Or.inl ⟨by rfl, ?_⟩) hHeld ?_
      rotate_left
      · (intro w hSw; (try dsimp only at hSw); go_simp; all_goals (with_reducible rfl))
      try simp only [Act.put, List.setIfInBounds_toArray, List.set_cons_zero, List.set_cons_succ]
      refine wpAnyH_ready (rs := [16]) (by kernel_rfl) (by simp) ?_
      refine AllReadyH.cons rfl (fun K hK => ?_) AllReadyH.nil
      go_simp
      refine (done_any g4 _ _ hHeld.1.2.2.2.2.2.2.2.2.2).mono ?_
      rintro e u2 ⟨rfl, hu2⟩
      subst u2
      rw [show ((some [] : Option (List Nat)) == some []) = true from rfl]
      go_wp2_with fail
      refine hK.out _ _ ?_ (fun hHeld => ?_)
      · exact HS2.out _ (Below.refl _ _)
      clear hK K
      try simp only [Act.put, List.setIfInBounds_toArray, List.set_cons_zero, List.set_cons_succ]
      refine held_take (i := 17) (d := 61) (v := ?_) rfl rfl (by kernel_rfl) (by kernel_rfl) (by kernel_rfl) (fun _ _ _ h => h) (Or.inl ⟨by rfl, ?_⟩) hHeld ?_
      rotate_left
      · (intro w hSw; (try dsimp only at hSw); go_simp; all_goals (with_reducible rfl))
      try simp only [Act.put, List.setIfInBounds_toArray, List.set_cons_zero, List.set_cons_succ]
      refine held_take (i := 18) (d := 62) (v := ?_) rfl rfl (by kernel_rfl) (by kernel_rfl) (by kernel_rfl) (fun _ _ _ h => h) (Or.inl ⟨by rfl, ?_⟩) hHeld ?_
      rotate_left
      · (intro w hSw; (try dsimp only at hSw); go_simp; all_goals (with_reducible rfl))
      try simp only [Act.put, List.setIfInBounds_toArray, List.set_cons_zero, List.set_cons_succ]
      refine wpAnyH_done (by kernel_rfl) ?_ _
      refine NoPanic.normal ?_
      have HBu : Hid (Below w.heap.size w u1) := HB7.out.trans (hu1.mono HB7.out.size)
      have rb8 : Row u1 a1 m bs := rb7.later hu1
      clear ha hne HS HS2 hHeld hd0 HB7 hu1 r4 rb7
      go_wp2_with fail
      have hws := HBu.out.size
      refine (new_any a1 m cap1 bs _ rb8 f1.2.2 (by omega)).mono ?_
      rintro e v1 ⟨gq, rfl, rd1, hgq, hv1⟩
      have rb9 := rb8.later hv1
      have hgl := rd1.lt
      have HB1 : Hid (Below w.heap.size w v1) := HBu.out.trans (hv1.mono HBu.out.size)
      obtain ⟨D, hD⟩ : ∃ D, D = dec (some bs) := ⟨_, rfl⟩
      have hv2 : Below v1.heap.size v1 (v1.alloc (.cells #[.slice a1 m cap1, .int .i64 0, .bool false] 45)) := (Below.refl _ _).alloc (Nat.le_refl _) _
      have rd2 := rd1.later hv2
      have rb10 := rb9.later hv2
      have rf2 : Rf (v1.alloc (.cells #[.slice a1 m cap1, .int .i64 0, .bool false] 45)) v1.heap.size a1 m cap1 bs (some bs) := ⟨0, Nat.zero_le _, by show (v1.heap.push _)[v1.heap.size]? = _; simp, by simp⟩
      have HB2 : Hid (Below w.heap.size w (v1.alloc (.cells #[.slice a1 m cap1, .int .i64 0, .bool false] 45))) := HB1.out.alloc HB1.out.size _
      clear hv1 rd1 rb8 rb9 hv2 HBu
      go_wp2_with fail
      refine (bread_any gq _ _ rd2).mono ?_
      rw [← hD]
      rintro e v3 ⟨rfl, rd3, ho3⟩
      have rf3 := rf2.only ho3 (by omega)
      have rb11 := rb10.only ho3 (fun x hx h0 => by have := HAB.out x hx h0; omega)
      have HB3 : Hid (Below w.heap.size w v3) := HB2.out.trans (ho3.below (by omega) HB2.out.size)
      have hpl : v1.heap.size < v3.heap.size := by have := ho3.size; simp at this; omega
      have hws1 := HB1.out.size
      clear rf2 rb10 ho3 HB1 HB2 rd2
      generalize v1.heap.size = pg at *
      obtain ⟨⟨d1, d2⟩, d3⟩ := D
      simp only at rd3
      go_wp2_with fail
      refine (plain_any d1 d2 _).mono ?_
      rintro e v4 ⟨rfl, hv4⟩
      have rf4 := rf3.later hv4
      have rb12 := rb11.later hv4
      have rd4 := rd3.later hv4
      have HB4 : Hid (Below w.heap.size w v4) := HB3.out.trans (hv4.mono HB3.out.size)
      have hpl4 : pg < v4.heap.size := by have := hv4.size; omega
      clear rf3 rb11 rd3 HB3 hv4
      go_wp2_with fail
      obtain ⟨V, hV⟩ : ∃ V, V = v4.alloc (.cells #[.int .u64 (d1 : Nat), .int .i64 d2] 24) := ⟨_, rfl⟩
      rw [← hV]
      have hv5 : Below v4.heap.size v4 V := by rw [hV]; exact (Below.refl _ _).alloc (Nat.le_refl _) _
      have z0 : V.cell? ⟨v4.heap.size, 0, none⟩ = some (.int .u64 (d1 : Nat)) := by rw [hV]; simp
      have z1 : V.cell? ⟨v4.heap.size, 1, none⟩ = some (.int .i64 d2) := by rw [hV]; simp
      have rf5 := rf4.later hv5
      have rb13 := rb12.later hv5
      have rd5 := rd4.later hv5
      have HBV : Hid (Below w.heap.size w V) := HB4.out.trans (hv5.mono HB4.out.size)
      clear rf4 rb12 rd4 HB4 hV hv5
      generalize v4.heap.size = zb at *
      have HS : Hid (∀ w', Only pg V w' → Only pg V w' ∧ w'.cell? ⟨zb, 0, none⟩ = some (.int .u64 (d1 : Nat)) ∧ w'.cell? ⟨zb, 1, none⟩ = some (.int .i64 d2) ∧ Rd w' gq d3) := fun w' ho => ⟨ho, World.grownBy.cell ho z0 (by simp; omega), World.grownBy.cell ho z1 (by simp; omega), rd5.only ho hgl⟩
      have HRD : Hid (∀ w', Below V.heap.size V w' → Calls Try.prog 23 #[.pointer (some ⟨pg, 0, none⟩)] w' fun e w'' => e = .returned (bal d1 d2) ∧ Rf w'' pg a1 m cap1 bs d3 ∧ Only pg w' w'') := fun w' hb => by
        have := ref_bread_any pg a1 m cap1 bs (some bs) w' (rf5.later hb) (rb13.later hb) (fun x hx h0 => by have := HAB.out x hx h0; omega) (by have := f1.1; omega) f1.2.1 (by omega)
        rw [← hD] at this
        exact this
      have heqs : ∀ w, (binOp .eql 24 (bal d1 d2) (bal d1 d2)).run Try.prog w = .ok (.bool true) w := eql_same d1 d2
      have hrl := rb13.1
      clear z0 z1 rd5 rf5 rb13 hD
      have hd1 : Below V.heap.size V V.drew := (Below.refl _ _).drew
      have hd0 : Only pg V V.drew := Below.only hd1
      refine wp_region_noPanic ?_
      refine wp_region_held_drew (S := (fun w' => Only pg V w' ∧ w'.cell? ⟨zb, 0, none⟩ = some (.int .u64 (d1 : Nat)) ∧ w'.cell? ⟨zb, 1, none⟩ = some (.int .i64 d2) ∧ Rd w' gq d3)) (by kernel_rfl) ?_ (fun hHeld => ?_)
      · exact HS.out _ hd0
      refine held_take (i := 0) (d := 71) (v := ?_) rfl rfl (by kernel_rfl) (by kernel_rfl) (by kernel_rfl) (fun _ _ _ h => h) (Or.inl ⟨by rfl, ?_⟩) hHeld ?_
      rotate_left
      · (intro w hSw; (try dsimp only at hSw); go_simp; all_goals (with_reducible rfl))
      try simp only [Act.put, List.setIfInBounds_toArray, List.set_cons_zero, List.set_cons_succ]
      refine held_take (i := 1) (d := 72) (v := ?_) rfl rfl (by kernel_rfl) (by kernel_rfl) (by kernel_rfl) (fun _ _ _ h => h) (Or.inl ⟨by rfl, ?_⟩) hHeld ?_
      rotate_left
      · (intro w hSw; (try dsimp only at hSw); go_simp; all_goals (with_reducible rfl))
      try simp only [Act.put, List.setIfInBounds_toArray, List.set_cons_zero, List.set_cons_succ]
      refine wpAnyH_ready (rs := [2]) (by kernel_rfl) (by simp) ?_
      refine AllReadyH.cons rfl (fun K hK => ?_) AllReadyH.nil
      go_simp
      refine (HRD.out _ hd1).mono ?_
      rintro e t1 ⟨rfl, rft, ht1⟩
      replace ht1 : Only pg V t1 := hd0.trans ht1
      go_wp2_with fail
      refine hK.out _ _ ?_ (fun hHeld => ?_)
      · exact HS.out _ ht1
      clear hK K
      try simp only [Act.put, List.setIfInBounds_toArray, List.set_cons_zero, List.set_cons_succ]
      have HS2 : Hid (∀ w', Below t1.heap.size t1 w' → (Only pg V w' ∧ w'.cell? ⟨zb, 0, none⟩ = some (.int .u64 (d1 : Nat)) ∧ w'.cell? ⟨zb, 1, none⟩ = some (.int .i64 d2) ∧ Rd w' gq d3) ∧ Rf w' pg a1 m cap1 bs d3 ∧ w'.cell? ⟨pg, 2, none⟩ = some (.bool d3.isNone)) := fun w' hb => ⟨HS.out _ (ht1.trans (Below.only hb)), rft.later hb, by obtain ⟨p, _, hh, _⟩ := rft.later hb; exact cell_of_heap hh rfl⟩
      refine held_mono (S' := (fun w' => (Only pg V w' ∧ w'.cell? ⟨zb, 0, none⟩ = some (.int .u64 (d1 : Nat)) ∧ w'.cell? ⟨zb, 1, none⟩ = some (.int .i64 d2) ∧ Rd w' gq d3) ∧ Rf w' pg a1 m cap1 bs d3 ∧ w'.cell? ⟨pg, 2, none⟩ = some (.bool d3.isNone))) (fun _ h => h.1) _ _ _ _ ?_
      replace hHeld := HS2.out _ (Below.refl _ _)
      refine held_take (i := 3) (d := 74) (v := ?_) rfl rfl (by kernel_rfl) (by kernel_rfl) (by kernel_rfl) (fun _ _ _ h => h) (Or.inl ⟨by rfl, ?_⟩) hHeld ?_
      rotate_left
      · (intro w hSw; (try dsimp only at hSw); go_simp; all_goals (with_reducible rfl))
      try simp only [Act.put, List.setIfInBounds_toArray, List.set_cons_zero, List.set_cons_succ]
      refine held_take (i := 4) (d := 75) (v := ?_) rfl rfl (by kernel_rfl) (by kernel_rfl) (by kernel_rfl) (fun _ _ _ h => h) (Or.inl ⟨by rfl, ?_⟩) hHeld ?_
      rotate_left
      · (intro w hSw; (try dsimp only at hSw); go_simp; all_goals (with_reducible rfl))
      try simp only [Act.put, List.setIfInBounds_toArray, List.set_cons_zero, List.set_cons_succ]
      refine held_take (i := 5) (d := 76) (v := ?_) rfl rfl (by kernel_rfl) (by kernel_rfl) (by kernel_rfl) (fun _ _ _ h => h) (Or.inl ⟨by rfl, ?_⟩) hHeld ?_
      rotate_left
      · (intro w hSw; (try dsimp only at hSw); go_simp; all_goals (with_reducible rfl))
      try simp only [Act.put, List.setIfInBounds_toArray, List.set_cons_zero, List.set_cons_succ]
      refine held_take (i := 7) (d := 78) (v := ?_) rfl rfl (by kernel_rfl) (by kernel_rfl) (by kernel_rfl) (fun _ _ _ h => h) (Or.inl ⟨by rfl, ?_⟩) hHeld ?_
      rotate_left
      · (intro w hSw; (try dsimp only at hSw); go_simp; all_goals (with_reducible rfl))
      try simp only [Act.put, List.setIfInBounds_toArray, List.set_cons_zero, List.set_cons_succ]
      refine held_take (i := 8) (d := 79) (v := ?_) rfl rfl (by kernel_rfl) (by kernel_rfl) (by kernel_rfl) (fun _ _ _ h => h) (Or.inl ⟨by rfl, ?_⟩) hHeld ?_
      rotate_left
      · (intro w hSw; (try dsimp only at hSw); go_simp; all_goals (with_reducible rfl))
      try simp only [Act.put, List.setIfInBounds_toArray, List.set_cons_zero, List.set_cons_succ]
      refine held_take (i := 9) (d := 80) (v := ?_) rfl rfl (by kernel_rfl) (by kernel_rfl) (by kernel_rfl) (fun _ _ _ h => h) (Or.inl ⟨by rfl, ?_⟩) hHeld ?_
      rotate_left
      · (intro w hSw; (try dsimp only at hSw); go_simp; all_goals (with_reducible rfl))
      try simp only [Act.put, List.setIfInBounds_toArray, List.set_cons_zero, List.set_cons_succ]
      refine held_take (i := 10) (d := 81) (v := ?_) rfl rfl (by kernel_rfl) (by kernel_rfl) (by kernel_rfl) (fun _ _ _ h => h) (Or.inl ⟨by rfl, ?_⟩) hHeld ?_
      rotate_left
      · (intro w hSw; (try dsimp only at hSw); go_simp; all_goals (with_reducible rfl))
      try simp only [Act.put, List.setIfInBounds_toArray, List.set_cons_zero, List.set_cons_succ]
      refine wpAnyH_ready (rs := [6]) (by kernel_rfl) (by simp) ?_
      refine AllReadyH.cons rfl (fun K hK => ?_) AllReadyH.nil
      go_simp
      refine (bad_any gq _ _ hHeld.1.2.2.2).mono ?_
      rintro e t2 ⟨rfl, hw⟩
      subst t2
      go_wp2_with fail
      refine hK.out _ _ ?_ (fun hHeld => ?_)
      · exact HS2.out _ (Below.refl _ _)
      clear hK K
      try simp only [Act.put, List.setIfInBounds_toArray, List.set_cons_zero, List.set_cons_succ]
      refine held_take (i := 11) (d := 82) (v := ?_) rfl rfl (by kernel_rfl) (by kernel_rfl) (by kernel_rfl) (fun _ _ _ h => h) (Or.inl ⟨by rfl, ?_⟩) hHeld ?_
      rotate_left
      · (intro w hSw; (try dsimp only at hSw); go_simp; all_goals (with_reducible rfl))
      try simp only [Act.put, List.setIfInBounds_toArray, List.set_cons_zero, List.set_cons_succ]
      refine held_take (i := 12) (d := 83) (v := ?_) rfl rfl (by kernel_rfl) (by kernel_rfl) (by kernel_rfl) (fun _ _ _ h => h) (Or.inl ⟨by rfl, ?_⟩) hHeld ?_
      rotate_left
      · (intro w hSw; (try dsimp only at hSw); go_simp; all_goals (with_reducible rfl))
      try simp only [Act.put, List.setIfInBounds_toArray, List.set_cons_zero, List.set_cons_succ]
      refine held_take (i := 13) (d := 84) (v := ?_) rfl rfl (by kernel_rfl) (by kernel_rfl) (by kernel_rfl) (fun _ _ _ h => h) (Or.inl ⟨by rfl, ?_⟩) hHeld ?_
      rotate_left
      · (intro w hSw; (try dsimp only at hSw); go_simp; all_goals (with_reducible rfl))
      try simp only [Act.put, List.setIfInBounds_toArray, List.set_cons_zero, List.set_cons_succ]
      refine held_take (i := 14) (d := 85) (v := ?_) rfl rfl (by kernel_rfl) (by kernel_rfl) (by kernel_rfl) (fun _ _ _ h => h) (Or.inl ⟨by rfl, ?_⟩) hHeld ?_
      rotate_left
      · (intro w hSw; (try dsimp only at hSw); go_simp; all_goals (with_reducible rfl))
      try simp only [Act.put, List.setIfInBounds_toArray, List.set_cons_zero, List.set_cons_succ]
      refine held_take (i := 16) (d := 87) (v := ?_) rfl rfl (by kernel_rfl) (by kernel_rfl) (by kernel_rfl) (fun _ _ _ h => h) (Or.inl ⟨by rfl, ?_⟩) hHeld ?_
      rotate_left
      · (intro w hSw; (try dsimp only at hSw); go_simp; all_goals (with_reducible rfl))
      try simp only [Act.put, List.setIfInBounds_toArray, List.set_cons_zero, List.set_cons_succ]
      refine wpAnyH_ready (rs := [15]) (by kernel_rfl) (by simp) ?_
      refine AllReadyH.cons rfl (fun K hK => ?_) AllReadyH.nil
      go_simp
      refine (left_any gq _ _ hHeld.1.2.2.2).mono ?_
      rintro e t2 ⟨rfl, hw⟩
      subst t2
      go_wp2_with fail
      refine hK.out _ _ ?_ (fun hHeld => ?_)
      · exact HS2.out _ (Below.refl _ _)
      clear hK K
      try simp only [Act.put, List.setIfInBounds_toArray, List.set_cons_zero, List.set_cons_succ]
      refine wpAnyH_ready (rs := [17]) (by kernel_rfl) (by simp) ?_
      refine AllReadyH.cons rfl (fun K hK => ?_) AllReadyH.nil
      go_simp
      refine (refleft_any pg a1 m cap1 bs _ _ hHeld.2.1 hrl (by omega)).mono ?_
      rintro e t3 ⟨rfl, kk, hw⟩
      have ht3 : Below t1.heap.size t1 t3 := by rw [hw]; exact below_drewN (Below.refl _ _) _
      clear hw
      go_wp2_with fail
      refine hK.out _ _ ?_ (fun hHeld => ?_)
      · exact HS2.out _ ht3
      clear hK K
      try simp only [Act.put, List.setIfInBounds_toArray, List.set_cons_zero, List.set_cons_succ]
      refine held_take (i := 18) (d := 89) (v := ?_) rfl rfl (by kernel_rfl) (by kernel_rfl) (by kernel_rfl) (fun _ _ _ h => h) (Or.inl ⟨by rfl, ?_⟩) hHeld ?_
      rotate_left
      · (intro w hSw; (try dsimp only at hSw); go_simp; all_goals (with_reducible rfl))
      try simp only [Act.put, List.setIfInBounds_toArray, List.set_cons_zero, List.set_cons_succ]
      refine held_take (i := 19) (d := 90) (v := ?_) rfl rfl (by kernel_rfl) (by kernel_rfl) (by kernel_rfl) (fun _ _ _ h => h) (Or.inl ⟨by rfl, ?_⟩) hHeld ?_
      rotate_left
      · (intro w hSw; (try dsimp only at hSw); go_simp; all_goals (with_reducible rfl))
      try simp only [Act.put, List.setIfInBounds_toArray, List.set_cons_zero, List.set_cons_succ]
      refine held_take (i := 20) (d := 91) (v := ?_) rfl rfl (by kernel_rfl) (by kernel_rfl) (by kernel_rfl) (fun _ _ _ h => h) (Or.inl ⟨by rfl, ?_⟩) hHeld ?_
      rotate_left
      · (intro w hSw; (try dsimp only at hSw); go_simp; all_goals (with_reducible rfl))
      try simp only [Act.put, List.setIfInBounds_toArray, List.set_cons_zero, List.set_cons_succ]
      refine wpAnyH_ready (rs := [21]) (by kernel_rfl) (by simp) ?_
      refine AllReadyH.cons rfl (fun K hK => ?_) AllReadyH.nil
      go_simp
      refine (awake7_any _).mono ?_
      rintro e t4 ⟨rfl, hw4⟩
      subst t4
      go_wp2_with fail
      refine hK.out _ _ ?_ (fun hHeld => ?_)
      · exact HS2.out _ ht3
      clear hK K
      try simp only [Act.put, List.setIfInBounds_toArray, List.set_cons_zero, List.set_cons_succ]
      refine held_take (i := 22) (d := 93) (v := ?_) rfl rfl (by kernel_rfl) (by kernel_rfl) (by kernel_rfl) (fun _ _ _ h => h) (Or.inl ⟨by rfl, ?_⟩) hHeld ?_
      rotate_left
      · (intro w hSw; (try dsimp only at hSw); go_simp; all_goals (with_reducible rfl))
      try simp only [Act.put, List.setIfInBounds_toArray, List.set_cons_zero, List.set_cons_succ]
      refine held_take (i := 23) (d := 4) (v := ?_) rfl rfl (by kernel_rfl) (by kernel_rfl) (by kernel_rfl) (fun _ _ _ h => h) (Or.inl ⟨by rfl, ?_⟩) hHeld ?_
      rotate_left
      · (intro w hSw; (try dsimp only at hSw); go_simp; all_goals (with_reducible rfl))
      try simp only [Act.put, List.setIfInBounds_toArray, List.set_cons_zero, List.set_cons_succ]
      refine wpAnyH_done (by kernel_rfl) ?_ _
      refine NoPanic.normal ?_
      go_wp2
      go_ret
      have hA := HBV.out.trans (ht1.below (by omega) HBV.out.size)
      exact ⟨rfl, hA.trans (ht3.mono hA.size)⟩
    · have hk : ¬ (0 ≤ n0 ∧ n0 < 5) := by omega
      go_enter Try.func5, Try.ntmps5
      go_wp2_with fail
      refine (ours_any r0 n0 _).mono ?_
      rintro e w2 ⟨rfl, hb2⟩
      have hb2' := hb0.trans (hb2.mono hb0.size)
      have rb2 := rb.later hb2'
      go_wp2_with fail
      refine (bput_any _ m cap1 r0 n0 bs _ rb2 f1.2.2 (by omega) hr0).mono ?_
      rintro e w3 ⟨g3, N, rfl, rs3, hN, hb3⟩
      have hb3' := hb2'.trans (hb3.mono hb2'.size)
      have x30 : w3.cell? ⟨w.heap.size, 0, none⟩ = some (.int .u64 (r0 : Nat)) := cell_later hb3 (cell_later hb2 (by simp))
      have x31 : w3.cell? ⟨w.heap.size, 1, none⟩ = some (.int .i64 n0) := cell_later hb3 (cell_later hb2 (by simp))
      have hel : (enc r0 n0).length = N - m ∧ m < N := by
        have h1 := rs3.1
        have h2 := rb2.1
        have h3 := (Oct.putF_len 9 r0).1
        rw [List.length_append] at h1
        have h4 : (enc r0 n0).length = (Oct.putF 9 r0).length + (Oct.put (code n0)).length := by unfold enc; rw [List.length_append]; rfl
        omega
      have HG3 : Hid (g3 < w3.heap.size) := by
        obtain ⟨b, off, hb, hcc⟩ := rs3.at (by omega)
        simp only [Option.some.injEq, Addr.mk.injEq] at hb
        obtain ⟨rfl, _⟩ := hb
        exact World.block_lt_of_cell? _ _ (hcc 0 (by omega))
      have rd3 := rs3.drop m (by omega)
      rw [show List.drop m (bs ++ enc r0 n0) = enc r0 n0 by rw [← rb2.1, List.drop_left]] at rd3
      simp only [Nat.zero_add] at rd3
      have hNm : ¬ N = m := by omega
      have hmN : (m : Int) ≤ (N : Int) := by omega
      have hmN2 : ¬ (N : Int) < (m : Int) := by omega
      go_wp2_with fail
      refine (new_any _ (N - m) (N - m) _ _ rd3 (by simp) (by omega)).mono ?_
      rintro e w4 ⟨g4, rfl, rd4, hg4, hb4⟩
      have hb4' := hb3'.trans (hb4.mono hb3'.size)
      have x40 := cell_later hb4 x30
      have x41 := cell_later hb4 x31
      have rs4 := rs3.later hb4
      have rb4 := rb2.later (hb3.trans (hb4.mono hb3.size))
      have hx3 : w.heap.size < w3.heap.size := World.block_lt_of_cell? _ _ x30
      clear rs3 rd3 hb3 hb2 x30 x31 hel
      go_wp2_with fail
      refine (bread_any g4 _ _ rd4).mono ?_
      have hde := dec_enc r0 n0 hr0 []
      rw [List.append_nil] at hde
      rw [hde, if_neg hk]
      rintro e w5 ⟨rfl, rd5, ho5⟩
      clear hde
      have g3lt : g3 < w3.heap.size := HG3.out
      have rs5 := rs4.only ho5 (fun x hx _ => by simp at hx; subst hx; simp; omega)
      have rb5 := rb4.only ho5 (fun x hx h0 => by have := HAB.out x hx h0; omega)
      have x50 : w5.cell? ⟨w.heap.size, 0, none⟩ = some (.int .u64 (r0 : Nat)) := World.grownBy.cell ho5 x40 (by simp; omega)
      have x51 : w5.cell? ⟨w.heap.size, 1, none⟩ = some (.int .i64 n0) := World.grownBy.cell ho5 x41 (by simp; omega)
      have hb5' : Below w.heap.size w w5 := hb4'.trans (ho5.below (by omega) hb4'.size)
      clear rs4 rb4 x40 x41 ho5 hb4 hb4' rd4 rb2 hb3' hb2' hb0 rb
      go_wp2_with fail
      refine (plain_any r0 (-1) _).mono ?_
      rintro e w6 ⟨rfl, hb6⟩
      have rs6 := rs5.later hb6
      have rb6 := rb5.later hb6
      have rd6 := rd5.later hb6
      have x60 := cell_later hb6 x50
      have x61 := cell_later hb6 x51
      have hb6' := hb5'.trans (hb6.mono hb5'.size)
      have hx6 : w.heap.size < w6.heap.size := World.block_lt_of_cell? _ _ x60
      clear rs5 rb5 rd5 x50 x51 hb5' hb6
      go_upto_region 11 with fail
      obtain ⟨W, hW⟩ : ∃ W, W = (w6.alloc (.cells #[.int .u64 (r0 : Nat), .int .i64 (-1)] 24)).alloc (.cells #[.int .u64 (r0 : Nat), .int .i64 (-1)] 24) := ⟨_, rfl⟩
      rw [← hW]
      have hb7 : Below w6.heap.size w6 W := by rw [hW]; exact ((Below.refl _ _).alloc (Nat.le_refl _) _).alloc (by simp) _
      have q00 := cell_later hb7 x60
      have q01 := cell_later hb7 x61
      have q10 : W.cell? ⟨w6.heap.size, 0, none⟩ = some (.int .u64 (r0 : Nat)) := by rw [hW]; go_cell
      have q11 : W.cell? ⟨w6.heap.size, 1, none⟩ = some (.int .i64 (-1)) := by rw [hW]; go_cell
      have q20 : W.cell? ⟨w6.heap.size + 1, 0, none⟩ = some (.int .u64 (r0 : Nat)) := by rw [hW]; go_cell
      have q21 : W.cell? ⟨w6.heap.size + 1, 1, none⟩ = some (.int .i64 (-1)) := by rw [hW]; go_cell
      have rs7 := rs6.later hb7
      have rb7 := rb6.later hb7
      have rd7 := rd6.later hb7
      have HB7 : Hid (Below w.heap.size w W) := hb6'.trans (hb7.mono hb6'.size)
      have hsum : bs.length + (enc r0 n0).length = N := by have := rs7.1; rw [List.length_append] at this; exact this
      clear x60 x61 rs6 rb6 rd6 hb6' hb7 hW
      generalize w6.heap.size = yb at *
      have HS : Hid (∀ w', Below W.heap.size W w' → Below W.heap.size W w' ∧ w'.cell? ⟨w.heap.size, 0, none⟩ = some (.int .u64 (r0 : Nat)) ∧ w'.cell? ⟨w.heap.size, 1, none⟩ = some (.int .i64 n0) ∧ w'.cell? ⟨yb, 0, none⟩ = some (.int .u64 (r0 : Nat)) ∧ w'.cell? ⟨yb, 1, none⟩ = some (.int .i64 (-1)) ∧ w'.cell? ⟨yb + 1, 0, none⟩ = some (.int .u64 (r0 : Nat)) ∧ w'.cell? ⟨yb + 1, 1, none⟩ = some (.int .i64 (-1)) ∧ (convert 37 9 (.slice a1 m cap1)).run Try.prog w' = .ok (.string (str bs)) w' ∧ (convert 37 9 (.slice (some ⟨g3, 0, none⟩) N N)).run Try.prog w' = .ok (.string (str (bs ++ enc r0 n0))) w' ∧ Rd w' g4 (some [])) := fun w' hb => ⟨hb, cell_later hb q00, cell_later hb q01, cell_later hb q10, cell_later hb q11, cell_later hb q20, cell_later hb q21, conv_row (rb7.later hb) _, conv_row (rs7.later hb) _, rd7.later hb⟩
      have ha : ∀ w, (Op.stringOp .add (str bs) (str (enc r0 n0))).run Try.prog w = .ok (.string (str (bs ++ enc r0 n0))) w := fun w => add_str _ _ w (by omega)
      have hne : ∀ w, (binOp .neq 24 (bal r0 (-1)) (bal r0 (-1))).run Try.prog w = .ok (.bool false) w := neq_same r0 (-1)
      clear q00 q01 q10 q11 q20 q21 rs7 rd7 hsum hx6
      have hd0 : Below W.heap.size W W.drew := (Below.refl _ _).drew
      refine wp_region_noPanic ?_
      refine wp_region_held_drew (S := (fun w' => Below W.heap.size W w' ∧ w'.cell? ⟨w.heap.size, 0, none⟩ = some (.int .u64 (r0 : Nat)) ∧ w'.cell? ⟨w.heap.size, 1, none⟩ = some (.int .i64 n0) ∧ w'.cell? ⟨yb, 0, none⟩ = some (.int .u64 (r0 : Nat)) ∧ w'.cell? ⟨yb, 1, none⟩ = some (.int .i64 (-1)) ∧ w'.cell? ⟨yb + 1, 0, none⟩ = some (.int .u64 (r0 : Nat)) ∧ w'.cell? ⟨yb + 1, 1, none⟩ = some (.int .i64 (-1)) ∧ (convert 37 9 (.slice a1 m cap1)).run Try.prog w' = .ok (.string (str bs)) w' ∧ (convert 37 9 (.slice (some ⟨g3, 0, none⟩) N N)).run Try.prog w' = .ok (.string (str (bs ++ enc r0 n0))) w' ∧ Rd w' g4 (some []))) (by kernel_rfl) ?_ (fun hHeld => ?_)
      · exact HS.out _ hd0
      refine held_take (i := 0) (d := 44) (v := ?_) rfl rfl (by kernel_rfl) (by kernel_rfl) (by kernel_rfl) (fun _ _ _ h => h) (Or.inl ⟨by rfl, ?_⟩) hHeld ?_
      rotate_left
      · (intro w hSw; (try dsimp only at hSw); go_simp; all_goals (with_reducible rfl))
      try simp only [Act.put, List.setIfInBounds_toArray, List.set_cons_zero, List.set_cons_succ]
      refine held_take (i := 1) (d := 45) (v := ?_) rfl rfl (by kernel_rfl) (by kernel_rfl) (by kernel_rfl) (fun _ _ _ h => h) (Or.inl ⟨by rfl, ?_⟩) hHeld ?_
      rotate_left
      · (intro w hSw; (try dsimp only at hSw); go_simp; all_goals (with_reducible rfl))
      try simp only [Act.put, List.setIfInBounds_toArray, List.set_cons_zero, List.set_cons_succ]
      refine held_take (i := 2) (d := 46) (v := ?_) rfl rfl (by kernel_rfl) (by kernel_rfl) (by kernel_rfl) (fun _ _ _ h => h) (Or.inl ⟨by rfl, ?_⟩) hHeld ?_
      rotate_left
      · (intro w hSw; (try dsimp only at hSw); go_simp; all_goals (with_reducible rfl))
      try simp only [Act.put, List.setIfInBounds_toArray, List.set_cons_zero, List.set_cons_succ]
      refine held_take (i := 3) (d := 47) (v := ?_) rfl rfl (by kernel_rfl) (by kernel_rfl) (by kernel_rfl) (fun _ _ _ h => h) (Or.inl ⟨by rfl, ?_⟩) hHeld ?_
      rotate_left
      · (intro w hSw; (try dsimp only at hSw); go_simp; all_goals (with_reducible rfl))
      try simp only [Act.put, List.setIfInBounds_toArray, List.set_cons_zero, List.set_cons_succ]
      refine held_take (i := 4) (d := 48) (v := ?_) rfl rfl (by kernel_rfl) (by kernel_rfl) (by kernel_rfl) (fun _ _ _ h => h) (Or.inl ⟨by rfl, ?_⟩) hHeld ?_
      rotate_left
      · (intro w hSw; (try dsimp only at hSw); go_simp; all_goals (with_reducible rfl))
      try simp only [Act.put, List.setIfInBounds_toArray, List.set_cons_zero, List.set_cons_succ]
      refine wpAnyH_ready (rs := [5]) (by kernel_rfl) (by simp) ?_
      refine AllReadyH.cons rfl (fun K hK => ?_) AllReadyH.nil
      go_simp
      refine (ref_bput_any r0 n0 _ hr0).mono ?_
      rintro e u1 ⟨a4, n4, cap4, rfl, r4, hu1⟩
      replace hu1 : Below W.heap.size W u1 := hd0.trans (hu1.mono hd0.size)
      go_wp2_with fail
      refine hK.out _ _ ?_ (fun hHeld => ?_)
      · exact HS.out _ hu1
      clear hK K
      try simp only [Act.put, List.setIfInBounds_toArray, List.set_cons_zero, List.set_cons_succ]
      have HS2 : Hid (∀ w', Below u1.heap.size u1 w' → (Below W.heap.size W w' ∧ w'.cell? ⟨w.heap.size, 0, none⟩ = some (.int .u64 (r0 : Nat)) ∧ w'.cell? ⟨w.heap.size, 1, none⟩ = some (.int .i64 n0) ∧ w'.cell? ⟨yb, 0, none⟩ = some (.int .u64 (r0 : Nat)) ∧ w'.cell? ⟨yb, 1, none⟩ = some (.int .i64 (-1)) ∧ w'.cell? ⟨yb + 1, 0, none⟩ = some (.int .u64 (r0 : Nat)) ∧ w'.cell? ⟨yb + 1, 1, none⟩ = some (.int .i64 (-1)) ∧ (convert 37 9 (.slice a1 m cap1)).run Try.prog w' = .ok (.string (str bs)) w' ∧ (convert 37 9 (.slice (some ⟨g3, 0, none⟩) N N)).run Try.prog w' = .ok (.string (str (bs ++ enc r0 n0))) w' ∧ Rd w' g4 (some [])) ∧ (convert 37 9 (.slice a4 n4 cap4)).run Try.prog w' = .ok (.string (str (enc r0 n0))) w') := fun w' hb => ⟨HS.out _ (hu1.trans (hb.mono hu1.size)), conv_row (r4.later hb) _⟩
      refine held_mono (S' := (fun w' => (Below W.heap.size W w' ∧ w'.cell? ⟨w.heap.size, 0, none⟩ = some (.int .u64 (r0 : Nat)) ∧ w'.cell? ⟨w.heap.size, 1, none⟩ = some (.int .i64 n0) ∧ w'.cell? ⟨yb, 0, none⟩ = some (.int .u64 (r0 : Nat)) ∧ w'.cell? ⟨yb, 1, none⟩ = some (.int .i64 (-1)) ∧ w'.cell? ⟨yb + 1, 0, none⟩ = some (.int .u64 (r0 : Nat)) ∧ w'.cell? ⟨yb + 1, 1, none⟩ = some (.int .i64 (-1)) ∧ (convert 37 9 (.slice a1 m cap1)).run Try.prog w' = .ok (.string (str bs)) w' ∧ (convert 37 9 (.slice (some ⟨g3, 0, none⟩) N N)).run Try.prog w' = .ok (.string (str (bs ++ enc r0 n0))) w' ∧ Rd w' g4 (some [])) ∧ (convert 37 9 (.slice a4 n4 cap4)).run Try.prog w' = .ok (.string (str (enc r0 n0))) w')) (fun _ h => h.1) _ _ _ _ ?_
      replace hHeld := HS2.out _ (Below.refl _ _)
      refine held_take (i := 6) (d := 50) (v := ?_) rfl rfl (by kernel_rfl) (by kernel_rfl) (by kernel_rfl) (fun _ _ _ h => h) (Or.inl ⟨by rfl, ?_⟩) hHeld ?_
      rotate_left
      · (intro w hSw; (try dsimp only at hSw); go_simp; all_goals (with_reducible rfl))
      try simp only [Act.put, List.setIfInBounds_toArray, List.set_cons_zero, List.set_cons_succ]
      refine held_take (i := 7) (d := 51) (v := ?_) rfl rfl (by kernel_rfl) (by kernel_rfl) (by kernel_rfl) (fun _ _ _ h => h) (Or.inl ⟨by rfl, ?_⟩) hHeld ?_
      rotate_left
      · (intro w hSw; (try dsimp only at hSw); go_simp; all_goals (with_reducible rfl))
      try simp only [Act.put, List.setIfInBounds_toArray, List.set_cons_zero, List.set_cons_succ]
      refine held_take (i := 8) (d := 52) (v := ?_) rfl rfl (by kernel_rfl) (by kernel_rfl) (by kernel_rfl) (fun _ _ _ h => h) (Or.inl ⟨by rfl, ?_⟩) hHeld ?_
      rotate_left
      · (intro w hSw; (try dsimp only at hSw); go_simp; all_goals (with_reducible rfl))
      try simp only [Act.put, List.setIfInBounds_toArray, List.set_cons_zero, List.set_cons_succ]
      refine held_take (i := 9) (d := 53) (v := ?_) rfl rfl (by kernel_rfl) (by kernel_rfl) (by kernel_rfl) (fun _ _ _ h => h) (Or.inl ⟨by rfl, ?_⟩) hHeld ?_
      rotate_left
      · (intro w hSw; (try dsimp only at hSw); go_simp; all_goals (with_reducible rfl))
      try simp only [Act.put, List.setIfInBounds_toArray, List.set_cons_zero, List.set_cons_succ]
      refine held_take (i := 10) (d := 54) (v := ?_) rfl rfl (by kernel_rfl) (by kernel_rfl) (by kernel_rfl) (fun _ _ _ h => h) (Or.inl ⟨by rfl, ?_⟩) hHeld ?_
      rotate_left
      · (intro w hSw; (try dsimp only at hSw); go_simp; all_goals (with_reducible rfl))
      try simp only [Act.put, List.setIfInBounds_toArray, List.set_cons_zero, List.set_cons_succ]
      refine held_take (i := 11) (d := 55) (v := ?_) rfl rfl (by kernel_rfl) (by kernel_rfl) (by kernel_rfl) (fun _ _ _ h => h) (Or.inl ⟨by rfl, ?_⟩) hHeld ?_
      rotate_left
      · (intro w hSw; (try dsimp only at hSw); go_simp; all_goals (with_reducible rfl))
      try simp only [Act.put, List.setIfInBounds_toArray, List.set_cons_zero, List.set_cons_succ]
      refine held_take (i := 12) (d := 56) (v := ?_) rfl rfl (by kernel_rfl) (by kernel_rfl) (by kernel_rfl) (fun _ _ _ h => h) (Or.inl ⟨by rfl, ?_⟩) hHeld ?_
      rotate_left
      · (intro w hSw; (try dsimp only at hSw); go_simp; all_goals (with_reducible rfl))
      try simp only [Act.put, List.setIfInBounds_toArray, List.set_cons_zero, List.set_cons_succ]
      refine held_take (i := 13) (d := 57) (v := ?_) rfl rfl (by kernel_rfl) (by kernel_rfl) (by kernel_rfl) (fun _ _ _ h => h) (Or.inl ⟨by rfl, ?_⟩) hHeld ?_
      rotate_left
      · (intro w hSw; (try dsimp only at hSw); go_simp; all_goals (with_reducible rfl))
      try simp only [Act.put, List.setIfInBounds_toArray, List.set_cons_zero, List.set_cons_succ]
      refine held_take (i := 14) (d := 58) (v := ?_) rfl rfl (by kernel_rfl) (by kernel_rfl) (by kernel_rfl) (fun _ _ _ h => h) (Or.inl ⟨by rfl, ?_⟩) hHeld ?_
      rotate_left
      · (intro w hSw; (try dsimp only at hSw); go_simp; all_goals (with_reducible rfl))
      try simp only [Act.put, List.setIfInBounds_toArray, List.set_cons_zero, List.set_cons_succ]
      refine held_take (i := 15) (d := 59) (v := ?_) rfl rfl (by kernel_rfl) (by kernel_rfl) (by kernel_rfl) (fun _ _ _ h => h) (Or.inl ⟨by rfl, ?_⟩) hHeld ?_
      rotate_left
      · (intro w hSw; (try dsimp only at hSw); go_simp; all_goals (with_reducible rfl))
      try simp only [Act.put, List.setIfInBounds_toArray, List.set_cons_zero, List.set_cons_succ]
      refine wpAnyH_ready (rs := [16]) (by kernel_rfl) (by simp) ?_
      refine AllReadyH.cons rfl (fun K hK => ?_) AllReadyH.nil
      go_simp
      refine (done_any g4 _ _ hHeld.1.2.2.2.2.2.2.2.2.2).mono ?_
      rintro e u2 ⟨rfl, hu2⟩
      subst u2
      rw [show ((some [] : Option (List Nat)) == some []) = true from rfl]
      go_wp2_with fail
      refine hK.out _ _ ?_ (fun hHeld => ?_)
      · exact HS2.out _ (Below.refl _ _)
      clear hK K
      try simp only [Act.put, List.setIfInBounds_toArray, List.set_cons_zero, List.set_cons_succ]
      refine held_take (i := 17) (d := 61) (v := ?_) rfl rfl (by kernel_rfl) (by kernel_rfl) (by kernel_rfl) (fun _ _ _ h => h) (Or.inl ⟨by rfl, ?_⟩) hHeld ?_
      rotate_left
      · (intro w hSw; (try dsimp only at hSw); go_simp; all_goals (with_reducible rfl))
      try simp only [Act.put, List.setIfInBounds_toArray, List.set_cons_zero, List.set_cons_succ]
      refine held_take (i := 18) (d := 62) (v := ?_) rfl rfl (by kernel_rfl) (by kernel_rfl) (by kernel_rfl) (fun _ _ _ h => h) (Or.inl ⟨by rfl, ?_⟩) hHeld ?_
      rotate_left
      · (intro w hSw; (try dsimp only at hSw); go_simp; all_goals (with_reducible rfl))
      try simp only [Act.put, List.setIfInBounds_toArray, List.set_cons_zero, List.set_cons_succ]
      refine wpAnyH_done (by kernel_rfl) ?_ _
      refine NoPanic.normal ?_
      have HBu : Hid (Below w.heap.size w u1) := HB7.out.trans (hu1.mono HB7.out.size)
      have rb8 : Row u1 a1 m bs := rb7.later hu1
      clear ha hne HS HS2 hHeld hd0 HB7 hu1 r4 rb7
      go_wp2_with fail
      have hws := HBu.out.size
      refine (new_any a1 m cap1 bs _ rb8 f1.2.2 (by omega)).mono ?_
      rintro e v1 ⟨gq, rfl, rd1, hgq, hv1⟩
      have rb9 := rb8.later hv1
      have hgl := rd1.lt
      have HB1 : Hid (Below w.heap.size w v1) := HBu.out.trans (hv1.mono HBu.out.size)
      obtain ⟨D, hD⟩ : ∃ D, D = dec (some bs) := ⟨_, rfl⟩
      have hv2 : Below v1.heap.size v1 (v1.alloc (.cells #[.slice a1 m cap1, .int .i64 0, .bool false] 45)) := (Below.refl _ _).alloc (Nat.le_refl _) _
      have rd2 := rd1.later hv2
      have rb10 := rb9.later hv2
      have rf2 : Rf (v1.alloc (.cells #[.slice a1 m cap1, .int .i64 0, .bool false] 45)) v1.heap.size a1 m cap1 bs (some bs) := ⟨0, Nat.zero_le _, by show (v1.heap.push _)[v1.heap.size]? = _; simp, by simp⟩
      have HB2 : Hid (Below w.heap.size w (v1.alloc (.cells #[.slice a1 m cap1, .int .i64 0, .bool false] 45))) := HB1.out.alloc HB1.out.size _
      clear hv1 rd1 rb8 rb9 hv2 HBu
      go_wp2_with fail
      refine (bread_any gq _ _ rd2).mono ?_
      rw [← hD]
      rintro e v3 ⟨rfl, rd3, ho3⟩
      have rf3 := rf2.only ho3 (by omega)
      have rb11 := rb10.only ho3 (fun x hx h0 => by have := HAB.out x hx h0; omega)
      have HB3 : Hid (Below w.heap.size w v3) := HB2.out.trans (ho3.below (by omega) HB2.out.size)
      have hpl : v1.heap.size < v3.heap.size := by have := ho3.size; simp at this; omega
      have hws1 := HB1.out.size
      clear rf2 rb10 ho3 HB1 HB2 rd2
      generalize v1.heap.size = pg at *
      obtain ⟨⟨d1, d2⟩, d3⟩ := D
      simp only at rd3
      go_wp2_with fail
      refine (plain_any d1 d2 _).mono ?_
      rintro e v4 ⟨rfl, hv4⟩
      have rf4 := rf3.later hv4
      have rb12 := rb11.later hv4
      have rd4 := rd3.later hv4
      have HB4 : Hid (Below w.heap.size w v4) := HB3.out.trans (hv4.mono HB3.out.size)
      have hpl4 : pg < v4.heap.size := by have := hv4.size; omega
      clear rf3 rb11 rd3 HB3 hv4
      go_wp2_with fail
      obtain ⟨V, hV⟩ : ∃ V, V = v4.alloc (.cells #[.int .u64 (d1 : Nat), .int .i64 d2] 24) := ⟨_, rfl⟩
      rw [← hV]
      have hv5 : Below v4.heap.size v4 V := by rw [hV]; exact (Below.refl _ _).alloc (Nat.le_refl _) _
      have z0 : V.cell? ⟨v4.heap.size, 0, none⟩ = some (.int .u64 (d1 : Nat)) := by rw [hV]; simp
      have z1 : V.cell? ⟨v4.heap.size, 1, none⟩ = some (.int .i64 d2) := by rw [hV]; simp
      have rf5 := rf4.later hv5
      have rb13 := rb12.later hv5
      have rd5 := rd4.later hv5
      have HBV : Hid (Below w.heap.size w V) := HB4.out.trans (hv5.mono HB4.out.size)
      clear rf4 rb12 rd4 HB4 hV hv5
      generalize v4.heap.size = zb at *
      have HS : Hid (∀ w', Only pg V w' → Only pg V w' ∧ w'.cell? ⟨zb, 0, none⟩ = some (.int .u64 (d1 : Nat)) ∧ w'.cell? ⟨zb, 1, none⟩ = some (.int .i64 d2) ∧ Rd w' gq d3) := fun w' ho => ⟨ho, World.grownBy.cell ho z0 (by simp; omega), World.grownBy.cell ho z1 (by simp; omega), rd5.only ho hgl⟩
      have HRD : Hid (∀ w', Below V.heap.size V w' → Calls Try.prog 23 #[.pointer (some ⟨pg, 0, none⟩)] w' fun e w'' => e = .returned (bal d1 d2) ∧ Rf w'' pg a1 m cap1 bs d3 ∧ Only pg w' w'') := fun w' hb => by
        have := ref_bread_any pg a1 m cap1 bs (some bs) w' (rf5.later hb) (rb13.later hb) (fun x hx h0 => by have := HAB.out x hx h0; omega) (by have := f1.1; omega) f1.2.1 (by omega)
        rw [← hD] at this
        exact this
      have heqs : ∀ w, (binOp .eql 24 (bal d1 d2) (bal d1 d2)).run Try.prog w = .ok (.bool true) w := eql_same d1 d2
      have hrl := rb13.1
      clear z0 z1 rd5 rf5 rb13 hD
      have hd1 : Below V.heap.size V V.drew := (Below.refl _ _).drew
      have hd0 : Only pg V V.drew := Below.only hd1
      refine wp_region_noPanic ?_
      refine wp_region_held_drew (S := (fun w' => Only pg V w' ∧ w'.cell? ⟨zb, 0, none⟩ = some (.int .u64 (d1 : Nat)) ∧ w'.cell? ⟨zb, 1, none⟩ = some (.int .i64 d2) ∧ Rd w' gq d3)) (by kernel_rfl) ?_ (fun hHeld => ?_)
      · exact HS.out _ hd0
      refine held_take (i := 0) (d := 71) (v := ?_) rfl rfl (by kernel_rfl) (by kernel_rfl) (by kernel_rfl) (fun _ _ _ h => h) (Or.inl ⟨by rfl, ?_⟩) hHeld ?_
      rotate_left
      · (intro w hSw; (try dsimp only at hSw); go_simp; all_goals (with_reducible rfl))
      try simp only [Act.put, List.setIfInBounds_toArray, List.set_cons_zero, List.set_cons_succ]
      refine held_take (i := 1) (d := 72) (v := ?_) rfl rfl (by kernel_rfl) (by kernel_rfl) (by kernel_rfl) (fun _ _ _ h => h) (Or.inl ⟨by rfl, ?_⟩) hHeld ?_
      rotate_left
      · (intro w hSw; (try dsimp only at hSw); go_simp; all_goals (with_reducible rfl))
      try simp only [Act.put, List.setIfInBounds_toArray, List.set_cons_zero, List.set_cons_succ]
      refine wpAnyH_ready (rs := [2]) (by kernel_rfl) (by simp) ?_
      refine AllReadyH.cons rfl (fun K hK => ?_) AllReadyH.nil
      go_simp
      refine (HRD.out _ hd1).mono ?_
      rintro e t1 ⟨rfl, rft, ht1⟩
      replace ht1 : Only pg V t1 := hd0.trans ht1
      go_wp2_with fail
      refine hK.out _ _ ?_ (fun hHeld => ?_)
      · exact HS.out _ ht1
      clear hK K
      try simp only [Act.put, List.setIfInBounds_toArray, List.set_cons_zero, List.set_cons_succ]
      have HS2 : Hid (∀ w', Below t1.heap.size t1 w' → (Only pg V w' ∧ w'.cell? ⟨zb, 0, none⟩ = some (.int .u64 (d1 : Nat)) ∧ w'.cell? ⟨zb, 1, none⟩ = some (.int .i64 d2) ∧ Rd w' gq d3) ∧ Rf w' pg a1 m cap1 bs d3 ∧ w'.cell? ⟨pg, 2, none⟩ = some (.bool d3.isNone)) := fun w' hb => ⟨HS.out _ (ht1.trans (Below.only hb)), rft.later hb, by obtain ⟨p, _, hh, _⟩ := rft.later hb; exact cell_of_heap hh rfl⟩
      refine held_mono (S' := (fun w' => (Only pg V w' ∧ w'.cell? ⟨zb, 0, none⟩ = some (.int .u64 (d1 : Nat)) ∧ w'.cell? ⟨zb, 1, none⟩ = some (.int .i64 d2) ∧ Rd w' gq d3) ∧ Rf w' pg a1 m cap1 bs d3 ∧ w'.cell? ⟨pg, 2, none⟩ = some (.bool d3.isNone))) (fun _ h => h.1) _ _ _ _ ?_
      replace hHeld := HS2.out _ (Below.refl _ _)
      refine held_take (i := 3) (d := 74) (v := ?_) rfl rfl (by kernel_rfl) (by kernel_rfl) (by kernel_rfl) (fun _ _ _ h => h) (Or.inl ⟨by rfl, ?_⟩) hHeld ?_
      rotate_left
      · (intro w hSw; (try dsimp only at hSw); go_simp; all_goals (with_reducible rfl))
      try simp only [Act.put, List.setIfInBounds_toArray, List.set_cons_zero, List.set_cons_succ]
      refine held_take (i := 4) (d := 75) (v := ?_) rfl rfl (by kernel_rfl) (by kernel_rfl) (by kernel_rfl) (fun _ _ _ h => h) (Or.inl ⟨by rfl, ?_⟩) hHeld ?_
      rotate_left
      · (intro w hSw; (try dsimp only at hSw); go_simp; all_goals (with_reducible rfl))
      try simp only [Act.put, List.setIfInBounds_toArray, List.set_cons_zero, List.set_cons_succ]
      refine held_take (i := 5) (d := 76) (v := ?_) rfl rfl (by kernel_rfl) (by kernel_rfl) (by kernel_rfl) (fun _ _ _ h => h) (Or.inl ⟨by rfl, ?_⟩) hHeld ?_
      rotate_left
      · (intro w hSw; (try dsimp only at hSw); go_simp; all_goals (with_reducible rfl))
      try simp only [Act.put, List.setIfInBounds_toArray, List.set_cons_zero, List.set_cons_succ]
      refine held_take (i := 7) (d := 78) (v := ?_) rfl rfl (by kernel_rfl) (by kernel_rfl) (by kernel_rfl) (fun _ _ _ h => h) (Or.inl ⟨by rfl, ?_⟩) hHeld ?_
      rotate_left
      · (intro w hSw; (try dsimp only at hSw); go_simp; all_goals (with_reducible rfl))
      try simp only [Act.put, List.setIfInBounds_toArray, List.set_cons_zero, List.set_cons_succ]
      refine held_take (i := 8) (d := 79) (v := ?_) rfl rfl (by kernel_rfl) (by kernel_rfl) (by kernel_rfl) (fun _ _ _ h => h) (Or.inl ⟨by rfl, ?_⟩) hHeld ?_
      rotate_left
      · (intro w hSw; (try dsimp only at hSw); go_simp; all_goals (with_reducible rfl))
      try simp only [Act.put, List.setIfInBounds_toArray, List.set_cons_zero, List.set_cons_succ]
      refine held_take (i := 9) (d := 80) (v := ?_) rfl rfl (by kernel_rfl) (by kernel_rfl) (by kernel_rfl) (fun _ _ _ h => h) (Or.inl ⟨by rfl, ?_⟩) hHeld ?_
      rotate_left
      · (intro w hSw; (try dsimp only at hSw); go_simp; all_goals (with_reducible rfl))
      try simp only [Act.put, List.setIfInBounds_toArray, List.set_cons_zero, List.set_cons_succ]
      refine held_take (i := 10) (d := 81) (v := ?_) rfl rfl (by kernel_rfl) (by kernel_rfl) (by kernel_rfl) (fun _ _ _ h => h) (Or.inl ⟨by rfl, ?_⟩) hHeld ?_
      rotate_left
      · (intro w hSw; (try dsimp only at hSw); go_simp; all_goals (with_reducible rfl))
      try simp only [Act.put, List.setIfInBounds_toArray, List.set_cons_zero, List.set_cons_succ]
      refine wpAnyH_ready (rs := [6]) (by kernel_rfl) (by simp) ?_
      refine AllReadyH.cons rfl (fun K hK => ?_) AllReadyH.nil
      go_simp
      refine (bad_any gq _ _ hHeld.1.2.2.2).mono ?_
      rintro e t2 ⟨rfl, hw⟩
      subst t2
      go_wp2_with fail
      refine hK.out _ _ ?_ (fun hHeld => ?_)
      · exact HS2.out _ (Below.refl _ _)
      clear hK K
      try simp only [Act.put, List.setIfInBounds_toArray, List.set_cons_zero, List.set_cons_succ]
      refine held_take (i := 11) (d := 82) (v := ?_) rfl rfl (by kernel_rfl) (by kernel_rfl) (by kernel_rfl) (fun _ _ _ h => h) (Or.inl ⟨by rfl, ?_⟩) hHeld ?_
      rotate_left
      · (intro w hSw; (try dsimp only at hSw); go_simp; all_goals (with_reducible rfl))
      try simp only [Act.put, List.setIfInBounds_toArray, List.set_cons_zero, List.set_cons_succ]
      refine held_take (i := 12) (d := 83) (v := ?_) rfl rfl (by kernel_rfl) (by kernel_rfl) (by kernel_rfl) (fun _ _ _ h => h) (Or.inl ⟨by rfl, ?_⟩) hHeld ?_
      rotate_left
      · (intro w hSw; (try dsimp only at hSw); go_simp; all_goals (with_reducible rfl))
      try simp only [Act.put, List.setIfInBounds_toArray, List.set_cons_zero, List.set_cons_succ]
      refine held_take (i := 13) (d := 84) (v := ?_) rfl rfl (by kernel_rfl) (by kernel_rfl) (by kernel_rfl) (fun _ _ _ h => h) (Or.inl ⟨by rfl, ?_⟩) hHeld ?_
      rotate_left
      · (intro w hSw; (try dsimp only at hSw); go_simp; all_goals (with_reducible rfl))
      try simp only [Act.put, List.setIfInBounds_toArray, List.set_cons_zero, List.set_cons_succ]
      refine held_take (i := 14) (d := 85) (v := ?_) rfl rfl (by kernel_rfl) (by kernel_rfl) (by kernel_rfl) (fun _ _ _ h => h) (Or.inl ⟨by rfl, ?_⟩) hHeld ?_
      rotate_left
      · (intro w hSw; (try dsimp only at hSw); go_simp; all_goals (with_reducible rfl))
      try simp only [Act.put, List.setIfInBounds_toArray, List.set_cons_zero, List.set_cons_succ]
      refine held_take (i := 16) (d := 87) (v := ?_) rfl rfl (by kernel_rfl) (by kernel_rfl) (by kernel_rfl) (fun _ _ _ h => h) (Or.inl ⟨by rfl, ?_⟩) hHeld ?_
      rotate_left
      · (intro w hSw; (try dsimp only at hSw); go_simp; all_goals (with_reducible rfl))
      try simp only [Act.put, List.setIfInBounds_toArray, List.set_cons_zero, List.set_cons_succ]
      refine wpAnyH_ready (rs := [15]) (by kernel_rfl) (by simp) ?_
      refine AllReadyH.cons rfl (fun K hK => ?_) AllReadyH.nil
      go_simp
      refine (left_any gq _ _ hHeld.1.2.2.2).mono ?_
      rintro e t2 ⟨rfl, hw⟩
      subst t2
      go_wp2_with fail
      refine hK.out _ _ ?_ (fun hHeld => ?_)
      · exact HS2.out _ (Below.refl _ _)
      clear hK K
      try simp only [Act.put, List.setIfInBounds_toArray, List.set_cons_zero, List.set_cons_succ]
      refine wpAnyH_ready (rs := [17]) (by kernel_rfl) (by simp) ?_
      refine AllReadyH.cons rfl (fun K hK => ?_) AllReadyH.nil
      go_simp
      refine (refleft_any pg a1 m cap1 bs _ _ hHeld.2.1 hrl (by omega)).mono ?_
      rintro e t3 ⟨rfl, kk, hw⟩
      have ht3 : Below t1.heap.size t1 t3 := by rw [hw]; exact below_drewN (Below.refl _ _) _
      clear hw
      go_wp2_with fail
      refine hK.out _ _ ?_ (fun hHeld => ?_)
      · exact HS2.out _ ht3
      clear hK K
      try simp only [Act.put, List.setIfInBounds_toArray, List.set_cons_zero, List.set_cons_succ]
      refine held_take (i := 18) (d := 89) (v := ?_) rfl rfl (by kernel_rfl) (by kernel_rfl) (by kernel_rfl) (fun _ _ _ h => h) (Or.inl ⟨by rfl, ?_⟩) hHeld ?_
      rotate_left
      · (intro w hSw; (try dsimp only at hSw); go_simp; all_goals (with_reducible rfl))
      try simp only [Act.put, List.setIfInBounds_toArray, List.set_cons_zero, List.set_cons_succ]
      refine held_take (i := 19) (d := 90) (v := ?_) rfl rfl (by kernel_rfl) (by kernel_rfl) (by kernel_rfl) (fun _ _ _ h => h) (Or.inl ⟨by rfl, ?_⟩) hHeld ?_
      rotate_left
      · (intro w hSw; (try dsimp only at hSw); go_simp; all_goals (with_reducible rfl))
      try simp only [Act.put, List.setIfInBounds_toArray, List.set_cons_zero, List.set_cons_succ]
      refine held_take (i := 20) (d := 91) (v := ?_) rfl rfl (by kernel_rfl) (by kernel_rfl) (by kernel_rfl) (fun _ _ _ h => h) (Or.inl ⟨by rfl, ?_⟩) hHeld ?_
      rotate_left
      · (intro w hSw; (try dsimp only at hSw); go_simp; all_goals (with_reducible rfl))
      try simp only [Act.put, List.setIfInBounds_toArray, List.set_cons_zero, List.set_cons_succ]
      refine wpAnyH_ready (rs := [21]) (by kernel_rfl) (by simp) ?_
      refine AllReadyH.cons rfl (fun K hK => ?_) AllReadyH.nil
      go_simp
      refine (awake7_any _).mono ?_
      rintro e t4 ⟨rfl, hw4⟩
      subst t4
      go_wp2_with fail
      refine hK.out _ _ ?_ (fun hHeld => ?_)
      · exact HS2.out _ ht3
      clear hK K
      try simp only [Act.put, List.setIfInBounds_toArray, List.set_cons_zero, List.set_cons_succ]
      refine held_take (i := 22) (d := 93) (v := ?_) rfl rfl (by kernel_rfl) (by kernel_rfl) (by kernel_rfl) (fun _ _ _ h => h) (Or.inl ⟨by rfl, ?_⟩) hHeld ?_
      rotate_left
      · (intro w hSw; (try dsimp only at hSw); go_simp; all_goals (with_reducible rfl))
      try simp only [Act.put, List.setIfInBounds_toArray, List.set_cons_zero, List.set_cons_succ]
      refine held_take (i := 23) (d := 4) (v := ?_) rfl rfl (by kernel_rfl) (by kernel_rfl) (by kernel_rfl) (fun _ _ _ h => h) (Or.inl ⟨by rfl, ?_⟩) hHeld ?_
      rotate_left
      · (intro w hSw; (try dsimp only at hSw); go_simp; all_goals (with_reducible rfl))
      try simp only [Act.put, List.setIfInBounds_toArray, List.set_cons_zero, List.set_cons_succ]
      refine wpAnyH_done (by kernel_rfl) ?_ _
      refine NoPanic.normal ?_
      go_wp2
      go_ret
      have hA := HBV.out.trans (ht1.below (by omega) HBV.out.size)
      exact ⟨rfl, hA.trans (ht3.mono hA.size)⟩
  · have rb := w1.row 60 (by omega)
    rw [Nat.min_eq_right (by omega)] at HAB
    obtain ⟨ab, aoff, rfl⟩ := w1.addr (by omega)
    have fm := f1.2.1
    unfold maxLen at fm
    generalize firsts z1 60 = bs at rb
    clear w1
    rcases (show (0 ≤ n0 ∧ n0 < 5) ∨ n0 < 0 ∨ (0 ≤ n0 ∧ 4 < n0) by omega) with hk | hk1 | ⟨hk1, hk2⟩
    · have k1 := hk.1
      have k2 := hk.2
      go_enter Try.func5, Try.ntmps5
      go_wp2_with fail
      refine (ours_any r0 n0 _).mono ?_
      rintro e w2 ⟨rfl, hb2⟩
      have hb2' := hb0.trans (hb2.mono hb0.size)
      have rb2 := rb.later hb2'
      go_wp2_with fail
      refine (bput_any _ 60 cap1 r0 n0 bs _ rb2 f1.2.2 (by omega) hr0).mono ?_
      rintro e w3 ⟨g3, N, rfl, rs3, hN, hb3⟩
      have hb3' := hb2'.trans (hb3.mono hb2'.size)
      have x30 : w3.cell? ⟨w.heap.size, 0, none⟩ = some (.int .u64 (r0 : Nat)) := cell_later hb3 (cell_later hb2 (by simp))
      have x31 : w3.cell? ⟨w.heap.size, 1, none⟩ = some (.int .i64 n0) := cell_later hb3 (cell_later hb2 (by simp))
      have hel : (enc r0 n0).length = N - 60 ∧ 60 < N := by
        have h1 := rs3.1
        have h2 := rb2.1
        have h3 := (Oct.putF_len 9 r0).1
        rw [List.length_append] at h1
        have h4 : (enc r0 n0).length = (Oct.putF 9 r0).length + (Oct.put (code n0)).length := by unfold enc; rw [List.length_append]; rfl
        omega
      have HG3 : Hid (g3 < w3.heap.size) := by
        obtain ⟨b, off, hb, hcc⟩ := rs3.at (by omega)
        simp only [Option.some.injEq, Addr.mk.injEq] at hb
        obtain ⟨rfl, _⟩ := hb
        exact World.block_lt_of_cell? _ _ (hcc 0 (by omega))
      have rd3 := rs3.drop 60 (by omega)
      rw [show List.drop 60 (bs ++ enc r0 n0) = enc r0 n0 by rw [← rb2.1, List.drop_left]] at rd3
      simp only [Nat.zero_add] at rd3
      have hNm : ¬ N = 60 := by omega
      have hmN : (60 : Int) ≤ (N : Int) := by omega
      have hmN2 : ¬ (N : Int) < (60 : Int) := by omega
      go_wp2_with fail
      refine (new_any _ (N - 60) (N - 60) _ _ rd3 (by simp) (by omega)).mono ?_
      rintro e w4 ⟨g4, rfl, rd4, hg4, hb4⟩
      have hb4' := hb3'.trans (hb4.mono hb3'.size)
      have x40 := cell_later hb4 x30
      have x41 := cell_later hb4 x31
      have rs4 := rs3.later hb4
      have rb4 := rb2.later (hb3.trans (hb4.mono hb3.size))
      have hx3 : w.heap.size < w3.heap.size := World.block_lt_of_cell? _ _ x30
      clear rs3 rd3 hb3 hb2 x30 x31 hel
      go_wp2_with fail
      refine (bread_any g4 _ _ rd4).mono ?_
      have hde := dec_enc r0 n0 hr0 []
      rw [List.append_nil] at hde
      rw [hde, if_pos hk]
      rintro e w5 ⟨rfl, rd5, ho5⟩
      clear hde
      have g3lt : g3 < w3.heap.size := HG3.out
      have rs5 := rs4.only ho5 (fun x hx _ => by simp at hx; subst hx; simp; omega)
      have rb5 := rb4.only ho5 (fun x hx h0 => by have := HAB.out x hx h0; omega)
      have x50 : w5.cell? ⟨w.heap.size, 0, none⟩ = some (.int .u64 (r0 : Nat)) := World.grownBy.cell ho5 x40 (by simp; omega)
      have x51 : w5.cell? ⟨w.heap.size, 1, none⟩ = some (.int .i64 n0) := World.grownBy.cell ho5 x41 (by simp; omega)
      have hb5' : Below w.heap.size w w5 := hb4'.trans (ho5.below (by omega) hb4'.size)
      clear rs4 rb4 x40 x41 ho5 hb4 hb4' rd4 rb2 hb3' hb2' hb0 rb
      go_wp2_with fail
      refine (plain_any r0 (n0) _).mono ?_
      rintro e w6 ⟨rfl, hb6⟩
      have rs6 := rs5.later hb6
      have rb6 := rb5.later hb6
      have rd6 := rd5.later hb6
      have x60 := cell_later hb6 x50
      have x61 := cell_later hb6 x51
      have hb6' := hb5'.trans (hb6.mono hb5'.size)
      have hx6 : w.heap.size < w6.heap.size := World.block_lt_of_cell? _ _ x60
      clear rs5 rb5 rd5 x50 x51 hb5' hb6
      go_upto_region 11 with fail
      obtain ⟨W, hW⟩ : ∃ W, W = (w6.alloc (.cells #[.int .u64 (r0 : Nat), .int .i64 n0] 24)).alloc (.cells #[.int .u64 (r0 : Nat), .int .i64 n0] 24) := ⟨_, rfl⟩
      rw [← hW]
      have hb7 : Below w6.heap.size w6 W := by rw [hW]; exact ((Below.refl _ _).alloc (Nat.le_refl _) _).alloc (by simp) _
      have q00 := cell_later hb7 x60
      have q01 := cell_later hb7 x61
      have q10 : W.cell? ⟨w6.heap.size, 0, none⟩ = some (.int .u64 (r0 : Nat)) := by rw [hW]; go_cell
      have q11 : W.cell? ⟨w6.heap.size, 1, none⟩ = some (.int .i64 n0) := by rw [hW]; go_cell
      have q20 : W.cell? ⟨w6.heap.size + 1, 0, none⟩ = some (.int .u64 (r0 : Nat)) := by rw [hW]; go_cell
      have q21 : W.cell? ⟨w6.heap.size + 1, 1, none⟩ = some (.int .i64 n0) := by rw [hW]; go_cell
      have rs7 := rs6.later hb7
      have rb7 := rb6.later hb7
      have rd7 := rd6.later hb7
      have HB7 : Hid (Below w.heap.size w W) := hb6'.trans (hb7.mono hb6'.size)
      have hsum : bs.length + (enc r0 n0).length = N := by have := rs7.1; rw [List.length_append] at this; exact this
      clear x60 x61 rs6 rb6 rd6 hb6' hb7 hW
      generalize w6.heap.size = yb at *
      have HS : Hid (∀ w', Below W.heap.size W w' → Below W.heap.size W w' ∧ w'.cell? ⟨w.heap.size, 0, none⟩ = some (.int .u64 (r0 : Nat)) ∧ w'.cell? ⟨w.heap.size, 1, none⟩ = some (.int .i64 n0) ∧ w'.cell? ⟨yb, 0, none⟩ = some (.int .u64 (r0 : Nat)) ∧ w'.cell? ⟨yb, 1, none⟩ = some (.int .i64 n0) ∧ w'.cell? ⟨yb + 1, 0, none⟩ = some (.int .u64 (r0 : Nat)) ∧ w'.cell? ⟨yb + 1, 1, none⟩ = some (.int .i64 n0) ∧ (convert 37 9 (.slice (some ⟨ab, aoff, none⟩) 60 cap1)).run Try.prog w' = .ok (.string (str bs)) w' ∧ (convert 37 9 (.slice (some ⟨g3, 0, none⟩) N N)).run Try.prog w' = .ok (.string (str (bs ++ enc r0 n0))) w' ∧ Rd w' g4 (some [])) := fun w' hb => ⟨hb, cell_later hb q00, cell_later hb q01, cell_later hb q10, cell_later hb q11, cell_later hb q20, cell_later hb q21, conv_row (rb7.later hb) _, conv_row (rs7.later hb) _, rd7.later hb⟩
      have ha : ∀ w, (Op.stringOp .add (str bs) (str (enc r0 n0))).run Try.prog w = .ok (.string (str (bs ++ enc r0 n0))) w := fun w => add_str _ _ w (by omega)
      have hne : ∀ w, (binOp .neq 24 (bal r0 n0) (bal r0 n0)).run Try.prog w = .ok (.bool false) w := neq_same r0 n0
      clear q00 q01 q10 q11 q20 q21 rs7 rd7 hsum hx6
      have hd0 : Below W.heap.size W W.drew := (Below.refl _ _).drew
      refine wp_region_noPanic ?_
      refine wp_region_held_drew (S := (fun w' => Below W.heap.size W w' ∧ w'.cell? ⟨w.heap.size, 0, none⟩ = some (.int .u64 (r0 : Nat)) ∧ w'.cell? ⟨w.heap.size, 1, none⟩ = some (.int .i64 n0) ∧ w'.cell? ⟨yb, 0, none⟩ = some (.int .u64 (r0 : Nat)) ∧ w'.cell? ⟨yb, 1, none⟩ = some (.int .i64 n0) ∧ w'.cell? ⟨yb + 1, 0, none⟩ = some (.int .u64 (r0 : Nat)) ∧ w'.cell? ⟨yb + 1, 1, none⟩ = some (.int .i64 n0) ∧ (convert 37 9 (.slice (some ⟨ab, aoff, none⟩) 60 cap1)).run Try.prog w' = .ok (.string (str bs)) w' ∧ (convert 37 9 (.slice (some ⟨g3, 0, none⟩) N N)).run Try.prog w' = .ok (.string (str (bs ++ enc r0 n0))) w' ∧ Rd w' g4 (some []))) (by kernel_rfl) ?_ (fun hHeld => ?_)
      · exact HS.out _ hd0
      refine held_take (i := 0) (d := 44) (v := ?_) rfl rfl (by kernel_rfl) (by kernel_rfl) (by kernel_rfl) (fun _ _ _ h => h) (Or.inl ⟨by rfl, ?_⟩) hHeld ?_
      rotate_left
      · (intro w hSw; (try dsimp only at hSw); go_simp; all_goals (with_reducible rfl))
      try simp only [Act.put, List.setIfInBounds_toArray, List.set_cons_zero, List.set_cons_succ]
      refine held_take (i := 1) (d := 45) (v := ?_) rfl rfl (by kernel_rfl) (by kernel_rfl) (by kernel_rfl) (fun _ _ _ h => h) (Or.inl ⟨by rfl, ?_⟩) hHeld ?_
      rotate_left
      · (intro w hSw; (try dsimp only at hSw); go_simp; all_goals (with_reducible rfl))
      try simp only [Act.put, List.setIfInBounds_toArray, List.set_cons_zero, List.set_cons_succ]
      refine held_take (i := 2) (d := 46) (v := ?_) rfl rfl (by kernel_rfl) (by kernel_rfl) (by kernel_rfl) (fun _ _ _ h => h) (Or.inl ⟨by rfl, ?_⟩) hHeld ?_
      rotate_left
      · (intro w hSw; (try dsimp only at hSw); go_simp; all_goals (with_reducible rfl))
      try simp only [Act.put, List.setIfInBounds_toArray, List.set_cons_zero, List.set_cons_succ]
      refine held_take (i := 3) (d := 47) (v := ?_) rfl rfl (by kernel_rfl) (by kernel_rfl) (by kernel_rfl) (fun _ _ _ h => h) (Or.inl ⟨by rfl, ?_⟩) hHeld ?_
      rotate_left
      · (intro w hSw; (try dsimp only at hSw); go_simp; all_goals (with_reducible rfl))
      try simp only [Act.put, List.setIfInBounds_toArray, List.set_cons_zero, List.set_cons_succ]
      refine held_take (i := 4) (d := 48) (v := ?_) rfl rfl (by kernel_rfl) (by kernel_rfl) (by kernel_rfl) (fun _ _ _ h => h) (Or.inl ⟨by rfl, ?_⟩) hHeld ?_
      rotate_left
      · (intro w hSw; (try dsimp only at hSw); go_simp; all_goals (with_reducible rfl))
      try simp only [Act.put, List.setIfInBounds_toArray, List.set_cons_zero, List.set_cons_succ]
      refine wpAnyH_ready (rs := [5]) (by kernel_rfl) (by simp) ?_
      refine AllReadyH.cons rfl (fun K hK => ?_) AllReadyH.nil
      go_simp
      refine (ref_bput_any r0 n0 _ hr0).mono ?_
      rintro e u1 ⟨a4, n4, cap4, rfl, r4, hu1⟩
      replace hu1 : Below W.heap.size W u1 := hd0.trans (hu1.mono hd0.size)
      go_wp2_with fail
      refine hK.out _ _ ?_ (fun hHeld => ?_)
      · exact HS.out _ hu1
      clear hK K
      try simp only [Act.put, List.setIfInBounds_toArray, List.set_cons_zero, List.set_cons_succ]
      have HS2 : Hid (∀ w', Below u1.heap.size u1 w' → (Below W.heap.size W w' ∧ w'.cell? ⟨w.heap.size, 0, none⟩ = some (.int .u64 (r0 : Nat)) ∧ w'.cell? ⟨w.heap.size, 1, none⟩ = some (.int .i64 n0) ∧ w'.cell? ⟨yb, 0, none⟩ = some (.int .u64 (r0 : Nat)) ∧ w'.cell? ⟨yb, 1, none⟩ = some (.int .i64 n0) ∧ w'.cell? ⟨yb + 1, 0, none⟩ = some (.int .u64 (r0 : Nat)) ∧ w'.cell? ⟨yb + 1, 1, none⟩ = some (.int .i64 n0) ∧ (convert 37 9 (.slice (some ⟨ab, aoff, none⟩) 60 cap1)).run Try.prog w' = .ok (.string (str bs)) w' ∧ (convert 37 9 (.slice (some ⟨g3, 0, none⟩) N N)).run Try.prog w' = .ok (.string (str (bs ++ enc r0 n0))) w' ∧ Rd w' g4 (some [])) ∧ (convert 37 9 (.slice a4 n4 cap4)).run Try.prog w' = .ok (.string (str (enc r0 n0))) w') := fun w' hb => ⟨HS.out _ (hu1.trans (hb.mono hu1.size)), conv_row (r4.later hb) _⟩
      refine held_mono (S' := (fun w' => (Below W.heap.size W w' ∧ w'.cell? ⟨w.heap.size, 0, none⟩ = some (.int .u64 (r0 : Nat)) ∧ w'.cell? ⟨w.heap.size, 1, none⟩ = some (.int .i64 n0) ∧ w'.cell? ⟨yb, 0, none⟩ = some (.int .u64 (r0 : Nat)) ∧ w'.cell? ⟨yb, 1, none⟩ = some (.int .i64 n0) ∧ w'.cell? ⟨yb + 1, 0, none⟩ = some (.int .u64 (r0 : Nat)) ∧ w'.cell? ⟨yb + 1, 1, none⟩ = some (.int .i64 n0) ∧ (convert 37 9 (.slice (some ⟨ab, aoff, none⟩) 60 cap1)).run Try.prog w' = .ok (.string (str bs)) w' ∧ (convert 37 9 (.slice (some ⟨g3, 0, none⟩) N N)).run Try.prog w' = .ok (.string (str (bs ++ enc r0 n0))) w' ∧ Rd w' g4 (some [])) ∧ (convert 37 9 (.slice a4 n4 cap4)).run Try.prog w' = .ok (.string (str (enc r0 n0))) w')) (fun _ h => h.1) _ _ _ _ ?_
      replace hHeld := HS2.out _ (Below.refl _ _)
      refine held_take (i := 6) (d := 50) (v := ?_) rfl rfl (by kernel_rfl) (by kernel_rfl) (by kernel_rfl) (fun _ _ _ h => h) (Or.inl ⟨by rfl, ?_⟩) hHeld ?_
      rotate_left
      · (intro w hSw; (try dsimp only at hSw); go_simp; all_goals (with_reducible rfl))
      try simp only [Act.put, List.setIfInBounds_toArray, List.set_cons_zero, List.set_cons_succ]
      refine held_take (i := 7) (d := 51) (v := ?_) rfl rfl (by kernel_rfl) (by kernel_rfl) (by kernel_rfl) (fun _ _ _ h => h) (Or.inl ⟨by rfl, ?_⟩) hHeld ?_
      rotate_left
      · (intro w hSw; (try dsimp only at hSw); go_simp; all_goals (with_reducible rfl))
      try simp only [Act.put, List.setIfInBounds_toArray, List.set_cons_zero, List.set_cons_succ]
      refine held_take (i := 8) (d := 52) (v := ?_) rfl rfl (by kernel_rfl) (by kernel_rfl) (by kernel_rfl) (fun _ _ _ h => h) (Or.inl ⟨by rfl, ?_⟩) hHeld ?_
      rotate_left
      · (intro w hSw; (try dsimp only at hSw); go_simp; all_goals (with_reducible rfl))
      try simp only [Act.put, List.setIfInBounds_toArray, List.set_cons_zero, List.set_cons_succ]
      refine held_take (i := 9) (d := 53) (v := ?_) rfl rfl (by kernel_rfl) (by kernel_rfl) (by kernel_rfl) (fun _ _ _ h => h) (Or.inl ⟨by rfl, ?_⟩) hHeld ?_
      rotate_left
      · (intro w hSw; (try dsimp only at hSw); go_simp; all_goals (with_reducible rfl))
      try simp only [Act.put, List.setIfInBounds_toArray, List.set_cons_zero, List.set_cons_succ]
      refine held_take (i := 10) (d := 54) (v := ?_) rfl rfl (by kernel_rfl) (by kernel_rfl) (by kernel_rfl) (fun _ _ _ h => h) (Or.inl ⟨by rfl, ?_⟩) hHeld ?_
      rotate_left
      · (intro w hSw; (try dsimp only at hSw); go_simp; all_goals (with_reducible rfl))
      try simp only [Act.put, List.setIfInBounds_toArray, List.set_cons_zero, List.set_cons_succ]
      refine held_take (i := 11) (d := 55) (v := ?_) rfl rfl (by kernel_rfl) (by kernel_rfl) (by kernel_rfl) (fun _ _ _ h => h) (Or.inl ⟨by rfl, ?_⟩) hHeld ?_
      rotate_left
      · (intro w hSw; (try dsimp only at hSw); go_simp; all_goals (with_reducible rfl))
      try simp only [Act.put, List.setIfInBounds_toArray, List.set_cons_zero, List.set_cons_succ]
      refine held_take (i := 12) (d := 56) (v := ?_) rfl rfl (by kernel_rfl) (by kernel_rfl) (by kernel_rfl) (fun _ _ _ h => h) (Or.inl ⟨by rfl, ?_⟩) hHeld ?_
      rotate_left
      · (intro w hSw; (try dsimp only at hSw); go_simp; all_goals (with_reducible rfl))
      try simp only [Act.put, List.setIfInBounds_toArray, List.set_cons_zero, List.set_cons_succ]
      refine held_take (i := 13) (d := 57) (v := ?_) rfl rfl (by kernel_rfl) (by kernel_rfl) (by kernel_rfl) (fun _ _ _ h => h) (Or.inl ⟨by rfl, ?_⟩) hHeld ?_
      rotate_left
      · (intro w hSw; (try dsimp only at hSw); go_simp; all_goals (with_reducible rfl))
      try simp only [Act.put, List.setIfInBounds_toArray, List.set_cons_zero, List.set_cons_succ]
      refine held_take (i := 14) (d := 58) (v := ?_) rfl rfl (by kernel_rfl) (by kernel_rfl) (by kernel_rfl) (fun _ _ _ h => h) (Or.inl ⟨by rfl, ?_⟩) hHeld ?_
      rotate_left
      · (intro w hSw; (try dsimp only at hSw); go_simp; all_goals (with_reducible rfl))
      try simp only [Act.put, List.setIfInBounds_toArray, List.set_cons_zero, List.set_cons_succ]
      refine held_take (i := 15) (d := 59) (v := ?_) rfl rfl (by kernel_rfl) (by kernel_rfl) (by kernel_rfl) (fun _ _ _ h => h) (Or.inl ⟨by rfl, ?_⟩) hHeld ?_
      rotate_left
      · (intro w hSw; (try dsimp only at hSw); go_simp; all_goals (with_reducible rfl))
      try simp only [Act.put, List.setIfInBounds_toArray, List.set_cons_zero, List.set_cons_succ]
      refine wpAnyH_ready (rs := [16]) (by kernel_rfl) (by simp) ?_
      refine AllReadyH.cons rfl (fun K hK => ?_) AllReadyH.nil
      go_simp
      refine (done_any g4 _ _ hHeld.1.2.2.2.2.2.2.2.2.2).mono ?_
      rintro e u2 ⟨rfl, hu2⟩
      subst u2
      rw [show ((some [] : Option (List Nat)) == some []) = true from rfl]
      go_wp2_with fail
      refine hK.out _ _ ?_ (fun hHeld => ?_)
      · exact HS2.out _ (Below.refl _ _)
      clear hK K
      try simp only [Act.put, List.setIfInBounds_toArray, List.set_cons_zero, List.set_cons_succ]
      refine held_take (i := 17) (d := 61) (v := ?_) rfl rfl (by kernel_rfl) (by kernel_rfl) (by kernel_rfl) (fun _ _ _ h => h) (Or.inl ⟨by rfl, ?_⟩) hHeld ?_
      rotate_left
      · (intro w hSw; (try dsimp only at hSw); go_simp; all_goals (with_reducible rfl))
      try simp only [Act.put, List.setIfInBounds_toArray, List.set_cons_zero, List.set_cons_succ]
      refine held_take (i := 18) (d := 62) (v := ?_) rfl rfl (by kernel_rfl) (by kernel_rfl) (by kernel_rfl) (fun _ _ _ h => h) (Or.inl ⟨by rfl, ?_⟩) hHeld ?_
      rotate_left
      · (intro w hSw; (try dsimp only at hSw); go_simp; all_goals (with_reducible rfl))
      try simp only [Act.put, List.setIfInBounds_toArray, List.set_cons_zero, List.set_cons_succ]
      refine wpAnyH_done (by kernel_rfl) ?_ _
      refine NoPanic.normal ?_
      have HBu : Hid (Below w.heap.size w u1) := HB7.out.trans (hu1.mono HB7.out.size)
      have rb8 : Row u1 (some ⟨ab, aoff, none⟩) 60 bs := rb7.later hu1
      clear ha hne HS HS2 hHeld hd0 HB7 hu1 r4 rb7
      go_wp2_with fail
      have hws := HBu.out.size
      refine (new_any (some ⟨ab, aoff, none⟩) 60 cap1 bs _ rb8 f1.2.2 (by omega)).mono ?_
      rintro e v1 ⟨gq, rfl, rd1, hgq, hv1⟩
      have rb9 := rb8.later hv1
      have hgl := rd1.lt
      have HB1 : Hid (Below w.heap.size w v1) := HBu.out.trans (hv1.mono HBu.out.size)
      obtain ⟨D, hD⟩ : ∃ D, D = dec (some bs) := ⟨_, rfl⟩
      have hv2 : Below v1.heap.size v1 (v1.alloc (.cells #[.slice (some ⟨ab, aoff, none⟩) 60 cap1, .int .i64 0, .bool false] 45)) := (Below.refl _ _).alloc (Nat.le_refl _) _
      have rd2 := rd1.later hv2
      have rb10 := rb9.later hv2
      have rf2 : Rf (v1.alloc (.cells #[.slice (some ⟨ab, aoff, none⟩) 60 cap1, .int .i64 0, .bool false] 45)) v1.heap.size (some ⟨ab, aoff, none⟩) 60 cap1 bs (some bs) := ⟨0, Nat.zero_le _, by show (v1.heap.push _)[v1.heap.size]? = _; simp, by simp⟩
      have HB2 : Hid (Below w.heap.size w (v1.alloc (.cells #[.slice (some ⟨ab, aoff, none⟩) 60 cap1, .int .i64 0, .bool false] 45))) := HB1.out.alloc HB1.out.size _
      clear hv1 rd1 rb8 rb9 hv2 HBu
      go_wp2_with fail
      refine (bread_any gq _ _ rd2).mono ?_
      rw [← hD]
      rintro e v3 ⟨rfl, rd3, ho3⟩
      have rf3 := rf2.only ho3 (by omega)
      have rb11 := rb10.only ho3 (fun x hx h0 => by have := HAB.out x hx h0; omega)
      have HB3 : Hid (Below w.heap.size w v3) := HB2.out.trans (ho3.below (by omega) HB2.out.size)
      have hpl : v1.heap.size < v3.heap.size := by have := ho3.size; simp at this; omega
      have hws1 := HB1.out.size
      clear rf2 rb10 ho3 HB1 HB2 rd2
      generalize v1.heap.size = pg at *
      obtain ⟨⟨d1, d2⟩, d3⟩ := D
      simp only at rd3
      go_wp2_with fail
      refine (plain_any d1 d2 _).mono ?_
      rintro e v4 ⟨rfl, hv4⟩
      have rf4 := rf3.later hv4
      have rb12 := rb11.later hv4
      have rd4 := rd3.later hv4
      have HB4 : Hid (Below w.heap.size w v4) := HB3.out.trans (hv4.mono HB3.out.size)
      have hpl4 : pg < v4.heap.size := by have := hv4.size; omega
      clear rf3 rb11 rd3 HB3 hv4
      go_wp2_with fail
      obtain ⟨V, hV⟩ : ∃ V, V = v4.alloc (.cells #[.int .u64 (d1 : Nat), .int .i64 d2] 24) := ⟨_, rfl⟩
      rw [← hV]
      have hv5 : Below v4.heap.size v4 V := by rw [hV]; exact (Below.refl _ _).alloc (Nat.le_refl _) _
      have z0 : V.cell? ⟨v4.heap.size, 0, none⟩ = some (.int .u64 (d1 : Nat)) := by rw [hV]; simp
      have z1 : V.cell? ⟨v4.heap.size, 1, none⟩ = some (.int .i64 d2) := by rw [hV]; simp
      have rf5 := rf4.later hv5
      have rb13 := rb12.later hv5
      have rd5 := rd4.later hv5
      have HBV : Hid (Below w.heap.size w V) := HB4.out.trans (hv5.mono HB4.out.size)
      clear rf4 rb12 rd4 HB4 hV hv5
      generalize v4.heap.size = zb at *
      have HS : Hid (∀ w', Only pg V w' → Only pg V w' ∧ w'.cell? ⟨zb, 0, none⟩ = some (.int .u64 (d1 : Nat)) ∧ w'.cell? ⟨zb, 1, none⟩ = some (.int .i64 d2) ∧ Rd w' gq d3) := fun w' ho => ⟨ho, World.grownBy.cell ho z0 (by simp; omega), World.grownBy.cell ho z1 (by simp; omega), rd5.only ho hgl⟩
      have HRD : Hid (∀ w', Below V.heap.size V w' → Calls Try.prog 23 #[.pointer (some ⟨pg, 0, none⟩)] w' fun e w'' => e = .returned (bal d1 d2) ∧ Rf w'' pg (some ⟨ab, aoff, none⟩) 60 cap1 bs d3 ∧ Only pg w' w'') := fun w' hb => by
        have := ref_bread_any pg (some ⟨ab, aoff, none⟩) 60 cap1 bs (some bs) w' (rf5.later hb) (rb13.later hb) (fun x hx h0 => by have := HAB.out x hx h0; omega) (by have := f1.1; omega) f1.2.1 (by omega)
        rw [← hD] at this
        exact this
      have heqs : ∀ w, (binOp .eql 24 (bal d1 d2) (bal d1 d2)).run Try.prog w = .ok (.bool true) w := eql_same d1 d2
      have hrl := rb13.1
      clear z0 z1 rd5 rf5 rb13 hD
      have hd1 : Below V.heap.size V V.drew := (Below.refl _ _).drew
      have hd0 : Only pg V V.drew := Below.only hd1
      refine wp_region_noPanic ?_
      refine wp_region_held_drew (S := (fun w' => Only pg V w' ∧ w'.cell? ⟨zb, 0, none⟩ = some (.int .u64 (d1 : Nat)) ∧ w'.cell? ⟨zb, 1, none⟩ = some (.int .i64 d2) ∧ Rd w' gq d3)) (by kernel_rfl) ?_ (fun hHeld => ?_)
      · exact HS.out _ hd0
      refine held_take (i := 0) (d := 71) (v := ?_) rfl rfl (by kernel_rfl) (by kernel_rfl) (by kernel_rfl) (fun _ _ _ h => h) (Or.inl ⟨by rfl, ?_⟩) hHeld ?_
      rotate_left
      · (intro w hSw; (try dsimp only at hSw); go_simp; all_goals (with_reducible rfl))
      try simp only [Act.put, List.setIfInBounds_toArray, List.set_cons_zero, List.set_cons_succ]
      refine held_take (i := 1) (d := 72) (v := ?_) rfl rfl (by kernel_rfl) (by kernel_rfl) (by kernel_rfl) (fun _ _ _ h => h) (Or.inl ⟨by rfl, ?_⟩) hHeld ?_
      rotate_left
      · (intro w hSw; (try dsimp only at hSw); go_simp; all_goals (with_reducible rfl))
      try simp only [Act.put, List.setIfInBounds_toArray, List.set_cons_zero, List.set_cons_succ]
      refine wpAnyH_ready (rs := [2]) (by kernel_rfl) (by simp) ?_
      refine AllReadyH.cons rfl (fun K hK => ?_) AllReadyH.nil
      go_simp
      refine (HRD.out _ hd1).mono ?_
      rintro e t1 ⟨rfl, rft, ht1⟩
      replace ht1 : Only pg V t1 := hd0.trans ht1
      go_wp2_with fail
      refine hK.out _ _ ?_ (fun hHeld => ?_)
      · exact HS.out _ ht1
      clear hK K
      try simp only [Act.put, List.setIfInBounds_toArray, List.set_cons_zero, List.set_cons_succ]
      have HS2 : Hid (∀ w', Below t1.heap.size t1 w' → (Only pg V w' ∧ w'.cell? ⟨zb, 0, none⟩ = some (.int .u64 (d1 : Nat)) ∧ w'.cell? ⟨zb, 1, none⟩ = some (.int .i64 d2) ∧ Rd w' gq d3) ∧ Rf w' pg (some ⟨ab, aoff, none⟩) 60 cap1 bs d3 ∧ w'.cell? ⟨pg, 2, none⟩ = some (.bool d3.isNone)) := fun w' hb => ⟨HS.out _ (ht1.trans (Below.only hb)), rft.later hb, by obtain ⟨p, _, hh, _⟩ := rft.later hb; exact cell_of_heap hh rfl⟩
      refine held_mono (S' := (fun w' => (Only pg V w' ∧ w'.cell? ⟨zb, 0, none⟩ = some (.int .u64 (d1 : Nat)) ∧ w'.cell? ⟨zb, 1, none⟩ = some (.int .i64 d2) ∧ Rd w' gq d3) ∧ Rf w' pg (some ⟨ab, aoff, none⟩) 60 cap1 bs d3 ∧ w'.cell? ⟨pg, 2, none⟩ = some (.bool d3.isNone))) (fun _ h => h.1) _ _ _ _ ?_
      replace hHeld := HS2.out _ (Below.refl _ _)
      refine held_take (i := 3) (d := 74) (v := ?_) rfl rfl (by kernel_rfl) (by kernel_rfl) (by kernel_rfl) (fun _ _ _ h => h) (Or.inl ⟨by rfl, ?_⟩) hHeld ?_
      rotate_left
      · (intro w hSw; (try dsimp only at hSw); go_simp; all_goals (with_reducible rfl))
      try simp only [Act.put, List.setIfInBounds_toArray, List.set_cons_zero, List.set_cons_succ]
      refine held_take (i := 4) (d := 75) (v := ?_) rfl rfl (by kernel_rfl) (by kernel_rfl) (by kernel_rfl) (fun _ _ _ h => h) (Or.inl ⟨by rfl, ?_⟩) hHeld ?_
      rotate_left
      · (intro w hSw; (try dsimp only at hSw); go_simp; all_goals (with_reducible rfl))
      try simp only [Act.put, List.setIfInBounds_toArray, List.set_cons_zero, List.set_cons_succ]
      refine held_take (i := 5) (d := 76) (v := ?_) rfl rfl (by kernel_rfl) (by kernel_rfl) (by kernel_rfl) (fun _ _ _ h => h) (Or.inl ⟨by rfl, ?_⟩) hHeld ?_
      rotate_left
      · (intro w hSw; (try dsimp only at hSw); go_simp; all_goals (with_reducible rfl))
      try simp only [Act.put, List.setIfInBounds_toArray, List.set_cons_zero, List.set_cons_succ]
      refine held_take (i := 7) (d := 78) (v := ?_) rfl rfl (by kernel_rfl) (by kernel_rfl) (by kernel_rfl) (fun _ _ _ h => h) (Or.inl ⟨by rfl, ?_⟩) hHeld ?_
      rotate_left
      · (intro w hSw; (try dsimp only at hSw); go_simp; all_goals (with_reducible rfl))
      try simp only [Act.put, List.setIfInBounds_toArray, List.set_cons_zero, List.set_cons_succ]
      refine held_take (i := 8) (d := 79) (v := ?_) rfl rfl (by kernel_rfl) (by kernel_rfl) (by kernel_rfl) (fun _ _ _ h => h) (Or.inl ⟨by rfl, ?_⟩) hHeld ?_
      rotate_left
      · (intro w hSw; (try dsimp only at hSw); go_simp; all_goals (with_reducible rfl))
      try simp only [Act.put, List.setIfInBounds_toArray, List.set_cons_zero, List.set_cons_succ]
      refine held_take (i := 9) (d := 80) (v := ?_) rfl rfl (by kernel_rfl) (by kernel_rfl) (by kernel_rfl) (fun _ _ _ h => h) (Or.inl ⟨by rfl, ?_⟩) hHeld ?_
      rotate_left
      · (intro w hSw; (try dsimp only at hSw); go_simp; all_goals (with_reducible rfl))
      try simp only [Act.put, List.setIfInBounds_toArray, List.set_cons_zero, List.set_cons_succ]
      refine held_take (i := 10) (d := 81) (v := ?_) rfl rfl (by kernel_rfl) (by kernel_rfl) (by kernel_rfl) (fun _ _ _ h => h) (Or.inl ⟨by rfl, ?_⟩) hHeld ?_
      rotate_left
      · (intro w hSw; (try dsimp only at hSw); go_simp; all_goals (with_reducible rfl))
      try simp only [Act.put, List.setIfInBounds_toArray, List.set_cons_zero, List.set_cons_succ]
      refine wpAnyH_ready (rs := [6]) (by kernel_rfl) (by simp) ?_
      refine AllReadyH.cons rfl (fun K hK => ?_) AllReadyH.nil
      go_simp
      refine (bad_any gq _ _ hHeld.1.2.2.2).mono ?_
      rintro e t2 ⟨rfl, hw⟩
      subst t2
      go_wp2_with fail
      refine hK.out _ _ ?_ (fun hHeld => ?_)
      · exact HS2.out _ (Below.refl _ _)
      clear hK K
      try simp only [Act.put, List.setIfInBounds_toArray, List.set_cons_zero, List.set_cons_succ]
      refine held_take (i := 11) (d := 82) (v := ?_) rfl rfl (by kernel_rfl) (by kernel_rfl) (by kernel_rfl) (fun _ _ _ h => h) (Or.inl ⟨by rfl, ?_⟩) hHeld ?_
      rotate_left
      · (intro w hSw; (try dsimp only at hSw); go_simp; all_goals (with_reducible rfl))
      try simp only [Act.put, List.setIfInBounds_toArray, List.set_cons_zero, List.set_cons_succ]
      refine held_take (i := 12) (d := 83) (v := ?_) rfl rfl (by kernel_rfl) (by kernel_rfl) (by kernel_rfl) (fun _ _ _ h => h) (Or.inl ⟨by rfl, ?_⟩) hHeld ?_
      rotate_left
      · (intro w hSw; (try dsimp only at hSw); go_simp; all_goals (with_reducible rfl))
      try simp only [Act.put, List.setIfInBounds_toArray, List.set_cons_zero, List.set_cons_succ]
      refine held_take (i := 13) (d := 84) (v := ?_) rfl rfl (by kernel_rfl) (by kernel_rfl) (by kernel_rfl) (fun _ _ _ h => h) (Or.inl ⟨by rfl, ?_⟩) hHeld ?_
      rotate_left
      · (intro w hSw; (try dsimp only at hSw); go_simp; all_goals (with_reducible rfl))
      try simp only [Act.put, List.setIfInBounds_toArray, List.set_cons_zero, List.set_cons_succ]
      refine held_take (i := 14) (d := 85) (v := ?_) rfl rfl (by kernel_rfl) (by kernel_rfl) (by kernel_rfl) (fun _ _ _ h => h) (Or.inl ⟨by rfl, ?_⟩) hHeld ?_
      rotate_left
      · (intro w hSw; (try dsimp only at hSw); go_simp; all_goals (with_reducible rfl))
      try simp only [Act.put, List.setIfInBounds_toArray, List.set_cons_zero, List.set_cons_succ]
      refine held_take (i := 16) (d := 87) (v := ?_) rfl rfl (by kernel_rfl) (by kernel_rfl) (by kernel_rfl) (fun _ _ _ h => h) (Or.inl ⟨by rfl, ?_⟩) hHeld ?_
      rotate_left
      · (intro w hSw; (try dsimp only at hSw); go_simp; all_goals (with_reducible rfl))
      try simp only [Act.put, List.setIfInBounds_toArray, List.set_cons_zero, List.set_cons_succ]
      refine wpAnyH_ready (rs := [15]) (by kernel_rfl) (by simp) ?_
      refine AllReadyH.cons rfl (fun K hK => ?_) AllReadyH.nil
      go_simp
      refine (left_any gq _ _ hHeld.1.2.2.2).mono ?_
      rintro e t2 ⟨rfl, hw⟩
      subst t2
      go_wp2_with fail
      refine hK.out _ _ ?_ (fun hHeld => ?_)
      · exact HS2.out _ (Below.refl _ _)
      clear hK K
      try simp only [Act.put, List.setIfInBounds_toArray, List.set_cons_zero, List.set_cons_succ]
      refine wpAnyH_ready (rs := [17]) (by kernel_rfl) (by simp) ?_
      refine AllReadyH.cons rfl (fun K hK => ?_) AllReadyH.nil
      go_simp
      refine (refleft_any pg (some ⟨ab, aoff, none⟩) 60 cap1 bs _ _ hHeld.2.1 hrl (by omega)).mono ?_
      rintro e t3 ⟨rfl, kk, hw⟩
      have ht3 : Below t1.heap.size t1 t3 := by rw [hw]; exact below_drewN (Below.refl _ _) _
      clear hw
      go_wp2_with fail
      refine hK.out _ _ ?_ (fun hHeld => ?_)
      · exact HS2.out _ ht3
      clear hK K
      try simp only [Act.put, List.setIfInBounds_toArray, List.set_cons_zero, List.set_cons_succ]
      refine held_take (i := 18) (d := 89) (v := ?_) rfl rfl (by kernel_rfl) (by kernel_rfl) (by kernel_rfl) (fun _ _ _ h => h) (Or.inl ⟨by rfl, ?_⟩) hHeld ?_
      rotate_left
      · (intro w hSw; (try dsimp only at hSw); go_simp; all_goals (with_reducible rfl))
      try simp only [Act.put, List.setIfInBounds_toArray, List.set_cons_zero, List.set_cons_succ]
      refine held_take (i := 19) (d := 90) (v := ?_) rfl rfl (by kernel_rfl) (by kernel_rfl) (by kernel_rfl) (fun _ _ _ h => h) (Or.inl ⟨by rfl, ?_⟩) hHeld ?_
      rotate_left
      · (intro w hSw; (try dsimp only at hSw); go_simp; all_goals (with_reducible rfl))
      try simp only [Act.put, List.setIfInBounds_toArray, List.set_cons_zero, List.set_cons_succ]
      refine held_take (i := 20) (d := 91) (v := ?_) rfl rfl (by kernel_rfl) (by kernel_rfl) (by kernel_rfl) (fun _ _ _ h => h) (Or.inl ⟨by rfl, ?_⟩) hHeld ?_
      rotate_left
      · (intro w hSw; (try dsimp only at hSw); go_simp; all_goals (with_reducible rfl))
      try simp only [Act.put, List.setIfInBounds_toArray, List.set_cons_zero, List.set_cons_succ]
      refine wpAnyH_ready (rs := [21]) (by kernel_rfl) (by simp) ?_
      refine AllReadyH.cons rfl (fun K hK => ?_) AllReadyH.nil
      go_simp
      refine (awake7_any _).mono ?_
      rintro e t4 ⟨rfl, hw4⟩
      subst t4
      go_wp2_with fail
      refine hK.out _ _ ?_ (fun hHeld => ?_)
      · exact HS2.out _ ht3
      clear hK K
      try simp only [Act.put, List.setIfInBounds_toArray, List.set_cons_zero, List.set_cons_succ]
      refine held_take (i := 22) (d := 93) (v := ?_) rfl rfl (by kernel_rfl) (by kernel_rfl) (by kernel_rfl) (fun _ _ _ h => h) (Or.inl ⟨by rfl, ?_⟩) hHeld ?_
      rotate_left
      · (intro w hSw; (try dsimp only at hSw); go_simp; all_goals (with_reducible rfl))
      try simp only [Act.put, List.setIfInBounds_toArray, List.set_cons_zero, List.set_cons_succ]
      refine held_take (i := 23) (d := 4) (v := ?_) rfl rfl (by kernel_rfl) (by kernel_rfl) (by kernel_rfl) (fun _ _ _ h => h) (Or.inl ⟨by rfl, ?_⟩) hHeld ?_
      rotate_left
      · (intro w hSw; (try dsimp only at hSw); go_simp; all_goals (with_reducible rfl))
      try simp only [Act.put, List.setIfInBounds_toArray, List.set_cons_zero, List.set_cons_succ]
      refine wpAnyH_done (by kernel_rfl) ?_ _
      refine NoPanic.normal ?_
      go_wp2
      go_ret
      have hA := HBV.out.trans (ht1.below (by omega) HBV.out.size)
      exact ⟨rfl, hA.trans (ht3.mono hA.size)⟩
    · have hk : ¬ (0 ≤ n0 ∧ n0 < 5) := by omega
      go_enter Try.func5, Try.ntmps5
      go_wp2_with fail
      refine (ours_any r0 n0 _).mono ?_
      rintro e w2 ⟨rfl, hb2⟩
      have hb2' := hb0.trans (hb2.mono hb0.size)
      have rb2 := rb.later hb2'
      go_wp2_with fail
      refine (bput_any _ 60 cap1 r0 n0 bs _ rb2 f1.2.2 (by omega) hr0).mono ?_
      rintro e w3 ⟨g3, N, rfl, rs3, hN, hb3⟩
      have hb3' := hb2'.trans (hb3.mono hb2'.size)
      have x30 : w3.cell? ⟨w.heap.size, 0, none⟩ = some (.int .u64 (r0 : Nat)) := cell_later hb3 (cell_later hb2 (by simp))
      have x31 : w3.cell? ⟨w.heap.size, 1, none⟩ = some (.int .i64 n0) := cell_later hb3 (cell_later hb2 (by simp))
      have hel : (enc r0 n0).length = N - 60 ∧ 60 < N := by
        have h1 := rs3.1
        have h2 := rb2.1
        have h3 := (Oct.putF_len 9 r0).1
        rw [List.length_append] at h1
        have h4 : (enc r0 n0).length = (Oct.putF 9 r0).length + (Oct.put (code n0)).length := by unfold enc; rw [List.length_append]; rfl
        omega
      have HG3 : Hid (g3 < w3.heap.size) := by
        obtain ⟨b, off, hb, hcc⟩ := rs3.at (by omega)
        simp only [Option.some.injEq, Addr.mk.injEq] at hb
        obtain ⟨rfl, _⟩ := hb
        exact World.block_lt_of_cell? _ _ (hcc 0 (by omega))
      have rd3 := rs3.drop 60 (by omega)
      rw [show List.drop 60 (bs ++ enc r0 n0) = enc r0 n0 by rw [← rb2.1, List.drop_left]] at rd3
      simp only [Nat.zero_add] at rd3
      have hNm : ¬ N = 60 := by omega
      have hmN : (60 : Int) ≤ (N : Int) := by omega
      have hmN2 : ¬ (N : Int) < (60 : Int) := by omega
      go_wp2_with fail
      refine (new_any _ (N - 60) (N - 60) _ _ rd3 (by simp) (by omega)).mono ?_
      rintro e w4 ⟨g4, rfl, rd4, hg4, hb4⟩
      have hb4' := hb3'.trans (hb4.mono hb3'.size)
      have x40 := cell_later hb4 x30
      have x41 := cell_later hb4 x31
      have rs4 := rs3.later hb4
      have rb4 := rb2.later (hb3.trans (hb4.mono hb3.size))
      have hx3 : w.heap.size < w3.heap.size := World.block_lt_of_cell? _ _ x30
      clear rs3 rd3 hb3 hb2 x30 x31 hel
      go_wp2_with fail
      refine (bread_any g4 _ _ rd4).mono ?_
      have hde := dec_enc r0 n0 hr0 []
      rw [List.append_nil] at hde
      rw [hde, if_neg hk]
      rintro e w5 ⟨rfl, rd5, ho5⟩
      clear hde
      have g3lt : g3 < w3.heap.size := HG3.out
      have rs5 := rs4.only ho5 (fun x hx _ => by simp at hx; subst hx; simp; omega)
      have rb5 := rb4.only ho5 (fun x hx h0 => by have := HAB.out x hx h0; omega)
      have x50 : w5.cell? ⟨w.heap.size, 0, none⟩ = some (.int .u64 (r0 : Nat)) := World.grownBy.cell ho5 x40 (by simp; omega)
      have x51 : w5.cell? ⟨w.heap.size, 1, none⟩ = some (.int .i64 n0) := World.grownBy.cell ho5 x41 (by simp; omega)
      have hb5' : Below w.heap.size w w5 := hb4'.trans (ho5.below (by omega) hb4'.size)
      clear rs4 rb4 x40 x41 ho5 hb4 hb4' rd4 rb2 hb3' hb2' hb0 rb
      go_wp2_with fail
      refine (plain_any r0 (-1) _).mono ?_
      rintro e w6 ⟨rfl, hb6⟩
      have rs6 := rs5.later hb6
      have rb6 := rb5.later hb6
      have rd6 := rd5.later hb6
      have x60 := cell_later hb6 x50
      have x61 := cell_later hb6 x51
      have hb6' := hb5'.trans (hb6.mono hb5'.size)
      have hx6 : w.heap.size < w6.heap.size := World.block_lt_of_cell? _ _ x60
      clear rs5 rb5 rd5 x50 x51 hb5' hb6
      go_upto_region 11 with fail
      obtain ⟨W, hW⟩ : ∃ W, W = (w6.alloc (.cells #[.int .u64 (r0 : Nat), .int .i64 (-1)] 24)).alloc (.cells #[.int .u64 (r0 : Nat), .int .i64 (-1)] 24) := ⟨_, rfl⟩
      rw [← hW]
      have hb7 : Below w6.heap.size w6 W := by rw [hW]; exact ((Below.refl _ _).alloc (Nat.le_refl _) _).alloc (by simp) _
      have q00 := cell_later hb7 x60
      have q01 := cell_later hb7 x61
      have q10 : W.cell? ⟨w6.heap.size, 0, none⟩ = some (.int .u64 (r0 : Nat)) := by rw [hW]; go_cell
      have q11 : W.cell? ⟨w6.heap.size, 1, none⟩ = some (.int .i64 (-1)) := by rw [hW]; go_cell
      have q20 : W.cell? ⟨w6.heap.size + 1, 0, none⟩ = some (.int .u64 (r0 : Nat)) := by rw [hW]; go_cell
      have q21 : W.cell? ⟨w6.heap.size + 1, 1, none⟩ = some (.int .i64 (-1)) := by rw [hW]; go_cell
      have rs7 := rs6.later hb7
      have rb7 := rb6.later hb7
      have rd7 := rd6.later hb7
      have HB7 : Hid (Below w.heap.size w W) := hb6'.trans (hb7.mono hb6'.size)
      have hsum : bs.length + (enc r0 n0).length = N := by have := rs7.1; rw [List.length_append] at this; exact this
      clear x60 x61 rs6 rb6 rd6 hb6' hb7 hW
      generalize w6.heap.size = yb at *
      have HS : Hid (∀ w', Below W.heap.size W w' → Below W.heap.size W w' ∧ w'.cell? ⟨w.heap.size, 0, none⟩ = some (.int .u64 (r0 : Nat)) ∧ w'.cell? ⟨w.heap.size, 1, none⟩ = some (.int .i64 n0) ∧ w'.cell? ⟨yb, 0, none⟩ = some (.int .u64 (r0 : Nat)) ∧ w'.cell? ⟨yb, 1, none⟩ = some (.int .i64 (-1)) ∧ w'.cell? ⟨yb + 1, 0, none⟩ = some (.int .u64 (r0 : Nat)) ∧ w'.cell? ⟨yb + 1, 1, none⟩ = some (.int .i64 (-1)) ∧ (convert 37 9 (.slice (some ⟨ab, aoff, none⟩) 60 cap1)).run Try.prog w' = .ok (.string (str bs)) w' ∧ (convert 37 9 (.slice (some ⟨g3, 0, none⟩) N N)).run Try.prog w' = .ok (.string (str (bs ++ enc r0 n0))) w' ∧ Rd w' g4 (some [])) := fun w' hb => ⟨hb, cell_later hb q00, cell_later hb q01, cell_later hb q10, cell_later hb q11, cell_later hb q20, cell_later hb q21, conv_row (rb7.later hb) _, conv_row (rs7.later hb) _, rd7.later hb⟩
      have ha : ∀ w, (Op.stringOp .add (str bs) (str (enc r0 n0))).run Try.prog w = .ok (.string (str (bs ++ enc r0 n0))) w := fun w => add_str _ _ w (by omega)
      have hne : ∀ w, (binOp .neq 24 (bal r0 (-1)) (bal r0 (-1))).run Try.prog w = .ok (.bool false) w := neq_same r0 (-1)
      clear q00 q01 q10 q11 q20 q21 rs7 rd7 hsum hx6
      have hd0 : Below W.heap.size W W.drew := (Below.refl _ _).drew
      refine wp_region_noPanic ?_
      refine wp_region_held_drew (S := (fun w' => Below W.heap.size W w' ∧ w'.cell? ⟨w.heap.size, 0, none⟩ = some (.int .u64 (r0 : Nat)) ∧ w'.cell? ⟨w.heap.size, 1, none⟩ = some (.int .i64 n0) ∧ w'.cell? ⟨yb, 0, none⟩ = some (.int .u64 (r0 : Nat)) ∧ w'.cell? ⟨yb, 1, none⟩ = some (.int .i64 (-1)) ∧ w'.cell? ⟨yb + 1, 0, none⟩ = some (.int .u64 (r0 : Nat)) ∧ w'.cell? ⟨yb + 1, 1, none⟩ = some (.int .i64 (-1)) ∧ (convert 37 9 (.slice (some ⟨ab, aoff, none⟩) 60 cap1)).run Try.prog w' = .ok (.string (str bs)) w' ∧ (convert 37 9 (.slice (some ⟨g3, 0, none⟩) N N)).run Try.prog w' = .ok (.string (str (bs ++ enc r0 n0))) w' ∧ Rd w' g4 (some []))) (by kernel_rfl) ?_ (fun hHeld => ?_)
      · exact HS.out _ hd0
      refine held_take (i := 0) (d := 44) (v := ?_) rfl rfl (by kernel_rfl) (by kernel_rfl) (by kernel_rfl) (fun _ _ _ h => h) (Or.inl ⟨by rfl, ?_⟩) hHeld ?_
      rotate_left
      · (intro w hSw; (try dsimp only at hSw); go_simp; all_goals (with_reducible rfl))
      try simp only [Act.put, List.setIfInBounds_toArray, List.set_cons_zero, List.set_cons_succ]
      refine held_take (i := 1) (d := 45) (v := ?_) rfl rfl (by kernel_rfl) (by kernel_rfl) (by kernel_rfl) (fun _ _ _ h => h) (Or.inl ⟨by rfl, ?_⟩) hHeld ?_
      rotate_left
      · (intro w hSw; (try dsimp only at hSw); go_simp; all_goals (with_reducible rfl))
      try simp only [Act.put, List.setIfInBounds_toArray, List.set_cons_zero, List.set_cons_succ]
      refine held_take (i := 2) (d := 46) (v := ?_) rfl rfl (by kernel_rfl) (by kernel_rfl) (by kernel_rfl) (fun _ _ _ h => h) (Or.inl ⟨by rfl, ?_⟩) hHeld ?_
      rotate_left
      · (intro w hSw; (try dsimp only at hSw); go_simp; all_goals (with_reducible rfl))
      try simp only [Act.put, List.setIfInBounds_toArray, List.set_cons_zero, List.set_cons_succ]
      refine held_take (i := 3) (d := 47) (v := ?_) rfl rfl (by kernel_rfl) (by kernel_rfl) (by kernel_rfl) (fun _ _ _ h => h) (Or.inl ⟨by rfl, ?_⟩) hHeld ?_
      rotate_left
      · (intro w hSw; (try dsimp only at hSw); go_simp; all_goals (with_reducible rfl))
      try simp only [Act.put, List.setIfInBounds_toArray, List.set_cons_zero, List.set_cons_succ]
      refine held_take (i := 4) (d := 48) (v := ?_) rfl rfl (by kernel_rfl) (by kernel_rfl) (by kernel_rfl) (fun _ _ _ h => h) (Or.inl ⟨by rfl, ?_⟩) hHeld ?_
      rotate_left
      · (intro w hSw; (try dsimp only at hSw); go_simp; all_goals (with_reducible rfl))
      try simp only [Act.put, List.setIfInBounds_toArray, List.set_cons_zero, List.set_cons_succ]
      refine wpAnyH_ready (rs := [5]) (by kernel_rfl) (by simp) ?_
      refine AllReadyH.cons rfl (fun K hK => ?_) AllReadyH.nil
      go_simp
      refine (ref_bput_any r0 n0 _ hr0).mono ?_
      rintro e u1 ⟨a4, n4, cap4, rfl, r4, hu1⟩
      replace hu1 : Below W.heap.size W u1 := hd0.trans (hu1.mono hd0.size)
      go_wp2_with fail
      refine hK.out _ _ ?_ (fun hHeld => ?_)
      · exact HS.out _ hu1
      clear hK K
      try simp only [Act.put, List.setIfInBounds_toArray, List.set_cons_zero, List.set_cons_succ]
      have HS2 : Hid (∀ w', Below u1.heap.size u1 w' → (Below W.heap.size W w' ∧ w'.cell? ⟨w.heap.size, 0, none⟩ = some (.int .u64 (r0 : Nat)) ∧ w'.cell? ⟨w.heap.size, 1, none⟩ = some (.int .i64 n0) ∧ w'.cell? ⟨yb, 0, none⟩ = some (.int .u64 (r0 : Nat)) ∧ w'.cell? ⟨yb, 1, none⟩ = some (.int .i64 (-1)) ∧ w'.cell? ⟨yb + 1, 0, none⟩ = some (.int .u64 (r0 : Nat)) ∧ w'.cell? ⟨yb + 1, 1, none⟩ = some (.int .i64 (-1)) ∧ (convert 37 9 (.slice (some ⟨ab, aoff, none⟩) 60 cap1)).run Try.prog w' = .ok (.string (str bs)) w' ∧ (convert 37 9 (.slice (some ⟨g3, 0, none⟩) N N)).run Try.prog w' = .ok (.string (str (bs ++ enc r0 n0))) w' ∧ Rd w' g4 (some [])) ∧ (convert 37 9 (.slice a4 n4 cap4)).run Try.prog w' = .ok (.string (str (enc r0 n0))) w') := fun w' hb => ⟨HS.out _ (hu1.trans (hb.mono hu1.size)), conv_row (r4.later hb) _⟩
      refine held_mono (S' := (fun w' => (Below W.heap.size W w' ∧ w'.cell? ⟨w.heap.size, 0, none⟩ = some (.int .u64 (r0 : Nat)) ∧ w'.cell? ⟨w.heap.size, 1, none⟩ = some (.int .i64 n0) ∧ w'.cell? ⟨yb, 0, none⟩ = some (.int .u64 (r0 : Nat)) ∧ w'.cell? ⟨yb, 1, none⟩ = some (.int .i64 (-1)) ∧ w'.cell? ⟨yb + 1, 0, none⟩ = some (.int .u64 (r0 : Nat)) ∧ w'.cell? ⟨yb + 1, 1, none⟩ = some (.int .i64 (-1)) ∧ (convert 37 9 (.slice (some ⟨ab, aoff, none⟩) 60 cap1)).run Try.prog w' = .ok (.string (str bs)) w' ∧ (convert 37 9 (.slice (some ⟨g3, 0, none⟩) N N)).run Try.prog w' = .ok (.string (str (bs ++ enc r0 n0))) w' ∧ Rd w' g4 (some [])) ∧ (convert 37 9 (.slice a4 n4 cap4)).run Try.prog w' = .ok (.string (str (enc r0 n0))) w')) (fun _ h => h.1) _ _ _ _ ?_
      replace hHeld := HS2.out _ (Below.refl _ _)
      refine held_take (i := 6) (d := 50) (v := ?_) rfl rfl (by kernel_rfl) (by kernel_rfl) (by kernel_rfl) (fun _ _ _ h => h) (Or.inl ⟨by rfl, ?_⟩) hHeld ?_
      rotate_left
      · (intro w hSw; (try dsimp only at hSw); go_simp; all_goals (with_reducible rfl))
      try simp only [Act.put, List.setIfInBounds_toArray, List.set_cons_zero, List.set_cons_succ]
      refine held_take (i := 7) (d := 51) (v := ?_) rfl rfl (by kernel_rfl) (by kernel_rfl) (by kernel_rfl) (fun _ _ _ h => h) (Or.inl ⟨by rfl, ?_⟩) hHeld ?_
      rotate_left
      · (intro w hSw; (try dsimp only at hSw); go_simp; all_goals (with_reducible rfl))
      try simp only [Act.put, List.setIfInBounds_toArray, List.set_cons_zero, List.set_cons_succ]
      refine held_take (i := 8) (d := 52) (v := ?_) rfl rfl (by kernel_rfl) (by kernel_rfl) (by kernel_rfl) (fun _ _ _ h => h) (Or.inl ⟨by rfl, ?_⟩) hHeld ?_
      rotate_left
      · (intro w hSw; (try dsimp only at hSw); go_simp; all_goals (with_reducible rfl))
      try simp only [Act.put, List.setIfInBounds_toArray, List.set_cons_zero, List.set_cons_succ]
      refine held_take (i := 9) (d := 53) (v := ?_) rfl rfl (by kernel_rfl) (by kernel_rfl) (by kernel_rfl) (fun _ _ _ h => h) (Or.inl ⟨by rfl, ?_⟩) hHeld ?_
      rotate_left
      · (intro w hSw; (try dsimp only at hSw); go_simp; all_goals (with_reducible rfl))
      try simp only [Act.put, List.setIfInBounds_toArray, List.set_cons_zero, List.set_cons_succ]
      refine held_take (i := 10) (d := 54) (v := ?_) rfl rfl (by kernel_rfl) (by kernel_rfl) (by kernel_rfl) (fun _ _ _ h => h) (Or.inl ⟨by rfl, ?_⟩) hHeld ?_
      rotate_left
      · (intro w hSw; (try dsimp only at hSw); go_simp; all_goals (with_reducible rfl))
      try simp only [Act.put, List.setIfInBounds_toArray, List.set_cons_zero, List.set_cons_succ]
      refine held_take (i := 11) (d := 55) (v := ?_) rfl rfl (by kernel_rfl) (by kernel_rfl) (by kernel_rfl) (fun _ _ _ h => h) (Or.inl ⟨by rfl, ?_⟩) hHeld ?_
      rotate_left
      · (intro w hSw; (try dsimp only at hSw); go_simp; all_goals (with_reducible rfl))
      try simp only [Act.put, List.setIfInBounds_toArray, List.set_cons_zero, List.set_cons_succ]
      refine held_take (i := 12) (d := 56) (v := ?_) rfl rfl (by kernel_rfl) (by kernel_rfl) (by kernel_rfl) (fun _ _ _ h => h) (Or.inl ⟨by rfl, ?_⟩) hHeld ?_
      rotate_left
      · (intro w hSw; (try dsimp only at hSw); go_simp; all_goals (with_reducible rfl))
      try simp only [Act.put, List.setIfInBounds_toArray, List.set_cons_zero, List.set_cons_succ]
      refine held_take (i := 13) (d := 57) (v := ?_) rfl rfl (by kernel_rfl) (by kernel_rfl) (by kernel_rfl) (fun _ _ _ h => h) (Or.inl ⟨by rfl, ?_⟩) hHeld ?_
      rotate_left
      · (intro w hSw; (try dsimp only at hSw); go_simp; all_goals (with_reducible rfl))
      try simp only [Act.put, List.setIfInBounds_toArray, List.set_cons_zero, List.set_cons_succ]
      refine held_take (i := 14) (d := 58) (v := ?_) rfl rfl (by kernel_rfl) (by kernel_rfl) (by kernel_rfl) (fun _ _ _ h => h) (Or.inl ⟨by rfl, ?_⟩) hHeld ?_
      rotate_left
      · (intro w hSw; (try dsimp only at hSw); go_simp; all_goals (with_reducible rfl))
      try simp only [Act.put, List.setIfInBounds_toArray, List.set_cons_zero, List.set_cons_succ]
      refine held_take (i := 15) (d := 59) (v := ?_) rfl rfl (by kernel_rfl) (by kernel_rfl) (by kernel_rfl) (fun _ _ _ h => h) (Or.inl ⟨by rfl, ?_⟩) hHeld ?_
      rotate_left
      · (intro w hSw; (try dsimp only at hSw); go_simp; all_goals (with_reducible rfl))
      try simp only [Act.put, List.setIfInBounds_toArray, List.set_cons_zero, List.set_cons_succ]
      refine wpAnyH_ready (rs := [16]) (by kernel_rfl) (by simp) ?_
      refine AllReadyH.cons rfl (fun K hK => ?_) AllReadyH.nil
      go_simp
      refine (done_any g4 _ _ hHeld.1.2.2.2.2.2.2.2.2.2).mono ?_
      rintro e u2 ⟨rfl, hu2⟩
      subst u2
      rw [show ((some [] : Option (List Nat)) == some []) = true from rfl]
      go_wp2_with fail
      refine hK.out _ _ ?_ (fun hHeld => ?_)
      · exact HS2.out _ (Below.refl _ _)
      clear hK K
      try simp only [Act.put, List.setIfInBounds_toArray, List.set_cons_zero, List.set_cons_succ]
      refine held_take (i := 17) (d := 61) (v := ?_) rfl rfl (by kernel_rfl) (by kernel_rfl) (by kernel_rfl) (fun _ _ _ h => h) (Or.inl ⟨by rfl, ?_⟩) hHeld ?_
      rotate_left
      · (intro w hSw; (try dsimp only at hSw); go_simp; all_goals (with_reducible rfl))
      try simp only [Act.put, List.setIfInBounds_toArray, List.set_cons_zero, List.set_cons_succ]
      refine held_take (i := 18) (d := 62) (v := ?_) rfl rfl (by kernel_rfl) (by kernel_rfl) (by kernel_rfl) (fun _ _ _ h => h) (Or.inl ⟨by rfl, ?_⟩) hHeld ?_
      rotate_left
      · (intro w hSw; (try dsimp only at hSw); go_simp; all_goals (with_reducible rfl))
      try simp only [Act.put, List.setIfInBounds_toArray, List.set_cons_zero, List.set_cons_succ]
      refine wpAnyH_done (by kernel_rfl) ?_ _
      refine NoPanic.normal ?_
      have HBu : Hid (Below w.heap.size w u1) := HB7.out.trans (hu1.mono HB7.out.size)
      have rb8 : Row u1 (some ⟨ab, aoff, none⟩) 60 bs := rb7.later hu1
      clear ha hne HS HS2 hHeld hd0 HB7 hu1 r4 rb7
      go_wp2_with fail
      have hws := HBu.out.size
      refine (new_any (some ⟨ab, aoff, none⟩) 60 cap1 bs _ rb8 f1.2.2 (by omega)).mono ?_
      rintro e v1 ⟨gq, rfl, rd1, hgq, hv1⟩
      have rb9 := rb8.later hv1
      have hgl := rd1.lt
      have HB1 : Hid (Below w.heap.size w v1) := HBu.out.trans (hv1.mono HBu.out.size)
      obtain ⟨D, hD⟩ : ∃ D, D = dec (some bs) := ⟨_, rfl⟩
      have hv2 : Below v1.heap.size v1 (v1.alloc (.cells #[.slice (some ⟨ab, aoff, none⟩) 60 cap1, .int .i64 0, .bool false] 45)) := (Below.refl _ _).alloc (Nat.le_refl _) _
      have rd2 := rd1.later hv2
      have rb10 := rb9.later hv2
      have rf2 : Rf (v1.alloc (.cells #[.slice (some ⟨ab, aoff, none⟩) 60 cap1, .int .i64 0, .bool false] 45)) v1.heap.size (some ⟨ab, aoff, none⟩) 60 cap1 bs (some bs) := ⟨0, Nat.zero_le _, by show (v1.heap.push _)[v1.heap.size]? = _; simp, by simp⟩
      have HB2 : Hid (Below w.heap.size w (v1.alloc (.cells #[.slice (some ⟨ab, aoff, none⟩) 60 cap1, .int .i64 0, .bool false] 45))) := HB1.out.alloc HB1.out.size _
      clear hv1 rd1 rb8 rb9 hv2 HBu
      go_wp2_with fail
      refine (bread_any gq _ _ rd2).mono ?_
      rw [← hD]
      rintro e v3 ⟨rfl, rd3, ho3⟩
      have rf3 := rf2.only ho3 (by omega)
      have rb11 := rb10.only ho3 (fun x hx h0 => by have := HAB.out x hx h0; omega)
      have HB3 : Hid (Below w.heap.size w v3) := HB2.out.trans (ho3.below (by omega) HB2.out.size)
      have hpl : v1.heap.size < v3.heap.size := by have := ho3.size; simp at this; omega
      have hws1 := HB1.out.size
      clear rf2 rb10 ho3 HB1 HB2 rd2
      generalize v1.heap.size = pg at *
      obtain ⟨⟨d1, d2⟩, d3⟩ := D
      simp only at rd3
      go_wp2_with fail
      refine (plain_any d1 d2 _).mono ?_
      rintro e v4 ⟨rfl, hv4⟩
      have rf4 := rf3.later hv4
      have rb12 := rb11.later hv4
      have rd4 := rd3.later hv4
      have HB4 : Hid (Below w.heap.size w v4) := HB3.out.trans (hv4.mono HB3.out.size)
      have hpl4 : pg < v4.heap.size := by have := hv4.size; omega
      clear rf3 rb11 rd3 HB3 hv4
      go_wp2_with fail
      obtain ⟨V, hV⟩ : ∃ V, V = v4.alloc (.cells #[.int .u64 (d1 : Nat), .int .i64 d2] 24) := ⟨_, rfl⟩
      rw [← hV]
      have hv5 : Below v4.heap.size v4 V := by rw [hV]; exact (Below.refl _ _).alloc (Nat.le_refl _) _
      have z0 : V.cell? ⟨v4.heap.size, 0, none⟩ = some (.int .u64 (d1 : Nat)) := by rw [hV]; simp
      have z1 : V.cell? ⟨v4.heap.size, 1, none⟩ = some (.int .i64 d2) := by rw [hV]; simp
      have rf5 := rf4.later hv5
      have rb13 := rb12.later hv5
      have rd5 := rd4.later hv5
      have HBV : Hid (Below w.heap.size w V) := HB4.out.trans (hv5.mono HB4.out.size)
      clear rf4 rb12 rd4 HB4 hV hv5
      generalize v4.heap.size = zb at *
      have HS : Hid (∀ w', Only pg V w' → Only pg V w' ∧ w'.cell? ⟨zb, 0, none⟩ = some (.int .u64 (d1 : Nat)) ∧ w'.cell? ⟨zb, 1, none⟩ = some (.int .i64 d2) ∧ Rd w' gq d3) := fun w' ho => ⟨ho, World.grownBy.cell ho z0 (by simp; omega), World.grownBy.cell ho z1 (by simp; omega), rd5.only ho hgl⟩
      have HRD : Hid (∀ w', Below V.heap.size V w' → Calls Try.prog 23 #[.pointer (some ⟨pg, 0, none⟩)] w' fun e w'' => e = .returned (bal d1 d2) ∧ Rf w'' pg (some ⟨ab, aoff, none⟩) 60 cap1 bs d3 ∧ Only pg w' w'') := fun w' hb => by
        have := ref_bread_any pg (some ⟨ab, aoff, none⟩) 60 cap1 bs (some bs) w' (rf5.later hb) (rb13.later hb) (fun x hx h0 => by have := HAB.out x hx h0; omega) (by have := f1.1; omega) f1.2.1 (by omega)
        rw [← hD] at this
        exact this
      have heqs : ∀ w, (binOp .eql 24 (bal d1 d2) (bal d1 d2)).run Try.prog w = .ok (.bool true) w := eql_same d1 d2
      have hrl := rb13.1
      clear z0 z1 rd5 rf5 rb13 hD
      have hd1 : Below V.heap.size V V.drew := (Below.refl _ _).drew
      have hd0 : Only pg V V.drew := Below.only hd1
      refine wp_region_noPanic ?_
      refine wp_region_held_drew (S := (fun w' => Only pg V w' ∧ w'.cell? ⟨zb, 0, none⟩ = some (.int .u64 (d1 : Nat)) ∧ w'.cell? ⟨zb, 1, none⟩ = some (.int .i64 d2) ∧ Rd w' gq d3)) (by kernel_rfl) ?_ (fun hHeld => ?_)
      · exact HS.out _ hd0
      refine held_take (i := 0) (d := 71) (v := ?_) rfl rfl (by kernel_rfl) (by kernel_rfl) (by kernel_rfl) (fun _ _ _ h => h) (Or.inl ⟨by rfl, ?_⟩) hHeld ?_
      rotate_left
      · (intro w hSw; (try dsimp only at hSw); go_simp; all_goals (with_reducible rfl))
      try simp only [Act.put, List.setIfInBounds_toArray, List.set_cons_zero, List.set_cons_succ]
      refine held_take (i := 1) (d := 72) (v := ?_) rfl rfl (by kernel_rfl) (by kernel_rfl) (by kernel_rfl) (fun _ _ _ h => h) (Or.inl ⟨by rfl, ?_⟩) hHeld ?_
      rotate_left
      · (intro w hSw; (try dsimp only at hSw); go_simp; all_goals (with_reducible rfl))
      try simp only [Act.put, List.setIfInBounds_toArray, List.set_cons_zero, List.set_cons_succ]
      refine wpAnyH_ready (rs := [2]) (by kernel_rfl) (by simp) ?_
      refine AllReadyH.cons rfl (fun K hK => ?_) AllReadyH.nil
      go_simp
      refine (HRD.out _ hd1).mono ?_
      rintro e t1 ⟨rfl, rft, ht1⟩
      replace ht1 : Only pg V t1 := hd0.trans ht1
      go_wp2_with fail
      refine hK.out _ _ ?_ (fun hHeld => ?_)
      · exact HS.out _ ht1
      clear hK K
      try simp only [Act.put, List.setIfInBounds_toArray, List.set_cons_zero, List.set_cons_succ]
      have HS2 : Hid (∀ w', Below t1.heap.size t1 w' → (Only pg V w' ∧ w'.cell? ⟨zb, 0, none⟩ = some (.int .u64 (d1 : Nat)) ∧ w'.cell? ⟨zb, 1, none⟩ = some (.int .i64 d2) ∧ Rd w' gq d3) ∧ Rf w' pg (some ⟨ab, aoff, none⟩) 60 cap1 bs d3 ∧ w'.cell? ⟨pg, 2, none⟩ = some (.bool d3.isNone)) := fun w' hb => ⟨HS.out _ (ht1.trans (Below.only hb)), rft.later hb, by obtain ⟨p, _, hh, _⟩ := rft.later hb; exact cell_of_heap hh rfl⟩
      refine held_mono (S' := (fun w' => (Only pg V w' ∧ w'.cell? ⟨zb, 0, none⟩ = some (.int .u64 (d1 : Nat)) ∧ w'.cell? ⟨zb, 1, none⟩ = some (.int .i64 d2) ∧ Rd w' gq d3) ∧ Rf w' pg (some ⟨ab, aoff, none⟩) 60 cap1 bs d3 ∧ w'.cell? ⟨pg, 2, none⟩ = some (.bool d3.isNone))) (fun _ h => h.1) _ _ _ _ ?_
      replace hHeld := HS2.out _ (Below.refl _ _)
      refine held_take (i := 3) (d := 74) (v := ?_) rfl rfl (by kernel_rfl) (by kernel_rfl) (by kernel_rfl) (fun _ _ _ h => h) (Or.inl ⟨by rfl, ?_⟩) hHeld ?_
      rotate_left
      · (intro w hSw; (try dsimp only at hSw); go_simp; all_goals (with_reducible rfl))
      try simp only [Act.put, List.setIfInBounds_toArray, List.set_cons_zero, List.set_cons_succ]
      refine held_take (i := 4) (d := 75) (v := ?_) rfl rfl (by kernel_rfl) (by kernel_rfl) (by kernel_rfl) (fun _ _ _ h => h) (Or.inl ⟨by rfl, ?_⟩) hHeld ?_
      rotate_left
      · (intro w hSw; (try dsimp only at hSw); go_simp; all_goals (with_reducible rfl))
      try simp only [Act.put, List.setIfInBounds_toArray, List.set_cons_zero, List.set_cons_succ]
      refine held_take (i := 5) (d := 76) (v := ?_) rfl rfl (by kernel_rfl) (by kernel_rfl) (by kernel_rfl) (fun _ _ _ h => h) (Or.inl ⟨by rfl, ?_⟩) hHeld ?_
      rotate_left
      · (intro w hSw; (try dsimp only at hSw); go_simp; all_goals (with_reducible rfl))
      try simp only [Act.put, List.setIfInBounds_toArray, List.set_cons_zero, List.set_cons_succ]
      refine held_take (i := 7) (d := 78) (v := ?_) rfl rfl (by kernel_rfl) (by kernel_rfl) (by kernel_rfl) (fun _ _ _ h => h) (Or.inl ⟨by rfl, ?_⟩) hHeld ?_
      rotate_left
      · (intro w hSw; (try dsimp only at hSw); go_simp; all_goals (with_reducible rfl))
      try simp only [Act.put, List.setIfInBounds_toArray, List.set_cons_zero, List.set_cons_succ]
      refine held_take (i := 8) (d := 79) (v := ?_) rfl rfl (by kernel_rfl) (by kernel_rfl) (by kernel_rfl) (fun _ _ _ h => h) (Or.inl ⟨by rfl, ?_⟩) hHeld ?_
      rotate_left
      · (intro w hSw; (try dsimp only at hSw); go_simp; all_goals (with_reducible rfl))
      try simp only [Act.put, List.setIfInBounds_toArray, List.set_cons_zero, List.set_cons_succ]
      refine held_take (i := 9) (d := 80) (v := ?_) rfl rfl (by kernel_rfl) (by kernel_rfl) (by kernel_rfl) (fun _ _ _ h => h) (Or.inl ⟨by rfl, ?_⟩) hHeld ?_
      rotate_left
      · (intro w hSw; (try dsimp only at hSw); go_simp; all_goals (with_reducible rfl))
      try simp only [Act.put, List.setIfInBounds_toArray, List.set_cons_zero, List.set_cons_succ]
      refine held_take (i := 10) (d := 81) (v := ?_) rfl rfl (by kernel_rfl) (by kernel_rfl) (by kernel_rfl) (fun _ _ _ h => h) (Or.inl ⟨by rfl, ?_⟩) hHeld ?_
      rotate_left
      · (intro w hSw; (try dsimp only at hSw); go_simp; all_goals (with_reducible rfl))
      try simp only [Act.put, List.setIfInBounds_toArray, List.set_cons_zero, List.set_cons_succ]
      refine wpAnyH_ready (rs := [6]) (by kernel_rfl) (by simp) ?_
      refine AllReadyH.cons rfl (fun K hK => ?_) AllReadyH.nil
      go_simp
      refine (bad_any gq _ _ hHeld.1.2.2.2).mono ?_
      rintro e t2 ⟨rfl, hw⟩
      subst t2
      go_wp2_with fail
      refine hK.out _ _ ?_ (fun hHeld => ?_)
      · exact HS2.out _ (Below.refl _ _)
      clear hK K
      try simp only [Act.put, List.setIfInBounds_toArray, List.set_cons_zero, List.set_cons_succ]
      refine held_take (i := 11) (d := 82) (v := ?_) rfl rfl (by kernel_rfl) (by kernel_rfl) (by kernel_rfl) (fun _ _ _ h => h) (Or.inl ⟨by rfl, ?_⟩) hHeld ?_
      rotate_left
      · (intro w hSw; (try dsimp only at hSw); go_simp; all_goals (with_reducible rfl))
      try simp only [Act.put, List.setIfInBounds_toArray, List.set_cons_zero, List.set_cons_succ]
      refine held_take (i := 12) (d := 83) (v := ?_) rfl rfl (by kernel_rfl) (by kernel_rfl) (by kernel_rfl) (fun _ _ _ h => h) (Or.inl ⟨by rfl, ?_⟩) hHeld ?_
      rotate_left
      · (intro w hSw; (try dsimp only at hSw); go_simp; all_goals (with_reducible rfl))
      try simp only [Act.put, List.setIfInBounds_toArray, List.set_cons_zero, List.set_cons_succ]
      refine held_take (i := 13) (d := 84) (v := ?_) rfl rfl (by kernel_rfl) (by kernel_rfl) (by kernel_rfl) (fun _ _ _ h => h) (Or.inl ⟨by rfl, ?_⟩) hHeld ?_
      rotate_left
      · (intro w hSw; (try dsimp only at hSw); go_simp; all_goals (with_reducible rfl))
      try simp only [Act.put, List.setIfInBounds_toArray, List.set_cons_zero, List.set_cons_succ]
      refine held_take (i := 14) (d := 85) (v := ?_) rfl rfl (by kernel_rfl) (by kernel_rfl) (by kernel_rfl) (fun _ _ _ h => h) (Or.inl ⟨by rfl, ?_⟩) hHeld ?_
      rotate_left
      · (intro w hSw; (try dsimp only at hSw); go_simp; all_goals (with_reducible rfl))
      try simp only [Act.put, List.setIfInBounds_toArray, List.set_cons_zero, List.set_cons_succ]
      refine held_take (i := 16) (d := 87) (v := ?_) rfl rfl (by kernel_rfl) (by kernel_rfl) (by kernel_rfl) (fun _ _ _ h => h) (Or.inl ⟨by rfl, ?_⟩) hHeld ?_
      rotate_left
      · (intro w hSw; (try dsimp only at hSw); go_simp; all_goals (with_reducible rfl))
      try simp only [Act.put, List.setIfInBounds_toArray, List.set_cons_zero, List.set_cons_succ]
      refine wpAnyH_ready (rs := [15]) (by kernel_rfl) (by simp) ?_
      refine AllReadyH.cons rfl (fun K hK => ?_) AllReadyH.nil
      go_simp
      refine (left_any gq _ _ hHeld.1.2.2.2).mono ?_
      rintro e t2 ⟨rfl, hw⟩
      subst t2
      go_wp2_with fail
      refine hK.out _ _ ?_ (fun hHeld => ?_)
      · exact HS2.out _ (Below.refl _ _)
      clear hK K
      try simp only [Act.put, List.setIfInBounds_toArray, List.set_cons_zero, List.set_cons_succ]
      refine wpAnyH_ready (rs := [17]) (by kernel_rfl) (by simp) ?_
      refine AllReadyH.cons rfl (fun K hK => ?_) AllReadyH.nil
      go_simp
      refine (refleft_any pg (some ⟨ab, aoff, none⟩) 60 cap1 bs _ _ hHeld.2.1 hrl (by omega)).mono ?_
      rintro e t3 ⟨rfl, kk, hw⟩
      have ht3 : Below t1.heap.size t1 t3 := by rw [hw]; exact below_drewN (Below.refl _ _) _
      clear hw
      go_wp2_with fail
      refine hK.out _ _ ?_ (fun hHeld => ?_)
      · exact HS2.out _ ht3
      clear hK K
      try simp only [Act.put, List.setIfInBounds_toArray, List.set_cons_zero, List.set_cons_succ]
      refine held_take (i := 18) (d := 89) (v := ?_) rfl rfl (by kernel_rfl) (by kernel_rfl) (by kernel_rfl) (fun _ _ _ h => h) (Or.inl ⟨by rfl, ?_⟩) hHeld ?_
      rotate_left
      · (intro w hSw; (try dsimp only at hSw); go_simp; all_goals (with_reducible rfl))
      try simp only [Act.put, List.setIfInBounds_toArray, List.set_cons_zero, List.set_cons_succ]
      refine held_take (i := 19) (d := 90) (v := ?_) rfl rfl (by kernel_rfl) (by kernel_rfl) (by kernel_rfl) (fun _ _ _ h => h) (Or.inl ⟨by rfl, ?_⟩) hHeld ?_
      rotate_left
      · (intro w hSw; (try dsimp only at hSw); go_simp; all_goals (with_reducible rfl))
      try simp only [Act.put, List.setIfInBounds_toArray, List.set_cons_zero, List.set_cons_succ]
      refine held_take (i := 20) (d := 91) (v := ?_) rfl rfl (by kernel_rfl) (by kernel_rfl) (by kernel_rfl) (fun _ _ _ h => h) (Or.inl ⟨by rfl, ?_⟩) hHeld ?_
      rotate_left
      · (intro w hSw; (try dsimp only at hSw); go_simp; all_goals (with_reducible rfl))
      try simp only [Act.put, List.setIfInBounds_toArray, List.set_cons_zero, List.set_cons_succ]
      refine wpAnyH_ready (rs := [21]) (by kernel_rfl) (by simp) ?_
      refine AllReadyH.cons rfl (fun K hK => ?_) AllReadyH.nil
      go_simp
      refine (awake7_any _).mono ?_
      rintro e t4 ⟨rfl, hw4⟩
      subst t4
      go_wp2_with fail
      refine hK.out _ _ ?_ (fun hHeld => ?_)
      · exact HS2.out _ ht3
      clear hK K
      try simp only [Act.put, List.setIfInBounds_toArray, List.set_cons_zero, List.set_cons_succ]
      refine held_take (i := 22) (d := 93) (v := ?_) rfl rfl (by kernel_rfl) (by kernel_rfl) (by kernel_rfl) (fun _ _ _ h => h) (Or.inl ⟨by rfl, ?_⟩) hHeld ?_
      rotate_left
      · (intro w hSw; (try dsimp only at hSw); go_simp; all_goals (with_reducible rfl))
      try simp only [Act.put, List.setIfInBounds_toArray, List.set_cons_zero, List.set_cons_succ]
      refine held_take (i := 23) (d := 4) (v := ?_) rfl rfl (by kernel_rfl) (by kernel_rfl) (by kernel_rfl) (fun _ _ _ h => h) (Or.inl ⟨by rfl, ?_⟩) hHeld ?_
      rotate_left
      · (intro w hSw; (try dsimp only at hSw); go_simp; all_goals (with_reducible rfl))
      try simp only [Act.put, List.setIfInBounds_toArray, List.set_cons_zero, List.set_cons_succ]
      refine wpAnyH_done (by kernel_rfl) ?_ _
      refine NoPanic.normal ?_
      go_wp2
      go_ret
      have hA := HBV.out.trans (ht1.below (by omega) HBV.out.size)
      exact ⟨rfl, hA.trans (ht3.mono hA.size)⟩
    · have hk : ¬ (0 ≤ n0 ∧ n0 < 5) := by omega
      go_enter Try.func5, Try.ntmps5
      go_wp2_with fail
      refine (ours_any r0 n0 _).mono ?_
      rintro e w2 ⟨rfl, hb2⟩
      have hb2' := hb0.trans (hb2.mono hb0.size)
      have rb2 := rb.later hb2'
      go_wp2_with fail
      refine (bput_any _ 60 cap1 r0 n0 bs _ rb2 f1.2.2 (by omega) hr0).mono ?_
      rintro e w3 ⟨g3, N, rfl, rs3, hN, hb3⟩
      have hb3' := hb2'.trans (hb3.mono hb2'.size)
      have x30 : w3.cell? ⟨w.heap.size, 0, none⟩ = some (.int .u64 (r0 : Nat)) := cell_later hb3 (cell_later hb2 (by simp))
      have x31 : w3.cell? ⟨w.heap.size, 1, none⟩ = some (.int .i64 n0) := cell_later hb3 (cell_later hb2 (by simp))
      have hel : (enc r0 n0).length = N - 60 ∧ 60 < N := by
        have h1 := rs3.1
        have h2 := rb2.1
        have h3 := (Oct.putF_len 9 r0).1
        rw [List.length_append] at h1
        have h4 : (enc r0 n0).length = (Oct.putF 9 r0).length + (Oct.put (code n0)).length := by unfold enc; rw [List.length_append]; rfl
        omega
      have HG3 : Hid (g3 < w3.heap.size) := by
        obtain ⟨b, off, hb, hcc⟩ := rs3.at (by omega)
        simp only [Option.some.injEq, Addr.mk.injEq] at hb
        obtain ⟨rfl, _⟩ := hb
        exact World.block_lt_of_cell? _ _ (hcc 0 (by omega))
      have rd3 := rs3.drop 60 (by omega)
      rw [show List.drop 60 (bs ++ enc r0 n0) = enc r0 n0 by rw [← rb2.1, List.drop_left]] at rd3
      simp only [Nat.zero_add] at rd3
      have hNm : ¬ N = 60 := by omega
      have hmN : (60 : Int) ≤ (N : Int) := by omega
      have hmN2 : ¬ (N : Int) < (60 : Int) := by omega
      go_wp2_with fail
      refine (new_any _ (N - 60) (N - 60) _ _ rd3 (by simp) (by omega)).mono ?_
      rintro e w4 ⟨g4, rfl, rd4, hg4, hb4⟩
      have hb4' := hb3'.trans (hb4.mono hb3'.size)
      have x40 := cell_later hb4 x30
      have x41 := cell_later hb4 x31
      have rs4 := rs3.later hb4
      have rb4 := rb2.later (hb3.trans (hb4.mono hb3.size))
      have hx3 : w.heap.size < w3.heap.size := World.block_lt_of_cell? _ _ x30
      clear rs3 rd3 hb3 hb2 x30 x31 hel
      go_wp2_with fail
      refine (bread_any g4 _ _ rd4).mono ?_
      have hde := dec_enc r0 n0 hr0 []
      rw [List.append_nil] at hde
      rw [hde, if_neg hk]
      rintro e w5 ⟨rfl, rd5, ho5⟩
      clear hde
      have g3lt : g3 < w3.heap.size := HG3.out
      have rs5 := rs4.only ho5 (fun x hx _ => by simp at hx; subst hx; simp; omega)
      have rb5 := rb4.only ho5 (fun x hx h0 => by have := HAB.out x hx h0; omega)
      have x50 : w5.cell? ⟨w.heap.size, 0, none⟩ = some (.int .u64 (r0 : Nat)) := World.grownBy.cell ho5 x40 (by simp; omega)
      have x51 : w5.cell? ⟨w.heap.size, 1, none⟩ = some (.int .i64 n0) := World.grownBy.cell ho5 x41 (by simp; omega)
      have hb5' : Below w.heap.size w w5 := hb4'.trans (ho5.below (by omega) hb4'.size)
      clear rs4 rb4 x40 x41 ho5 hb4 hb4' rd4 rb2 hb3' hb2' hb0 rb
      go_wp2_with fail
      refine (plain_any r0 (-1) _).mono ?_
      rintro e w6 ⟨rfl, hb6⟩
      have rs6 := rs5.later hb6
      have rb6 := rb5.later hb6
      have rd6 := rd5.later hb6
      have x60 := cell_later hb6 x50
      have x61 := cell_later hb6 x51
      have hb6' := hb5'.trans (hb6.mono hb5'.size)
      have hx6 : w.heap.size < w6.heap.size := World.block_lt_of_cell? _ _ x60
      clear rs5 rb5 rd5 x50 x51 hb5' hb6
      go_upto_region 11 with fail
      obtain ⟨W, hW⟩ : ∃ W, W = (w6.alloc (.cells #[.int .u64 (r0 : Nat), .int .i64 (-1)] 24)).alloc (.cells #[.int .u64 (r0 : Nat), .int .i64 (-1)] 24) := ⟨_, rfl⟩
      rw [← hW]
      have hb7 : Below w6.heap.size w6 W := by rw [hW]; exact ((Below.refl _ _).alloc (Nat.le_refl _) _).alloc (by simp) _
      have q00 := cell_later hb7 x60
      have q01 := cell_later hb7 x61
      have q10 : W.cell? ⟨w6.heap.size, 0, none⟩ = some (.int .u64 (r0 : Nat)) := by rw [hW]; go_cell
      have q11 : W.cell? ⟨w6.heap.size, 1, none⟩ = some (.int .i64 (-1)) := by rw [hW]; go_cell
      have q20 : W.cell? ⟨w6.heap.size + 1, 0, none⟩ = some (.int .u64 (r0 : Nat)) := by rw [hW]; go_cell
      have q21 : W.cell? ⟨w6.heap.size + 1, 1, none⟩ = some (.int .i64 (-1)) := by rw [hW]; go_cell
      have rs7 := rs6.later hb7
      have rb7 := rb6.later hb7
      have rd7 := rd6.later hb7
      have HB7 : Hid (Below w.heap.size w W) := hb6'.trans (hb7.mono hb6'.size)
      have hsum : bs.length + (enc r0 n0).length = N := by have := rs7.1; rw [List.length_append] at this; exact this
      clear x60 x61 rs6 rb6 rd6 hb6' hb7 hW
      generalize w6.heap.size = yb at *
      have HS : Hid (∀ w', Below W.heap.size W w' → Below W.heap.size W w' ∧ w'.cell? ⟨w.heap.size, 0, none⟩ = some (.int .u64 (r0 : Nat)) ∧ w'.cell? ⟨w.heap.size, 1, none⟩ = some (.int .i64 n0) ∧ w'.cell? ⟨yb, 0, none⟩ = some (.int .u64 (r0 : Nat)) ∧ w'.cell? ⟨yb, 1, none⟩ = some (.int .i64 (-1)) ∧ w'.cell? ⟨yb + 1, 0, none⟩ = some (.int .u64 (r0 : Nat)) ∧ w'.cell? ⟨yb + 1, 1, none⟩ = some (.int .i64 (-1)) ∧ (convert 37 9 (.slice (some ⟨ab, aoff, none⟩) 60 cap1)).run Try.prog w' = .ok (.string (str bs)) w' ∧ (convert 37 9 (.slice (some ⟨g3, 0, none⟩) N N)).run Try.prog w' = .ok (.string (str (bs ++ enc r0 n0))) w' ∧ Rd w' g4 (some [])) := fun w' hb => ⟨hb, cell_later hb q00, cell_later hb q01, cell_later hb q10, cell_later hb q11, cell_later hb q20, cell_later hb q21, conv_row (rb7.later hb) _, conv_row (rs7.later hb) _, rd7.later hb⟩
      have ha : ∀ w, (Op.stringOp .add (str bs) (str (enc r0 n0))).run Try.prog w = .ok (.string (str (bs ++ enc r0 n0))) w := fun w => add_str _ _ w (by omega)
      have hne : ∀ w, (binOp .neq 24 (bal r0 (-1)) (bal r0 (-1))).run Try.prog w = .ok (.bool false) w := neq_same r0 (-1)
      clear q00 q01 q10 q11 q20 q21 rs7 rd7 hsum hx6
      have hd0 : Below W.heap.size W W.drew := (Below.refl _ _).drew
      refine wp_region_noPanic ?_
      refine wp_region_held_drew (S := (fun w' => Below W.heap.size W w' ∧ w'.cell? ⟨w.heap.size, 0, none⟩ = some (.int .u64 (r0 : Nat)) ∧ w'.cell? ⟨w.heap.size, 1, none⟩ = some (.int .i64 n0) ∧ w'.cell? ⟨yb, 0, none⟩ = some (.int .u64 (r0 : Nat)) ∧ w'.cell? ⟨yb, 1, none⟩ = some (.int .i64 (-1)) ∧ w'.cell? ⟨yb + 1, 0, none⟩ = some (.int .u64 (r0 : Nat)) ∧ w'.cell? ⟨yb + 1, 1, none⟩ = some (.int .i64 (-1)) ∧ (convert 37 9 (.slice (some ⟨ab, aoff, none⟩) 60 cap1)).run Try.prog w' = .ok (.string (str bs)) w' ∧ (convert 37 9 (.slice (some ⟨g3, 0, none⟩) N N)).run Try.prog w' = .ok (.string (str (bs ++ enc r0 n0))) w' ∧ Rd w' g4 (some []))) (by kernel_rfl) ?_ (fun hHeld => ?_)
      · exact HS.out _ hd0
      refine held_take (i := 0) (d := 44) (v := ?_) rfl rfl (by kernel_rfl) (by kernel_rfl) (by kernel_rfl) (fun _ _ _ h => h) (Or.inl ⟨by rfl, ?_⟩) hHeld ?_
      rotate_left
      · (intro w hSw; (try dsimp only at hSw); go_simp; all_goals (with_reducible rfl))
      try simp only [Act.put, List.setIfInBounds_toArray, List.set_cons_zero, List.set_cons_succ]
      refine held_take (i := 1) (d := 45) (v := ?_) rfl rfl (by kernel_rfl) (by kernel_rfl) (by kernel_rfl) (fun _ _ _ h => h) (Or.inl ⟨by rfl, ?_⟩) hHeld ?_
      rotate_left
      · (intro w hSw; (try dsimp only at hSw); go_simp; all_goals (with_reducible rfl))
      try simp only [Act.put, List.setIfInBounds_toArray, List.set_cons_zero, List.set_cons_succ]
      refine held_take (i := 2) (d := 46) (v := ?_) rfl rfl (by kernel_rfl) (by kernel_rfl) (by kernel_rfl) (fun _ _ _ h => h) (Or.inl ⟨by rfl, ?_⟩) hHeld ?_
      rotate_left
      · (intro w hSw; (try dsimp only at hSw); go_simp; all_goals (with_reducible rfl))
      try simp only [Act.put, List.setIfInBounds_toArray, List.set_cons_zero, List.set_cons_succ]
      refine held_take (i := 3) (d := 47) (v := ?_) rfl rfl (by kernel_rfl) (by kernel_rfl) (by kernel_rfl) (fun _ _ _ h => h) (Or.inl ⟨by rfl, ?_⟩) hHeld ?_
      rotate_left
      · (intro w hSw; (try dsimp only at hSw); go_simp; all_goals (with_reducible rfl))
      try simp only [Act.put, List.setIfInBounds_toArray, List.set_cons_zero, List.set_cons_succ]
      refine held_take (i := 4) (d := 48) (v := ?_) rfl rfl (by kernel_rfl) (by kernel_rfl) (by kernel_rfl) (fun _ _ _ h => h) (Or.inl ⟨by rfl, ?_⟩) hHeld ?_
      rotate_left
      · (intro w hSw; (try dsimp only at hSw); go_simp; all_goals (with_reducible rfl))
      try simp only [Act.put, List.setIfInBounds_toArray, List.set_cons_zero, List.set_cons_succ]
      refine wpAnyH_ready (rs := [5]) (by kernel_rfl) (by simp) ?_
      refine AllReadyH.cons rfl (fun K hK => ?_) AllReadyH.nil
      go_simp
      refine (ref_bput_any r0 n0 _ hr0).mono ?_
      rintro e u1 ⟨a4, n4, cap4, rfl, r4, hu1⟩
      replace hu1 : Below W.heap.size W u1 := hd0.trans (hu1.mono hd0.size)
      go_wp2_with fail
      refine hK.out _ _ ?_ (fun hHeld => ?_)
      · exact HS.out _ hu1
      clear hK K
      try simp only [Act.put, List.setIfInBounds_toArray, List.set_cons_zero, List.set_cons_succ]
      have HS2 : Hid (∀ w', Below u1.heap.size u1 w' → (Below W.heap.size W w' ∧ w'.cell? ⟨w.heap.size, 0, none⟩ = some (.int .u64 (r0 : Nat)) ∧ w'.cell? ⟨w.heap.size, 1, none⟩ = some (.int .i64 n0) ∧ w'.cell? ⟨yb, 0, none⟩ = some (.int .u64 (r0 : Nat)) ∧ w'.cell? ⟨yb, 1, none⟩ = some (.int .i64 (-1)) ∧ w'.cell? ⟨yb + 1, 0, none⟩ = some (.int .u64 (r0 : Nat)) ∧ w'.cell? ⟨yb + 1, 1, none⟩ = some (.int .i64 (-1)) ∧ (convert 37 9 (.slice (some ⟨ab, aoff, none⟩) 60 cap1)).run Try.prog w' = .ok (.string (str bs)) w' ∧ (convert 37 9 (.slice (some ⟨g3, 0, none⟩) N N)).run Try.prog w' = .ok (.string (str (bs ++ enc r0 n0))) w' ∧ Rd w' g4 (some [])) ∧ (convert 37 9 (.slice a4 n4 cap4)).run Try.prog w' = .ok (.string (str (enc r0 n0))) w') := fun w' hb => ⟨HS.out _ (hu1.trans (hb.mono hu1.size)), conv_row (r4.later hb) _⟩
      refine held_mono (S' := (fun w' => (Below W.heap.size W w' ∧ w'.cell? ⟨w.heap.size, 0, none⟩ = some (.int .u64 (r0 : Nat)) ∧ w'.cell? ⟨w.heap.size, 1, none⟩ = some (.int .i64 n0) ∧ w'.cell? ⟨yb, 0, none⟩ = some (.int .u64 (r0 : Nat)) ∧ w'.cell? ⟨yb, 1, none⟩ = some (.int .i64 (-1)) ∧ w'.cell? ⟨yb + 1, 0, none⟩ = some (.int .u64 (r0 : Nat)) ∧ w'.cell? ⟨yb + 1, 1, none⟩ = some (.int .i64 (-1)) ∧ (convert 37 9 (.slice (some ⟨ab, aoff, none⟩) 60 cap1)).run Try.prog w' = .ok (.string (str bs)) w' ∧ (convert 37 9 (.slice (some ⟨g3, 0, none⟩) N N)).run Try.prog w' = .ok (.string (str (bs ++ enc r0 n0))) w' ∧ Rd w' g4 (some [])) ∧ (convert 37 9 (.slice a4 n4 cap4)).run Try.prog w' = .ok (.string (str (enc r0 n0))) w')) (fun _ h => h.1) _ _ _ _ ?_
      replace hHeld := HS2.out _ (Below.refl _ _)
      refine held_take (i := 6) (d := 50) (v := ?_) rfl rfl (by kernel_rfl) (by kernel_rfl) (by kernel_rfl) (fun _ _ _ h => h) (Or.inl ⟨by rfl, ?_⟩) hHeld ?_
      rotate_left
      · (intro w hSw; (try dsimp only at hSw); go_simp; all_goals (with_reducible rfl))
      try simp only [Act.put, List.setIfInBounds_toArray, List.set_cons_zero, List.set_cons_succ]
      refine held_take (i := 7) (d := 51) (v := ?_) rfl rfl (by kernel_rfl) (by kernel_rfl) (by kernel_rfl) (fun _ _ _ h => h) (Or.inl ⟨by rfl, ?_⟩) hHeld ?_
      rotate_left
      · (intro w hSw; (try dsimp only at hSw); go_simp; all_goals (with_reducible rfl))
      try simp only [Act.put, List.setIfInBounds_toArray, List.set_cons_zero, List.set_cons_succ]
      refine held_take (i := 8) (d := 52) (v := ?_) rfl rfl (by kernel_rfl) (by kernel_rfl) (by kernel_rfl) (fun _ _ _ h => h) (Or.inl ⟨by rfl, ?_⟩) hHeld ?_
      rotate_left
      · (intro w hSw; (try dsimp only at hSw); go_simp; all_goals (with_reducible rfl))
      try simp only [Act.put, List.setIfInBounds_toArray, List.set_cons_zero, List.set_cons_succ]
      refine held_take (i := 9) (d := 53) (v := ?_) rfl rfl (by kernel_rfl) (by kernel_rfl) (by kernel_rfl) (fun _ _ _ h => h) (Or.inl ⟨by rfl, ?_⟩) hHeld ?_
      rotate_left
      · (intro w hSw; (try dsimp only at hSw); go_simp; all_goals (with_reducible rfl))
      try simp only [Act.put, List.setIfInBounds_toArray, List.set_cons_zero, List.set_cons_succ]
      refine held_take (i := 10) (d := 54) (v := ?_) rfl rfl (by kernel_rfl) (by kernel_rfl) (by kernel_rfl) (fun _ _ _ h => h) (Or.inl ⟨by rfl, ?_⟩) hHeld ?_
      rotate_left
      · (intro w hSw; (try dsimp only at hSw); go_simp; all_goals (with_reducible rfl))
      try simp only [Act.put, List.setIfInBounds_toArray, List.set_cons_zero, List.set_cons_succ]
      refine held_take (i := 11) (d := 55) (v := ?_) rfl rfl (by kernel_rfl) (by kernel_rfl) (by kernel_rfl) (fun _ _ _ h => h) (Or.inl ⟨by rfl, ?_⟩) hHeld ?_
      rotate_left
      · (intro w hSw; (try dsimp only at hSw); go_simp; all_goals (with_reducible rfl))
      try simp only [Act.put, List.setIfInBounds_toArray, List.set_cons_zero, List.set_cons_succ]
      refine held_take (i := 12) (d := 56) (v := ?_) rfl rfl (by kernel_rfl) (by kernel_rfl) (by kernel_rfl) (fun _ _ _ h => h) (Or.inl ⟨by rfl, ?_⟩) hHeld ?_
      rotate_left
      · (intro w hSw; (try dsimp only at hSw); go_simp; all_goals (with_reducible rfl))
      try simp only [Act.put, List.setIfInBounds_toArray, List.set_cons_zero, List.set_cons_succ]
      refine held_take (i := 13) (d := 57) (v := ?_) rfl rfl (by kernel_rfl) (by kernel_rfl) (by kernel_rfl) (fun _ _ _ h => h) (Or.inl ⟨by rfl, ?_⟩) hHeld ?_
      rotate_left
      · (intro w hSw; (try dsimp only at hSw); go_simp; all_goals (with_reducible rfl))
      try simp only [Act.put, List.setIfInBounds_toArray, List.set_cons_zero, List.set_cons_succ]
      refine held_take (i := 14) (d := 58) (v := ?_) rfl rfl (by kernel_rfl) (by kernel_rfl) (by kernel_rfl) (fun _ _ _ h => h) (Or.inl ⟨by rfl, ?_⟩) hHeld ?_
      rotate_left
      · (intro w hSw; (try dsimp only at hSw); go_simp; all_goals (with_reducible rfl))
      try simp only [Act.put, List.setIfInBounds_toArray, List.set_cons_zero, List.set_cons_succ]
      refine held_take (i := 15) (d := 59) (v := ?_) rfl rfl (by kernel_rfl) (by kernel_rfl) (by kernel_rfl) (fun _ _ _ h => h) (Or.inl ⟨by rfl, ?_⟩) hHeld ?_
      rotate_left
      · (intro w hSw; (try dsimp only at hSw); go_simp; all_goals (with_reducible rfl))
      try simp only [Act.put, List.setIfInBounds_toArray, List.set_cons_zero, List.set_cons_succ]
      refine wpAnyH_ready (rs := [16]) (by kernel_rfl) (by simp) ?_
      refine AllReadyH.cons rfl (fun K hK => ?_) AllReadyH.nil
      go_simp
      refine (done_any g4 _ _ hHeld.1.2.2.2.2.2.2.2.2.2).mono ?_
      rintro e u2 ⟨rfl, hu2⟩
      subst u2
      rw [show ((some [] : Option (List Nat)) == some []) = true from rfl]
      go_wp2_with fail
      refine hK.out _ _ ?_ (fun hHeld => ?_)
      · exact HS2.out _ (Below.refl _ _)
      clear hK K
      try simp only [Act.put, List.setIfInBounds_toArray, List.set_cons_zero, List.set_cons_succ]
      refine held_take (i := 17) (d := 61) (v := ?_) rfl rfl (by kernel_rfl) (by kernel_rfl) (by kernel_rfl) (fun _ _ _ h => h) (Or.inl ⟨by rfl, ?_⟩) hHeld ?_
      rotate_left
      · (intro w hSw; (try dsimp only at hSw); go_simp; all_goals (with_reducible rfl))
      try simp only [Act.put, List.setIfInBounds_toArray, List.set_cons_zero, List.set_cons_succ]
      refine held_take (i := 18) (d := 62) (v := ?_) rfl rfl (by kernel_rfl) (by kernel_rfl) (by kernel_rfl) (fun _ _ _ h => h) (Or.inl ⟨by rfl, ?_⟩) hHeld ?_
      rotate_left
      · (intro w hSw; (try dsimp only at hSw); go_simp; all_goals (with_reducible rfl))
      try simp only [Act.put, List.setIfInBounds_toArray, List.set_cons_zero, List.set_cons_succ]
      refine wpAnyH_done (by kernel_rfl) ?_ _
      refine NoPanic.normal ?_
      have HBu : Hid (Below w.heap.size w u1) := HB7.out.trans (hu1.mono HB7.out.size)
      have rb8 : Row u1 (some ⟨ab, aoff, none⟩) 60 bs := rb7.later hu1
      clear ha hne HS HS2 hHeld hd0 HB7 hu1 r4 rb7
      go_wp2_with fail
      have hws := HBu.out.size
      refine (new_any (some ⟨ab, aoff, none⟩) 60 cap1 bs _ rb8 f1.2.2 (by omega)).mono ?_
      rintro e v1 ⟨gq, rfl, rd1, hgq, hv1⟩
      have rb9 := rb8.later hv1
      have hgl := rd1.lt
      have HB1 : Hid (Below w.heap.size w v1) := HBu.out.trans (hv1.mono HBu.out.size)
      obtain ⟨D, hD⟩ : ∃ D, D = dec (some bs) := ⟨_, rfl⟩
      have hv2 : Below v1.heap.size v1 (v1.alloc (.cells #[.slice (some ⟨ab, aoff, none⟩) 60 cap1, .int .i64 0, .bool false] 45)) := (Below.refl _ _).alloc (Nat.le_refl _) _
      have rd2 := rd1.later hv2
      have rb10 := rb9.later hv2
      have rf2 : Rf (v1.alloc (.cells #[.slice (some ⟨ab, aoff, none⟩) 60 cap1, .int .i64 0, .bool false] 45)) v1.heap.size (some ⟨ab, aoff, none⟩) 60 cap1 bs (some bs) := ⟨0, Nat.zero_le _, by show (v1.heap.push _)[v1.heap.size]? = _; simp, by simp⟩
      have HB2 : Hid (Below w.heap.size w (v1.alloc (.cells #[.slice (some ⟨ab, aoff, none⟩) 60 cap1, .int .i64 0, .bool false] 45))) := HB1.out.alloc HB1.out.size _
      clear hv1 rd1 rb8 rb9 hv2 HBu
      go_wp2_with fail
      refine (bread_any gq _ _ rd2).mono ?_
      rw [← hD]
      rintro e v3 ⟨rfl, rd3, ho3⟩
      have rf3 := rf2.only ho3 (by omega)
      have rb11 := rb10.only ho3 (fun x hx h0 => by have := HAB.out x hx h0; omega)
      have HB3 : Hid (Below w.heap.size w v3) := HB2.out.trans (ho3.below (by omega) HB2.out.size)
      have hpl : v1.heap.size < v3.heap.size := by have := ho3.size; simp at this; omega
      have hws1 := HB1.out.size
      clear rf2 rb10 ho3 HB1 HB2 rd2
      generalize v1.heap.size = pg at *
      obtain ⟨⟨d1, d2⟩, d3⟩ := D
      simp only at rd3
      go_wp2_with fail
      refine (plain_any d1 d2 _).mono ?_
      rintro e v4 ⟨rfl, hv4⟩
      have rf4 := rf3.later hv4
      have rb12 := rb11.later hv4
      have rd4 := rd3.later hv4
      have HB4 : Hid (Below w.heap.size w v4) := HB3.out.trans (hv4.mono HB3.out.size)
      have hpl4 : pg < v4.heap.size := by have := hv4.size; omega
      clear rf3 rb11 rd3 HB3 hv4
      go_wp2_with fail
      obtain ⟨V, hV⟩ : ∃ V, V = v4.alloc (.cells #[.int .u64 (d1 : Nat), .int .i64 d2] 24) := ⟨_, rfl⟩
      rw [← hV]
      have hv5 : Below v4.heap.size v4 V := by rw [hV]; exact (Below.refl _ _).alloc (Nat.le_refl _) _
      have z0 : V.cell? ⟨v4.heap.size, 0, none⟩ = some (.int .u64 (d1 : Nat)) := by rw [hV]; simp
      have z1 : V.cell? ⟨v4.heap.size, 1, none⟩ = some (.int .i64 d2) := by rw [hV]; simp
      have rf5 := rf4.later hv5
      have rb13 := rb12.later hv5
      have rd5 := rd4.later hv5
      have HBV : Hid (Below w.heap.size w V) := HB4.out.trans (hv5.mono HB4.out.size)
      clear rf4 rb12 rd4 HB4 hV hv5
      generalize v4.heap.size = zb at *
      have HS : Hid (∀ w', Only pg V w' → Only pg V w' ∧ w'.cell? ⟨zb, 0, none⟩ = some (.int .u64 (d1 : Nat)) ∧ w'.cell? ⟨zb, 1, none⟩ = some (.int .i64 d2) ∧ Rd w' gq d3) := fun w' ho => ⟨ho, World.grownBy.cell ho z0 (by simp; omega), World.grownBy.cell ho z1 (by simp; omega), rd5.only ho hgl⟩
      have HRD : Hid (∀ w', Below V.heap.size V w' → Calls Try.prog 23 #[.pointer (some ⟨pg, 0, none⟩)] w' fun e w'' => e = .returned (bal d1 d2) ∧ Rf w'' pg (some ⟨ab, aoff, none⟩) 60 cap1 bs d3 ∧ Only pg w' w'') := fun w' hb => by
        have := ref_bread_any pg (some ⟨ab, aoff, none⟩) 60 cap1 bs (some bs) w' (rf5.later hb) (rb13.later hb) (fun x hx h0 => by have := HAB.out x hx h0; omega) (by have := f1.1; omega) f1.2.1 (by omega)
        rw [← hD] at this
        exact this
      have heqs : ∀ w, (binOp .eql 24 (bal d1 d2) (bal d1 d2)).run Try.prog w = .ok (.bool true) w := eql_same d1 d2
      have hrl := rb13.1
      clear z0 z1 rd5 rf5 rb13 hD
      have hd1 : Below V.heap.size V V.drew := (Below.refl _ _).drew
      have hd0 : Only pg V V.drew := Below.only hd1
      refine wp_region_noPanic ?_
      refine wp_region_held_drew (S := (fun w' => Only pg V w' ∧ w'.cell? ⟨zb, 0, none⟩ = some (.int .u64 (d1 : Nat)) ∧ w'.cell? ⟨zb, 1, none⟩ = some (.int .i64 d2) ∧ Rd w' gq d3)) (by kernel_rfl) ?_ (fun hHeld => ?_)
      · exact HS.out _ hd0
      refine held_take (i := 0) (d := 71) (v := ?_) rfl rfl (by kernel_rfl) (by kernel_rfl) (by kernel_rfl) (fun _ _ _ h => h) (Or.inl ⟨by rfl, ?_⟩) hHeld ?_
      rotate_left
      · (intro w hSw; (try dsimp only at hSw); go_simp; all_goals (with_reducible rfl))
      try simp only [Act.put, List.setIfInBounds_toArray, List.set_cons_zero, List.set_cons_succ]
      refine held_take (i := 1) (d := 72) (v := ?_) rfl rfl (by kernel_rfl) (by kernel_rfl) (by kernel_rfl) (fun _ _ _ h => h) (Or.inl ⟨by rfl, ?_⟩) hHeld ?_
      rotate_left
      · (intro w hSw; (try dsimp only at hSw); go_simp; all_goals (with_reducible rfl))
      try simp only [Act.put, List.setIfInBounds_toArray, List.set_cons_zero, List.set_cons_succ]
      refine wpAnyH_ready (rs := [2]) (by kernel_rfl) (by simp) ?_
      refine AllReadyH.cons rfl (fun K hK => ?_) AllReadyH.nil
      go_simp
      refine (HRD.out _ hd1).mono ?_
      rintro e t1 ⟨rfl, rft, ht1⟩
      replace ht1 : Only pg V t1 := hd0.trans ht1
      go_wp2_with fail
      refine hK.out _ _ ?_ (fun hHeld => ?_)
      · exact HS.out _ ht1
      clear hK K
      try simp only [Act.put, List.setIfInBounds_toArray, List.set_cons_zero, List.set_cons_succ]
      have HS2 : Hid (∀ w', Below t1.heap.size t1 w' → (Only pg V w' ∧ w'.cell? ⟨zb, 0, none⟩ = some (.int .u64 (d1 : Nat)) ∧ w'.cell? ⟨zb, 1, none⟩ = some (.int .i64 d2) ∧ Rd w' gq d3) ∧ Rf w' pg (some ⟨ab, aoff, none⟩) 60 cap1 bs d3 ∧ w'.cell? ⟨pg, 2, none⟩ = some (.bool d3.isNone)) := fun w' hb => ⟨HS.out _ (ht1.trans (Below.only hb)), rft.later hb, by obtain ⟨p, _, hh, _⟩ := rft.later hb; exact cell_of_heap hh rfl⟩
      refine held_mono (S' := (fun w' => (Only pg V w' ∧ w'.cell? ⟨zb, 0, none⟩ = some (.int .u64 (d1 : Nat)) ∧ w'.cell? ⟨zb, 1, none⟩ = some (.int .i64 d2) ∧ Rd w' gq d3) ∧ Rf w' pg (some ⟨ab, aoff, none⟩) 60 cap1 bs d3 ∧ w'.cell? ⟨pg, 2, none⟩ = some (.bool d3.isNone))) (fun _ h => h.1) _ _ _ _ ?_
      replace hHeld := HS2.out _ (Below.refl _ _)
      refine held_take (i := 3) (d := 74) (v := ?_) rfl rfl (by kernel_rfl) (by kernel_rfl) (by kernel_rfl) (fun _ _ _ h => h) (Or.inl ⟨by rfl, ?_⟩) hHeld ?_
      rotate_left
      · (intro w hSw; (try dsimp only at hSw); go_simp; all_goals (with_reducible rfl))
      try simp only [Act.put, List.setIfInBounds_toArray, List.set_cons_zero, List.set_cons_succ]
      refine held_take (i := 4) (d := 75) (v := ?_) rfl rfl (by kernel_rfl) (by kernel_rfl) (by kernel_rfl) (fun _ _ _ h => h) (Or.inl ⟨by rfl, ?_⟩) hHeld ?_
      rotate_left
      · (intro w hSw; (try dsimp only at hSw); go_simp; all_goals (with_reducible rfl))
      try simp only [Act.put, List.setIfInBounds_toArray, List.set_cons_zero, List.set_cons_succ]
      refine held_take (i := 5) (d := 76) (v := ?_) rfl rfl (by kernel_rfl) (by kernel_rfl) (by kernel_rfl) (fun _ _ _ h => h) (Or.inl ⟨by rfl, ?_⟩) hHeld ?_
      rotate_left
      · (intro w hSw; (try dsimp only at hSw); go_simp; all_goals (with_reducible rfl))
      try simp only [Act.put, List.setIfInBounds_toArray, List.set_cons_zero, List.set_cons_succ]
      refine held_take (i := 7) (d := 78) (v := ?_) rfl rfl (by kernel_rfl) (by kernel_rfl) (by kernel_rfl) (fun _ _ _ h => h) (Or.inl ⟨by rfl, ?_⟩) hHeld ?_
      rotate_left
      · (intro w hSw; (try dsimp only at hSw); go_simp; all_goals (with_reducible rfl))
      try simp only [Act.put, List.setIfInBounds_toArray, List.set_cons_zero, List.set_cons_succ]
      refine held_take (i := 8) (d := 79) (v := ?_) rfl rfl (by kernel_rfl) (by kernel_rfl) (by kernel_rfl) (fun _ _ _ h => h) (Or.inl ⟨by rfl, ?_⟩) hHeld ?_
      rotate_left
      · (intro w hSw; (try dsimp only at hSw); go_simp; all_goals (with_reducible rfl))
      try simp only [Act.put, List.setIfInBounds_toArray, List.set_cons_zero, List.set_cons_succ]
      refine held_take (i := 9) (d := 80) (v := ?_) rfl rfl (by kernel_rfl) (by kernel_rfl) (by kernel_rfl) (fun _ _ _ h => h) (Or.inl ⟨by rfl, ?_⟩) hHeld ?_
      rotate_left
      · (intro w hSw; (try dsimp only at hSw); go_simp; all_goals (with_reducible rfl))
      try simp only [Act.put, List.setIfInBounds_toArray, List.set_cons_zero, List.set_cons_succ]
      refine held_take (i := 10) (d := 81) (v := ?_) rfl rfl (by kernel_rfl) (by kernel_rfl) (by kernel_rfl) (fun _ _ _ h => h) (Or.inl ⟨by rfl, ?_⟩) hHeld ?_
      rotate_left
      · (intro w hSw; (try dsimp only at hSw); go_simp; all_goals (with_reducible rfl))
      try simp only [Act.put, List.setIfInBounds_toArray, List.set_cons_zero, List.set_cons_succ]
      refine wpAnyH_ready (rs := [6]) (by kernel_rfl) (by simp) ?_
      refine AllReadyH.cons rfl (fun K hK => ?_) AllReadyH.nil
      go_simp
      refine (bad_any gq _ _ hHeld.1.2.2.2).mono ?_
      rintro e t2 ⟨rfl, hw⟩
      subst t2
      go_wp2_with fail
      refine hK.out _ _ ?_ (fun hHeld => ?_)
      · exact HS2.out _ (Below.refl _ _)
      clear hK K
      try simp only [Act.put, List.setIfInBounds_toArray, List.set_cons_zero, List.set_cons_succ]
      refine held_take (i := 11) (d := 82) (v := ?_) rfl rfl (by kernel_rfl) (by kernel_rfl) (by kernel_rfl) (fun _ _ _ h => h) (Or.inl ⟨by rfl, ?_⟩) hHeld ?_
      rotate_left
      · (intro w hSw; (try dsimp only at hSw); go_simp; all_goals (with_reducible rfl))
      try simp only [Act.put, List.setIfInBounds_toArray, List.set_cons_zero, List.set_cons_succ]
      refine held_take (i := 12) (d := 83) (v := ?_) rfl rfl (by kernel_rfl) (by kernel_rfl) (by kernel_rfl) (fun _ _ _ h => h) (Or.inl ⟨by rfl, ?_⟩) hHeld ?_
      rotate_left
      · (intro w hSw; (try dsimp only at hSw); go_simp; all_goals (with_reducible rfl))
      try simp only [Act.put, List.setIfInBounds_toArray, List.set_cons_zero, List.set_cons_succ]
      refine held_take (i := 13) (d := 84) (v := ?_) rfl rfl (by kernel_rfl) (by kernel_rfl) (by kernel_rfl) (fun _ _ _ h => h) (Or.inl ⟨by rfl, ?_⟩) hHeld ?_
      rotate_left
      · (intro w hSw; (try dsimp only at hSw); go_simp; all_goals (with_reducible rfl))
      try simp only [Act.put, List.setIfInBounds_toArray, List.set_cons_zero, List.set_cons_succ]
      refine held_take (i := 14) (d := 85) (v := ?_) rfl rfl (by kernel_rfl) (by kernel_rfl) (by kernel_rfl) (fun _ _ _ h => h) (Or.inl ⟨by rfl, ?_⟩) hHeld ?_
      rotate_left
      · (intro w hSw; (try dsimp only at hSw); go_simp; all_goals (with_reducible rfl))
      try simp only [Act.put, List.setIfInBounds_toArray, List.set_cons_zero, List.set_cons_succ]
      refine held_take (i := 16) (d := 87) (v := ?_) rfl rfl (by kernel_rfl) (by kernel_rfl) (by kernel_rfl) (fun _ _ _ h => h) (Or.inl ⟨by rfl, ?_⟩) hHeld ?_
      rotate_left
      · (intro w hSw; (try dsimp only at hSw); go_simp; all_goals (with_reducible rfl))
      try simp only [Act.put, List.setIfInBounds_toArray, List.set_cons_zero, List.set_cons_succ]
      refine wpAnyH_ready (rs := [15]) (by kernel_rfl) (by simp) ?_
      refine AllReadyH.cons rfl (fun K hK => ?_) AllReadyH.nil
      go_simp
      refine (left_any gq _ _ hHeld.1.2.2.2).mono ?_
      rintro e t2 ⟨rfl, hw⟩
      subst t2
      go_wp2_with fail
      refine hK.out _ _ ?_ (fun hHeld => ?_)
      · exact HS2.out _ (Below.refl _ _)
      clear hK K
      try simp only [Act.put, List.setIfInBounds_toArray, List.set_cons_zero, List.set_cons_succ]
      refine wpAnyH_ready (rs := [17]) (by kernel_rfl) (by simp) ?_
      refine AllReadyH.cons rfl (fun K hK => ?_) AllReadyH.nil
      go_simp
      refine (refleft_any pg (some ⟨ab, aoff, none⟩) 60 cap1 bs _ _ hHeld.2.1 hrl (by omega)).mono ?_
      rintro e t3 ⟨rfl, kk, hw⟩
      have ht3 : Below t1.heap.size t1 t3 := by rw [hw]; exact below_drewN (Below.refl _ _) _
      clear hw
      go_wp2_with fail
      refine hK.out _ _ ?_ (fun hHeld => ?_)
      · exact HS2.out _ ht3
      clear hK K
      try simp only [Act.put, List.setIfInBounds_toArray, List.set_cons_zero, List.set_cons_succ]
      refine held_take (i := 18) (d := 89) (v := ?_) rfl rfl (by kernel_rfl) (by kernel_rfl) (by kernel_rfl) (fun _ _ _ h => h) (Or.inl ⟨by rfl, ?_⟩) hHeld ?_
      rotate_left
      · (intro w hSw; (try dsimp only at hSw); go_simp; all_goals (with_reducible rfl))
      try simp only [Act.put, List.setIfInBounds_toArray, List.set_cons_zero, List.set_cons_succ]
      refine held_take (i := 19) (d := 90) (v := ?_) rfl rfl (by kernel_rfl) (by kernel_rfl) (by kernel_rfl) (fun _ _ _ h => h) (Or.inl ⟨by rfl, ?_⟩) hHeld ?_
      rotate_left
      · (intro w hSw; (try dsimp only at hSw); go_simp; all_goals (with_reducible rfl))
      try simp only [Act.put, List.setIfInBounds_toArray, List.set_cons_zero, List.set_cons_succ]
      refine held_take (i := 20) (d := 91) (v := ?_) rfl rfl (by kernel_rfl) (by kernel_rfl) (by kernel_rfl) (fun _ _ _ h => h) (Or.inl ⟨by rfl, ?_⟩) hHeld ?_
      rotate_left
      · (intro w hSw; (try dsimp only at hSw); go_simp; all_goals (with_reducible rfl))
      try simp only [Act.put, List.setIfInBounds_toArray, List.set_cons_zero, List.set_cons_succ]
      refine wpAnyH_ready (rs := [21]) (by kernel_rfl) (by simp) ?_
      refine AllReadyH.cons rfl (fun K hK => ?_) AllReadyH.nil
      go_simp
      refine (awake7_any _).mono ?_
      rintro e t4 ⟨rfl, hw4⟩
      subst t4
      go_wp2_with fail
      refine hK.out _ _ ?_ (fun hHeld => ?_)
      · exact HS2.out _ ht3
      clear hK K
      try simp only [Act.put, List.setIfInBounds_toArray, List.set_cons_zero, List.set_cons_succ]
      refine held_take (i := 22) (d := 93) (v := ?_) rfl rfl (by kernel_rfl) (by kernel_rfl) (by kernel_rfl) (fun _ _ _ h => h) (Or.inl ⟨by rfl, ?_⟩) hHeld ?_
      rotate_left
      · (intro w hSw; (try dsimp only at hSw); go_simp; all_goals (with_reducible rfl))
      try simp only [Act.put, List.setIfInBounds_toArray, List.set_cons_zero, List.set_cons_succ]
      refine held_take (i := 23) (d := 4) (v := ?_) rfl rfl (by kernel_rfl) (by kernel_rfl) (by kernel_rfl) (fun _ _ _ h => h) (Or.inl ⟨by rfl, ?_⟩) hHeld ?_
      rotate_left
      · (intro w hSw; (try dsimp only at hSw); go_simp; all_goals (with_reducible rfl))
      try simp only [Act.put, List.setIfInBounds_toArray, List.set_cons_zero, List.set_cons_succ]
      refine wpAnyH_done (by kernel_rfl) ?_ _
      refine NoPanic.normal ?_
      go_wp2
      go_ret
      have hA := HBV.out.trans (ht1.below (by omega) HBV.out.size)
      exact ⟨rfl, hA.trans (ht3.mono hA.size)⟩

/-! From the call to the statement. -/
set_option maxRecDepth 100000 in
theorem lifted (os : Os) (started : os.Started) (H : Type) (enc : TypeId × Value → H) :
    ReturnsInHanded {} Try.checked os 5 .any (Rows.ballotBytesSpec.pre6 enc Try.prog Try.f5 Rows.ballotBytesRow.domain false) (Rows.ballotBytesSpec.post enc Try.prog Try.f5 false true false false) := by
  refine returnsInHanded_of_change (C := Try.checked) own started (by kernel_rfl) Try.func5
    (ChangeSpec.witness6 (enc := enc) (C := Try.checked) false ⟨#[], #[.agg #[.int .u64 0, .int .i64 0], .slice none 0 0], []⟩ 8 (by kernel_rfl) (by kernel_rfl) (by kernel_rfl) (by kernel_rfl)) ?_
  intro W base args ds gs before hval0 hW hcnd _
  have hval : ∀ (j : Nat) t v, Try.f5.params[j]? = some t → args[j]? = some v → Value.okWide Try.prog W .any base t v := hval0
  have hW' := hW
  obtain ⟨p, q, hA0, hV, rfl, hfz, hnd⟩ := hW
  have hA : DataW.TrodAll enc Try.prog W 0 (fun _ => true) true Try.f5.params.toList args.toList ds p := hA0
  rw [Try.params5] at hA hval
  obtain ⟨v0, vs0, d0, ds0, p0, q0, hargs, rfl, rfl, h0, r0⟩ := trodAll_cons hA
  obtain ⟨v1, vs1, d1, ds1, p1, q1, rfl, rfl, rfl, h1, r1⟩ := trodAll_cons r0
  obtain ⟨rfl, rfl, rfl⟩ := trodAll_nil r1
  obtain rfl : args = #[v0, v1] := by cases args; simp_all
  obtain ⟨rfl, rfl⟩ := trodVars_none hV
  have k0 := h0
  have lt0 : ∀ x ∈ p0, x.block < W.heap.size := by obtain ⟨m, hm⟩ := k0; exact DataW.trod_lt m _ _ _ hm
  obtain ⟨xr0, xn0, rfl, hr0, hn0⟩ := open_bal (hval 0 24 v0 rfl rfl) h0
  obtain ⟨a1, len1, cap1, rfl⟩ := okWide_slice Try.underlying37 (hval 1 37 v1 rfl rfl)
  have k1 := h1
  have lt1 : ∀ x ∈ p1, x.block < W.heap.size := by obtain ⟨m, hm⟩ := k1; exact DataW.trod_lt m _ _ _ hm
  obtain ⟨z1, w1⟩ : ∃ zs, IsRow .u8 W a1 len1 cap1 zs := by
    obtain ⟨fuel, hf⟩ := h1
    rcases open_ints Try.underlying37 Try.underlying5 (by kernel_rfl) hf with ⟨hcs, _⟩ | ⟨x, l, c, zs, hcs, _, hl, hm, hz, _, hcell, hwz⟩
    · simp [Value.cells] at hcs
      obtain ⟨rfl, rfl, rfl⟩ := hcs
      exact ⟨[], .inl ⟨rfl, rfl, rfl, rfl⟩⟩
    · simp [Value.cells] at hcs
      obtain ⟨rfl, rfl, rfl⟩ := hcs
      exact ⟨zs, .inr ⟨_, rfl, hl, hm, by simpa using hz, hcell, hwz⟩⟩
  clear hA0 hval0
  refine (walk xr0 xn0 a1 len1 cap1 z1 W hr0 hn0 w1).mono fun e W' ⟨he, bel⟩ => ?_
  subst he
  exact ⟨_, rfl, _, _, _, [], _, [], hW', trodAll_mk1 (shut_bool Try.underlying4 _), (trodAll_cons_mk (Below.trod laidOut (by kernel_rfl) (of_decide_eq_true (by kernel_rfl)) k0 bel lt0) (trodAll_cons_mk (Below.trod laidOut (by kernel_rfl) (of_decide_eq_true (by kernel_rfl)) k1 bel lt1) trodAll_mk0)), rfl, bel.frame _, fun h => by cases h⟩

theorem over : Rows.ballotBytesRow.holds Try.pinned (OpenSpec.ofChange Rows.ballotBytesSpec) :=
  OpenClaim.holds_of_wide 5 Try.f5 rfl rfl rfl rfl rfl rfl rfl ⟨rfl, rfl, rfl, rfl, rfl⟩ rfl rfl rfl rfl rfl (by kernel_rfl) Try.func5 (by kernel_rfl)
    (of_decide_eq_true (by kernel_rfl)) (by unfold Func.isWrapper; first | (rw [if_pos (by decide +kernel)]; kernel_rfl) | (rw [if_neg (by decide +kernel)]; exact ⟨rfl, rfl⟩))
    (fun os started H enc _ => lifted os started H enc)
end Go.Proofs.Ytbikepmnjgcgkaa.ballotBytes
namespace Go.Proofs.Ytbikepmnjgcgkaa
theorem ballotBytes_holds : Rows.BallotBytesSaid := ballotBytes.over
#print axioms ballotBytes_holds
end Go.Proofs.Ytbikepmnjgcgkaa
