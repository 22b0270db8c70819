/-
  For every bytes ahead, every number and every text: the number and the text as bytes are as the chapter says, and are read as they were (the law OctetPuts returns true and leaves its arguments as they were).
-/
import Derived.Test.YtlpclllgllogcaaRows
import Derived.WalkKit
import Derived.ProofKit
import Derived.OpenShut
import Derived.ShutString
import Derived.ChangeOld
import Derived.Below
import Derived.Test.YtlpclllgllogcaaBase
import Derived.Test.YtlpclllgllogcaaOctG
namespace Go.Proofs.Ytlpclllgllogcaa.octetPuts
open Go.ChangeShapes Go.WideShapes Go.ChangeAt Go.RowKit
open Go.ChangeMaps (open_string shut_string)
set_option linter.unusedSimpArgs false
set_option linter.unusedVariables false

theorem own : ownKnob Try.prog.godebug = none := by kernel_rfl
theorem laidOut : laidOutB Try.prog = true := by kernel_rfl

theorem len3 (a b c : List Nat) : (a ++ (b ++ c)).length = a.length + (b.length + c.length) := by simp

/-! The law returns true, and writes nothing that was there. -/
set_option maxHeartbeats 4000000 in
theorem walk (a0 : Option Addr) (len0 cap0 : Nat) (z0 : List Int) (a1 : Int) (a2 : ByteArray) (w : World) (w0 : IsRow .u8 w a0 len0 cap0 z0) (w1 : (Lit.int .u64 a1).wf = true) (w2 : a2.size ≤ maxLen) :
    Calls Try.prog 3 #[.slice a0 len0 cap0, .int .u64 a1, .string a2] w fun e w' => e = .returned (.bool true) ∧ Below w.heap.size w w' := by
  obtain ⟨n, rfl⟩ : ∃ n : Nat, a1 = (n : Int) := ⟨a1.toNat, by have := bounds_u64 w1; omega⟩
  have hn : n < 18446744073709551616 := by have := bounds_u64 w1; omega
  have r0 := w0.row (min len0 200) (Nat.min_le_left _ _)
  have f0 := w0.facts
  have l0 : min len0 200 ≤ 200 := Nat.min_le_right _ _
  have k0 : min len0 200 ≤ cap0 := by omega
  go_enter Try.func3, Try.ntmps3
  go_wp2_with fail
  refine (ofew_any _ _ _ _ _ w0).mono ?_
  rintro e w' ⟨rfl, hw⟩
  subst w'
  clear w0
  generalize firsts z0 (min len0 200) = bs at r0
  generalize min len0 200 = m at r0 l0 k0 ⊢
  by_cases hs : a2.size ≤ 200
  · obtain ⟨ts, hts, ht, htl⟩ := str_of a2
    subst hts
    have hl : ts.length ≤ 200 := by omega
    have hsz := str_size ts
    clear htl
    go_wp2_with fail
    refine (put_any _ _ _ n _ _ r0 f0.2.2 (by omega) hn).mono ?_
    rintro e W1 ⟨g1, N1, rfl, r1, hN1, hg1, hb1⟩
    go_wp2_with fail
    refine (text_any _ _ _ _ ts _ r1 (by simp) (by omega) ht (by omega)).mono ?_
    rintro e W2 ⟨g2, N2, rfl, r2, hN2, hg2, hb2⟩
    have hb3 : Below w.heap.size w W2 := hb1.trans (hb2.mono hb1.size)
    have rb := r0.later hb3
    rw [List.append_assoc] at r2
    clear r1 hb1 hb2 hg1 hg2
    have hpn := Oct.putF_len 9 n
    have hpt := Oct.putF_len 9 ts.length
    have hlb := r0.1
    have hlx := r2.1
    have ha1 : ∀ w, (Op.stringOp .add (str bs) (str (Oct.put n))).run Try.prog w = .ok (.string (str (bs ++ Oct.put n))) w := fun w => add_str _ _ w (by unfold Oct.put; omega)
    have ha2 : ∀ w, (Op.stringOp .add (str (bs ++ Oct.put n)) (str (Oct.put ts.length ++ ts))).run Try.prog w = .ok (.string (str (bs ++ (Oct.put n ++ (Oct.put ts.length ++ ts))))) w := fun w => by rw [← List.append_assoc bs (Oct.put n)]; exact add_str _ _ w (by rw [List.length_append, List.length_append]; unfold Oct.put; omega)
    have hd0 : Below W2.heap.size W2 W2.drew := (Below.refl _ _).drew
    have HP1 : Hid (_ ∧ _) := hpn
    have HP2 : Hid (_ ∧ _) := hpt
    clear hpn hpt
    go_wp2_with fail
    have HS : Hid (∀ w', Below W2.heap.size W2 w' → Below W2.heap.size W2 w' ∧ (convert 22 9 (.slice a0 m cap0)).run Try.prog w' = .ok (.string (str bs)) w' ∧ (convert 22 9 (.slice (some ⟨g2, 0, none⟩) N2 N2)).run Try.prog w' = .ok (.string (str (bs ++ (Oct.put n ++ (Oct.put ts.length ++ ts))))) w') := fun w' hb => ⟨hb, conv_row (rb.later hb) _, conv_row (r2.later hb) _⟩
    refine wp_region_noPanic ?_
    refine wp_region_held_drew (S := (fun w' => Below W2.heap.size W2 w' ∧ (convert 22 9 (.slice a0 m cap0)).run Try.prog w' = .ok (.string (str bs)) w' ∧ (convert 22 9 (.slice (some ⟨g2, 0, none⟩) N2 N2)).run Try.prog w' = .ok (.string (str (bs ++ (Oct.put n ++ (Oct.put ts.length ++ ts))))) w')) (by kernel_rfl) ?_ (fun hHeld => ?_)
    · exact HS.out _ hd0
    refine held_take (i := 0) (d := 21) (v := ?_) rfl rfl (by kernel_rfl) (by kernel_rfl) (by kernel_rfl) (fun _ _ _ h => h) (Or.inl ⟨by rfl, ?_⟩) hHeld ?_
    rotate_left
    · (intro w hSw; (try dsimp only at hSw); go_simp; all_goals (with_reducible rfl))
    try simp only [Act.put, List.setIfInBounds_toArray, List.set_cons_zero, List.set_cons_succ]
    refine held_take (i := 1) (d := 22) (v := ?_) rfl rfl (by kernel_rfl) (by kernel_rfl) (by kernel_rfl) (fun _ _ _ h => h) (Or.inl ⟨by rfl, ?_⟩) hHeld ?_
    rotate_left
    · (intro w hSw; (try dsimp only at hSw); go_simp; all_goals (with_reducible rfl))
    try simp only [Act.put, List.setIfInBounds_toArray, List.set_cons_zero, List.set_cons_succ]
    refine held_take (i := 2) (d := 23) (v := ?_) rfl rfl (by kernel_rfl) (by kernel_rfl) (by kernel_rfl) (fun _ _ _ h => h) (Or.inl ⟨by rfl, ?_⟩) hHeld ?_
    rotate_left
    · (intro w hSw; (try dsimp only at hSw); go_simp; all_goals (with_reducible rfl))
    try simp only [Act.put, List.setIfInBounds_toArray, List.set_cons_zero, List.set_cons_succ]
    refine held_take (i := 3) (d := 24) (v := ?_) rfl rfl (by kernel_rfl) (by kernel_rfl) (by kernel_rfl) (fun _ _ _ h => h) (Or.inl ⟨by rfl, ?_⟩) hHeld ?_
    rotate_left
    · (intro w hSw; (try dsimp only at hSw); go_simp; all_goals (with_reducible rfl))
    try simp only [Act.put, List.setIfInBounds_toArray, List.set_cons_zero, List.set_cons_succ]
    refine held_take (i := 4) (d := 25) (v := ?_) rfl rfl (by kernel_rfl) (by kernel_rfl) (by kernel_rfl) (fun _ _ _ h => h) (Or.inl ⟨by rfl, ?_⟩) hHeld ?_
    rotate_left
    · (intro w hSw; (try dsimp only at hSw); go_simp; all_goals (with_reducible rfl))
    try simp only [Act.put, List.setIfInBounds_toArray, List.set_cons_zero, List.set_cons_succ]
    refine held_take (i := 8) (d := 29) (v := ?_) rfl rfl (by kernel_rfl) (by kernel_rfl) (by kernel_rfl) (fun _ _ _ h => h) (Or.inl ⟨by rfl, ?_⟩) hHeld ?_
    rotate_left
    · (intro w hSw; (try dsimp only at hSw); go_simp; all_goals (with_reducible rfl))
    try simp only [Act.put, List.setIfInBounds_toArray, List.set_cons_zero, List.set_cons_succ]
    refine wpAnyH_ready (rs := [5]) (by kernel_rfl) (by simp) ?_
    refine AllReadyH.cons rfl (fun K hK => ?_) AllReadyH.nil
    go_simp
    refine (ref_put_any 9 n _ (by omega) (by omega)).mono ?_
    rintro e w3 ⟨g3, N3, cap3, rfl, ho3, hb4⟩
    have r3 : Row w3 (some ⟨g3, 0, none⟩) N3 (Oct.put n) := ho3.row
    replace hb4 : Below W2.heap.size W2 w3 := hd0.trans hb4
    go_wp2_with fail
    refine hK.out _ _ ?_ (fun hHeld => ?_)
    · exact HS.out _ hb4
    clear hK K
    try simp only [Act.put, List.setIfInBounds_toArray, List.set_cons_zero, List.set_cons_succ]
    have HS2 : Hid (∀ w', Below w3.heap.size w3 w' → (Below W2.heap.size W2 w' ∧ (convert 22 9 (.slice a0 m cap0)).run Try.prog w' = .ok (.string (str bs)) w' ∧ (convert 22 9 (.slice (some ⟨g2, 0, none⟩) N2 N2)).run Try.prog w' = .ok (.string (str (bs ++ (Oct.put n ++ (Oct.put ts.length ++ ts))))) w') ∧ (convert 22 9 (.slice (some ⟨g3, 0, none⟩) N3 cap3)).run Try.prog w' = .ok (.string (str (Oct.put n))) w') := fun w' hb => ⟨HS.out _ (hb4.trans (hb.mono hb4.size)), conv_row (r3.later hb) _⟩
    refine held_mono (S' := (fun w' => (Below W2.heap.size W2 w' ∧ (convert 22 9 (.slice a0 m cap0)).run Try.prog w' = .ok (.string (str bs)) w' ∧ (convert 22 9 (.slice (some ⟨g2, 0, none⟩) N2 N2)).run Try.prog w' = .ok (.string (str (bs ++ (Oct.put n ++ (Oct.put ts.length ++ ts))))) w') ∧ (convert 22 9 (.slice (some ⟨g3, 0, none⟩) N3 cap3)).run Try.prog w' = .ok (.string (str (Oct.put n))) w')) (fun _ h => h.1) _ _ _ _ ?_
    replace hHeld := HS2.out _ (Below.refl _ _)
    refine held_take (i := 6) (d := 27) (v := ?_) rfl rfl (by kernel_rfl) (by kernel_rfl) (by kernel_rfl) (fun _ _ _ h => h) (Or.inl ⟨by rfl, ?_⟩) hHeld ?_
    rotate_left
    · (intro w hSw; (try dsimp only at hSw); go_simp; all_goals (with_reducible rfl))
    try simp only [Act.put, List.setIfInBounds_toArray, List.set_cons_zero, List.set_cons_succ]
    refine held_take (i := 7) (d := 28) (v := ?_) rfl rfl (by kernel_rfl) (by kernel_rfl) (by kernel_rfl) (fun _ _ _ h => h) (Or.inl ⟨by rfl, ?_⟩) hHeld ?_
    rotate_left
    · (intro w hSw; (try dsimp only at hSw); go_simp; all_goals (with_reducible rfl))
    try simp only [Act.put, List.setIfInBounds_toArray, List.set_cons_zero, List.set_cons_succ]
    refine wpAnyH_ready (rs := [9]) (by kernel_rfl) (by simp) ?_
    refine AllReadyH.cons rfl (fun K hK => ?_) AllReadyH.nil
    go_simp
    refine (ref_text_any ts _ ht (by omega)).mono ?_
    rintro e w5 ⟨a4, n4, cap4, rfl, r5, _, hb5⟩
    go_wp2_with fail
    refine hK.out _ _ ?_ (fun hHeld => ?_)
    · exact HS2.out _ hb5
    clear hK K
    try simp only [Act.put, List.setIfInBounds_toArray, List.set_cons_zero, List.set_cons_succ]
    have HS3 : Hid (∀ w', Below w5.heap.size w5 w' → ((Below W2.heap.size W2 w' ∧ (convert 22 9 (.slice a0 m cap0)).run Try.prog w' = .ok (.string (str bs)) w' ∧ (convert 22 9 (.slice (some ⟨g2, 0, none⟩) N2 N2)).run Try.prog w' = .ok (.string (str (bs ++ (Oct.put n ++ (Oct.put ts.length ++ ts))))) w') ∧ (convert 22 9 (.slice (some ⟨g3, 0, none⟩) N3 cap3)).run Try.prog w' = .ok (.string (str (Oct.put n))) w') ∧ (convert 22 9 (.slice a4 n4 cap4)).run Try.prog w' = .ok (.string (str (Oct.put ts.length ++ ts))) w') := fun w' hb => ⟨HS2.out _ (hb5.trans (hb.mono hb5.size)), conv_row (r5.later hb) _⟩
    refine held_mono (S' := (fun w' => ((Below W2.heap.size W2 w' ∧ (convert 22 9 (.slice a0 m cap0)).run Try.prog w' = .ok (.string (str bs)) w' ∧ (convert 22 9 (.slice (some ⟨g2, 0, none⟩) N2 N2)).run Try.prog w' = .ok (.string (str (bs ++ (Oct.put n ++ (Oct.put ts.length ++ ts))))) w') ∧ (convert 22 9 (.slice (some ⟨g3, 0, none⟩) N3 cap3)).run Try.prog w' = .ok (.string (str (Oct.put n))) w') ∧ (convert 22 9 (.slice a4 n4 cap4)).run Try.prog w' = .ok (.string (str (Oct.put ts.length ++ ts))) w')) (fun _ h => h.1) _ _ _ _ ?_
    replace hHeld := HS3.out _ (Below.refl _ _)
    refine held_take (i := 10) (d := 31) (v := ?_) rfl rfl (by kernel_rfl) (by kernel_rfl) (by kernel_rfl) (fun _ _ _ h => h) (Or.inl ⟨by rfl, ?_⟩) hHeld ?_
    rotate_left
    · (intro w hSw; (try dsimp only at hSw); go_simp; all_goals (with_reducible rfl))
    try simp only [Act.put, List.setIfInBounds_toArray, List.set_cons_zero, List.set_cons_succ]
    refine held_take (i := 11) (d := 32) (v := ?_) rfl rfl (by kernel_rfl) (by kernel_rfl) (by kernel_rfl) (fun _ _ _ h => h) (Or.inl ⟨by rfl, ?_⟩) hHeld ?_
    rotate_left
    · (intro w hSw; (try dsimp only at hSw); go_simp; all_goals (with_reducible rfl))
    try simp only [Act.put, List.setIfInBounds_toArray, List.set_cons_zero, List.set_cons_succ]
    refine held_take (i := 12) (d := 33) (v := ?_) rfl rfl (by kernel_rfl) (by kernel_rfl) (by kernel_rfl) (fun _ _ _ h => h) (Or.inl ⟨by rfl, ?_⟩) hHeld ?_
    rotate_left
    · (intro w hSw; (try dsimp only at hSw); go_simp; all_goals (with_reducible rfl))
    try simp only [Act.put, List.setIfInBounds_toArray, List.set_cons_zero, List.set_cons_succ]
    refine wpAnyH_done (by kernel_rfl) ?_ _
    refine NoPanic.normal ?_
    clear hHeld HS HS2 HS3 ha1 ha2
    have hbW : Below W2.heap.size W2 w5 := hb4.trans (hb5.mono hb4.size)
    have hlx2 : bs.length + ((Oct.putF 9 n).length + (Oct.put ts.length ++ ts).length) = N2 := by rw [len3] at hlx; exact hlx
    have h6 := HP1.out
    have rx := (r2.drop m (by omega)).later hbW
    simp only [Nat.zero_add] at rx
    have ed : List.drop m (bs ++ (Oct.put n ++ (Oct.put ts.length ++ ts))) = Oct.put n ++ (Oct.put ts.length ++ ts) := by rw [← hlb, List.drop_left]
    rw [ed] at rx
    have hmN : (m : Int) ≤ (N2 : Int) := by omega
    have hNm : ¬ N2 = m := by omega
    have hN210 : N2 - m ≤ 1000000 := by omega
    clear hlx2 h6 hlx
    go_wp2_with fail
    refine (new_any _ _ _ _ _ rx (by simp) hN210).mono ?_
    rintro e w6 ⟨gr, rfl, hrd, hgr, hb6⟩
    go_wp2_with fail
    refine (n_any _ _ _ hrd).mono ?_
    rw [Oct.atMost_put _ _ _ hn (by omega)]
    rintro e w7 ⟨rfl, hrd2, ho7⟩
    go_wp2_with fail
    refine (rtext_any _ _ _ _ hrd2 (by omega)).mono ?_
    have ets := Oct.textS_put ts [] 200 (by omega) (by omega)
    rw [List.append_nil] at ets
    rw [ets]
    rintro e w8 ⟨rfl, hrd3, ho8⟩
    go_wp2_with fail
    refine (done_any _ _ _ hrd3).mono ?_
    rintro e w' ⟨rfl, hw⟩
    subst w'
    have ed1 : ((some [] : Option (List Nat)) == some []) = true := by decide
    simp only [ed1]
    go_wp2_with fail
    refine (oawake_any _).mono ?_
    rintro e w9 ⟨rfl, hb9⟩
    go_wp2
    go_ret
    have hA : Below w.heap.size w w5 := hb3.trans (hbW.mono hb3.size)
    have hB : Below w.heap.size w w6 := hA.trans (hb6.mono hA.size)
    have hC : Below w.heap.size w w8 := hB.trans ((ho7.trans ho8).below (Nat.le_trans hA.size hgr) hB.size)
    exact ⟨rfl, hC.trans (hb9.mono hC.size)⟩
  · obtain ⟨ts, hts, ht, htl⟩ := str_of (a2.extract 0 200)
    have hl : ts.length ≤ 200 := by rw [htl]; simp; omega
    have HTS : Hid (_ = _) := hts
    have hsz := str_size ts
    clear htl hts
    go_wp2_with fail
    rw [HTS.out]
    refine (put_any _ _ _ n _ _ r0 f0.2.2 (by omega) hn).mono ?_
    rintro e W1 ⟨g1, N1, rfl, r1, hN1, hg1, hb1⟩
    go_wp2_with fail
    refine (text_any _ _ _ _ ts _ r1 (by simp) (by omega) ht (by omega)).mono ?_
    rintro e W2 ⟨g2, N2, rfl, r2, hN2, hg2, hb2⟩
    have hb3 : Below w.heap.size w W2 := hb1.trans (hb2.mono hb1.size)
    have rb := r0.later hb3
    rw [List.append_assoc] at r2
    clear r1 hb1 hb2 hg1 hg2
    have hpn := Oct.putF_len 9 n
    have hpt := Oct.putF_len 9 ts.length
    have hlb := r0.1
    have hlx := r2.1
    have ha1 : ∀ w, (Op.stringOp .add (str bs) (str (Oct.put n))).run Try.prog w = .ok (.string (str (bs ++ Oct.put n))) w := fun w => add_str _ _ w (by unfold Oct.put; omega)
    have ha2 : ∀ w, (Op.stringOp .add (str (bs ++ Oct.put n)) (str (Oct.put ts.length ++ ts))).run Try.prog w = .ok (.string (str (bs ++ (Oct.put n ++ (Oct.put ts.length ++ ts))))) w := fun w => by rw [← List.append_assoc bs (Oct.put n)]; exact add_str _ _ w (by rw [List.length_append, List.length_append]; unfold Oct.put; omega)
    have hd0 : Below W2.heap.size W2 W2.drew := (Below.refl _ _).drew
    have HP1 : Hid (_ ∧ _) := hpn
    have HP2 : Hid (_ ∧ _) := hpt
    clear hpn hpt
    go_wp2_with fail
    have HS : Hid (∀ w', Below W2.heap.size W2 w' → Below W2.heap.size W2 w' ∧ (convert 22 9 (.slice a0 m cap0)).run Try.prog w' = .ok (.string (str bs)) w' ∧ (convert 22 9 (.slice (some ⟨g2, 0, none⟩) N2 N2)).run Try.prog w' = .ok (.string (str (bs ++ (Oct.put n ++ (Oct.put ts.length ++ ts))))) w') := fun w' hb => ⟨hb, conv_row (rb.later hb) _, conv_row (r2.later hb) _⟩
    refine wp_region_noPanic ?_
    refine wp_region_held_drew (S := (fun w' => Below W2.heap.size W2 w' ∧ (convert 22 9 (.slice a0 m cap0)).run Try.prog w' = .ok (.string (str bs)) w' ∧ (convert 22 9 (.slice (some ⟨g2, 0, none⟩) N2 N2)).run Try.prog w' = .ok (.string (str (bs ++ (Oct.put n ++ (Oct.put ts.length ++ ts))))) w')) (by kernel_rfl) ?_ (fun hHeld => ?_)
    · exact HS.out _ hd0
    refine held_take (i := 0) (d := 21) (v := ?_) rfl rfl (by kernel_rfl) (by kernel_rfl) (by kernel_rfl) (fun _ _ _ h => h) (Or.inl ⟨by rfl, ?_⟩) hHeld ?_
    rotate_left
    · (intro w hSw; (try dsimp only at hSw); go_simp; all_goals (with_reducible rfl))
    try simp only [Act.put, List.setIfInBounds_toArray, List.set_cons_zero, List.set_cons_succ]
    refine held_take (i := 1) (d := 22) (v := ?_) rfl rfl (by kernel_rfl) (by kernel_rfl) (by kernel_rfl) (fun _ _ _ h => h) (Or.inl ⟨by rfl, ?_⟩) hHeld ?_
    rotate_left
    · (intro w hSw; (try dsimp only at hSw); go_simp; all_goals (with_reducible rfl))
    try simp only [Act.put, List.setIfInBounds_toArray, List.set_cons_zero, List.set_cons_succ]
    refine held_take (i := 2) (d := 23) (v := ?_) rfl rfl (by kernel_rfl) (by kernel_rfl) (by kernel_rfl) (fun _ _ _ h => h) (Or.inl ⟨by rfl, ?_⟩) hHeld ?_
    rotate_left
    · (intro w hSw; (try dsimp only at hSw); go_simp; all_goals (with_reducible rfl))
    try simp only [Act.put, List.setIfInBounds_toArray, List.set_cons_zero, List.set_cons_succ]
    refine held_take (i := 3) (d := 24) (v := ?_) rfl rfl (by kernel_rfl) (by kernel_rfl) (by kernel_rfl) (fun _ _ _ h => h) (Or.inl ⟨by rfl, ?_⟩) hHeld ?_
    rotate_left
    · (intro w hSw; (try dsimp only at hSw); go_simp; all_goals (with_reducible rfl))
    try simp only [Act.put, List.setIfInBounds_toArray, List.set_cons_zero, List.set_cons_succ]
    refine held_take (i := 4) (d := 25) (v := ?_) rfl rfl (by kernel_rfl) (by kernel_rfl) (by kernel_rfl) (fun _ _ _ h => h) (Or.inl ⟨by rfl, ?_⟩) hHeld ?_
    rotate_left
    · (intro w hSw; (try dsimp only at hSw); go_simp; all_goals (with_reducible rfl))
    try simp only [Act.put, List.setIfInBounds_toArray, List.set_cons_zero, List.set_cons_succ]
    refine held_take (i := 8) (d := 29) (v := ?_) rfl rfl (by kernel_rfl) (by kernel_rfl) (by kernel_rfl) (fun _ _ _ h => h) (Or.inl ⟨by rfl, ?_⟩) hHeld ?_
    rotate_left
    · (intro w hSw; (try dsimp only at hSw); go_simp; all_goals (with_reducible rfl))
    try simp only [Act.put, List.setIfInBounds_toArray, List.set_cons_zero, List.set_cons_succ]
    refine wpAnyH_ready (rs := [5]) (by kernel_rfl) (by simp) ?_
    refine AllReadyH.cons rfl (fun K hK => ?_) AllReadyH.nil
    go_simp
    refine (ref_put_any 9 n _ (by omega) (by omega)).mono ?_
    rintro e w3 ⟨g3, N3, cap3, rfl, ho3, hb4⟩
    have r3 : Row w3 (some ⟨g3, 0, none⟩) N3 (Oct.put n) := ho3.row
    replace hb4 : Below W2.heap.size W2 w3 := hd0.trans hb4
    go_wp2_with fail
    refine hK.out _ _ ?_ (fun hHeld => ?_)
    · exact HS.out _ hb4
    clear hK K
    try simp only [Act.put, List.setIfInBounds_toArray, List.set_cons_zero, List.set_cons_succ]
    have HS2 : Hid (∀ w', Below w3.heap.size w3 w' → (Below W2.heap.size W2 w' ∧ (convert 22 9 (.slice a0 m cap0)).run Try.prog w' = .ok (.string (str bs)) w' ∧ (convert 22 9 (.slice (some ⟨g2, 0, none⟩) N2 N2)).run Try.prog w' = .ok (.string (str (bs ++ (Oct.put n ++ (Oct.put ts.length ++ ts))))) w') ∧ (convert 22 9 (.slice (some ⟨g3, 0, none⟩) N3 cap3)).run Try.prog w' = .ok (.string (str (Oct.put n))) w') := fun w' hb => ⟨HS.out _ (hb4.trans (hb.mono hb4.size)), conv_row (r3.later hb) _⟩
    refine held_mono (S' := (fun w' => (Below W2.heap.size W2 w' ∧ (convert 22 9 (.slice a0 m cap0)).run Try.prog w' = .ok (.string (str bs)) w' ∧ (convert 22 9 (.slice (some ⟨g2, 0, none⟩) N2 N2)).run Try.prog w' = .ok (.string (str (bs ++ (Oct.put n ++ (Oct.put ts.length ++ ts))))) w') ∧ (convert 22 9 (.slice (some ⟨g3, 0, none⟩) N3 cap3)).run Try.prog w' = .ok (.string (str (Oct.put n))) w')) (fun _ h => h.1) _ _ _ _ ?_
    replace hHeld := HS2.out _ (Below.refl _ _)
    refine held_take (i := 6) (d := 27) (v := ?_) rfl rfl (by kernel_rfl) (by kernel_rfl) (by kernel_rfl) (fun _ _ _ h => h) (Or.inl ⟨by rfl, ?_⟩) hHeld ?_
    rotate_left
    · (intro w hSw; (try dsimp only at hSw); go_simp; all_goals (with_reducible rfl))
    try simp only [Act.put, List.setIfInBounds_toArray, List.set_cons_zero, List.set_cons_succ]
    refine held_take (i := 7) (d := 28) (v := ?_) rfl rfl (by kernel_rfl) (by kernel_rfl) (by kernel_rfl) (fun _ _ _ h => h) (Or.inl ⟨by rfl, ?_⟩) hHeld ?_
    rotate_left
    · (intro w hSw; (try dsimp only at hSw); go_simp; all_goals (with_reducible rfl))
    try simp only [Act.put, List.setIfInBounds_toArray, List.set_cons_zero, List.set_cons_succ]
    refine wpAnyH_ready (rs := [9]) (by kernel_rfl) (by simp) ?_
    refine AllReadyH.cons rfl (fun K hK => ?_) AllReadyH.nil
    go_simp
    refine (ref_text_any ts _ ht (by omega)).mono ?_
    rintro e w5 ⟨a4, n4, cap4, rfl, r5, _, hb5⟩
    go_wp2_with fail
    refine hK.out _ _ ?_ (fun hHeld => ?_)
    · exact HS2.out _ hb5
    clear hK K
    try simp only [Act.put, List.setIfInBounds_toArray, List.set_cons_zero, List.set_cons_succ]
    have HS3 : Hid (∀ w', Below w5.heap.size w5 w' → ((Below W2.heap.size W2 w' ∧ (convert 22 9 (.slice a0 m cap0)).run Try.prog w' = .ok (.string (str bs)) w' ∧ (convert 22 9 (.slice (some ⟨g2, 0, none⟩) N2 N2)).run Try.prog w' = .ok (.string (str (bs ++ (Oct.put n ++ (Oct.put ts.length ++ ts))))) w') ∧ (convert 22 9 (.slice (some ⟨g3, 0, none⟩) N3 cap3)).run Try.prog w' = .ok (.string (str (Oct.put n))) w') ∧ (convert 22 9 (.slice a4 n4 cap4)).run Try.prog w' = .ok (.string (str (Oct.put ts.length ++ ts))) w') := fun w' hb => ⟨HS2.out _ (hb5.trans (hb.mono hb5.size)), conv_row (r5.later hb) _⟩
    refine held_mono (S' := (fun w' => ((Below W2.heap.size W2 w' ∧ (convert 22 9 (.slice a0 m cap0)).run Try.prog w' = .ok (.string (str bs)) w' ∧ (convert 22 9 (.slice (some ⟨g2, 0, none⟩) N2 N2)).run Try.prog w' = .ok (.string (str (bs ++ (Oct.put n ++ (Oct.put ts.length ++ ts))))) w') ∧ (convert 22 9 (.slice (some ⟨g3, 0, none⟩) N3 cap3)).run Try.prog w' = .ok (.string (str (Oct.put n))) w') ∧ (convert 22 9 (.slice a4 n4 cap4)).run Try.prog w' = .ok (.string (str (Oct.put ts.length ++ ts))) w')) (fun _ h => h.1) _ _ _ _ ?_
    replace hHeld := HS3.out _ (Below.refl _ _)
    refine held_take (i := 10) (d := 31) (v := ?_) rfl rfl (by kernel_rfl) (by kernel_rfl) (by kernel_rfl) (fun _ _ _ h => h) (Or.inl ⟨by rfl, ?_⟩) hHeld ?_
    rotate_left
    · (intro w hSw; (try dsimp only at hSw); go_simp; all_goals (with_reducible rfl))
    try simp only [Act.put, List.setIfInBounds_toArray, List.set_cons_zero, List.set_cons_succ]
    refine held_take (i := 11) (d := 32) (v := ?_) rfl rfl (by kernel_rfl) (by kernel_rfl) (by kernel_rfl) (fun _ _ _ h => h) (Or.inl ⟨by rfl, ?_⟩) hHeld ?_
    rotate_left
    · (intro w hSw; (try dsimp only at hSw); go_simp; all_goals (with_reducible rfl))
    try simp only [Act.put, List.setIfInBounds_toArray, List.set_cons_zero, List.set_cons_succ]
    refine held_take (i := 12) (d := 33) (v := ?_) rfl rfl (by kernel_rfl) (by kernel_rfl) (by kernel_rfl) (fun _ _ _ h => h) (Or.inl ⟨by rfl, ?_⟩) hHeld ?_
    rotate_left
    · (intro w hSw; (try dsimp only at hSw); go_simp; all_goals (with_reducible rfl))
    try simp only [Act.put, List.setIfInBounds_toArray, List.set_cons_zero, List.set_cons_succ]
    refine wpAnyH_done (by kernel_rfl) ?_ _
    refine NoPanic.normal ?_
    clear hHeld HS HS2 HS3 ha1 ha2
    have hbW : Below W2.heap.size W2 w5 := hb4.trans (hb5.mono hb4.size)
    have hlx2 : bs.length + ((Oct.putF 9 n).length + (Oct.put ts.length ++ ts).length) = N2 := by rw [len3] at hlx; exact hlx
    have h6 := HP1.out
    have rx := (r2.drop m (by omega)).later hbW
    simp only [Nat.zero_add] at rx
    have ed : List.drop m (bs ++ (Oct.put n ++ (Oct.put ts.length ++ ts))) = Oct.put n ++ (Oct.put ts.length ++ ts) := by rw [← hlb, List.drop_left]
    rw [ed] at rx
    have hmN : (m : Int) ≤ (N2 : Int) := by omega
    have hNm : ¬ N2 = m := by omega
    have hN210 : N2 - m ≤ 1000000 := by omega
    clear hlx2 h6 hlx
    go_wp2_with fail
    refine (new_any _ _ _ _ _ rx (by simp) hN210).mono ?_
    rintro e w6 ⟨gr, rfl, hrd, hgr, hb6⟩
    go_wp2_with fail
    refine (n_any _ _ _ hrd).mono ?_
    rw [Oct.atMost_put _ _ _ hn (by omega)]
    rintro e w7 ⟨rfl, hrd2, ho7⟩
    go_wp2_with fail
    refine (rtext_any _ _ _ _ hrd2 (by omega)).mono ?_
    have ets := Oct.textS_put ts [] 200 (by omega) (by omega)
    rw [List.append_nil] at ets
    rw [ets]
    rintro e w8 ⟨rfl, hrd3, ho8⟩
    go_wp2_with fail
    refine (done_any _ _ _ hrd3).mono ?_
    rintro e w' ⟨rfl, hw⟩
    subst w'
    have ed1 : ((some [] : Option (List Nat)) == some []) = true := by decide
    simp only [ed1]
    go_wp2_with fail
    refine (oawake_any _).mono ?_
    rintro e w9 ⟨rfl, hb9⟩
    go_wp2
    go_ret
    have hA : Below w.heap.size w w5 := hb3.trans (hbW.mono hb3.size)
    have hB : Below w.heap.size w w6 := hA.trans (hb6.mono hA.size)
    have hC : Below w.heap.size w w8 := hB.trans ((ho7.trans ho8).below (Nat.le_trans hA.size hgr) hB.size)
    exact ⟨rfl, hC.trans (hb9.mono hC.size)⟩

/-! From the call to the statement. -/
set_option maxRecDepth 100000 in
theorem lifted (os : Os) (started : os.Started) (H : Type) (enc : TypeId × Value → H) :
    ReturnsInHanded {} Try.checked os 3 .any (Rows.octetPutsSpec.pre6 enc Try.prog Try.f3 Rows.octetPutsRow.domain false) (Rows.octetPutsSpec.post enc Try.prog Try.f3 false true false false) := by
  refine returnsInHanded_of_change (C := Try.checked) own started (by kernel_rfl) Try.func3
    (ChangeSpec.witness6 (enc := enc) (C := Try.checked) false ⟨#[], #[.slice none 0 0, .int .u64 0, .string ByteArray.empty], []⟩ 8 (by kernel_rfl) (by kernel_rfl) (by kernel_rfl) (by kernel_rfl)) ?_
  intro W base args ds gs before hval0 hW hcnd _
  have hval : ∀ (j : Nat) t v, Try.f3.params[j]? = some t → args[j]? = some v → Value.okWide Try.prog W .any base t v := hval0
  have hW' := hW
  obtain ⟨p, q, hA0, hV, rfl, hfz, hnd⟩ := hW
  have hA : DataW.TrodAll enc Try.prog W 0 (fun _ => true) true Try.f3.params.toList args.toList ds p := hA0
  rw [Try.params3] at hA hval
  obtain ⟨v0, vs0, d0, ds0, p0, q0, hargs, rfl, rfl, h0, r0⟩ := trodAll_cons hA
  obtain ⟨v1, vs1, d1, ds1, p1, q1, rfl, rfl, rfl, h1, r1⟩ := trodAll_cons r0
  obtain ⟨v2, vs2, d2, ds2, p2, q2, rfl, rfl, rfl, h2, r2⟩ := trodAll_cons r1
  obtain ⟨rfl, rfl, rfl⟩ := trodAll_nil r2
  obtain rfl : args = #[v0, v1, v2] := by cases args; simp_all
  obtain ⟨rfl, rfl⟩ := trodVars_none hV
  obtain ⟨a0, len0, cap0, rfl⟩ := okWide_slice Try.underlying22 (hval 0 22 v0 rfl rfl)
  have k0 := h0
  have lt0 : ∀ x ∈ p0, x.block < W.heap.size := by obtain ⟨m, hm⟩ := k0; exact DataW.trod_lt m _ _ _ hm
  obtain ⟨z0, w0⟩ : ∃ zs, IsRow .u8 W a0 len0 cap0 zs := by
    obtain ⟨fuel, hf⟩ := h0
    rcases open_ints Try.underlying22 Try.underlying5 (by kernel_rfl) hf with ⟨hcs, _⟩ | ⟨x, l, c, zs, hcs, _, hl, hm, hz, _, hcell, hwz⟩
    · simp [Value.cells] at hcs
      obtain ⟨rfl, rfl, rfl⟩ := hcs
      exact ⟨[], .inl ⟨rfl, rfl, rfl, rfl⟩⟩
    · simp [Value.cells] at hcs
      obtain ⟨rfl, rfl, rfl⟩ := hcs
      exact ⟨zs, .inr ⟨_, rfl, hl, hm, by simpa using hz, hcell, hwz⟩⟩
  obtain ⟨a1, rfl, rfl, rfl, w1⟩ := open_int Try.underlying23 (hval 1 23 v1 rfl rfl) h1
  obtain ⟨a2, rfl, rfl, rfl, w2⟩ := open_string Try.underlying9 (hval 2 9 v2 rfl rfl) h2
  clear hA0 hval0
  refine (walk a0 len0 cap0 z0 a1 a2 W w0 w1 w2).mono fun e W' ⟨he, bel⟩ => ?_
  subst he
  exact ⟨_, rfl, _, _, _, [], _, [], hW', trodAll_mk1 (shut_bool Try.underlying4 _), (trodAll_cons_mk (Below.trod laidOut (by kernel_rfl) (of_decide_eq_true (by kernel_rfl)) k0 bel lt0) (trodAll_cons_mk (shut_int Try.underlying23 w1) (trodAll_cons_mk (shut_string Try.underlying9 w2) trodAll_mk0))), rfl, bel.frame _, fun h => by cases h⟩

theorem over : Rows.octetPutsRow.holds Try.pinned (OpenSpec.ofChange Rows.octetPutsSpec) :=
  OpenClaim.holds_of_wide 3 Try.f3 rfl rfl rfl rfl rfl rfl rfl ⟨rfl, rfl, rfl, rfl, rfl⟩ rfl rfl rfl rfl rfl (by kernel_rfl) Try.func3 (by kernel_rfl)
    (of_decide_eq_true (by kernel_rfl)) (by unfold Func.isWrapper; first | (rw [if_pos (by decide +kernel)]; kernel_rfl) | (rw [if_neg (by decide +kernel)]; exact ⟨rfl, rfl⟩))
    (fun os started H enc _ => lifted os started H enc)

end Go.Proofs.Ytlpclllgllogcaa.octetPuts
namespace Go.Proofs.Ytlpclllgllogcaa
theorem octetPuts_holds : Rows.OctetPutsSaid := octetPuts.over
#print axioms octetPuts_holds
end Go.Proofs.Ytlpclllgllogcaa
