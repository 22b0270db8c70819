/-
  For every row of bytes: bytes that are read as a number, to their end, are just the bytes of that number (the law OctetOne returns true and leaves its argument as it was).
-/
import Derived.Test.YtlpclllgllogcaaRows
import Derived.WalkKit
import Derived.ProofKit
import Derived.OpenShut
import Derived.ShutString
import Derived.ChangeOld
import Derived.Below
import Derived.Test.YtlpclllgllogcaaBase
import Derived.Test.YtlpclllgllogcaaOctD
namespace Go.Proofs.Ytlpclllgllogcaa.octetOne
open Go.ChangeShapes Go.WideShapes Go.ChangeAt Go.RowKit
open Go.ChangeMaps (open_string shut_string)
set_option linter.unusedSimpArgs false
set_option linter.unusedVariables false

theorem own : ownKnob Try.prog.godebug = none := by kernel_rfl
theorem laidOut : laidOutB Try.prog = true := by kernel_rfl

theorem one_char (bs : List Nat) (hb : ∀ x ∈ bs, x < 256) : (Oct.atMost 18446744073709551615 (some bs)).2 = some [] → (Oct.atMost 18446744073709551615 (some bs)).1 < 18446744073709551616 ∧ bs = Oct.put (Oct.atMost 18446744073709551615 (some bs)).1 := by
  intro h
  by_cases hbad : (Oct.num 0 0 bs).2 = 0 ∨ 18446744073709551615 < (Oct.num 0 0 bs).1
  · rw [Oct.atMost_bad _ _ hbad] at h
    simp at h
  · rw [Oct.atMost_good _ _ hbad] at h ⊢
    have h0 : (Oct.num 0 0 bs).2 ≠ 0 := fun h1 => hbad (.inl h1)
    obtain ⟨h1, h2, h3⟩ := Oct.num_is bs hb h0
    simp only [Option.some.injEq, List.drop_eq_nil_iff] at h
    rw [List.take_of_length_le h] at h3
    exact ⟨h1, h3⟩

/-! The law returns true, and writes nothing that was there. -/
set_option maxHeartbeats 4000000 in
theorem walk (a0 : Option Addr) (len0 cap0 : Nat) (z0 : List Int) (w : World) (w0 : IsRow .u8 w a0 len0 cap0 z0) :
    Calls Try.prog 5 #[.slice a0 len0 cap0] w fun e w' => e = .returned (.bool true) ∧ Below w.heap.size w w' := by
  have r0 := w0.row (min len0 200) (Nat.min_le_left _ _)
  have f0 := w0.facts
  have l0 : min len0 200 ≤ 200 := Nat.min_le_right _ _
  go_enter Try.func5, Try.ntmps5
  go_wp2_with fail
  refine (ofew_any _ _ _ _ _ w0).mono ?_
  rintro e w' ⟨rfl, hw⟩
  subst w'
  clear w0
  generalize firsts z0 (min len0 200) = bs at r0
  generalize min len0 200 = n at r0 l0 ⊢
  go_wp2_with fail
  refine (new_any _ _ _ _ _ r0 f0.2.2 (by omega)).mono ?_
  rintro e W1 ⟨g, rfl, hrd, hg, hb1⟩
  have hc := n_any _ _ _ hrd
  have hchar := one_char bs r0.2.1
  generalize Oct.atMost 18446744073709551615 (some bs) = R at hc hchar
  obtain ⟨q, st⟩ := R
  simp only at hc hchar
  go_wp2_with fail
  refine hc.mono ?_
  rintro e W2 ⟨rfl, hrd2, ho2⟩
  have hb2 : Below w.heap.size w W2 := hb1.trans (ho2.below hg hb1.size)
  clear hc hb1
  by_cases hst : st = some []
  · obtain ⟨hq, rfl⟩ := hchar hst
    subst hst
    have rb := r0.later hb2
    have hdn := done_any _ _ _ hrd2
    have e1 : ((some [] : Option (List Nat)) == some []) = true := by decide
    rw [e1] at hdn
    go_wp2_with fail
    refine hdn.mono ?_
    rintro e w' ⟨rfl, hw⟩
    subst w'
    go_wp2_with fail
    have hd0 : Below W2.heap.size W2 W2.drew := (Below.refl _ _).drew
    have HS : Hid (∀ w', Below W2.heap.size W2 w' → Below W2.heap.size W2 w' ∧ (convert 22 9 (.slice a0 n cap0)).run Try.prog w' = .ok (.string (str (Oct.put q))) w') := fun w' hb => ⟨hb, conv_row (rb.later hb) _⟩
    refine wp_region_noPanic ?_
    refine wp_region_held_drew (S := (fun w' => Below W2.heap.size W2 w' ∧ (convert 22 9 (.slice a0 n cap0)).run Try.prog w' = .ok (.string (str (Oct.put q))) w')) (by kernel_rfl) ?_ (fun hHeld => ?_)
    · exact HS.out _ hd0
    refine held_take (i := 0) (d := 15) (v := ?_) rfl rfl (by kernel_rfl) (by kernel_rfl) (by kernel_rfl) (fun _ _ _ h => h) (Or.inl ⟨by rfl, ?_⟩) hHeld ?_
    rotate_left
    · (intro w hSw; (try dsimp only at hSw); go_simp; all_goals (with_reducible rfl))
    try simp only [Act.put, List.setIfInBounds_toArray, List.set_cons_zero, List.set_cons_succ]
    refine held_take (i := 3) (d := 18) (v := ?_) rfl rfl (by kernel_rfl) (by kernel_rfl) (by kernel_rfl) (fun _ _ _ h => h) (Or.inl ⟨by rfl, ?_⟩) hHeld ?_
    rotate_left
    · (intro w hSw; (try dsimp only at hSw); go_simp; all_goals (with_reducible rfl))
    try simp only [Act.put, List.setIfInBounds_toArray, List.set_cons_zero, List.set_cons_succ]
    refine held_take (i := 4) (d := 19) (v := ?_) rfl rfl (by kernel_rfl) (by kernel_rfl) (by kernel_rfl) (fun _ _ _ h => h) (Or.inl ⟨by rfl, ?_⟩) hHeld ?_
    rotate_left
    · (intro w hSw; (try dsimp only at hSw); go_simp; all_goals (with_reducible rfl))
    try simp only [Act.put, List.setIfInBounds_toArray, List.set_cons_zero, List.set_cons_succ]
    refine wpAnyH_ready (rs := [1]) (by kernel_rfl) (by simp) ?_
    refine AllReadyH.cons rfl (fun K hK => ?_) AllReadyH.nil
    go_simp
    refine (put_any none 0 0 q [] _ Row.empty (by simp) (by omega) hq).mono ?_
    rintro e w3 ⟨gp, N, rfl, r3, _, _, hb3⟩
    rw [List.nil_append] at r3
    replace hb3 : Below W2.heap.size W2 w3 := hd0.trans hb3
    go_wp2_with fail
    refine hK.out _ _ ?_ (fun hHeld => ?_)
    · exact HS.out _ hb3
    clear hK K
    try simp only [Act.put, List.setIfInBounds_toArray, List.set_cons_zero, List.set_cons_succ]
    have HS2 : Hid (∀ w', Below w3.heap.size w3 w' → (Below W2.heap.size W2 w' ∧ (convert 22 9 (.slice a0 n cap0)).run Try.prog w' = .ok (.string (str (Oct.put q))) w') ∧ (convert 22 9 (.slice (some ⟨gp, 0, none⟩) N N)).run Try.prog w' = .ok (.string (str (Oct.put q))) w') := fun w' hb => ⟨HS.out _ (hb3.trans (hb.mono hb3.size)), conv_row (r3.later hb) _⟩
    refine held_mono (S' := (fun w' => (Below W2.heap.size W2 w' ∧ (convert 22 9 (.slice a0 n cap0)).run Try.prog w' = .ok (.string (str (Oct.put q))) w') ∧ (convert 22 9 (.slice (some ⟨gp, 0, none⟩) N N)).run Try.prog w' = .ok (.string (str (Oct.put q))) w')) (fun _ h => h.1) _ _ _ _ ?_
    replace hHeld := HS2.out _ (Below.refl _ _)
    refine held_take (i := 2) (d := 17) (v := ?_) rfl rfl (by kernel_rfl) (by kernel_rfl) (by kernel_rfl) (fun _ _ _ h => h) (Or.inl ⟨by rfl, ?_⟩) hHeld ?_
    rotate_left
    · (intro w hSw; (try dsimp only at hSw); go_simp; all_goals (with_reducible rfl))
    try simp only [Act.put, List.setIfInBounds_toArray, List.set_cons_zero, List.set_cons_succ]
    refine held_take (i := 5) (d := 20) (v := ?_) rfl rfl (by kernel_rfl) (by kernel_rfl) (by kernel_rfl) (fun _ _ _ h => h) (Or.inl ⟨by rfl, ?_⟩) hHeld ?_
    rotate_left
    · (intro w hSw; (try dsimp only at hSw); go_simp; all_goals (with_reducible rfl))
    try simp only [Act.put, List.setIfInBounds_toArray, List.set_cons_zero, List.set_cons_succ]
    refine held_take (i := 6) (d := 21) (v := ?_) rfl rfl (by kernel_rfl) (by kernel_rfl) (by kernel_rfl) (fun _ _ _ h => h) (Or.inl ⟨by rfl, ?_⟩) hHeld ?_
    rotate_left
    · (intro w hSw; (try dsimp only at hSw); go_simp; all_goals (with_reducible rfl))
    try simp only [Act.put, List.setIfInBounds_toArray, List.set_cons_zero, List.set_cons_succ]
    refine wpAnyH_ready (rs := [7]) (by kernel_rfl) (by simp) ?_
    refine AllReadyH.cons rfl (fun K hK => ?_) AllReadyH.nil
    go_simp
    refine (oawake_any _).mono ?_
    rintro e w5 ⟨rfl, hb5⟩
    go_wp2_with fail
    refine hK.out _ _ ?_ (fun hHeld => ?_)
    · exact HS2.out _ hb5
    clear hK K
    try simp only [Act.put, List.setIfInBounds_toArray, List.set_cons_zero, List.set_cons_succ]
    refine held_take (i := 8) (d := 23) (v := ?_) rfl rfl (by kernel_rfl) (by kernel_rfl) (by kernel_rfl) (fun _ _ _ h => h) (Or.inl ⟨by rfl, ?_⟩) hHeld ?_
    rotate_left
    · (intro w hSw; (try dsimp only at hSw); go_simp; all_goals (with_reducible rfl))
    try simp only [Act.put, List.setIfInBounds_toArray, List.set_cons_zero, List.set_cons_succ]
    refine held_take (i := 9) (d := 2) (v := ?_) rfl rfl (by kernel_rfl) (by kernel_rfl) (by kernel_rfl) (fun _ _ _ h => h) (Or.inl ⟨by rfl, ?_⟩) hHeld ?_
    rotate_left
    · (intro w hSw; (try dsimp only at hSw); go_simp; all_goals (with_reducible rfl))
    try simp only [Act.put, List.setIfInBounds_toArray, List.set_cons_zero, List.set_cons_succ]
    refine wpAnyH_done (by kernel_rfl) ?_ _
    refine NoPanic.normal ?_
    go_wp2
    go_ret
    exact ⟨rfl, hb2.trans ((hb3.trans (hb5.mono hb3.size)).mono hb2.size)⟩
  · have hdn := done_any _ _ _ hrd2
    have e1 : (st == some []) = false := by rw [Bool.eq_false_iff]; simpa using hst
    rw [e1] at hdn
    go_wp2_with fail
    refine hdn.mono ?_
    rintro e w' ⟨rfl, hw⟩
    subst w'
    go_wp2_with fail
    refine (oawake_any _).mono ?_
    rintro e w5 ⟨rfl, hb5⟩
    go_wp2
    go_ret
    exact ⟨rfl, hb2.trans (hb5.mono hb2.size)⟩

/-! From the call to the statement. -/
set_option maxRecDepth 100000 in
theorem lifted (os : Os) (started : os.Started) (H : Type) (enc : TypeId × Value → H) :
    ReturnsInHanded {} Try.checked os 5 .any (Rows.octetOneSpec.pre6 enc Try.prog Try.f5 Rows.octetOneRow.domain false) (Rows.octetOneSpec.post enc Try.prog Try.f5 false true false false) := by
  refine returnsInHanded_of_change (C := Try.checked) own started (by kernel_rfl) Try.func5
    (ChangeSpec.witness6 (enc := enc) (C := Try.checked) false ⟨#[], #[.slice none 0 0], []⟩ 8 (by kernel_rfl) (by kernel_rfl) (by kernel_rfl) (by kernel_rfl)) ?_
  intro W base args ds gs before hval0 hW hcnd _
  have hval : ∀ (j : Nat) t v, Try.f5.params[j]? = some t → args[j]? = some v → Value.okWide Try.prog W .any base t v := hval0
  have hW' := hW
  obtain ⟨p, q, hA0, hV, rfl, hfz, hnd⟩ := hW
  have hA : DataW.TrodAll enc Try.prog W 0 (fun _ => true) true Try.f5.params.toList args.toList ds p := hA0
  rw [Try.params5] at hA hval
  obtain ⟨v0, vs0, d0, ds0, p0, q0, hargs, rfl, rfl, h0, r0⟩ := trodAll_cons hA
  obtain ⟨rfl, rfl, rfl⟩ := trodAll_nil r0
  obtain rfl : args = #[v0] := by cases args; simp_all
  obtain ⟨rfl, rfl⟩ := trodVars_none hV
  obtain ⟨a0, len0, cap0, rfl⟩ := okWide_slice Try.underlying22 (hval 0 22 v0 rfl rfl)
  have k0 := h0
  have lt0 : ∀ x ∈ p0, x.block < W.heap.size := by obtain ⟨m, hm⟩ := k0; exact DataW.trod_lt m _ _ _ hm
  obtain ⟨z0, w0⟩ : ∃ zs, IsRow .u8 W a0 len0 cap0 zs := by
    obtain ⟨fuel, hf⟩ := h0
    rcases open_ints Try.underlying22 Try.underlying5 (by kernel_rfl) hf with ⟨hcs, _⟩ | ⟨x, l, c, zs, hcs, _, hl, hm, hz, _, hcell, hwz⟩
    · simp [Value.cells] at hcs
      obtain ⟨rfl, rfl, rfl⟩ := hcs
      exact ⟨[], .inl ⟨rfl, rfl, rfl, rfl⟩⟩
    · simp [Value.cells] at hcs
      obtain ⟨rfl, rfl, rfl⟩ := hcs
      exact ⟨zs, .inr ⟨_, rfl, hl, hm, by simpa using hz, hcell, hwz⟩⟩
  clear hA0 hval0
  refine (walk a0 len0 cap0 z0 W w0).mono fun e W' ⟨he, bel⟩ => ?_
  subst he
  exact ⟨_, rfl, _, _, _, [], _, [], hW', trodAll_mk1 (shut_bool Try.underlying4 _), (trodAll_cons_mk (Below.trod laidOut (by kernel_rfl) (of_decide_eq_true (by kernel_rfl)) k0 bel lt0) trodAll_mk0), rfl, bel.frame _, fun h => by cases h⟩

theorem over : Rows.octetOneRow.holds Try.pinned (OpenSpec.ofChange Rows.octetOneSpec) :=
  OpenClaim.holds_of_wide 5 Try.f5 rfl rfl rfl rfl rfl rfl rfl ⟨rfl, rfl, rfl, rfl, rfl⟩ rfl rfl rfl rfl rfl (by kernel_rfl) Try.func5 (by kernel_rfl)
    (of_decide_eq_true (by kernel_rfl)) (by unfold Func.isWrapper; first | (rw [if_pos (by decide +kernel)]; kernel_rfl) | (rw [if_neg (by decide +kernel)]; exact ⟨rfl, rfl⟩))
    (fun os started H enc _ => lifted os started H enc)

end Go.Proofs.Ytlpclllgllogcaa.octetOne
namespace Go.Proofs.Ytlpclllgllogcaa
theorem octetOne_holds : Rows.OctetOneSaid := octetOne.over
#print axioms octetOne_holds
end Go.Proofs.Ytlpclllgllogcaa
