/-
  FrameAll: for all bytes the law returns true and leaves its argument as it was; condition: the variable errors.errorType lies as the text of package errors lays it (a tied card).
-/
import Derived.Test.YtiemgdclhjdmlaaDoorRows
import Derived.Test.YtiemgdclhjdmlaaDoorCards
import Derived.Test.YtiemgdclhjdmlaaDoorTie
import Derived.Test.YtiemgdclhjdmlaaDoorDoor
import Derived.Test.YtiemgdclhjdmlaaDoorFrH
import Derived.WalkKit
import Derived.ProofKit
import Derived.OpenShut
import Derived.ShutString
import Derived.ChangeOld
import Derived.Below
import Derived.SevenTiedAt
namespace Go.Proofs.YtiemgdclhjdmlaaDoor.frameAll
open Go.ChangeShapes Go.WideShapes Go.ChangeAt Go.RowKit
open Go.ChangeMaps (open_string shut_string)
set_option linter.unusedSimpArgs false
set_option linter.unusedVariables false

theorem laidOut : laidOutB Tryd.prog = true := by kernel_rfl

/-! The law returns true, and writes nothing that was there. -/
set_option maxRecDepth 100000 in
set_option maxHeartbeats 4000000 in
theorem walk (a0 : Option Addr) (len0 cap0 : Nat) (z0 : List Int) (w : World) (hg : G w) (w0 : IsRow .u8 w a0 len0 cap0 z0) :
    Calls Tryd.prog 8 #[.slice a0 len0 cap0] w fun e w' => e = .returned (.bool true) ∧ Below w.heap.size w w' := by
  have r0 := w0.row (min len0 200) (Nat.min_le_left _ _)
  have f0 := w0.facts
  have l0 : min len0 200 ≤ 200 := Nat.min_le_right _ _
  have c0 : min len0 200 ≤ cap0 := Nat.le_trans (Nat.min_le_left _ _) f0.1
  have HG : Hid (G w) := hg
  clear hg
  go_enter Tryd.func8, Tryd.ntmps8
  go_wp2_with fail
  refine (few4_any _ _ _ _ _ w0).mono ?_
  rintro e w' ⟨rfl, hw⟩
  subst w'
  clear w0
  generalize firsts z0 (min len0 200) = bs at r0
  generalize min len0 200 = n at r0 l0 c0 ⊢
  have HR0 : Hid (Row w a0 n bs) := r0
  clear r0
  go_wp2_with fail
  refine (all_any a0 n cap0 bs w HG.out HR0.out (by omega) c0 f0.2.1 f0.2.2).mono ?_
  rintro e w1 ⟨v1, k, rfl, hst1, hrs1, hb1⟩
  have HST : Hid (Fr.Stop bs k) := hst1
  have HRS1 : Hid (Recs w1 v1 (Fr.recs bs k)) := hrs1
  have HB1 : Hid (Below w.heap.size w w1) := hb1
  have hel := (Fr.ends_le bs k hst1.1)
  have hln := HR0.out.1
  have hk8 : 8 * k ≤ 200 := by omega
  obtain ⟨en, HEN⟩ : ∃ en, Hid (Fr.ends bs k = en) := ⟨Fr.ends bs k, rfl⟩
  obtain ⟨c, HC⟩ : ∃ c, Hid (Fr.code (bs.drop (Fr.ends bs k)) = c) := ⟨Fr.code (bs.drop (Fr.ends bs k)), rfl⟩
  rw [HC.out, HEN.out]
  clear hst1 hrs1 hb1 hel
  go_wp2_with fail
  refine (refall_any a0 n cap0 bs w1 (HR0.out.later HB1.out) (by omega) c0 f0.2.1).mono ?_
  rintro e w2 ⟨v2, k2, rfl, hst2, hrs2, hb2⟩
  obtain rfl := HST.out.same hst2
  rw [HC.out, HEN.out]
  have HRS12 : Hid (Recs w2 v1 (Fr.recs bs k)) := HRS1.out.later hb2
  have HRS2 : Hid (Recs w2 v2 (Fr.recs bs k)) := hrs2
  have HB2 : Hid (Below w.heap.size w w2) := HB1.out.trans (hb2.mono HB1.out.size)
  clear hst2 hrs2 hb2
  by_cases ho : Fr.ocode bs = 0
  · have HO : Hid (Fr.ocode bs = 0) := ho
    clear ho
    go_wp2_with fail
    refine (open_ok a0 n cap0 bs w2 (HR0.out.later HB2.out) c0 f0.2.1 HO.out).mono ?_
    rintro e w3 ⟨v3, rfl, ho3, hb3⟩
    obtain ⟨a3, n3, cap3, hv3, r3, _, _, _, _⟩ := ho3.slice
    subst hv3
    have HB3 : Hid (Below w.heap.size w w3) := HB2.out.trans (hb3.mono HB2.out.size)
    have HR3 : Hid (Row w3 a3 n3 (Fr.rec bs)) := r3
    have HRS13 : Hid (Recs w3 v1 (Fr.recs bs k)) := HRS12.out.later hb3
    have HRS23 : Hid (Recs w3 v2 (Fr.recs bs k)) := HRS2.out.later hb3
    clear ho3 hb3 r3
    go_wp2_with fail
    refine (refopen_ok a0 n cap0 bs w3 (HR0.out.later HB3.out) c0 f0.2.1 HO.out).mono ?_
    rintro e w4 ⟨x4, n4, cap4, rfl, r4, hb4⟩
    have HB4 : Hid (Below w.heap.size w w4) := HB3.out.trans (hb4.mono HB3.out.size)
    have HR34 : Hid (Row w4 a3 n3 (Fr.rec bs)) := HR3.out.later hb4
    have HR4 : Hid (Row w4 x4 n4 (Fr.rec bs)) := r4.later hb4
    obtain ⟨b1, d1, hv1, _, _, hrv1⟩ := (HRS13.out.later hb4).form
    obtain ⟨b2, d2, hv2, _, _, hrv2⟩ := (HRS23.out.later hb4).form
    rw [Fr.recs_length] at hv1 hv2 hrv1 hrv2
    subst hv1
    subst hv2
    clear hb4 r4
    go_wp2_with fail
    refine (same_any b1 b2 k d1 d2 _ w4 (by omega) hrv1 hrv2).mono ?_
    rintro e w5 ⟨rfl, hb5⟩
    have HB5 : Hid (Below w.heap.size w w5) := HB4.out.trans (hb5.mono HB4.out.size)
    have q1 := conv_row (HR34.out.later hb5) cap3
    have q2 := conv_row (HR4.out.later hb5) cap4
    clear hb5 hrv1 hrv2
    go_wp2_with fail
    refine (awake4_any _).mono ?_
    rintro e w9 ⟨rfl, hb9⟩
    have HB9 : Hid (Below w.heap.size w w9) := HB5.out.trans (hb9.mono HB5.out.size)
    clear hb9
    go_wp2
    go_ret
    exact ⟨rfl, HB9.out⟩
  · have HO : Hid (Fr.ocode bs ≠ 0) := ho
    clear ho
    obtain ⟨q, HQ⟩ : ∃ q, Hid (Fr.ocode bs = q) := ⟨Fr.ocode bs, rfl⟩
    go_wp2_with fail
    refine (open_bad a0 n cap0 bs w2 (HG.out.later HB2.out) (HR0.out.later HB2.out) c0 f0.2.1 HO.out).mono ?_
    rw [HQ.out]
    rintro e w3 ⟨rfl, hb3⟩
    have HB3 : Hid (Below w.heap.size w w3) := HB2.out.trans (hb3.mono HB2.out.size)
    have HRS13 : Hid (Recs w3 v1 (Fr.recs bs k)) := HRS12.out.later hb3
    have HRS23 : Hid (Recs w3 v2 (Fr.recs bs k)) := HRS2.out.later hb3
    clear hb3
    go_wp2_with fail
    refine (refopen_bad a0 n cap0 bs w3 (HR0.out.later HB3.out) c0 f0.2.1 HO.out).mono ?_
    rw [HQ.out]
    rintro e w4 ⟨rfl, hb4⟩
    have HB4 : Hid (Below w.heap.size w w4) := HB3.out.trans (hb4.mono HB3.out.size)
    obtain ⟨b1, d1, hv1, _, _, hrv1⟩ := (HRS13.out.later hb4).form
    obtain ⟨b2, d2, hv2, _, _, hrv2⟩ := (HRS23.out.later hb4).form
    rw [Fr.recs_length] at hv1 hv2 hrv1 hrv2
    subst hv1
    subst hv2
    clear hb4
    go_wp2_with fail
    refine (same_any b1 b2 k d1 d2 _ w4 (by omega) hrv1 hrv2).mono ?_
    rintro e w5 ⟨rfl, hb5⟩
    have HB5 : Hid (Below w.heap.size w w5) := HB4.out.trans (hb5.mono HB4.out.size)
    have q1 := conv_row (Row.empty (w := w5) (a := none)) 0
    clear hb5 hrv1 hrv2
    go_wp2_with fail
    refine (awake4_any _).mono ?_
    rintro e w9 ⟨rfl, hb9⟩
    have HB9 : Hid (Below w.heap.size w w9) := HB5.out.trans (hb9.mono HB5.out.size)
    clear hb9
    go_wp2
    go_ret
    exact ⟨rfl, HB9.out⟩

/-! From the call to the statement. -/
set_option maxRecDepth 100000 in
theorem lifted (os : Os) (started : os.Started) (H : Type) (enc : TypeId × Value → H) :
    ReturnsInHanded {} Tryd.checked os 8 .any (fun w args => (Rows.frameAllSpec.pre enc Tryd.prog Tryd.f8 [] false w args ∧ laidMetH Tryd.prog listed w) ∧ sizedMet enc Tryd.prog Tryd.f8 (OpenSpec.ofChange Rows.frameAllSpec) false w args)
      (Rows.frameAllSpec.post enc Tryd.prog Tryd.f8 false true false false) := by
  refine returnsInHanded_of_change_and (C := Tryd.checked) (X := fun w _ => laidMetH Tryd.prog listed w) (fun _ _ _ hh h => h.of_heap hh) Fa.own started (by kernel_rfl) Tryd.func8
    (ChangeSpec.witness_shaped (enc := enc) (C := Tryd.checked) (os := os) (X := fun w _ => laidMetH Tryd.prog listed w) false (World.doorLaid Tryd.prog 400 os) #[.slice none 0 0] 8 rfl (World.shaped_of_RefB (by kernel_rfl) (by kernel_rfl)) (by kernel_rfl) (by kernel_rfl) (by kernel_rfl) (door_met os _)) ?_
  intro W base args ds gs before hval0 hW _ _ hL _
  have hval : ∀ (j : Nat) t v, Tryd.f8.params[j]? = some t → args[j]? = some v → Value.okWide Tryd.prog W .any base t v := hval0
  have hW' := hW
  obtain ⟨p, q, hA0, hV, rfl, hfz, hnd⟩ := hW
  have hA : DataW.TrodAll enc Tryd.prog W 0 (fun _ => true) true Tryd.f8.params.toList args.toList ds p := hA0
  rw [Tryd.params8] at hA hval
  obtain ⟨v0, vs0, d0, ds0, p0, q0, hargs, rfl, rfl, h0, r0⟩ := trodAll_cons hA
  obtain ⟨rfl, rfl, rfl⟩ := trodAll_nil r0
  obtain rfl : args = #[v0] := by cases args; simp_all
  obtain ⟨rfl, rfl⟩ := trodVars_none hV
  obtain ⟨a0, len0, cap0, rfl⟩ := okWide_slice Tryd.underlying42 (hval 0 42 v0 rfl rfl)
  have k0 := h0
  have lt0 : ∀ x ∈ p0, x.block < W.heap.size := by obtain ⟨m, hm⟩ := k0; exact DataW.trod_lt m _ _ _ hm
  obtain ⟨z0, w0⟩ : ∃ zs, IsRow .u8 W a0 len0 cap0 zs := by
    obtain ⟨fuel, hf⟩ := h0
    rcases open_ints Tryd.underlying42 Tryd.underlying5 (by kernel_rfl) hf with ⟨hcs, _⟩ | ⟨x, l, c, zs, hcs, _, hl, hm, hz, _, hcell, hwz⟩
    · simp [Value.cells] at hcs
      obtain ⟨rfl, rfl, rfl⟩ := hcs
      exact ⟨[], .inl ⟨rfl, rfl, rfl, rfl⟩⟩
    · simp [Value.cells] at hcs
      obtain ⟨rfl, rfl, rfl⟩ := hcs
      exact ⟨zs, .inr ⟨_, rfl, hl, hm, by simpa using hz, hcell, hwz⟩⟩
  clear hA0 hval0
  refine (walk a0 len0 cap0 z0 W (G.of_laid hL) w0).mono fun e W' ⟨he, bel⟩ => ?_
  subst he
  exact ⟨_, rfl, _, _, _, [], _, [], hW', trodAll_mk1 (shut_bool Tryd.underlying4 _), (trodAll_cons_mk (Below.trod laidOut (by kernel_rfl) (of_decide_eq_true (by kernel_rfl)) k0 bel lt0) trodAll_mk0), rfl, bel.frame _, fun h => by cases h⟩

theorem over : Rows.frameAllRow.holds Tryd.pinned (OpenSpec.ofChange Rows.frameAllSpec) :=
  OpenClaim.holds_of_wide 8 Tryd.f8 rfl rfl rfl rfl rfl rfl rfl ⟨rfl, rfl, rfl, rfl, rfl⟩ rfl rfl rfl rfl rfl (by kernel_rfl) Tryd.func8 (by kernel_rfl)
    (of_decide_eq_true (by kernel_rfl)) (by unfold Func.isWrapper; rw [if_neg (of_decide_eq_false (by kernel_rfl))]; exact ⟨rfl, rfl⟩)
    (fun os started H enc _ => lifted os started H enc)
end Go.Proofs.YtiemgdclhjdmlaaDoor.frameAll
namespace Go.Proofs.YtiemgdclhjdmlaaDoor
open Go
set_option maxRecDepth 100000 in
theorem frameAll_holds : Rows.FrameAllCardSaid :=
  Claim7.holds_tied_plain_at .later [] [.handle] true (true, "6bb8420f3958038eed9cfcd5f39460c47147c0b66445aadddf18d967e68e5430") true
    frameAll.over (fun _ h => by cases h) (by kernel_rfl) (fun _ h => by cases h) frameAll_row_tie rfl ⟨rfl, rfl⟩ (by kernel_rfl) rfl
    (fun f fn hf hfn => by
      obtain rfl : f = 8 := Option.some.inj ((show Tryd.prog.funcNamed Rows.frameAllRow.func = some 8 by kernel_rfl).symm.trans hf) |>.symm
      obtain rfl : fn = Tryd.f8 := (Option.some.inj (Tryd.func8.symm.trans hfn)).symm
      exact ⟨by kernel_rfl, fun j t ht => by
        rw [Tryd.params8] at ht
        match j, ht with
        | 0, ht =>
          obtain rfl : t = 42 := by simpa using ht.symm
          exact (show Tryd.prog.wantsStandIn 42 = false by kernel_rfl)
        | j + 1, ht => simp at ht⟩)
    (by kernel_rfl)
#print axioms frameAll_holds
end Go.Proofs.YtiemgdclhjdmlaaDoor
