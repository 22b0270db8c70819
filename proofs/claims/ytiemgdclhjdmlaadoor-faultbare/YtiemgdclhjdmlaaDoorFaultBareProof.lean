/-
  FaultBare: for every text and every number the law returns true and leaves its arguments as they were; condition: the variable errors.errorType lies as the text of package errors lays it (a tied card).
-/
import Derived.Test.YtiemgdclhjdmlaaDoorRows
import Derived.Test.YtiemgdclhjdmlaaDoorCards
import Derived.Test.YtiemgdclhjdmlaaDoorTie
import Derived.Test.YtiemgdclhjdmlaaDoorDoor
import Derived.Test.YtiemgdclhjdmlaaDoorFaK
import Derived.WalkKit
import Derived.ProofKit
import Derived.OpenShut
import Derived.ShutString
import Derived.ChangeOld
import Derived.Below
import Derived.SevenTiedAt
namespace Go.Proofs.YtiemgdclhjdmlaaDoor.faultBare
open Go.ChangeShapes Go.WideShapes Go.ChangeAt Go.RowKit
open Go.ChangeMaps (open_string shut_string)
set_option linter.unusedSimpArgs false
set_option linter.unusedVariables false

theorem laidOut : laidOutB Tryd.prog = true := by kernel_rfl

/-! The law returns true, and writes nothing that was there. -/
set_option maxRecDepth 100000 in
theorem walk (a0 : ByteArray) (a1 : Int) (w : World) (hg : G w) (w0 : a0.size ≤ maxLen) (w1 : (Lit.int .i64 a1).wf = true) :
    Calls Tryd.prog 5 #[.string a0, .int .i64 a1] w fun e w' => e = .returned (.bool true) ∧ Below w.heap.size w w' := by
  have HG : Hid (G w) := hg
  clear hg
  by_cases hn : a1 = 0
  · subst hn
    go_enter Tryd.func5, Tryd.ntmps5
    go_wp2_with fail
    refine (awake3_any w HG.out).mono ?_
    rintro e w1_ ⟨rfl, hb1⟩
    have HB1 : Hid (Below w.heap.size w w1_) := hb1
    clear hb1
    go_wp2
    go_ret
    exact ⟨rfl, HB1.out⟩
  by_cases h40 : 40 < a0.size
  · go_enter Tryd.func5, Tryd.ntmps5
    go_wp2_with fail
    refine (awake3_any w HG.out).mono ?_
    rintro e w1_ ⟨rfl, hb1⟩
    have HB1 : Hid (Below w.heap.size w w1_) := hb1
    clear hb1
    go_wp2
    go_ret
    exact ⟨rfl, HB1.out⟩
  have hb1 : (a1 == 0) = false := by simpa using hn
  have hb2 : decide (40 < (a0.size : Int)) = false := by simp; omega
  cases hE : a0.toList.isEmpty
  case true =>
    go_enter Tryd.func5, Tryd.ntmps5
    go_wp2_with fail
    refine (awake3_any w HG.out).mono ?_
    rintro e w1_ ⟨rfl, hb1⟩
    have HB1 : Hid (Below w.heap.size w w1_) := hb1
    clear hb1
    go_wp2
    go_ret
    exact ⟨rfl, HB1.out⟩
  have he : ∀ w, Errv w a1 [] (.iface 25 (.int .i64 a1)) := fun _ => rfl
  have HE : Hid (∀ w, Errv w a1 [] (.iface 25 (.int .i64 a1))) := he
  have hp : Hid (plen [a0] ≤ 1000000) := by unfold Hid; simp [plen]; omega
  clear he
  have e0 : path [] = ⟨#[]⟩ := rfl
  have e1 : path [a0] = a0 := path_one a0
  go_enter Tryd.func5, Tryd.ntmps5
  go_wp2_with fail
  refine (code_any a1 [] _ w HG.out (HE.out w)).mono ?_
  rintro e w1_ ⟨rfl, hb1⟩
  have HB1 : Hid (Below w.heap.size w w1_) := hb1
  clear hb1
  go_wp2_with fail
  refine (path_any a1 [] _ w1_ (HG.out.later HB1.out) (HE.out _) (by decide)).mono ?_
  rintro e w2_ ⟨rfl, hb2⟩
  have HB2 : Hid (Below w.heap.size w w2_) := HB1.out.trans (hb2.mono HB1.out.size)
  clear hb2
  rw [e0]
  go_wp2_with fail
  refine (fis_any a1 a1 [] _ w2_ (HG.out.later HB2.out) (HE.out _)).mono ?_
  rintro e w3_ ⟨rfl, hb3⟩
  have HB3 : Hid (Below w.heap.size w w3_) := HB2.out.trans (hb3.mono HB2.out.size)
  clear hb3
  rw [beq_self_eq_true]
  go_wp2_with fail
  refine (in_bad a0 a1 [] _ w3_ (HE.out _)).mono ?_
  rintro e w4_ ⟨v4, rfl, hv4, hb4⟩
  have HB4 : Hid (Below w.heap.size w w4_) := HB3.out.trans (hb4.mono HB3.out.size)
  have HV4 : Hid (Errv w4_ a1 [a0] v4) := hv4
  clear hv4
  clear hb4
  go_wp2_with fail
  refine (path_any a1 [a0] v4 w4_ (HG.out.later HB4.out) HV4.out hp.out).mono ?_
  rintro e w5_ ⟨rfl, hb5⟩
  have HB5 : Hid (Below w.heap.size w w5_) := HB4.out.trans (hb5.mono HB4.out.size)
  clear hb5
  rw [e1]
  go_wp2_with fail
  refine (in_bad a0 a1 [] _ w5_ (HE.out _)).mono ?_
  rintro e w6_ ⟨v6, rfl, hv6, hb6⟩
  have HB6 : Hid (Below w.heap.size w w6_) := HB5.out.trans (hb6.mono HB5.out.size)
  have HV6 : Hid (Errv w6_ a1 [a0] v6) := hv6
  clear hv6
  clear hb6
  go_wp2_with fail
  refine (code_any a1 [a0] v6 w6_ (HG.out.later HB6.out) HV6.out).mono ?_
  rintro e w7_ ⟨rfl, hb7⟩
  have HB7 : Hid (Below w.heap.size w w7_) := HB6.out.trans (hb7.mono HB6.out.size)
  clear hb7
  go_wp2_with fail
  refine (awake3_any w7_ (HG.out.later HB7.out)).mono ?_
  rintro e w8_ ⟨rfl, hb8⟩
  have HB8 : Hid (Below w.heap.size w w8_) := HB7.out.trans (hb8.mono HB7.out.size)
  clear hb8
  go_wp2
  go_ret
  exact ⟨rfl, HB8.out⟩

/-! From the call to the statement. -/
set_option maxRecDepth 100000 in
theorem lifted (os : Os) (started : os.Started) (H : Type) (enc : TypeId × Value → H) :
    ReturnsInHanded {} Tryd.checked os 5 .any (fun w args => (Rows.faultBareSpec.pre enc Tryd.prog Tryd.f5 [] false w args ∧ laidMetH Tryd.prog listed w) ∧ sizedMet enc Tryd.prog Tryd.f5 (OpenSpec.ofChange Rows.faultBareSpec) false w args)
      (Rows.faultBareSpec.post enc Tryd.prog Tryd.f5 false true false false) := by
  refine returnsInHanded_of_change_and (C := Tryd.checked) (X := fun w _ => laidMetH Tryd.prog listed w) (fun _ _ _ hh h => h.of_heap hh) Fa.own started (by kernel_rfl) Tryd.func5
    (ChangeSpec.witness_shaped (enc := enc) (C := Tryd.checked) (os := os) (X := fun w _ => laidMetH Tryd.prog listed w) false (World.doorLaid Tryd.prog 400 os) #[.string ByteArray.empty, .int .i64 0] 8 rfl (World.shaped_of_RefB (by kernel_rfl) (by kernel_rfl)) (by kernel_rfl) (by kernel_rfl) (by kernel_rfl) (door_met os _)) ?_
  intro W base args ds gs before hval0 hW _ _ hL _
  have hval : ∀ (j : Nat) t v, Tryd.f5.params[j]? = some t → args[j]? = some v → Value.okWide Tryd.prog W .any base t v := hval0
  have hW' := hW
  obtain ⟨p, q, hA0, hV, rfl, hfz, hnd⟩ := hW
  have hA : DataW.TrodAll enc Tryd.prog W 0 (fun _ => true) true Tryd.f5.params.toList args.toList ds p := hA0
  rw [Tryd.params5] at hA hval
  obtain ⟨v0, vs0, d0, ds0, p0, q0, hargs, rfl, rfl, h0, r0⟩ := trodAll_cons hA
  obtain ⟨v1, vs1, d1, ds1, p1, q1, rfl, rfl, rfl, h1, r1⟩ := trodAll_cons r0
  obtain ⟨rfl, rfl, rfl⟩ := trodAll_nil r1
  obtain rfl : args = #[v0, v1] := by cases args; simp_all
  obtain ⟨rfl, rfl⟩ := trodVars_none hV
  obtain ⟨a0, rfl, rfl, rfl, w0⟩ := open_string Tryd.underlying9 (hval 0 9 v0 rfl rfl) h0
  obtain ⟨a1, rfl, rfl, rfl, w1⟩ := open_int Tryd.underlying3 (hval 1 3 v1 rfl rfl) h1
  clear hA0 hval0
  simp only [List.append_nil] at hW'
  refine (walk a0 a1 W (G.of_laid hL) w0 w1).mono fun e W' ⟨he, bel⟩ => ?_
  subst he
  exact ⟨_, rfl, _, _, _, [], _, [], hW', trodAll_mk1 (shut_bool Tryd.underlying4 _), (trodAll_cons_mk (shut_string Tryd.underlying9 w0) (trodAll_cons_mk (shut_int Tryd.underlying3 w1) trodAll_mk0)), rfl, bel.frame _, fun h => by cases h⟩

theorem over : Rows.faultBareRow.holds Tryd.pinned (OpenSpec.ofChange Rows.faultBareSpec) :=
  OpenClaim.holds_of_wide 5 Tryd.f5 rfl rfl rfl rfl rfl rfl rfl ⟨rfl, rfl, rfl, rfl, rfl⟩ rfl rfl rfl rfl rfl (by kernel_rfl) Tryd.func5 (by kernel_rfl)
    (of_decide_eq_true (by kernel_rfl)) (by unfold Func.isWrapper; rw [if_neg (of_decide_eq_false (by kernel_rfl))]; exact ⟨rfl, rfl⟩)
    (fun os started H enc _ => lifted os started H enc)
end Go.Proofs.YtiemgdclhjdmlaaDoor.faultBare
namespace Go.Proofs.YtiemgdclhjdmlaaDoor
open Go
set_option maxRecDepth 100000 in
theorem faultBare_holds : Rows.FaultBareCardSaid :=
  Claim7.holds_tied_plain_at .later [] [.handle] true (true, "6bb8420f3958038eed9cfcd5f39460c47147c0b66445aadddf18d967e68e5430") true
    faultBare.over (fun _ h => by cases h) (by kernel_rfl) (fun _ h => by cases h) faultBare_row_tie rfl ⟨rfl, rfl⟩ (by kernel_rfl) rfl
    (fun f fn hf hfn => by
      obtain rfl : f = 5 := Option.some.inj ((show Tryd.prog.funcNamed Rows.faultBareRow.func = some 5 by kernel_rfl).symm.trans hf) |>.symm
      obtain rfl : fn = Tryd.f5 := (Option.some.inj (Tryd.func5.symm.trans hfn)).symm
      exact ⟨by kernel_rfl, fun j t ht => by
        rw [Tryd.params5] at ht
        match j, ht with
        | 0, ht =>
          obtain rfl : t = 9 := by simpa using ht.symm
          exact (show Tryd.prog.wantsStandIn 9 = false by kernel_rfl)
        | 1, ht =>
          obtain rfl : t = 3 := by simpa using ht.symm
          exact (show Tryd.prog.wantsStandIn 3 = false by kernel_rfl)
        | j + 2, ht => simp at ht⟩)
    (by kernel_rfl)
#print axioms faultBare_holds
end Go.Proofs.YtiemgdclhjdmlaaDoor
