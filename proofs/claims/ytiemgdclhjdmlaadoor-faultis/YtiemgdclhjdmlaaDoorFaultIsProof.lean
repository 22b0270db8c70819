/-
  FaultIs: for all texts and every two numbers the law returns true and leaves its arguments as they were; condition: the variable errors.errorType lies as the text of package errors lays it (a tied card).
-/
import Derived.Test.YtiemgdclhjdmlaaDoorRows
import Derived.Test.YtiemgdclhjdmlaaDoorCards
import Derived.Test.YtiemgdclhjdmlaaDoorTie
import Derived.Test.YtiemgdclhjdmlaaDoorDoor
import Derived.Test.YtiemgdclhjdmlaaDoorFaL
import Derived.WalkKit
import Derived.ProofKit
import Derived.OpenShut
import Derived.ShutString
import Derived.ChangeOld
import Derived.Below
import Derived.SevenTiedAt
import Derived.SliceStrings
namespace Go.Proofs.YtiemgdclhjdmlaaDoor.faultIs
open Go.ChangeShapes Go.WideShapes Go.ChangeAt Go.RowKit
open Go.ChangeMaps (open_string shut_string)
set_option linter.unusedSimpArgs false
set_option linter.unusedVariables false

theorem laidOut : laidOutB Tryd.prog = true := by kernel_rfl

/-! The law returns true, and writes nothing that was there. -/
set_option maxRecDepth 100000 in
theorem walk (a0 : Option Addr) (len0 cap0 : Nat) (z0 : List ByteArray) (a1 : Int) (a2 : Int) (w : World) (hg : G w) (w0 : Strs w a0 len0 z0) (w1 : (Lit.int .i64 a1).wf = true) (w2 : (Lit.int .i64 a2).wf = true) :
    Calls Tryd.prog 4 #[.slice a0 len0 cap0, .int .i64 a1, .int .i64 a2] w fun e w' => e = .returned (.bool true) ∧ Below w.heap.size w w' := by
  have HG : Hid (G w) := hg
  have HW : Hid (Strs w a0 len0 z0) := w0
  clear hg w0
  go_enter Tryd.func4, Tryd.ntmps4
  go_wp2_with fail
  refine (short_any a0 len0 cap0 z0 w HW.out).mono ?_
  rintro e w1_ ⟨v1, ps, rfl, hv1, hp8, hpl, hb1⟩
  have HB1 : Hid (Below w.heap.size w w1_) := hb1
  clear hb1
  by_cases h0 : ps = []
  · obtain ⟨a, cap, hv1', _, _, _, _⟩ := hv1.shape
    subst hv1'
    rw [h0, List.map_nil, List.length_nil]
    clear hv1
    go_wp2_with fail
    refine (fis_nil a2 w1_).mono ?_
    rintro e w2_ ⟨rfl, hb2⟩
    have HB2 : Hid (Below w.heap.size w w2_) := HB1.out.trans (hb2.mono HB1.out.size)
    clear hb2
    go_wp2_with fail
    refine (awake3_any w2_ (HG.out.later HB2.out)).mono ?_
    rintro e w3_ ⟨rfl, hb3⟩
    have HB3 : Hid (Below w.heap.size w w3_) := HB2.out.trans (hb3.mono HB2.out.size)
    clear hb3
    go_wp2
    go_ret
    exact ⟨rfl, HB3.out⟩
  obtain ⟨g, cap, hv1', hg1, hg2, hg3, hg4, hg5⟩ := hv1.form (by simpa using h0)
  subst hv1'
  have HC : Hid (∀ j x, ps[j]? = some x → w1_.cell? ⟨g, j, none⟩ = some (.string x)) := fun j x hj => hg5 j _ (by rw [List.getElem?_map, hj]; rfl)
  rw [List.length_map] at hg3 ⊢
  have HPS : Hid (plen ps ≤ 200) := by unfold Hid; omega
  have HPL : Hid (plen ps ≤ 1000000) := by unfold Hid; omega
  have HPR : Hid (plen ps.reverse ≤ 1000000) := by unfold Hid; rw [plen_rev]; omega
  have HNE : Hid (ps ≠ []) := h0
  obtain ⟨len, hlen⟩ : ∃ len, ps.length = len := ⟨_, rfl⟩
  have hl0 : 0 < len := by rw [← hlen]; exact List.length_pos_iff.2 h0
  have hl8 : len ≤ 8 := by omega
  rw [hlen] at hg3 ⊢
  have HL : Hid (ps.length = len) := hlen
  clear hv1 hg5 hpl hp8 h0 hlen
  by_cases hn : a1 = 0
  · subst hn
    go_wp2_with fail
    refine (fis_nil a2 w1_).mono ?_
    rintro e w2_ ⟨rfl, hb2⟩
    have HB2 : Hid (Below w.heap.size w w2_) := HB1.out.trans (hb2.mono HB1.out.size)
    clear hb2
    go_wp2_with fail
    refine (awake3_any w2_ (HG.out.later HB2.out)).mono ?_
    rintro e w3_ ⟨rfl, hb3⟩
    have HB3 : Hid (Below w.heap.size w w3_) := HB2.out.trans (hb3.mono HB2.out.size)
    clear hb3
    go_wp2
    go_ret
    exact ⟨rfl, HB3.out⟩
  have hb1 : (a1 == 0) = false := by simpa using hn
  obtain ⟨r, HR⟩ : ∃ r, Hid ((a1 == a2) = r) := ⟨_, rfl⟩
  have hr := HR.out
  go_wp2_with fail
  refine (wrap_bad g len cap ps a1 w1_ hn HL.out hl0 hg4 hg3 HC.out).mono ?_
  rintro e w2_ ⟨v2, rfl, hv2, hb2⟩
  have HB2 : Hid (Below w.heap.size w w2_) := HB1.out.trans (hb2.mono HB1.out.size)
  have HV2 : Hid (Errv w2_ a1 ps.reverse v2) := hv2
  clear hv2
  clear hb2
  go_wp2_with fail
  refine (fis_any a1 a2 ps.reverse _ w2_ (HG.out.later HB2.out) HV2.out).mono ?_
  rintro e w3_ ⟨rfl, hb3⟩
  have HB3 : Hid (Below w.heap.size w w3_) := HB2.out.trans (hb3.mono HB2.out.size)
  clear hb3
  rw [HR.out]
  cases r
  case' false =>
    go_wp2_with fail
    refine (awake3_any w3_ (HG.out.later HB3.out)).mono ?_
    rintro e w4_ ⟨rfl, hb4⟩
    have HB4 : Hid (Below w.heap.size w w4_) := HB3.out.trans (hb4.mono HB3.out.size)
    clear hb4
    go_wp2
    go_ret
    exact ⟨rfl, HB4.out⟩
  case' true =>
    go_wp2_with fail
    refine (awake3_any w3_ (HG.out.later HB3.out)).mono ?_
    rintro e w4_ ⟨rfl, hb4⟩
    have HB4 : Hid (Below w.heap.size w w4_) := HB3.out.trans (hb4.mono HB3.out.size)
    clear hb4
    go_wp2
    go_ret
    exact ⟨rfl, HB4.out⟩

/-! From the call to the statement. -/
set_option maxRecDepth 100000 in
theorem lifted (os : Os) (started : os.Started) (H : Type) (enc : TypeId × Value → H) :
    ReturnsInHanded {} Tryd.checked os 4 .any (fun w args => (Rows.faultIsSpec.pre enc Tryd.prog Tryd.f4 [] false w args ∧ laidMetH Tryd.prog listed w) ∧ sizedMet enc Tryd.prog Tryd.f4 (OpenSpec.ofChange Rows.faultIsSpec) false w args)
      (Rows.faultIsSpec.post enc Tryd.prog Tryd.f4 false true false false) := by
  refine returnsInHanded_of_change_and (C := Tryd.checked) (X := fun w _ => laidMetH Tryd.prog listed w) (fun _ _ _ hh h => h.of_heap hh) Fa.own started (by kernel_rfl) Tryd.func4
    (ChangeSpec.witness_shaped (enc := enc) (C := Tryd.checked) (os := os) (X := fun w _ => laidMetH Tryd.prog listed w) false (World.doorLaid Tryd.prog 400 os) #[.slice none 0 0, .int .i64 0, .int .i64 0] 8 rfl (World.shaped_of_RefB (by kernel_rfl) (by kernel_rfl)) (by kernel_rfl) (by kernel_rfl) (by kernel_rfl) (door_met os _)) ?_
  intro W base args ds gs before hval0 hW _ _ hL _
  have hval : ∀ (j : Nat) t v, Tryd.f4.params[j]? = some t → args[j]? = some v → Value.okWide Tryd.prog W .any base t v := hval0
  have hW' := hW
  obtain ⟨p, q, hA0, hV, rfl, hfz, hnd⟩ := hW
  have hA : DataW.TrodAll enc Tryd.prog W 0 (fun _ => true) true Tryd.f4.params.toList args.toList ds p := hA0
  rw [Tryd.params4] at hA hval
  obtain ⟨v0, vs0, d0, ds0, p0, q0, hargs, rfl, rfl, h0, r0⟩ := trodAll_cons hA
  obtain ⟨v1, vs1, d1, ds1, p1, q1, rfl, rfl, rfl, h1, r1⟩ := trodAll_cons r0
  obtain ⟨v2, vs2, d2, ds2, p2, q2, rfl, rfl, rfl, h2, r2⟩ := trodAll_cons r1
  obtain ⟨rfl, rfl, rfl⟩ := trodAll_nil r2
  obtain rfl : args = #[v0, v1, v2] := by cases args; simp_all
  obtain ⟨rfl, rfl⟩ := trodVars_none hV
  obtain ⟨a0, len0, cap0, rfl⟩ := okWide_slice Tryd.underlying22 (hval 0 22 v0 rfl rfl)
  have k0 := h0
  have lt0 : ∀ x ∈ p0, x.block < W.heap.size := by obtain ⟨m, hm⟩ := k0; exact DataW.trod_lt m _ _ _ hm
  obtain ⟨z0, w0⟩ : ∃ ss, Strs W a0 len0 ss := by
    obtain ⟨fuel, hf⟩ := h0
    rcases open_strings Tryd.underlying22 Tryd.underlying9 (by kernel_rfl) hf with ⟨hcs, _⟩ | ⟨x, l, c, ss, hcs, _, hl, hm, hz, _, hcell, hwz⟩
    · simp [Value.cells] at hcs
      obtain ⟨rfl, rfl, rfl⟩ := hcs
      exact ⟨[], Strs.none⟩
    · simp [Value.cells] at hcs
      obtain ⟨rfl, rfl, rfl⟩ := hcs
      exact ⟨_, Strs.of hl hm (by simpa using hz) hcell hwz⟩
  obtain ⟨a1, rfl, rfl, rfl, w1⟩ := open_int Tryd.underlying3 (hval 1 3 v1 rfl rfl) h1
  obtain ⟨a2, rfl, rfl, rfl, w2⟩ := open_int Tryd.underlying3 (hval 2 3 v2 rfl rfl) h2
  clear hA0 hval0
  refine (walk a0 len0 cap0 z0 a1 a2 W (G.of_laid hL) w0 w1 w2).mono fun e W' ⟨he, bel⟩ => ?_
  subst he
  exact ⟨_, rfl, _, _, _, [], _, [], hW', trodAll_mk1 (shut_bool Tryd.underlying4 _), (trodAll_cons_mk (Below.trod laidOut (by kernel_rfl) (of_decide_eq_true (by kernel_rfl)) k0 bel lt0) (trodAll_cons_mk (shut_int Tryd.underlying3 w1) (trodAll_cons_mk (shut_int Tryd.underlying3 w2) trodAll_mk0))), rfl, bel.frame _, fun h => by cases h⟩

theorem over : Rows.faultIsRow.holds Tryd.pinned (OpenSpec.ofChange Rows.faultIsSpec) :=
  OpenClaim.holds_of_wide 4 Tryd.f4 rfl rfl rfl rfl rfl rfl rfl ⟨rfl, rfl, rfl, rfl, rfl⟩ rfl rfl rfl rfl rfl (by kernel_rfl) Tryd.func4 (by kernel_rfl)
    (of_decide_eq_true (by kernel_rfl)) (by unfold Func.isWrapper; rw [if_neg (of_decide_eq_false (by kernel_rfl))]; exact ⟨rfl, rfl⟩)
    (fun os started H enc _ => lifted os started H enc)
end Go.Proofs.YtiemgdclhjdmlaaDoor.faultIs
namespace Go.Proofs.YtiemgdclhjdmlaaDoor
open Go
set_option maxRecDepth 100000 in
theorem faultIs_holds : Rows.FaultIsCardSaid :=
  Claim7.holds_tied_plain_at .later [] [.handle] true (true, "6bb8420f3958038eed9cfcd5f39460c47147c0b66445aadddf18d967e68e5430") true
    faultIs.over (fun _ h => by cases h) (by kernel_rfl) (fun _ h => by cases h) faultIs_row_tie rfl ⟨rfl, rfl⟩ (by kernel_rfl) rfl
    (fun f fn hf hfn => by
      obtain rfl : f = 4 := Option.some.inj ((show Tryd.prog.funcNamed Rows.faultIsRow.func = some 4 by kernel_rfl).symm.trans hf) |>.symm
      obtain rfl : fn = Tryd.f4 := (Option.some.inj (Tryd.func4.symm.trans hfn)).symm
      exact ⟨by kernel_rfl, fun j t ht => by
        rw [Tryd.params4] at ht
        match j, ht with
        | 0, ht =>
          obtain rfl : t = 22 := by simpa using ht.symm
          exact (show Tryd.prog.wantsStandIn 22 = false by kernel_rfl)
        | 1, ht =>
          obtain rfl : t = 3 := by simpa using ht.symm
          exact (show Tryd.prog.wantsStandIn 3 = false by kernel_rfl)
        | 2, ht =>
          obtain rfl : t = 3 := by simpa using ht.symm
          exact (show Tryd.prog.wantsStandIn 3 = false by kernel_rfl)
        | j + 3, ht => simp at ht⟩)
    (by kernel_rfl)
#print axioms faultIs_holds
end Go.Proofs.YtiemgdclhjdmlaaDoor
