/-
  FaultTells: for all texts and every number the law returns true and leaves its arguments as they were; condition: the variable errors.errorType lies as the text of package errors lays it (a tied card).
-/
import Derived.Test.YtiemgdclhjdmlaaDoorRows
import Derived.Test.YtiemgdclhjdmlaaDoorCards
import Derived.Test.YtiemgdclhjdmlaaDoorTie
import Derived.Test.YtiemgdclhjdmlaaDoorDoor
import Derived.Test.YtiemgdclhjdmlaaDoorFaL
import Derived.WalkKit
import Derived.ProofKit
import Derived.OpenShut
import Derived.ShutString
import Derived.ChangeOld
import Derived.Below
import Derived.SevenTiedAt
import Derived.SliceStrings
namespace Go.Proofs.YtiemgdclhjdmlaaDoor.faultTells
open Go.ChangeShapes Go.WideShapes Go.ChangeAt Go.RowKit
open Go.ChangeMaps (open_string shut_string)
set_option linter.unusedSimpArgs false
set_option linter.unusedVariables false

theorem laidOut : laidOutB Tryd.prog = true := by kernel_rfl

theorem told_any (n : Int) (w : World) : Calls Tryd.prog 21 #[.int .i64 n] w fun e w' => e = .returned (.string told) ∧ w' = w := by
  go_enter Tryd.func21, Tryd.ntmps21
  go_wp2
  go_ret
  exact ⟨rfl, rfl⟩

/-! The law returns true, and writes nothing that was there. -/
set_option maxRecDepth 100000 in
theorem walk (a0 : Option Addr) (len0 cap0 : Nat) (z0 : List ByteArray) (a1 : Int) (w : World) (hg : G w) (w0 : Strs w a0 len0 z0) (w1 : (Lit.int .i64 a1).wf = true) :
    Calls Tryd.prog 6 #[.slice a0 len0 cap0, .int .i64 a1] w fun e w' => e = .returned (.bool true) ∧ Below w.heap.size w w' := by
  have HG : Hid (G w) := hg
  have HW : Hid (Strs w a0 len0 z0) := w0
  clear hg w0
  go_enter Tryd.func6, Tryd.ntmps6
  go_wp2_with fail
  refine (short_any a0 len0 cap0 z0 w HW.out).mono ?_
  rintro e w1_ ⟨v1, ps, rfl, hv1, hp8, hpl, hb1⟩
  have HB1 : Hid (Below w.heap.size w w1_) := hb1
  clear hb1
  by_cases h0 : ps = []
  · obtain ⟨a, cap, hv1', _, _, _, _⟩ := hv1.shape
    subst hv1'
    rw [h0, List.map_nil, List.length_nil]
    clear hv1
    go_wp2_with fail
    refine (awake3_any w1_ (HG.out.later HB1.out)).mono ?_
    rintro e w2_ ⟨rfl, hb2⟩
    have HB2 : Hid (Below w.heap.size w w2_) := HB1.out.trans (hb2.mono HB1.out.size)
    clear hb2
    go_wp2
    go_ret
    exact ⟨rfl, HB2.out⟩
  obtain ⟨g, cap, hv1', hg1, hg2, hg3, hg4, hg5⟩ := hv1.form (by simpa using h0)
  subst hv1'
  have HC : Hid (∀ j x, ps[j]? = some x → w1_.cell? ⟨g, j, none⟩ = some (.string x)) := fun j x hj => hg5 j _ (by rw [List.getElem?_map, hj]; rfl)
  rw [List.length_map] at hg3 ⊢
  have HPS : Hid (plen ps ≤ 200) := by unfold Hid; omega
  have HPL : Hid (plen ps ≤ 1000000) := by unfold Hid; omega
  have HPR : Hid (plen ps.reverse ≤ 1000000) := by unfold Hid; rw [plen_rev]; omega
  have HNE : Hid (ps ≠ []) := h0
  obtain ⟨len, hlen⟩ : ∃ len, ps.length = len := ⟨_, rfl⟩
  have hl0 : 0 < len := by rw [← hlen]; exact List.length_pos_iff.2 h0
  have hl8 : len ≤ 8 := by omega
  rw [hlen] at hg3 ⊢
  have HL : Hid (ps.length = len) := hlen
  clear hv1 hg5 hpl hp8 h0 hlen
  by_cases hn : a1 = 0
  · subst hn
    go_wp2_with fail
    refine (awake3_any w1_ (HG.out.later HB1.out)).mono ?_
    rintro e w2_ ⟨rfl, hb2⟩
    have HB2 : Hid (Below w.heap.size w w2_) := HB1.out.trans (hb2.mono HB1.out.size)
    clear hb2
    go_wp2
    go_ret
    exact ⟨rfl, HB2.out⟩
  have hb1 : (a1 == 0) = false := by simpa using hn
  have hne : ps.reverse ≠ [] := by simpa using HNE.out
  obtain ⟨J, HJ⟩ : ∃ J, Hid (path ps.reverse = J) := ⟨path ps.reverse, rfl⟩
  have hJ : J.size ≤ 1000000 := by
    have h1 := path_size ps.reverse
    have h2 := HPR.out
    rw [HJ.out] at h1
    omega
  have HE : Hid (path (⟨#[116, 111, 112]⟩ :: ps.reverse) ++ ⟨#[62]⟩ ++ told = ⟨#[116, 111, 112, 62]⟩ ++ J ++ ⟨#[62]⟩ ++ told) := by
    unfold Hid
    rw [path_cons _ _ hne, HJ.out, show (⟨#[116, 111, 112, 62]⟩ : ByteArray) = ⟨#[116, 111, 112]⟩ ++ ⟨#[62]⟩ from rfl]
  have HPT : Hid (plen (⟨#[116, 111, 112]⟩ :: ps.reverse) ≤ 1000000) := by
    have h1 := plen_rev ps
    have h2 := HPS.out
    have e3 : (⟨#[116, 111, 112]⟩ : ByteArray).size = 3 := rfl
    unfold Hid
    unfold plen at h1 h2 ⊢
    rw [List.map_cons, List.sum_cons, List.length_cons, e3]
    omega
  have h1 := fun w => run_string_add_sum (P := Tryd.prog) w ⟨#[116, 111, 112, 62]⟩ J (by show 4 + J.size ≤ _; omega)
  have h2 := fun w => run_string_add_sum (P := Tryd.prog) w (⟨#[116, 111, 112, 62]⟩ ++ J) ⟨#[62]⟩ (by rw [ByteArray.size_append]; show 4 + J.size + 1 ≤ _; omega)
  have h3 := fun w => run_string_add_sum (P := Tryd.prog) w (⟨#[116, 111, 112, 62]⟩ ++ J ++ ⟨#[62]⟩) told (by rw [ByteArray.size_append, ByteArray.size_append]; show 4 + J.size + 1 + 17 ≤ _; omega)
  unfold told at h3
  have HT : Hid (told = ⟨#[115, 97, 117, 116, 111, 105, 114, 58, 32, 97, 110, 32, 101, 114, 114, 111, 114]⟩) := rfl
  clear hne
  go_wp2_with fail
  refine (wrap_bad g len cap ps a1 w1_ hn HL.out hl0 hg4 hg3 HC.out).mono ?_
  rintro e w2_ ⟨v2, rfl, hv2, hb2⟩
  have HB2 : Hid (Below w.heap.size w w2_) := HB1.out.trans (hb2.mono HB1.out.size)
  have HV2 : Hid (Errv w2_ a1 ps.reverse v2) := hv2
  have HC2 : Hid (∀ j x, ps[j]? = some x → w2_.cell? ⟨g, j, none⟩ = some (.string x)) := fun j x hj => cell_later hb2 (HC.out j x hj)
  clear hv2
  clear hb2
  obtain ⟨tv, vv, rfl⟩ := HV2.out.iface
  have hbx := below_new w2_ (.cells #[.string ⟨#[116, 111, 112]⟩, .iface tv vv] 39)
  have HP2 : Hid (Ptr (w2_.alloc (.cells #[.string ⟨#[116, 111, 112]⟩, .iface tv vv] 39)) a1 (⟨#[116, 111, 112]⟩ :: ps.reverse) (.pointer (some ⟨w2_.heap.size, 0, none⟩))) := ⟨_, _, rfl, heap_new _ _, HV2.out.later hbx⟩
  have HBX : Hid (Below w2_.heap.size w2_ (w2_.alloc (.cells #[.string ⟨#[116, 111, 112]⟩, .iface tv vv] 39))) := hbx
  clear hbx
  go_wp2_with fail
  refine (error_any a1 ⟨#[116, 111, 112]⟩ ps.reverse _ _ ((HG.out.later HB2.out).later HBX.out) HP2.out HPT.out).mono ?_
  rintro e w3_ ⟨rfl, hb3⟩
  have HB3 : Hid (Below w.heap.size w w3_) := (HB2.out.trans (HBX.out.mono HB2.out.size)).trans (hb3.mono (Nat.le_trans HB2.out.size HBX.out.size))
  have HC3 : Hid (∀ j x, ps[j]? = some x → w3_.cell? ⟨g, j, none⟩ = some (.string x)) := fun j x hj => cell_later hb3 (cell_later HBX.out (HC2.out j x hj))
  have HP3 : Hid (Ptr w3_ a1 (⟨#[116, 111, 112]⟩ :: ps.reverse) (.pointer (some ⟨w2_.heap.size, 0, none⟩))) := HP2.out.later hb3
  clear hb3
  rw [HE.out, HT.out]
  go_wp2_with fail
  refine (refpath_any g len cap ps w3_ HL.out (by omega) HPL.out HC3.out).mono ?_
  rintro e w' ⟨rfl, hw⟩
  subst w'
  rw [HJ.out]
  go_wp2_with fail
  refine (told_any a1 w3_).mono ?_
  rintro e w' ⟨rfl, hw⟩
  subst w'
  rw [HT.out]
  go_wp2_with fail
  refine (unwrap_any a1 ps.reverse _ _ w3_ HP3.out).mono ?_
  rintro e w' ⟨v4, rfl, hv4, hw⟩
  subst w'
  obtain ⟨t4, u4, rfl⟩ := hv4.iface
  clear hv4
  go_wp2_with fail
  refine (awake3_any w3_ (HG.out.later HB3.out)).mono ?_
  rintro e w4_ ⟨rfl, hb4⟩
  have HB4 : Hid (Below w.heap.size w w4_) := HB3.out.trans (hb4.mono HB3.out.size)
  clear hb4
  go_wp2
  go_ret
  exact ⟨rfl, HB4.out⟩

/-! From the call to the statement. -/
set_option maxRecDepth 100000 in
theorem lifted (os : Os) (started : os.Started) (H : Type) (enc : TypeId × Value → H) :
    ReturnsInHanded {} Tryd.checked os 6 .any (fun w args => (Rows.faultTellsSpec.pre enc Tryd.prog Tryd.f6 [] false w args ∧ laidMetH Tryd.prog listed w) ∧ sizedMet enc Tryd.prog Tryd.f6 (OpenSpec.ofChange Rows.faultTellsSpec) false w args)
      (Rows.faultTellsSpec.post enc Tryd.prog Tryd.f6 false true false false) := by
  refine returnsInHanded_of_change_and (C := Tryd.checked) (X := fun w _ => laidMetH Tryd.prog listed w) (fun _ _ _ hh h => h.of_heap hh) Fa.own started (by kernel_rfl) Tryd.func6
    (ChangeSpec.witness_shaped (enc := enc) (C := Tryd.checked) (os := os) (X := fun w _ => laidMetH Tryd.prog listed w) false (World.doorLaid Tryd.prog 400 os) #[.slice none 0 0, .int .i64 0] 8 rfl (World.shaped_of_RefB (by kernel_rfl) (by kernel_rfl)) (by kernel_rfl) (by kernel_rfl) (by kernel_rfl) (door_met os _)) ?_
  intro W base args ds gs before hval0 hW _ _ hL _
  have hval : ∀ (j : Nat) t v, Tryd.f6.params[j]? = some t → args[j]? = some v → Value.okWide Tryd.prog W .any base t v := hval0
  have hW' := hW
  obtain ⟨p, q, hA0, hV, rfl, hfz, hnd⟩ := hW
  have hA : DataW.TrodAll enc Tryd.prog W 0 (fun _ => true) true Tryd.f6.params.toList args.toList ds p := hA0
  rw [Tryd.params6] at hA hval
  obtain ⟨v0, vs0, d0, ds0, p0, q0, hargs, rfl, rfl, h0, r0⟩ := trodAll_cons hA
  obtain ⟨v1, vs1, d1, ds1, p1, q1, rfl, rfl, rfl, h1, r1⟩ := trodAll_cons r0
  obtain ⟨rfl, rfl, rfl⟩ := trodAll_nil r1
  obtain rfl : args = #[v0, v1] := by cases args; simp_all
  obtain ⟨rfl, rfl⟩ := trodVars_none hV
  obtain ⟨a0, len0, cap0, rfl⟩ := okWide_slice Tryd.underlying22 (hval 0 22 v0 rfl rfl)
  have k0 := h0
  have lt0 : ∀ x ∈ p0, x.block < W.heap.size := by obtain ⟨m, hm⟩ := k0; exact DataW.trod_lt m _ _ _ hm
  obtain ⟨z0, w0⟩ : ∃ ss, Strs W a0 len0 ss := by
    obtain ⟨fuel, hf⟩ := h0
    rcases open_strings Tryd.underlying22 Tryd.underlying9 (by kernel_rfl) hf with ⟨hcs, _⟩ | ⟨x, l, c, ss, hcs, _, hl, hm, hz, _, hcell, hwz⟩
    · simp [Value.cells] at hcs
      obtain ⟨rfl, rfl, rfl⟩ := hcs
      exact ⟨[], Strs.none⟩
    · simp [Value.cells] at hcs
      obtain ⟨rfl, rfl, rfl⟩ := hcs
      exact ⟨_, Strs.of hl hm (by simpa using hz) hcell hwz⟩
  obtain ⟨a1, rfl, rfl, rfl, w1⟩ := open_int Tryd.underlying3 (hval 1 3 v1 rfl rfl) h1
  clear hA0 hval0
  refine (walk a0 len0 cap0 z0 a1 W (G.of_laid hL) w0 w1).mono fun e W' ⟨he, bel⟩ => ?_
  subst he
  exact ⟨_, rfl, _, _, _, [], _, [], hW', trodAll_mk1 (shut_bool Tryd.underlying4 _), (trodAll_cons_mk (Below.trod laidOut (by kernel_rfl) (of_decide_eq_true (by kernel_rfl)) k0 bel lt0) (trodAll_cons_mk (shut_int Tryd.underlying3 w1) trodAll_mk0)), rfl, bel.frame _, fun h => by cases h⟩

theorem over : Rows.faultTellsRow.holds Tryd.pinned (OpenSpec.ofChange Rows.faultTellsSpec) :=
  OpenClaim.holds_of_wide 6 Tryd.f6 rfl rfl rfl rfl rfl rfl rfl ⟨rfl, rfl, rfl, rfl, rfl⟩ rfl rfl rfl rfl rfl (by kernel_rfl) Tryd.func6 (by kernel_rfl)
    (of_decide_eq_true (by kernel_rfl)) (by unfold Func.isWrapper; rw [if_neg (of_decide_eq_false (by kernel_rfl))]; exact ⟨rfl, rfl⟩)
    (fun os started H enc _ => lifted os started H enc)
end Go.Proofs.YtiemgdclhjdmlaaDoor.faultTells
namespace Go.Proofs.YtiemgdclhjdmlaaDoor
open Go
set_option maxRecDepth 100000 in
theorem faultTells_holds : Rows.FaultTellsCardSaid :=
  Claim7.holds_tied_plain_at .later [] [.handle] true (true, "6bb8420f3958038eed9cfcd5f39460c47147c0b66445aadddf18d967e68e5430") true
    faultTells.over (fun _ h => by cases h) (by kernel_rfl) (fun _ h => by cases h) faultTells_row_tie rfl ⟨rfl, rfl⟩ (by kernel_rfl) rfl
    (fun f fn hf hfn => by
      obtain rfl : f = 6 := Option.some.inj ((show Tryd.prog.funcNamed Rows.faultTellsRow.func = some 6 by kernel_rfl).symm.trans hf) |>.symm
      obtain rfl : fn = Tryd.f6 := (Option.some.inj (Tryd.func6.symm.trans hfn)).symm
      exact ⟨by kernel_rfl, fun j t ht => by
        rw [Tryd.params6] at ht
        match j, ht with
        | 0, ht =>
          obtain rfl : t = 22 := by simpa using ht.symm
          exact (show Tryd.prog.wantsStandIn 22 = false by kernel_rfl)
        | 1, ht =>
          obtain rfl : t = 3 := by simpa using ht.symm
          exact (show Tryd.prog.wantsStandIn 3 = false by kernel_rfl)
        | j + 2, ht => simp at ht⟩)
    (by kernel_rfl)
#print axioms faultTells_holds
end Go.Proofs.YtiemgdclhjdmlaaDoor
