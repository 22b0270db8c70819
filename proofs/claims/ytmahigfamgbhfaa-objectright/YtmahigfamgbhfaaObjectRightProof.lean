/-
  For every list of versions, every two numbers and every value: whether the first twenty versions are an object's is as the chapter says, and with others nothing is done (the law ObjectRight returns true and leaves its arguments as they were).
-/
import Derived.Test.YtmahigfamgbhfaaRows
import Derived.Test.YtmahigfamgbhfaaObO
import Derived.Test.YtmahigfamgbhfaaObC
import Derived.Test.YtmahigfamgbhfaaObH
import Derived.Test.YtmahigfamgbhfaaObJ
import Derived.WalkKit
import Derived.ProofKit
import Derived.OpenShut
import Derived.ShutString
import Derived.ChangeOld
import Derived.Below
namespace Go.Proofs.Ytmahigfamgbhfaa.objectRight
open Go.ChangeShapes Go.WideShapes Go.ChangeAt Go.RowKit
open Go.ChangeMaps (open_string shut_string)
set_option linter.unusedSimpArgs false
set_option linter.unusedVariables false

theorem own : ownKnob Try.prog.godebug = none := by kernel_rfl
theorem laidOut : laidOutB Try.prog = true := by kernel_rfl

theorem zero_value : Ver.zero.value = .agg #[.int .i64 0, .int .u64 0, .string ⟨#[]⟩, .bool false] := rfl
theorem fld25 (a : Option Addr) (n c : Nat) (w : World) : (Instr.field 25 (.agg #[.slice a n c]) 0).run Try.prog w = .ok (.slice a n c) w := by kernel_rfl

/-! The law returns true, and writes nothing that was there. -/
set_option maxRecDepth 100000 in
set_option maxHeartbeats 4000000 in
theorem walk (a0 : Option Addr) (len0 cap0 : Nat) (z0 : List Ver) (a1 : Int) (a2 : Int) (a3 : ByteArray) (w : World) (w0 : VRow w a0 len0 z0) (w1 : (Lit.int .i64 a1).wf = true) (w2 : (Lit.int .i64 a2).wf = true) (w3 : a3.size ≤ maxLen) :
    Calls Try.prog 3 #[.slice a0 len0 cap0, .int .i64 a1, .int .i64 a2, .string a3] w fun e w' => e = .returned (.bool true) ∧ Below w.heap.size w w' := by
  have hshort : (z0.take 20).length ≤ 20 := by simp; omega
  have h1 := ours9_any a0 len0 cap0 z0 w w0
  generalize z0.take 20 = l at *
  have hf25 := fld25
  go_enter Try.func3, Try.ntmps3
  go_wp2_with fail
  refine h1.mono ?_
  clear h1
  rintro e w1 ⟨u1, rfl, ho1, hb1⟩
  obtain ⟨ua, un, uc, rfl⟩ := ho1.isSlice
  have hB2 : Below w1.heap.size w1 (w1.alloc (.cells #[.slice ua un uc] 25)) := (Below.refl _ _).alloc (Nat.le_refl _) _
  have HB2 : Hid (Below w.heap.size w (w1.alloc (.cells #[.slice ua un uc] 25))) := hb1.trans (hB2.mono hb1.size)
  have HO2 : Hid (Ob (w1.alloc (.cells #[.slice ua un uc] 25)) (.slice ua un uc) l) := ho1.later hB2
  have HV2 : Hid (VarO (w1.alloc (.cells #[.slice ua un uc] 25)) w1.heap.size (.slice ua un uc)) := heap_alloc_new w1 _
  clear hB2 hb1 ho1 w0
  go_upto_region 2 with fail
  generalize w1.alloc (.cells #[.slice ua un uc] 25) = w2 at *
  generalize w1.heap.size = p9 at *
  have q2 := HV2.out.cell
  go_wp2_with fail
  refine (plain9_any _ l w2 HO2.out (by omega)).mono ?_
  rintro e w3 ⟨v3, rfl, ho3, hb3⟩
  obtain ⟨b3, c3, rfl, hr3, -⟩ := ho3.slice
  have HB3 : Hid (Below w2.heap.size w2 w3) := hb3
  clear ho3 hb3
  go_wp2_with fail
  refine (ref_right_any9 b3 l.length c3 l w3 hr3).mono ?_
  rintro e w4 ⟨rfl, hb4⟩
  have HB4 : Hid (Below w2.heap.size w2 w4) := HB3.out.trans (hb4.mono HB3.out.size)
  have q4 := (HV2.out.later HB4.out).cell
  obtain ⟨xa, xc, xe, hvr, -⟩ := HO2.out.later HB4.out
  simp only [Value.slice.injEq] at xe
  obtain ⟨rfl, rfl, rfl⟩ := xe
  have hR := right_any ua l.length uc l w4 hvr
  clear hb4 hr3 hvr q2
  go_wp2_with fail
  refine hR.mono ?_
  clear hR
  rintro e w5 ⟨rfl, hb5⟩
  have HB5 : Hid (Below w2.heap.size w2 w5) := HB4.out.trans (hb5.mono HB4.out.size)
  have q5 := (HV2.out.later HB5.out).cell
  clear hb5 q4
  cases hr : rightL l
  · have HO5 := HO2.out.later HB5.out
    have hP := put_wrong _ l a2 a3 false w5 HO5 hr
    clear HO5
    go_wp2_with fail
    refine hP.mono ?_
    clear hP
    rintro e w6 ⟨rfl, hb6⟩
    have HB6 : Hid (Below w2.heap.size w2 w6) := HB5.out.trans (hb6.mono HB5.out.size)
    have HB7 : Hid (Below w2.heap.size w2 (w6.alloc (.cells #[.slice none 0 0] 25))) := HB6.out.alloc HB6.out.size _
    have HP7 : Hid (VarO (w6.alloc (.cells #[.slice none 0 0] 25)) w6.heap.size (.slice none 0 0)) := heap_alloc_new w6 _
    clear hb6 q5
    go_upto_region 8 with fail
    generalize w6.alloc (.cells #[.slice none 0 0] 25) = w7 at *
    generalize w6.heap.size = p11 at *
    have q7 := (HV2.out.later HB7.out).cell
    have h7 := read_wrong _ l a1 w7 (HO2.out.later HB7.out) hr
    rw [zero_value] at h7
    go_wp2_with fail
    refine h7.mono ?_
    clear h7
    rintro e w8 ⟨rfl, hb8⟩
    have HB8 : Hid (Below w2.heap.size w2 w8) := HB7.out.trans (hb8.mono HB7.out.size)
    have HP8 : Hid (VarO w8 p11 (.slice none 0 0)) := HP7.out.later hb8
    have hbx : Below w8.heap.size w8 (w8.alloc (.cells #[.int .i64 0, .int .u64 0, .string ⟨#[]⟩, .bool false] 36)) := (Below.refl _ _).alloc (Nat.le_refl _) _
    have HB9 : Hid (Below w2.heap.size w2 (w8.alloc (.cells #[.int .i64 0, .int .u64 0, .string ⟨#[]⟩, .bool false] 36))) := HB8.out.trans (hbx.mono HB8.out.size)
    have HP9 : Hid (VarO (w8.alloc (.cells #[.int .i64 0, .int .u64 0, .string ⟨#[]⟩, .bool false] 36)) p11 (.slice none 0 0)) := HP8.out.later hbx
    have HX9 : Hid (VarV (w8.alloc (.cells #[.int .i64 0, .int .u64 0, .string ⟨#[]⟩, .bool false] 36)) w8.heap.size 36 Ver.zero) := heap_alloc_new w8 _
    clear hb8 hbx q7 HP7 HP8
    go_upto_region 9 with fail
    generalize w8.alloc (.cells #[.int .i64 0, .int .u64 0, .string ⟨#[]⟩, .bool false] 36) = w9 at *
    generalize w8.heap.size = p13 at *
    have q9 := (HV2.out.later HB9.out).cell
    have r9 := HP9.out.cell
    obtain ⟨x0, x1, x2, x3⟩ : w9.cell? ⟨p13, 0, none⟩ = some (.int .i64 0) ∧ w9.cell? ⟨p13, 1, none⟩ = some (.int .u64 0) ∧ w9.cell? ⟨p13, 2, none⟩ = some (.string ⟨#[]⟩) ∧ w9.cell? ⟨p13, 3, none⟩ = some (.bool false) := HX9.out.cells
    have h9 := lastm_wrong _ l w9 (HO2.out.later HB9.out) hr
    rw [zero_value] at h9
    go_wp2_with fail
    refine h9.mono ?_
    clear h9 r9 x0 x1 x2 x3 q9
    rintro e w10 ⟨rfl, hb10⟩
    have HB10 : Hid (Below w2.heap.size w2 w10) := HB9.out.trans (hb10.mono HB9.out.size)
    have q10 := (HV2.out.later HB10.out).cell
    have h10 := dirty_wrong _ l a1 w10 (HO2.out.later HB10.out) hr
    clear hb10
    go_wp2_with fail
    refine h10.mono ?_
    clear h10 q10
    rintro e w11 ⟨rfl, hb11⟩
    have HB11 : Hid (Below w2.heap.size w2 w11) := HB10.out.trans (hb11.mono HB10.out.size)
    have q11 := (HV2.out.later HB11.out).cell
    have h11 := undo_wrong _ l a1 w11 (HO2.out.later HB11.out) hr
    clear hb11
    go_wp2_with fail
    refine h11.mono ?_
    clear h11 q11
    rintro e w12 ⟨rfl, hb12⟩
    have HB12 : Hid (Below w2.heap.size w2 w12) := HB11.out.trans (hb12.mono HB11.out.size)
    have q12 := (HV2.out.later HB12.out).cell
    have h12 := clean_wrong _ l a1 w12 (HO2.out.later HB12.out) hr
    clear hb12
    go_wp2_with fail
    refine h12.mono ?_
    clear h12 q12
    rintro e w13 ⟨rfl, hb13⟩
    have HB13 : Hid (Below w2.heap.size w2 w13) := HB12.out.trans (hb13.mono HB12.out.size)
    clear hb13
    go_wp2_with fail
    refine (awake9_any w13).mono ?_
    rintro e w14 ⟨rfl, hb14⟩
    go_wp2
    go_ret
    exact ⟨rfl, HB2.out.trans ((HB13.out.trans (hb14.mono HB13.out.size)).mono HB2.out.size)⟩
  · go_wp2_with fail
    refine (awake9_any w5).mono ?_
    rintro e w6 ⟨rfl, hb6⟩
    go_wp2
    go_ret
    exact ⟨rfl, HB2.out.trans ((HB5.out.trans (hb6.mono HB5.out.size)).mono HB2.out.size)⟩

/-! From the call to the statement. -/
set_option maxRecDepth 100000 in
theorem lifted (os : Os) (started : os.Started) (H : Type) (enc : TypeId × Value → H) :
    ReturnsInHanded {} Try.checked os 3 .any (Rows.objectRightSpec.pre6 enc Try.prog Try.f3 Rows.objectRightRow.domain false) (Rows.objectRightSpec.post enc Try.prog Try.f3 false true false false) := by
  refine returnsInHanded_of_change (C := Try.checked) own started (by kernel_rfl) Try.func3
    (ChangeSpec.witness6 (enc := enc) (C := Try.checked) false ⟨#[], #[.slice none 0 0, .int .i64 0, .int .i64 0, .string ByteArray.empty], []⟩ 8 (by kernel_rfl) (by kernel_rfl) (by kernel_rfl) (by kernel_rfl)) ?_
  intro W base args ds gs before hval0 hW hcnd _
  have hval : ∀ (j : Nat) t v, Try.f3.params[j]? = some t → args[j]? = some v → Value.okWide Try.prog W .any base t v := hval0
  have hW' := hW
  obtain ⟨p, q, hA0, hV, rfl, hfz, hnd⟩ := hW
  have hA : DataW.TrodAll enc Try.prog W 0 (fun _ => true) true Try.f3.params.toList args.toList ds p := hA0
  rw [Try.params3] at hA hval
  obtain ⟨v0, vs0, d0, ds0, p0, q0, hargs, rfl, rfl, h0, r0⟩ := trodAll_cons hA
  obtain ⟨v1, vs1, d1, ds1, p1, q1, rfl, rfl, rfl, h1, r1⟩ := trodAll_cons r0
  obtain ⟨v2, vs2, d2, ds2, p2, q2, rfl, rfl, rfl, h2, r2⟩ := trodAll_cons r1
  obtain ⟨v3, vs3, d3, ds3, p3, q3, rfl, rfl, rfl, h3, r3⟩ := trodAll_cons r2
  obtain ⟨rfl, rfl, rfl⟩ := trodAll_nil r3
  obtain rfl : args = #[v0, v1, v2, v3] := by cases args; simp_all
  obtain ⟨rfl, rfl⟩ := trodVars_none hV
  obtain ⟨a0, len0, cap0, rfl⟩ := okWide_slice Try.underlying22 (hval 0 22 v0 rfl rfl)
  have k0 := h0
  have lt0 : ∀ x ∈ p0, x.block < W.heap.size := by obtain ⟨m, hm⟩ := k0; exact DataW.trod_lt m _ _ _ hm
  obtain ⟨z0, w0⟩ := open_vers h0
  obtain ⟨a1, rfl, rfl, rfl, w1⟩ := open_int Try.underlying3 (hval 1 3 v1 rfl rfl) h1
  obtain ⟨a2, rfl, rfl, rfl, w2⟩ := open_int Try.underlying3 (hval 2 3 v2 rfl rfl) h2
  obtain ⟨a3, rfl, rfl, rfl, w3⟩ := open_string Try.underlying9 (hval 3 9 v3 rfl rfl) h3
  clear hA0 hval0
  refine (walk a0 len0 cap0 z0 a1 a2 a3 W w0 w1 w2 w3).mono fun e W' ⟨he, bel⟩ => ?_
  subst he
  exact ⟨_, rfl, _, _, _, [], _, [], hW', trodAll_mk1 (shut_bool Try.underlying4 _), (trodAll_cons_mk (Below.trod laidOut (by kernel_rfl) (of_decide_eq_true (by kernel_rfl)) k0 bel lt0) (trodAll_cons_mk (shut_int Try.underlying3 w1) (trodAll_cons_mk (shut_int Try.underlying3 w2) (trodAll_cons_mk (shut_string Try.underlying9 w3) trodAll_mk0)))), rfl, bel.frame _, fun h => by cases h⟩

theorem over : Rows.objectRightRow.holds Try.pinned (OpenSpec.ofChange Rows.objectRightSpec) :=
  OpenClaim.holds_of_wide 3 Try.f3 rfl rfl rfl rfl rfl rfl rfl ⟨rfl, rfl, rfl, rfl, rfl⟩ rfl rfl rfl rfl rfl (by kernel_rfl) Try.func3 (by kernel_rfl)
    (of_decide_eq_true (by kernel_rfl)) (by unfold Func.isWrapper; first | (rw [if_pos (by decide +kernel)]; kernel_rfl) | (rw [if_neg (by decide +kernel)]; exact ⟨rfl, rfl⟩))
    (fun os started H enc _ => lifted os started H enc)
end Go.Proofs.Ytmahigfamgbhfaa.objectRight
namespace Go.Proofs.Ytmahigfamgbhfaa
theorem objectRight_holds : Rows.ObjectRightSaid := objectRight.over
#print axioms objectRight_holds
end Go.Proofs.Ytmahigfamgbhfaa
