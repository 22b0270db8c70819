/-
  For every call: a space that is not there has nothing (the law SpaceNil returns true and leaves its argument as it was).
-/
import Derived.Test.YtmahigfamgbhfaaRows
import Derived.Test.YtmahigfamgbhfaaSpF
import Derived.WalkKit
import Derived.ProofKit
import Derived.OpenShut
import Derived.ShutString
import Derived.ChangeOld
import Derived.Below
namespace Go.Proofs.Ytmahigfamgbhfaa.spaceNil
open Go.ChangeShapes Go.WideShapes Go.ChangeAt Go.RowKit
open Go.ChangeMaps (open_string shut_string)
set_option linter.unusedSimpArgs false
set_option linter.unusedVariables false

theorem own : ownKnob Try.prog.godebug = none := by kernel_rfl
theorem laidOut : laidOutB Try.prog = true := by kernel_rfl

/-! The law returns true, and writes nothing that was there. -/
set_option maxRecDepth 100000 in
set_option maxHeartbeats 2000000 in
theorem walk (kd0 : Int) (ky0 : ByteArray) (p0 : Int) (vl0 : ByteArray) (gn0 : Bool) (w : World) (hkd0 : (Lit.int .i64 kd0).wf = true) (hky0 : ky0.size ≤ maxLen) (hp0 : (Lit.int .i64 p0).wf = true) (hvl0 : vl0.size ≤ maxLen) :
    Calls Try.prog 10 #[sop kd0 ky0 p0 vl0 gn0] w fun e w' => e = .returned (.bool true) ∧ Below w.heap.size w w' := by
  have HB0 : Hid (Below w.heap.size w (w.alloc (.cells #[.int .i64 kd0, .string ky0, .int .i64 p0, .string vl0, .bool gn0] 61))) := (Below.refl _ _).alloc (Nat.le_refl _) _
  have HX : Hid (∀ W, Below (w.heap.size + 1) (w.alloc (.cells #[.int .i64 kd0, .string ky0, .int .i64 p0, .string vl0, .bool gn0] 61)) W → W.heap[w.heap.size]? = some (.cells #[.int .i64 kd0, .string ky0, .int .i64 p0, .string vl0, .bool gn0] 61)) := fun W hW => (hW.block w.heap.size (by omega)).trans (heap_alloc_new w _)
  have HSZ : Hid ((w.alloc (.cells #[.int .i64 kd0, .string ky0, .int .i64 p0, .string vl0, .bool gn0] 61)).heap.size = w.heap.size + 1) := World.size_alloc _ _
  go_enter Try.func10, Try.ntmps10
  go_upto_region 2 with fail
  generalize w.alloc (.cells #[.int .i64 kd0, .string ky0, .int .i64 p0, .string vl0, .bool gn0] 61) = w1 at *
  have HB1 : Hid (Below (w.heap.size + 1) w1 w1) := Below.refl _ _
  have c1 := cell_of_heap (i := 1) (HX.out w1 HB1.out) rfl
  have c2 := cell_of_heap (i := 2) (HX.out w1 HB1.out) rfl
  have c3 := cell_of_heap (i := 3) (HX.out w1 HB1.out) rfl
  have c4 := cell_of_heap (i := 4) (HX.out w1 HB1.out) rfl
  go_wp2_with fail
  refine (sundo_nil p0 w1).mono ?_
  clear c1 c2 c3 c4
  rintro e w2 ⟨rfl, hb⟩
  have HB2 : Hid (Below (w.heap.size + 1) w1 w2) := HB1.out.trans (hb.mono (by rw [← HSZ.out]; exact HB1.out.size))
  clear hb
  have c1 := cell_of_heap (i := 1) (HX.out w2 HB2.out) rfl
  have c2 := cell_of_heap (i := 2) (HX.out w2 HB2.out) rfl
  have c3 := cell_of_heap (i := 3) (HX.out w2 HB2.out) rfl
  have c4 := cell_of_heap (i := 4) (HX.out w2 HB2.out) rfl
  go_wp2_with fail
  refine (sclean_nil p0 w2).mono ?_
  clear c1 c2 c3 c4
  rintro e w3 ⟨rfl, hb⟩
  have HB3 : Hid (Below (w.heap.size + 1) w1 w3) := HB2.out.trans (hb.mono (by rw [← HSZ.out]; exact HB2.out.size))
  clear hb
  have c1 := cell_of_heap (i := 1) (HX.out w3 HB3.out) rfl
  have c2 := cell_of_heap (i := 2) (HX.out w3 HB3.out) rfl
  have c3 := cell_of_heap (i := 3) (HX.out w3 HB3.out) rfl
  have c4 := cell_of_heap (i := 4) (HX.out w3 HB3.out) rfl
  go_wp2_with fail
  refine (sread_nil ky0 p0 w3 hky0).mono ?_
  clear c1 c2 c3 c4
  rintro e w4 ⟨rfl, hb⟩
  have HB4 : Hid (Below (w.heap.size + 1) w1 w4) := HB3.out.trans (hb.mono (by rw [← HSZ.out]; exact HB3.out.size))
  clear hb
  have HB5 : Hid (Below (w.heap.size + 1) w1 (w4.alloc (.cells #[.int .i64 0, .int .u64 0, .string ⟨#[]⟩, .bool false] 36))) := HB4.out.alloc (by rw [← HSZ.out]; exact HB4.out.size) _
  go_upto_region 5 with fail
  generalize hw5 : w4.alloc (.cells #[.int .i64 Ver.zero.pos, .int .u64 (Ver.zero.num : Nat), .string Ver.zero.val, .bool Ver.zero.gone] 36) = w5
  have HB5 : Hid (Below (w.heap.size + 1) w1 w5) := by rw [← hw5]; exact HB5.out
  clear hw5
  have c1 := cell_of_heap (i := 1) (HX.out w5 HB5.out) rfl
  have c2 := cell_of_heap (i := 2) (HX.out w5 HB5.out) rfl
  have c3 := cell_of_heap (i := 3) (HX.out w5 HB5.out) rfl
  have c4 := cell_of_heap (i := 4) (HX.out w5 HB5.out) rfl
  go_wp2_with fail
  refine (sput_nil ky0 p0 vl0 gn0 w5).mono ?_
  rintro e w6 ⟨rfl, hw⟩
  subst w6
  go_wp2_with fail
  refine (snum_nil ky0 w5 hky0).mono ?_
  clear c1 c2 c3 c4
  rintro e w6 ⟨rfl, hb⟩
  have HB6 : Hid (Below (w.heap.size + 1) w1 w6) := HB5.out.trans (hb.mono (by rw [← HSZ.out]; exact HB5.out.size))
  clear hb
  go_wp2_with fail
  refine (skeys_nil w6).mono ?_
  rintro e w7 ⟨rfl, hb⟩
  have HB7 : Hid (Below (w.heap.size + 1) w1 w7) := HB6.out.trans (hb.mono (by rw [← HSZ.out]; exact HB6.out.size))
  clear hb
  have c1 := cell_of_heap (i := 1) (HX.out w7 HB7.out) rfl
  have c2 := cell_of_heap (i := 2) (HX.out w7 HB7.out) rfl
  have c3 := cell_of_heap (i := 3) (HX.out w7 HB7.out) rfl
  have c4 := cell_of_heap (i := 4) (HX.out w7 HB7.out) rfl
  go_wp2_with fail
  refine (sdirty_nil p0 w7).mono ?_
  clear c1 c2 c3 c4
  rintro e w8 ⟨rfl, hb⟩
  have HB8 : Hid (Below (w.heap.size + 1) w1 w8) := HB7.out.trans (hb.mono (by rw [← HSZ.out]; exact HB7.out.size))
  clear hb
  go_wp2_with fail
  refine (awake10_any w8).mono ?_
  rintro e w9 ⟨rfl, hb⟩
  have HB9 : Hid (Below (w.heap.size + 1) w1 w9) := HB8.out.trans (hb.mono (by rw [← HSZ.out]; exact HB8.out.size))
  clear hb
  go_wp2
  go_ret
  exact ⟨rfl, HB0.out.trans (HB9.out.mono (by omega))⟩

/-! From the call to the statement. -/
set_option maxRecDepth 100000 in
theorem lifted (os : Os) (started : os.Started) (H : Type) (enc : TypeId × Value → H) :
    ReturnsInHanded {} Try.checked os 10 .any (Rows.spaceNilSpec.pre6 enc Try.prog Try.f10 Rows.spaceNilRow.domain false) (Rows.spaceNilSpec.post enc Try.prog Try.f10 false true false false) := by
  refine returnsInHanded_of_change (C := Try.checked) own started (by kernel_rfl) Try.func10
    (ChangeSpec.witness6 (enc := enc) (C := Try.checked) false ⟨#[], #[.agg #[.int .i64 0, .string ByteArray.empty, .int .i64 0, .string ByteArray.empty, .bool false]], []⟩ 8 (by kernel_rfl) (by kernel_rfl) (by kernel_rfl) (by kernel_rfl)) ?_
  intro W base args ds gs before hval0 hW hcnd _
  have hval : ∀ (j : Nat) t v, Try.f10.params[j]? = some t → args[j]? = some v → Value.okWide Try.prog W .any base t v := hval0
  have hW' := hW
  obtain ⟨p, q, hA0, hV, rfl, hfz, hnd⟩ := hW
  have hA : DataW.TrodAll enc Try.prog W 0 (fun _ => true) true Try.f10.params.toList args.toList ds p := hA0
  rw [Try.params10] at hA hval
  obtain ⟨v0, vs0, d0, ds0, p0, q0, hargs, rfl, rfl, h0, r0⟩ := trodAll_cons hA
  obtain ⟨rfl, rfl, rfl⟩ := trodAll_nil r0
  obtain rfl : args = #[v0] := by cases args; simp_all
  obtain ⟨rfl, rfl⟩ := trodVars_none hV
  have k0 := h0
  have lt0 : ∀ x ∈ p0, x.block < W.heap.size := by obtain ⟨m, hm⟩ := k0; exact DataW.trod_lt m _ _ _ hm
  obtain ⟨kd0, ky0, pp0, vl0, gn0, rfl, hkd0, hky0, hpp0, hvl0⟩ := open_sop (hval 0 61 v0 rfl rfl) h0
  clear hA0 hval0
  refine (walk kd0 ky0 pp0 vl0 gn0 W hkd0 hky0 hpp0 hvl0).mono fun e W' ⟨he, bel⟩ => ?_
  subst he
  exact ⟨_, rfl, _, _, _, [], _, [], hW', trodAll_mk1 (shut_bool Try.underlying4 _), (trodAll_cons_mk (Below.trod laidOut (by kernel_rfl) (of_decide_eq_true (by kernel_rfl)) k0 bel lt0) trodAll_mk0), rfl, bel.frame _, fun h => by cases h⟩

theorem over : Rows.spaceNilRow.holds Try.pinned (OpenSpec.ofChange Rows.spaceNilSpec) :=
  OpenClaim.holds_of_wide 10 Try.f10 rfl rfl rfl rfl rfl rfl rfl ⟨rfl, rfl, rfl, rfl, rfl⟩ rfl rfl rfl rfl rfl (by kernel_rfl) Try.func10 (by kernel_rfl)
    (of_decide_eq_true (by kernel_rfl)) (by unfold Func.isWrapper; first | (rw [if_pos (by decide +kernel)]; kernel_rfl) | (rw [if_neg (by decide +kernel)]; exact ⟨rfl, rfl⟩))
    (fun os started H enc _ => lifted os started H enc)
end Go.Proofs.Ytmahigfamgbhfaa.spaceNil
namespace Go.Proofs.Ytmahigfamgbhfaa
theorem spaceNil_holds : Rows.SpaceNilSaid := spaceNil.over
#print axioms spaceNil_holds
end Go.Proofs.Ytmahigfamgbhfaa
