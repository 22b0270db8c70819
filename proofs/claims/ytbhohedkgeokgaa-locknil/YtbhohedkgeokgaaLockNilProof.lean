/-
  A table that is not there holds nothing: for every call and key LockNil returns true, and its arguments read as before. No conditions.
-/
import Derived.Test.YtbhohedkgeokgaaRows
import Derived.Test.YtbhohedkgeokgaaLkP
import Derived.Test.YtbhohedkgeokgaaLkQ
import Derived.WalkKit
import Derived.ProofKit
import Derived.OpenShut
import Derived.ShutString
import Derived.ChangeOld
import Derived.Below
namespace Go.Proofs.Ytbhohedkgeokgaa.lockNil
open Go.ChangeShapes Go.WideShapes Go.ChangeAt Go.RowKit
open Go.ChangeMaps (open_string shut_string)
set_option linter.unusedSimpArgs false
set_option linter.unusedVariables false

theorem own : ownKnob Try.prog.godebug = none := by kernel_rfl
theorem laidOut : laidOutB Try.prog = true := by kernel_rfl

/-! The law returns true, and writes nothing that was there. -/
set_option maxRecDepth 100000 in
theorem walk (o0 : Lop) (a1 : ByteArray) (w : World) (w0 : o0.ok w) (w1 : a1.size ≤ maxLen) :
    Calls Try.prog 6 #[lopv o0, .string a1] w fun e w' => e = .returned (.bool true) ∧ Below w.heap.size w w' := by
  obtain ⟨kd, id, a, ra, rn, rc, wa, wn, wc, R, W⟩ := o0
  have HB0 : Hid (Below w.heap.size w (w.alloc (.cells #[.int .i64 kd, .int .i64 id.1, .int .u64 id.2, .int .i64 a, .slice ra rn rc, .slice wa wn wc] 34))) := (Below.refl _ _).alloc (Nat.le_refl _) _
  have HX : Hid (∀ W, Below (w.heap.size + 1) (w.alloc (.cells #[.int .i64 kd, .int .i64 id.1, .int .u64 id.2, .int .i64 a, .slice ra rn rc, .slice wa wn wc] 34)) W → W.heap[w.heap.size]? = some (.cells #[.int .i64 kd, .int .i64 id.1, .int .u64 id.2, .int .i64 a, .slice ra rn rc, .slice wa wn wc] 34)) := fun W hW => (hW.block w.heap.size (by omega)).trans (heap_alloc_new w _)
  have HSZ : Hid ((w.alloc (.cells #[.int .i64 kd, .int .i64 id.1, .int .u64 id.2, .int .i64 a, .slice ra rn rc, .slice wa wn wc] 34)).heap.size = w.heap.size + 1) := World.size_alloc _ _
  clear w0
  go_enter Try.func6, Try.ntmps6
  go_upto_region 2 with fail
  generalize w.alloc (.cells #[.int .i64 kd, .int .i64 id.1, .int .u64 id.2, .int .i64 a, .slice ra rn rc, .slice wa wn wc] 34) = w1 at *
  have HB1 : Hid (Below (w.heap.size + 1) w1 w1) := Below.refl _ _
  have c1 := cell_of_heap (i := 1) (HX.out w1 HB1.out) rfl
  have c2 := cell_of_heap (i := 2) (HX.out w1 HB1.out) rfl
  have c3 := cell_of_heap (i := 3) (HX.out w1 HB1.out) rfl
  go_wp2_with fail
  refine (nil_writer a1 a w1).mono ?_
  clear c1 c2 c3
  rintro e w2 ⟨rfl, hb⟩
  have HB2 : Hid (Below (w.heap.size + 1) w1 w2) := HB1.out.trans (hb.mono (by rw [← HSZ.out]; exact HB1.out.size))
  clear hb
  have HB3 : Hid (Below (w.heap.size + 1) w1 (w2.alloc (.cells #[.int .i64 0, .int .u64 0] 31))) := HB2.out.alloc (by rw [← HSZ.out]; exact HB2.out.size) _
  go_upto_region 3 with fail
  generalize w2.alloc (.cells #[.int .i64 0, .int .u64 0] 31) = w3 at *
  have c1 := cell_of_heap (i := 1) (HX.out w3 HB3.out) rfl
  have c2 := cell_of_heap (i := 2) (HX.out w3 HB3.out) rfl
  have c3 := cell_of_heap (i := 3) (HX.out w3 HB3.out) rfl
  go_wp2_with fail
  refine (nil_take id a w3).mono ?_
  clear c1 c2 c3
  rintro e w4 ⟨rfl, hb⟩
  have HB4 : Hid (Below (w.heap.size + 1) w1 w4) := HB3.out.trans (hb.mono (by rw [← HSZ.out]; exact HB3.out.size))
  clear hb
  have c1 := cell_of_heap (i := 1) (HX.out w4 HB4.out) rfl
  have c2 := cell_of_heap (i := 2) (HX.out w4 HB4.out) rfl
  have c3 := cell_of_heap (i := 3) (HX.out w4 HB4.out) rfl
  go_wp2_with fail
  refine (nil_free id a w4).mono ?_
  clear c1 c2 c3
  rintro e w5 ⟨rfl, hb⟩
  have HB5 : Hid (Below (w.heap.size + 1) w1 w5) := HB4.out.trans (hb.mono (by rw [← HSZ.out]; exact HB4.out.size))
  clear hb
  have c1 := cell_of_heap (i := 1) (HX.out w5 HB5.out) rfl
  have c2 := cell_of_heap (i := 2) (HX.out w5 HB5.out) rfl
  have c3 := cell_of_heap (i := 3) (HX.out w5 HB5.out) rfl
  go_wp2_with fail
  refine (nil_holds id w5).mono ?_
  clear c1 c2 c3
  rintro e w6 ⟨rfl, hb⟩
  have HB6 : Hid (Below (w.heap.size + 1) w1 w6) := HB5.out.trans (hb.mono (by rw [← HSZ.out]; exact HB5.out.size))
  clear hb
  have c1 := cell_of_heap (i := 1) (HX.out w6 HB6.out) rfl
  have c2 := cell_of_heap (i := 2) (HX.out w6 HB6.out) rfl
  have c3 := cell_of_heap (i := 3) (HX.out w6 HB6.out) rfl
  go_wp2_with fail
  refine (nil_busy a1 true w6).mono ?_
  clear c1 c2 c3
  rintro e w7 ⟨rfl, hb⟩
  have HB7 : Hid (Below (w.heap.size + 1) w1 w7) := HB6.out.trans (hb.mono (by rw [← HSZ.out]; exact HB6.out.size))
  clear hb
  go_wp2_with fail
  refine (nil_len w7).mono ?_
  rintro e w8 ⟨rfl, hw⟩
  subst hw
  go_wp2_with fail
  refine (awake_any w8).mono ?_
  rintro e w9 ⟨rfl, hb⟩
  have HB9 : Hid (Below (w.heap.size + 1) w1 w9) := HB7.out.trans (hb.mono (by rw [← HSZ.out]; exact HB7.out.size))
  clear hb
  go_wp2
  go_ret
  exact ⟨rfl, HB0.out.trans (HB9.out.mono (by omega))⟩

/-! From the call to the statement. -/
set_option maxRecDepth 100000 in
theorem lifted (os : Os) (started : os.Started) (H : Type) (enc : TypeId × Value → H) :
    ReturnsInHanded {} Try.checked os 6 .any (Rows.lockNilSpec.pre6 enc Try.prog Try.f6 Rows.lockNilRow.domain false) (Rows.lockNilSpec.post enc Try.prog Try.f6 false true false false) := by
  refine returnsInHanded_of_change (C := Try.checked) own started (by kernel_rfl) Try.func6
    (ChangeSpec.witness6 (enc := enc) (C := Try.checked) false ⟨#[], #[.agg #[.int .i64 0, .int .i64 0, .int .u64 0, .int .i64 0, .slice none 0 0, .slice none 0 0], .string ByteArray.empty], []⟩ 8 (by kernel_rfl) (by kernel_rfl) (by kernel_rfl) (by kernel_rfl)) ?_
  intro W base args ds gs before hval0 hW hcnd _
  have hval : ∀ (j : Nat) t v, Try.f6.params[j]? = some t → args[j]? = some v → Value.okWide Try.prog W .any base t v := hval0
  have hW' := hW
  obtain ⟨p, q, hA0, hV, rfl, hfz, hnd⟩ := hW
  have hA : DataW.TrodAll enc Try.prog W 0 (fun _ => true) true Try.f6.params.toList args.toList ds p := hA0
  rw [Try.params6] at hA hval
  obtain ⟨v0, vs0, d0, ds0, p0, q0, hargs, rfl, rfl, h0, r0⟩ := trodAll_cons hA
  obtain ⟨v1, vs1, d1, ds1, p1, q1, rfl, rfl, rfl, h1, r1⟩ := trodAll_cons r0
  obtain ⟨rfl, rfl, rfl⟩ := trodAll_nil r1
  obtain rfl : args = #[v0, v1] := by cases args; simp_all
  obtain ⟨rfl, rfl⟩ := trodVars_none hV
  have k0 := h0
  have lt0 : ∀ x ∈ p0, x.block < W.heap.size := by obtain ⟨m, hm⟩ := k0; exact DataW.trod_lt m _ _ _ hm
  obtain ⟨o0, rfl, w0⟩ := open_lop (hval 0 34 v0 rfl rfl) h0
  obtain ⟨a1, rfl, rfl, rfl, w1⟩ := open_string Try.underlying9 (hval 1 9 v1 rfl rfl) h1
  clear hA0 hval0
  refine (walk o0 a1 W w0 w1).mono fun e W' ⟨he, bel⟩ => ?_
  subst he
  exact ⟨_, rfl, _, _, _, [], _, [], hW', trodAll_mk1 (shut_bool Try.underlying4 _), (trodAll_cons_mk (Below.trod laidOut (by kernel_rfl) (of_decide_eq_true (by kernel_rfl)) k0 bel lt0) (trodAll_cons_mk (shut_string Try.underlying9 w1) trodAll_mk0)), rfl, bel.frame _, fun h => by cases h⟩

theorem over : Rows.lockNilRow.holds Try.pinned (OpenSpec.ofChange Rows.lockNilSpec) :=
  OpenClaim.holds_of_wide 6 Try.f6 rfl rfl rfl rfl rfl rfl rfl ⟨rfl, rfl, rfl, rfl, rfl⟩ rfl rfl rfl rfl rfl (by kernel_rfl) Try.func6 (by kernel_rfl)
    (of_decide_eq_true (by kernel_rfl)) (by unfold Func.isWrapper; first | (rw [if_pos (by decide +kernel)]; kernel_rfl) | (rw [if_neg (by decide +kernel)]; exact ⟨rfl, rfl⟩))
    (fun os started H enc _ => lifted os started H enc)
end Go.Proofs.Ytbhohedkgeokgaa.lockNil
namespace Go.Proofs.Ytbhohedkgeokgaa
theorem lockNil_holds : Rows.LockNilSaid := lockNil.over
#print axioms lockNil_holds
end Go.Proofs.Ytbhohedkgeokgaa
