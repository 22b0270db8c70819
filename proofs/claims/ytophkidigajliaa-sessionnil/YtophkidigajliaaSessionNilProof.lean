/-
  SessionNil (P13.1): a table that is not there has no slots, for any ID and any number; the chapter's example is as it says. No condition.
-/
import Derived.Test.YtophkidigajliaaRows
import Derived.Test.YtophkidigajliaaSeP
import Derived.Test.YtophkidigajliaaSeQ
import Derived.WalkKit
import Derived.ProofKit
import Derived.OpenShut
import Derived.ShutString
import Derived.ChangeOld
import Derived.Below
namespace Go.Proofs.Ytophkidigajliaa.sessionNil
open Go.ChangeShapes Go.WideShapes Go.ChangeAt Go.RowKit
open Go.ChangeMaps (open_string shut_string)
set_option linter.unusedSimpArgs false
set_option linter.unusedVariables false

theorem own : ownKnob Try.prog.godebug = none := by kernel_rfl
theorem laidOut : laidOutB Try.prog = true := by kernel_rfl

/-! The law returns true, and writes nothing that was there. -/
set_option maxRecDepth 100000 in
theorem walk (i0 : Id) (a1 : Int) (w : World) (w0 : (Lit.int .i64 i0.1).wf = true ∧ (Lit.int .u64 i0.2).wf = true) (w1 : (Lit.int .i64 a1).wf = true) :
    Calls Try.prog 6 #[idv i0, .int .i64 a1] w fun e w' => e = .returned (.bool true) ∧ Below w.heap.size w w' := by
  obtain ⟨c, s⟩ := i0
  have hb : Below w.heap.size w (w.alloc (.cells #[.int .i64 c, .int .u64 s] 25)) := (Below.refl _ _).alloc (Nat.le_refl _) _
  have hn := heap_alloc_new w (.cells #[.int .i64 c, .int .u64 s] 25)
  have h1 := of_nil c (w.alloc (.cells #[.int .i64 c, .int .u64 s] 25))
  have HN : Hid ((w.alloc (.cells #[.int .i64 c, .int .u64 s] 25)).heap[w.heap.size]? = some (.cells #[.int .i64 c, .int .u64 s] 25)) := hn
  have HB : Hid (Below w.heap.size w (w.alloc (.cells #[.int .i64 c, .int .u64 s] 25))) := hb
  clear hb hn
  go_enter Try.func6, Try.ntmps6
  go_wp2_with fail
  refine h1.mono ?_
  clear h1
  rintro e w1 ⟨rfl, hb1⟩
  have HN1 : Hid ((w1.alloc (.cells #[.int .u64 0, .bool false, .int .i64 0, .int .i64 0, .int .u64 0] 42)).heap[w.heap.size]? = some (.cells #[.int .i64 c, .int .u64 s] 25)) := keep_cells ((Below.refl _ _).alloc (Nat.le_refl _) _) (keep_cells hb1 HN.out)
  have HB1 : Hid (Below w.heap.size w (w1.alloc (.cells #[.int .u64 0, .bool false, .int .i64 0, .int .i64 0, .int .u64 0] 42))) := (HB.out.trans (hb1.mono HB.out.size)).alloc (Nat.le_trans HB.out.size hb1.size) _
  clear HN HB hb1
  go_upto_region 3 with fail
  generalize w1.alloc (.cells #[.int .u64 0, .bool false, .int .i64 0, .int .i64 0, .int .u64 0] 42) = w2 at *
  have e0 : w2.cell? ⟨w.heap.size, 0, none⟩ = some (.int .i64 c) := cell_of_heap HN1.out rfl
  have e1 : w2.cell? ⟨w.heap.size, 1, none⟩ = some (.int .u64 s) := cell_of_heap HN1.out rfl
  have h1 := how_nil (c, s) w2
  go_wp2_with fail
  refine h1.mono ?_
  clear h1 e0 e1
  rintro e w3 ⟨rfl, hb3⟩
  have HN3 : Hid (w3.heap[w.heap.size]? = some (.cells #[.int .i64 c, .int .u64 s] 25)) := keep_cells hb3 HN1.out
  have HB3 : Hid (Below w.heap.size w w3) := HB1.out.trans (hb3.mono HB1.out.size)
  clear HN1 HB1 hb3
  have e0 : w3.cell? ⟨w.heap.size, 0, none⟩ = some (.int .i64 c) := cell_of_heap HN3.out rfl
  have e1 : w3.cell? ⟨w.heap.size, 1, none⟩ = some (.int .u64 s) := cell_of_heap HN3.out rfl
  have h1 := open_nil (c, s) a1 w3
  go_wp2_with fail
  refine h1.mono ?_
  clear h1 e0 e1
  rintro e w4 ⟨rfl, hb4⟩
  have HN4 : Hid (w4.heap[w.heap.size]? = some (.cells #[.int .i64 c, .int .u64 s] 25)) := keep_cells hb4 HN3.out
  have HB4 : Hid (Below w.heap.size w w4) := HB3.out.trans (hb4.mono HB3.out.size)
  clear HN3 HB3 hb4
  have e0 : w4.cell? ⟨w.heap.size, 0, none⟩ = some (.int .i64 c) := cell_of_heap HN4.out rfl
  have e1 : w4.cell? ⟨w.heap.size, 1, none⟩ = some (.int .u64 s) := cell_of_heap HN4.out rfl
  have h1 := done_nil (c, s) a1 0 0 w4
  go_wp2_with fail
  refine h1.mono ?_
  clear h1 e0 e1
  rintro e w5 ⟨rfl, hb5⟩
  have HB5 : Hid (Below w.heap.size w w5) := HB4.out.trans (hb5.mono HB4.out.size)
  clear HN4 HB4 hb5
  go_wp2_with fail
  refine (len_nil w5).mono ?_
  rintro e w6 ⟨rfl, hw6⟩
  subst w6
  go_wp2_with fail
  refine (awake_any w5).mono ?_
  rintro e w7 ⟨rfl, hb7⟩
  have HB7 : Hid (Below w.heap.size w w7) := HB5.out.trans (hb7.mono HB5.out.size)
  clear hb7 HB5
  go_wp2
  go_ret
  exact ⟨rfl, HB7.out⟩

/-! From the call to the statement. -/
set_option maxRecDepth 100000 in
theorem lifted (os : Os) (started : os.Started) (H : Type) (enc : TypeId × Value → H) :
    ReturnsInHanded {} Try.checked os 6 .any (Rows.sessionNilSpec.pre6 enc Try.prog Try.f6 Rows.sessionNilRow.domain false) (Rows.sessionNilSpec.post enc Try.prog Try.f6 false true false false) := by
  refine returnsInHanded_of_change (C := Try.checked) own started (by kernel_rfl) Try.func6
    (ChangeSpec.witness6 (enc := enc) (C := Try.checked) false ⟨#[], #[.agg #[.int .i64 0, .int .u64 0], .int .i64 0], []⟩ 8 (by kernel_rfl) (by kernel_rfl) (by kernel_rfl) (by kernel_rfl)) ?_
  intro W base args ds gs before hval0 hW hcnd _
  have hval : ∀ (j : Nat) t v, Try.f6.params[j]? = some t → args[j]? = some v → Value.okWide Try.prog W .any base t v := hval0
  have hW' := hW
  obtain ⟨p, q, hA0, hV, rfl, hfz, hnd⟩ := hW
  have hA : DataW.TrodAll enc Try.prog W 0 (fun _ => true) true Try.f6.params.toList args.toList ds p := hA0
  rw [Try.params6] at hA hval
  obtain ⟨v0, vs0, d0, ds0, p0, q0, hargs, rfl, rfl, h0, r0⟩ := trodAll_cons hA
  obtain ⟨v1, vs1, d1, ds1, p1, q1, rfl, rfl, rfl, h1, r1⟩ := trodAll_cons r0
  obtain ⟨rfl, rfl, rfl⟩ := trodAll_nil r1
  obtain rfl : args = #[v0, v1] := by cases args; simp_all
  obtain ⟨rfl, rfl⟩ := trodVars_none hV
  have k0 := h0
  have lt0 : ∀ x ∈ p0, x.block < W.heap.size := by obtain ⟨m, hm⟩ := k0; exact DataW.trod_lt m _ _ _ hm
  obtain ⟨i0, rfl, w0⟩ := open_id (hval 0 25 v0 rfl rfl) h0
  obtain ⟨a1, rfl, rfl, rfl, w1⟩ := open_int Try.underlying3 (hval 1 3 v1 rfl rfl) h1
  clear hA0 hval0
  refine (walk i0 a1 W w0 w1).mono fun e W' ⟨he, bel⟩ => ?_
  subst he
  exact ⟨_, rfl, _, _, _, [], _, [], hW', trodAll_mk1 (shut_bool Try.underlying4 _), (trodAll_cons_mk (Below.trod laidOut (by kernel_rfl) (of_decide_eq_true (by kernel_rfl)) k0 bel lt0) (trodAll_cons_mk (shut_int Try.underlying3 w1) trodAll_mk0)), rfl, bel.frame _, fun h => by cases h⟩

theorem over : Rows.sessionNilRow.holds Try.pinned (OpenSpec.ofChange Rows.sessionNilSpec) :=
  OpenClaim.holds_of_wide 6 Try.f6 rfl rfl rfl rfl rfl rfl rfl ⟨rfl, rfl, rfl, rfl, rfl⟩ rfl rfl rfl rfl rfl (by kernel_rfl) Try.func6 (by kernel_rfl)
    (of_decide_eq_true (by kernel_rfl)) (by unfold Func.isWrapper; first | (rw [if_pos (by decide +kernel)]; kernel_rfl) | (rw [if_neg (by decide +kernel)]; exact ⟨rfl, rfl⟩))
    (fun os started H enc _ => lifted os started H enc)
end Go.Proofs.Ytophkidigajliaa.sessionNil
namespace Go.Proofs.Ytophkidigajliaa
theorem sessionNil_holds : Rows.SessionNilSaid := sessionNil.over
#print axioms sessionNil_holds
end Go.Proofs.Ytophkidigajliaa
