/-
  For every room, every list of calls and every area: whatever is written, armed and lost, a disk answers, and has, what the chapter says (the law DiskPlays returns true and leaves its arguments as they were).
-/
import Derived.Test.YtpejijiolcfglaaRows
import Derived.Test.YtpejijiolcfglaaDkJ
import Derived.Test.YtpejijiolcfglaaDkO
import Derived.Test.YtpejijiolcfglaaDkP
import Derived.WalkKit
import Derived.ProofKit
import Derived.OpenShut
import Derived.ShutString
import Derived.ChangeOld
import Derived.Below
namespace Go.Proofs.Ytpejijiolcfglaa.diskPlays
open Go.ChangeShapes Go.WideShapes Go.ChangeAt Go.RowKit
open Go.ChangeMaps (open_string shut_string)
set_option linter.unusedSimpArgs false
set_option linter.unusedVariables false

theorem own : ownKnob Try.prog.godebug = none := by kernel_rfl
theorem laidOut : laidOutB Try.prog = true := by kernel_rfl

/-! The law returns true, and writes nothing that was there. -/
set_option maxRecDepth 100000 in
set_option maxHeartbeats 4000000 in
theorem walk (a0 : Int) (a1 : Option Addr) (len1 cap1 : Nat) (O1 : Nat → Opv) (a2 : Int) (w : World) (w0 : (Lit.int .i64 a0).wf = true) (w1 : Ops w a1 len1 O1) (w2 : (Lit.int .i64 a2).wf = true) :
    Calls Try.prog 3 #[.int .i64 a0, .slice a1 len1 cap1, .int .i64 a2] w fun e w' => e = .returned (.bool true) ∧ Below w.heap.size w w' := by
  have hS0 : ∀ x, w.heap.size ≤ x → (fun k => w.heap.size ≤ k) x := fun x h => h
  go_enter Try.func3, Try.ntmps3
  go_wp2_with fail
  refine (dnew_any a0 w (w.heap.size ≤ ·) hS0).mono ?_
  rintro e wa ⟨rfl, hD, hb⟩
  have hlt := hD.lt
  go_wp2_with fail
  refine (rnew_any a0 wa).mono ?_
  rintro e wb ⟨rfl, hR, hb2⟩
  generalize DS.new (min a0.toNat 1048576) = d0 at *
  have HB2 : Hid (Below w.heap.size w wb) := hb.trans (hb2.mono hb.size)
  have t0 : Two wb (fun k => w.heap.size ≤ k ∧ k ≠ wa.heap.size) w.heap.size wa.heap.size d0 := by
    have hl2 := hR.lt
    have hs1 := hb.size
    refine ⟨(hD.to (fun k hk hs => ⟨hs, by omega⟩)).later hb2, hR, fun hc => hc.2 rfl, fun k hk => ⟨by omega, by omega⟩⟩
  have hgn : w.heap.size < wa.heap.size := hlt
  generalize wa.heap.size = hh at *
  clear hD hR hb hb2 hlt hS0
  have HO : Hid (Ops w a1 len1 O1) := w1
  have hlen : len1 ≤ 9223372036854775807 := by have := w1.1; unfold maxLen at this; omega
  clear w1
  go_wp2_with fail
  go_loopw [21] (fun i wr => ∃ (k : Nat) (d : DS), k ≤ len1 ∧ i = .int .i64 k ∧ Hid (Two wr (fun k => w.heap.size ≤ k ∧ k ≠ hh) w.heap.size hh d) ∧ Hid (Below w.heap.size w wr)) (fun i _ => len1 - (intOf i).toNat)
  case atStart => exact ⟨0, d0, by omega, rfl, t0, HB2⟩
  case round =>
    clear t0 HB2
    obtain ⟨k, d, hk, rfl, ht, hB⟩ := hrel
    by_cases hlt : k < len1
    · obtain ⟨hok, bo, off, rfl, c0, c1, c2, c3, c4, c5⟩ := (HO.out.later hB.out).2 k hlt
      simp only [← Nat.add_assoc] at c1 c2 c3 c4 c5
      have hbx : Below wr.heap.size wr (wr.alloc (.cells #[.int .i64 (O1 k).kind, .int .i64 (O1 k).area, .string (O1 k).b, .int .i64 (O1 k).n, .int .u16 (O1 k).k0, .int .u16 (O1 k).k1] 30)) := (Below.refl _ _).alloc (Nat.le_refl _) _
      have tx := ht.out.later hbx
      have HX : Hid (Below w.heap.size w (wr.alloc (.cells #[.int .i64 (O1 k).kind, .int .i64 (O1 k).area, .string (O1 k).b, .int .i64 (O1 k).n, .int .u16 (O1 k).k0, .int .u16 (O1 k).k1] 30))) := hB.out.trans (hbx.mono hB.out.size)
      clear hbx
      by_cases h40 : 40 ≤ k
      · go_wp2_with fail
        generalize (wr.alloc (.cells #[.int .i64 (O1 k).kind, .int .i64 (O1 k).area, .string (O1 k).b, .int .i64 (O1 k).n, .int .u16 (O1 k).k0, .int .u16 (O1 k).k1] 30)) = wx at *
        refine (dread_any _ _ d a2 _ tx.dk).mono ?_
        rintro e wc ⟨v, rfl, ho, hbc⟩
        have tc := tx.later hbc
        have HBC : Hid (Below w.heap.size w wc) := HX.out.trans (hbc.mono HX.out.size)
        obtain ⟨av, nv, cv, rfl, hrow, -⟩ := ho.slice
        have hcv := conv_row hrow cv
        clear hbc ho hrow
        go_wp2_with fail
        refine (rread_any _ d a2 wc tc.rk).mono ?_
        rintro e we ⟨rfl, hw⟩
        subst we
        generalize str (d.read a2).1 = sv at *
        generalize (d.read a2).2 = qv at *
        go_wp2_with fail
        refine (awake_true wc).mono ?_
        rintro e we ⟨rfl, hbe⟩
        have HBE : Hid (Below w.heap.size w we) := HBC.out.trans (hbe.mono HBC.out.size)
        clear hbe
        go_wp2
        go_ret
        exact ⟨rfl, HBE.out⟩
      · go_wp2_with fail
        generalize (wr.alloc (.cells #[.int .i64 (O1 k).kind, .int .i64 (O1 k).area, .string (O1 k).b, .int .i64 (O1 k).n, .int .u16 (O1 k).k0, .int .u16 (O1 k).k1] 30)) = wx at *
        refine (step_any _ _ _ d (O1 k) wx tx hok).mono ?_
        rintro e wy ⟨rfl, ⟨d', ty⟩, hf⟩
        have HY : Hid (Below w.heap.size w wy) := HX.out.trans (hf.below HX.out.size (fun j hj => by omega))
        clear hf tx c0 c1 c2 c3 c4 c5
        go_wp2_with fail
        refine (like_true _ _ _ d' wy ty).mono ?_
        rintro e wz ⟨rfl, hbz⟩
        have tz := ty.later hbz
        have HZ : Hid (Below w.heap.size w wz) := HY.out.trans (hbz.mono HY.out.size)
        clear hbz ty
        go_wp2
        go_roundw
        case rel => exact ⟨k + 1, d', by omega, by go_num, tz, HZ⟩
        case measure => simp [intOf]; omega
    · go_wp2_with fail
      refine (dread_any _ _ d a2 _ ht.out.dk).mono ?_
      rintro e wc ⟨v, rfl, ho, hbc⟩
      have tc := ht.out.later hbc
      have HBC : Hid (Below w.heap.size w wc) := hB.out.trans (hbc.mono hB.out.size)
      obtain ⟨av, nv, cv, rfl, hrow, -⟩ := ho.slice
      have hcv := conv_row hrow cv
      clear hbc ho hrow
      go_wp2_with fail
      refine (rread_any _ d a2 wc tc.rk).mono ?_
      rintro e we ⟨rfl, hw⟩
      subst we
      generalize str (d.read a2).1 = sv at *
      generalize (d.read a2).2 = qv at *
      go_wp2_with fail
      refine (awake_true wc).mono ?_
      rintro e we ⟨rfl, hbe⟩
      have HBE : Hid (Below w.heap.size w we) := HBC.out.trans (hbe.mono HBC.out.size)
      clear hbe
      go_wp2
      go_ret
      exact ⟨rfl, HBE.out⟩

/-! From the call to the statement. -/
set_option maxRecDepth 100000 in
theorem lifted (os : Os) (started : os.Started) (H : Type) (enc : TypeId × Value → H) :
    ReturnsInHanded {} Try.checked os 3 .any (Rows.diskPlaysSpec.pre6 enc Try.prog Try.f3 Rows.diskPlaysRow.domain false) (Rows.diskPlaysSpec.post enc Try.prog Try.f3 false true false false) := by
  refine returnsInHanded_of_change (C := Try.checked) own started (by kernel_rfl) Try.func3
    (ChangeSpec.witness6 (enc := enc) (C := Try.checked) false ⟨#[], #[.int .i64 0, .slice none 0 0, .int .i64 0], []⟩ 8 (by kernel_rfl) (by kernel_rfl) (by kernel_rfl) (by kernel_rfl)) ?_
  intro W base args ds gs before hval0 hW hcnd _
  have hval : ∀ (j : Nat) t v, Try.f3.params[j]? = some t → args[j]? = some v → Value.okWide Try.prog W .any base t v := hval0
  have hW' := hW
  obtain ⟨p, q, hA0, hV, rfl, hfz, hnd⟩ := hW
  have hA : DataW.TrodAll enc Try.prog W 0 (fun _ => true) true Try.f3.params.toList args.toList ds p := hA0
  rw [Try.params3] at hA hval
  obtain ⟨v0, vs0, d0, ds0, p0, q0, hargs, rfl, rfl, h0, r0⟩ := trodAll_cons hA
  obtain ⟨v1, vs1, d1, ds1, p1, q1, rfl, rfl, rfl, h1, r1⟩ := trodAll_cons r0
  obtain ⟨v2, vs2, d2, ds2, p2, q2, rfl, rfl, rfl, h2, r2⟩ := trodAll_cons r1
  obtain ⟨rfl, rfl, rfl⟩ := trodAll_nil r2
  obtain rfl : args = #[v0, v1, v2] := by cases args; simp_all
  obtain ⟨rfl, rfl⟩ := trodVars_none hV
  obtain ⟨a0, rfl, rfl, rfl, w0⟩ := open_int Try.underlying3 (hval 0 3 v0 rfl rfl) h0
  obtain ⟨a1, len1, cap1, rfl⟩ := okWide_slice Try.underlying22 (hval 1 22 v1 rfl rfl)
  have k1 := h1
  have lt1 : ∀ x ∈ p1, x.block < W.heap.size := by obtain ⟨m, hm⟩ := k1; exact DataW.trod_lt m _ _ _ hm
  obtain ⟨O1, w1⟩ := open_ops h1
  obtain ⟨a2, rfl, rfl, rfl, w2⟩ := open_int Try.underlying3 (hval 2 3 v2 rfl rfl) h2
  clear hA0 hval0
  refine (walk a0 a1 len1 cap1 O1 a2 W w0 w1 w2).mono fun e W' ⟨he, bel⟩ => ?_
  subst he
  exact ⟨_, rfl, _, _, _, [], _, [], hW', trodAll_mk1 (shut_bool Try.underlying4 _), (trodAll_cons_mk (shut_int Try.underlying3 w0) (trodAll_cons_mk (Below.trod laidOut (by kernel_rfl) (of_decide_eq_true (by kernel_rfl)) k1 bel lt1) (trodAll_cons_mk (shut_int Try.underlying3 w2) trodAll_mk0))), rfl, bel.frame _, fun h => by cases h⟩

theorem over : Rows.diskPlaysRow.holds Try.pinned (OpenSpec.ofChange Rows.diskPlaysSpec) :=
  OpenClaim.holds_of_wide 3 Try.f3 rfl rfl rfl rfl rfl rfl rfl ⟨rfl, rfl, rfl, rfl, rfl⟩ rfl rfl rfl rfl rfl (by kernel_rfl) Try.func3 (by kernel_rfl)
    (of_decide_eq_true (by kernel_rfl)) (by unfold Func.isWrapper; first | (rw [if_pos (by decide +kernel)]; kernel_rfl) | (rw [if_neg (by decide +kernel)]; exact ⟨rfl, rfl⟩))
    (fun os started H enc _ => lifted os started H enc)
end Go.Proofs.Ytpejijiolcfglaa.diskPlays
namespace Go.Proofs.Ytpejijiolcfglaa
theorem diskPlays_holds : Rows.DiskPlaysSaid := diskPlays.over
#print axioms diskPlays_holds
end Go.Proofs.Ytpejijiolcfglaa
