/-
  Two votes that win of the same masters have a master in common: the law BallotMeet returns true at any two votes and any number, and changes none of its arguments. No condition.
-/
import Derived.Test.YtbikepmnjgcgkaaRows
import Derived.Test.YtbikepmnjgcgkaaBlB
import Derived.Test.YtbikepmnjgcgkaaBlD
import Derived.WalkKit
import Derived.ProofKit
import Derived.OpenShut
import Derived.ShutString
import Derived.ChangeOld
import Derived.Below
namespace Go.Proofs.Ytbikepmnjgcgkaa.ballotMeet
open Go.ChangeShapes Go.WideShapes Go.ChangeAt Go.RowKit
open Go.ChangeMaps (open_string shut_string)
set_option linter.unusedSimpArgs false
set_option linter.unusedVariables false

theorem own : ownKnob Try.prog.godebug = none := by kernel_rfl
theorem laidOut : laidOutB Try.prog = true := by kernel_rfl

/-! The law returns true, and writes nothing that was there. -/
set_option maxRecDepth 100000 in
theorem walk (a0 : Int) (a1 : Int) (a2 : Int) (w : World) (w0 : (Lit.int .u8 a0).wf = true) (w1 : (Lit.int .u8 a1).wf = true) (w2 : (Lit.int .i64 a2).wf = true) :
    Calls Try.prog 7 #[.int .u8 a0, .int .u8 a1, .int .i64 a2] w fun e w' => e = .returned (.bool true) ∧ Below w.heap.size w w' := by
  obtain ⟨a, rfl⟩ : ∃ a : Nat, a0 = a := ⟨a0.toNat, by have := bounds_u8 w0; omega⟩
  obtain ⟨b, rfl⟩ : ∃ b : Nat, a1 = b := ⟨a1.toNat, by have := bounds_u8 w1; omega⟩
  have ha : a < 256 := by have := bounds_u8 w0; omega
  have hb : b < 256 := by have := bounds_u8 w1; omega
  have hm : wins a (clip a2) = true → wins b (clip a2) = true → ∃ k, k < clip a2 ∧ a.testBit k = true ∧ b.testBit k = true := meet a b (clip a2) (clip_le a2).1 (clip_le a2).2
  have h5 := clip_le a2
  clear w0 w1
  have finish : ∀ w, Calls Try.prog 16 #[] w fun e w' => e = .returned (.bool true) ∧ w' = w := awake7_any
  cases hx : wins a (clip a2)
  · go_enter Try.func7, Try.ntmps7
    go_wp2_with fail
    refine (wins_any a a2 _ ha).mono ?_
    rintro e w1 ⟨rfl, hw⟩
    subst w1
    rw [hx]
    go_wp2_with fail
    refine (awake7_any _).mono ?_
    rintro e w1 ⟨rfl, hw⟩
    subst w1
    go_wp2
    go_ret
    exact ⟨rfl, Below.refl _ _⟩
  · cases hy : wins b (clip a2)
    · go_enter Try.func7, Try.ntmps7
      go_wp2_with fail
      refine (wins_any a a2 _ ha).mono ?_
      rintro e w1 ⟨rfl, hw⟩
      subst w1
      rw [hx]
      go_wp2_with fail
      refine (wins_any b a2 _ hb).mono ?_
      rintro e w1 ⟨rfl, hw⟩
      subst w1
      rw [hy]
      go_wp2_with fail
      refine (awake7_any _).mono ?_
      rintro e w1 ⟨rfl, hw⟩
      subst w1
      go_wp2
      go_ret
      exact ⟨rfl, Below.refl _ _⟩
    · obtain ⟨q, hq, qa, qb⟩ := hm hx hy
      have hqn : (q : Int) < max a2 1 := by unfold clip at hq; omega
      have HQ : Hid (q < 5 ∧ (q : Int) < max a2 1 ∧ a.testBit q = true ∧ b.testBit q = true) := ⟨by omega, hqn, qa, qb⟩
      clear hq qa qb hqn hm finish
      go_enter Try.func7, Try.ntmps7
      go_wp2_with fail
      refine (wins_any a a2 _ ha).mono ?_
      rintro e w1 ⟨rfl, hw⟩
      subst w1
      rw [hx]
      go_wp2_with fail
      refine (wins_any b a2 _ hb).mono ?_
      rintro e w1 ⟨rfl, hw⟩
      subst w1
      rw [hy]
      go_wp2
      go_loopw [9] (fun t wr => ∃ k : Nat, t = .int .i64 (k : Nat) ∧ k ≤ 5 ∧ Hid (k ≤ q) ∧ wr = w) (fun t _ => 5 - (intOf t).toNat)
      case atStart => exact ⟨0, rfl, by omega, by simp [Hid], rfl⟩
      case round =>
        obtain ⟨k, rfl, hk, HK, rfl⟩ := hrel
        have hk5 : k < 5 := by have := HK.out; have := HQ.out.1; omega
        have hne : (k : Int) < (if a2 < 1 then 1 else a2) := by have := HK.out; have := HQ.out.2.1; split <;> omega
        have HN : Hid ((k : Int) < (if a2 < 1 then 1 else a2)) := hne
        clear hne
        cases hka : a.testBit k
        · by_cases h1 : a2 < 1
          all_goals
            have hlt := HN.out
            simp only [h1, if_true, if_false] at hlt
            go_wp2_with fail
            refine (has_in a k _ ha (by omega)).mono ?_
            rintro e w1 ⟨rfl, hw⟩
            subst w1
            rw [hka]
            go_wp2
            go_roundw
            case rel => exact ⟨k + 1, by go_num, by omega, by unfold Hid; have := HK.out; by_cases e : k = q; (subst e; rw [HQ.out.2.2.1] at hka; cases hka); omega, trivial⟩
            case measure => simp [intOf]; omega
        · cases hkb : b.testBit k
          · by_cases h1 : a2 < 1
            all_goals
              have hlt := HN.out
              simp only [h1, if_true, if_false] at hlt
              go_wp2_with fail
              refine (has_in a k _ ha (by omega)).mono ?_
              rintro e w1 ⟨rfl, hw⟩
              subst w1
              rw [hka]
              go_wp2_with fail
              refine (has_in b k _ hb (by omega)).mono ?_
              rintro e w1 ⟨rfl, hw⟩
              subst w1
              rw [hkb]
              go_wp2
              go_roundw
              case rel => exact ⟨k + 1, by go_num, by omega, by unfold Hid; have := HK.out; by_cases e : k = q; (subst e; rw [HQ.out.2.2.2] at hkb; cases hkb); omega, trivial⟩
              case measure => simp [intOf]; omega
          · by_cases h1 : a2 < 1
            all_goals
              have hlt := HN.out
              simp only [h1, if_true, if_false] at hlt
              go_wp2_with fail
              refine (has_in a k _ ha (by omega)).mono ?_
              rintro e w1 ⟨rfl, hw⟩
              subst w1
              rw [hka]
              go_wp2_with fail
              refine (has_in b k _ hb (by omega)).mono ?_
              rintro e w1 ⟨rfl, hw⟩
              subst w1
              rw [hkb]
              go_wp2_with fail
              refine (awake7_any _).mono ?_
              rintro e w1 ⟨rfl, hw⟩
              subst w1
              go_wp2
              go_ret
              exact ⟨rfl, Below.refl _ _⟩

/-! From the call to the statement. -/
set_option maxRecDepth 100000 in
theorem lifted (os : Os) (started : os.Started) (H : Type) (enc : TypeId × Value → H) :
    ReturnsInHanded {} Try.checked os 7 .any (Rows.ballotMeetSpec.pre6 enc Try.prog Try.f7 Rows.ballotMeetRow.domain false) (Rows.ballotMeetSpec.post enc Try.prog Try.f7 false true false false) := by
  refine returnsInHanded_of_change (C := Try.checked) own started (by kernel_rfl) Try.func7
    (ChangeSpec.witness6 (enc := enc) (C := Try.checked) false ⟨#[], #[.int .u8 0, .int .u8 0, .int .i64 0], []⟩ 8 (by kernel_rfl) (by kernel_rfl) (by kernel_rfl) (by kernel_rfl)) ?_
  intro W base args ds gs before hval0 hW hcnd _
  have hval : ∀ (j : Nat) t v, Try.f7.params[j]? = some t → args[j]? = some v → Value.okWide Try.prog W .any base t v := hval0
  have hW' := hW
  obtain ⟨p, q, hA0, hV, rfl, hfz, hnd⟩ := hW
  have hA : DataW.TrodAll enc Try.prog W 0 (fun _ => true) true Try.f7.params.toList args.toList ds p := hA0
  rw [Try.params7] at hA hval
  obtain ⟨v0, vs0, d0, ds0, p0, q0, hargs, rfl, rfl, h0, r0⟩ := trodAll_cons hA
  obtain ⟨v1, vs1, d1, ds1, p1, q1, rfl, rfl, rfl, h1, r1⟩ := trodAll_cons r0
  obtain ⟨v2, vs2, d2, ds2, p2, q2, rfl, rfl, rfl, h2, r2⟩ := trodAll_cons r1
  obtain ⟨rfl, rfl, rfl⟩ := trodAll_nil r2
  obtain rfl : args = #[v0, v1, v2] := by cases args; simp_all
  obtain ⟨rfl, rfl⟩ := trodVars_none hV
  obtain ⟨a0, rfl, rfl, rfl, w0⟩ := open_int Try.underlying5 (hval 0 5 v0 rfl rfl) h0
  obtain ⟨a1, rfl, rfl, rfl, w1⟩ := open_int Try.underlying5 (hval 1 5 v1 rfl rfl) h1
  obtain ⟨a2, rfl, rfl, rfl, w2⟩ := open_int Try.underlying3 (hval 2 3 v2 rfl rfl) h2
  clear hA0 hval0
  simp only [List.append_nil] at hW'
  refine (walk a0 a1 a2 W w0 w1 w2).mono fun e W' ⟨he, bel⟩ => ?_
  subst he
  exact ⟨_, rfl, _, _, _, [], _, [], hW', trodAll_mk1 (shut_bool Try.underlying4 _), (trodAll_cons_mk (shut_int Try.underlying5 w0) (trodAll_cons_mk (shut_int Try.underlying5 w1) (trodAll_cons_mk (shut_int Try.underlying3 w2) trodAll_mk0))), rfl, bel.frame _, fun h => by cases h⟩

theorem over : Rows.ballotMeetRow.holds Try.pinned (OpenSpec.ofChange Rows.ballotMeetSpec) :=
  OpenClaim.holds_of_wide 7 Try.f7 rfl rfl rfl rfl rfl rfl rfl ⟨rfl, rfl, rfl, rfl, rfl⟩ rfl rfl rfl rfl rfl (by kernel_rfl) Try.func7 (by kernel_rfl)
    (of_decide_eq_true (by kernel_rfl)) (by unfold Func.isWrapper; first | (rw [if_pos (by decide +kernel)]; kernel_rfl) | (rw [if_neg (by decide +kernel)]; exact ⟨rfl, rfl⟩))
    (fun os started H enc _ => lifted os started H enc)
end Go.Proofs.Ytbikepmnjgcgkaa.ballotMeet
namespace Go.Proofs.Ytbikepmnjgcgkaa
theorem ballotMeet_holds : Rows.BallotMeetSaid := ballotMeet.over
#print axioms ballotMeet_holds
end Go.Proofs.Ytbikepmnjgcgkaa
