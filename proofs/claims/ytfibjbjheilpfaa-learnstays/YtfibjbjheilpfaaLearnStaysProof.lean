/-
  What was chosen stays so, and the prefix never falls: sautoirlaw19.LearnStays returns true at all rows, every slot and every value, and what came in reads as it did; no condition.
-/
import Derived.Test.YtfibjbjheilpfaaRows
import Derived.Test.YtfibjbjheilpfaaLeK
import Derived.WalkKit
import Derived.ProofKit
import Derived.OpenShut
import Derived.ShutString
import Derived.ChangeOld
import Derived.Below
namespace Go.Proofs.Ytfibjbjheilpfaa.learnStays
open Go.ChangeShapes Go.WideShapes Go.ChangeAt Go.RowKit
open Go.ChangeMaps (open_string shut_string)
set_option linter.unusedSimpArgs false
set_option linter.unusedVariables false

theorem own : ownKnob Try.prog.godebug = none := by kernel_rfl
theorem laidOut : laidOutB Try.prog = true := by kernel_rfl

/-! The law returns true, and writes nothing that was there. -/
set_option maxRecDepth 100000 in
set_option maxHeartbeats 4000000 in
theorem walk (a0 : Option Addr) (len0 cap0 : Nat) (O0 : Nat → Ro) (a1 : Int) (a2 : ByteArray) (w : World) (w0 : Rws w a0 len0 O0) (w1 : (Lit.int .i64 a1).wf = true) (w2 : a2.size ≤ maxLen) :
    Calls Try.prog 4 #[.slice a0 len0 cap0, .int .i64 a1, .string a2] w fun e w' => e = .returned (.bool true) ∧ Below w.heap.size w w' := by
  have HZ : Hid (Rws w a0 len0 O0) := w0
  have hln : len0 ≤ maxLen := w0.1
  have HSW : Hid ((Lit.int .i64 a1).wf = true) := w1
  have HVW : Hid (a2.size ≤ maxLen) := w2
  unfold maxLen at hln
  clear w0 w1 w2
  go_enter Try.func4, Try.ntmps4
  go_wp2_with fail
  refine (new_any w).mono ?_
  rintro e v1 ⟨rfl, hS, hb⟩
  have HS : Hid (Le v1 w.heap.size nilC) := hS
  have HB : Hid (Below w.heap.size w v1) := hb
  clear hS hb
  generalize hp : w.heap.size = p at *
  have HE : Hid (w.heap.size = p) := hp
  clear hp
  go_wp2
  go_loopw [8, 20] (fun _ t wr => ∃ k : Nat, t = .int .i64 (k : Nat) ∧ k ≤ len0 ∧ Hid (∃ F, Le wr p F) ∧ Hid (Below p w wr)) (fun _ t _ => len0 - (intOf t).toNat)
  case atStart => exact ⟨0, rfl, by omega, ⟨nilC, HS.out⟩, HB.out⟩
  case round =>
    obtain ⟨k, rfl, hk, HR, HW⟩ := hrel
    clear HS HB
    obtain ⟨F, h1⟩ := HR.out
    have HF : Hid (Le wr p F) := h1
    clear HR h1
    by_cases hlt : k < len0
    · obtain ⟨b, off, rfl, hc⟩ := HZ.out.at (by omega)
      obtain ⟨hok, d0, d1⟩ := hc k hlt
      clear hc
      have d0 := (HW.out.cell (by have := World.block_lt_of_cell? _ _ d0; rw [← HE.out]; exact this)).trans d0
      have d1 := (HW.out.cell (by have := World.block_lt_of_cell? _ _ d1; rw [← HE.out]; exact this)).trans d1
      generalize O0 k = x at d0 d1 hok
      obtain ⟨xs, xv⟩ := x
      simp only at d0 d1
      have HOK : Hid (RoOk (xs, xv)) := hok
      clear hok
      have HF1 : Hid (Le (wr.alloc (.cells #[.int .i64 xs, .string xv] 29)) p F) := HF.out.later ((Below.refl _ _).alloc (Nat.le_refl _) _)
      have HW1 : Hid (Below p w (wr.alloc (.cells #[.int .i64 xs, .string xv] 29))) := HW.out.alloc (Nat.le_of_lt HF.out.lt) _
      by_cases h30 : k < 30
      · go_wp2_with fail
        generalize wr.alloc (.cells #[.int .i64 xs, .string xv] 29) = w2 at *
        refine (learn_any p F xs xv w2 HF1.out HOK.out.2).mono ?_
        rintro e w5 ⟨rfl, hF5, hg5⟩
        have HF5 : Hid (∃ F, Le w5 p F) := ⟨_, hF5⟩
        have HW5 : Hid (Below p w w5) := HW1.out.trans (below_of_grown hg5 (Nat.le_of_lt HF1.out.lt) (Nat.le_refl _))
        clear hF5 hg5 HF1 HW1 HF HW d0 d1
        generalize learnE F xs xv = lf at *
        go_wp2
        go_roundw
        case rel => exact ⟨k + 1, by go_num, by omega, HF5.out, HW5.out⟩
        case measure => simp [intOf]; omega
      · clear HF HW
        go_wp2
        go_roundw
        case rel => exact ⟨k + 1, by go_num, by omega, ⟨F, HF1.out⟩, HW1.out⟩
        case measure => simp [intOf]; omega
    · obtain ⟨n, m, l, hnm, hm4, hn, hm, hfr, hfr2⟩ := stays_at HF.out a1 a2
      have HN : Hid (∀ w, Le w p F → Calls Try.prog 10 #[.pointer (some ⟨p, 0, none⟩)] w fun e w' => e = .returned (.int .i64 (n : Nat)) ∧ ∃ d, w' = w.drewN d) := hn
      have HM : Hid (∀ w, Le w p (learnC F a1 a2) → Calls Try.prog 10 #[.pointer (some ⟨p, 0, none⟩)] w fun e w' => e = .returned (.int .i64 (m : Nat)) ∧ ∃ d, w' = w.drewN d) := hm
      have HFR : Hid (∀ w, Le w p F → Calls Try.prog 17 #[.pointer (some ⟨p, 0, none⟩), .int .i64 0, .int .i64 400] w fun e w' => ∃ v, e = .returned v ∧ OwnV w' w.heap.size 9 v (encs l) ∧ Below w.heap.size w w') := hfr
      have HFR2 : Hid (∀ w, Le w p (learnC F a1 a2) → Calls Try.prog 17 #[.pointer (some ⟨p, 0, none⟩), .int .i64 0, .int .i64 (n : Nat)] w fun e w' => ∃ v, e = .returned v ∧ OwnV w' w.heap.size 9 v (encs l) ∧ Below w.heap.size w w') := hfr2
      have HLC := learn_cases F a1 a2
      have HV : Hid (∀ w, Le w p F → Calls Try.prog 14 #[.pointer (some ⟨p, 0, none⟩), .int .i64 a1] w fun e w' => e = .returned (.tuple #[.string (valS F a1), .bool (hasS F a1)]) ∧ ∃ n, w' = w.drewN n) := fun w h => val_any p F a1 w h
      have HV2 : Hid (∀ w, Le w p (learnC F a1 a2) → Calls Try.prog 14 #[.pointer (some ⟨p, 0, none⟩), .int .i64 a1] w fun e w' => e = .returned (.tuple #[.string (valS (learnC F a1 a2) a1), .bool (hasS (learnC F a1 a2) a1)]) ∧ ∃ n, w' = w.drewN n) := fun w h => val_any p _ a1 w h
      have HLE : Hid (∀ w, Le w p F → Calls Try.prog 8 #[.pointer (some ⟨p, 0, none⟩), .int .i64 a1, .string a2] w fun e w' => e = .returned (.int .i64 (learnE F a1 a2)) ∧ Le w' p (learnC F a1 a2) ∧ w.grownBy w' (some p)) := fun w h => learn_any p F a1 a2 w h HVW.out
      clear hn hm hfr hfr2
      generalize learnE F a1 a2 = le at *
      generalize valS F a1 = v0 at *
      generalize hasS F a1 = b0 at *
      generalize valS (learnC F a1 a2) a1 = v1' at *
      generalize hasS (learnC F a1 a2) a1 = b1 at *
      generalize learnC F a1 a2 = F2 at *
      go_wp2_with fail
      refine (HFR.out wr HF.out).mono ?_
      rintro e w4 ⟨va, rfl, hva, hb4⟩
      obtain ⟨ac, an, cc, rfl⟩ := owns_slice hva
      have HVA : Hid (OwnV w4 wr.heap.size 9 (.slice ac an cc) (encs l)) := hva
      have HF4 : Hid (Le w4 p F) := HF.out.later hb4
      have HB4 : Hid (Below p w w4) := HW.out.trans (hb4.mono (Nat.le_of_lt HF.out.lt))
      clear hva hb4 HF HW HFR
      generalize wr.heap.size = pw at *
      go_wp2_with fail
      refine (HN.out w4 HF4.out).mono ?_
      rintro e w5 ⟨rfl, d, rfl⟩
      have HVA5 : Hid (OwnV (w4.drewN d) pw 9 (.slice ac an cc) (encs l)) := HVA.out
      have HF5 : Hid (Le (w4.drewN d) p F) := HF4.out.drews d
      have HB5 : Hid (Below p w (w4.drewN d)) := below_drews HB4.out d
      clear HVA HF4 HB4 HN
      generalize w4.drewN d = w5 at *
      go_wp2_with fail
      refine (HV.out w5 HF5.out).mono ?_
      rintro e w6 ⟨rfl, d2, rfl⟩
      have HVA6 : Hid (OwnV (w5.drewN d2) pw 9 (.slice ac an cc) (encs l)) := HVA5.out
      have HF6 : Hid (Le (w5.drewN d2) p F) := HF5.out.drews d2
      have HB6 : Hid (Below p w (w5.drewN d2)) := below_drews HB5.out d2
      clear HVA5 HF5 HB5 HV
      generalize w5.drewN d2 = w6 at *
      go_wp2_with fail
      refine (HLE.out w6 HF6.out).mono ?_
      rintro e w7 ⟨rfl, hF7, hg7⟩
      have HF7 : Hid (Le w7 p F2) := hF7
      have HB7 : Hid (Below p w w7) := HB6.out.trans (below_of_grown hg7 (Nat.le_of_lt HF6.out.lt) (Nat.le_refl _))
      have HVA7 : Hid (OwnV w7 pw 9 (.slice ac an cc) (encs l)) := (HF6.out.fr hg7).owns HVA6.out (by decide)
      clear hF7 hg7 HF6 HB6 HVA6 HLE
      go_wp2_with fail
      refine (HV2.out w7 HF7.out).mono ?_
      rintro e w8 ⟨rfl, d3, rfl⟩
      have HVA8 : Hid (OwnV (w7.drewN d3) pw 9 (.slice ac an cc) (encs l)) := HVA7.out
      have HF8 : Hid (Le (w7.drewN d3) p F2) := HF7.out.drews d3
      have HB8 : Hid (Below p w (w7.drewN d3)) := below_drews HB7.out d3
      clear HVA7 HF7 HB7 HV2
      generalize w7.drewN d3 = w8 at *
      have hdn : decide (((m : Nat) : Int) < (n : Nat)) = false := by simp; omega
      have HTAIL : Hid (∀ d4, Le (w8.drewN d4) p F2 ∧ OwnV (w8.drewN d4) pw 9 (.slice ac an cc) (encs l) ∧ Below p w (w8.drewN d4)) := fun d4 => ⟨HF8.out.drews d4, HVA8.out, below_drews HB8.out d4⟩
      rcases HLC with ⟨rfl, rfl, rfl, rfl⟩ | ⟨hle, rfl, rfl⟩
      · have hss : (v1'.toList == v1'.toList) = true := by simp
        go_wp2_with fail
        refine (HM.out w8 HF8.out).mono ?_
        rintro e w9 ⟨rfl, d4, rfl⟩
        obtain ⟨hf9, hv9, hb9⟩ := HTAIL.out d4
        have HF9 : Hid (Le (w8.drewN d4) p F2) := hf9
        have HVA9 : Hid (OwnV (w8.drewN d4) pw 9 (.slice ac an cc) (encs l)) := hv9
        have HB9 : Hid (Below p w (w8.drewN d4)) := hb9
        clear hf9 hv9 hb9 HTAIL HF8 HVA8 HB8 HM
        generalize w8.drewN d4 = w9 at *
        go_wp2_with fail
        refine (HFR2.out w9 HF9.out).mono ?_
        rintro e w10 ⟨vb, rfl, hvb, hb10⟩
        have HVB : Hid (OwnV w10 w9.heap.size 9 vb (encs l)) := hvb
        have HVA10 : Hid (OwnV w10 pw 9 (.slice ac an cc) (encs l)) := HVA9.out.later hb10
        have HF10 : Hid (Le w10 p F2) := HF9.out.later hb10
        have HB10 : Hid (Below p w w10) := HB9.out.trans (hb10.mono (Nat.le_of_lt HF9.out.lt))
        clear hvb hb10 HF9 HB9 HVA9 HFR2
        go_wp2_with fail
        refine (keysame_any _ _ vb (.slice ac an cc) l w10 HVB.out HVA10.out).mono ?_
        rintro e w11 ⟨rfl, hb11⟩
        have HF11 : Hid (Le w11 p F2) := HF10.out.later hb11
        have HB11 : Hid (Below p w w11) := HB10.out.trans (hb11.mono (Nat.le_of_lt HF10.out.lt))
        clear hb11 HF10 HB10 HVB HVA10
        go_wp2_with fail
        refine (awake_any w11).mono ?_
        rintro e w12 ⟨rfl, hb12⟩
        have HB12 : Hid (Below p w w12) := HB11.out.trans (hb12.mono (Nat.le_of_lt HF11.out.lt))
        clear hb12 HB11 HF11
        go_wp2
        go_ret
        exact ⟨rfl, by rw [HE.out]; exact HB12.out⟩
      · cases b1
        · go_wp2_with fail
          refine (HM.out w8 HF8.out).mono ?_
          rintro e w9 ⟨rfl, d4, rfl⟩
          obtain ⟨hf9, hv9, hb9⟩ := HTAIL.out d4
          have HF9 : Hid (Le (w8.drewN d4) p F2) := hf9
          have HVA9 : Hid (OwnV (w8.drewN d4) pw 9 (.slice ac an cc) (encs l)) := hv9
          have HB9 : Hid (Below p w (w8.drewN d4)) := hb9
          clear hf9 hv9 hb9 HTAIL HF8 HVA8 HB8 HM
          generalize w8.drewN d4 = w9 at *
          go_wp2_with fail
          refine (HFR2.out w9 HF9.out).mono ?_
          rintro e w10 ⟨vb, rfl, hvb, hb10⟩
          have HVB : Hid (OwnV w10 w9.heap.size 9 vb (encs l)) := hvb
          have HVA10 : Hid (OwnV w10 pw 9 (.slice ac an cc) (encs l)) := HVA9.out.later hb10
          have HF10 : Hid (Le w10 p F2) := HF9.out.later hb10
          have HB10 : Hid (Below p w w10) := HB9.out.trans (hb10.mono (Nat.le_of_lt HF9.out.lt))
          clear hvb hb10 HF9 HB9 HVA9 HFR2
          go_wp2_with fail
          refine (keysame_any _ _ vb (.slice ac an cc) l w10 HVB.out HVA10.out).mono ?_
          rintro e w11 ⟨rfl, hb11⟩
          have HF11 : Hid (Le w11 p F2) := HF10.out.later hb11
          have HB11 : Hid (Below p w w11) := HB10.out.trans (hb11.mono (Nat.le_of_lt HF10.out.lt))
          clear hb11 HF10 HB10 HVB HVA10
          go_wp2_with fail
          refine (awake_any w11).mono ?_
          rintro e w12 ⟨rfl, hb12⟩
          have HB12 : Hid (Below p w w12) := HB11.out.trans (hb12.mono (Nat.le_of_lt HF11.out.lt))
          clear hb12 HB11 HF11
          go_wp2
          go_ret
          exact ⟨rfl, by rw [HE.out]; exact HB12.out⟩
        · have hss : (v1'.toList == v1'.toList) = true := by simp
          go_wp2_with fail
          refine (HM.out w8 HF8.out).mono ?_
          rintro e w9 ⟨rfl, d4, rfl⟩
          obtain ⟨hf9, hv9, hb9⟩ := HTAIL.out d4
          have HF9 : Hid (Le (w8.drewN d4) p F2) := hf9
          have HVA9 : Hid (OwnV (w8.drewN d4) pw 9 (.slice ac an cc) (encs l)) := hv9
          have HB9 : Hid (Below p w (w8.drewN d4)) := hb9
          clear hf9 hv9 hb9 HTAIL HF8 HVA8 HB8 HM
          generalize w8.drewN d4 = w9 at *
          go_wp2_with fail
          refine (HFR2.out w9 HF9.out).mono ?_
          rintro e w10 ⟨vb, rfl, hvb, hb10⟩
          have HVB : Hid (OwnV w10 w9.heap.size 9 vb (encs l)) := hvb
          have HVA10 : Hid (OwnV w10 pw 9 (.slice ac an cc) (encs l)) := HVA9.out.later hb10
          have HF10 : Hid (Le w10 p F2) := HF9.out.later hb10
          have HB10 : Hid (Below p w w10) := HB9.out.trans (hb10.mono (Nat.le_of_lt HF9.out.lt))
          clear hvb hb10 HF9 HB9 HVA9 HFR2
          go_wp2_with fail
          refine (keysame_any _ _ vb (.slice ac an cc) l w10 HVB.out HVA10.out).mono ?_
          rintro e w11 ⟨rfl, hb11⟩
          have HF11 : Hid (Le w11 p F2) := HF10.out.later hb11
          have HB11 : Hid (Below p w w11) := HB10.out.trans (hb11.mono (Nat.le_of_lt HF10.out.lt))
          clear hb11 HF10 HB10 HVB HVA10
          go_wp2_with fail
          refine (awake_any w11).mono ?_
          rintro e w12 ⟨rfl, hb12⟩
          have HB12 : Hid (Below p w w12) := HB11.out.trans (hb12.mono (Nat.le_of_lt HF11.out.lt))
          clear hb12 HB11 HF11
          go_wp2
          go_ret
          exact ⟨rfl, by rw [HE.out]; exact HB12.out⟩

/-! From the call to the statement. -/
set_option maxRecDepth 100000 in
theorem lifted (os : Os) (started : os.Started) (H : Type) (enc : TypeId × Value → H) :
    ReturnsInHanded {} Try.checked os 4 .any (Rows.learnStaysSpec.pre6 enc Try.prog Try.f4 Rows.learnStaysRow.domain false) (Rows.learnStaysSpec.post enc Try.prog Try.f4 false true false false) := by
  refine returnsInHanded_of_change (C := Try.checked) own started (by kernel_rfl) Try.func4
    (ChangeSpec.witness6 (enc := enc) (C := Try.checked) false ⟨#[], #[.slice none 0 0, .int .i64 0, .string ByteArray.empty], []⟩ 8 (by kernel_rfl) (by kernel_rfl) (by kernel_rfl) (by kernel_rfl)) ?_
  intro W base args ds gs before hval0 hW hcnd _
  have hval : ∀ (j : Nat) t v, Try.f4.params[j]? = some t → args[j]? = some v → Value.okWide Try.prog W .any base t v := hval0
  have hW' := hW
  obtain ⟨p, q, hA0, hV, rfl, hfz, hnd⟩ := hW
  have hA : DataW.TrodAll enc Try.prog W 0 (fun _ => true) true Try.f4.params.toList args.toList ds p := hA0
  rw [Try.params4] at hA hval
  obtain ⟨v0, vs0, d0, ds0, p0, q0, hargs, rfl, rfl, h0, r0⟩ := trodAll_cons hA
  obtain ⟨v1, vs1, d1, ds1, p1, q1, rfl, rfl, rfl, h1, r1⟩ := trodAll_cons r0
  obtain ⟨v2, vs2, d2, ds2, p2, q2, rfl, rfl, rfl, h2, r2⟩ := trodAll_cons r1
  obtain ⟨rfl, rfl, rfl⟩ := trodAll_nil r2
  obtain rfl : args = #[v0, v1, v2] := by cases args; simp_all
  obtain ⟨rfl, rfl⟩ := trodVars_none hV
  obtain ⟨a0, len0, cap0, rfl⟩ := okWide_slice Try.underlying22 (hval 0 22 v0 rfl rfl)
  have k0 := h0
  have lt0 : ∀ x ∈ p0, x.block < W.heap.size := by obtain ⟨m, hm⟩ := k0; exact DataW.trod_lt m _ _ _ hm
  obtain ⟨O0, w0⟩ := open_rws h0
  obtain ⟨a1, rfl, rfl, rfl, w1⟩ := open_int Try.underlying3 (hval 1 3 v1 rfl rfl) h1
  obtain ⟨a2, rfl, rfl, rfl, w2⟩ := open_string Try.underlying9 (hval 2 9 v2 rfl rfl) h2
  clear hA0 hval0
  refine (walk a0 len0 cap0 O0 a1 a2 W w0 w1 w2).mono fun e W' ⟨he, bel⟩ => ?_
  subst he
  exact ⟨_, rfl, _, _, _, [], _, [], hW', trodAll_mk1 (shut_bool Try.underlying4 _), (trodAll_cons_mk (Below.trod laidOut (by kernel_rfl) (of_decide_eq_true (by kernel_rfl)) k0 bel lt0) (trodAll_cons_mk (shut_int Try.underlying3 w1) (trodAll_cons_mk (shut_string Try.underlying9 w2) trodAll_mk0))), rfl, bel.frame _, fun h => by cases h⟩

theorem over : Rows.learnStaysRow.holds Try.pinned (OpenSpec.ofChange Rows.learnStaysSpec) :=
  OpenClaim.holds_of_wide 4 Try.f4 rfl rfl rfl rfl rfl rfl rfl ⟨rfl, rfl, rfl, rfl, rfl⟩ rfl rfl rfl rfl rfl (by kernel_rfl) Try.func4 (by kernel_rfl)
    (of_decide_eq_true (by kernel_rfl)) (by unfold Func.isWrapper; first | (rw [if_pos (by decide +kernel)]; kernel_rfl) | (rw [if_neg (by decide +kernel)]; exact ⟨rfl, rfl⟩))
    (fun os started H enc _ => lifted os started H enc)
end Go.Proofs.Ytfibjbjheilpfaa.learnStays
namespace Go.Proofs.Ytfibjbjheilpfaa
theorem learnStays_holds : Rows.LearnStaysSaid := learnStays.over
#print axioms learnStays_holds
end Go.Proofs.Ytfibjbjheilpfaa
