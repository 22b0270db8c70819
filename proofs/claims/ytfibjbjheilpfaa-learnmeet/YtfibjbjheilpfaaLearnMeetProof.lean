/-
  Two learners that learned some of the same values have prefixes of which one begins the other one: sautoirlaw19.LearnMeet returns true at all values and both numbers, and what came in reads as it did; no condition.
-/
import Derived.Test.YtfibjbjheilpfaaRows
import Derived.Test.YtfibjbjheilpfaaLeJ
import Derived.WalkKit
import Derived.ProofKit
import Derived.OpenShut
import Derived.ShutString
import Derived.ChangeOld
import Derived.Below
namespace Go.Proofs.Ytfibjbjheilpfaa.learnMeet
open Go.ChangeShapes Go.WideShapes Go.ChangeAt Go.RowKit
open Go.ChangeMaps (open_string shut_string)
set_option linter.unusedSimpArgs false
set_option linter.unusedVariables false

theorem own : ownKnob Try.prog.godebug = none := by kernel_rfl
theorem laidOut : laidOutB Try.prog = true := by kernel_rfl

/-! The law returns true, and writes nothing that was there. -/
set_option maxRecDepth 100000 in
set_option maxHeartbeats 4000000 in
theorem walk (a0 : Option Addr) (len0 cap0 : Nat) (z0 : List ByteArray) (a1 : Int) (a2 : Int) (w : World) (w0 : Strs w a0 len0 z0) (w1 : (Lit.int .u64 a1).wf = true) (w2 : (Lit.int .u64 a2).wf = true) :
    Calls Try.prog 5 #[.slice a0 len0 cap0, .int .u64 a1, .int .u64 a2] w fun e w' => e = .returned (.bool true) ∧ Below w.heap.size w w' := by
  have HZ : Hid (Strs w a0 len0 z0) := w0
  have hln : len0 ≤ maxLen := w0.2.2.1
  unfold maxLen at hln
  clear w0
  go_enter Try.func5, Try.ntmps5
  go_wp2_with fail
  refine (new_any w).mono ?_
  rintro e v1 ⟨rfl, hS, hb⟩
  go_wp2_with fail
  refine (new_any v1).mono ?_
  rintro e v2 ⟨rfl, hT, hb2⟩
  have HS : Hid (Le v2 w.heap.size nilC) := hS.later hb2
  have HT : Hid (Le v2 v1.heap.size nilC) := hT
  have HPQ : Hid (v1.heap.size ≠ w.heap.size) := Nat.ne_of_gt hS.lt
  have HPL : Hid (w.heap.size ≤ v1.heap.size) := Nat.le_of_lt hS.lt
  have HB : Hid (Below w.heap.size w v2) := hb.trans (hb2.mono hb.size)
  clear hS hT hb hb2
  generalize hp : w.heap.size = p at *
  have HE : Hid (w.heap.size = p) := hp
  clear hp
  generalize v1.heap.size = q at *
  go_wp2
  go_loopw [9, 10, 16] (fun _ _ t wr => ∃ k : Nat, t = .int .i64 (k : Nat) ∧ k ≤ len0 ∧ Hid (∃ F G, Le wr p F ∧ Le wr q G ∧ Of z0 F ∧ Of z0 G) ∧ Hid (Below p w wr)) (fun _ _ t _ => len0 - (intOf t).toNat)
  case atStart => exact ⟨0, rfl, by omega, ⟨nilC, nilC, HS.out, HT.out, Of.nil _, Of.nil _⟩, HB.out⟩
  case round =>
    obtain ⟨k, rfl, hk, HR, HW⟩ := hrel
    clear HS HT HB
    obtain ⟨F, G, h1, h2, h3, h4⟩ := HR.out
    have HF : Hid (Le wr p F) := h1
    have HG : Hid (Le wr q G) := h2
    have HOF : Hid (Of z0 F) := h3
    have HOG : Hid (Of z0 G) := h4
    clear HR h1 h2 h3 h4
    by_cases hlt : k < len0 ∧ k < 40
    · obtain ⟨b, off, rfl, hc⟩ : ∃ b off, a0 = some ⟨b, off, none⟩ ∧ ∀ j x, z0[j]? = some x → w.cell? ⟨b, off + j, none⟩ = some (.string x) := by
        rcases HZ.out.2.2.2 with h | h
        · omega
        · exact h
      have hkz : k < z0.length := by rw [HZ.out.1]; exact hlt.1
      have hx : z0[k]? = some z0[k] := List.getElem?_eq_getElem hkz
      have hxm : z0[k].size ≤ maxLen := HZ.out.2.1 _ (List.getElem_mem hkz)
      generalize z0[k] = x at hx hxm
      have HX : Hid (z0[k]? = some x) := hx
      have d0 := (HW.out.cell (by have := World.block_lt_of_cell? _ _ (hc k x hx); rw [← HE.out]; exact this)).trans (hc k x hx)
      have hl1 := hlt.1
      have hl2 := hlt.2
      have HLT : Hid (k < len0 ∧ k < 40) := hlt
      clear hc hkz hx hlt
      unfold maxLen at hxm
      have HCV : Hid (x.size ≤ 64 → cutv x = x) := fun h => by unfold cutv; rw [if_neg (by omega)]
      have HCV2 : Hid (64 < x.size → cutv x = x.extract 0 64) := fun h => by unfold cutv; rw [if_pos h]
      by_cases hsz : 64 < x.size
      · go_upto_region 8 with fail
        have HY : Hid (cutv x = x.extract 0 64) := HCV2.out hsz
        have hys : (x.extract 0 64).size ≤ 64 := by rw [← HY.out]; exact cutv_le x
        generalize x.extract 0 64 = y at *
        clear d0 hsz hxm HCV HCV2
        cases hA : (bits BinOp.and IntKind.u64 (a1 / 2 ^ k) 1 == 1) with
        | true =>
          cases hB : (bits BinOp.and IntKind.u64 (a2 / 2 ^ k) 1 == 1) with
          | true =>
            go_wp2_with fail
            refine (learn_any p F (k : Nat) y wr HF.out (by unfold maxLen; omega)).mono ?_
            rintro e w5 ⟨rfl, hF5, hg5⟩
            have HF5 : Hid (Le w5 p (learnC F (k : Nat) y)) := hF5
            have HG5 : Hid (Le w5 q G) := HG.out.other hg5 HPQ.out
            have HW5 : Hid (Below p w w5) := HW.out.trans (below_of_grown hg5 (Nat.le_of_lt HF.out.lt) (Nat.le_refl _))
            have HOF5 : Hid (Of z0 (learnC F (k : Nat) y)) := by rw [← HY.out]; exact HOF.out.set HX.out (by omega)
            clear hF5 hg5 HF HG HW HOF
            generalize learnC F (k : Nat) y = F5 at *
            generalize learnE F (k : Nat) y = lf at *
            go_wp2_with fail
            refine (learn_any q G (k : Nat) y w5 HG5.out (by unfold maxLen; omega)).mono ?_
            rintro e w6 ⟨rfl, hG6, hg6⟩
            have HG6 : Hid (Le w6 q (learnC G (k : Nat) y)) := hG6
            have HF6 : Hid (Le w6 p F5) := HF5.out.other hg6 (fun e => HPQ.out e.symm)
            have HW6 : Hid (Below p w w6) := HW5.out.trans (below_of_grown hg6 (Nat.le_of_lt HF5.out.lt) HPL.out)
            have HOG6 : Hid (Of z0 (learnC G (k : Nat) y)) := by rw [← HY.out]; exact HOG.out.set HX.out (by omega)
            clear hG6 hg6 HF5 HG5 HW5 HOG
            generalize learnC G (k : Nat) y = G6 at *
            generalize learnE G (k : Nat) y = lg at *
            go_wp2_with fail
            go_roundw
            case rel => exact ⟨k + 1, by go_num, by omega, ⟨_, _, HF6.out, HG6.out, HOF5.out, HOG6.out⟩, HW6.out⟩
            case measure => simp [intOf]; omega
          | false =>
            go_wp2_with fail
            refine (learn_any p F (k : Nat) y wr HF.out (by unfold maxLen; omega)).mono ?_
            rintro e w5 ⟨rfl, hF5, hg5⟩
            have HF5 : Hid (Le w5 p (learnC F (k : Nat) y)) := hF5
            have HG5 : Hid (Le w5 q G) := HG.out.other hg5 HPQ.out
            have HW5 : Hid (Below p w w5) := HW.out.trans (below_of_grown hg5 (Nat.le_of_lt HF.out.lt) (Nat.le_refl _))
            have HOF5 : Hid (Of z0 (learnC F (k : Nat) y)) := by rw [← HY.out]; exact HOF.out.set HX.out (by omega)
            clear hF5 hg5 HF HG HW HOF
            generalize learnC F (k : Nat) y = F5 at *
            generalize learnE F (k : Nat) y = lf at *
            go_wp2_with fail
            go_roundw
            case rel => exact ⟨k + 1, by go_num, by omega, ⟨_, _, HF5.out, HG5.out, HOF5.out, HOG.out⟩, HW5.out⟩
            case measure => simp [intOf]; omega
        | false =>
          cases hB : (bits BinOp.and IntKind.u64 (a2 / 2 ^ k) 1 == 1) with
          | true =>
            go_wp2_with fail
            refine (learn_any q G (k : Nat) y wr HG.out (by unfold maxLen; omega)).mono ?_
            rintro e w6 ⟨rfl, hG6, hg6⟩
            have HG6 : Hid (Le w6 q (learnC G (k : Nat) y)) := hG6
            have HF6 : Hid (Le w6 p F) := HF.out.other hg6 (fun e => HPQ.out e.symm)
            have HW6 : Hid (Below p w w6) := HW.out.trans (below_of_grown hg6 (Nat.le_of_lt HF.out.lt) HPL.out)
            have HOG6 : Hid (Of z0 (learnC G (k : Nat) y)) := by rw [← HY.out]; exact HOG.out.set HX.out (by omega)
            clear hG6 hg6 HF HG HW HOG
            generalize learnC G (k : Nat) y = G6 at *
            generalize learnE G (k : Nat) y = lg at *
            go_wp2_with fail
            go_roundw
            case rel => exact ⟨k + 1, by go_num, by omega, ⟨_, _, HF6.out, HG6.out, HOF.out, HOG6.out⟩, HW6.out⟩
            case measure => simp [intOf]; omega
          | false =>
            go_wp2_with fail
            go_roundw
            case rel => exact ⟨k + 1, by go_num, by omega, ⟨_, _, HF.out, HG.out, HOF.out, HOG.out⟩, HW.out⟩
            case measure => simp [intOf]; omega
      · go_upto_region 8 with fail
        have HY : Hid (cutv x = x) := HCV.out (by omega)
        have hys : x.size ≤ 64 := by omega
        clear d0 hsz hxm HCV HCV2
        cases hA : (bits BinOp.and IntKind.u64 (a1 / 2 ^ k) 1 == 1) with
        | true =>
          cases hB : (bits BinOp.and IntKind.u64 (a2 / 2 ^ k) 1 == 1) with
          | true =>
            go_wp2_with fail
            refine (learn_any p F (k : Nat) x wr HF.out (by unfold maxLen; omega)).mono ?_
            rintro e w5 ⟨rfl, hF5, hg5⟩
            have HF5 : Hid (Le w5 p (learnC F (k : Nat) x)) := hF5
            have HG5 : Hid (Le w5 q G) := HG.out.other hg5 HPQ.out
            have HW5 : Hid (Below p w w5) := HW.out.trans (below_of_grown hg5 (Nat.le_of_lt HF.out.lt) (Nat.le_refl _))
            have HOF5 : Hid (Of z0 (learnC F (k : Nat) x)) := by rw [← HY.out]; exact HOF.out.set HX.out (by omega)
            clear hF5 hg5 HF HG HW HOF
            generalize learnC F (k : Nat) x = F5 at *
            generalize learnE F (k : Nat) x = lf at *
            go_wp2_with fail
            refine (learn_any q G (k : Nat) x w5 HG5.out (by unfold maxLen; omega)).mono ?_
            rintro e w6 ⟨rfl, hG6, hg6⟩
            have HG6 : Hid (Le w6 q (learnC G (k : Nat) x)) := hG6
            have HF6 : Hid (Le w6 p F5) := HF5.out.other hg6 (fun e => HPQ.out e.symm)
            have HW6 : Hid (Below p w w6) := HW5.out.trans (below_of_grown hg6 (Nat.le_of_lt HF5.out.lt) HPL.out)
            have HOG6 : Hid (Of z0 (learnC G (k : Nat) x)) := by rw [← HY.out]; exact HOG.out.set HX.out (by omega)
            clear hG6 hg6 HF5 HG5 HW5 HOG
            generalize learnC G (k : Nat) x = G6 at *
            generalize learnE G (k : Nat) x = lg at *
            go_wp2_with fail
            go_roundw
            case rel => exact ⟨k + 1, by go_num, by omega, ⟨_, _, HF6.out, HG6.out, HOF5.out, HOG6.out⟩, HW6.out⟩
            case measure => simp [intOf]; omega
          | false =>
            go_wp2_with fail
            refine (learn_any p F (k : Nat) x wr HF.out (by unfold maxLen; omega)).mono ?_
            rintro e w5 ⟨rfl, hF5, hg5⟩
            have HF5 : Hid (Le w5 p (learnC F (k : Nat) x)) := hF5
            have HG5 : Hid (Le w5 q G) := HG.out.other hg5 HPQ.out
            have HW5 : Hid (Below p w w5) := HW.out.trans (below_of_grown hg5 (Nat.le_of_lt HF.out.lt) (Nat.le_refl _))
            have HOF5 : Hid (Of z0 (learnC F (k : Nat) x)) := by rw [← HY.out]; exact HOF.out.set HX.out (by omega)
            clear hF5 hg5 HF HG HW HOF
            generalize learnC F (k : Nat) x = F5 at *
            generalize learnE F (k : Nat) x = lf at *
            go_wp2_with fail
            go_roundw
            case rel => exact ⟨k + 1, by go_num, by omega, ⟨_, _, HF5.out, HG5.out, HOF5.out, HOG.out⟩, HW5.out⟩
            case measure => simp [intOf]; omega
        | false =>
          cases hB : (bits BinOp.and IntKind.u64 (a2 / 2 ^ k) 1 == 1) with
          | true =>
            go_wp2_with fail
            refine (learn_any q G (k : Nat) x wr HG.out (by unfold maxLen; omega)).mono ?_
            rintro e w6 ⟨rfl, hG6, hg6⟩
            have HG6 : Hid (Le w6 q (learnC G (k : Nat) x)) := hG6
            have HF6 : Hid (Le w6 p F) := HF.out.other hg6 (fun e => HPQ.out e.symm)
            have HW6 : Hid (Below p w w6) := HW.out.trans (below_of_grown hg6 (Nat.le_of_lt HF.out.lt) HPL.out)
            have HOG6 : Hid (Of z0 (learnC G (k : Nat) x)) := by rw [← HY.out]; exact HOG.out.set HX.out (by omega)
            clear hG6 hg6 HF HG HW HOG
            generalize learnC G (k : Nat) x = G6 at *
            generalize learnE G (k : Nat) x = lg at *
            go_wp2_with fail
            go_roundw
            case rel => exact ⟨k + 1, by go_num, by omega, ⟨_, _, HF6.out, HG6.out, HOF.out, HOG6.out⟩, HW6.out⟩
            case measure => simp [intOf]; omega
          | false =>
            go_wp2_with fail
            go_roundw
            case rel => exact ⟨k + 1, by go_num, by omega, ⟨_, _, HF.out, HG.out, HOF.out, HOG.out⟩, HW.out⟩
            case measure => simp [intOf]; omega
    · by_cases hl2 : k < len0
      · obtain ⟨b, off, rfl, hc⟩ : ∃ b off, a0 = some ⟨b, off, none⟩ ∧ ∀ j x, z0[j]? = some x → w.cell? ⟨b, off + j, none⟩ = some (.string x) := by
          rcases HZ.out.2.2.2 with h | h
          · omega
          · exact h
        have hkz : k < z0.length := by rw [HZ.out.1]; exact hl2
        have hx : z0[k]? = some z0[k] := List.getElem?_eq_getElem hkz
        generalize z0[k] = x at hx
        have d0 := (HW.out.cell (by have := World.block_lt_of_cell? _ _ (hc k x hx); rw [← HE.out]; exact this)).trans (hc k x hx)
        have h40 : 40 ≤ k := by omega
        clear hc hkz hx hlt
        go_wp2_with fail
        obtain ⟨nF, nG, hF1, hG1, hM1⟩ := meet_at HOF.out HOG.out HF.out HG.out
        refine hF1.mono ?_
        clear hF1
        rintro e w1 ⟨rfl, d, rfl⟩
        go_wp2_with fail
        refine (hG1 d).mono ?_
        clear hG1
        rintro e w2 ⟨rfl, d2, rfl⟩
        generalize hm : min (nF : Int) (nG : Int) = m
        have HM : Hid (fromC F 0 m = fromC G 0 m ∧ ((fromC F 0 m).length : Int) = m) := (hM1 m hm.symm).1
        have hm4 : 0 ≤ m ∧ m ≤ 400 := (hM1 m hm.symm).2
        have hmw : (Lit.int .i64 m).wf = true := wf_i64 (by omega) (by omega)
        have HMI : Hid (min (nF : Int) (nG : Int) = m) := hm
        clear hM1 hm
        have HW2 : Hid (Below p w (wr.drewN (d + d2))) := below_drews HW.out _
        have HF2 : Hid (Le (wr.drewN (d + d2)) p F) := HF.out.drews _
        have HG2 : Hid (Le (wr.drewN (d + d2)) q G) := HG.out.drews _
        clear HF HG HW
        go_wp2_with fail
        rw [HMI.out]
        generalize wr.drewN (d + d2) = w3 at *
        have hsz := HW2.out.size
        refine (from_any p F 0 m w3 HF2.out (by decide) hmw).mono ?_
        rintro e w4 ⟨va, rfl, hva, hb4⟩
        have HVA : Hid (OwnV w4 w3.heap.size 9 va (encs (fromC F 0 m))) := hva
        have HF4 : Hid (Le w4 p F) := HF2.out.later hb4
        have HG4 : Hid (Le w4 q G) := HG2.out.later hb4
        have HB4 : Hid (Below p w w4) := HW2.out.trans (hb4.mono (by have := HF2.out.lt; omega))
        clear hva hb4 HF2 HG2 HW2
        go_wp2_with fail
        refine (from_any q G 0 m w4 HG4.out (by decide) hmw).mono ?_
        rintro e w5 ⟨vb, rfl, hvb, hb5⟩
        have HVA5 : Hid (OwnV w5 w3.heap.size 9 va (encs (fromC F 0 m))) := HVA.out.later hb5
        have HVB5 : Hid (OwnV w5 w4.heap.size 9 vb (encs (fromC F 0 m))) := by rw [Hid, HM.out.1]; exact hvb
        have HF5 : Hid (Le w5 p F) := HF4.out.later hb5
        have HB5 : Hid (Below p w w5) := HB4.out.trans (hb5.mono (by have := HF4.out.lt; omega))
        clear hvb hb5 HF4 HG4 HB4 HVA
        go_wp2_with fail
        refine (keysame_any _ _ va vb _ w5 HVA5.out HVB5.out).mono ?_
        rintro e w6 ⟨rfl, hb6⟩
        have HF6 : Hid (Le w6 p F) := HF5.out.later hb6
        have HB6 : Hid (Below p w w6) := HB5.out.trans (hb6.mono (by have := HF5.out.lt; omega))
        clear hb6 HF5 HB5 HVA5 HVB5
        go_wp2_with fail
        refine (from_any p F 0 m w6 HF6.out (by decide) hmw).mono ?_
        rintro e w7 ⟨vc, rfl, hvc, hb7⟩
        have HB7 : Hid (Below p w w7) := HB6.out.trans (hb7.mono (by have := HF6.out.lt; omega))
        obtain ⟨ac, cc, rfl, -⟩ := hvc.shape
        have HLM : Hid ((((encs (fromC F 0 m)).length : Nat) : Int) = m) := by rw [Hid, encs, List.length_map]; exact HM.out.2
        have hp7 : p ≤ w7.heap.size := Nat.le_trans (Nat.le_of_lt HF6.out.lt) hb7.size
        clear hb7 HB6 HF6 hvc HM
        generalize (encs (fromC F 0 m)).length = lc at *
        obtain rfl : ((lc : Nat) : Int) = m := HLM.out
        go_wp2_with fail
        refine (awake_any w7).mono ?_
        rintro e w8 ⟨rfl, hb8⟩
        have HB8 : Hid (Below p w w8) := HB7.out.trans (hb8.mono hp7)
        clear hb8
        go_wp2
        go_ret
        exact ⟨rfl, by rw [HE.out]; exact HB8.out⟩
      · go_wp2_with fail
        obtain ⟨nF, nG, hF1, hG1, hM1⟩ := meet_at HOF.out HOG.out HF.out HG.out
        refine hF1.mono ?_
        clear hF1
        rintro e w1 ⟨rfl, d, rfl⟩
        go_wp2_with fail
        refine (hG1 d).mono ?_
        clear hG1
        rintro e w2 ⟨rfl, d2, rfl⟩
        generalize hm : min (nF : Int) (nG : Int) = m
        have HM : Hid (fromC F 0 m = fromC G 0 m ∧ ((fromC F 0 m).length : Int) = m) := (hM1 m hm.symm).1
        have hm4 : 0 ≤ m ∧ m ≤ 400 := (hM1 m hm.symm).2
        have hmw : (Lit.int .i64 m).wf = true := wf_i64 (by omega) (by omega)
        have HMI : Hid (min (nF : Int) (nG : Int) = m) := hm
        clear hM1 hm
        have HW2 : Hid (Below p w (wr.drewN (d + d2))) := below_drews HW.out _
        have HF2 : Hid (Le (wr.drewN (d + d2)) p F) := HF.out.drews _
        have HG2 : Hid (Le (wr.drewN (d + d2)) q G) := HG.out.drews _
        clear HF HG HW
        go_wp2_with fail
        rw [HMI.out]
        generalize wr.drewN (d + d2) = w3 at *
        have hsz := HW2.out.size
        refine (from_any p F 0 m w3 HF2.out (by decide) hmw).mono ?_
        rintro e w4 ⟨va, rfl, hva, hb4⟩
        have HVA : Hid (OwnV w4 w3.heap.size 9 va (encs (fromC F 0 m))) := hva
        have HF4 : Hid (Le w4 p F) := HF2.out.later hb4
        have HG4 : Hid (Le w4 q G) := HG2.out.later hb4
        have HB4 : Hid (Below p w w4) := HW2.out.trans (hb4.mono (by have := HF2.out.lt; omega))
        clear hva hb4 HF2 HG2 HW2
        go_wp2_with fail
        refine (from_any q G 0 m w4 HG4.out (by decide) hmw).mono ?_
        rintro e w5 ⟨vb, rfl, hvb, hb5⟩
        have HVA5 : Hid (OwnV w5 w3.heap.size 9 va (encs (fromC F 0 m))) := HVA.out.later hb5
        have HVB5 : Hid (OwnV w5 w4.heap.size 9 vb (encs (fromC F 0 m))) := by rw [Hid, HM.out.1]; exact hvb
        have HF5 : Hid (Le w5 p F) := HF4.out.later hb5
        have HB5 : Hid (Below p w w5) := HB4.out.trans (hb5.mono (by have := HF4.out.lt; omega))
        clear hvb hb5 HF4 HG4 HB4 HVA
        go_wp2_with fail
        refine (keysame_any _ _ va vb _ w5 HVA5.out HVB5.out).mono ?_
        rintro e w6 ⟨rfl, hb6⟩
        have HF6 : Hid (Le w6 p F) := HF5.out.later hb6
        have HB6 : Hid (Below p w w6) := HB5.out.trans (hb6.mono (by have := HF5.out.lt; omega))
        clear hb6 HF5 HB5 HVA5 HVB5
        go_wp2_with fail
        refine (from_any p F 0 m w6 HF6.out (by decide) hmw).mono ?_
        rintro e w7 ⟨vc, rfl, hvc, hb7⟩
        have HB7 : Hid (Below p w w7) := HB6.out.trans (hb7.mono (by have := HF6.out.lt; omega))
        obtain ⟨ac, cc, rfl, -⟩ := hvc.shape
        have HLM : Hid ((((encs (fromC F 0 m)).length : Nat) : Int) = m) := by rw [Hid, encs, List.length_map]; exact HM.out.2
        have hp7 : p ≤ w7.heap.size := Nat.le_trans (Nat.le_of_lt HF6.out.lt) hb7.size
        clear hb7 HB6 HF6 hvc HM
        generalize (encs (fromC F 0 m)).length = lc at *
        obtain rfl : ((lc : Nat) : Int) = m := HLM.out
        go_wp2_with fail
        refine (awake_any w7).mono ?_
        rintro e w8 ⟨rfl, hb8⟩
        have HB8 : Hid (Below p w w8) := HB7.out.trans (hb8.mono hp7)
        clear hb8
        go_wp2
        go_ret
        exact ⟨rfl, by rw [HE.out]; exact HB8.out⟩

/-! From the call to the statement. -/
set_option maxRecDepth 100000 in
theorem lifted (os : Os) (started : os.Started) (H : Type) (enc : TypeId × Value → H) :
    ReturnsInHanded {} Try.checked os 5 .any (Rows.learnMeetSpec.pre6 enc Try.prog Try.f5 Rows.learnMeetRow.domain false) (Rows.learnMeetSpec.post enc Try.prog Try.f5 false true false false) := by
  refine returnsInHanded_of_change (C := Try.checked) own started (by kernel_rfl) Try.func5
    (ChangeSpec.witness6 (enc := enc) (C := Try.checked) false ⟨#[], #[.slice none 0 0, .int .u64 0, .int .u64 0], []⟩ 8 (by kernel_rfl) (by kernel_rfl) (by kernel_rfl) (by kernel_rfl)) ?_
  intro W base args ds gs before hval0 hW hcnd _
  have hval : ∀ (j : Nat) t v, Try.f5.params[j]? = some t → args[j]? = some v → Value.okWide Try.prog W .any base t v := hval0
  have hW' := hW
  obtain ⟨p, q, hA0, hV, rfl, hfz, hnd⟩ := hW
  have hA : DataW.TrodAll enc Try.prog W 0 (fun _ => true) true Try.f5.params.toList args.toList ds p := hA0
  rw [Try.params5] at hA hval
  obtain ⟨v0, vs0, d0, ds0, p0, q0, hargs, rfl, rfl, h0, r0⟩ := trodAll_cons hA
  obtain ⟨v1, vs1, d1, ds1, p1, q1, rfl, rfl, rfl, h1, r1⟩ := trodAll_cons r0
  obtain ⟨v2, vs2, d2, ds2, p2, q2, rfl, rfl, rfl, h2, r2⟩ := trodAll_cons r1
  obtain ⟨rfl, rfl, rfl⟩ := trodAll_nil r2
  obtain rfl : args = #[v0, v1, v2] := by cases args; simp_all
  obtain ⟨rfl, rfl⟩ := trodVars_none hV
  obtain ⟨a0, len0, cap0, rfl⟩ := okWide_slice Try.underlying36 (hval 0 36 v0 rfl rfl)
  have k0 := h0
  have lt0 : ∀ x ∈ p0, x.block < W.heap.size := by obtain ⟨m, hm⟩ := k0; exact DataW.trod_lt m _ _ _ hm
  obtain ⟨z0, w0⟩ : ∃ ss, Strs W a0 len0 ss := by
    obtain ⟨fuel, hf⟩ := h0
    rcases open_strings Try.underlying36 Try.underlying9 (by kernel_rfl) hf with ⟨hcs, _⟩ | ⟨x, l, c, ss, hcs, _, hl, hm, hz, _, hcell, hwz⟩
    · simp [Value.cells] at hcs
      obtain ⟨rfl, rfl, rfl⟩ := hcs
      exact ⟨[], Strs.none⟩
    · simp [Value.cells] at hcs
      obtain ⟨rfl, rfl, rfl⟩ := hcs
      exact ⟨_, Strs.of hl hm (by simpa using hz) hcell hwz⟩
  obtain ⟨a1, rfl, rfl, rfl, w1⟩ := open_int Try.underlying41 (hval 1 41 v1 rfl rfl) h1
  obtain ⟨a2, rfl, rfl, rfl, w2⟩ := open_int Try.underlying41 (hval 2 41 v2 rfl rfl) h2
  clear hA0 hval0
  refine (walk a0 len0 cap0 z0 a1 a2 W w0 w1 w2).mono fun e W' ⟨he, bel⟩ => ?_
  subst he
  exact ⟨_, rfl, _, _, _, [], _, [], hW', trodAll_mk1 (shut_bool Try.underlying4 _), (trodAll_cons_mk (Below.trod laidOut (by kernel_rfl) (of_decide_eq_true (by kernel_rfl)) k0 bel lt0) (trodAll_cons_mk (shut_int Try.underlying41 w1) (trodAll_cons_mk (shut_int Try.underlying41 w2) trodAll_mk0))), rfl, bel.frame _, fun h => by cases h⟩

theorem over : Rows.learnMeetRow.holds Try.pinned (OpenSpec.ofChange Rows.learnMeetSpec) :=
  OpenClaim.holds_of_wide 5 Try.f5 rfl rfl rfl rfl rfl rfl rfl ⟨rfl, rfl, rfl, rfl, rfl⟩ rfl rfl rfl rfl rfl (by kernel_rfl) Try.func5 (by kernel_rfl)
    (of_decide_eq_true (by kernel_rfl)) (by unfold Func.isWrapper; first | (rw [if_pos (by decide +kernel)]; kernel_rfl) | (rw [if_neg (by decide +kernel)]; exact ⟨rfl, rfl⟩))
    (fun os started H enc _ => lifted os started H enc)
end Go.Proofs.Ytfibjbjheilpfaa.learnMeet
namespace Go.Proofs.Ytfibjbjheilpfaa
theorem learnMeet_holds : Rows.LearnMeetSaid := learnMeet.over
#print axioms learnMeet_holds
end Go.Proofs.Ytfibjbjheilpfaa
