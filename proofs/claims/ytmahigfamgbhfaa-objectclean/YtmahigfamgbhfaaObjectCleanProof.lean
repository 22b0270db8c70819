/-
  For every list of versions and every two numbers: an object of the first twenty of them, without elder versions, is read as ahead, at that number and at each later one, and is right (the law ObjectClean returns true and leaves its arguments as they were).
-/
import Derived.Test.YtmahigfamgbhfaaRows
import Derived.Test.YtmahigfamgbhfaaObO
import Derived.Test.YtmahigfamgbhfaaObC
import Derived.Test.YtmahigfamgbhfaaObH
import Derived.Test.YtmahigfamgbhfaaObJ
import Derived.WalkKit
import Derived.ProofKit
import Derived.OpenShut
import Derived.ShutString
import Derived.ChangeOld
import Derived.Below
namespace Go.Proofs.Ytmahigfamgbhfaa.objectClean
open Go.ChangeShapes Go.WideShapes Go.ChangeAt Go.RowKit
open Go.ChangeMaps (open_string shut_string)
set_option linter.unusedSimpArgs false
set_option linter.unusedVariables false

theorem own : ownKnob Try.prog.godebug = none := by kernel_rfl
theorem laidOut : laidOutB Try.prog = true := by kernel_rfl

theorem fld25 (a : Option Addr) (n c : Nat) (w : World) : (Instr.field 25 (.agg #[.slice a n c]) 0).run Try.prog w = .ok (.slice a n c) w := by kernel_rfl

/-! The law returns true, and writes nothing that was there. -/
set_option maxRecDepth 100000 in
set_option maxHeartbeats 4000000 in
theorem walk (a0 : Option Addr) (len0 cap0 : Nat) (z0 : List Ver) (a1 : Int) (a2 : Int) (w : World) (w0 : VRow w a0 len0 z0) (w1 : (Lit.int .i64 a1).wf = true) (w2 : (Lit.int .i64 a2).wf = true) :
    Calls Try.prog 6 #[.slice a0 len0 cap0, .int .i64 a1, .int .i64 a2] w fun e w' => e = .returned (.bool true) ∧ Below w.heap.size w w' := by
  have hf25 := fld25
  have hshort : (z0.take 20).length ≤ 20 := by simp; omega
  have h1 := ours9_any a0 len0 cap0 z0 w w0
  generalize z0.take 20 = l at *
  go_enter Try.func6, Try.ntmps6
  go_wp2_with fail
  refine h1.mono ?_
  clear h1
  rintro e w1 ⟨u1, rfl, ho1, hb1⟩
  obtain ⟨ua, un, uc, rfl⟩ := ho1.isSlice
  have hB2 : Below w1.heap.size w1 (w1.alloc (.cells #[.slice ua un uc] 25)) := (Below.refl _ _).alloc (Nat.le_refl _) _
  have HB2 : Hid (Below w.heap.size w (w1.alloc (.cells #[.slice ua un uc] 25))) := hb1.trans (hB2.mono hb1.size)
  have HO2 : Hid (Ob (w1.alloc (.cells #[.slice ua un uc] 25)) (.slice ua un uc) l) := ho1.later hB2
  have HV2 : Hid (VarO (w1.alloc (.cells #[.slice ua un uc] 25)) w1.heap.size (.slice ua un uc)) := heap_alloc_new w1 _
  clear hB2 hb1 ho1 w0
  go_upto_region 2 with fail
  generalize w1.alloc (.cells #[.slice ua un uc] 25) = w2 at *
  generalize w1.heap.size = p9 at *
  have q2 := HV2.out.cell
  obtain ⟨xa, xc, xe, hvr, -⟩ := HO2.out
  simp only [Value.slice.injEq] at xe
  obtain ⟨rfl, rfl, rfl⟩ := xe
  have h2 := right_any ua l.length uc l w2 hvr
  clear hvr
  go_wp2_with fail
  refine h2.mono ?_
  clear h2 q2
  rintro e w3 ⟨rfl, hb3⟩
  have HB3 : Hid (Below w2.heap.size w2 w3) := hb3
  clear hb3
  by_cases hgo : rightL l = true ∧ a1 ≤ a2
  · obtain ⟨hr, hnm⟩ := hgo
    have hri := right_rises hr
    rw [hr]
    have hnm2 : ¬ a2 < a1 := by omega
    have q3 := (HV2.out.later HB3.out).cell
    have h3 := clean_right _ l a1 w3 (HO2.out.later HB3.out) hr
    go_wp2_with fail
    refine h3.mono ?_
    clear h3 q3
    rintro e w4 ⟨u4, rfl, ho4, hb4⟩
    obtain ⟨t4, n4, k4, rfl⟩ := ho4.isSlice
    have hbx : Below w4.heap.size w4 (w4.alloc (.cells #[.slice t4 n4 k4] 25)) := (Below.refl _ _).alloc (Nat.le_refl _) _
    have HB5 : Hid (Below w2.heap.size w2 (w4.alloc (.cells #[.slice t4 n4 k4] 25))) := HB3.out.trans ((hb4.trans (hbx.mono hb4.size)).mono HB3.out.size)
    have HO5 : Hid (Ob (w4.alloc (.cells #[.slice t4 n4 k4] 25)) (.slice t4 n4 k4) (cleanL l a1)) := ho4.later hbx
    have HV5 : Hid (VarO (w4.alloc (.cells #[.slice t4 n4 k4] 25)) w4.heap.size (.slice t4 n4 k4)) := heap_alloc_new w4 _
    clear hb4 hbx ho4
    go_upto_region 5 with fail
    generalize w4.alloc (.cells #[.slice t4 n4 k4] 25) = w5 at *
    generalize w4.heap.size = p8 at *
    have q5 := (HV2.out.later HB5.out).cell
    have h5 := read_right _ l a2 w5 (HO2.out.later HB5.out) hr
    have HRC : Hid (rightL (cleanL l a1) = true) := right_drop hr _
    have HRD : Hid (∀ w', Ob w' (.slice t4 n4 k4) (cleanL l a1) → Calls Try.prog 17 #[.agg #[.slice t4 n4 k4], .int .i64 a2] w' fun e w'' => e = .returned (.tuple #[(readV l a2).value, .bool (readB l a2)]) ∧ Below w'.heap.size w' w'') := by
      intro w' h
      have := read_right _ (cleanL l a1) a2 w' h HRC.out
      rwa [(read_clean hri hnm).1, (read_clean hri hnm).2] at this
    generalize readV l a2 = r at *
    generalize readB l a2 = rb at *
    go_wp2_with fail
    refine h5.mono ?_
    clear h5 q5
    rintro e w6 ⟨rfl, hb6⟩
    have hbx : Below w6.heap.size w6 (w6.alloc (.cells #[.int .i64 r.pos, .int .u64 (r.num : Nat), .string r.val, .bool r.gone] 36)) := (Below.refl _ _).alloc (Nat.le_refl _) _
    have HB7 : Hid (Below w5.heap.size w5 (w6.alloc (.cells #[.int .i64 r.pos, .int .u64 (r.num : Nat), .string r.val, .bool r.gone] 36))) := hb6.trans (hbx.mono hb6.size)
    have HX7 : Hid (VarV (w6.alloc (.cells #[.int .i64 r.pos, .int .u64 (r.num : Nat), .string r.val, .bool r.gone] 36)) w6.heap.size 36 r) := heap_alloc_new w6 _
    clear hb6 hbx
    go_upto_region 6 with fail
    generalize w6.alloc (.cells #[.int .i64 r.pos, .int .u64 (r.num : Nat), .string r.val, .bool r.gone] 36) = w7 at *
    generalize w6.heap.size = p9' at *
    have q7 := (HV5.out.later HB7.out).cell
    go_wp2_with fail
    refine (HRD.out w7 (HO5.out.later HB7.out)).mono ?_
    clear q7 HRD
    rintro e w8 ⟨rfl, hb8⟩
    have hbx : Below w8.heap.size w8 (w8.alloc (.cells #[.int .i64 r.pos, .int .u64 (r.num : Nat), .string r.val, .bool r.gone] 36)) := (Below.refl _ _).alloc (Nat.le_refl _) _
    have HB9 : Hid (Below w5.heap.size w5 (w8.alloc (.cells #[.int .i64 r.pos, .int .u64 (r.num : Nat), .string r.val, .bool r.gone] 36))) := HB7.out.trans ((hb8.trans (hbx.mono hb8.size)).mono HB7.out.size)
    have HX9 : Hid (VarV (w8.alloc (.cells #[.int .i64 r.pos, .int .u64 (r.num : Nat), .string r.val, .bool r.gone] 36)) p9' 36 r) := (HX7.out.later hb8).later hbx
    have HY9 : Hid (VarV (w8.alloc (.cells #[.int .i64 r.pos, .int .u64 (r.num : Nat), .string r.val, .bool r.gone] 36)) w8.heap.size 36 r) := heap_alloc_new w8 _
    clear hb8 hbx HX7 HB7
    go_upto_region 7 with fail
    generalize w8.alloc (.cells #[.int .i64 r.pos, .int .u64 (r.num : Nat), .string r.val, .bool r.gone] 36) = w9 at *
    generalize w8.heap.size = p11 at *
    have hq : ∀ w, (binOp .eql 36 r.value r.value).run Try.prog w = .ok (.bool true) w := fun w => by rw [eql_36, eqV_self]
    have hrb : (rb == rb) = true := by simp
    have HS : Hid (∀ W, Below w9.heap.size w9 W → W.cell? ⟨p9, 0, none⟩ = some (.slice ua l.length uc) ∧ W.cell? ⟨p8, 0, none⟩ = some (.slice t4 n4 k4) ∧ (W.cell? ⟨p9', 0, none⟩ = some (.int .i64 r.pos) ∧ W.cell? ⟨p9', 1, none⟩ = some (.int .u64 (r.num : Nat)) ∧ W.cell? ⟨p9', 2, none⟩ = some (.string r.val) ∧ W.cell? ⟨p9', 3, none⟩ = some (.bool r.gone)) ∧ (W.cell? ⟨p11, 0, none⟩ = some (.int .i64 r.pos) ∧ W.cell? ⟨p11, 1, none⟩ = some (.int .u64 (r.num : Nat)) ∧ W.cell? ⟨p11, 2, none⟩ = some (.string r.val) ∧ W.cell? ⟨p11, 3, none⟩ = some (.bool r.gone))) := fun W hW =>
      ⟨(HV2.out.later (HB5.out.trans ((HB9.out.trans (hW.mono HB9.out.size)).mono HB5.out.size))).cell, (HV5.out.later (HB9.out.trans (hW.mono HB9.out.size))).cell, (HX9.out.later hW).cells, (HY9.out.later hW).cells⟩
    have HOo : Hid (∀ W, Below w9.heap.size w9 W → Ob W (.slice ua l.length uc) l) := fun W hW => HO2.out.later (HB5.out.trans ((HB9.out.trans (hW.mono HB9.out.size)).mono HB5.out.size))
    have HOc : Hid (∀ W, Below w9.heap.size w9 W → Ob W (.slice t4 n4 k4) (cleanL l a1)) := fun W hW => HO5.out.later (HB9.out.trans (hW.mono HB9.out.size))
    have HL1 : Hid (∀ W, Below w9.heap.size w9 W → Calls Try.prog 18 #[.agg #[.slice ua l.length uc]] W fun e w' => e = .returned (lastL l).value ∧ Below W.heap.size W w') := fun W hW => lastm_right _ l W (HOo.out W hW) hr
    have HL2 : Hid (∀ W, Below w9.heap.size w9 W → Calls Try.prog 18 #[.agg #[.slice t4 n4 k4]] W fun e w' => e = .returned (lastL l).value ∧ Below W.heap.size W w') := fun W hW => by
      have := lastm_right _ (cleanL l a1) W (HOc.out W hW) HRC.out
      rwa [last_clean] at this
    have HRR : Hid (∀ W, Below w9.heap.size w9 W → Calls Try.prog 14 #[.agg #[.slice t4 n4 k4]] W fun e w' => e = .returned (.bool true) ∧ Below W.heap.size W w') := fun W hW => by
      obtain ⟨xa, xc, xe, hvr, -⟩ := HOc.out W hW
      simp only [Value.slice.injEq] at xe
      obtain ⟨rfl, rfl, rfl⟩ := xe
      have := right_any t4 _ k4 (cleanL l a1) W hvr
      rwa [HRC.out] at this
    generalize lastL l = t at *
    have hqt : ∀ w, (binOp .eql 36 t.value t.value).run Try.prog w = .ok (.bool true) w := fun w => by rw [eql_36, eqV_self]
    have HB10 : Hid (Below w9.heap.size w9 w9.drew) := (Below.refl _ _).drew
    have HFIN : Hid (∀ W, Below w9.heap.size w9 W → Below w.heap.size w W) := fun W hW => HB2.out.trans ((HB5.out.trans ((HB9.out.trans (hW.mono HB9.out.size)).mono HB5.out.size)).mono HB2.out.size)
    clear HX9 HY9 HO5 HV5 HOo HOc
    refine wp_region_noPanic ?_
    refine wp_region_held_drew (S := (fun w' => w'.cell? ⟨p9, 0, none⟩ = some (.slice ua l.length uc) ∧ w'.cell? ⟨p8, 0, none⟩ = some (.slice t4 n4 k4) ∧ (w'.cell? ⟨p9', 0, none⟩ = some (.int .i64 r.pos) ∧ w'.cell? ⟨p9', 1, none⟩ = some (.int .u64 (r.num : Nat)) ∧ w'.cell? ⟨p9', 2, none⟩ = some (.string r.val) ∧ w'.cell? ⟨p9', 3, none⟩ = some (.bool r.gone)) ∧ (w'.cell? ⟨p11, 0, none⟩ = some (.int .i64 r.pos) ∧ w'.cell? ⟨p11, 1, none⟩ = some (.int .u64 (r.num : Nat)) ∧ w'.cell? ⟨p11, 2, none⟩ = some (.string r.val) ∧ w'.cell? ⟨p11, 3, none⟩ = some (.bool r.gone)))) (by kernel_rfl) ?_ (fun hHeld => ?_)
    · exact HS.out _ HB10.out
    refine held_take (i := 0) (d := 39) (v := ?_) rfl rfl (by kernel_rfl) (by kernel_rfl) (by kernel_rfl) (fun _ _ _ h => h) (Or.inl ⟨by rfl, ?_⟩) hHeld ?_
    rotate_left
    · (intro w hSw; (try dsimp only at hSw); go_simp; all_goals (with_reducible rfl))
    try simp only [Act.put, List.setIfInBounds_toArray, List.set_cons_zero, List.set_cons_succ]
    refine wpAnyH_ready (rs := [1]) (by kernel_rfl) (by simp) ?_
    refine AllReadyH.cons rfl (fun K hK => ?_) AllReadyH.nil
    go_simp
    refine (HRR.out _ HB10.out).mono ?_
    rintro e w11 ⟨rfl, hbb⟩
    have HB11 : Hid (Below w9.heap.size w9 w11) := HB10.out.trans (hbb.mono HB10.out.size)
    clear hbb
    go_wp2_with fail
    refine hK.out _ _ ?_ (fun hHeld => ?_)
    · exact HS.out _ HB11.out
    clear hK K
    try simp only [Act.put, List.setIfInBounds_toArray, List.set_cons_zero, List.set_cons_succ]
    refine held_take (i := 2) (d := 41) (v := ?_) rfl rfl (by kernel_rfl) (by kernel_rfl) (by kernel_rfl) (fun _ _ _ h => h) (Or.inl ⟨by rfl, ?_⟩) hHeld ?_
    rotate_left
    · (intro w hSw; (try dsimp only at hSw); go_simp; all_goals (with_reducible rfl))
    try simp only [Act.put, List.setIfInBounds_toArray, List.set_cons_zero, List.set_cons_succ]
    refine held_take (i := 3) (d := 42) (v := ?_) rfl rfl (by kernel_rfl) (by kernel_rfl) (by kernel_rfl) (fun _ _ _ h => h) (Or.inl ⟨by rfl, ?_⟩) hHeld ?_
    rotate_left
    · (intro w hSw; (try dsimp only at hSw); go_simp; all_goals (with_reducible rfl))
    try simp only [Act.put, List.setIfInBounds_toArray, List.set_cons_zero, List.set_cons_succ]
    refine held_take (i := 4) (d := 43) (v := ?_) rfl rfl (by kernel_rfl) (by kernel_rfl) (by kernel_rfl) (fun _ _ _ h => h) (Or.inl ⟨by rfl, ?_⟩) hHeld ?_
    rotate_left
    · (intro w hSw; (try dsimp only at hSw); go_simp; all_goals (with_reducible rfl))
    try simp only [Act.put, List.setIfInBounds_toArray, List.set_cons_zero, List.set_cons_succ]
    refine held_take (i := 5) (d := 44) (v := ?_) rfl rfl (by kernel_rfl) (by kernel_rfl) (by kernel_rfl) (fun _ _ _ h => h) (Or.inl ⟨by rfl, ?_⟩) hHeld ?_
    rotate_left
    · (intro w hSw; (try dsimp only at hSw); go_simp; all_goals (with_reducible rfl))
    try simp only [Act.put, List.setIfInBounds_toArray, List.set_cons_zero, List.set_cons_succ]
    refine held_take (i := 6) (d := 45) (v := ?_) rfl rfl (by kernel_rfl) (by kernel_rfl) (by kernel_rfl) (fun _ _ _ h => h) (Or.inl ⟨by rfl, ?_⟩) hHeld ?_
    rotate_left
    · (intro w hSw; (try dsimp only at hSw); go_simp; all_goals (with_reducible rfl))
    try simp only [Act.put, List.setIfInBounds_toArray, List.set_cons_zero, List.set_cons_succ]
    refine held_take (i := 7) (d := 46) (v := ?_) rfl rfl (by kernel_rfl) (by kernel_rfl) (by kernel_rfl) (fun _ _ _ h => h) (Or.inl ⟨by rfl, ?_⟩) hHeld ?_
    rotate_left
    · (intro w hSw; (try dsimp only at hSw); go_simp; all_goals (with_reducible rfl))
    try simp only [Act.put, List.setIfInBounds_toArray, List.set_cons_zero, List.set_cons_succ]
    refine held_take (i := 8) (d := 47) (v := ?_) rfl rfl (by kernel_rfl) (by kernel_rfl) (by kernel_rfl) (fun _ _ _ h => h) (Or.inl ⟨by rfl, ?_⟩) hHeld ?_
    rotate_left
    · (intro w hSw; (try dsimp only at hSw); go_simp; all_goals (with_reducible rfl))
    try simp only [Act.put, List.setIfInBounds_toArray, List.set_cons_zero, List.set_cons_succ]
    refine held_take (i := 9) (d := 48) (v := ?_) rfl rfl (by kernel_rfl) (by kernel_rfl) (by kernel_rfl) (fun _ _ _ h => h) (Or.inl ⟨by rfl, ?_⟩) hHeld ?_
    rotate_left
    · (intro w hSw; (try dsimp only at hSw); go_simp; all_goals (with_reducible rfl))
    try simp only [Act.put, List.setIfInBounds_toArray, List.set_cons_zero, List.set_cons_succ]
    refine held_take (i := 10) (d := 49) (v := ?_) rfl rfl (by kernel_rfl) (by kernel_rfl) (by kernel_rfl) (fun _ _ _ h => h) (Or.inl ⟨by rfl, ?_⟩) hHeld ?_
    rotate_left
    · (intro w hSw; (try dsimp only at hSw); go_simp; all_goals (with_reducible rfl))
    try simp only [Act.put, List.setIfInBounds_toArray, List.set_cons_zero, List.set_cons_succ]
    refine held_take (i := 11) (d := 50) (v := ?_) rfl rfl (by kernel_rfl) (by kernel_rfl) (by kernel_rfl) (fun _ _ _ h => h) (Or.inl ⟨by rfl, ?_⟩) hHeld ?_
    rotate_left
    · (intro w hSw; (try dsimp only at hSw); go_simp; all_goals (with_reducible rfl))
    try simp only [Act.put, List.setIfInBounds_toArray, List.set_cons_zero, List.set_cons_succ]
    refine held_take (i := 12) (d := 51) (v := ?_) rfl rfl (by kernel_rfl) (by kernel_rfl) (by kernel_rfl) (fun _ _ _ h => h) (Or.inl ⟨by rfl, ?_⟩) hHeld ?_
    rotate_left
    · (intro w hSw; (try dsimp only at hSw); go_simp; all_goals (with_reducible rfl))
    try simp only [Act.put, List.setIfInBounds_toArray, List.set_cons_zero, List.set_cons_succ]
    refine held_take (i := 13) (d := 52) (v := ?_) rfl rfl (by kernel_rfl) (by kernel_rfl) (by kernel_rfl) (fun _ _ _ h => h) (Or.inl ⟨by rfl, ?_⟩) hHeld ?_
    rotate_left
    · (intro w hSw; (try dsimp only at hSw); go_simp; all_goals (with_reducible rfl))
    try simp only [Act.put, List.setIfInBounds_toArray, List.set_cons_zero, List.set_cons_succ]
    refine held_take (i := 15) (d := 54) (v := ?_) rfl rfl (by kernel_rfl) (by kernel_rfl) (by kernel_rfl) (fun _ _ _ h => h) (Or.inl ⟨by rfl, ?_⟩) hHeld ?_
    rotate_left
    · (intro w hSw; (try dsimp only at hSw); go_simp; all_goals (with_reducible rfl))
    try simp only [Act.put, List.setIfInBounds_toArray, List.set_cons_zero, List.set_cons_succ]
    refine wpAnyH_ready (rs := [14]) (by kernel_rfl) (by simp) ?_
    refine AllReadyH.cons rfl (fun K hK => ?_) AllReadyH.nil
    go_simp
    refine (HL2.out _ HB11.out).mono ?_
    rintro e w12 ⟨rfl, hbb⟩
    have HB12 : Hid (Below w9.heap.size w9 w12) := HB11.out.trans (hbb.mono HB11.out.size)
    clear hbb
    go_wp2_with fail
    refine hK.out _ _ ?_ (fun hHeld => ?_)
    · exact HS.out _ HB12.out
    clear hK K
    try simp only [Act.put, List.setIfInBounds_toArray, List.set_cons_zero, List.set_cons_succ]
    refine wpAnyH_ready (rs := [16]) (by kernel_rfl) (by simp) ?_
    refine AllReadyH.cons rfl (fun K hK => ?_) AllReadyH.nil
    go_simp
    refine (HL1.out _ HB12.out).mono ?_
    rintro e w13 ⟨rfl, hbb⟩
    have HB13 : Hid (Below w9.heap.size w9 w13) := HB12.out.trans (hbb.mono HB12.out.size)
    clear hbb
    go_wp2_with fail
    refine hK.out _ _ ?_ (fun hHeld => ?_)
    · exact HS.out _ HB13.out
    clear hK K
    try simp only [Act.put, List.setIfInBounds_toArray, List.set_cons_zero, List.set_cons_succ]
    refine held_take (i := 17) (d := 56) (v := ?_) rfl rfl (by kernel_rfl) (by kernel_rfl) (by kernel_rfl) (fun _ _ _ h => h) (Or.inl ⟨by rfl, ?_⟩) hHeld ?_
    rotate_left
    · (intro w hSw; (try dsimp only at hSw); go_simp; all_goals (with_reducible rfl))
    try simp only [Act.put, List.setIfInBounds_toArray, List.set_cons_zero, List.set_cons_succ]
    refine held_take (i := 18) (d := 57) (v := ?_) rfl rfl (by kernel_rfl) (by kernel_rfl) (by kernel_rfl) (fun _ _ _ h => h) (Or.inl ⟨by rfl, ?_⟩) hHeld ?_
    rotate_left
    · (intro w hSw; (try dsimp only at hSw); go_simp; all_goals (with_reducible rfl))
    try simp only [Act.put, List.setIfInBounds_toArray, List.set_cons_zero, List.set_cons_succ]
    refine held_take (i := 19) (d := 58) (v := ?_) rfl rfl (by kernel_rfl) (by kernel_rfl) (by kernel_rfl) (fun _ _ _ h => h) (Or.inl ⟨by rfl, ?_⟩) hHeld ?_
    rotate_left
    · (intro w hSw; (try dsimp only at hSw); go_simp; all_goals (with_reducible rfl))
    try simp only [Act.put, List.setIfInBounds_toArray, List.set_cons_zero, List.set_cons_succ]
    refine wpAnyH_ready (rs := [20]) (by kernel_rfl) (by simp) ?_
    refine AllReadyH.cons rfl (fun K hK => ?_) AllReadyH.nil
    go_simp
    refine (awake9_any w13).mono ?_
    rintro e w14 ⟨rfl, hbb⟩
    have HB14 : Hid (Below w9.heap.size w9 w14) := HB13.out.trans (hbb.mono HB13.out.size)
    clear hbb
    go_wp2_with fail
    refine hK.out _ _ ?_ (fun hHeld => ?_)
    · exact HS.out _ HB14.out
    clear hK K
    try simp only [Act.put, List.setIfInBounds_toArray, List.set_cons_zero, List.set_cons_succ]
    refine held_take (i := 21) (d := 60) (v := ?_) rfl rfl (by kernel_rfl) (by kernel_rfl) (by kernel_rfl) (fun _ _ _ h => h) (Or.inl ⟨by rfl, ?_⟩) hHeld ?_
    rotate_left
    · (intro w hSw; (try dsimp only at hSw); go_simp; all_goals (with_reducible rfl))
    try simp only [Act.put, List.setIfInBounds_toArray, List.set_cons_zero, List.set_cons_succ]
    refine held_take (i := 22) (d := 6) (v := ?_) rfl rfl (by kernel_rfl) (by kernel_rfl) (by kernel_rfl) (fun _ _ _ h => h) (Or.inl ⟨by rfl, ?_⟩) hHeld ?_
    rotate_left
    · (intro w hSw; (try dsimp only at hSw); go_simp; all_goals (with_reducible rfl))
    try simp only [Act.put, List.setIfInBounds_toArray, List.set_cons_zero, List.set_cons_succ]
    refine wpAnyH_done (by kernel_rfl) ?_ _
    refine NoPanic.normal ?_
    go_wp2
    go_ret
    exact ⟨rfl, HFIN.out _ HB14.out⟩
  · cases hr : rightL l
    · go_wp2_with fail
      refine (awake9_any w3).mono ?_
      rintro e w6 ⟨rfl, hb6⟩
      go_wp2
      go_ret
      exact ⟨rfl, HB2.out.trans ((HB3.out.trans (hb6.mono HB3.out.size)).mono HB2.out.size)⟩
    · have hnm : a2 < a1 := by have : ¬ a1 ≤ a2 := fun h => hgo ⟨hr, h⟩; omega
      clear hgo
      go_wp2_with fail
      refine (awake9_any w3).mono ?_
      rintro e w6 ⟨rfl, hb6⟩
      go_wp2
      go_ret
      exact ⟨rfl, HB2.out.trans ((HB3.out.trans (hb6.mono HB3.out.size)).mono HB2.out.size)⟩

/-! From the call to the statement. -/
set_option maxRecDepth 100000 in
theorem lifted (os : Os) (started : os.Started) (H : Type) (enc : TypeId × Value → H) :
    ReturnsInHanded {} Try.checked os 6 .any (Rows.objectCleanSpec.pre6 enc Try.prog Try.f6 Rows.objectCleanRow.domain false) (Rows.objectCleanSpec.post enc Try.prog Try.f6 false true false false) := by
  refine returnsInHanded_of_change (C := Try.checked) own started (by kernel_rfl) Try.func6
    (ChangeSpec.witness6 (enc := enc) (C := Try.checked) false ⟨#[], #[.slice none 0 0, .int .i64 0, .int .i64 0], []⟩ 8 (by kernel_rfl) (by kernel_rfl) (by kernel_rfl) (by kernel_rfl)) ?_
  intro W base args ds gs before hval0 hW hcnd _
  have hval : ∀ (j : Nat) t v, Try.f6.params[j]? = some t → args[j]? = some v → Value.okWide Try.prog W .any base t v := hval0
  have hW' := hW
  obtain ⟨p, q, hA0, hV, rfl, hfz, hnd⟩ := hW
  have hA : DataW.TrodAll enc Try.prog W 0 (fun _ => true) true Try.f6.params.toList args.toList ds p := hA0
  rw [Try.params6] at hA hval
  obtain ⟨v0, vs0, d0, ds0, p0, q0, hargs, rfl, rfl, h0, r0⟩ := trodAll_cons hA
  obtain ⟨v1, vs1, d1, ds1, p1, q1, rfl, rfl, rfl, h1, r1⟩ := trodAll_cons r0
  obtain ⟨v2, vs2, d2, ds2, p2, q2, rfl, rfl, rfl, h2, r2⟩ := trodAll_cons r1
  obtain ⟨rfl, rfl, rfl⟩ := trodAll_nil r2
  obtain rfl : args = #[v0, v1, v2] := by cases args; simp_all
  obtain ⟨rfl, rfl⟩ := trodVars_none hV
  obtain ⟨a0, len0, cap0, rfl⟩ := okWide_slice Try.underlying22 (hval 0 22 v0 rfl rfl)
  have k0 := h0
  have lt0 : ∀ x ∈ p0, x.block < W.heap.size := by obtain ⟨m, hm⟩ := k0; exact DataW.trod_lt m _ _ _ hm
  obtain ⟨z0, w0⟩ := open_vers h0
  obtain ⟨a1, rfl, rfl, rfl, w1⟩ := open_int Try.underlying3 (hval 1 3 v1 rfl rfl) h1
  obtain ⟨a2, rfl, rfl, rfl, w2⟩ := open_int Try.underlying3 (hval 2 3 v2 rfl rfl) h2
  clear hA0 hval0
  refine (walk a0 len0 cap0 z0 a1 a2 W w0 w1 w2).mono fun e W' ⟨he, bel⟩ => ?_
  subst he
  exact ⟨_, rfl, _, _, _, [], _, [], hW', trodAll_mk1 (shut_bool Try.underlying4 _), (trodAll_cons_mk (Below.trod laidOut (by kernel_rfl) (of_decide_eq_true (by kernel_rfl)) k0 bel lt0) (trodAll_cons_mk (shut_int Try.underlying3 w1) (trodAll_cons_mk (shut_int Try.underlying3 w2) trodAll_mk0))), rfl, bel.frame _, fun h => by cases h⟩

theorem over : Rows.objectCleanRow.holds Try.pinned (OpenSpec.ofChange Rows.objectCleanSpec) :=
  OpenClaim.holds_of_wide 6 Try.f6 rfl rfl rfl rfl rfl rfl rfl ⟨rfl, rfl, rfl, rfl, rfl⟩ rfl rfl rfl rfl rfl (by kernel_rfl) Try.func6 (by kernel_rfl)
    (of_decide_eq_true (by kernel_rfl)) (by unfold Func.isWrapper; first | (rw [if_pos (by decide +kernel)]; kernel_rfl) | (rw [if_neg (by decide +kernel)]; exact ⟨rfl, rfl⟩))
    (fun os started H enc _ => lifted os started H enc)
end Go.Proofs.Ytmahigfamgbhfaa.objectClean
namespace Go.Proofs.Ytmahigfamgbhfaa
theorem objectClean_holds : Rows.ObjectCleanSaid := objectClean.over
#print axioms objectClean_holds
end Go.Proofs.Ytmahigfamgbhfaa
