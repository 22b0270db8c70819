/-
  Whatever configuration, kinds of changes and numbers come in, sautoirlaw16.ConfHeirs returns true, and leaves its arguments as they were.
-/
import Derived.Test.YtgpjplpfjghcgaaRows
import Derived.Test.YtgpjplpfjghcgaaCoG
import Derived.Test.YtgpjplpfjghcgaaCoQ
import Derived.Test.YtgpjplpfjghcgaaCoV
import Derived.Test.YtgpjplpfjghcgaaCoTA
import Derived.WalkKit
import Derived.ProofKit
import Derived.OpenShut
import Derived.ShutString
import Derived.ChangeOld
import Derived.Below
namespace Go.Proofs.Ytgpjplpfjghcgaa.confHeirs
open Go.ChangeShapes Go.WideShapes Go.ChangeAt Go.RowKit
open Go.ChangeMaps (open_string shut_string)
set_option linter.unusedSimpArgs false
set_option linter.unusedVariables false

theorem own : ownKnob Try.prog.godebug = none := by kernel_rfl
theorem laidOut : laidOutB Try.prog = true := by kernel_rfl

/-! The law returns true, and writes nothing that was there. -/
set_option maxRecDepth 100000 in
set_option maxHeartbeats 40000000 in
theorem walk (i0 : In) (a1 : Option Addr) (len1 cap1 : Nat) (z1 : List Int) (a2 : Option Addr) (len2 cap2 : Nat) (z2 : List Int) (w : World) (w0 : i0.ok w) (w1 : IsRow .i64 w a1 len1 cap1 z1) (w2 : IsRow .i64 w a2 len2 cap2 z2) :
    Calls Try.prog 5 #[inv i0, .slice a1 len1 cap1, .slice a2 len2 cap2] w fun e w' => e = .returned (.bool true) ∧ Below w.heap.size w w' := by
  obtain ⟨ep, sh, a, n, c, M, le⟩ := i0
  have HM : Hid (Mems w a n M) := w0.mems
  have HR1 : Hid (IsRow .i64 w a1 len1 cap1 z1) := w1
  have HR2 : Hid (IsRow .i64 w a2 len2 cap2 z2) := w2
  have hl1 := w1.facts
  have hl2 := w2.facts
  unfold maxLen at hl1 hl2
  clear w0 w1 w2
  have hb0 : Below w.heap.size w (w.alloc (.cells #[.int .u64 (ep : Nat), .int .i64 sh, .slice a n c, .int .i64 le] 25)) := (Below.refl _ _).alloc (Nat.le_refl _) _
  have hcall := ours_any ep sh le a n c M _ (HM.out.later hb0)
  go_enter Try.func5, Try.ntmps5
  go_wp2_with fail
  generalize w.alloc (.cells #[.int .u64 (ep : Nat), .int .i64 sh, .slice a n c, .int .i64 le] 25) = w0 at *
  refine hcall.mono ?_
  clear hcall
  rintro e w1 ⟨⟨v1, rfl, hv1⟩, hb1⟩
  have HLE : (inC ep sh n M le).l.length ≤ 10 := by simp [inC, fewM_length]; omega
  generalize inC ep sh n M le = cc at hv1 HLE
  obtain ⟨ep1, sh1, lq, le1⟩ := cc
  simp only at HLE
  have hvo := hv1
  obtain ⟨aq1, cq1, bq1, dq1, rfl, hA, hB, -⟩ := hv1.read
  simp only at hA hB hvo
  clear hA hB hv1
  generalize hnq : lq.length = nq1 at *
  have HLN : Hid (lq.length = nq1) := hnq
  clear hnq
  have hb2 : Below w1.heap.size w1 (w1.alloc (.cells (carr ep1 sh1 (.slice aq1 nq1 cq1) (.slice bq1 nq1 dq1) le1) 29)) := (Below.refl _ _).alloc (Nat.le_refl _) _
  have ho2 := heap_alloc_new w1 (.cells (carr ep1 sh1 (.slice aq1 nq1 cq1) (.slice bq1 nq1 dq1) le1) 29)
  go_upto_region 2 with fail
  generalize w1.alloc (.cells (carr ep1 sh1 (.slice aq1 nq1 cq1) (.slice bq1 nq1 dq1) le1) 29) = w2 at *
  have HO2 : Hid (w2.heap[w1.heap.size]? = some (.cells (carr ep1 sh1 (.slice aq1 nq1 cq1) (.slice bq1 nq1 dq1) le1) 29)) := ho2
  have HC2 : Hid (Cfo w2 0 (.agg (carr ep1 sh1 (.slice aq1 nq1 cq1) (.slice bq1 nq1 dq1) le1)) ⟨ep1, sh1, lq, le1⟩) := (hvo.later hb2).mono (Nat.zero_le _)
  have HB2 : Hid (Below w.heap.size w w2) := hb0.trans ((hb1.mono hb0.size).trans (hb2.mono (by have := hb1.size; have := hb0.size; omega)))
  have HP7 : Hid (w.heap.size ≤ w1.heap.size) := by have := hb1.size; have := hb0.size; show _ ≤ _; omega
  clear hb0 hb1 hb2 ho2 hvo HM
  generalize w1.heap.size = p7 at *
  obtain ⟨x0, x1, x2, x3, x4⟩ := five_cells HO2.out
  have hcall := right_any _ _ _ HC2.out.read
  go_wp2_with fail
  refine hcall.mono ?_
  clear hcall x0 x1 x2 x3 x4
  rintro e w3 ⟨rfl, hb3⟩
  have HO3 : Hid (w3.heap[p7]? = some (.cells (carr ep1 sh1 (.slice aq1 nq1 cq1) (.slice bq1 nq1 dq1) le1) 29)) := heap_kept HO2.out hb3
  have HC3 : Hid (Cfo w3 0 (.agg (carr ep1 sh1 (.slice aq1 nq1 cq1) (.slice bq1 nq1 dq1) le1)) ⟨ep1, sh1, lq, le1⟩) := HC2.out.later hb3
  have HB3 : Hid (Below w.heap.size w w3) := HB2.out.trans (hb3.mono HB2.out.size)
  clear hb3 HO2 HC2 HB2
  obtain ⟨x0, x1, x2, x3, x4⟩ := five_cells HO3.out
  cases hrt : rightB ⟨ep1, sh1, lq, le1⟩ with
  | false =>
    clear hrt
    go_wp2_with fail
    refine (awake_any w3).mono ?_
    rintro e w4 ⟨rfl, hb4⟩
    have HB4 : Hid (Below w.heap.size w w4) := HB3.out.trans (hb4.mono HB3.out.size)
    clear hb4 x0 x1 x2 x3 x4
    go_wp2
    go_ret
    exact ⟨rfl, HB4.out⟩
  | true =>
    have HRT : Hid (rightB ⟨ep1, sh1, lq, le1⟩ = true) := hrt
    clear hrt
    by_cases hbig : 1000000 < ep1
    · go_wp2_with fail
      refine (awake_any w3).mono ?_
      rintro e w4 ⟨rfl, hb4⟩
      have HB4 : Hid (Below w.heap.size w w4) := HB3.out.trans (hb4.mono HB3.out.size)
      clear hb4 x0 x1 x2 x3 x4
      go_wp2
      go_ret
      exact ⟨rfl, HB4.out⟩
    · go_wp2
      clear x0 x1 x2 x3 x4
      go_loopw [31] (fun i wr => ∃ k : Nat, k ≤ len1 ∧ k ≤ 12 ∧ i = .int .i64 (k : Nat) ∧ Hid (Hs w wr p7 k)) (fun i _ => len1 - (intOf i).toNat)
      case atStart => exact ⟨0, Nat.zero_le _, by omega, rfl, HB3.out, ⟨ep1, sh1, lq, le1⟩, _, _, _, _, HRT.out, by show ep1 ≤ 1000000 + 0; omega, by show _ = some (Obj.cells (carr ep1 sh1 (.slice aq1 lq.length cq1) (.slice bq1 lq.length dq1) le1) 29); rw [HLN.out]; exact HO3.out, by show Cfo _ _ (.agg (carr ep1 sh1 (.slice aq1 lq.length cq1) (.slice bq1 lq.length dq1) le1)) _; rw [HLN.out]; exact HC3.out⟩
      case round =>
        obtain ⟨k, hk, hk12, rfl, HS0⟩ := hrel
        clear HO3 HC3 HB3 HRT HLN HLE hbig
        obtain ⟨hB, ⟨ep', sh', l, le'⟩, a1', c1', b1', d1', hrt, hep, hO, hC⟩ := HS0.out
        simp only at hep hO hC
        have hfew := (right_true hrt).few
        simp only at hfew
        generalize hn' : l.length = n' at *
        have HLN : Hid (l.length = n') := hn'
        have HB : Hid (Below w.heap.size w wr) := hB
        have HO : Hid (wr.heap[p7]? = some (.cells (carr ep' sh' (.slice a1' n' c1') (.slice b1' n' d1') le') 29)) := hO
        have HC : Hid (Cfo wr 0 (.agg (carr ep' sh' (.slice a1' n' c1') (.slice b1' n' d1') le')) ⟨ep', sh', l, le'⟩) := hC
        have HRT : Hid (rightB ⟨ep', sh', l, le'⟩ = true) := hrt
        clear hn' hB hO hC hrt
        have done : ∀ (w9 : World), Below w.heap.size w w9 → True := fun _ _ => trivial
        clear done
        by_cases hlt : k < len1
        · obtain ⟨b9, o9, rfl⟩ := (HR1.out.later HB.out).addr (by omega)
          have c0 := (HR1.out.later HB.out).at64 k hlt
          generalize z1.getD k 0 = kd at c0
          by_cases h12 : 12 ≤ k
          · go_wp2_with fail
            refine (awake_any wr).mono ?_
            rintro e w4 ⟨rfl, hb4⟩
            have HB4 : Hid (Below w.heap.size w w4) := HB.out.trans (hb4.mono HB.out.size)
            clear hb4 c0
            go_wp2
            go_ret
            exact ⟨rfl, HB4.out⟩
          by_cases hlt2 : len2 ≤ k
          · go_wp2_with fail
            refine (awake_any wr).mono ?_
            rintro e w4 ⟨rfl, hb4⟩
            have HB4 : Hid (Below w.heap.size w w4) := HB.out.trans (hb4.mono HB.out.size)
            clear hb4 c0
            go_wp2
            go_ret
            exact ⟨rfl, HB4.out⟩
          obtain ⟨b8, o8, rfl⟩ := (HR2.out.later HB.out).addr (by omega)
          have d0 := (HR2.out.later HB.out).at64 k (by omega)
          generalize z2.getD k 0 = x at d0
          go_upto_region 8 with fail
          have HS : Hid (∀ w', Below wr.heap.size wr w' → (fun w' => (w'.cell? ⟨p7, 0, none⟩ = some (.int .u64 (ep' : Nat)) ∧ w'.cell? ⟨p7, 1, none⟩ = some (.int .i64 sh') ∧ w'.cell? ⟨p7, 2, none⟩ = some (.slice a1' n' c1') ∧ w'.cell? ⟨p7, 3, none⟩ = some (.slice b1' n' d1') ∧ w'.cell? ⟨p7, 4, none⟩ = some (.int .i64 le')) ∧ w'.cell? ⟨b8, o8 + k, none⟩ = some (.int .i64 x)) w') := fun w' hb => ⟨five_cells (heap_kept HO.out hb), cell_later hb d0⟩
          have hd0 : Below wr.heap.size wr wr.drew := (Below.refl _ _).drew
          obtain ⟨rr, hrr⟩ : ∃ rr, rr = turnC ⟨ep', sh', l, le'⟩ kd x (ep' + 1) := ⟨_, rfl⟩
          have HRR : Hid (turnC ⟨ep', sh', l, le'⟩ kd x (ep' + 1) = rr) := hrr.symm
          have HRL0 : rr.1.l.length ≤ 100 := by rw [hrr]; have := turn_len ⟨ep', sh', l, le'⟩ kd x (ep' + 1); simp only at this; rw [HLN.out] at this; omega
          clear hrr
          obtain ⟨⟨re, rs, rl, rle⟩, rn⟩ := rr
          simp only at HRL0
          generalize hm : rl.length = m at *
          have HRLN : Hid (rl.length = m) := hm
          clear hm
          have hk2 : k < len2 := by omega
          have hwe : IntKind.u64.wrap ((ep' : Int) + 1) = (ep' : Int) + 1 := by simp [IntKind.wrap, IntKind.bits]; omega
          have hepc : ((ep' + 1 : Nat) : Int) = (ep' : Int) + 1 := by omega
          refine wp_region_noPanic ?_
          refine wp_region_held_drew (S := fun w' => (w'.cell? ⟨p7, 0, none⟩ = some (.int .u64 (ep' : Nat)) ∧ w'.cell? ⟨p7, 1, none⟩ = some (.int .i64 sh') ∧ w'.cell? ⟨p7, 2, none⟩ = some (.slice a1' n' c1') ∧ w'.cell? ⟨p7, 3, none⟩ = some (.slice b1' n' d1') ∧ w'.cell? ⟨p7, 4, none⟩ = some (.int .i64 le')) ∧ w'.cell? ⟨b8, o8 + k, none⟩ = some (.int .i64 x)) (by kernel_rfl) ?_ (fun hHeld => ?_)
          · exact HS.out _ hd0
          refine held_take (i := 0) (d := 45) (v := ?_) rfl rfl (by kernel_rfl) (by kernel_rfl) (by kernel_rfl) (fun _ _ _ h => h) (Or.inl ⟨by rfl, ?_⟩) hHeld ?_
          rotate_left
          · (intro w hSw; (try dsimp only at hSw); go_simp; all_goals (with_reducible rfl))
          try simp only [Act.put, List.setIfInBounds_toArray, List.set_cons_zero, List.set_cons_succ]
          refine held_take (i := 1) (d := 46) (v := ?_) rfl rfl (by kernel_rfl) (by kernel_rfl) (by kernel_rfl) (fun _ _ _ h => h) (Or.inl ⟨by rfl, ?_⟩) hHeld ?_
          rotate_left
          · (intro w hSw; (try dsimp only at hSw); go_simp; all_goals (with_reducible rfl))
          try simp only [Act.put, List.setIfInBounds_toArray, List.set_cons_zero, List.set_cons_succ]
          refine held_take (i := 3) (d := 48) (v := ?_) rfl rfl (by kernel_rfl) (by kernel_rfl) (by kernel_rfl) (fun _ _ _ h => h) (Or.inl ⟨by rfl, ?_⟩) hHeld ?_
          rotate_left
          · (intro w hSw; (try dsimp only at hSw); go_simp; all_goals (with_reducible rfl))
          try simp only [Act.put, List.setIfInBounds_toArray, List.set_cons_zero, List.set_cons_succ]
          refine held_take (i := 4) (d := 49) (v := ?_) rfl rfl (by kernel_rfl) (by kernel_rfl) (by kernel_rfl) (fun _ _ _ h => h) (Or.inl ⟨by rfl, ?_⟩) hHeld ?_
          rotate_left
          · (intro w hSw; (try dsimp only at hSw); go_simp; all_goals (with_reducible rfl))
          try simp only [Act.put, List.setIfInBounds_toArray, List.set_cons_zero, List.set_cons_succ]
          refine held_take (i := 5) (d := 50) (v := ?_) rfl rfl (by kernel_rfl) (by kernel_rfl) (by kernel_rfl) (fun _ _ _ h => h) (Or.inl ⟨by rfl, ?_⟩) hHeld ?_
          rotate_left
          · (intro w hSw; (try dsimp only at hSw); go_simp; all_goals (with_reducible rfl))
          try simp only [Act.put, List.setIfInBounds_toArray, List.set_cons_zero, List.set_cons_succ]
          refine held_take (i := 6) (d := 51) (v := ?_) rfl rfl (by kernel_rfl) (by kernel_rfl) (by kernel_rfl) (fun _ _ _ h => h) (Or.inl ⟨by rfl, ?_⟩) hHeld ?_
          rotate_left
          · (intro w hSw; (try dsimp only at hSw); go_simp; all_goals (with_reducible rfl))
          try simp only [Act.put, List.setIfInBounds_toArray, List.set_cons_zero, List.set_cons_succ]
          refine held_take (i := 7) (d := 52) (v := ?_) rfl rfl (by kernel_rfl) (by kernel_rfl) (by kernel_rfl) (fun _ _ _ h => h) (Or.inl ⟨by rfl, ?_⟩) hHeld ?_
          rotate_left
          · (intro w hSw; (try dsimp only at hSw); go_simp; all_goals (with_reducible rfl))
          try simp only [Act.put, List.setIfInBounds_toArray, List.set_cons_zero, List.set_cons_succ]
          refine held_take (i := 8) (d := 53) (v := ?_) rfl rfl (by kernel_rfl) (by kernel_rfl) (by kernel_rfl) (fun _ _ _ h => h) (Or.inl ⟨by rfl, ?_⟩) hHeld ?_
          rotate_left
          · (intro w hSw; (try dsimp only at hSw); go_simp; all_goals (with_reducible rfl))
          try simp only [Act.put, List.setIfInBounds_toArray, List.set_cons_zero, List.set_cons_succ]
          refine held_take (i := 9) (d := 54) (v := ?_) rfl rfl (by kernel_rfl) (by kernel_rfl) (by kernel_rfl) (fun _ _ _ h => h) (Or.inl ⟨by rfl, ?_⟩) hHeld ?_
          rotate_left
          · (intro w hSw; (try dsimp only at hSw); go_simp; all_goals (with_reducible rfl))
          try simp only [Act.put, List.setIfInBounds_toArray, List.set_cons_zero, List.set_cons_succ]
          refine held_take (i := 10) (d := 55) (v := ?_) rfl rfl (by kernel_rfl) (by kernel_rfl) (by kernel_rfl) (fun _ _ _ h => h) (Or.inl ⟨by rfl, ?_⟩) hHeld ?_
          rotate_left
          · (intro w hSw; (try dsimp only at hSw); go_simp; all_goals (with_reducible rfl))
          try simp only [Act.put, List.setIfInBounds_toArray, List.set_cons_zero, List.set_cons_succ]
          refine held_inv (fun nn ll aa w' => ∃ (l2 l6 l12 l13 : Bool) (v10 v12 v19 v23 : Value) (ai ab am aq : Option Addr) (ci cb cm cq : Nat), nn + l2.toNat + l6.toNat + l12.toNat + l13.toNat = 13 ∧ ll = #[true, true, l2, true, true, true, true, true, true, true, true, l6, false, false, false, false, false, l12, l13, false, false, false, false] ∧ aa = { tmps := ((inv ⟨ep, sh, a, n, c, M, le⟩) :: (.slice (some ⟨b9, o9, none⟩) len1 cap1) :: (.slice (some ⟨b8, o8, none⟩) len2 cap2) :: (.pointer (some ⟨w.heap.size, 0, none⟩)) :: (undef) :: (undef) :: (u6) :: (.pointer (some ⟨p7, 0, none⟩)) :: (.int .i64 (k : Int)) :: (.int .i64 kd) :: (v10) :: (u11) :: (v12) :: (u13) :: (u14) :: (undef) :: (u16) :: (u17) :: (.agg #[.int .u64 (ep : Nat), .int .i64 sh, .slice a n c, .int .i64 le]) :: ((.agg #[.int .u64 (ep1 : Nat), .int .i64 sh1, .slice aq1 nq1 cq1, .slice bq1 nq1 dq1, .int .i64 le1])) :: ((.agg #[.int .u64 (ep1 : Nat), .int .i64 sh1, .slice aq1 nq1 cq1, .slice bq1 nq1 dq1, .int .i64 le1])) :: (.bool true) :: (.bool false) :: (.bool false) :: (.pointer (some ⟨p7, 0, none⟩)) :: (.int .u64 (ep1 : Nat)) :: (.bool (decide (1000000 < (ep1 : Int)))) :: (.bool (decide (1000000 < (ep1 : Int)))) :: (undef) :: (.slice (some ⟨b9, o9, none⟩) len1 cap1) :: (.int .i64 (len1 : Int)) :: (.int .i64 (k : Int)) :: (.bool true) :: (.int .i64 (k : Int)) :: (.pointer (some ⟨b9, o9 + k, none⟩)) :: (.int .i64 kd) :: (.int .i64 (k : Int)) :: (.bool (decide (12 ≤ (k : Int)))) :: (.bool (decide (12 ≤ (k : Int)))) :: (.int .i64 (k : Int)) :: (.slice (some ⟨b8, o8, none⟩) len2 cap2) :: (.int .i64 (len2 : Int)) :: (.bool false) :: (.bool (decide (12 ≤ (k : Int)))) :: (u44) :: ((.agg #[.int .u64 (ep' : Nat), .int .i64 sh', .slice a1' n' c1', .slice b1' n' d1', .int .i64 le'])) :: ((.agg #[.int .u64 (ep' : Nat), .int .i64 sh', .slice a1' n' c1', .slice b1' n' d1', .int .i64 le'])) :: (v19) :: (.int .i64 kd) :: (.slice (some ⟨b8, o8, none⟩) len2 cap2) :: (.int .i64 (k : Int)) :: (.pointer (some ⟨b8, o8 + k, none⟩)) :: (.int .i64 x) :: (.pointer (some ⟨p7, 0, none⟩)) :: (.int .u64 (ep' : Nat)) :: (.int .u64 ((ep' : Int) + 1)) :: (v23) :: (u57) :: (u58) :: (u59) :: (u60) :: (u61) :: (u62) :: (u63) :: (u64) :: (u65) :: (u66) :: (u67) :: (u68) :: (u69) :: (u70) :: (u71) :: (u72) :: (u73) :: (u74) :: (u75) :: (u76) :: (u77) :: (u78) :: (u79) :: (u80) :: (u81) :: (u82) :: (u83) :: (u84) :: (u85) :: (u86) :: (u87) :: (u88) :: (u89) :: (u90) :: (u91) :: (u92) :: (u93) :: (u94) :: (u95) :: (u96) :: (u97) :: (u98) :: (u99) :: (u100) :: (u101) :: (u102) :: (undef) :: ([] : List Value)).toArray, defers := [] } ∧ (l6 = true → l2 = true) ∧ (l2 = true → v19 = (.agg (rarr ep' sh' (.slice aq n' cq) le')) ∧ Rfr w' (.agg (rarr ep' sh' (.slice aq n' cq) le')) ⟨ep', sh', l, le'⟩) ∧ (l6 = true → v23 = (.tuple #[(.agg (carr re rs (.slice ai m ci) (.slice ab m cb) rle)), .int .i64 rn, (.agg (rarr re rs (.slice am m cm) rle)), .int .i64 rn]) ∧ Cfo w' 0 (.agg (carr re rs (.slice ai m ci) (.slice ab m cb) rle)) ⟨re, rs, rl, rle⟩ ∧ Rfr w' (.agg (rarr re rs (.slice am m cm) rle)) ⟨re, rs, rl, rle⟩) ∧ (Blk w' wr.heap.size (.cells #[.int .u64 0, .int .i64 0, .slice none 0 0, .slice none 0 0, .int .i64 0] 29 (0, 0)) l12 v10) ∧ (Blk w' wr.heap.size (.cells #[.int .u64 0, .int .i64 0, .slice none 0 0, .int .i64 0] 25 (0, 0)) l13 v12) ∧ (Below wr.heap.size wr w')) ?_ _ _ _ _ ⟨false, false, false, false, u10, u12, u47, u56, none, none, none, none, 0, 0, 0, 0, rfl, by kernel_rfl, rfl, by simp, by simp, by simp, Blk.no _ _ _ _, Blk.no _ _ _ _, hd0⟩
          clear hHeld d0 c0
          rintro nn ll aa w' ⟨l2, l6, l12, l13, v10, v12, v19, v23, ai, ab, am, aq, ci, cb, cm, cq, hn, rfl, rfl, o62, f2, f6, g12, g13, hbw⟩
          cases l6 with
          | true =>
            left
            obtain rfl := o62 rfl
            obtain ⟨rfl, hA, hU⟩ := f6 rfl
            obtain ⟨rfl, -⟩ := f2 rfl
            have HWW : Hid (Below wr.heap.size wr w') := hbw
            have HAA : Hid (Cfo w' 0 (.agg (carr re rs (.slice ai m ci) (.slice ab m cb) rle)) ⟨re, rs, rl, rle⟩) := hA
            have HUU : Hid (Rfr w' (.agg (rarr re rs (.slice am m cm) rle)) ⟨re, rs, rl, rle⟩) := hU
            have hHeld := HS.out _ hbw
            clear o62 f2 f6 hA hU hbw
            cases l12 with
            | true =>
              obtain ⟨p10, rfl, b10, s10⟩ := g12 rfl
              have HB10 : Hid (w'.heap[p10]? = some (.cells #[.int .u64 0, .int .i64 0, .slice none 0 0, .slice none 0 0, .int .i64 0] 29 (0, 0))) := b10
              clear b10 g12
              cases l13 with
              | true =>
                obtain ⟨p12, rfl, b12, s12⟩ := g13 rfl
                have HB12 : Hid (w'.heap[p12]? = some (.cells #[.int .u64 0, .int .i64 0, .slice none 0 0, .int .i64 0] 25 (0, 0))) := b12
                clear b12 g13
                obtain rfl : nn = 9 := by simpa using hn
                refine held_take (i := 12) (d := 44) (v := ?_) rfl rfl (by kernel_rfl) (by kernel_rfl) (by kernel_rfl) (fun _ _ _ h => h) (Or.inl ⟨by rfl, ?_⟩) hHeld ?_
                rotate_left
                · (intro w hSw; (try dsimp only at hSw); go_simp; all_goals (with_reducible rfl))
                try simp only [Act.put, List.setIfInBounds_toArray, List.set_cons_zero, List.set_cons_succ]
                refine held_take (i := 13) (d := 57) (v := ?_) rfl rfl (by kernel_rfl) (by kernel_rfl) (by kernel_rfl) (fun _ _ _ h => h) (Or.inl ⟨by rfl, ?_⟩) hHeld ?_
                rotate_left
                · (intro w hSw; (try dsimp only at hSw); go_simp; all_goals (with_reducible rfl))
                try simp only [Act.put, List.setIfInBounds_toArray, List.set_cons_zero, List.set_cons_succ]
                refine held_take (i := 14) (d := 58) (v := ?_) rfl rfl (by kernel_rfl) (by kernel_rfl) (by kernel_rfl) (fun _ _ _ h => h) (Or.inl ⟨by rfl, ?_⟩) hHeld ?_
                rotate_left
                · (intro w hSw; (try dsimp only at hSw); go_simp; all_goals (with_reducible rfl))
                try simp only [Act.put, List.setIfInBounds_toArray, List.set_cons_zero, List.set_cons_succ]
                refine held_take (i := 15) (d := 59) (v := ?_) rfl rfl (by kernel_rfl) (by kernel_rfl) (by kernel_rfl) (fun _ _ _ h => h) (Or.inl ⟨by rfl, ?_⟩) hHeld ?_
                rotate_left
                · (intro w hSw; (try dsimp only at hSw); go_simp; all_goals (with_reducible rfl))
                try simp only [Act.put, List.setIfInBounds_toArray, List.set_cons_zero, List.set_cons_succ]
                refine held_take (i := 16) (d := 60) (v := ?_) rfl rfl (by kernel_rfl) (by kernel_rfl) (by kernel_rfl) (fun _ _ _ h => h) (Or.inl ⟨by rfl, ?_⟩) hHeld ?_
                rotate_left
                · (intro w hSw; (try dsimp only at hSw); go_simp; all_goals (with_reducible rfl))
                try simp only [Act.put, List.setIfInBounds_toArray, List.set_cons_zero, List.set_cons_succ]
                have HNE : Hid (p12 ≠ p10) := block_ne (tagOf_heap HB12.out) (tagOf_heap HB10.out) (by decide)
                obtain ⟨z0, z1, z2, z3, z4⟩ := five_cells HB10.out
                obtain ⟨g0, g1, g2, g3, g4⟩ := five_frozen HB10.out
                have HF5 : Hid ((put5 w' p10 (.int .u64 (re : Nat)) (.int .i64 rs) (.slice ai m ci) (.slice ab m cb) (.int .i64 rle)).heap[p10]? = some (.cells (carr re rs (.slice ai m ci) (.slice ab m cb) rle) 29)) := five_put HB10.out
                have HT5 : Hid ((put5 w' p10 (.int .u64 (re : Nat)) (.int .i64 rs) (.slice ai m ci) (.slice ab m cb) (.int .i64 rle)).heap[p12]? = some (.cells #[.int .u64 0, .int .i64 0, .slice none 0 0, .int .i64 0] 25 (0, 0))) := (put5_other _ _ _ _ _ HNE.out).trans HB12.out
                have HB5 : Hid (Below wr.heap.size wr (put5 w' p10 (.int .u64 (re : Nat)) (.int .i64 rs) (.slice ai m ci) (.slice ab m cb) (.int .i64 rle))) := below_put5 HWW.out s10 _ _ _ _ _
                have HK5 : Hid (∀ k, k ≠ p10 → (put5 w' p10 (.int .u64 (re : Nat)) (.int .i64 rs) (.slice ai m ci) (.slice ab m cb) (.int .i64 rle)).heap[k]? = w'.heap[k]?) := fun k hk => put5_other _ _ _ _ _ hk
                unfold put5 at HF5 HT5 HB5 HK5
                refine wpAnyH_ready (rs := [19]) (by kernel_rfl) (by simp) ?_
                refine AllReadyH.cons rfl (fun K hK => ?_) AllReadyH.nil
                go_simp
                refine hK.out _ _ (HS.out _ HB5.out) (fun hHeld => ?_)
                clear hK K hHeld
                try simp only [Act.put, List.setIfInBounds_toArray, List.set_cons_zero, List.set_cons_succ]
                generalize (((((w'.setCell ⟨p10, 0, none⟩ (.int .u64 (re : Nat))).setCell ⟨p10, 1, none⟩ (.int .i64 rs)).setCell ⟨p10, 2, none⟩ (.slice ai m ci)).setCell ⟨p10, 3, none⟩ (.slice ab m cb)).setCell ⟨p10, 4, none⟩ (.int .i64 rle)) = w9 at *
                clear z0 z1 z2 z3 z4 g0 g1 g2 g3 g4
                refine wpAnyH_ready (rs := [20]) (by kernel_rfl) (by simp) ?_
                refine AllReadyH.cons rfl (fun K hK => ?_) AllReadyH.nil
                go_simp
                refine hK.out _ _ (HS.out _ HB5.out) (fun hHeld => ?_)
                clear hK K hHeld
                try simp only [Act.put, List.setIfInBounds_toArray, List.set_cons_zero, List.set_cons_succ]
                obtain ⟨z0, z1, z2, z3⟩ := four_cells HT5.out
                obtain ⟨g0, g1, g2, g3⟩ := four_frozen HT5.out
                have HF4 : Hid ((put4 w9 p12 (.int .u64 (re : Nat)) (.int .i64 rs) (.slice am m cm) (.int .i64 rle)).heap[p12]? = some (.cells (rarr re rs (.slice am m cm) rle) 25)) := four_put HT5.out
                have HF6 : Hid ((put4 w9 p12 (.int .u64 (re : Nat)) (.int .i64 rs) (.slice am m cm) (.int .i64 rle)).heap[p10]? = some (.cells (carr re rs (.slice ai m ci) (.slice ab m cb) rle) 29)) := (put4_other _ _ _ _ (fun e => HNE.out e.symm)).trans HF5.out
                have HB6 : Hid (Below wr.heap.size wr (put4 w9 p12 (.int .u64 (re : Nat)) (.int .i64 rs) (.slice am m cm) (.int .i64 rle))) := below_put4 HB5.out s12 _ _ _ _
                have HK6 : Hid (∀ k, k ≠ p10 → k ≠ p12 → (put4 w9 p12 (.int .u64 (re : Nat)) (.int .i64 rs) (.slice am m cm) (.int .i64 rle)).heap[k]? = w'.heap[k]?) := fun k h1 h2 => (put4_other _ _ _ _ h2).trans (HK5.out k h1)
                unfold put4 at HF4 HF6 HB6 HK6
                refine wpAnyH_ready (rs := [21]) (by kernel_rfl) (by simp) ?_
                refine AllReadyH.cons rfl (fun K hK => ?_) AllReadyH.nil
                go_simp
                refine hK.out _ _ (HS.out _ HB6.out) (fun hHeld => ?_)
                clear hK K hHeld
                try simp only [Act.put, List.setIfInBounds_toArray, List.set_cons_zero, List.set_cons_succ]
                generalize ((((w9.setCell ⟨p12, 0, none⟩ (.int .u64 (re : Nat))).setCell ⟨p12, 1, none⟩ (.int .i64 rs)).setCell ⟨p12, 2, none⟩ (.slice am m cm)).setCell ⟨p12, 3, none⟩ (.int .i64 rle)) = w10 at *
                clear z0 z1 z2 z3 g0 g1 g2 g3
                refine wpAnyH_ready (rs := [22]) (by kernel_rfl) (by simp) ?_
                refine AllReadyH.cons rfl (fun K hK => ?_) AllReadyH.nil
                go_simp
                refine hK.out _ _ (HS.out _ HB6.out) (fun hHeld => ?_)
                clear hK K hHeld
                try simp only [Act.put, List.setIfInBounds_toArray, List.set_cons_zero, List.set_cons_succ]
                refine wpAnyH_done (by kernel_rfl) ?_ _
                refine NoPanic.normal ?_
                have hkk : ∀ k t, tagOf w' k = some t → t ≠ 29 → t ≠ 25 → w10.heap[k]? = w'.heap[k]? := fun k t ht h1 h2 => HK6.out k (tag_ne HB10.out h1 ht) (tag_ne HB12.out h2 ht)
                have HA10 : Hid (Cfo w10 0 (.agg (carr re rs (.slice ai m ci) (.slice ab m cb) rle)) ⟨re, rs, rl, rle⟩) := by
                  obtain ⟨va, vb, e, h1, h2, h3⟩ := HAA.out
                  exact ⟨va, vb, e, own_same h1 (fun k _ ht => hkk k 3 ht (by decide) (by decide)), own_same h2 (fun k _ ht => hkk k 4 ht (by decide) (by decide)), h3⟩
                have HU10 : Hid (Rfr w10 (.agg (rarr re rs (.slice am m cm) rle)) ⟨re, rs, rl, rle⟩) := by
                  obtain ⟨am', cm', e, hm, h3⟩ := HUU.out
                  refine ⟨am', cm', e, ?_, h3⟩
                  by_cases h0 : 0 < rl.length
                  · obtain ⟨b9, off9, e9, hc⟩ := hm.at h0
                    subst e9
                    have n1 := hm.ne h0 HB10.out rfl
                    have n2 := hm.ne h0 HB12.out rfl
                    exact .inr ⟨b9, off9, rfl, fun i m hi => by rw [cell_same (HK6.out b9 n1 n2), cell_same (HK6.out b9 n1 n2)]; exact hc i m hi⟩
                  · exact .inl (show rl = [] from List.length_eq_zero_iff.1 (by omega))
                have HB10' : Hid (Below w.heap.size w w10) := HB.out.trans (HB6.out.mono HB.out.size)
                clear hkk HK5 HK6 HAA HUU HF5 HT5 HB5 HB10 HB12
                have HO10 : Hid (w10.heap[p7]? = some (.cells (carr ep' sh' (.slice a1' n' c1') (.slice b1' n' d1') le') 29)) := heap_kept HO.out HB6.out
                have HC10 : Hid (Cfo w10 0 (.agg (carr ep' sh' (.slice a1' n' c1') (.slice b1' n' d1') le')) ⟨ep', sh', l, le'⟩) := HC.out.later HB6.out
                clear HB6 HF4 HU10 HNE HWW
                by_cases hrn : rn = 0
                · subst hrn
                  have hhe : Heir ⟨ep', sh', l, le'⟩ ⟨re, rs, rl, rle⟩ := heir_turn HRT.out HRR.out
                  have HE : Hid (Heir ⟨ep', sh', l, le'⟩ ⟨re, rs, rl, rle⟩) := hhe
                  have hep2 : re ≤ ep' + 1 := by have h1 := turn_ep (c := ⟨ep', sh', l, le'⟩) (kd := kd) (x := x) (e := ep' + 1) (by simp only; omega); rw [HRR.out] at h1; exact h1
                  have hm1 := (right_true hhe.right).few
                  simp only [HRLN.out] at hm1
                  have hm0 : 0 < m := by omega
                  have HHD : Hid (hd rl = true) := (right_true hhe.right).hd
                  obtain ⟨y0, hy0⟩ : ∃ y0, (nodes rl)[0]? = some y0 := ⟨_, List.getElem?_eq_getElem (by rw [nodes_length, HRLN.out]; omega)⟩
                  have HAT : Hid (atC ⟨re, rs, rl, rle⟩ 0 = y0) := by show atC _ _ = _; unfold atC; rw [if_pos ⟨hhe.right, by omega, by simp only [HRLN.out]; omega⟩]; show ((nodes rl)[0]?).getD 0 = y0; rw [hy0]; rfl
                  have hyin := hhe.head y0 hy0
                  obtain ⟨kp, hkp1, hkp2, _, _⟩ := plc_mem hyin
                  have HPL : Hid (placeC ⟨ep', sh', l, le'⟩ y0 = (kp : Int)) := by show (if _ then _ else _) = _; rw [if_pos HRT.out]; exact hkp2
                  clear hyin hkp1 hkp2 hy0 hhe
                  obtain ⟨xa, xc, xb, xd, exx, hvi, hvb, -⟩ := HA10.out.read
                  simp only [HRLN.out] at exx hvi hvb
                  simp only [Value.agg.injEq, Array.mk.injEq, List.cons.injEq, Value.slice.injEq] at exx
                  obtain ⟨-, -, ⟨rfl, -, rfl⟩, ⟨rfl, -, rfl⟩, -⟩ := exx
                  have HVI : Hid (Vals w10 ai m (rl.map mi)) := hvi
                  obtain ⟨bf, of_, rfl, hcf⟩ := hvb.at (by omega)
                  have hf0 : w10.cell? ⟨bf, of_, none⟩ = some (.bool true) := by
                    have hl0 : 0 < rl.length := by rw [HRLN.out]; omega
                    have := hcf 0 (.bool (hd rl)) (by rw [List.getElem?_map, List.getElem?_eq_getElem hl0]; cases rl with | nil => simp at hl0 | cons mm tt => rfl)
                    rw [HHD.out] at this
                    simpa using this
                  clear hvi hvb hcf
                  obtain ⟨x0, x1, x2, x3, x4⟩ := five_cells HF6.out
                  obtain ⟨q0, q1, q2, q3, q4⟩ := five_cells HO10.out
                  have hrr := right_any _ _ _ (HA10.out.read.later (Below.refl _ w10).drew)
                  rw [HE.out.right] at hrr
                  go_upto_region 10 with fail
                  refine wp_region_noPanic ?_
                  refine wp_region_held_drew (S := fun w' => (w'.cell? ⟨p10, 0, none⟩ = some (.int .u64 (re : Nat)) ∧ w'.cell? ⟨p10, 1, none⟩ = some (.int .i64 rs) ∧ w'.cell? ⟨p10, 2, none⟩ = some (.slice ai m ci) ∧ w'.cell? ⟨p10, 3, none⟩ = some (.slice (some ⟨bf, of_, none⟩) m cb) ∧ w'.cell? ⟨p10, 4, none⟩ = some (.int .i64 rle)) ∧ (w'.cell? ⟨p7, 0, none⟩ = some (.int .u64 (ep' : Nat)) ∧ w'.cell? ⟨p7, 1, none⟩ = some (.int .i64 sh') ∧ w'.cell? ⟨p7, 2, none⟩ = some (.slice a1' n' c1') ∧ w'.cell? ⟨p7, 3, none⟩ = some (.slice b1' n' d1') ∧ w'.cell? ⟨p7, 4, none⟩ = some (.int .i64 le')) ∧ w'.cell? ⟨bf, of_, none⟩ = some (.bool true)) (by kernel_rfl) ?_ (fun hHeld => ?_)
                  · exact ⟨⟨x0, x1, x2, x3, x4⟩, ⟨q0, q1, q2, q3, q4⟩, hf0⟩
                  refine held_take (i := 0) (d := 63) (v := ?_) rfl rfl (by kernel_rfl) (by kernel_rfl) (by kernel_rfl) (fun _ _ _ h => h) (Or.inl ⟨by rfl, ?_⟩) hHeld ?_
                  rotate_left
                  · (intro w hSw; (try dsimp only at hSw); go_simp; all_goals (with_reducible rfl))
                  try simp only [Act.put, List.setIfInBounds_toArray, List.set_cons_zero, List.set_cons_succ]
                  refine wpAnyH_ready (rs := [1]) (by kernel_rfl) (by simp) ?_
                  refine AllReadyH.cons rfl (fun K hK => ?_) AllReadyH.nil
                  go_simp
                  refine hrr.mono ?_
                  rintro e w11 ⟨rfl, hb11⟩
                  have b11 : Below w10.heap.size w10 w11 := (Below.refl _ w10).drew.trans hb11
                  have hO11 := heap_kept HO10.out b11
                  have hF11 := heap_kept HF6.out b11
                  have hf11 := cell_later b11 hf0
                  have hhh := head_any _ _ _ (HA10.out.read.later b11)
                  rw [HAT.out] at hhh
                  go_wp2_with fail
                  refine hK.out _ _ ?_ (fun hHeld => ?_)
                  · exact ⟨five_cells hF11, five_cells hO11, hf11⟩
                  clear hK K
                  try simp only [Act.put, List.setIfInBounds_toArray, List.set_cons_zero, List.set_cons_succ]
                  refine held_take (i := 2) (d := 65) (v := ?_) rfl rfl (by kernel_rfl) (by kernel_rfl) (by kernel_rfl) (fun _ _ _ h => h) (Or.inl ⟨by rfl, ?_⟩) hHeld ?_
                  rotate_left
                  · (intro w hSw; (try dsimp only at hSw); go_simp; all_goals (with_reducible rfl))
                  try simp only [Act.put, List.setIfInBounds_toArray, List.set_cons_zero, List.set_cons_succ]
                  refine held_take (i := 3) (d := 66) (v := ?_) rfl rfl (by kernel_rfl) (by kernel_rfl) (by kernel_rfl) (fun _ _ _ h => h) (Or.inl ⟨by rfl, ?_⟩) hHeld ?_
                  rotate_left
                  · (intro w hSw; (try dsimp only at hSw); go_simp; all_goals (with_reducible rfl))
                  try simp only [Act.put, List.setIfInBounds_toArray, List.set_cons_zero, List.set_cons_succ]
                  refine held_take (i := 4) (d := 67) (v := ?_) rfl rfl (by kernel_rfl) (by kernel_rfl) (by kernel_rfl) (fun _ _ _ h => h) (Or.inl ⟨by rfl, ?_⟩) hHeld ?_
                  rotate_left
                  · (intro w hSw; (try dsimp only at hSw); go_simp; all_goals (with_reducible rfl))
                  try simp only [Act.put, List.setIfInBounds_toArray, List.set_cons_zero, List.set_cons_succ]
                  refine held_take (i := 5) (d := 68) (v := ?_) rfl rfl (by kernel_rfl) (by kernel_rfl) (by kernel_rfl) (fun _ _ _ h => h) (Or.inl ⟨by rfl, ?_⟩) hHeld ?_
                  rotate_left
                  · (intro w hSw; (try dsimp only at hSw); go_simp; all_goals (with_reducible rfl))
                  try simp only [Act.put, List.setIfInBounds_toArray, List.set_cons_zero, List.set_cons_succ]
                  refine held_take (i := 6) (d := 69) (v := ?_) rfl rfl (by kernel_rfl) (by kernel_rfl) (by kernel_rfl) (fun _ _ _ h => h) (Or.inl ⟨by rfl, ?_⟩) hHeld ?_
                  rotate_left
                  · (intro w hSw; (try dsimp only at hSw); go_simp; all_goals (with_reducible rfl))
                  try simp only [Act.put, List.setIfInBounds_toArray, List.set_cons_zero, List.set_cons_succ]
                  refine held_take (i := 7) (d := 70) (v := ?_) rfl rfl (by kernel_rfl) (by kernel_rfl) (by kernel_rfl) (fun _ _ _ h => h) (Or.inl ⟨by rfl, ?_⟩) hHeld ?_
                  rotate_left
                  · (intro w hSw; (try dsimp only at hSw); go_simp; all_goals (with_reducible rfl))
                  try simp only [Act.put, List.setIfInBounds_toArray, List.set_cons_zero, List.set_cons_succ]
                  refine held_take (i := 8) (d := 71) (v := ?_) rfl rfl (by kernel_rfl) (by kernel_rfl) (by kernel_rfl) (fun _ _ _ h => h) (Or.inl ⟨by rfl, ?_⟩) hHeld ?_
                  rotate_left
                  · (intro w hSw; (try dsimp only at hSw); go_simp; all_goals (with_reducible rfl))
                  try simp only [Act.put, List.setIfInBounds_toArray, List.set_cons_zero, List.set_cons_succ]
                  refine held_take (i := 9) (d := 72) (v := ?_) rfl rfl (by kernel_rfl) (by kernel_rfl) (by kernel_rfl) (fun _ _ _ h => h) (Or.inl ⟨by rfl, ?_⟩) hHeld ?_
                  rotate_left
                  · (intro w hSw; (try dsimp only at hSw); go_simp; all_goals (with_reducible rfl))
                  try simp only [Act.put, List.setIfInBounds_toArray, List.set_cons_zero, List.set_cons_succ]
                  refine held_take (i := 10) (d := 73) (v := ?_) rfl rfl (by kernel_rfl) (by kernel_rfl) (by kernel_rfl) (fun _ _ _ h => h) (Or.inl ⟨by rfl, ?_⟩) hHeld ?_
                  rotate_left
                  · (intro w hSw; (try dsimp only at hSw); go_simp; all_goals (with_reducible rfl))
                  try simp only [Act.put, List.setIfInBounds_toArray, List.set_cons_zero, List.set_cons_succ]
                  refine held_take (i := 11) (d := 74) (v := ?_) rfl rfl (by kernel_rfl) (by kernel_rfl) (by kernel_rfl) (fun _ _ _ h => h) (Or.inl ⟨by rfl, ?_⟩) hHeld ?_
                  rotate_left
                  · (intro w hSw; (try dsimp only at hSw); go_simp; all_goals (with_reducible rfl))
                  try simp only [Act.put, List.setIfInBounds_toArray, List.set_cons_zero, List.set_cons_succ]
                  refine held_take (i := 12) (d := 75) (v := ?_) rfl rfl (by kernel_rfl) (by kernel_rfl) (by kernel_rfl) (fun _ _ _ h => h) (Or.inl ⟨by rfl, ?_⟩) hHeld ?_
                  rotate_left
                  · (intro w hSw; (try dsimp only at hSw); go_simp; all_goals (with_reducible rfl))
                  try simp only [Act.put, List.setIfInBounds_toArray, List.set_cons_zero, List.set_cons_succ]
                  refine wpAnyH_ready (rs := [13]) (by kernel_rfl) (by simp) ?_
                  refine AllReadyH.cons rfl (fun K hK => ?_) AllReadyH.nil
                  go_simp
                  refine hhh.mono ?_
                  rintro e w12 ⟨rfl, hb12⟩
                  have b12 := b11.trans (hb12.mono b11.size)
                  have hO12 := heap_kept hO11 hb12
                  have hF12 := heap_kept hF11 hb12
                  have hf12 := cell_later hb12 hf11
                  have hpp := place_any _ _ y0 _ (HC10.out.read.later b12)
                  rw [HPL.out] at hpp
                  go_wp2_with fail
                  refine hK.out _ _ ?_ (fun hHeld => ?_)
                  · exact ⟨five_cells hF12, five_cells hO12, hf12⟩
                  clear hK K
                  try simp only [Act.put, List.setIfInBounds_toArray, List.set_cons_zero, List.set_cons_succ]
                  refine wpAnyH_ready (rs := [14]) (by kernel_rfl) (by simp) ?_
                  refine AllReadyH.cons rfl (fun K hK => ?_) AllReadyH.nil
                  go_simp
                  refine hpp.mono ?_
                  rintro e w13 ⟨rfl, hb13⟩
                  have b13 := b12.trans (hb13.mono b12.size)
                  have hO13 := heap_kept hO12 hb13
                  have hF13 := heap_kept hF12 hb13
                  have hf13 := cell_later hb13 hf12
                  have hk0 : decide ((kp : Int) < 0) = false := by rw [decide_eq_false_iff_not]; omega
                  go_wp2_with fail
                  refine hK.out _ _ ?_ (fun hHeld => ?_)
                  · exact ⟨five_cells hF13, five_cells hO13, hf13⟩
                  clear hK K
                  try simp only [Act.put, List.setIfInBounds_toArray, List.set_cons_zero, List.set_cons_succ]
                  refine held_take (i := 15) (d := 78) (v := ?_) rfl rfl (by kernel_rfl) (by kernel_rfl) (by kernel_rfl) (fun _ _ _ h => h) (Or.inl ⟨by rfl, ?_⟩) hHeld ?_
                  rotate_left
                  · (intro w hSw; (try dsimp only at hSw); go_simp; all_goals (with_reducible rfl))
                  try simp only [Act.put, List.setIfInBounds_toArray, List.set_cons_zero, List.set_cons_succ]
                  refine held_take (i := 16) (d := 79) (v := ?_) rfl rfl (by kernel_rfl) (by kernel_rfl) (by kernel_rfl) (fun _ _ _ h => h) (Or.inl ⟨by rfl, ?_⟩) hHeld ?_
                  rotate_left
                  · (intro w hSw; (try dsimp only at hSw); go_simp; all_goals (with_reducible rfl))
                  try simp only [Act.put, List.setIfInBounds_toArray, List.set_cons_zero, List.set_cons_succ]
                  refine wpAnyH_done (by kernel_rfl) ?_ _
                  refine NoPanic.normal ?_
                  have HO13 : Hid (w13.heap[p7]? = some (.cells (carr ep' sh' (.slice a1' n' c1') (.slice b1' n' d1') le') 29)) := hO13
                  have HF13 : Hid (w13.heap[p10]? = some (.cells (carr re rs (.slice ai m ci) (.slice (some ⟨bf, of_, none⟩) m cb) rle) 29)) := hF13
                  have HA13 : Hid (Cfo w13 0 (.agg (carr re rs (.slice ai m ci) (.slice (some ⟨bf, of_, none⟩) m cb) rle)) ⟨re, rs, rl, rle⟩) := HA10.out.later b13
                  have HC13 : Hid (Cfo w13 0 (.agg (carr ep' sh' (.slice a1' n' c1') (.slice b1' n' d1') le')) ⟨ep', sh', l, le'⟩) := HC10.out.later b13
                  have HB13 : Hid (Below w.heap.size w w13) := HB10'.out.trans (b13.mono HB10'.out.size)
                  have HV13 : Hid (Vals w13 ai m (rl.map mi)) := HVI.out.later b13
                  clear hO11 hO12 hF11 hF12 hf11 hf12 hf13 hb11 hb12 hb13 b11 b12 b13 x0 x1 x2 x3 x4 q0 q1 q2 q3 q4 hf0 HA10 HC10 HVI HF6 HO10 HB10' hO13 hF13 hrr hhh hpp hHeld
                  obtain ⟨x0, x1, x2, x3, x4⟩ := five_cells HF13.out
                  go_wp2
                  clear x0 x1 x2 x3 x4 hk0
                  generalize wr = wo at *
                  go_loopw [14, 83] (fun la j wq => ∃ (jn : Nat) (last : Int), jn ≤ m ∧ j = .int .i64 (jn : Nat) ∧ la = .int .i64 last ∧ -1 ≤ last ∧ last ≤ 100 ∧ Hid (∀ (i : Nat) y, jn ≤ i → (nodes rl)[i]? = some y → 0 ≤ plc (nodes l) y → last ≤ plc (nodes l) y) ∧ Hid (Below w13.heap.size w13 wq)) (fun _ j _ => m - (intOf j).toNat)
                  case atStart => exact ⟨0, -1, Nat.zero_le _, rfl, rfl, by omega, by omega, fun i y _ _ h => by omega, Below.refl _ _⟩
                  case round =>
                    obtain ⟨jn, last, hj, rfl, rfl, hla1, hla2, HORD, HBQ⟩ := hrel
                    have HOQ : Hid (wr.heap[p7]? = some (.cells (carr ep' sh' (.slice a1' n' c1') (.slice b1' n' d1') le') 29)) := heap_kept HO13.out HBQ.out
                    have HFQ : Hid (wr.heap[p10]? = some (.cells (carr re rs (.slice ai m ci) (.slice (some ⟨bf, of_, none⟩) m cb) rle) 29)) := heap_kept HF13.out HBQ.out
                    have HBWQ : Hid (Below w.heap.size w wr) := HB13.out.trans (HBQ.out.mono HB13.out.size)
                    by_cases hjm : jn < m
                    · obtain ⟨bi, oi, rfl, hci⟩ := (HV13.out.later HBQ.out).at (by omega)
                      have hjl : jn < rl.length := by rw [HRLN.out]; exact hjm
                      have e0 := hci jn (.int .i64 rl[jn].1) (by simp [hjl, mi])
                      have hyn : (nodes rl)[jn]? = some rl[jn].1 := nodes_at (List.getElem?_eq_getElem hjl)
                      generalize rl[jn].1 = y at e0 hyn
                      have HYN : Hid ((nodes rl)[jn]? = some y) := hyn
                      clear hci hyn hjl
                      have hpl := place_any _ _ y _ (HC13.out.read.later HBQ.out)
                      have hpe : placeC ⟨ep', sh', l, le'⟩ y = plc (nodes l) y := by show (if _ then _ else _) = _; rw [if_pos HRT.out]
                      rw [hpe] at hpl
                      clear hpe
                      have hbd := plc_bd (nodes l) y
                      rw [nodes_length, HLN.out] at hbd
                      obtain ⟨at_, hat⟩ : ∃ q, q = plc (nodes l) y := ⟨_, rfl⟩
                      rw [← hat] at hpl hbd
                      have HATY : Hid (at_ = plc (nodes l) y) := hat
                      clear hat
                      obtain ⟨q0, q1, q2, q3, q4⟩ := five_cells HOQ.out
                      go_wp2_with fail
                      refine hpl.mono ?_
                      clear hpl q0 q1 q2 q3 q4 e0
                      rintro e w20 ⟨rfl, hb20⟩
                      have HB20 : Hid (Below w13.heap.size w13 w20) := HBQ.out.trans (hb20.mono HBQ.out.size)
                      clear hb20
                      by_cases hneg : at_ < 0
                      · go_wp2
                        go_roundw
                        case rel => exact ⟨jn + 1, last, by omega, by go_num, rfl, hla1, hla2, fun i yy h1 => HORD.out i yy (by omega), HB20⟩
                        case measure => simp [intOf]; omega
                      · have h0at : 0 ≤ at_ := by omega
                        have hge : last ≤ at_ := by rw [HATY.out]; exact HORD.out jn y (Nat.le_refl _) HYN.out (by rw [← HATY.out]; omega)
                        have HN : Hid (∀ (i : Nat) yy, jn + 1 ≤ i → (nodes rl)[i]? = some yy → 0 ≤ plc (nodes l) yy → at_ ≤ plc (nodes l) yy) := fun i yy h1 h2 h3 => by
                          have ho := HE.out.order
                          rw [List.pairwise_iff_getElem] at ho
                          obtain ⟨hi1, hi2⟩ := List.getElem?_eq_some_iff.1 h2
                          obtain ⟨hj1, hj3⟩ := List.getElem?_eq_some_iff.1 HYN.out
                          have h9 := ho jn i hj1 hi1 (by omega)
                          simp only [hi2, hj3] at h9
                          rw [HATY.out]
                          exact h9 (by rw [← HATY.out]; omega) h3
                        go_wp2
                        go_roundw
                        case rel => exact ⟨jn + 1, at_, by omega, by go_num, rfl, by omega, by omega, HN, HB20⟩
                        case measure => simp [intOf]; omega
                    · have HSn : Hid (Hs w (put5 wr p7 (.int .u64 (re : Nat)) (.int .i64 rs) (.slice ai m ci) (.slice (some ⟨bf, of_, none⟩) m cb) (.int .i64 rle)) p7 (k + 1)) := by
                        refine ⟨below_put5 HBWQ.out HP7.out _ _ _ _ _, ⟨re, rs, rl, rle⟩, ai, ci, some ⟨bf, of_, none⟩, cb, HE.out.right, by show re ≤ 1000000 + (k + 1); omega, ?_, ?_⟩
                        · show _ = some (Obj.cells (carr re rs (.slice ai rl.length ci) (.slice (some ⟨bf, of_, none⟩) rl.length cb) rle) 29)
                          rw [HRLN.out]
                          exact five_put HOQ.out
                        · show Cfo _ _ (.agg (carr re rs (.slice ai rl.length ci) (.slice (some ⟨bf, of_, none⟩) rl.length cb) rle)) _
                          rw [HRLN.out]
                          obtain ⟨va, vb, ev, h1, h2, h3⟩ := HA13.out.later HBQ.out
                          exact ⟨va, vb, ev, own_same h1 (fun k _ ht => put5_other _ _ _ _ _ (tag_ne HOQ.out (by decide) ht)), own_same h2 (fun k _ ht => put5_other _ _ _ _ _ (tag_ne HOQ.out (by decide) ht)), h3⟩
                      unfold put5 at HSn
                      obtain ⟨q0, q1, q2, q3, q4⟩ := five_cells HOQ.out
                      obtain ⟨g0, g1, g2, g3, g4⟩ := five_frozen HOQ.out
                      obtain ⟨x0, x1, x2, x3, x4⟩ := five_cells HFQ.out
                      clear HORD
                      go_wp2
                      go_roundw
                      case rel => exact ⟨k + 1, by omega, by omega, by go_num, HSn⟩
                      case measure => simp [intOf]; omega
                · have hnb : (rn != 0) = true := by simp [hrn]
                  have HSn : Hid (Hs w w10 p7 (k + 1)) := ⟨HB10'.out, ⟨ep', sh', l, le'⟩, a1', c1', b1', d1', HRT.out, by show ep' ≤ 1000000 + (k + 1); omega, by show _ = some (Obj.cells (carr ep' sh' (.slice a1' l.length c1') (.slice b1' l.length d1') le') 29); rw [HLN.out]; exact HO10.out, by show Cfo _ _ (.agg (carr ep' sh' (.slice a1' l.length c1') (.slice b1' l.length d1') le')) _; rw [HLN.out]; exact HC10.out⟩
                  clear HRR hrn
                  go_wp2
                  go_roundw
                  case rel => exact ⟨k + 1, by omega, by omega, by go_num, HSn⟩
                  case measure => simp [intOf]; omega
              | false =>
                obtain rfl : nn = 10 := by simpa using hn
                clear g13
                refine held_take (i := 12) (d := 44) (v := ?_) rfl rfl (by kernel_rfl) (by kernel_rfl) (by kernel_rfl) (fun _ _ _ h => h) (Or.inl ⟨by rfl, ?_⟩) hHeld ?_
                rotate_left
                · (intro w hSw; (try dsimp only at hSw); go_simp; all_goals (with_reducible rfl))
                try simp only [Act.put, List.setIfInBounds_toArray, List.set_cons_zero, List.set_cons_succ]
                refine held_take (i := 13) (d := 57) (v := ?_) rfl rfl (by kernel_rfl) (by kernel_rfl) (by kernel_rfl) (fun _ _ _ h => h) (Or.inl ⟨by rfl, ?_⟩) hHeld ?_
                rotate_left
                · (intro w hSw; (try dsimp only at hSw); go_simp; all_goals (with_reducible rfl))
                try simp only [Act.put, List.setIfInBounds_toArray, List.set_cons_zero, List.set_cons_succ]
                refine held_take (i := 14) (d := 58) (v := ?_) rfl rfl (by kernel_rfl) (by kernel_rfl) (by kernel_rfl) (fun _ _ _ h => h) (Or.inl ⟨by rfl, ?_⟩) hHeld ?_
                rotate_left
                · (intro w hSw; (try dsimp only at hSw); go_simp; all_goals (with_reducible rfl))
                try simp only [Act.put, List.setIfInBounds_toArray, List.set_cons_zero, List.set_cons_succ]
                refine held_take (i := 15) (d := 59) (v := ?_) rfl rfl (by kernel_rfl) (by kernel_rfl) (by kernel_rfl) (fun _ _ _ h => h) (Or.inl ⟨by rfl, ?_⟩) hHeld ?_
                rotate_left
                · (intro w hSw; (try dsimp only at hSw); go_simp; all_goals (with_reducible rfl))
                try simp only [Act.put, List.setIfInBounds_toArray, List.set_cons_zero, List.set_cons_succ]
                refine held_take (i := 16) (d := 60) (v := ?_) rfl rfl (by kernel_rfl) (by kernel_rfl) (by kernel_rfl) (fun _ _ _ h => h) (Or.inl ⟨by rfl, ?_⟩) hHeld ?_
                rotate_left
                · (intro w hSw; (try dsimp only at hSw); go_simp; all_goals (with_reducible rfl))
                try simp only [Act.put, List.setIfInBounds_toArray, List.set_cons_zero, List.set_cons_succ]
                refine wpAnyH_ready (rs := [18]) (by kernel_rfl) (by simp) ?_
                refine AllReadyH.cons rfl (fun K hK => ?_) AllReadyH.nil
                have hba : Below w'.heap.size w' (w'.alloc (.cells #[.int .u64 0, .int .i64 0, .slice none 0 0, .int .i64 0] 25 (0, 0))) := (Below.refl _ _).alloc (Nat.le_refl _) _
                have HWX : Hid (Below wr.heap.size wr (w'.alloc (.cells #[.int .u64 0, .int .i64 0, .slice none 0 0, .int .i64 0] 25 (0, 0)))) := HWW.out.trans (hba.mono HWW.out.size)
                have HAX : Hid (Cfo (w'.alloc (.cells #[.int .u64 0, .int .i64 0, .slice none 0 0, .int .i64 0] 25 (0, 0))) 0 (.agg (carr re rs (.slice ai m ci) (.slice ab m cb) rle)) ⟨re, rs, rl, rle⟩) := HAA.out.later hba
                have HUX : Hid (Rfr (w'.alloc (.cells #[.int .u64 0, .int .i64 0, .slice none 0 0, .int .i64 0] 25 (0, 0))) (.agg (rarr re rs (.slice am m cm) rle)) ⟨re, rs, rl, rle⟩) := HUU.out.later hba
                have HB12 : Hid ((w'.alloc (.cells #[.int .u64 0, .int .i64 0, .slice none 0 0, .int .i64 0] 25 (0, 0))).heap[w'.heap.size]? = some (.cells #[.int .u64 0, .int .i64 0, .slice none 0 0, .int .i64 0] 25 (0, 0))) := heap_alloc_new _ _
                have hsp : Hid (wr.heap.size ≤ w'.heap.size) := HWW.out.size
                have HB10X : Hid ((w'.alloc (.cells #[.int .u64 0, .int .i64 0, .slice none 0 0, .int .i64 0] 25 (0, 0))).heap[p10]? = some (.cells #[.int .u64 0, .int .i64 0, .slice none 0 0, .slice none 0 0, .int .i64 0] 29 (0, 0))) := heap_kept HB10.out hba
                go_simp
                refine hK.out _ _ (HS.out _ HWX.out) (fun hHeld => ?_)
                clear hK K hba HWW HAA HUU
                try simp only [Act.put, List.setIfInBounds_toArray, List.set_cons_zero, List.set_cons_succ]
                generalize w'.heap.size = p12 at *
                generalize (w'.alloc (.cells #[.int .u64 0, .int .i64 0, .slice none 0 0, .int .i64 0] 25 (0, 0))) = w8 at *
                have s12 := hsp.out
                clear hsp
                have HWW := HWX
                have HAA := HAX
                have HUU := HUX
                clear HWX HAX HUX
                clear HB10
                have HB10 := HB10X
                clear HB10X
                have HNE : Hid (p12 ≠ p10) := block_ne (tagOf_heap HB12.out) (tagOf_heap HB10.out) (by decide)
                obtain ⟨z0, z1, z2, z3, z4⟩ := five_cells HB10.out
                obtain ⟨g0, g1, g2, g3, g4⟩ := five_frozen HB10.out
                have HF5 : Hid ((put5 w8 p10 (.int .u64 (re : Nat)) (.int .i64 rs) (.slice ai m ci) (.slice ab m cb) (.int .i64 rle)).heap[p10]? = some (.cells (carr re rs (.slice ai m ci) (.slice ab m cb) rle) 29)) := five_put HB10.out
                have HT5 : Hid ((put5 w8 p10 (.int .u64 (re : Nat)) (.int .i64 rs) (.slice ai m ci) (.slice ab m cb) (.int .i64 rle)).heap[p12]? = some (.cells #[.int .u64 0, .int .i64 0, .slice none 0 0, .int .i64 0] 25 (0, 0))) := (put5_other _ _ _ _ _ HNE.out).trans HB12.out
                have HB5 : Hid (Below wr.heap.size wr (put5 w8 p10 (.int .u64 (re : Nat)) (.int .i64 rs) (.slice ai m ci) (.slice ab m cb) (.int .i64 rle))) := below_put5 HWW.out s10 _ _ _ _ _
                have HK5 : Hid (∀ k, k ≠ p10 → (put5 w8 p10 (.int .u64 (re : Nat)) (.int .i64 rs) (.slice ai m ci) (.slice ab m cb) (.int .i64 rle)).heap[k]? = w8.heap[k]?) := fun k hk => put5_other _ _ _ _ _ hk
                unfold put5 at HF5 HT5 HB5 HK5
                refine wpAnyH_ready (rs := [19]) (by kernel_rfl) (by simp) ?_
                refine AllReadyH.cons rfl (fun K hK => ?_) AllReadyH.nil
                go_simp
                refine hK.out _ _ (HS.out _ HB5.out) (fun hHeld => ?_)
                clear hK K hHeld
                try simp only [Act.put, List.setIfInBounds_toArray, List.set_cons_zero, List.set_cons_succ]
                generalize (((((w8.setCell ⟨p10, 0, none⟩ (.int .u64 (re : Nat))).setCell ⟨p10, 1, none⟩ (.int .i64 rs)).setCell ⟨p10, 2, none⟩ (.slice ai m ci)).setCell ⟨p10, 3, none⟩ (.slice ab m cb)).setCell ⟨p10, 4, none⟩ (.int .i64 rle)) = w9 at *
                clear z0 z1 z2 z3 z4 g0 g1 g2 g3 g4
                refine wpAnyH_ready (rs := [20]) (by kernel_rfl) (by simp) ?_
                refine AllReadyH.cons rfl (fun K hK => ?_) AllReadyH.nil
                go_simp
                refine hK.out _ _ (HS.out _ HB5.out) (fun hHeld => ?_)
                clear hK K hHeld
                try simp only [Act.put, List.setIfInBounds_toArray, List.set_cons_zero, List.set_cons_succ]
                obtain ⟨z0, z1, z2, z3⟩ := four_cells HT5.out
                obtain ⟨g0, g1, g2, g3⟩ := four_frozen HT5.out
                have HF4 : Hid ((put4 w9 p12 (.int .u64 (re : Nat)) (.int .i64 rs) (.slice am m cm) (.int .i64 rle)).heap[p12]? = some (.cells (rarr re rs (.slice am m cm) rle) 25)) := four_put HT5.out
                have HF6 : Hid ((put4 w9 p12 (.int .u64 (re : Nat)) (.int .i64 rs) (.slice am m cm) (.int .i64 rle)).heap[p10]? = some (.cells (carr re rs (.slice ai m ci) (.slice ab m cb) rle) 29)) := (put4_other _ _ _ _ (fun e => HNE.out e.symm)).trans HF5.out
                have HB6 : Hid (Below wr.heap.size wr (put4 w9 p12 (.int .u64 (re : Nat)) (.int .i64 rs) (.slice am m cm) (.int .i64 rle))) := below_put4 HB5.out s12 _ _ _ _
                have HK6 : Hid (∀ k, k ≠ p10 → k ≠ p12 → (put4 w9 p12 (.int .u64 (re : Nat)) (.int .i64 rs) (.slice am m cm) (.int .i64 rle)).heap[k]? = w8.heap[k]?) := fun k h1 h2 => (put4_other _ _ _ _ h2).trans (HK5.out k h1)
                unfold put4 at HF4 HF6 HB6 HK6
                refine wpAnyH_ready (rs := [21]) (by kernel_rfl) (by simp) ?_
                refine AllReadyH.cons rfl (fun K hK => ?_) AllReadyH.nil
                go_simp
                refine hK.out _ _ (HS.out _ HB6.out) (fun hHeld => ?_)
                clear hK K hHeld
                try simp only [Act.put, List.setIfInBounds_toArray, List.set_cons_zero, List.set_cons_succ]
                generalize ((((w9.setCell ⟨p12, 0, none⟩ (.int .u64 (re : Nat))).setCell ⟨p12, 1, none⟩ (.int .i64 rs)).setCell ⟨p12, 2, none⟩ (.slice am m cm)).setCell ⟨p12, 3, none⟩ (.int .i64 rle)) = w10 at *
                clear z0 z1 z2 z3 g0 g1 g2 g3
                refine wpAnyH_ready (rs := [22]) (by kernel_rfl) (by simp) ?_
                refine AllReadyH.cons rfl (fun K hK => ?_) AllReadyH.nil
                go_simp
                refine hK.out _ _ (HS.out _ HB6.out) (fun hHeld => ?_)
                clear hK K hHeld
                try simp only [Act.put, List.setIfInBounds_toArray, List.set_cons_zero, List.set_cons_succ]
                refine wpAnyH_done (by kernel_rfl) ?_ _
                refine NoPanic.normal ?_
                have hkk : ∀ k t, tagOf w8 k = some t → t ≠ 29 → t ≠ 25 → w10.heap[k]? = w8.heap[k]? := fun k t ht h1 h2 => HK6.out k (tag_ne HB10.out h1 ht) (tag_ne HB12.out h2 ht)
                have HA10 : Hid (Cfo w10 0 (.agg (carr re rs (.slice ai m ci) (.slice ab m cb) rle)) ⟨re, rs, rl, rle⟩) := by
                  obtain ⟨va, vb, e, h1, h2, h3⟩ := HAA.out
                  exact ⟨va, vb, e, own_same h1 (fun k _ ht => hkk k 3 ht (by decide) (by decide)), own_same h2 (fun k _ ht => hkk k 4 ht (by decide) (by decide)), h3⟩
                have HU10 : Hid (Rfr w10 (.agg (rarr re rs (.slice am m cm) rle)) ⟨re, rs, rl, rle⟩) := by
                  obtain ⟨am', cm', e, hm, h3⟩ := HUU.out
                  refine ⟨am', cm', e, ?_, h3⟩
                  by_cases h0 : 0 < rl.length
                  · obtain ⟨b9, off9, e9, hc⟩ := hm.at h0
                    subst e9
                    have n1 := hm.ne h0 HB10.out rfl
                    have n2 := hm.ne h0 HB12.out rfl
                    exact .inr ⟨b9, off9, rfl, fun i m hi => by rw [cell_same (HK6.out b9 n1 n2), cell_same (HK6.out b9 n1 n2)]; exact hc i m hi⟩
                  · exact .inl (show rl = [] from List.length_eq_zero_iff.1 (by omega))
                have HB10' : Hid (Below w.heap.size w w10) := HB.out.trans (HB6.out.mono HB.out.size)
                clear hkk HK5 HK6 HAA HUU HF5 HT5 HB5 HB10 HB12
                have HO10 : Hid (w10.heap[p7]? = some (.cells (carr ep' sh' (.slice a1' n' c1') (.slice b1' n' d1') le') 29)) := heap_kept HO.out HB6.out
                have HC10 : Hid (Cfo w10 0 (.agg (carr ep' sh' (.slice a1' n' c1') (.slice b1' n' d1') le')) ⟨ep', sh', l, le'⟩) := HC.out.later HB6.out
                clear HB6 HF4 HU10 HNE HWW
                by_cases hrn : rn = 0
                · subst hrn
                  have hhe : Heir ⟨ep', sh', l, le'⟩ ⟨re, rs, rl, rle⟩ := heir_turn HRT.out HRR.out
                  have HE : Hid (Heir ⟨ep', sh', l, le'⟩ ⟨re, rs, rl, rle⟩) := hhe
                  have hep2 : re ≤ ep' + 1 := by have h1 := turn_ep (c := ⟨ep', sh', l, le'⟩) (kd := kd) (x := x) (e := ep' + 1) (by simp only; omega); rw [HRR.out] at h1; exact h1
                  have hm1 := (right_true hhe.right).few
                  simp only [HRLN.out] at hm1
                  have hm0 : 0 < m := by omega
                  have HHD : Hid (hd rl = true) := (right_true hhe.right).hd
                  obtain ⟨y0, hy0⟩ : ∃ y0, (nodes rl)[0]? = some y0 := ⟨_, List.getElem?_eq_getElem (by rw [nodes_length, HRLN.out]; omega)⟩
                  have HAT : Hid (atC ⟨re, rs, rl, rle⟩ 0 = y0) := by show atC _ _ = _; unfold atC; rw [if_pos ⟨hhe.right, by omega, by simp only [HRLN.out]; omega⟩]; show ((nodes rl)[0]?).getD 0 = y0; rw [hy0]; rfl
                  have hyin := hhe.head y0 hy0
                  obtain ⟨kp, hkp1, hkp2, _, _⟩ := plc_mem hyin
                  have HPL : Hid (placeC ⟨ep', sh', l, le'⟩ y0 = (kp : Int)) := by show (if _ then _ else _) = _; rw [if_pos HRT.out]; exact hkp2
                  clear hyin hkp1 hkp2 hy0 hhe
                  obtain ⟨xa, xc, xb, xd, exx, hvi, hvb, -⟩ := HA10.out.read
                  simp only [HRLN.out] at exx hvi hvb
                  simp only [Value.agg.injEq, Array.mk.injEq, List.cons.injEq, Value.slice.injEq] at exx
                  obtain ⟨-, -, ⟨rfl, -, rfl⟩, ⟨rfl, -, rfl⟩, -⟩ := exx
                  have HVI : Hid (Vals w10 ai m (rl.map mi)) := hvi
                  obtain ⟨bf, of_, rfl, hcf⟩ := hvb.at (by omega)
                  have hf0 : w10.cell? ⟨bf, of_, none⟩ = some (.bool true) := by
                    have hl0 : 0 < rl.length := by rw [HRLN.out]; omega
                    have := hcf 0 (.bool (hd rl)) (by rw [List.getElem?_map, List.getElem?_eq_getElem hl0]; cases rl with | nil => simp at hl0 | cons mm tt => rfl)
                    rw [HHD.out] at this
                    simpa using this
                  clear hvi hvb hcf
                  obtain ⟨x0, x1, x2, x3, x4⟩ := five_cells HF6.out
                  obtain ⟨q0, q1, q2, q3, q4⟩ := five_cells HO10.out
                  have hrr := right_any _ _ _ (HA10.out.read.later (Below.refl _ w10).drew)
                  rw [HE.out.right] at hrr
                  go_upto_region 10 with fail
                  refine wp_region_noPanic ?_
                  refine wp_region_held_drew (S := fun w' => (w'.cell? ⟨p10, 0, none⟩ = some (.int .u64 (re : Nat)) ∧ w'.cell? ⟨p10, 1, none⟩ = some (.int .i64 rs) ∧ w'.cell? ⟨p10, 2, none⟩ = some (.slice ai m ci) ∧ w'.cell? ⟨p10, 3, none⟩ = some (.slice (some ⟨bf, of_, none⟩) m cb) ∧ w'.cell? ⟨p10, 4, none⟩ = some (.int .i64 rle)) ∧ (w'.cell? ⟨p7, 0, none⟩ = some (.int .u64 (ep' : Nat)) ∧ w'.cell? ⟨p7, 1, none⟩ = some (.int .i64 sh') ∧ w'.cell? ⟨p7, 2, none⟩ = some (.slice a1' n' c1') ∧ w'.cell? ⟨p7, 3, none⟩ = some (.slice b1' n' d1') ∧ w'.cell? ⟨p7, 4, none⟩ = some (.int .i64 le')) ∧ w'.cell? ⟨bf, of_, none⟩ = some (.bool true)) (by kernel_rfl) ?_ (fun hHeld => ?_)
                  · exact ⟨⟨x0, x1, x2, x3, x4⟩, ⟨q0, q1, q2, q3, q4⟩, hf0⟩
                  refine held_take (i := 0) (d := 63) (v := ?_) rfl rfl (by kernel_rfl) (by kernel_rfl) (by kernel_rfl) (fun _ _ _ h => h) (Or.inl ⟨by rfl, ?_⟩) hHeld ?_
                  rotate_left
                  · (intro w hSw; (try dsimp only at hSw); go_simp; all_goals (with_reducible rfl))
                  try simp only [Act.put, List.setIfInBounds_toArray, List.set_cons_zero, List.set_cons_succ]
                  refine wpAnyH_ready (rs := [1]) (by kernel_rfl) (by simp) ?_
                  refine AllReadyH.cons rfl (fun K hK => ?_) AllReadyH.nil
                  go_simp
                  refine hrr.mono ?_
                  rintro e w11 ⟨rfl, hb11⟩
                  have b11 : Below w10.heap.size w10 w11 := (Below.refl _ w10).drew.trans hb11
                  have hO11 := heap_kept HO10.out b11
                  have hF11 := heap_kept HF6.out b11
                  have hf11 := cell_later b11 hf0
                  have hhh := head_any _ _ _ (HA10.out.read.later b11)
                  rw [HAT.out] at hhh
                  go_wp2_with fail
                  refine hK.out _ _ ?_ (fun hHeld => ?_)
                  · exact ⟨five_cells hF11, five_cells hO11, hf11⟩
                  clear hK K
                  try simp only [Act.put, List.setIfInBounds_toArray, List.set_cons_zero, List.set_cons_succ]
                  refine held_take (i := 2) (d := 65) (v := ?_) rfl rfl (by kernel_rfl) (by kernel_rfl) (by kernel_rfl) (fun _ _ _ h => h) (Or.inl ⟨by rfl, ?_⟩) hHeld ?_
                  rotate_left
                  · (intro w hSw; (try dsimp only at hSw); go_simp; all_goals (with_reducible rfl))
                  try simp only [Act.put, List.setIfInBounds_toArray, List.set_cons_zero, List.set_cons_succ]
                  refine held_take (i := 3) (d := 66) (v := ?_) rfl rfl (by kernel_rfl) (by kernel_rfl) (by kernel_rfl) (fun _ _ _ h => h) (Or.inl ⟨by rfl, ?_⟩) hHeld ?_
                  rotate_left
                  · (intro w hSw; (try dsimp only at hSw); go_simp; all_goals (with_reducible rfl))
                  try simp only [Act.put, List.setIfInBounds_toArray, List.set_cons_zero, List.set_cons_succ]
                  refine held_take (i := 4) (d := 67) (v := ?_) rfl rfl (by kernel_rfl) (by kernel_rfl) (by kernel_rfl) (fun _ _ _ h => h) (Or.inl ⟨by rfl, ?_⟩) hHeld ?_
                  rotate_left
                  · (intro w hSw; (try dsimp only at hSw); go_simp; all_goals (with_reducible rfl))
                  try simp only [Act.put, List.setIfInBounds_toArray, List.set_cons_zero, List.set_cons_succ]
                  refine held_take (i := 5) (d := 68) (v := ?_) rfl rfl (by kernel_rfl) (by kernel_rfl) (by kernel_rfl) (fun _ _ _ h => h) (Or.inl ⟨by rfl, ?_⟩) hHeld ?_
                  rotate_left
                  · (intro w hSw; (try dsimp only at hSw); go_simp; all_goals (with_reducible rfl))
                  try simp only [Act.put, List.setIfInBounds_toArray, List.set_cons_zero, List.set_cons_succ]
                  refine held_take (i := 6) (d := 69) (v := ?_) rfl rfl (by kernel_rfl) (by kernel_rfl) (by kernel_rfl) (fun _ _ _ h => h) (Or.inl ⟨by rfl, ?_⟩) hHeld ?_
                  rotate_left
                  · (intro w hSw; (try dsimp only at hSw); go_simp; all_goals (with_reducible rfl))
                  try simp only [Act.put, List.setIfInBounds_toArray, List.set_cons_zero, List.set_cons_succ]
                  refine held_take (i := 7) (d := 70) (v := ?_) rfl rfl (by kernel_rfl) (by kernel_rfl) (by kernel_rfl) (fun _ _ _ h => h) (Or.inl ⟨by rfl, ?_⟩) hHeld ?_
                  rotate_left
                  · (intro w hSw; (try dsimp only at hSw); go_simp; all_goals (with_reducible rfl))
                  try simp only [Act.put, List.setIfInBounds_toArray, List.set_cons_zero, List.set_cons_succ]
                  refine held_take (i := 8) (d := 71) (v := ?_) rfl rfl (by kernel_rfl) (by kernel_rfl) (by kernel_rfl) (fun _ _ _ h => h) (Or.inl ⟨by rfl, ?_⟩) hHeld ?_
                  rotate_left
                  · (intro w hSw; (try dsimp only at hSw); go_simp; all_goals (with_reducible rfl))
                  try simp only [Act.put, List.setIfInBounds_toArray, List.set_cons_zero, List.set_cons_succ]
                  refine held_take (i := 9) (d := 72) (v := ?_) rfl rfl (by kernel_rfl) (by kernel_rfl) (by kernel_rfl) (fun _ _ _ h => h) (Or.inl ⟨by rfl, ?_⟩) hHeld ?_
                  rotate_left
                  · (intro w hSw; (try dsimp only at hSw); go_simp; all_goals (with_reducible rfl))
                  try simp only [Act.put, List.setIfInBounds_toArray, List.set_cons_zero, List.set_cons_succ]
                  refine held_take (i := 10) (d := 73) (v := ?_) rfl rfl (by kernel_rfl) (by kernel_rfl) (by kernel_rfl) (fun _ _ _ h => h) (Or.inl ⟨by rfl, ?_⟩) hHeld ?_
                  rotate_left
                  · (intro w hSw; (try dsimp only at hSw); go_simp; all_goals (with_reducible rfl))
                  try simp only [Act.put, List.setIfInBounds_toArray, List.set_cons_zero, List.set_cons_succ]
                  refine held_take (i := 11) (d := 74) (v := ?_) rfl rfl (by kernel_rfl) (by kernel_rfl) (by kernel_rfl) (fun _ _ _ h => h) (Or.inl ⟨by rfl, ?_⟩) hHeld ?_
                  rotate_left
                  · (intro w hSw; (try dsimp only at hSw); go_simp; all_goals (with_reducible rfl))
                  try simp only [Act.put, List.setIfInBounds_toArray, List.set_cons_zero, List.set_cons_succ]
                  refine held_take (i := 12) (d := 75) (v := ?_) rfl rfl (by kernel_rfl) (by kernel_rfl) (by kernel_rfl) (fun _ _ _ h => h) (Or.inl ⟨by rfl, ?_⟩) hHeld ?_
                  rotate_left
                  · (intro w hSw; (try dsimp only at hSw); go_simp; all_goals (with_reducible rfl))
                  try simp only [Act.put, List.setIfInBounds_toArray, List.set_cons_zero, List.set_cons_succ]
                  refine wpAnyH_ready (rs := [13]) (by kernel_rfl) (by simp) ?_
                  refine AllReadyH.cons rfl (fun K hK => ?_) AllReadyH.nil
                  go_simp
                  refine hhh.mono ?_
                  rintro e w12 ⟨rfl, hb12⟩
                  have b12 := b11.trans (hb12.mono b11.size)
                  have hO12 := heap_kept hO11 hb12
                  have hF12 := heap_kept hF11 hb12
                  have hf12 := cell_later hb12 hf11
                  have hpp := place_any _ _ y0 _ (HC10.out.read.later b12)
                  rw [HPL.out] at hpp
                  go_wp2_with fail
                  refine hK.out _ _ ?_ (fun hHeld => ?_)
                  · exact ⟨five_cells hF12, five_cells hO12, hf12⟩
                  clear hK K
                  try simp only [Act.put, List.setIfInBounds_toArray, List.set_cons_zero, List.set_cons_succ]
                  refine wpAnyH_ready (rs := [14]) (by kernel_rfl) (by simp) ?_
                  refine AllReadyH.cons rfl (fun K hK => ?_) AllReadyH.nil
                  go_simp
                  refine hpp.mono ?_
                  rintro e w13 ⟨rfl, hb13⟩
                  have b13 := b12.trans (hb13.mono b12.size)
                  have hO13 := heap_kept hO12 hb13
                  have hF13 := heap_kept hF12 hb13
                  have hf13 := cell_later hb13 hf12
                  have hk0 : decide ((kp : Int) < 0) = false := by rw [decide_eq_false_iff_not]; omega
                  go_wp2_with fail
                  refine hK.out _ _ ?_ (fun hHeld => ?_)
                  · exact ⟨five_cells hF13, five_cells hO13, hf13⟩
                  clear hK K
                  try simp only [Act.put, List.setIfInBounds_toArray, List.set_cons_zero, List.set_cons_succ]
                  refine held_take (i := 15) (d := 78) (v := ?_) rfl rfl (by kernel_rfl) (by kernel_rfl) (by kernel_rfl) (fun _ _ _ h => h) (Or.inl ⟨by rfl, ?_⟩) hHeld ?_
                  rotate_left
                  · (intro w hSw; (try dsimp only at hSw); go_simp; all_goals (with_reducible rfl))
                  try simp only [Act.put, List.setIfInBounds_toArray, List.set_cons_zero, List.set_cons_succ]
                  refine held_take (i := 16) (d := 79) (v := ?_) rfl rfl (by kernel_rfl) (by kernel_rfl) (by kernel_rfl) (fun _ _ _ h => h) (Or.inl ⟨by rfl, ?_⟩) hHeld ?_
                  rotate_left
                  · (intro w hSw; (try dsimp only at hSw); go_simp; all_goals (with_reducible rfl))
                  try simp only [Act.put, List.setIfInBounds_toArray, List.set_cons_zero, List.set_cons_succ]
                  refine wpAnyH_done (by kernel_rfl) ?_ _
                  refine NoPanic.normal ?_
                  have HO13 : Hid (w13.heap[p7]? = some (.cells (carr ep' sh' (.slice a1' n' c1') (.slice b1' n' d1') le') 29)) := hO13
                  have HF13 : Hid (w13.heap[p10]? = some (.cells (carr re rs (.slice ai m ci) (.slice (some ⟨bf, of_, none⟩) m cb) rle) 29)) := hF13
                  have HA13 : Hid (Cfo w13 0 (.agg (carr re rs (.slice ai m ci) (.slice (some ⟨bf, of_, none⟩) m cb) rle)) ⟨re, rs, rl, rle⟩) := HA10.out.later b13
                  have HC13 : Hid (Cfo w13 0 (.agg (carr ep' sh' (.slice a1' n' c1') (.slice b1' n' d1') le')) ⟨ep', sh', l, le'⟩) := HC10.out.later b13
                  have HB13 : Hid (Below w.heap.size w w13) := HB10'.out.trans (b13.mono HB10'.out.size)
                  have HV13 : Hid (Vals w13 ai m (rl.map mi)) := HVI.out.later b13
                  clear hO11 hO12 hF11 hF12 hf11 hf12 hf13 hb11 hb12 hb13 b11 b12 b13 x0 x1 x2 x3 x4 q0 q1 q2 q3 q4 hf0 HA10 HC10 HVI HF6 HO10 HB10' hO13 hF13 hrr hhh hpp hHeld
                  obtain ⟨x0, x1, x2, x3, x4⟩ := five_cells HF13.out
                  go_wp2
                  clear x0 x1 x2 x3 x4 hk0
                  generalize wr = wo at *
                  go_loopw [14, 83] (fun la j wq => ∃ (jn : Nat) (last : Int), jn ≤ m ∧ j = .int .i64 (jn : Nat) ∧ la = .int .i64 last ∧ -1 ≤ last ∧ last ≤ 100 ∧ Hid (∀ (i : Nat) y, jn ≤ i → (nodes rl)[i]? = some y → 0 ≤ plc (nodes l) y → last ≤ plc (nodes l) y) ∧ Hid (Below w13.heap.size w13 wq)) (fun _ j _ => m - (intOf j).toNat)
                  case atStart => exact ⟨0, -1, Nat.zero_le _, rfl, rfl, by omega, by omega, fun i y _ _ h => by omega, Below.refl _ _⟩
                  case round =>
                    obtain ⟨jn, last, hj, rfl, rfl, hla1, hla2, HORD, HBQ⟩ := hrel
                    have HOQ : Hid (wr.heap[p7]? = some (.cells (carr ep' sh' (.slice a1' n' c1') (.slice b1' n' d1') le') 29)) := heap_kept HO13.out HBQ.out
                    have HFQ : Hid (wr.heap[p10]? = some (.cells (carr re rs (.slice ai m ci) (.slice (some ⟨bf, of_, none⟩) m cb) rle) 29)) := heap_kept HF13.out HBQ.out
                    have HBWQ : Hid (Below w.heap.size w wr) := HB13.out.trans (HBQ.out.mono HB13.out.size)
                    by_cases hjm : jn < m
                    · obtain ⟨bi, oi, rfl, hci⟩ := (HV13.out.later HBQ.out).at (by omega)
                      have hjl : jn < rl.length := by rw [HRLN.out]; exact hjm
                      have e0 := hci jn (.int .i64 rl[jn].1) (by simp [hjl, mi])
                      have hyn : (nodes rl)[jn]? = some rl[jn].1 := nodes_at (List.getElem?_eq_getElem hjl)
                      generalize rl[jn].1 = y at e0 hyn
                      have HYN : Hid ((nodes rl)[jn]? = some y) := hyn
                      clear hci hyn hjl
                      have hpl := place_any _ _ y _ (HC13.out.read.later HBQ.out)
                      have hpe : placeC ⟨ep', sh', l, le'⟩ y = plc (nodes l) y := by show (if _ then _ else _) = _; rw [if_pos HRT.out]
                      rw [hpe] at hpl
                      clear hpe
                      have hbd := plc_bd (nodes l) y
                      rw [nodes_length, HLN.out] at hbd
                      obtain ⟨at_, hat⟩ : ∃ q, q = plc (nodes l) y := ⟨_, rfl⟩
                      rw [← hat] at hpl hbd
                      have HATY : Hid (at_ = plc (nodes l) y) := hat
                      clear hat
                      obtain ⟨q0, q1, q2, q3, q4⟩ := five_cells HOQ.out
                      go_wp2_with fail
                      refine hpl.mono ?_
                      clear hpl q0 q1 q2 q3 q4 e0
                      rintro e w20 ⟨rfl, hb20⟩
                      have HB20 : Hid (Below w13.heap.size w13 w20) := HBQ.out.trans (hb20.mono HBQ.out.size)
                      clear hb20
                      by_cases hneg : at_ < 0
                      · go_wp2
                        go_roundw
                        case rel => exact ⟨jn + 1, last, by omega, by go_num, rfl, hla1, hla2, fun i yy h1 => HORD.out i yy (by omega), HB20⟩
                        case measure => simp [intOf]; omega
                      · have h0at : 0 ≤ at_ := by omega
                        have hge : last ≤ at_ := by rw [HATY.out]; exact HORD.out jn y (Nat.le_refl _) HYN.out (by rw [← HATY.out]; omega)
                        have HN : Hid (∀ (i : Nat) yy, jn + 1 ≤ i → (nodes rl)[i]? = some yy → 0 ≤ plc (nodes l) yy → at_ ≤ plc (nodes l) yy) := fun i yy h1 h2 h3 => by
                          have ho := HE.out.order
                          rw [List.pairwise_iff_getElem] at ho
                          obtain ⟨hi1, hi2⟩ := List.getElem?_eq_some_iff.1 h2
                          obtain ⟨hj1, hj3⟩ := List.getElem?_eq_some_iff.1 HYN.out
                          have h9 := ho jn i hj1 hi1 (by omega)
                          simp only [hi2, hj3] at h9
                          rw [HATY.out]
                          exact h9 (by rw [← HATY.out]; omega) h3
                        go_wp2
                        go_roundw
                        case rel => exact ⟨jn + 1, at_, by omega, by go_num, rfl, by omega, by omega, HN, HB20⟩
                        case measure => simp [intOf]; omega
                    · have HSn : Hid (Hs w (put5 wr p7 (.int .u64 (re : Nat)) (.int .i64 rs) (.slice ai m ci) (.slice (some ⟨bf, of_, none⟩) m cb) (.int .i64 rle)) p7 (k + 1)) := by
                        refine ⟨below_put5 HBWQ.out HP7.out _ _ _ _ _, ⟨re, rs, rl, rle⟩, ai, ci, some ⟨bf, of_, none⟩, cb, HE.out.right, by show re ≤ 1000000 + (k + 1); omega, ?_, ?_⟩
                        · show _ = some (Obj.cells (carr re rs (.slice ai rl.length ci) (.slice (some ⟨bf, of_, none⟩) rl.length cb) rle) 29)
                          rw [HRLN.out]
                          exact five_put HOQ.out
                        · show Cfo _ _ (.agg (carr re rs (.slice ai rl.length ci) (.slice (some ⟨bf, of_, none⟩) rl.length cb) rle)) _
                          rw [HRLN.out]
                          obtain ⟨va, vb, ev, h1, h2, h3⟩ := HA13.out.later HBQ.out
                          exact ⟨va, vb, ev, own_same h1 (fun k _ ht => put5_other _ _ _ _ _ (tag_ne HOQ.out (by decide) ht)), own_same h2 (fun k _ ht => put5_other _ _ _ _ _ (tag_ne HOQ.out (by decide) ht)), h3⟩
                      unfold put5 at HSn
                      obtain ⟨q0, q1, q2, q3, q4⟩ := five_cells HOQ.out
                      obtain ⟨g0, g1, g2, g3, g4⟩ := five_frozen HOQ.out
                      obtain ⟨x0, x1, x2, x3, x4⟩ := five_cells HFQ.out
                      clear HORD
                      go_wp2
                      go_roundw
                      case rel => exact ⟨k + 1, by omega, by omega, by go_num, HSn⟩
                      case measure => simp [intOf]; omega
                · have hnb : (rn != 0) = true := by simp [hrn]
                  have HSn : Hid (Hs w w10 p7 (k + 1)) := ⟨HB10'.out, ⟨ep', sh', l, le'⟩, a1', c1', b1', d1', HRT.out, by show ep' ≤ 1000000 + (k + 1); omega, by show _ = some (Obj.cells (carr ep' sh' (.slice a1' l.length c1') (.slice b1' l.length d1') le') 29); rw [HLN.out]; exact HO10.out, by show Cfo _ _ (.agg (carr ep' sh' (.slice a1' l.length c1') (.slice b1' l.length d1') le')) _; rw [HLN.out]; exact HC10.out⟩
                  clear HRR hrn
                  go_wp2
                  go_roundw
                  case rel => exact ⟨k + 1, by omega, by omega, by go_num, HSn⟩
                  case measure => simp [intOf]; omega
            | false =>
              clear g12
              cases l13 with
              | true =>
                obtain ⟨p12, rfl, b12, s12⟩ := g13 rfl
                have HB12 : Hid (w'.heap[p12]? = some (.cells #[.int .u64 0, .int .i64 0, .slice none 0 0, .int .i64 0] 25 (0, 0))) := b12
                clear b12 g13
                obtain rfl : nn = 10 := by simpa using hn
                refine held_take (i := 12) (d := 44) (v := ?_) rfl rfl (by kernel_rfl) (by kernel_rfl) (by kernel_rfl) (fun _ _ _ h => h) (Or.inl ⟨by rfl, ?_⟩) hHeld ?_
                rotate_left
                · (intro w hSw; (try dsimp only at hSw); go_simp; all_goals (with_reducible rfl))
                try simp only [Act.put, List.setIfInBounds_toArray, List.set_cons_zero, List.set_cons_succ]
                refine held_take (i := 13) (d := 57) (v := ?_) rfl rfl (by kernel_rfl) (by kernel_rfl) (by kernel_rfl) (fun _ _ _ h => h) (Or.inl ⟨by rfl, ?_⟩) hHeld ?_
                rotate_left
                · (intro w hSw; (try dsimp only at hSw); go_simp; all_goals (with_reducible rfl))
                try simp only [Act.put, List.setIfInBounds_toArray, List.set_cons_zero, List.set_cons_succ]
                refine held_take (i := 14) (d := 58) (v := ?_) rfl rfl (by kernel_rfl) (by kernel_rfl) (by kernel_rfl) (fun _ _ _ h => h) (Or.inl ⟨by rfl, ?_⟩) hHeld ?_
                rotate_left
                · (intro w hSw; (try dsimp only at hSw); go_simp; all_goals (with_reducible rfl))
                try simp only [Act.put, List.setIfInBounds_toArray, List.set_cons_zero, List.set_cons_succ]
                refine held_take (i := 15) (d := 59) (v := ?_) rfl rfl (by kernel_rfl) (by kernel_rfl) (by kernel_rfl) (fun _ _ _ h => h) (Or.inl ⟨by rfl, ?_⟩) hHeld ?_
                rotate_left
                · (intro w hSw; (try dsimp only at hSw); go_simp; all_goals (with_reducible rfl))
                try simp only [Act.put, List.setIfInBounds_toArray, List.set_cons_zero, List.set_cons_succ]
                refine held_take (i := 16) (d := 60) (v := ?_) rfl rfl (by kernel_rfl) (by kernel_rfl) (by kernel_rfl) (fun _ _ _ h => h) (Or.inl ⟨by rfl, ?_⟩) hHeld ?_
                rotate_left
                · (intro w hSw; (try dsimp only at hSw); go_simp; all_goals (with_reducible rfl))
                try simp only [Act.put, List.setIfInBounds_toArray, List.set_cons_zero, List.set_cons_succ]
                refine wpAnyH_ready (rs := [17]) (by kernel_rfl) (by simp) ?_
                refine AllReadyH.cons rfl (fun K hK => ?_) AllReadyH.nil
                have hba : Below w'.heap.size w' (w'.alloc (.cells #[.int .u64 0, .int .i64 0, .slice none 0 0, .slice none 0 0, .int .i64 0] 29 (0, 0))) := (Below.refl _ _).alloc (Nat.le_refl _) _
                have HWX : Hid (Below wr.heap.size wr (w'.alloc (.cells #[.int .u64 0, .int .i64 0, .slice none 0 0, .slice none 0 0, .int .i64 0] 29 (0, 0)))) := HWW.out.trans (hba.mono HWW.out.size)
                have HAX : Hid (Cfo (w'.alloc (.cells #[.int .u64 0, .int .i64 0, .slice none 0 0, .slice none 0 0, .int .i64 0] 29 (0, 0))) 0 (.agg (carr re rs (.slice ai m ci) (.slice ab m cb) rle)) ⟨re, rs, rl, rle⟩) := HAA.out.later hba
                have HUX : Hid (Rfr (w'.alloc (.cells #[.int .u64 0, .int .i64 0, .slice none 0 0, .slice none 0 0, .int .i64 0] 29 (0, 0))) (.agg (rarr re rs (.slice am m cm) rle)) ⟨re, rs, rl, rle⟩) := HUU.out.later hba
                have HB10 : Hid ((w'.alloc (.cells #[.int .u64 0, .int .i64 0, .slice none 0 0, .slice none 0 0, .int .i64 0] 29 (0, 0))).heap[w'.heap.size]? = some (.cells #[.int .u64 0, .int .i64 0, .slice none 0 0, .slice none 0 0, .int .i64 0] 29 (0, 0))) := heap_alloc_new _ _
                have hsp : Hid (wr.heap.size ≤ w'.heap.size) := HWW.out.size
                have HB12X : Hid ((w'.alloc (.cells #[.int .u64 0, .int .i64 0, .slice none 0 0, .slice none 0 0, .int .i64 0] 29 (0, 0))).heap[p12]? = some (.cells #[.int .u64 0, .int .i64 0, .slice none 0 0, .int .i64 0] 25 (0, 0))) := heap_kept HB12.out hba
                go_simp
                refine hK.out _ _ (HS.out _ HWX.out) (fun hHeld => ?_)
                clear hK K hba HWW HAA HUU
                try simp only [Act.put, List.setIfInBounds_toArray, List.set_cons_zero, List.set_cons_succ]
                generalize w'.heap.size = p10 at *
                generalize (w'.alloc (.cells #[.int .u64 0, .int .i64 0, .slice none 0 0, .slice none 0 0, .int .i64 0] 29 (0, 0))) = w8 at *
                have s10 := hsp.out
                clear hsp
                have HWW := HWX
                have HAA := HAX
                have HUU := HUX
                clear HWX HAX HUX
                clear HB12
                have HB12 := HB12X
                clear HB12X
                have HNE : Hid (p12 ≠ p10) := block_ne (tagOf_heap HB12.out) (tagOf_heap HB10.out) (by decide)
                obtain ⟨z0, z1, z2, z3, z4⟩ := five_cells HB10.out
                obtain ⟨g0, g1, g2, g3, g4⟩ := five_frozen HB10.out
                have HF5 : Hid ((put5 w8 p10 (.int .u64 (re : Nat)) (.int .i64 rs) (.slice ai m ci) (.slice ab m cb) (.int .i64 rle)).heap[p10]? = some (.cells (carr re rs (.slice ai m ci) (.slice ab m cb) rle) 29)) := five_put HB10.out
                have HT5 : Hid ((put5 w8 p10 (.int .u64 (re : Nat)) (.int .i64 rs) (.slice ai m ci) (.slice ab m cb) (.int .i64 rle)).heap[p12]? = some (.cells #[.int .u64 0, .int .i64 0, .slice none 0 0, .int .i64 0] 25 (0, 0))) := (put5_other _ _ _ _ _ HNE.out).trans HB12.out
                have HB5 : Hid (Below wr.heap.size wr (put5 w8 p10 (.int .u64 (re : Nat)) (.int .i64 rs) (.slice ai m ci) (.slice ab m cb) (.int .i64 rle))) := below_put5 HWW.out s10 _ _ _ _ _
                have HK5 : Hid (∀ k, k ≠ p10 → (put5 w8 p10 (.int .u64 (re : Nat)) (.int .i64 rs) (.slice ai m ci) (.slice ab m cb) (.int .i64 rle)).heap[k]? = w8.heap[k]?) := fun k hk => put5_other _ _ _ _ _ hk
                unfold put5 at HF5 HT5 HB5 HK5
                refine wpAnyH_ready (rs := [19]) (by kernel_rfl) (by simp) ?_
                refine AllReadyH.cons rfl (fun K hK => ?_) AllReadyH.nil
                go_simp
                refine hK.out _ _ (HS.out _ HB5.out) (fun hHeld => ?_)
                clear hK K hHeld
                try simp only [Act.put, List.setIfInBounds_toArray, List.set_cons_zero, List.set_cons_succ]
                generalize (((((w8.setCell ⟨p10, 0, none⟩ (.int .u64 (re : Nat))).setCell ⟨p10, 1, none⟩ (.int .i64 rs)).setCell ⟨p10, 2, none⟩ (.slice ai m ci)).setCell ⟨p10, 3, none⟩ (.slice ab m cb)).setCell ⟨p10, 4, none⟩ (.int .i64 rle)) = w9 at *
                clear z0 z1 z2 z3 z4 g0 g1 g2 g3 g4
                refine wpAnyH_ready (rs := [20]) (by kernel_rfl) (by simp) ?_
                refine AllReadyH.cons rfl (fun K hK => ?_) AllReadyH.nil
                go_simp
                refine hK.out _ _ (HS.out _ HB5.out) (fun hHeld => ?_)
                clear hK K hHeld
                try simp only [Act.put, List.setIfInBounds_toArray, List.set_cons_zero, List.set_cons_succ]
                obtain ⟨z0, z1, z2, z3⟩ := four_cells HT5.out
                obtain ⟨g0, g1, g2, g3⟩ := four_frozen HT5.out
                have HF4 : Hid ((put4 w9 p12 (.int .u64 (re : Nat)) (.int .i64 rs) (.slice am m cm) (.int .i64 rle)).heap[p12]? = some (.cells (rarr re rs (.slice am m cm) rle) 25)) := four_put HT5.out
                have HF6 : Hid ((put4 w9 p12 (.int .u64 (re : Nat)) (.int .i64 rs) (.slice am m cm) (.int .i64 rle)).heap[p10]? = some (.cells (carr re rs (.slice ai m ci) (.slice ab m cb) rle) 29)) := (put4_other _ _ _ _ (fun e => HNE.out e.symm)).trans HF5.out
                have HB6 : Hid (Below wr.heap.size wr (put4 w9 p12 (.int .u64 (re : Nat)) (.int .i64 rs) (.slice am m cm) (.int .i64 rle))) := below_put4 HB5.out s12 _ _ _ _
                have HK6 : Hid (∀ k, k ≠ p10 → k ≠ p12 → (put4 w9 p12 (.int .u64 (re : Nat)) (.int .i64 rs) (.slice am m cm) (.int .i64 rle)).heap[k]? = w8.heap[k]?) := fun k h1 h2 => (put4_other _ _ _ _ h2).trans (HK5.out k h1)
                unfold put4 at HF4 HF6 HB6 HK6
                refine wpAnyH_ready (rs := [21]) (by kernel_rfl) (by simp) ?_
                refine AllReadyH.cons rfl (fun K hK => ?_) AllReadyH.nil
                go_simp
                refine hK.out _ _ (HS.out _ HB6.out) (fun hHeld => ?_)
                clear hK K hHeld
                try simp only [Act.put, List.setIfInBounds_toArray, List.set_cons_zero, List.set_cons_succ]
                generalize ((((w9.setCell ⟨p12, 0, none⟩ (.int .u64 (re : Nat))).setCell ⟨p12, 1, none⟩ (.int .i64 rs)).setCell ⟨p12, 2, none⟩ (.slice am m cm)).setCell ⟨p12, 3, none⟩ (.int .i64 rle)) = w10 at *
                clear z0 z1 z2 z3 g0 g1 g2 g3
                refine wpAnyH_ready (rs := [22]) (by kernel_rfl) (by simp) ?_
                refine AllReadyH.cons rfl (fun K hK => ?_) AllReadyH.nil
                go_simp
                refine hK.out _ _ (HS.out _ HB6.out) (fun hHeld => ?_)
                clear hK K hHeld
                try simp only [Act.put, List.setIfInBounds_toArray, List.set_cons_zero, List.set_cons_succ]
                refine wpAnyH_done (by kernel_rfl) ?_ _
                refine NoPanic.normal ?_
                have hkk : ∀ k t, tagOf w8 k = some t → t ≠ 29 → t ≠ 25 → w10.heap[k]? = w8.heap[k]? := fun k t ht h1 h2 => HK6.out k (tag_ne HB10.out h1 ht) (tag_ne HB12.out h2 ht)
                have HA10 : Hid (Cfo w10 0 (.agg (carr re rs (.slice ai m ci) (.slice ab m cb) rle)) ⟨re, rs, rl, rle⟩) := by
                  obtain ⟨va, vb, e, h1, h2, h3⟩ := HAA.out
                  exact ⟨va, vb, e, own_same h1 (fun k _ ht => hkk k 3 ht (by decide) (by decide)), own_same h2 (fun k _ ht => hkk k 4 ht (by decide) (by decide)), h3⟩
                have HU10 : Hid (Rfr w10 (.agg (rarr re rs (.slice am m cm) rle)) ⟨re, rs, rl, rle⟩) := by
                  obtain ⟨am', cm', e, hm, h3⟩ := HUU.out
                  refine ⟨am', cm', e, ?_, h3⟩
                  by_cases h0 : 0 < rl.length
                  · obtain ⟨b9, off9, e9, hc⟩ := hm.at h0
                    subst e9
                    have n1 := hm.ne h0 HB10.out rfl
                    have n2 := hm.ne h0 HB12.out rfl
                    exact .inr ⟨b9, off9, rfl, fun i m hi => by rw [cell_same (HK6.out b9 n1 n2), cell_same (HK6.out b9 n1 n2)]; exact hc i m hi⟩
                  · exact .inl (show rl = [] from List.length_eq_zero_iff.1 (by omega))
                have HB10' : Hid (Below w.heap.size w w10) := HB.out.trans (HB6.out.mono HB.out.size)
                clear hkk HK5 HK6 HAA HUU HF5 HT5 HB5 HB10 HB12
                have HO10 : Hid (w10.heap[p7]? = some (.cells (carr ep' sh' (.slice a1' n' c1') (.slice b1' n' d1') le') 29)) := heap_kept HO.out HB6.out
                have HC10 : Hid (Cfo w10 0 (.agg (carr ep' sh' (.slice a1' n' c1') (.slice b1' n' d1') le')) ⟨ep', sh', l, le'⟩) := HC.out.later HB6.out
                clear HB6 HF4 HU10 HNE HWW
                by_cases hrn : rn = 0
                · subst hrn
                  have hhe : Heir ⟨ep', sh', l, le'⟩ ⟨re, rs, rl, rle⟩ := heir_turn HRT.out HRR.out
                  have HE : Hid (Heir ⟨ep', sh', l, le'⟩ ⟨re, rs, rl, rle⟩) := hhe
                  have hep2 : re ≤ ep' + 1 := by have h1 := turn_ep (c := ⟨ep', sh', l, le'⟩) (kd := kd) (x := x) (e := ep' + 1) (by simp only; omega); rw [HRR.out] at h1; exact h1
                  have hm1 := (right_true hhe.right).few
                  simp only [HRLN.out] at hm1
                  have hm0 : 0 < m := by omega
                  have HHD : Hid (hd rl = true) := (right_true hhe.right).hd
                  obtain ⟨y0, hy0⟩ : ∃ y0, (nodes rl)[0]? = some y0 := ⟨_, List.getElem?_eq_getElem (by rw [nodes_length, HRLN.out]; omega)⟩
                  have HAT : Hid (atC ⟨re, rs, rl, rle⟩ 0 = y0) := by show atC _ _ = _; unfold atC; rw [if_pos ⟨hhe.right, by omega, by simp only [HRLN.out]; omega⟩]; show ((nodes rl)[0]?).getD 0 = y0; rw [hy0]; rfl
                  have hyin := hhe.head y0 hy0
                  obtain ⟨kp, hkp1, hkp2, _, _⟩ := plc_mem hyin
                  have HPL : Hid (placeC ⟨ep', sh', l, le'⟩ y0 = (kp : Int)) := by show (if _ then _ else _) = _; rw [if_pos HRT.out]; exact hkp2
                  clear hyin hkp1 hkp2 hy0 hhe
                  obtain ⟨xa, xc, xb, xd, exx, hvi, hvb, -⟩ := HA10.out.read
                  simp only [HRLN.out] at exx hvi hvb
                  simp only [Value.agg.injEq, Array.mk.injEq, List.cons.injEq, Value.slice.injEq] at exx
                  obtain ⟨-, -, ⟨rfl, -, rfl⟩, ⟨rfl, -, rfl⟩, -⟩ := exx
                  have HVI : Hid (Vals w10 ai m (rl.map mi)) := hvi
                  obtain ⟨bf, of_, rfl, hcf⟩ := hvb.at (by omega)
                  have hf0 : w10.cell? ⟨bf, of_, none⟩ = some (.bool true) := by
                    have hl0 : 0 < rl.length := by rw [HRLN.out]; omega
                    have := hcf 0 (.bool (hd rl)) (by rw [List.getElem?_map, List.getElem?_eq_getElem hl0]; cases rl with | nil => simp at hl0 | cons mm tt => rfl)
                    rw [HHD.out] at this
                    simpa using this
                  clear hvi hvb hcf
                  obtain ⟨x0, x1, x2, x3, x4⟩ := five_cells HF6.out
                  obtain ⟨q0, q1, q2, q3, q4⟩ := five_cells HO10.out
                  have hrr := right_any _ _ _ (HA10.out.read.later (Below.refl _ w10).drew)
                  rw [HE.out.right] at hrr
                  go_upto_region 10 with fail
                  refine wp_region_noPanic ?_
                  refine wp_region_held_drew (S := fun w' => (w'.cell? ⟨p10, 0, none⟩ = some (.int .u64 (re : Nat)) ∧ w'.cell? ⟨p10, 1, none⟩ = some (.int .i64 rs) ∧ w'.cell? ⟨p10, 2, none⟩ = some (.slice ai m ci) ∧ w'.cell? ⟨p10, 3, none⟩ = some (.slice (some ⟨bf, of_, none⟩) m cb) ∧ w'.cell? ⟨p10, 4, none⟩ = some (.int .i64 rle)) ∧ (w'.cell? ⟨p7, 0, none⟩ = some (.int .u64 (ep' : Nat)) ∧ w'.cell? ⟨p7, 1, none⟩ = some (.int .i64 sh') ∧ w'.cell? ⟨p7, 2, none⟩ = some (.slice a1' n' c1') ∧ w'.cell? ⟨p7, 3, none⟩ = some (.slice b1' n' d1') ∧ w'.cell? ⟨p7, 4, none⟩ = some (.int .i64 le')) ∧ w'.cell? ⟨bf, of_, none⟩ = some (.bool true)) (by kernel_rfl) ?_ (fun hHeld => ?_)
                  · exact ⟨⟨x0, x1, x2, x3, x4⟩, ⟨q0, q1, q2, q3, q4⟩, hf0⟩
                  refine held_take (i := 0) (d := 63) (v := ?_) rfl rfl (by kernel_rfl) (by kernel_rfl) (by kernel_rfl) (fun _ _ _ h => h) (Or.inl ⟨by rfl, ?_⟩) hHeld ?_
                  rotate_left
                  · (intro w hSw; (try dsimp only at hSw); go_simp; all_goals (with_reducible rfl))
                  try simp only [Act.put, List.setIfInBounds_toArray, List.set_cons_zero, List.set_cons_succ]
                  refine wpAnyH_ready (rs := [1]) (by kernel_rfl) (by simp) ?_
                  refine AllReadyH.cons rfl (fun K hK => ?_) AllReadyH.nil
                  go_simp
                  refine hrr.mono ?_
                  rintro e w11 ⟨rfl, hb11⟩
                  have b11 : Below w10.heap.size w10 w11 := (Below.refl _ w10).drew.trans hb11
                  have hO11 := heap_kept HO10.out b11
                  have hF11 := heap_kept HF6.out b11
                  have hf11 := cell_later b11 hf0
                  have hhh := head_any _ _ _ (HA10.out.read.later b11)
                  rw [HAT.out] at hhh
                  go_wp2_with fail
                  refine hK.out _ _ ?_ (fun hHeld => ?_)
                  · exact ⟨five_cells hF11, five_cells hO11, hf11⟩
                  clear hK K
                  try simp only [Act.put, List.setIfInBounds_toArray, List.set_cons_zero, List.set_cons_succ]
                  refine held_take (i := 2) (d := 65) (v := ?_) rfl rfl (by kernel_rfl) (by kernel_rfl) (by kernel_rfl) (fun _ _ _ h => h) (Or.inl ⟨by rfl, ?_⟩) hHeld ?_
                  rotate_left
                  · (intro w hSw; (try dsimp only at hSw); go_simp; all_goals (with_reducible rfl))
                  try simp only [Act.put, List.setIfInBounds_toArray, List.set_cons_zero, List.set_cons_succ]
                  refine held_take (i := 3) (d := 66) (v := ?_) rfl rfl (by kernel_rfl) (by kernel_rfl) (by kernel_rfl) (fun _ _ _ h => h) (Or.inl ⟨by rfl, ?_⟩) hHeld ?_
                  rotate_left
                  · (intro w hSw; (try dsimp only at hSw); go_simp; all_goals (with_reducible rfl))
                  try simp only [Act.put, List.setIfInBounds_toArray, List.set_cons_zero, List.set_cons_succ]
                  refine held_take (i := 4) (d := 67) (v := ?_) rfl rfl (by kernel_rfl) (by kernel_rfl) (by kernel_rfl) (fun _ _ _ h => h) (Or.inl ⟨by rfl, ?_⟩) hHeld ?_
                  rotate_left
                  · (intro w hSw; (try dsimp only at hSw); go_simp; all_goals (with_reducible rfl))
                  try simp only [Act.put, List.setIfInBounds_toArray, List.set_cons_zero, List.set_cons_succ]
                  refine held_take (i := 5) (d := 68) (v := ?_) rfl rfl (by kernel_rfl) (by kernel_rfl) (by kernel_rfl) (fun _ _ _ h => h) (Or.inl ⟨by rfl, ?_⟩) hHeld ?_
                  rotate_left
                  · (intro w hSw; (try dsimp only at hSw); go_simp; all_goals (with_reducible rfl))
                  try simp only [Act.put, List.setIfInBounds_toArray, List.set_cons_zero, List.set_cons_succ]
                  refine held_take (i := 6) (d := 69) (v := ?_) rfl rfl (by kernel_rfl) (by kernel_rfl) (by kernel_rfl) (fun _ _ _ h => h) (Or.inl ⟨by rfl, ?_⟩) hHeld ?_
                  rotate_left
                  · (intro w hSw; (try dsimp only at hSw); go_simp; all_goals (with_reducible rfl))
                  try simp only [Act.put, List.setIfInBounds_toArray, List.set_cons_zero, List.set_cons_succ]
                  refine held_take (i := 7) (d := 70) (v := ?_) rfl rfl (by kernel_rfl) (by kernel_rfl) (by kernel_rfl) (fun _ _ _ h => h) (Or.inl ⟨by rfl, ?_⟩) hHeld ?_
                  rotate_left
                  · (intro w hSw; (try dsimp only at hSw); go_simp; all_goals (with_reducible rfl))
                  try simp only [Act.put, List.setIfInBounds_toArray, List.set_cons_zero, List.set_cons_succ]
                  refine held_take (i := 8) (d := 71) (v := ?_) rfl rfl (by kernel_rfl) (by kernel_rfl) (by kernel_rfl) (fun _ _ _ h => h) (Or.inl ⟨by rfl, ?_⟩) hHeld ?_
                  rotate_left
                  · (intro w hSw; (try dsimp only at hSw); go_simp; all_goals (with_reducible rfl))
                  try simp only [Act.put, List.setIfInBounds_toArray, List.set_cons_zero, List.set_cons_succ]
                  refine held_take (i := 9) (d := 72) (v := ?_) rfl rfl (by kernel_rfl) (by kernel_rfl) (by kernel_rfl) (fun _ _ _ h => h) (Or.inl ⟨by rfl, ?_⟩) hHeld ?_
                  rotate_left
                  · (intro w hSw; (try dsimp only at hSw); go_simp; all_goals (with_reducible rfl))
                  try simp only [Act.put, List.setIfInBounds_toArray, List.set_cons_zero, List.set_cons_succ]
                  refine held_take (i := 10) (d := 73) (v := ?_) rfl rfl (by kernel_rfl) (by kernel_rfl) (by kernel_rfl) (fun _ _ _ h => h) (Or.inl ⟨by rfl, ?_⟩) hHeld ?_
                  rotate_left
                  · (intro w hSw; (try dsimp only at hSw); go_simp; all_goals (with_reducible rfl))
                  try simp only [Act.put, List.setIfInBounds_toArray, List.set_cons_zero, List.set_cons_succ]
                  refine held_take (i := 11) (d := 74) (v := ?_) rfl rfl (by kernel_rfl) (by kernel_rfl) (by kernel_rfl) (fun _ _ _ h => h) (Or.inl ⟨by rfl, ?_⟩) hHeld ?_
                  rotate_left
                  · (intro w hSw; (try dsimp only at hSw); go_simp; all_goals (with_reducible rfl))
                  try simp only [Act.put, List.setIfInBounds_toArray, List.set_cons_zero, List.set_cons_succ]
                  refine held_take (i := 12) (d := 75) (v := ?_) rfl rfl (by kernel_rfl) (by kernel_rfl) (by kernel_rfl) (fun _ _ _ h => h) (Or.inl ⟨by rfl, ?_⟩) hHeld ?_
                  rotate_left
                  · (intro w hSw; (try dsimp only at hSw); go_simp; all_goals (with_reducible rfl))
                  try simp only [Act.put, List.setIfInBounds_toArray, List.set_cons_zero, List.set_cons_succ]
                  refine wpAnyH_ready (rs := [13]) (by kernel_rfl) (by simp) ?_
                  refine AllReadyH.cons rfl (fun K hK => ?_) AllReadyH.nil
                  go_simp
                  refine hhh.mono ?_
                  rintro e w12 ⟨rfl, hb12⟩
                  have b12 := b11.trans (hb12.mono b11.size)
                  have hO12 := heap_kept hO11 hb12
                  have hF12 := heap_kept hF11 hb12
                  have hf12 := cell_later hb12 hf11
                  have hpp := place_any _ _ y0 _ (HC10.out.read.later b12)
                  rw [HPL.out] at hpp
                  go_wp2_with fail
                  refine hK.out _ _ ?_ (fun hHeld => ?_)
                  · exact ⟨five_cells hF12, five_cells hO12, hf12⟩
                  clear hK K
                  try simp only [Act.put, List.setIfInBounds_toArray, List.set_cons_zero, List.set_cons_succ]
                  refine wpAnyH_ready (rs := [14]) (by kernel_rfl) (by simp) ?_
                  refine AllReadyH.cons rfl (fun K hK => ?_) AllReadyH.nil
                  go_simp
                  refine hpp.mono ?_
                  rintro e w13 ⟨rfl, hb13⟩
                  have b13 := b12.trans (hb13.mono b12.size)
                  have hO13 := heap_kept hO12 hb13
                  have hF13 := heap_kept hF12 hb13
                  have hf13 := cell_later hb13 hf12
                  have hk0 : decide ((kp : Int) < 0) = false := by rw [decide_eq_false_iff_not]; omega
                  go_wp2_with fail
                  refine hK.out _ _ ?_ (fun hHeld => ?_)
                  · exact ⟨five_cells hF13, five_cells hO13, hf13⟩
                  clear hK K
                  try simp only [Act.put, List.setIfInBounds_toArray, List.set_cons_zero, List.set_cons_succ]
                  refine held_take (i := 15) (d := 78) (v := ?_) rfl rfl (by kernel_rfl) (by kernel_rfl) (by kernel_rfl) (fun _ _ _ h => h) (Or.inl ⟨by rfl, ?_⟩) hHeld ?_
                  rotate_left
                  · (intro w hSw; (try dsimp only at hSw); go_simp; all_goals (with_reducible rfl))
                  try simp only [Act.put, List.setIfInBounds_toArray, List.set_cons_zero, List.set_cons_succ]
                  refine held_take (i := 16) (d := 79) (v := ?_) rfl rfl (by kernel_rfl) (by kernel_rfl) (by kernel_rfl) (fun _ _ _ h => h) (Or.inl ⟨by rfl, ?_⟩) hHeld ?_
                  rotate_left
                  · (intro w hSw; (try dsimp only at hSw); go_simp; all_goals (with_reducible rfl))
                  try simp only [Act.put, List.setIfInBounds_toArray, List.set_cons_zero, List.set_cons_succ]
                  refine wpAnyH_done (by kernel_rfl) ?_ _
                  refine NoPanic.normal ?_
                  have HO13 : Hid (w13.heap[p7]? = some (.cells (carr ep' sh' (.slice a1' n' c1') (.slice b1' n' d1') le') 29)) := hO13
                  have HF13 : Hid (w13.heap[p10]? = some (.cells (carr re rs (.slice ai m ci) (.slice (some ⟨bf, of_, none⟩) m cb) rle) 29)) := hF13
                  have HA13 : Hid (Cfo w13 0 (.agg (carr re rs (.slice ai m ci) (.slice (some ⟨bf, of_, none⟩) m cb) rle)) ⟨re, rs, rl, rle⟩) := HA10.out.later b13
                  have HC13 : Hid (Cfo w13 0 (.agg (carr ep' sh' (.slice a1' n' c1') (.slice b1' n' d1') le')) ⟨ep', sh', l, le'⟩) := HC10.out.later b13
                  have HB13 : Hid (Below w.heap.size w w13) := HB10'.out.trans (b13.mono HB10'.out.size)
                  have HV13 : Hid (Vals w13 ai m (rl.map mi)) := HVI.out.later b13
                  clear hO11 hO12 hF11 hF12 hf11 hf12 hf13 hb11 hb12 hb13 b11 b12 b13 x0 x1 x2 x3 x4 q0 q1 q2 q3 q4 hf0 HA10 HC10 HVI HF6 HO10 HB10' hO13 hF13 hrr hhh hpp hHeld
                  obtain ⟨x0, x1, x2, x3, x4⟩ := five_cells HF13.out
                  go_wp2
                  clear x0 x1 x2 x3 x4 hk0
                  generalize wr = wo at *
                  go_loopw [14, 83] (fun la j wq => ∃ (jn : Nat) (last : Int), jn ≤ m ∧ j = .int .i64 (jn : Nat) ∧ la = .int .i64 last ∧ -1 ≤ last ∧ last ≤ 100 ∧ Hid (∀ (i : Nat) y, jn ≤ i → (nodes rl)[i]? = some y → 0 ≤ plc (nodes l) y → last ≤ plc (nodes l) y) ∧ Hid (Below w13.heap.size w13 wq)) (fun _ j _ => m - (intOf j).toNat)
                  case atStart => exact ⟨0, -1, Nat.zero_le _, rfl, rfl, by omega, by omega, fun i y _ _ h => by omega, Below.refl _ _⟩
                  case round =>
                    obtain ⟨jn, last, hj, rfl, rfl, hla1, hla2, HORD, HBQ⟩ := hrel
                    have HOQ : Hid (wr.heap[p7]? = some (.cells (carr ep' sh' (.slice a1' n' c1') (.slice b1' n' d1') le') 29)) := heap_kept HO13.out HBQ.out
                    have HFQ : Hid (wr.heap[p10]? = some (.cells (carr re rs (.slice ai m ci) (.slice (some ⟨bf, of_, none⟩) m cb) rle) 29)) := heap_kept HF13.out HBQ.out
                    have HBWQ : Hid (Below w.heap.size w wr) := HB13.out.trans (HBQ.out.mono HB13.out.size)
                    by_cases hjm : jn < m
                    · obtain ⟨bi, oi, rfl, hci⟩ := (HV13.out.later HBQ.out).at (by omega)
                      have hjl : jn < rl.length := by rw [HRLN.out]; exact hjm
                      have e0 := hci jn (.int .i64 rl[jn].1) (by simp [hjl, mi])
                      have hyn : (nodes rl)[jn]? = some rl[jn].1 := nodes_at (List.getElem?_eq_getElem hjl)
                      generalize rl[jn].1 = y at e0 hyn
                      have HYN : Hid ((nodes rl)[jn]? = some y) := hyn
                      clear hci hyn hjl
                      have hpl := place_any _ _ y _ (HC13.out.read.later HBQ.out)
                      have hpe : placeC ⟨ep', sh', l, le'⟩ y = plc (nodes l) y := by show (if _ then _ else _) = _; rw [if_pos HRT.out]
                      rw [hpe] at hpl
                      clear hpe
                      have hbd := plc_bd (nodes l) y
                      rw [nodes_length, HLN.out] at hbd
                      obtain ⟨at_, hat⟩ : ∃ q, q = plc (nodes l) y := ⟨_, rfl⟩
                      rw [← hat] at hpl hbd
                      have HATY : Hid (at_ = plc (nodes l) y) := hat
                      clear hat
                      obtain ⟨q0, q1, q2, q3, q4⟩ := five_cells HOQ.out
                      go_wp2_with fail
                      refine hpl.mono ?_
                      clear hpl q0 q1 q2 q3 q4 e0
                      rintro e w20 ⟨rfl, hb20⟩
                      have HB20 : Hid (Below w13.heap.size w13 w20) := HBQ.out.trans (hb20.mono HBQ.out.size)
                      clear hb20
                      by_cases hneg : at_ < 0
                      · go_wp2
                        go_roundw
                        case rel => exact ⟨jn + 1, last, by omega, by go_num, rfl, hla1, hla2, fun i yy h1 => HORD.out i yy (by omega), HB20⟩
                        case measure => simp [intOf]; omega
                      · have h0at : 0 ≤ at_ := by omega
                        have hge : last ≤ at_ := by rw [HATY.out]; exact HORD.out jn y (Nat.le_refl _) HYN.out (by rw [← HATY.out]; omega)
                        have HN : Hid (∀ (i : Nat) yy, jn + 1 ≤ i → (nodes rl)[i]? = some yy → 0 ≤ plc (nodes l) yy → at_ ≤ plc (nodes l) yy) := fun i yy h1 h2 h3 => by
                          have ho := HE.out.order
                          rw [List.pairwise_iff_getElem] at ho
                          obtain ⟨hi1, hi2⟩ := List.getElem?_eq_some_iff.1 h2
                          obtain ⟨hj1, hj3⟩ := List.getElem?_eq_some_iff.1 HYN.out
                          have h9 := ho jn i hj1 hi1 (by omega)
                          simp only [hi2, hj3] at h9
                          rw [HATY.out]
                          exact h9 (by rw [← HATY.out]; omega) h3
                        go_wp2
                        go_roundw
                        case rel => exact ⟨jn + 1, at_, by omega, by go_num, rfl, by omega, by omega, HN, HB20⟩
                        case measure => simp [intOf]; omega
                    · have HSn : Hid (Hs w (put5 wr p7 (.int .u64 (re : Nat)) (.int .i64 rs) (.slice ai m ci) (.slice (some ⟨bf, of_, none⟩) m cb) (.int .i64 rle)) p7 (k + 1)) := by
                        refine ⟨below_put5 HBWQ.out HP7.out _ _ _ _ _, ⟨re, rs, rl, rle⟩, ai, ci, some ⟨bf, of_, none⟩, cb, HE.out.right, by show re ≤ 1000000 + (k + 1); omega, ?_, ?_⟩
                        · show _ = some (Obj.cells (carr re rs (.slice ai rl.length ci) (.slice (some ⟨bf, of_, none⟩) rl.length cb) rle) 29)
                          rw [HRLN.out]
                          exact five_put HOQ.out
                        · show Cfo _ _ (.agg (carr re rs (.slice ai rl.length ci) (.slice (some ⟨bf, of_, none⟩) rl.length cb) rle)) _
                          rw [HRLN.out]
                          obtain ⟨va, vb, ev, h1, h2, h3⟩ := HA13.out.later HBQ.out
                          exact ⟨va, vb, ev, own_same h1 (fun k _ ht => put5_other _ _ _ _ _ (tag_ne HOQ.out (by decide) ht)), own_same h2 (fun k _ ht => put5_other _ _ _ _ _ (tag_ne HOQ.out (by decide) ht)), h3⟩
                      unfold put5 at HSn
                      obtain ⟨q0, q1, q2, q3, q4⟩ := five_cells HOQ.out
                      obtain ⟨g0, g1, g2, g3, g4⟩ := five_frozen HOQ.out
                      obtain ⟨x0, x1, x2, x3, x4⟩ := five_cells HFQ.out
                      clear HORD
                      go_wp2
                      go_roundw
                      case rel => exact ⟨k + 1, by omega, by omega, by go_num, HSn⟩
                      case measure => simp [intOf]; omega
                · have hnb : (rn != 0) = true := by simp [hrn]
                  have HSn : Hid (Hs w w10 p7 (k + 1)) := ⟨HB10'.out, ⟨ep', sh', l, le'⟩, a1', c1', b1', d1', HRT.out, by show ep' ≤ 1000000 + (k + 1); omega, by show _ = some (Obj.cells (carr ep' sh' (.slice a1' l.length c1') (.slice b1' l.length d1') le') 29); rw [HLN.out]; exact HO10.out, by show Cfo _ _ (.agg (carr ep' sh' (.slice a1' l.length c1') (.slice b1' l.length d1') le')) _; rw [HLN.out]; exact HC10.out⟩
                  clear HRR hrn
                  go_wp2
                  go_roundw
                  case rel => exact ⟨k + 1, by omega, by omega, by go_num, HSn⟩
                  case measure => simp [intOf]; omega
              | false =>
                obtain rfl : nn = 11 := by simpa using hn
                clear g13
                refine held_take (i := 12) (d := 44) (v := ?_) rfl rfl (by kernel_rfl) (by kernel_rfl) (by kernel_rfl) (fun _ _ _ h => h) (Or.inl ⟨by rfl, ?_⟩) hHeld ?_
                rotate_left
                · (intro w hSw; (try dsimp only at hSw); go_simp; all_goals (with_reducible rfl))
                try simp only [Act.put, List.setIfInBounds_toArray, List.set_cons_zero, List.set_cons_succ]
                refine held_take (i := 13) (d := 57) (v := ?_) rfl rfl (by kernel_rfl) (by kernel_rfl) (by kernel_rfl) (fun _ _ _ h => h) (Or.inl ⟨by rfl, ?_⟩) hHeld ?_
                rotate_left
                · (intro w hSw; (try dsimp only at hSw); go_simp; all_goals (with_reducible rfl))
                try simp only [Act.put, List.setIfInBounds_toArray, List.set_cons_zero, List.set_cons_succ]
                refine held_take (i := 14) (d := 58) (v := ?_) rfl rfl (by kernel_rfl) (by kernel_rfl) (by kernel_rfl) (fun _ _ _ h => h) (Or.inl ⟨by rfl, ?_⟩) hHeld ?_
                rotate_left
                · (intro w hSw; (try dsimp only at hSw); go_simp; all_goals (with_reducible rfl))
                try simp only [Act.put, List.setIfInBounds_toArray, List.set_cons_zero, List.set_cons_succ]
                refine held_take (i := 15) (d := 59) (v := ?_) rfl rfl (by kernel_rfl) (by kernel_rfl) (by kernel_rfl) (fun _ _ _ h => h) (Or.inl ⟨by rfl, ?_⟩) hHeld ?_
                rotate_left
                · (intro w hSw; (try dsimp only at hSw); go_simp; all_goals (with_reducible rfl))
                try simp only [Act.put, List.setIfInBounds_toArray, List.set_cons_zero, List.set_cons_succ]
                refine held_take (i := 16) (d := 60) (v := ?_) rfl rfl (by kernel_rfl) (by kernel_rfl) (by kernel_rfl) (fun _ _ _ h => h) (Or.inl ⟨by rfl, ?_⟩) hHeld ?_
                rotate_left
                · (intro w hSw; (try dsimp only at hSw); go_simp; all_goals (with_reducible rfl))
                try simp only [Act.put, List.setIfInBounds_toArray, List.set_cons_zero, List.set_cons_succ]
                refine wpAnyH_ready (rs := [17, 18]) (by kernel_rfl) (by simp) ?_
                refine AllReadyH.cons rfl (fun K hK => ?_) (AllReadyH.cons rfl (fun K hK => ?_) AllReadyH.nil)
                · skip
                  have hba : Below w'.heap.size w' (w'.alloc (.cells #[.int .u64 0, .int .i64 0, .slice none 0 0, .slice none 0 0, .int .i64 0] 29 (0, 0))) := (Below.refl _ _).alloc (Nat.le_refl _) _
                  have HWX : Hid (Below wr.heap.size wr (w'.alloc (.cells #[.int .u64 0, .int .i64 0, .slice none 0 0, .slice none 0 0, .int .i64 0] 29 (0, 0)))) := HWW.out.trans (hba.mono HWW.out.size)
                  have HAX : Hid (Cfo (w'.alloc (.cells #[.int .u64 0, .int .i64 0, .slice none 0 0, .slice none 0 0, .int .i64 0] 29 (0, 0))) 0 (.agg (carr re rs (.slice ai m ci) (.slice ab m cb) rle)) ⟨re, rs, rl, rle⟩) := HAA.out.later hba
                  have HUX : Hid (Rfr (w'.alloc (.cells #[.int .u64 0, .int .i64 0, .slice none 0 0, .slice none 0 0, .int .i64 0] 29 (0, 0))) (.agg (rarr re rs (.slice am m cm) rle)) ⟨re, rs, rl, rle⟩) := HUU.out.later hba
                  have HB10 : Hid ((w'.alloc (.cells #[.int .u64 0, .int .i64 0, .slice none 0 0, .slice none 0 0, .int .i64 0] 29 (0, 0))).heap[w'.heap.size]? = some (.cells #[.int .u64 0, .int .i64 0, .slice none 0 0, .slice none 0 0, .int .i64 0] 29 (0, 0))) := heap_alloc_new _ _
                  have hsp : Hid (wr.heap.size ≤ w'.heap.size) := HWW.out.size
                  go_simp
                  refine hK.out _ _ (HS.out _ HWX.out) (fun hHeld => ?_)
                  clear hK K hba HWW HAA HUU
                  try simp only [Act.put, List.setIfInBounds_toArray, List.set_cons_zero, List.set_cons_succ]
                  generalize w'.heap.size = p10 at *
                  generalize (w'.alloc (.cells #[.int .u64 0, .int .i64 0, .slice none 0 0, .slice none 0 0, .int .i64 0] 29 (0, 0))) = w8 at *
                  have s10 := hsp.out
                  clear hsp
                  have HWW := HWX
                  have HAA := HAX
                  have HUU := HUX
                  clear HWX HAX HUX
                  refine wpAnyH_ready (rs := [18]) (by kernel_rfl) (by simp) ?_
                  refine AllReadyH.cons rfl (fun K hK => ?_) AllReadyH.nil
                  have hba : Below w8.heap.size w8 (w8.alloc (.cells #[.int .u64 0, .int .i64 0, .slice none 0 0, .int .i64 0] 25 (0, 0))) := (Below.refl _ _).alloc (Nat.le_refl _) _
                  have HWX : Hid (Below wr.heap.size wr (w8.alloc (.cells #[.int .u64 0, .int .i64 0, .slice none 0 0, .int .i64 0] 25 (0, 0)))) := HWW.out.trans (hba.mono HWW.out.size)
                  have HAX : Hid (Cfo (w8.alloc (.cells #[.int .u64 0, .int .i64 0, .slice none 0 0, .int .i64 0] 25 (0, 0))) 0 (.agg (carr re rs (.slice ai m ci) (.slice ab m cb) rle)) ⟨re, rs, rl, rle⟩) := HAA.out.later hba
                  have HUX : Hid (Rfr (w8.alloc (.cells #[.int .u64 0, .int .i64 0, .slice none 0 0, .int .i64 0] 25 (0, 0))) (.agg (rarr re rs (.slice am m cm) rle)) ⟨re, rs, rl, rle⟩) := HUU.out.later hba
                  have HB12 : Hid ((w8.alloc (.cells #[.int .u64 0, .int .i64 0, .slice none 0 0, .int .i64 0] 25 (0, 0))).heap[w8.heap.size]? = some (.cells #[.int .u64 0, .int .i64 0, .slice none 0 0, .int .i64 0] 25 (0, 0))) := heap_alloc_new _ _
                  have hsp : Hid (wr.heap.size ≤ w8.heap.size) := HWW.out.size
                  have HB10X : Hid ((w8.alloc (.cells #[.int .u64 0, .int .i64 0, .slice none 0 0, .int .i64 0] 25 (0, 0))).heap[p10]? = some (.cells #[.int .u64 0, .int .i64 0, .slice none 0 0, .slice none 0 0, .int .i64 0] 29 (0, 0))) := heap_kept HB10.out hba
                  go_simp
                  refine hK.out _ _ (HS.out _ HWX.out) (fun hHeld => ?_)
                  clear hK K hba HWW HAA HUU
                  try simp only [Act.put, List.setIfInBounds_toArray, List.set_cons_zero, List.set_cons_succ]
                  generalize w8.heap.size = p12 at *
                  generalize (w8.alloc (.cells #[.int .u64 0, .int .i64 0, .slice none 0 0, .int .i64 0] 25 (0, 0))) = w8' at *
                  have s12 := hsp.out
                  clear hsp
                  have HWW := HWX
                  have HAA := HAX
                  have HUU := HUX
                  clear HWX HAX HUX
                  clear HB10
                  have HB10 := HB10X
                  clear HB10X
                  have HNE : Hid (p12 ≠ p10) := block_ne (tagOf_heap HB12.out) (tagOf_heap HB10.out) (by decide)
                  obtain ⟨z0, z1, z2, z3, z4⟩ := five_cells HB10.out
                  obtain ⟨g0, g1, g2, g3, g4⟩ := five_frozen HB10.out
                  have HF5 : Hid ((put5 w8' p10 (.int .u64 (re : Nat)) (.int .i64 rs) (.slice ai m ci) (.slice ab m cb) (.int .i64 rle)).heap[p10]? = some (.cells (carr re rs (.slice ai m ci) (.slice ab m cb) rle) 29)) := five_put HB10.out
                  have HT5 : Hid ((put5 w8' p10 (.int .u64 (re : Nat)) (.int .i64 rs) (.slice ai m ci) (.slice ab m cb) (.int .i64 rle)).heap[p12]? = some (.cells #[.int .u64 0, .int .i64 0, .slice none 0 0, .int .i64 0] 25 (0, 0))) := (put5_other _ _ _ _ _ HNE.out).trans HB12.out
                  have HB5 : Hid (Below wr.heap.size wr (put5 w8' p10 (.int .u64 (re : Nat)) (.int .i64 rs) (.slice ai m ci) (.slice ab m cb) (.int .i64 rle))) := below_put5 HWW.out s10 _ _ _ _ _
                  have HK5 : Hid (∀ k, k ≠ p10 → (put5 w8' p10 (.int .u64 (re : Nat)) (.int .i64 rs) (.slice ai m ci) (.slice ab m cb) (.int .i64 rle)).heap[k]? = w8'.heap[k]?) := fun k hk => put5_other _ _ _ _ _ hk
                  unfold put5 at HF5 HT5 HB5 HK5
                  refine wpAnyH_ready (rs := [19]) (by kernel_rfl) (by simp) ?_
                  refine AllReadyH.cons rfl (fun K hK => ?_) AllReadyH.nil
                  go_simp
                  refine hK.out _ _ (HS.out _ HB5.out) (fun hHeld => ?_)
                  clear hK K hHeld
                  try simp only [Act.put, List.setIfInBounds_toArray, List.set_cons_zero, List.set_cons_succ]
                  generalize (((((w8'.setCell ⟨p10, 0, none⟩ (.int .u64 (re : Nat))).setCell ⟨p10, 1, none⟩ (.int .i64 rs)).setCell ⟨p10, 2, none⟩ (.slice ai m ci)).setCell ⟨p10, 3, none⟩ (.slice ab m cb)).setCell ⟨p10, 4, none⟩ (.int .i64 rle)) = w9 at *
                  clear z0 z1 z2 z3 z4 g0 g1 g2 g3 g4
                  refine wpAnyH_ready (rs := [20]) (by kernel_rfl) (by simp) ?_
                  refine AllReadyH.cons rfl (fun K hK => ?_) AllReadyH.nil
                  go_simp
                  refine hK.out _ _ (HS.out _ HB5.out) (fun hHeld => ?_)
                  clear hK K hHeld
                  try simp only [Act.put, List.setIfInBounds_toArray, List.set_cons_zero, List.set_cons_succ]
                  obtain ⟨z0, z1, z2, z3⟩ := four_cells HT5.out
                  obtain ⟨g0, g1, g2, g3⟩ := four_frozen HT5.out
                  have HF4 : Hid ((put4 w9 p12 (.int .u64 (re : Nat)) (.int .i64 rs) (.slice am m cm) (.int .i64 rle)).heap[p12]? = some (.cells (rarr re rs (.slice am m cm) rle) 25)) := four_put HT5.out
                  have HF6 : Hid ((put4 w9 p12 (.int .u64 (re : Nat)) (.int .i64 rs) (.slice am m cm) (.int .i64 rle)).heap[p10]? = some (.cells (carr re rs (.slice ai m ci) (.slice ab m cb) rle) 29)) := (put4_other _ _ _ _ (fun e => HNE.out e.symm)).trans HF5.out
                  have HB6 : Hid (Below wr.heap.size wr (put4 w9 p12 (.int .u64 (re : Nat)) (.int .i64 rs) (.slice am m cm) (.int .i64 rle))) := below_put4 HB5.out s12 _ _ _ _
                  have HK6 : Hid (∀ k, k ≠ p10 → k ≠ p12 → (put4 w9 p12 (.int .u64 (re : Nat)) (.int .i64 rs) (.slice am m cm) (.int .i64 rle)).heap[k]? = w8'.heap[k]?) := fun k h1 h2 => (put4_other _ _ _ _ h2).trans (HK5.out k h1)
                  unfold put4 at HF4 HF6 HB6 HK6
                  refine wpAnyH_ready (rs := [21]) (by kernel_rfl) (by simp) ?_
                  refine AllReadyH.cons rfl (fun K hK => ?_) AllReadyH.nil
                  go_simp
                  refine hK.out _ _ (HS.out _ HB6.out) (fun hHeld => ?_)
                  clear hK K hHeld
                  try simp only [Act.put, List.setIfInBounds_toArray, List.set_cons_zero, List.set_cons_succ]
                  generalize ((((w9.setCell ⟨p12, 0, none⟩ (.int .u64 (re : Nat))).setCell ⟨p12, 1, none⟩ (.int .i64 rs)).setCell ⟨p12, 2, none⟩ (.slice am m cm)).setCell ⟨p12, 3, none⟩ (.int .i64 rle)) = w10 at *
                  clear z0 z1 z2 z3 g0 g1 g2 g3
                  refine wpAnyH_ready (rs := [22]) (by kernel_rfl) (by simp) ?_
                  refine AllReadyH.cons rfl (fun K hK => ?_) AllReadyH.nil
                  go_simp
                  refine hK.out _ _ (HS.out _ HB6.out) (fun hHeld => ?_)
                  clear hK K hHeld
                  try simp only [Act.put, List.setIfInBounds_toArray, List.set_cons_zero, List.set_cons_succ]
                  refine wpAnyH_done (by kernel_rfl) ?_ _
                  refine NoPanic.normal ?_
                  have hkk : ∀ k t, tagOf w8' k = some t → t ≠ 29 → t ≠ 25 → w10.heap[k]? = w8'.heap[k]? := fun k t ht h1 h2 => HK6.out k (tag_ne HB10.out h1 ht) (tag_ne HB12.out h2 ht)
                  have HA10 : Hid (Cfo w10 0 (.agg (carr re rs (.slice ai m ci) (.slice ab m cb) rle)) ⟨re, rs, rl, rle⟩) := by
                    obtain ⟨va, vb, e, h1, h2, h3⟩ := HAA.out
                    exact ⟨va, vb, e, own_same h1 (fun k _ ht => hkk k 3 ht (by decide) (by decide)), own_same h2 (fun k _ ht => hkk k 4 ht (by decide) (by decide)), h3⟩
                  have HU10 : Hid (Rfr w10 (.agg (rarr re rs (.slice am m cm) rle)) ⟨re, rs, rl, rle⟩) := by
                    obtain ⟨am', cm', e, hm, h3⟩ := HUU.out
                    refine ⟨am', cm', e, ?_, h3⟩
                    by_cases h0 : 0 < rl.length
                    · obtain ⟨b9, off9, e9, hc⟩ := hm.at h0
                      subst e9
                      have n1 := hm.ne h0 HB10.out rfl
                      have n2 := hm.ne h0 HB12.out rfl
                      exact .inr ⟨b9, off9, rfl, fun i m hi => by rw [cell_same (HK6.out b9 n1 n2), cell_same (HK6.out b9 n1 n2)]; exact hc i m hi⟩
                    · exact .inl (show rl = [] from List.length_eq_zero_iff.1 (by omega))
                  have HB10' : Hid (Below w.heap.size w w10) := HB.out.trans (HB6.out.mono HB.out.size)
                  clear hkk HK5 HK6 HAA HUU HF5 HT5 HB5 HB10 HB12
                  have HO10 : Hid (w10.heap[p7]? = some (.cells (carr ep' sh' (.slice a1' n' c1') (.slice b1' n' d1') le') 29)) := heap_kept HO.out HB6.out
                  have HC10 : Hid (Cfo w10 0 (.agg (carr ep' sh' (.slice a1' n' c1') (.slice b1' n' d1') le')) ⟨ep', sh', l, le'⟩) := HC.out.later HB6.out
                  clear HB6 HF4 HU10 HNE HWW
                  by_cases hrn : rn = 0
                  · subst hrn
                    have hhe : Heir ⟨ep', sh', l, le'⟩ ⟨re, rs, rl, rle⟩ := heir_turn HRT.out HRR.out
                    have HE : Hid (Heir ⟨ep', sh', l, le'⟩ ⟨re, rs, rl, rle⟩) := hhe
                    have hep2 : re ≤ ep' + 1 := by have h1 := turn_ep (c := ⟨ep', sh', l, le'⟩) (kd := kd) (x := x) (e := ep' + 1) (by simp only; omega); rw [HRR.out] at h1; exact h1
                    have hm1 := (right_true hhe.right).few
                    simp only [HRLN.out] at hm1
                    have hm0 : 0 < m := by omega
                    have HHD : Hid (hd rl = true) := (right_true hhe.right).hd
                    obtain ⟨y0, hy0⟩ : ∃ y0, (nodes rl)[0]? = some y0 := ⟨_, List.getElem?_eq_getElem (by rw [nodes_length, HRLN.out]; omega)⟩
                    have HAT : Hid (atC ⟨re, rs, rl, rle⟩ 0 = y0) := by show atC _ _ = _; unfold atC; rw [if_pos ⟨hhe.right, by omega, by simp only [HRLN.out]; omega⟩]; show ((nodes rl)[0]?).getD 0 = y0; rw [hy0]; rfl
                    have hyin := hhe.head y0 hy0
                    obtain ⟨kp, hkp1, hkp2, _, _⟩ := plc_mem hyin
                    have HPL : Hid (placeC ⟨ep', sh', l, le'⟩ y0 = (kp : Int)) := by show (if _ then _ else _) = _; rw [if_pos HRT.out]; exact hkp2
                    clear hyin hkp1 hkp2 hy0 hhe
                    obtain ⟨xa, xc, xb, xd, exx, hvi, hvb, -⟩ := HA10.out.read
                    simp only [HRLN.out] at exx hvi hvb
                    simp only [Value.agg.injEq, Array.mk.injEq, List.cons.injEq, Value.slice.injEq] at exx
                    obtain ⟨-, -, ⟨rfl, -, rfl⟩, ⟨rfl, -, rfl⟩, -⟩ := exx
                    have HVI : Hid (Vals w10 ai m (rl.map mi)) := hvi
                    obtain ⟨bf, of_, rfl, hcf⟩ := hvb.at (by omega)
                    have hf0 : w10.cell? ⟨bf, of_, none⟩ = some (.bool true) := by
                      have hl0 : 0 < rl.length := by rw [HRLN.out]; omega
                      have := hcf 0 (.bool (hd rl)) (by rw [List.getElem?_map, List.getElem?_eq_getElem hl0]; cases rl with | nil => simp at hl0 | cons mm tt => rfl)
                      rw [HHD.out] at this
                      simpa using this
                    clear hvi hvb hcf
                    obtain ⟨x0, x1, x2, x3, x4⟩ := five_cells HF6.out
                    obtain ⟨q0, q1, q2, q3, q4⟩ := five_cells HO10.out
                    have hrr := right_any _ _ _ (HA10.out.read.later (Below.refl _ w10).drew)
                    rw [HE.out.right] at hrr
                    go_upto_region 10 with fail
                    refine wp_region_noPanic ?_
                    refine wp_region_held_drew (S := fun w' => (w'.cell? ⟨p10, 0, none⟩ = some (.int .u64 (re : Nat)) ∧ w'.cell? ⟨p10, 1, none⟩ = some (.int .i64 rs) ∧ w'.cell? ⟨p10, 2, none⟩ = some (.slice ai m ci) ∧ w'.cell? ⟨p10, 3, none⟩ = some (.slice (some ⟨bf, of_, none⟩) m cb) ∧ w'.cell? ⟨p10, 4, none⟩ = some (.int .i64 rle)) ∧ (w'.cell? ⟨p7, 0, none⟩ = some (.int .u64 (ep' : Nat)) ∧ w'.cell? ⟨p7, 1, none⟩ = some (.int .i64 sh') ∧ w'.cell? ⟨p7, 2, none⟩ = some (.slice a1' n' c1') ∧ w'.cell? ⟨p7, 3, none⟩ = some (.slice b1' n' d1') ∧ w'.cell? ⟨p7, 4, none⟩ = some (.int .i64 le')) ∧ w'.cell? ⟨bf, of_, none⟩ = some (.bool true)) (by kernel_rfl) ?_ (fun hHeld => ?_)
                    · exact ⟨⟨x0, x1, x2, x3, x4⟩, ⟨q0, q1, q2, q3, q4⟩, hf0⟩
                    refine held_take (i := 0) (d := 63) (v := ?_) rfl rfl (by kernel_rfl) (by kernel_rfl) (by kernel_rfl) (fun _ _ _ h => h) (Or.inl ⟨by rfl, ?_⟩) hHeld ?_
                    rotate_left
                    · (intro w hSw; (try dsimp only at hSw); go_simp; all_goals (with_reducible rfl))
                    try simp only [Act.put, List.setIfInBounds_toArray, List.set_cons_zero, List.set_cons_succ]
                    refine wpAnyH_ready (rs := [1]) (by kernel_rfl) (by simp) ?_
                    refine AllReadyH.cons rfl (fun K hK => ?_) AllReadyH.nil
                    go_simp
                    refine hrr.mono ?_
                    rintro e w11 ⟨rfl, hb11⟩
                    have b11 : Below w10.heap.size w10 w11 := (Below.refl _ w10).drew.trans hb11
                    have hO11 := heap_kept HO10.out b11
                    have hF11 := heap_kept HF6.out b11
                    have hf11 := cell_later b11 hf0
                    have hhh := head_any _ _ _ (HA10.out.read.later b11)
                    rw [HAT.out] at hhh
                    go_wp2_with fail
                    refine hK.out _ _ ?_ (fun hHeld => ?_)
                    · exact ⟨five_cells hF11, five_cells hO11, hf11⟩
                    clear hK K
                    try simp only [Act.put, List.setIfInBounds_toArray, List.set_cons_zero, List.set_cons_succ]
                    refine held_take (i := 2) (d := 65) (v := ?_) rfl rfl (by kernel_rfl) (by kernel_rfl) (by kernel_rfl) (fun _ _ _ h => h) (Or.inl ⟨by rfl, ?_⟩) hHeld ?_
                    rotate_left
                    · (intro w hSw; (try dsimp only at hSw); go_simp; all_goals (with_reducible rfl))
                    try simp only [Act.put, List.setIfInBounds_toArray, List.set_cons_zero, List.set_cons_succ]
                    refine held_take (i := 3) (d := 66) (v := ?_) rfl rfl (by kernel_rfl) (by kernel_rfl) (by kernel_rfl) (fun _ _ _ h => h) (Or.inl ⟨by rfl, ?_⟩) hHeld ?_
                    rotate_left
                    · (intro w hSw; (try dsimp only at hSw); go_simp; all_goals (with_reducible rfl))
                    try simp only [Act.put, List.setIfInBounds_toArray, List.set_cons_zero, List.set_cons_succ]
                    refine held_take (i := 4) (d := 67) (v := ?_) rfl rfl (by kernel_rfl) (by kernel_rfl) (by kernel_rfl) (fun _ _ _ h => h) (Or.inl ⟨by rfl, ?_⟩) hHeld ?_
                    rotate_left
                    · (intro w hSw; (try dsimp only at hSw); go_simp; all_goals (with_reducible rfl))
                    try simp only [Act.put, List.setIfInBounds_toArray, List.set_cons_zero, List.set_cons_succ]
                    refine held_take (i := 5) (d := 68) (v := ?_) rfl rfl (by kernel_rfl) (by kernel_rfl) (by kernel_rfl) (fun _ _ _ h => h) (Or.inl ⟨by rfl, ?_⟩) hHeld ?_
                    rotate_left
                    · (intro w hSw; (try dsimp only at hSw); go_simp; all_goals (with_reducible rfl))
                    try simp only [Act.put, List.setIfInBounds_toArray, List.set_cons_zero, List.set_cons_succ]
                    refine held_take (i := 6) (d := 69) (v := ?_) rfl rfl (by kernel_rfl) (by kernel_rfl) (by kernel_rfl) (fun _ _ _ h => h) (Or.inl ⟨by rfl, ?_⟩) hHeld ?_
                    rotate_left
                    · (intro w hSw; (try dsimp only at hSw); go_simp; all_goals (with_reducible rfl))
                    try simp only [Act.put, List.setIfInBounds_toArray, List.set_cons_zero, List.set_cons_succ]
                    refine held_take (i := 7) (d := 70) (v := ?_) rfl rfl (by kernel_rfl) (by kernel_rfl) (by kernel_rfl) (fun _ _ _ h => h) (Or.inl ⟨by rfl, ?_⟩) hHeld ?_
                    rotate_left
                    · (intro w hSw; (try dsimp only at hSw); go_simp; all_goals (with_reducible rfl))
                    try simp only [Act.put, List.setIfInBounds_toArray, List.set_cons_zero, List.set_cons_succ]
                    refine held_take (i := 8) (d := 71) (v := ?_) rfl rfl (by kernel_rfl) (by kernel_rfl) (by kernel_rfl) (fun _ _ _ h => h) (Or.inl ⟨by rfl, ?_⟩) hHeld ?_
                    rotate_left
                    · (intro w hSw; (try dsimp only at hSw); go_simp; all_goals (with_reducible rfl))
                    try simp only [Act.put, List.setIfInBounds_toArray, List.set_cons_zero, List.set_cons_succ]
                    refine held_take (i := 9) (d := 72) (v := ?_) rfl rfl (by kernel_rfl) (by kernel_rfl) (by kernel_rfl) (fun _ _ _ h => h) (Or.inl ⟨by rfl, ?_⟩) hHeld ?_
                    rotate_left
                    · (intro w hSw; (try dsimp only at hSw); go_simp; all_goals (with_reducible rfl))
                    try simp only [Act.put, List.setIfInBounds_toArray, List.set_cons_zero, List.set_cons_succ]
                    refine held_take (i := 10) (d := 73) (v := ?_) rfl rfl (by kernel_rfl) (by kernel_rfl) (by kernel_rfl) (fun _ _ _ h => h) (Or.inl ⟨by rfl, ?_⟩) hHeld ?_
                    rotate_left
                    · (intro w hSw; (try dsimp only at hSw); go_simp; all_goals (with_reducible rfl))
                    try simp only [Act.put, List.setIfInBounds_toArray, List.set_cons_zero, List.set_cons_succ]
                    refine held_take (i := 11) (d := 74) (v := ?_) rfl rfl (by kernel_rfl) (by kernel_rfl) (by kernel_rfl) (fun _ _ _ h => h) (Or.inl ⟨by rfl, ?_⟩) hHeld ?_
                    rotate_left
                    · (intro w hSw; (try dsimp only at hSw); go_simp; all_goals (with_reducible rfl))
                    try simp only [Act.put, List.setIfInBounds_toArray, List.set_cons_zero, List.set_cons_succ]
                    refine held_take (i := 12) (d := 75) (v := ?_) rfl rfl (by kernel_rfl) (by kernel_rfl) (by kernel_rfl) (fun _ _ _ h => h) (Or.inl ⟨by rfl, ?_⟩) hHeld ?_
                    rotate_left
                    · (intro w hSw; (try dsimp only at hSw); go_simp; all_goals (with_reducible rfl))
                    try simp only [Act.put, List.setIfInBounds_toArray, List.set_cons_zero, List.set_cons_succ]
                    refine wpAnyH_ready (rs := [13]) (by kernel_rfl) (by simp) ?_
                    refine AllReadyH.cons rfl (fun K hK => ?_) AllReadyH.nil
                    go_simp
                    refine hhh.mono ?_
                    rintro e w12 ⟨rfl, hb12⟩
                    have b12 := b11.trans (hb12.mono b11.size)
                    have hO12 := heap_kept hO11 hb12
                    have hF12 := heap_kept hF11 hb12
                    have hf12 := cell_later hb12 hf11
                    have hpp := place_any _ _ y0 _ (HC10.out.read.later b12)
                    rw [HPL.out] at hpp
                    go_wp2_with fail
                    refine hK.out _ _ ?_ (fun hHeld => ?_)
                    · exact ⟨five_cells hF12, five_cells hO12, hf12⟩
                    clear hK K
                    try simp only [Act.put, List.setIfInBounds_toArray, List.set_cons_zero, List.set_cons_succ]
                    refine wpAnyH_ready (rs := [14]) (by kernel_rfl) (by simp) ?_
                    refine AllReadyH.cons rfl (fun K hK => ?_) AllReadyH.nil
                    go_simp
                    refine hpp.mono ?_
                    rintro e w13 ⟨rfl, hb13⟩
                    have b13 := b12.trans (hb13.mono b12.size)
                    have hO13 := heap_kept hO12 hb13
                    have hF13 := heap_kept hF12 hb13
                    have hf13 := cell_later hb13 hf12
                    have hk0 : decide ((kp : Int) < 0) = false := by rw [decide_eq_false_iff_not]; omega
                    go_wp2_with fail
                    refine hK.out _ _ ?_ (fun hHeld => ?_)
                    · exact ⟨five_cells hF13, five_cells hO13, hf13⟩
                    clear hK K
                    try simp only [Act.put, List.setIfInBounds_toArray, List.set_cons_zero, List.set_cons_succ]
                    refine held_take (i := 15) (d := 78) (v := ?_) rfl rfl (by kernel_rfl) (by kernel_rfl) (by kernel_rfl) (fun _ _ _ h => h) (Or.inl ⟨by rfl, ?_⟩) hHeld ?_
                    rotate_left
                    · (intro w hSw; (try dsimp only at hSw); go_simp; all_goals (with_reducible rfl))
                    try simp only [Act.put, List.setIfInBounds_toArray, List.set_cons_zero, List.set_cons_succ]
                    refine held_take (i := 16) (d := 79) (v := ?_) rfl rfl (by kernel_rfl) (by kernel_rfl) (by kernel_rfl) (fun _ _ _ h => h) (Or.inl ⟨by rfl, ?_⟩) hHeld ?_
                    rotate_left
                    · (intro w hSw; (try dsimp only at hSw); go_simp; all_goals (with_reducible rfl))
                    try simp only [Act.put, List.setIfInBounds_toArray, List.set_cons_zero, List.set_cons_succ]
                    refine wpAnyH_done (by kernel_rfl) ?_ _
                    refine NoPanic.normal ?_
                    have HO13 : Hid (w13.heap[p7]? = some (.cells (carr ep' sh' (.slice a1' n' c1') (.slice b1' n' d1') le') 29)) := hO13
                    have HF13 : Hid (w13.heap[p10]? = some (.cells (carr re rs (.slice ai m ci) (.slice (some ⟨bf, of_, none⟩) m cb) rle) 29)) := hF13
                    have HA13 : Hid (Cfo w13 0 (.agg (carr re rs (.slice ai m ci) (.slice (some ⟨bf, of_, none⟩) m cb) rle)) ⟨re, rs, rl, rle⟩) := HA10.out.later b13
                    have HC13 : Hid (Cfo w13 0 (.agg (carr ep' sh' (.slice a1' n' c1') (.slice b1' n' d1') le')) ⟨ep', sh', l, le'⟩) := HC10.out.later b13
                    have HB13 : Hid (Below w.heap.size w w13) := HB10'.out.trans (b13.mono HB10'.out.size)
                    have HV13 : Hid (Vals w13 ai m (rl.map mi)) := HVI.out.later b13
                    clear hO11 hO12 hF11 hF12 hf11 hf12 hf13 hb11 hb12 hb13 b11 b12 b13 x0 x1 x2 x3 x4 q0 q1 q2 q3 q4 hf0 HA10 HC10 HVI HF6 HO10 HB10' hO13 hF13 hrr hhh hpp hHeld
                    obtain ⟨x0, x1, x2, x3, x4⟩ := five_cells HF13.out
                    go_wp2
                    clear x0 x1 x2 x3 x4 hk0
                    generalize wr = wo at *
                    go_loopw [14, 83] (fun la j wq => ∃ (jn : Nat) (last : Int), jn ≤ m ∧ j = .int .i64 (jn : Nat) ∧ la = .int .i64 last ∧ -1 ≤ last ∧ last ≤ 100 ∧ Hid (∀ (i : Nat) y, jn ≤ i → (nodes rl)[i]? = some y → 0 ≤ plc (nodes l) y → last ≤ plc (nodes l) y) ∧ Hid (Below w13.heap.size w13 wq)) (fun _ j _ => m - (intOf j).toNat)
                    case atStart => exact ⟨0, -1, Nat.zero_le _, rfl, rfl, by omega, by omega, fun i y _ _ h => by omega, Below.refl _ _⟩
                    case round =>
                      obtain ⟨jn, last, hj, rfl, rfl, hla1, hla2, HORD, HBQ⟩ := hrel
                      have HOQ : Hid (wr.heap[p7]? = some (.cells (carr ep' sh' (.slice a1' n' c1') (.slice b1' n' d1') le') 29)) := heap_kept HO13.out HBQ.out
                      have HFQ : Hid (wr.heap[p10]? = some (.cells (carr re rs (.slice ai m ci) (.slice (some ⟨bf, of_, none⟩) m cb) rle) 29)) := heap_kept HF13.out HBQ.out
                      have HBWQ : Hid (Below w.heap.size w wr) := HB13.out.trans (HBQ.out.mono HB13.out.size)
                      by_cases hjm : jn < m
                      · obtain ⟨bi, oi, rfl, hci⟩ := (HV13.out.later HBQ.out).at (by omega)
                        have hjl : jn < rl.length := by rw [HRLN.out]; exact hjm
                        have e0 := hci jn (.int .i64 rl[jn].1) (by simp [hjl, mi])
                        have hyn : (nodes rl)[jn]? = some rl[jn].1 := nodes_at (List.getElem?_eq_getElem hjl)
                        generalize rl[jn].1 = y at e0 hyn
                        have HYN : Hid ((nodes rl)[jn]? = some y) := hyn
                        clear hci hyn hjl
                        have hpl := place_any _ _ y _ (HC13.out.read.later HBQ.out)
                        have hpe : placeC ⟨ep', sh', l, le'⟩ y = plc (nodes l) y := by show (if _ then _ else _) = _; rw [if_pos HRT.out]
                        rw [hpe] at hpl
                        clear hpe
                        have hbd := plc_bd (nodes l) y
                        rw [nodes_length, HLN.out] at hbd
                        obtain ⟨at_, hat⟩ : ∃ q, q = plc (nodes l) y := ⟨_, rfl⟩
                        rw [← hat] at hpl hbd
                        have HATY : Hid (at_ = plc (nodes l) y) := hat
                        clear hat
                        obtain ⟨q0, q1, q2, q3, q4⟩ := five_cells HOQ.out
                        go_wp2_with fail
                        refine hpl.mono ?_
                        clear hpl q0 q1 q2 q3 q4 e0
                        rintro e w20 ⟨rfl, hb20⟩
                        have HB20 : Hid (Below w13.heap.size w13 w20) := HBQ.out.trans (hb20.mono HBQ.out.size)
                        clear hb20
                        by_cases hneg : at_ < 0
                        · go_wp2
                          go_roundw
                          case rel => exact ⟨jn + 1, last, by omega, by go_num, rfl, hla1, hla2, fun i yy h1 => HORD.out i yy (by omega), HB20⟩
                          case measure => simp [intOf]; omega
                        · have h0at : 0 ≤ at_ := by omega
                          have hge : last ≤ at_ := by rw [HATY.out]; exact HORD.out jn y (Nat.le_refl _) HYN.out (by rw [← HATY.out]; omega)
                          have HN : Hid (∀ (i : Nat) yy, jn + 1 ≤ i → (nodes rl)[i]? = some yy → 0 ≤ plc (nodes l) yy → at_ ≤ plc (nodes l) yy) := fun i yy h1 h2 h3 => by
                            have ho := HE.out.order
                            rw [List.pairwise_iff_getElem] at ho
                            obtain ⟨hi1, hi2⟩ := List.getElem?_eq_some_iff.1 h2
                            obtain ⟨hj1, hj3⟩ := List.getElem?_eq_some_iff.1 HYN.out
                            have h9 := ho jn i hj1 hi1 (by omega)
                            simp only [hi2, hj3] at h9
                            rw [HATY.out]
                            exact h9 (by rw [← HATY.out]; omega) h3
                          go_wp2
                          go_roundw
                          case rel => exact ⟨jn + 1, at_, by omega, by go_num, rfl, by omega, by omega, HN, HB20⟩
                          case measure => simp [intOf]; omega
                      · have HSn : Hid (Hs w (put5 wr p7 (.int .u64 (re : Nat)) (.int .i64 rs) (.slice ai m ci) (.slice (some ⟨bf, of_, none⟩) m cb) (.int .i64 rle)) p7 (k + 1)) := by
                          refine ⟨below_put5 HBWQ.out HP7.out _ _ _ _ _, ⟨re, rs, rl, rle⟩, ai, ci, some ⟨bf, of_, none⟩, cb, HE.out.right, by show re ≤ 1000000 + (k + 1); omega, ?_, ?_⟩
                          · show _ = some (Obj.cells (carr re rs (.slice ai rl.length ci) (.slice (some ⟨bf, of_, none⟩) rl.length cb) rle) 29)
                            rw [HRLN.out]
                            exact five_put HOQ.out
                          · show Cfo _ _ (.agg (carr re rs (.slice ai rl.length ci) (.slice (some ⟨bf, of_, none⟩) rl.length cb) rle)) _
                            rw [HRLN.out]
                            obtain ⟨va, vb, ev, h1, h2, h3⟩ := HA13.out.later HBQ.out
                            exact ⟨va, vb, ev, own_same h1 (fun k _ ht => put5_other _ _ _ _ _ (tag_ne HOQ.out (by decide) ht)), own_same h2 (fun k _ ht => put5_other _ _ _ _ _ (tag_ne HOQ.out (by decide) ht)), h3⟩
                        unfold put5 at HSn
                        obtain ⟨q0, q1, q2, q3, q4⟩ := five_cells HOQ.out
                        obtain ⟨g0, g1, g2, g3, g4⟩ := five_frozen HOQ.out
                        obtain ⟨x0, x1, x2, x3, x4⟩ := five_cells HFQ.out
                        clear HORD
                        go_wp2
                        go_roundw
                        case rel => exact ⟨k + 1, by omega, by omega, by go_num, HSn⟩
                        case measure => simp [intOf]; omega
                  · have hnb : (rn != 0) = true := by simp [hrn]
                    have HSn : Hid (Hs w w10 p7 (k + 1)) := ⟨HB10'.out, ⟨ep', sh', l, le'⟩, a1', c1', b1', d1', HRT.out, by show ep' ≤ 1000000 + (k + 1); omega, by show _ = some (Obj.cells (carr ep' sh' (.slice a1' l.length c1') (.slice b1' l.length d1') le') 29); rw [HLN.out]; exact HO10.out, by show Cfo _ _ (.agg (carr ep' sh' (.slice a1' l.length c1') (.slice b1' l.length d1') le')) _; rw [HLN.out]; exact HC10.out⟩
                    clear HRR hrn
                    go_wp2
                    go_roundw
                    case rel => exact ⟨k + 1, by omega, by omega, by go_num, HSn⟩
                    case measure => simp [intOf]; omega
                · skip
                  have hba : Below w'.heap.size w' (w'.alloc (.cells #[.int .u64 0, .int .i64 0, .slice none 0 0, .int .i64 0] 25 (0, 0))) := (Below.refl _ _).alloc (Nat.le_refl _) _
                  have HWX : Hid (Below wr.heap.size wr (w'.alloc (.cells #[.int .u64 0, .int .i64 0, .slice none 0 0, .int .i64 0] 25 (0, 0)))) := HWW.out.trans (hba.mono HWW.out.size)
                  have HAX : Hid (Cfo (w'.alloc (.cells #[.int .u64 0, .int .i64 0, .slice none 0 0, .int .i64 0] 25 (0, 0))) 0 (.agg (carr re rs (.slice ai m ci) (.slice ab m cb) rle)) ⟨re, rs, rl, rle⟩) := HAA.out.later hba
                  have HUX : Hid (Rfr (w'.alloc (.cells #[.int .u64 0, .int .i64 0, .slice none 0 0, .int .i64 0] 25 (0, 0))) (.agg (rarr re rs (.slice am m cm) rle)) ⟨re, rs, rl, rle⟩) := HUU.out.later hba
                  have HB12 : Hid ((w'.alloc (.cells #[.int .u64 0, .int .i64 0, .slice none 0 0, .int .i64 0] 25 (0, 0))).heap[w'.heap.size]? = some (.cells #[.int .u64 0, .int .i64 0, .slice none 0 0, .int .i64 0] 25 (0, 0))) := heap_alloc_new _ _
                  have hsp : Hid (wr.heap.size ≤ w'.heap.size) := HWW.out.size
                  go_simp
                  refine hK.out _ _ (HS.out _ HWX.out) (fun hHeld => ?_)
                  clear hK K hba HWW HAA HUU
                  try simp only [Act.put, List.setIfInBounds_toArray, List.set_cons_zero, List.set_cons_succ]
                  generalize w'.heap.size = p12 at *
                  generalize (w'.alloc (.cells #[.int .u64 0, .int .i64 0, .slice none 0 0, .int .i64 0] 25 (0, 0))) = w8 at *
                  have s12 := hsp.out
                  clear hsp
                  have HWW := HWX
                  have HAA := HAX
                  have HUU := HUX
                  clear HWX HAX HUX
                  refine wpAnyH_ready (rs := [17]) (by kernel_rfl) (by simp) ?_
                  refine AllReadyH.cons rfl (fun K hK => ?_) AllReadyH.nil
                  have hba : Below w8.heap.size w8 (w8.alloc (.cells #[.int .u64 0, .int .i64 0, .slice none 0 0, .slice none 0 0, .int .i64 0] 29 (0, 0))) := (Below.refl _ _).alloc (Nat.le_refl _) _
                  have HWX : Hid (Below wr.heap.size wr (w8.alloc (.cells #[.int .u64 0, .int .i64 0, .slice none 0 0, .slice none 0 0, .int .i64 0] 29 (0, 0)))) := HWW.out.trans (hba.mono HWW.out.size)
                  have HAX : Hid (Cfo (w8.alloc (.cells #[.int .u64 0, .int .i64 0, .slice none 0 0, .slice none 0 0, .int .i64 0] 29 (0, 0))) 0 (.agg (carr re rs (.slice ai m ci) (.slice ab m cb) rle)) ⟨re, rs, rl, rle⟩) := HAA.out.later hba
                  have HUX : Hid (Rfr (w8.alloc (.cells #[.int .u64 0, .int .i64 0, .slice none 0 0, .slice none 0 0, .int .i64 0] 29 (0, 0))) (.agg (rarr re rs (.slice am m cm) rle)) ⟨re, rs, rl, rle⟩) := HUU.out.later hba
                  have HB10 : Hid ((w8.alloc (.cells #[.int .u64 0, .int .i64 0, .slice none 0 0, .slice none 0 0, .int .i64 0] 29 (0, 0))).heap[w8.heap.size]? = some (.cells #[.int .u64 0, .int .i64 0, .slice none 0 0, .slice none 0 0, .int .i64 0] 29 (0, 0))) := heap_alloc_new _ _
                  have hsp : Hid (wr.heap.size ≤ w8.heap.size) := HWW.out.size
                  have HB12X : Hid ((w8.alloc (.cells #[.int .u64 0, .int .i64 0, .slice none 0 0, .slice none 0 0, .int .i64 0] 29 (0, 0))).heap[p12]? = some (.cells #[.int .u64 0, .int .i64 0, .slice none 0 0, .int .i64 0] 25 (0, 0))) := heap_kept HB12.out hba
                  go_simp
                  refine hK.out _ _ (HS.out _ HWX.out) (fun hHeld => ?_)
                  clear hK K hba HWW HAA HUU
                  try simp only [Act.put, List.setIfInBounds_toArray, List.set_cons_zero, List.set_cons_succ]
                  generalize w8.heap.size = p10 at *
                  generalize (w8.alloc (.cells #[.int .u64 0, .int .i64 0, .slice none 0 0, .slice none 0 0, .int .i64 0] 29 (0, 0))) = w8' at *
                  have s10 := hsp.out
                  clear hsp
                  have HWW := HWX
                  have HAA := HAX
                  have HUU := HUX
                  clear HWX HAX HUX
                  clear HB12
                  have HB12 := HB12X
                  clear HB12X
                  have HNE : Hid (p12 ≠ p10) := block_ne (tagOf_heap HB12.out) (tagOf_heap HB10.out) (by decide)
                  obtain ⟨z0, z1, z2, z3, z4⟩ := five_cells HB10.out
                  obtain ⟨g0, g1, g2, g3, g4⟩ := five_frozen HB10.out
                  have HF5 : Hid ((put5 w8' p10 (.int .u64 (re : Nat)) (.int .i64 rs) (.slice ai m ci) (.slice ab m cb) (.int .i64 rle)).heap[p10]? = some (.cells (carr re rs (.slice ai m ci) (.slice ab m cb) rle) 29)) := five_put HB10.out
                  have HT5 : Hid ((put5 w8' p10 (.int .u64 (re : Nat)) (.int .i64 rs) (.slice ai m ci) (.slice ab m cb) (.int .i64 rle)).heap[p12]? = some (.cells #[.int .u64 0, .int .i64 0, .slice none 0 0, .int .i64 0] 25 (0, 0))) := (put5_other _ _ _ _ _ HNE.out).trans HB12.out
                  have HB5 : Hid (Below wr.heap.size wr (put5 w8' p10 (.int .u64 (re : Nat)) (.int .i64 rs) (.slice ai m ci) (.slice ab m cb) (.int .i64 rle))) := below_put5 HWW.out s10 _ _ _ _ _
                  have HK5 : Hid (∀ k, k ≠ p10 → (put5 w8' p10 (.int .u64 (re : Nat)) (.int .i64 rs) (.slice ai m ci) (.slice ab m cb) (.int .i64 rle)).heap[k]? = w8'.heap[k]?) := fun k hk => put5_other _ _ _ _ _ hk
                  unfold put5 at HF5 HT5 HB5 HK5
                  refine wpAnyH_ready (rs := [19]) (by kernel_rfl) (by simp) ?_
                  refine AllReadyH.cons rfl (fun K hK => ?_) AllReadyH.nil
                  go_simp
                  refine hK.out _ _ (HS.out _ HB5.out) (fun hHeld => ?_)
                  clear hK K hHeld
                  try simp only [Act.put, List.setIfInBounds_toArray, List.set_cons_zero, List.set_cons_succ]
                  generalize (((((w8'.setCell ⟨p10, 0, none⟩ (.int .u64 (re : Nat))).setCell ⟨p10, 1, none⟩ (.int .i64 rs)).setCell ⟨p10, 2, none⟩ (.slice ai m ci)).setCell ⟨p10, 3, none⟩ (.slice ab m cb)).setCell ⟨p10, 4, none⟩ (.int .i64 rle)) = w9 at *
                  clear z0 z1 z2 z3 z4 g0 g1 g2 g3 g4
                  refine wpAnyH_ready (rs := [20]) (by kernel_rfl) (by simp) ?_
                  refine AllReadyH.cons rfl (fun K hK => ?_) AllReadyH.nil
                  go_simp
                  refine hK.out _ _ (HS.out _ HB5.out) (fun hHeld => ?_)
                  clear hK K hHeld
                  try simp only [Act.put, List.setIfInBounds_toArray, List.set_cons_zero, List.set_cons_succ]
                  obtain ⟨z0, z1, z2, z3⟩ := four_cells HT5.out
                  obtain ⟨g0, g1, g2, g3⟩ := four_frozen HT5.out
                  have HF4 : Hid ((put4 w9 p12 (.int .u64 (re : Nat)) (.int .i64 rs) (.slice am m cm) (.int .i64 rle)).heap[p12]? = some (.cells (rarr re rs (.slice am m cm) rle) 25)) := four_put HT5.out
                  have HF6 : Hid ((put4 w9 p12 (.int .u64 (re : Nat)) (.int .i64 rs) (.slice am m cm) (.int .i64 rle)).heap[p10]? = some (.cells (carr re rs (.slice ai m ci) (.slice ab m cb) rle) 29)) := (put4_other _ _ _ _ (fun e => HNE.out e.symm)).trans HF5.out
                  have HB6 : Hid (Below wr.heap.size wr (put4 w9 p12 (.int .u64 (re : Nat)) (.int .i64 rs) (.slice am m cm) (.int .i64 rle))) := below_put4 HB5.out s12 _ _ _ _
                  have HK6 : Hid (∀ k, k ≠ p10 → k ≠ p12 → (put4 w9 p12 (.int .u64 (re : Nat)) (.int .i64 rs) (.slice am m cm) (.int .i64 rle)).heap[k]? = w8'.heap[k]?) := fun k h1 h2 => (put4_other _ _ _ _ h2).trans (HK5.out k h1)
                  unfold put4 at HF4 HF6 HB6 HK6
                  refine wpAnyH_ready (rs := [21]) (by kernel_rfl) (by simp) ?_
                  refine AllReadyH.cons rfl (fun K hK => ?_) AllReadyH.nil
                  go_simp
                  refine hK.out _ _ (HS.out _ HB6.out) (fun hHeld => ?_)
                  clear hK K hHeld
                  try simp only [Act.put, List.setIfInBounds_toArray, List.set_cons_zero, List.set_cons_succ]
                  generalize ((((w9.setCell ⟨p12, 0, none⟩ (.int .u64 (re : Nat))).setCell ⟨p12, 1, none⟩ (.int .i64 rs)).setCell ⟨p12, 2, none⟩ (.slice am m cm)).setCell ⟨p12, 3, none⟩ (.int .i64 rle)) = w10 at *
                  clear z0 z1 z2 z3 g0 g1 g2 g3
                  refine wpAnyH_ready (rs := [22]) (by kernel_rfl) (by simp) ?_
                  refine AllReadyH.cons rfl (fun K hK => ?_) AllReadyH.nil
                  go_simp
                  refine hK.out _ _ (HS.out _ HB6.out) (fun hHeld => ?_)
                  clear hK K hHeld
                  try simp only [Act.put, List.setIfInBounds_toArray, List.set_cons_zero, List.set_cons_succ]
                  refine wpAnyH_done (by kernel_rfl) ?_ _
                  refine NoPanic.normal ?_
                  have hkk : ∀ k t, tagOf w8' k = some t → t ≠ 29 → t ≠ 25 → w10.heap[k]? = w8'.heap[k]? := fun k t ht h1 h2 => HK6.out k (tag_ne HB10.out h1 ht) (tag_ne HB12.out h2 ht)
                  have HA10 : Hid (Cfo w10 0 (.agg (carr re rs (.slice ai m ci) (.slice ab m cb) rle)) ⟨re, rs, rl, rle⟩) := by
                    obtain ⟨va, vb, e, h1, h2, h3⟩ := HAA.out
                    exact ⟨va, vb, e, own_same h1 (fun k _ ht => hkk k 3 ht (by decide) (by decide)), own_same h2 (fun k _ ht => hkk k 4 ht (by decide) (by decide)), h3⟩
                  have HU10 : Hid (Rfr w10 (.agg (rarr re rs (.slice am m cm) rle)) ⟨re, rs, rl, rle⟩) := by
                    obtain ⟨am', cm', e, hm, h3⟩ := HUU.out
                    refine ⟨am', cm', e, ?_, h3⟩
                    by_cases h0 : 0 < rl.length
                    · obtain ⟨b9, off9, e9, hc⟩ := hm.at h0
                      subst e9
                      have n1 := hm.ne h0 HB10.out rfl
                      have n2 := hm.ne h0 HB12.out rfl
                      exact .inr ⟨b9, off9, rfl, fun i m hi => by rw [cell_same (HK6.out b9 n1 n2), cell_same (HK6.out b9 n1 n2)]; exact hc i m hi⟩
                    · exact .inl (show rl = [] from List.length_eq_zero_iff.1 (by omega))
                  have HB10' : Hid (Below w.heap.size w w10) := HB.out.trans (HB6.out.mono HB.out.size)
                  clear hkk HK5 HK6 HAA HUU HF5 HT5 HB5 HB10 HB12
                  have HO10 : Hid (w10.heap[p7]? = some (.cells (carr ep' sh' (.slice a1' n' c1') (.slice b1' n' d1') le') 29)) := heap_kept HO.out HB6.out
                  have HC10 : Hid (Cfo w10 0 (.agg (carr ep' sh' (.slice a1' n' c1') (.slice b1' n' d1') le')) ⟨ep', sh', l, le'⟩) := HC.out.later HB6.out
                  clear HB6 HF4 HU10 HNE HWW
                  by_cases hrn : rn = 0
                  · subst hrn
                    have hhe : Heir ⟨ep', sh', l, le'⟩ ⟨re, rs, rl, rle⟩ := heir_turn HRT.out HRR.out
                    have HE : Hid (Heir ⟨ep', sh', l, le'⟩ ⟨re, rs, rl, rle⟩) := hhe
                    have hep2 : re ≤ ep' + 1 := by have h1 := turn_ep (c := ⟨ep', sh', l, le'⟩) (kd := kd) (x := x) (e := ep' + 1) (by simp only; omega); rw [HRR.out] at h1; exact h1
                    have hm1 := (right_true hhe.right).few
                    simp only [HRLN.out] at hm1
                    have hm0 : 0 < m := by omega
                    have HHD : Hid (hd rl = true) := (right_true hhe.right).hd
                    obtain ⟨y0, hy0⟩ : ∃ y0, (nodes rl)[0]? = some y0 := ⟨_, List.getElem?_eq_getElem (by rw [nodes_length, HRLN.out]; omega)⟩
                    have HAT : Hid (atC ⟨re, rs, rl, rle⟩ 0 = y0) := by show atC _ _ = _; unfold atC; rw [if_pos ⟨hhe.right, by omega, by simp only [HRLN.out]; omega⟩]; show ((nodes rl)[0]?).getD 0 = y0; rw [hy0]; rfl
                    have hyin := hhe.head y0 hy0
                    obtain ⟨kp, hkp1, hkp2, _, _⟩ := plc_mem hyin
                    have HPL : Hid (placeC ⟨ep', sh', l, le'⟩ y0 = (kp : Int)) := by show (if _ then _ else _) = _; rw [if_pos HRT.out]; exact hkp2
                    clear hyin hkp1 hkp2 hy0 hhe
                    obtain ⟨xa, xc, xb, xd, exx, hvi, hvb, -⟩ := HA10.out.read
                    simp only [HRLN.out] at exx hvi hvb
                    simp only [Value.agg.injEq, Array.mk.injEq, List.cons.injEq, Value.slice.injEq] at exx
                    obtain ⟨-, -, ⟨rfl, -, rfl⟩, ⟨rfl, -, rfl⟩, -⟩ := exx
                    have HVI : Hid (Vals w10 ai m (rl.map mi)) := hvi
                    obtain ⟨bf, of_, rfl, hcf⟩ := hvb.at (by omega)
                    have hf0 : w10.cell? ⟨bf, of_, none⟩ = some (.bool true) := by
                      have hl0 : 0 < rl.length := by rw [HRLN.out]; omega
                      have := hcf 0 (.bool (hd rl)) (by rw [List.getElem?_map, List.getElem?_eq_getElem hl0]; cases rl with | nil => simp at hl0 | cons mm tt => rfl)
                      rw [HHD.out] at this
                      simpa using this
                    clear hvi hvb hcf
                    obtain ⟨x0, x1, x2, x3, x4⟩ := five_cells HF6.out
                    obtain ⟨q0, q1, q2, q3, q4⟩ := five_cells HO10.out
                    have hrr := right_any _ _ _ (HA10.out.read.later (Below.refl _ w10).drew)
                    rw [HE.out.right] at hrr
                    go_upto_region 10 with fail
                    refine wp_region_noPanic ?_
                    refine wp_region_held_drew (S := fun w' => (w'.cell? ⟨p10, 0, none⟩ = some (.int .u64 (re : Nat)) ∧ w'.cell? ⟨p10, 1, none⟩ = some (.int .i64 rs) ∧ w'.cell? ⟨p10, 2, none⟩ = some (.slice ai m ci) ∧ w'.cell? ⟨p10, 3, none⟩ = some (.slice (some ⟨bf, of_, none⟩) m cb) ∧ w'.cell? ⟨p10, 4, none⟩ = some (.int .i64 rle)) ∧ (w'.cell? ⟨p7, 0, none⟩ = some (.int .u64 (ep' : Nat)) ∧ w'.cell? ⟨p7, 1, none⟩ = some (.int .i64 sh') ∧ w'.cell? ⟨p7, 2, none⟩ = some (.slice a1' n' c1') ∧ w'.cell? ⟨p7, 3, none⟩ = some (.slice b1' n' d1') ∧ w'.cell? ⟨p7, 4, none⟩ = some (.int .i64 le')) ∧ w'.cell? ⟨bf, of_, none⟩ = some (.bool true)) (by kernel_rfl) ?_ (fun hHeld => ?_)
                    · exact ⟨⟨x0, x1, x2, x3, x4⟩, ⟨q0, q1, q2, q3, q4⟩, hf0⟩
                    refine held_take (i := 0) (d := 63) (v := ?_) rfl rfl (by kernel_rfl) (by kernel_rfl) (by kernel_rfl) (fun _ _ _ h => h) (Or.inl ⟨by rfl, ?_⟩) hHeld ?_
                    rotate_left
                    · (intro w hSw; (try dsimp only at hSw); go_simp; all_goals (with_reducible rfl))
                    try simp only [Act.put, List.setIfInBounds_toArray, List.set_cons_zero, List.set_cons_succ]
                    refine wpAnyH_ready (rs := [1]) (by kernel_rfl) (by simp) ?_
                    refine AllReadyH.cons rfl (fun K hK => ?_) AllReadyH.nil
                    go_simp
                    refine hrr.mono ?_
                    rintro e w11 ⟨rfl, hb11⟩
                    have b11 : Below w10.heap.size w10 w11 := (Below.refl _ w10).drew.trans hb11
                    have hO11 := heap_kept HO10.out b11
                    have hF11 := heap_kept HF6.out b11
                    have hf11 := cell_later b11 hf0
                    have hhh := head_any _ _ _ (HA10.out.read.later b11)
                    rw [HAT.out] at hhh
                    go_wp2_with fail
                    refine hK.out _ _ ?_ (fun hHeld => ?_)
                    · exact ⟨five_cells hF11, five_cells hO11, hf11⟩
                    clear hK K
                    try simp only [Act.put, List.setIfInBounds_toArray, List.set_cons_zero, List.set_cons_succ]
                    refine held_take (i := 2) (d := 65) (v := ?_) rfl rfl (by kernel_rfl) (by kernel_rfl) (by kernel_rfl) (fun _ _ _ h => h) (Or.inl ⟨by rfl, ?_⟩) hHeld ?_
                    rotate_left
                    · (intro w hSw; (try dsimp only at hSw); go_simp; all_goals (with_reducible rfl))
                    try simp only [Act.put, List.setIfInBounds_toArray, List.set_cons_zero, List.set_cons_succ]
                    refine held_take (i := 3) (d := 66) (v := ?_) rfl rfl (by kernel_rfl) (by kernel_rfl) (by kernel_rfl) (fun _ _ _ h => h) (Or.inl ⟨by rfl, ?_⟩) hHeld ?_
                    rotate_left
                    · (intro w hSw; (try dsimp only at hSw); go_simp; all_goals (with_reducible rfl))
                    try simp only [Act.put, List.setIfInBounds_toArray, List.set_cons_zero, List.set_cons_succ]
                    refine held_take (i := 4) (d := 67) (v := ?_) rfl rfl (by kernel_rfl) (by kernel_rfl) (by kernel_rfl) (fun _ _ _ h => h) (Or.inl ⟨by rfl, ?_⟩) hHeld ?_
                    rotate_left
                    · (intro w hSw; (try dsimp only at hSw); go_simp; all_goals (with_reducible rfl))
                    try simp only [Act.put, List.setIfInBounds_toArray, List.set_cons_zero, List.set_cons_succ]
                    refine held_take (i := 5) (d := 68) (v := ?_) rfl rfl (by kernel_rfl) (by kernel_rfl) (by kernel_rfl) (fun _ _ _ h => h) (Or.inl ⟨by rfl, ?_⟩) hHeld ?_
                    rotate_left
                    · (intro w hSw; (try dsimp only at hSw); go_simp; all_goals (with_reducible rfl))
                    try simp only [Act.put, List.setIfInBounds_toArray, List.set_cons_zero, List.set_cons_succ]
                    refine held_take (i := 6) (d := 69) (v := ?_) rfl rfl (by kernel_rfl) (by kernel_rfl) (by kernel_rfl) (fun _ _ _ h => h) (Or.inl ⟨by rfl, ?_⟩) hHeld ?_
                    rotate_left
                    · (intro w hSw; (try dsimp only at hSw); go_simp; all_goals (with_reducible rfl))
                    try simp only [Act.put, List.setIfInBounds_toArray, List.set_cons_zero, List.set_cons_succ]
                    refine held_take (i := 7) (d := 70) (v := ?_) rfl rfl (by kernel_rfl) (by kernel_rfl) (by kernel_rfl) (fun _ _ _ h => h) (Or.inl ⟨by rfl, ?_⟩) hHeld ?_
                    rotate_left
                    · (intro w hSw; (try dsimp only at hSw); go_simp; all_goals (with_reducible rfl))
                    try simp only [Act.put, List.setIfInBounds_toArray, List.set_cons_zero, List.set_cons_succ]
                    refine held_take (i := 8) (d := 71) (v := ?_) rfl rfl (by kernel_rfl) (by kernel_rfl) (by kernel_rfl) (fun _ _ _ h => h) (Or.inl ⟨by rfl, ?_⟩) hHeld ?_
                    rotate_left
                    · (intro w hSw; (try dsimp only at hSw); go_simp; all_goals (with_reducible rfl))
                    try simp only [Act.put, List.setIfInBounds_toArray, List.set_cons_zero, List.set_cons_succ]
                    refine held_take (i := 9) (d := 72) (v := ?_) rfl rfl (by kernel_rfl) (by kernel_rfl) (by kernel_rfl) (fun _ _ _ h => h) (Or.inl ⟨by rfl, ?_⟩) hHeld ?_
                    rotate_left
                    · (intro w hSw; (try dsimp only at hSw); go_simp; all_goals (with_reducible rfl))
                    try simp only [Act.put, List.setIfInBounds_toArray, List.set_cons_zero, List.set_cons_succ]
                    refine held_take (i := 10) (d := 73) (v := ?_) rfl rfl (by kernel_rfl) (by kernel_rfl) (by kernel_rfl) (fun _ _ _ h => h) (Or.inl ⟨by rfl, ?_⟩) hHeld ?_
                    rotate_left
                    · (intro w hSw; (try dsimp only at hSw); go_simp; all_goals (with_reducible rfl))
                    try simp only [Act.put, List.setIfInBounds_toArray, List.set_cons_zero, List.set_cons_succ]
                    refine held_take (i := 11) (d := 74) (v := ?_) rfl rfl (by kernel_rfl) (by kernel_rfl) (by kernel_rfl) (fun _ _ _ h => h) (Or.inl ⟨by rfl, ?_⟩) hHeld ?_
                    rotate_left
                    · (intro w hSw; (try dsimp only at hSw); go_simp; all_goals (with_reducible rfl))
                    try simp only [Act.put, List.setIfInBounds_toArray, List.set_cons_zero, List.set_cons_succ]
                    refine held_take (i := 12) (d := 75) (v := ?_) rfl rfl (by kernel_rfl) (by kernel_rfl) (by kernel_rfl) (fun _ _ _ h => h) (Or.inl ⟨by rfl, ?_⟩) hHeld ?_
                    rotate_left
                    · (intro w hSw; (try dsimp only at hSw); go_simp; all_goals (with_reducible rfl))
                    try simp only [Act.put, List.setIfInBounds_toArray, List.set_cons_zero, List.set_cons_succ]
                    refine wpAnyH_ready (rs := [13]) (by kernel_rfl) (by simp) ?_
                    refine AllReadyH.cons rfl (fun K hK => ?_) AllReadyH.nil
                    go_simp
                    refine hhh.mono ?_
                    rintro e w12 ⟨rfl, hb12⟩
                    have b12 := b11.trans (hb12.mono b11.size)
                    have hO12 := heap_kept hO11 hb12
                    have hF12 := heap_kept hF11 hb12
                    have hf12 := cell_later hb12 hf11
                    have hpp := place_any _ _ y0 _ (HC10.out.read.later b12)
                    rw [HPL.out] at hpp
                    go_wp2_with fail
                    refine hK.out _ _ ?_ (fun hHeld => ?_)
                    · exact ⟨five_cells hF12, five_cells hO12, hf12⟩
                    clear hK K
                    try simp only [Act.put, List.setIfInBounds_toArray, List.set_cons_zero, List.set_cons_succ]
                    refine wpAnyH_ready (rs := [14]) (by kernel_rfl) (by simp) ?_
                    refine AllReadyH.cons rfl (fun K hK => ?_) AllReadyH.nil
                    go_simp
                    refine hpp.mono ?_
                    rintro e w13 ⟨rfl, hb13⟩
                    have b13 := b12.trans (hb13.mono b12.size)
                    have hO13 := heap_kept hO12 hb13
                    have hF13 := heap_kept hF12 hb13
                    have hf13 := cell_later hb13 hf12
                    have hk0 : decide ((kp : Int) < 0) = false := by rw [decide_eq_false_iff_not]; omega
                    go_wp2_with fail
                    refine hK.out _ _ ?_ (fun hHeld => ?_)
                    · exact ⟨five_cells hF13, five_cells hO13, hf13⟩
                    clear hK K
                    try simp only [Act.put, List.setIfInBounds_toArray, List.set_cons_zero, List.set_cons_succ]
                    refine held_take (i := 15) (d := 78) (v := ?_) rfl rfl (by kernel_rfl) (by kernel_rfl) (by kernel_rfl) (fun _ _ _ h => h) (Or.inl ⟨by rfl, ?_⟩) hHeld ?_
                    rotate_left
                    · (intro w hSw; (try dsimp only at hSw); go_simp; all_goals (with_reducible rfl))
                    try simp only [Act.put, List.setIfInBounds_toArray, List.set_cons_zero, List.set_cons_succ]
                    refine held_take (i := 16) (d := 79) (v := ?_) rfl rfl (by kernel_rfl) (by kernel_rfl) (by kernel_rfl) (fun _ _ _ h => h) (Or.inl ⟨by rfl, ?_⟩) hHeld ?_
                    rotate_left
                    · (intro w hSw; (try dsimp only at hSw); go_simp; all_goals (with_reducible rfl))
                    try simp only [Act.put, List.setIfInBounds_toArray, List.set_cons_zero, List.set_cons_succ]
                    refine wpAnyH_done (by kernel_rfl) ?_ _
                    refine NoPanic.normal ?_
                    have HO13 : Hid (w13.heap[p7]? = some (.cells (carr ep' sh' (.slice a1' n' c1') (.slice b1' n' d1') le') 29)) := hO13
                    have HF13 : Hid (w13.heap[p10]? = some (.cells (carr re rs (.slice ai m ci) (.slice (some ⟨bf, of_, none⟩) m cb) rle) 29)) := hF13
                    have HA13 : Hid (Cfo w13 0 (.agg (carr re rs (.slice ai m ci) (.slice (some ⟨bf, of_, none⟩) m cb) rle)) ⟨re, rs, rl, rle⟩) := HA10.out.later b13
                    have HC13 : Hid (Cfo w13 0 (.agg (carr ep' sh' (.slice a1' n' c1') (.slice b1' n' d1') le')) ⟨ep', sh', l, le'⟩) := HC10.out.later b13
                    have HB13 : Hid (Below w.heap.size w w13) := HB10'.out.trans (b13.mono HB10'.out.size)
                    have HV13 : Hid (Vals w13 ai m (rl.map mi)) := HVI.out.later b13
                    clear hO11 hO12 hF11 hF12 hf11 hf12 hf13 hb11 hb12 hb13 b11 b12 b13 x0 x1 x2 x3 x4 q0 q1 q2 q3 q4 hf0 HA10 HC10 HVI HF6 HO10 HB10' hO13 hF13 hrr hhh hpp hHeld
                    obtain ⟨x0, x1, x2, x3, x4⟩ := five_cells HF13.out
                    go_wp2
                    clear x0 x1 x2 x3 x4 hk0
                    generalize wr = wo at *
                    go_loopw [14, 83] (fun la j wq => ∃ (jn : Nat) (last : Int), jn ≤ m ∧ j = .int .i64 (jn : Nat) ∧ la = .int .i64 last ∧ -1 ≤ last ∧ last ≤ 100 ∧ Hid (∀ (i : Nat) y, jn ≤ i → (nodes rl)[i]? = some y → 0 ≤ plc (nodes l) y → last ≤ plc (nodes l) y) ∧ Hid (Below w13.heap.size w13 wq)) (fun _ j _ => m - (intOf j).toNat)
                    case atStart => exact ⟨0, -1, Nat.zero_le _, rfl, rfl, by omega, by omega, fun i y _ _ h => by omega, Below.refl _ _⟩
                    case round =>
                      obtain ⟨jn, last, hj, rfl, rfl, hla1, hla2, HORD, HBQ⟩ := hrel
                      have HOQ : Hid (wr.heap[p7]? = some (.cells (carr ep' sh' (.slice a1' n' c1') (.slice b1' n' d1') le') 29)) := heap_kept HO13.out HBQ.out
                      have HFQ : Hid (wr.heap[p10]? = some (.cells (carr re rs (.slice ai m ci) (.slice (some ⟨bf, of_, none⟩) m cb) rle) 29)) := heap_kept HF13.out HBQ.out
                      have HBWQ : Hid (Below w.heap.size w wr) := HB13.out.trans (HBQ.out.mono HB13.out.size)
                      by_cases hjm : jn < m
                      · obtain ⟨bi, oi, rfl, hci⟩ := (HV13.out.later HBQ.out).at (by omega)
                        have hjl : jn < rl.length := by rw [HRLN.out]; exact hjm
                        have e0 := hci jn (.int .i64 rl[jn].1) (by simp [hjl, mi])
                        have hyn : (nodes rl)[jn]? = some rl[jn].1 := nodes_at (List.getElem?_eq_getElem hjl)
                        generalize rl[jn].1 = y at e0 hyn
                        have HYN : Hid ((nodes rl)[jn]? = some y) := hyn
                        clear hci hyn hjl
                        have hpl := place_any _ _ y _ (HC13.out.read.later HBQ.out)
                        have hpe : placeC ⟨ep', sh', l, le'⟩ y = plc (nodes l) y := by show (if _ then _ else _) = _; rw [if_pos HRT.out]
                        rw [hpe] at hpl
                        clear hpe
                        have hbd := plc_bd (nodes l) y
                        rw [nodes_length, HLN.out] at hbd
                        obtain ⟨at_, hat⟩ : ∃ q, q = plc (nodes l) y := ⟨_, rfl⟩
                        rw [← hat] at hpl hbd
                        have HATY : Hid (at_ = plc (nodes l) y) := hat
                        clear hat
                        obtain ⟨q0, q1, q2, q3, q4⟩ := five_cells HOQ.out
                        go_wp2_with fail
                        refine hpl.mono ?_
                        clear hpl q0 q1 q2 q3 q4 e0
                        rintro e w20 ⟨rfl, hb20⟩
                        have HB20 : Hid (Below w13.heap.size w13 w20) := HBQ.out.trans (hb20.mono HBQ.out.size)
                        clear hb20
                        by_cases hneg : at_ < 0
                        · go_wp2
                          go_roundw
                          case rel => exact ⟨jn + 1, last, by omega, by go_num, rfl, hla1, hla2, fun i yy h1 => HORD.out i yy (by omega), HB20⟩
                          case measure => simp [intOf]; omega
                        · have h0at : 0 ≤ at_ := by omega
                          have hge : last ≤ at_ := by rw [HATY.out]; exact HORD.out jn y (Nat.le_refl _) HYN.out (by rw [← HATY.out]; omega)
                          have HN : Hid (∀ (i : Nat) yy, jn + 1 ≤ i → (nodes rl)[i]? = some yy → 0 ≤ plc (nodes l) yy → at_ ≤ plc (nodes l) yy) := fun i yy h1 h2 h3 => by
                            have ho := HE.out.order
                            rw [List.pairwise_iff_getElem] at ho
                            obtain ⟨hi1, hi2⟩ := List.getElem?_eq_some_iff.1 h2
                            obtain ⟨hj1, hj3⟩ := List.getElem?_eq_some_iff.1 HYN.out
                            have h9 := ho jn i hj1 hi1 (by omega)
                            simp only [hi2, hj3] at h9
                            rw [HATY.out]
                            exact h9 (by rw [← HATY.out]; omega) h3
                          go_wp2
                          go_roundw
                          case rel => exact ⟨jn + 1, at_, by omega, by go_num, rfl, by omega, by omega, HN, HB20⟩
                          case measure => simp [intOf]; omega
                      · have HSn : Hid (Hs w (put5 wr p7 (.int .u64 (re : Nat)) (.int .i64 rs) (.slice ai m ci) (.slice (some ⟨bf, of_, none⟩) m cb) (.int .i64 rle)) p7 (k + 1)) := by
                          refine ⟨below_put5 HBWQ.out HP7.out _ _ _ _ _, ⟨re, rs, rl, rle⟩, ai, ci, some ⟨bf, of_, none⟩, cb, HE.out.right, by show re ≤ 1000000 + (k + 1); omega, ?_, ?_⟩
                          · show _ = some (Obj.cells (carr re rs (.slice ai rl.length ci) (.slice (some ⟨bf, of_, none⟩) rl.length cb) rle) 29)
                            rw [HRLN.out]
                            exact five_put HOQ.out
                          · show Cfo _ _ (.agg (carr re rs (.slice ai rl.length ci) (.slice (some ⟨bf, of_, none⟩) rl.length cb) rle)) _
                            rw [HRLN.out]
                            obtain ⟨va, vb, ev, h1, h2, h3⟩ := HA13.out.later HBQ.out
                            exact ⟨va, vb, ev, own_same h1 (fun k _ ht => put5_other _ _ _ _ _ (tag_ne HOQ.out (by decide) ht)), own_same h2 (fun k _ ht => put5_other _ _ _ _ _ (tag_ne HOQ.out (by decide) ht)), h3⟩
                        unfold put5 at HSn
                        obtain ⟨q0, q1, q2, q3, q4⟩ := five_cells HOQ.out
                        obtain ⟨g0, g1, g2, g3, g4⟩ := five_frozen HOQ.out
                        obtain ⟨x0, x1, x2, x3, x4⟩ := five_cells HFQ.out
                        clear HORD
                        go_wp2
                        go_roundw
                        case rel => exact ⟨k + 1, by omega, by omega, by go_num, HSn⟩
                        case measure => simp [intOf]; omega
                  · have hnb : (rn != 0) = true := by simp [hrn]
                    have HSn : Hid (Hs w w10 p7 (k + 1)) := ⟨HB10'.out, ⟨ep', sh', l, le'⟩, a1', c1', b1', d1', HRT.out, by show ep' ≤ 1000000 + (k + 1); omega, by show _ = some (Obj.cells (carr ep' sh' (.slice a1' l.length c1') (.slice b1' l.length d1') le') 29); rw [HLN.out]; exact HO10.out, by show Cfo _ _ (.agg (carr ep' sh' (.slice a1' l.length c1') (.slice b1' l.length d1') le')) _; rw [HLN.out]; exact HC10.out⟩
                    clear HRR hrn
                    go_wp2
                    go_roundw
                    case rel => exact ⟨k + 1, by omega, by omega, by go_num, HSn⟩
                    case measure => simp [intOf]; omega
          | false =>
            right
            obtain ⟨m9, rfl⟩ : ∃ m9, nn = m9 + 1 := by
              refine ⟨nn - 1, ?_⟩
              have hb : ∀ b : Bool, b.toNat ≤ 1 := fun b => by cases b <;> simp
              have h1 := hb l2; have h8 := hb l12; have h9 := hb l13
              simp only [Bool.toNat_false] at hn
              omega
            refine ⟨m9, rfl, ?_, ?_⟩
            · clear o62 f2 f6 g12 g13 hbw hn
              revert l2 l12 l13
              decide +kernel
            · intro i hi
              have hcase : (i = 2 ∧ l2 = false) ∨ (i = 17 ∧ l12 = false) ∨ (i = 18 ∧ l13 = false) ∨ (i = 11 ∧ l2 = true) := by
                refine of_decide_eq_true (List.all_eq_true.1 (?_ : List.all _ (fun i => decide ((i = 2 ∧ l2 = false) ∨ (i = 17 ∧ l12 = false) ∨ (i = 18 ∧ l13 = false) ∨ (i = 11 ∧ l2 = true))) = true) i hi)
                clear hi o62 f2 f6 g12 g13 hbw hn
                revert l2 l12 l13
                decide +kernel
              clear hi
              rcases hcase with ⟨rfl, rfl⟩ | ⟨rfl, rfl⟩ | ⟨rfl, rfl⟩ | ⟨rfl, rfl⟩
              · have hcc := HC.out.read.later hbw
                refine wpOp_shut rfl (fun K hK => ?_)
                go_simp
                refine (plain_any _ _ _ hcc (by show l.length ≤ 900; rw [HLN.out]; omega)).mono ?_
                rintro e w5 ⟨⟨vq, rfl, hvq⟩, hb5⟩
                have hb6 := hbw.trans (hb5.mono hbw.size)
                have hqq := hvq.read
                obtain ⟨xq, yq, rfl, hL, -⟩ := hvq.read
                simp only at hqq hL ⊢
                rw [HLN.out] at hqq ⊢
                have hq : Rfr w5 (.agg (rarr ep' sh' (.slice xq n' yq) le')) ⟨ep', sh', l, le'⟩ := hqq
                go_wp2_with fail
                exact hK.out _ _ ⟨HS.out _ hb6, true, false, l12, l13, v10, v12, (.agg (rarr ep' sh' (.slice xq n' yq) le')), v23, ai, ab, am, xq, ci, cb, cm, yq, by simp only [Bool.toNat_true, Bool.toNat_false] at hn ⊢; omega, rfl, rfl, (fun h => by cases h), fun _ => ⟨rfl, hq⟩, (fun h => by cases h), g12.later hb5, g13.later hb5, hb6⟩
              · have hb5 : Below w'.heap.size w' (w'.alloc (.cells #[.int .u64 0, .int .i64 0, .slice none 0 0, .slice none 0 0, .int .i64 0] 29 (0, 0))) := (Below.refl _ _).alloc (Nat.le_refl _) _
                have hb6 := hbw.trans (hb5.mono hbw.size)
                refine wpOp_shut rfl (fun K hK => ?_)
                go_simp
                exact hK.out _ _ ⟨HS.out _ hb6, l2, false, true, l13, .pointer (some ⟨w'.heap.size, 0, none⟩), v12, v19, v23, ai, ab, am, aq, ci, cb, cm, cq, by simp only [Bool.toNat_true, Bool.toNat_false] at hn ⊢; omega, rfl, rfl, (fun h => by cases h), fun h => ⟨(f2 h).1, (f2 h).2.later hb5⟩, (fun h => by cases h), Blk.new _ _ _ _ hbw.size, g13.later hb5, hb6⟩
              · have hb5 : Below w'.heap.size w' (w'.alloc (.cells #[.int .u64 0, .int .i64 0, .slice none 0 0, .int .i64 0] 25 (0, 0))) := (Below.refl _ _).alloc (Nat.le_refl _) _
                have hb6 := hbw.trans (hb5.mono hbw.size)
                refine wpOp_shut rfl (fun K hK => ?_)
                go_simp
                exact hK.out _ _ ⟨HS.out _ hb6, l2, false, l12, true, v10, .pointer (some ⟨w'.heap.size, 0, none⟩), v19, v23, ai, ab, am, aq, ci, cb, cm, cq, by simp only [Bool.toNat_true, Bool.toNat_false] at hn ⊢; omega, rfl, rfl, (fun h => by cases h), fun h => ⟨(f2 h).1, (f2 h).2.later hb5⟩, (fun h => by cases h), g12.later hb5, Blk.new _ _ _ _ hbw.size, hb6⟩
              · obtain ⟨rfl, hr2⟩ := f2 rfl
                have hcc := HC.out.read.later hbw
                have htt := turn_any _ _ _ kd x (ep' + 1) _ hcc hr2 (by show l.length ≤ 900; rw [HLN.out]; omega)
                rw [HRR.out, hepc] at htt
                refine wpOp_shut rfl (fun K hK => ?_)
                go_simp
                refine htt.mono ?_
                rintro e w5 ⟨⟨va, vu, rfl, hva, hvu⟩, hb5⟩
                have hb6 := hbw.trans (hb5.mono hbw.size)
                have hva' := hva
                have hvu' := hvu
                obtain ⟨xa, xb, rfl, ho1, ho2, -⟩ := hva
                obtain ⟨am', cm', rfl, hmr, -⟩ := hvu
                have ho1' := ho1.shape
                have ho2' := ho2.shape
                obtain ⟨ai', ci', rfl, -⟩ := ho1'
                obtain ⟨ab', cb', rfl, -⟩ := ho2'
                simp only [List.length_map] at hva' hvu' ⊢
                rw [HRLN.out] at hva' hvu' ⊢
                have hA : Cfo w5 0 (.agg (carr re rs (.slice ai' m ci') (.slice ab' m cb') rle)) ⟨re, rs, rl, rle⟩ := hva'
                have hU : Rfr w5 (.agg (rarr re rs (.slice am' m cm') rle)) ⟨re, rs, rl, rle⟩ := hvu'
                go_wp2_with fail
                exact hK.out _ _ ⟨HS.out _ hb6, true, true, l12, l13, v10, v12, (.agg (rarr ep' sh' (.slice aq n' cq) le')), (.tuple #[(.agg (carr re rs (.slice ai' m ci') (.slice ab' m cb') rle)), .int .i64 rn, (.agg (rarr re rs (.slice am' m cm') rle)), .int .i64 rn]), ai', ab', am', aq, ci', cb', cm', cq, by simp only [Bool.toNat_true, Bool.toNat_false] at hn ⊢; omega, rfl, rfl, fun _ => rfl, fun _ => ⟨rfl, hr2.later hb5⟩, fun _ => ⟨rfl, hA, hU⟩, g12.later hb5, g13.later hb5, hb6⟩
        · go_wp2_with fail
          refine (awake_any wr).mono ?_
          rintro e w4 ⟨rfl, hb4⟩
          have HB4 : Hid (Below w.heap.size w w4) := HB.out.trans (hb4.mono HB.out.size)
          clear hb4
          go_wp2
          go_ret
          exact ⟨rfl, HB4.out⟩

/-! From the call to the statement. -/
set_option maxRecDepth 100000 in
theorem lifted (os : Os) (started : os.Started) (H : Type) (enc : TypeId × Value → H) :
    ReturnsInHanded {} Try.checked os 5 .any (Rows.confHeirsSpec.pre6 enc Try.prog Try.f5 Rows.confHeirsRow.domain false) (Rows.confHeirsSpec.post enc Try.prog Try.f5 false true false false) := by
  refine returnsInHanded_of_change (C := Try.checked) own started (by kernel_rfl) Try.func5
    (ChangeSpec.witness6 (enc := enc) (C := Try.checked) false ⟨#[], #[.agg #[.int .u64 0, .int .i64 0, .slice none 0 0, .int .i64 0], .slice none 0 0, .slice none 0 0], []⟩ 8 (by kernel_rfl) (by kernel_rfl) (by kernel_rfl) (by kernel_rfl)) ?_
  intro W base args ds gs before hval0 hW hcnd _
  have hval : ∀ (j : Nat) t v, Try.f5.params[j]? = some t → args[j]? = some v → Value.okWide Try.prog W .any base t v := hval0
  have hW' := hW
  obtain ⟨p, q, hA0, hV, rfl, hfz, hnd⟩ := hW
  have hA : DataW.TrodAll enc Try.prog W 0 (fun _ => true) true Try.f5.params.toList args.toList ds p := hA0
  rw [Try.params5] at hA hval
  obtain ⟨v0, vs0, d0, ds0, p0, q0, hargs, rfl, rfl, h0, r0⟩ := trodAll_cons hA
  obtain ⟨v1, vs1, d1, ds1, p1, q1, rfl, rfl, rfl, h1, r1⟩ := trodAll_cons r0
  obtain ⟨v2, vs2, d2, ds2, p2, q2, rfl, rfl, rfl, h2, r2⟩ := trodAll_cons r1
  obtain ⟨rfl, rfl, rfl⟩ := trodAll_nil r2
  obtain rfl : args = #[v0, v1, v2] := by cases args; simp_all
  obtain ⟨rfl, rfl⟩ := trodVars_none hV
  have k0 := h0
  have lt0 : ∀ x ∈ p0, x.block < W.heap.size := by obtain ⟨m, hm⟩ := k0; exact DataW.trod_lt m _ _ _ hm
  obtain ⟨i0, rfl, w0⟩ := open_in (hval 0 25 v0 rfl rfl) h0
  obtain ⟨a1, len1, cap1, rfl⟩ := okWide_slice Try.underlying26 (hval 1 26 v1 rfl rfl)
  have k1 := h1
  have lt1 : ∀ x ∈ p1, x.block < W.heap.size := by obtain ⟨m, hm⟩ := k1; exact DataW.trod_lt m _ _ _ hm
  obtain ⟨z1, w1⟩ : ∃ zs, IsRow .i64 W a1 len1 cap1 zs := by
    obtain ⟨fuel, hf⟩ := h1
    rcases open_ints Try.underlying26 Try.underlying3 (by kernel_rfl) hf with ⟨hcs, _⟩ | ⟨x, l, c, zs, hcs, _, hl, hm, hz, _, hcell, hwz⟩
    · simp [Value.cells] at hcs
      obtain ⟨rfl, rfl, rfl⟩ := hcs
      exact ⟨[], .inl ⟨rfl, rfl, rfl, rfl⟩⟩
    · simp [Value.cells] at hcs
      obtain ⟨rfl, rfl, rfl⟩ := hcs
      exact ⟨zs, .inr ⟨_, rfl, hl, hm, by simpa using hz, hcell, hwz⟩⟩
  obtain ⟨a2, len2, cap2, rfl⟩ := okWide_slice Try.underlying26 (hval 2 26 v2 rfl rfl)
  have k2 := h2
  have lt2 : ∀ x ∈ p2, x.block < W.heap.size := by obtain ⟨m, hm⟩ := k2; exact DataW.trod_lt m _ _ _ hm
  obtain ⟨z2, w2⟩ : ∃ zs, IsRow .i64 W a2 len2 cap2 zs := by
    obtain ⟨fuel, hf⟩ := h2
    rcases open_ints Try.underlying26 Try.underlying3 (by kernel_rfl) hf with ⟨hcs, _⟩ | ⟨x, l, c, zs, hcs, _, hl, hm, hz, _, hcell, hwz⟩
    · simp [Value.cells] at hcs
      obtain ⟨rfl, rfl, rfl⟩ := hcs
      exact ⟨[], .inl ⟨rfl, rfl, rfl, rfl⟩⟩
    · simp [Value.cells] at hcs
      obtain ⟨rfl, rfl, rfl⟩ := hcs
      exact ⟨zs, .inr ⟨_, rfl, hl, hm, by simpa using hz, hcell, hwz⟩⟩
  clear hA0 hval0
  refine (walk i0 a1 len1 cap1 z1 a2 len2 cap2 z2 W w0 w1 w2).mono fun e W' ⟨he, bel⟩ => ?_
  subst he
  exact ⟨_, rfl, _, _, _, [], _, [], hW', trodAll_mk1 (shut_bool Try.underlying4 _), (trodAll_cons_mk (Below.trod laidOut (by kernel_rfl) (of_decide_eq_true (by kernel_rfl)) k0 bel lt0) (trodAll_cons_mk (Below.trod laidOut (by kernel_rfl) (of_decide_eq_true (by kernel_rfl)) k1 bel lt1) (trodAll_cons_mk (Below.trod laidOut (by kernel_rfl) (of_decide_eq_true (by kernel_rfl)) k2 bel lt2) trodAll_mk0))), rfl, bel.frame _, fun h => by cases h⟩

theorem over : Rows.confHeirsRow.holds Try.pinned (OpenSpec.ofChange Rows.confHeirsSpec) :=
  OpenClaim.holds_of_wide 5 Try.f5 rfl rfl rfl rfl rfl rfl rfl ⟨rfl, rfl, rfl, rfl, rfl⟩ rfl rfl rfl rfl rfl (by kernel_rfl) Try.func5 (by kernel_rfl)
    (of_decide_eq_true (by kernel_rfl)) (by unfold Func.isWrapper; first | (rw [if_pos (by decide +kernel)]; kernel_rfl) | (rw [if_neg (by decide +kernel)]; exact ⟨rfl, rfl⟩))
    (fun os started H enc _ => lifted os started H enc)
end Go.Proofs.Ytgpjplpfjghcgaa.confHeirs
namespace Go.Proofs.Ytgpjplpfjghcgaa
theorem confHeirs_holds : Rows.ConfHeirsSaid := confHeirs.over
#print axioms confHeirs_holds
end Go.Proofs.Ytgpjplpfjghcgaa
