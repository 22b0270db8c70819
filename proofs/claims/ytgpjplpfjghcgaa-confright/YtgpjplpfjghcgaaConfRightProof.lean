/-
  Whatever configuration and number come in, sautoirlaw16.ConfRight returns true, and leaves its arguments as they were.
-/
import Derived.Test.YtgpjplpfjghcgaaRows
import Derived.Test.YtgpjplpfjghcgaaCoG
import Derived.Test.YtgpjplpfjghcgaaCoJ
import Derived.Test.YtgpjplpfjghcgaaCoQ
import Derived.WalkKit
import Derived.ProofKit
import Derived.OpenShut
import Derived.ShutString
import Derived.ChangeOld
import Derived.Below
namespace Go.Proofs.Ytgpjplpfjghcgaa.confRight
open Go.ChangeShapes Go.WideShapes Go.ChangeAt Go.RowKit
open Go.ChangeMaps (open_string shut_string)
set_option linter.unusedSimpArgs false
set_option linter.unusedVariables false

theorem own : ownKnob Try.prog.godebug = none := by kernel_rfl
theorem laidOut : laidOutB Try.prog = true := by kernel_rfl

/-! The law returns true, and writes nothing that was there. -/
set_option maxRecDepth 100000 in
set_option maxHeartbeats 40000000 in
theorem walk (i0 : In) (a1 : Int) (w : World) (w0 : i0.ok w) (w1 : (Lit.int .i64 a1).wf = true) :
    Calls Try.prog 3 #[inv i0, .int .i64 a1] w fun e w' => e = .returned (.bool true) ∧ Below w.heap.size w w' := by
  obtain ⟨ep, sh, a, n, c, M, le⟩ := i0
  have HM : Hid (Mems w a n M) := w0.mems
  clear w0
  have hb0 : Below w.heap.size w (w.alloc (.cells #[.int .u64 (ep : Nat), .int .i64 sh, .slice a n c, .int .i64 le] 25)) := (Below.refl _ _).alloc (Nat.le_refl _) _
  have hcall := ours_any ep sh le a n c M _ (HM.out.later hb0)
  go_enter Try.func3, Try.ntmps3
  go_wp2_with fail
  generalize w.alloc (.cells #[.int .u64 (ep : Nat), .int .i64 sh, .slice a n c, .int .i64 le] 25) = w0 at *
  refine hcall.mono ?_
  clear hcall
  rintro e w1 ⟨⟨v1, rfl, hv1⟩, hb1⟩
  have HLE : (inC ep sh n M le).l.length ≤ 10 := by simp [inC, fewM_length]; omega
  generalize inC ep sh n M le = cc at hv1 HLE
  obtain ⟨ep', sh', l, le'⟩ := cc
  simp only at HLE
  obtain ⟨a1', c1', b1', d1', rfl, hA, hB, -⟩ := hv1.read
  simp only at hA hB
  have HC1 : Cfr w1 (.agg (carr ep' sh' (.slice a1' l.length c1') (.slice b1' l.length d1') le')) ⟨ep', sh', l, le'⟩ := ⟨_, _, _, _, rfl, hA, hB, by show l.length ≤ 100000; omega⟩
  clear hA hB hv1
  generalize hn' : l.length = n' at *
  have HLN : Hid (l.length = n') := hn'
  clear hn'
  have hb2 : Below w1.heap.size w1 (w1.alloc (.cells (carr ep' sh' (.slice a1' n' c1') (.slice b1' n' d1') le') 29)) := (Below.refl _ _).alloc (Nat.le_refl _) _
  have ho2 := heap_alloc_new w1 (.cells (carr ep' sh' (.slice a1' n' c1') (.slice b1' n' d1') le') 29)
  go_upto_region 2 with fail
  generalize w1.alloc (.cells (carr ep' sh' (.slice a1' n' c1') (.slice b1' n' d1') le') 29) = w2 at *
  have HO2 : Hid (w2.heap[w1.heap.size]? = some (.cells (carr ep' sh' (.slice a1' n' c1') (.slice b1' n' d1') le') 29)) := ho2
  have HC2 : Hid (Cfr w2 (.agg (carr ep' sh' (.slice a1' n' c1') (.slice b1' n' d1') le')) ⟨ep', sh', l, le'⟩) := HC1.later hb2
  have HB2 : Hid (Below w.heap.size w w2) := hb0.trans ((hb1.mono hb0.size).trans (hb2.mono (by have := hb1.size; have := hb0.size; omega)))
  clear hb0 hb1 hb2 ho2 HC1
  generalize w1.heap.size = p5 at *
  obtain ⟨x0, x1, x2, x3, x4⟩ := five_cells HO2.out
  have hcall := plain_any _ _ _ HC2.out (by show l.length ≤ 900; rw [HLN.out]; omega)
  go_wp2_with fail
  refine hcall.mono ?_
  clear hcall x0 x1 x2 x3 x4
  rintro e w3 ⟨⟨v3, rfl, hv3⟩, hb3⟩
  obtain ⟨a3, c3, rfl, hL3, -⟩ := hv3.read
  simp only at hL3
  rw [HLN.out]
  have hr3 : Rfr w3 (.agg (rarr ep' sh' (.slice a3 n' c3) le')) ⟨ep', sh', l, le'⟩ := ⟨a3, c3, by rw [HLN.out], hL3, by show l.length ≤ 100000; rw [HLN.out]; omega⟩
  have hb4 : Below w3.heap.size w3 (w3.alloc (.cells (rarr ep' sh' (.slice a3 n' c3) le') 25)) := (Below.refl _ _).alloc (Nat.le_refl _) _
  have hw4 := heap_alloc_new w3 (.cells (rarr ep' sh' (.slice a3 n' c3) le') 25)
  go_upto_region 3 with fail
  generalize w3.alloc (.cells (rarr ep' sh' (.slice a3 n' c3) le') 25) = w4 at *
  have hb24 : Below w2.heap.size w2 w4 := hb3.trans (hb4.mono hb3.size)
  have HO4 : Hid (w4.heap[p5]? = some (.cells (carr ep' sh' (.slice a1' n' c1') (.slice b1' n' d1') le') 29)) := heap_kept HO2.out hb24
  have HW4 : Hid (w4.heap[w3.heap.size]? = some (.cells (rarr ep' sh' (.slice a3 n' c3) le') 25)) := hw4
  have HC4 : Hid (Cfr w4 (.agg (carr ep' sh' (.slice a1' n' c1') (.slice b1' n' d1') le')) ⟨ep', sh', l, le'⟩) := HC2.out.later hb24
  have HR4 : Hid (Rfr w4 (.agg (rarr ep' sh' (.slice a3 n' c3) le')) ⟨ep', sh', l, le'⟩) := hr3.later hb4
  have HB4 : Hid (Below w.heap.size w w4) := HB2.out.trans (hb24.mono HB2.out.size)
  clear hb3 hb4 hw4 hb24 hr3 hL3 hv3 HO2 HC2 HB2
  generalize w3.heap.size = p6 at *
  obtain ⟨x0, x1, x2, x3, x4⟩ := five_cells HO4.out
  obtain ⟨y0, y1, y2, y3⟩ := four_cells HW4.out
  have hcall := place_any _ _ a1 _ HC4.out
  go_wp2_with fail
  refine hcall.mono ?_
  clear hcall x0 x1 x2 x3 x4 y0 y1 y2 y3
  rintro e w5 ⟨rfl, hb5⟩
  have HO5 : Hid (w5.heap[p5]? = some (.cells (carr ep' sh' (.slice a1' n' c1') (.slice b1' n' d1') le') 29)) := heap_kept HO4.out hb5
  have HW5 : Hid (w5.heap[p6]? = some (.cells (rarr ep' sh' (.slice a3 n' c3) le') 25)) := heap_kept HW4.out hb5
  have HC5 : Hid (Cfr w5 (.agg (carr ep' sh' (.slice a1' n' c1') (.slice b1' n' d1') le')) ⟨ep', sh', l, le'⟩) := HC4.out.later hb5
  have HR5 : Hid (Rfr w5 (.agg (rarr ep' sh' (.slice a3 n' c3) le')) ⟨ep', sh', l, le'⟩) := HR4.out.later hb5
  have HB5 : Hid (Below w.heap.size w w5) := HB4.out.trans (hb5.mono HB4.out.size)
  clear hb5 HO4 HW4 HC4 HR4 HB4
  obtain ⟨r, hr⟩ : ∃ r, r = rightB ⟨ep', sh', l, le'⟩ := ⟨_, rfl⟩
  have HRB : Hid (r = rightB ⟨ep', sh', l, le'⟩) := hr
  have HPL : Hid (placeC ⟨ep', sh', l, le'⟩ a1 = if r = true then plc (nodes l) a1 else -1) := by rw [hr]; rfl
  generalize hpk : placeC ⟨ep', sh', l, le'⟩ a1 = pk at *
  have HPK : Hid (placeC ⟨ep', sh', l, le'⟩ a1 = pk) := hpk
  clear hr hpk
  obtain ⟨x0, x1, x2, x3, x4⟩ := five_cells HO5.out
  obtain ⟨y0, y1, y2, y3⟩ := four_cells HW5.out
  have hq1 := right_any _ _ _ (HC5.out.later (Below.refl _ w5).drew)
  rw [← HRB.out] at hq1
  go_upto_region 4 with fail
  refine wp_region_noPanic ?_
  refine wp_region_held_drew (S := fun w' => (w'.cell? ⟨p5, 0, none⟩ = some (.int .u64 (ep' : Nat)) ∧ w'.cell? ⟨p5, 1, none⟩ = some (.int .i64 sh') ∧ w'.cell? ⟨p5, 2, none⟩ = some (.slice a1' n' c1') ∧ w'.cell? ⟨p5, 3, none⟩ = some (.slice b1' n' d1') ∧ w'.cell? ⟨p5, 4, none⟩ = some (.int .i64 le')) ∧ (w'.cell? ⟨p6, 0, none⟩ = some (.int .u64 (ep' : Nat)) ∧ w'.cell? ⟨p6, 1, none⟩ = some (.int .i64 sh') ∧ w'.cell? ⟨p6, 2, none⟩ = some (.slice a3 n' c3) ∧ w'.cell? ⟨p6, 3, none⟩ = some (.int .i64 le'))) (by kernel_rfl) ?_ (fun hHeld => ?_)
  · exact ⟨⟨x0, x1, x2, x3, x4⟩, ⟨y0, y1, y2, y3⟩⟩
  refine held_take (i := 0) (d := 18) (v := ?_) rfl rfl (by kernel_rfl) (by kernel_rfl) (by kernel_rfl) (fun _ _ _ h => h) (Or.inl ⟨by rfl, ?_⟩) hHeld ?_
  rotate_left
  · (intro w hSw; (try dsimp only at hSw); go_simp; all_goals (with_reducible rfl))
  try simp only [Act.put, List.setIfInBounds_toArray, List.set_cons_zero, List.set_cons_succ]
  refine held_take (i := 2) (d := 20) (v := ?_) rfl rfl (by kernel_rfl) (by kernel_rfl) (by kernel_rfl) (fun _ _ _ h => h) (Or.inl ⟨by rfl, ?_⟩) hHeld ?_
  rotate_left
  · (intro w hSw; (try dsimp only at hSw); go_simp; all_goals (with_reducible rfl))
  try simp only [Act.put, List.setIfInBounds_toArray, List.set_cons_zero, List.set_cons_succ]
  refine wpAnyH_ready (rs := [1]) (by kernel_rfl) (by simp) ?_
  refine AllReadyH.cons rfl (fun K hK => ?_) AllReadyH.nil
  go_simp
  refine hq1.mono ?_
  rintro e w6 ⟨rfl, hb6⟩
  have b6 : Below w5.heap.size w5 w6 := (Below.refl _ w5).drew.trans hb6
  have HO6 : Hid (w6.heap[p5]? = some (.cells (carr ep' sh' (.slice a1' n' c1') (.slice b1' n' d1') le') 29)) := heap_kept HO5.out b6
  have HW6 : Hid (w6.heap[p6]? = some (.cells (rarr ep' sh' (.slice a3 n' c3) le') 25)) := heap_kept HW5.out b6
  have HC6 : Hid (Cfr w6 (.agg (carr ep' sh' (.slice a1' n' c1') (.slice b1' n' d1') le')) ⟨ep', sh', l, le'⟩) := HC5.out.later b6
  have HR6 : Hid (Rfr w6 (.agg (rarr ep' sh' (.slice a3 n' c3) le')) ⟨ep', sh', l, le'⟩) := HR5.out.later b6
  have HB6 : Hid (Below w.heap.size w w6) := HB5.out.trans (b6.mono HB5.out.size)
  have hq2 := rright_any _ _ _ HR6.out
  rw [← HRB.out] at hq2
  clear b6 hb6 x0 x1 x2 x3 x4 y0 y1 y2 y3
  obtain ⟨x0, x1, x2, x3, x4⟩ := five_cells HO6.out
  obtain ⟨y0, y1, y2, y3⟩ := four_cells HW6.out
  go_wp2_with fail
  refine hK.out _ _ ?_ (fun hHeld => ?_)
  · exact ⟨⟨x0, x1, x2, x3, x4⟩, ⟨y0, y1, y2, y3⟩⟩
  clear hK K
  try simp only [Act.put, List.setIfInBounds_toArray, List.set_cons_zero, List.set_cons_succ]
  clear hq1
  refine wpAnyH_ready (rs := [3]) (by kernel_rfl) (by simp) ?_
  refine AllReadyH.cons rfl (fun K hK => ?_) AllReadyH.nil
  go_simp
  refine hq2.mono ?_
  rintro e w7 ⟨rfl, hb7⟩
  have HO7 : Hid (w7.heap[p5]? = some (.cells (carr ep' sh' (.slice a1' n' c1') (.slice b1' n' d1') le') 29)) := heap_kept HO6.out hb7
  have HW7 : Hid (w7.heap[p6]? = some (.cells (rarr ep' sh' (.slice a3 n' c3) le') 25)) := heap_kept HW6.out hb7
  have HC7 : Hid (Cfr w7 (.agg (carr ep' sh' (.slice a1' n' c1') (.slice b1' n' d1') le')) ⟨ep', sh', l, le'⟩) := HC6.out.later hb7
  have HR7 : Hid (Rfr w7 (.agg (rarr ep' sh' (.slice a3 n' c3) le')) ⟨ep', sh', l, le'⟩) := HR6.out.later hb7
  have HB7 : Hid (Below w.heap.size w w7) := HB6.out.trans (hb7.mono HB6.out.size)
  clear hb7 x0 x1 x2 x3 x4 y0 y1 y2 y3
  obtain ⟨x0, x1, x2, x3, x4⟩ := five_cells HO7.out
  obtain ⟨y0, y1, y2, y3⟩ := four_cells HW7.out
  go_wp2_with fail
  refine hK.out _ _ ?_ (fun hHeld => ?_)
  · exact ⟨⟨x0, x1, x2, x3, x4⟩, ⟨y0, y1, y2, y3⟩⟩
  clear hK K
  try simp only [Act.put, List.setIfInBounds_toArray, List.set_cons_zero, List.set_cons_succ]
  clear hq2
  refine held_take (i := 4) (d := 22) (v := ?_) rfl rfl (by kernel_rfl) (by kernel_rfl) (by kernel_rfl) (fun _ _ _ h => h) (Or.inl ⟨by rfl, ?_⟩) hHeld ?_
  rotate_left
  · (intro w hSw; (try dsimp only at hSw); go_simp; all_goals (with_reducible rfl))
  try simp only [Act.put, List.setIfInBounds_toArray, List.set_cons_zero, List.set_cons_succ]
  refine wpAnyH_done (by kernel_rfl) ?_ _
  refine NoPanic.normal ?_
  clear HO5 HW5 HC5 HR5 HB5 HO6 HW6 HC6 HR6 HB6 hHeld
  clear x0 x1 x2 x3 x4 y0 y1 y2 y3
  obtain ⟨x0, x1, x2, x3, x4⟩ := five_cells HO7.out
  obtain ⟨y0, y1, y2, y3⟩ := four_cells HW7.out
  have hcall := rright_any _ _ _ HR7.out
  rw [← HRB.out] at hcall
  have hrr : (r != r) = false := by simp
  cases r with
  | false =>
    go_wp2_with fail
    refine hcall.mono ?_
    clear hcall x0 x1 x2 x3 x4 y0 y1 y2 y3 hrr
    rintro e w8 ⟨rfl, hb8⟩
    have HO8 : Hid (w8.heap[p5]? = some (.cells (carr ep' sh' (.slice a1' n' c1') (.slice b1' n' d1') le') 29)) := heap_kept HO7.out hb8
    have HW8 : Hid (w8.heap[p6]? = some (.cells (rarr ep' sh' (.slice a3 n' c3) le') 25)) := heap_kept HW7.out hb8
    have HC8 : Hid (Cfr w8 (.agg (carr ep' sh' (.slice a1' n' c1') (.slice b1' n' d1') le')) ⟨ep', sh', l, le'⟩) := HC7.out.later hb8
    have HR8 : Hid (Rfr w8 (.agg (rarr ep' sh' (.slice a3 n' c3) le')) ⟨ep', sh', l, le'⟩) := HR7.out.later hb8
    have HB8 : Hid (Below w.heap.size w w8) := HB7.out.trans (hb8.mono HB7.out.size)
    clear hb8 HO7 HW7 HC7 HR7 HB7
    have hpk : pk = -1 := by have := HPL.out; simpa using this
    subst hpk
    have HH : Hid (∀ k, atC ⟨ep', sh', l, le'⟩ k = -1) := fun k => by simp [atC, ← HRB.out]
    have HBE : Hid (∀ d, besideC ⟨ep', sh', l, le'⟩ a1 d = -1) := fun d => by simp [besideC, HPK.out]
    have HHA : Hid (hasB ⟨ep', sh', l, le'⟩ a1 = false) := by simp [Hid, hasB, learnsB, ← HRB.out, HPK.out]
    clear HPL HPK HRB
    obtain ⟨x0, x1, x2, x3, x4⟩ := five_cells HO8.out
    obtain ⟨y0, y1, y2, y3⟩ := four_cells HW8.out
    have hcall := head_any _ _  _ HC8.out
    rw [HH.out 0] at hcall
    go_wp2_with fail
    refine hcall.mono ?_
    clear hcall x0 x1 x2 x3 x4 y0 y1 y2 y3
    rintro e w9 ⟨rfl, hb9⟩
    have HO9 : Hid (w9.heap[p5]? = some (.cells (carr ep' sh' (.slice a1' n' c1') (.slice b1' n' d1') le') 29)) := heap_kept HO8.out hb9
    have HW9 : Hid (w9.heap[p6]? = some (.cells (rarr ep' sh' (.slice a3 n' c3) le') 25)) := heap_kept HW8.out hb9
    have HC9 : Hid (Cfr w9 (.agg (carr ep' sh' (.slice a1' n' c1') (.slice b1' n' d1') le')) ⟨ep', sh', l, le'⟩) := HC8.out.later hb9
    have HR9 : Hid (Rfr w9 (.agg (rarr ep' sh' (.slice a3 n' c3) le')) ⟨ep', sh', l, le'⟩) := HR8.out.later hb9
    have HB9 : Hid (Below w.heap.size w w9) := HB8.out.trans (hb9.mono HB8.out.size)
    clear hb9 HO8 HW8 HC8 HR8 HB8
    obtain ⟨x0, x1, x2, x3, x4⟩ := five_cells HO9.out
    obtain ⟨y0, y1, y2, y3⟩ := four_cells HW9.out
    have hcall := tail_any _ _  _ HC9.out
    rw [HH.out _] at hcall
    go_wp2_with fail
    refine hcall.mono ?_
    clear hcall x0 x1 x2 x3 x4 y0 y1 y2 y3
    rintro e w10 ⟨rfl, hb10⟩
    have HO10 : Hid (w10.heap[p5]? = some (.cells (carr ep' sh' (.slice a1' n' c1') (.slice b1' n' d1') le') 29)) := heap_kept HO9.out hb10
    have HW10 : Hid (w10.heap[p6]? = some (.cells (rarr ep' sh' (.slice a3 n' c3) le') 25)) := heap_kept HW9.out hb10
    have HC10 : Hid (Cfr w10 (.agg (carr ep' sh' (.slice a1' n' c1') (.slice b1' n' d1') le')) ⟨ep', sh', l, le'⟩) := HC9.out.later hb10
    have HR10 : Hid (Rfr w10 (.agg (rarr ep' sh' (.slice a3 n' c3) le')) ⟨ep', sh', l, le'⟩) := HR9.out.later hb10
    have HB10 : Hid (Below w.heap.size w w10) := HB9.out.trans (hb10.mono HB9.out.size)
    clear hb10 HO9 HW9 HC9 HR9 HB9
    obtain ⟨x0, x1, x2, x3, x4⟩ := five_cells HO10.out
    obtain ⟨y0, y1, y2, y3⟩ := four_cells HW10.out
    have hcall := next_any _ _ a1 _ HC10.out
    rw [HBE.out 1] at hcall
    go_wp2_with fail
    refine hcall.mono ?_
    clear hcall x0 x1 x2 x3 x4 y0 y1 y2 y3
    rintro e w11 ⟨rfl, hb11⟩
    have HO11 : Hid (w11.heap[p5]? = some (.cells (carr ep' sh' (.slice a1' n' c1') (.slice b1' n' d1') le') 29)) := heap_kept HO10.out hb11
    have HW11 : Hid (w11.heap[p6]? = some (.cells (rarr ep' sh' (.slice a3 n' c3) le') 25)) := heap_kept HW10.out hb11
    have HC11 : Hid (Cfr w11 (.agg (carr ep' sh' (.slice a1' n' c1') (.slice b1' n' d1') le')) ⟨ep', sh', l, le'⟩) := HC10.out.later hb11
    have HR11 : Hid (Rfr w11 (.agg (rarr ep' sh' (.slice a3 n' c3) le')) ⟨ep', sh', l, le'⟩) := HR10.out.later hb11
    have HB11 : Hid (Below w.heap.size w w11) := HB10.out.trans (hb11.mono HB10.out.size)
    clear hb11 HO10 HW10 HC10 HR10 HB10
    obtain ⟨x0, x1, x2, x3, x4⟩ := five_cells HO11.out
    obtain ⟨y0, y1, y2, y3⟩ := four_cells HW11.out
    have hcall := prev_any _ _ a1 _ HC11.out
    rw [HBE.out (-1)] at hcall
    go_wp2_with fail
    refine hcall.mono ?_
    clear hcall x0 x1 x2 x3 x4 y0 y1 y2 y3
    rintro e w12 ⟨rfl, hb12⟩
    have HO12 : Hid (w12.heap[p5]? = some (.cells (carr ep' sh' (.slice a1' n' c1') (.slice b1' n' d1') le') 29)) := heap_kept HO11.out hb12
    have HW12 : Hid (w12.heap[p6]? = some (.cells (rarr ep' sh' (.slice a3 n' c3) le') 25)) := heap_kept HW11.out hb12
    have HC12 : Hid (Cfr w12 (.agg (carr ep' sh' (.slice a1' n' c1') (.slice b1' n' d1') le')) ⟨ep', sh', l, le'⟩) := HC11.out.later hb12
    have HR12 : Hid (Rfr w12 (.agg (rarr ep' sh' (.slice a3 n' c3) le')) ⟨ep', sh', l, le'⟩) := HR11.out.later hb12
    have HB12 : Hid (Below w.heap.size w w12) := HB11.out.trans (hb12.mono HB11.out.size)
    clear hb12 HO11 HW11 HC11 HR11 HB11
    obtain ⟨x0, x1, x2, x3, x4⟩ := five_cells HO12.out
    obtain ⟨y0, y1, y2, y3⟩ := four_cells HW12.out
    have hcall := has_any _ _ a1 _ HC12.out
    rw [HHA.out] at hcall
    go_wp2_with fail
    refine hcall.mono ?_
    clear hcall x0 x1 x2 x3 x4 y0 y1 y2 y3
    rintro e w13 ⟨rfl, hb13⟩
    have HO13 : Hid (w13.heap[p5]? = some (.cells (carr ep' sh' (.slice a1' n' c1') (.slice b1' n' d1') le') 29)) := heap_kept HO12.out hb13
    have HW13 : Hid (w13.heap[p6]? = some (.cells (rarr ep' sh' (.slice a3 n' c3) le') 25)) := heap_kept HW12.out hb13
    have HC13 : Hid (Cfr w13 (.agg (carr ep' sh' (.slice a1' n' c1') (.slice b1' n' d1') le')) ⟨ep', sh', l, le'⟩) := HC12.out.later hb13
    have HR13 : Hid (Rfr w13 (.agg (rarr ep' sh' (.slice a3 n' c3) le')) ⟨ep', sh', l, le'⟩) := HR12.out.later hb13
    have HB13 : Hid (Below w.heap.size w w13) := HB12.out.trans (hb13.mono HB12.out.size)
    clear hb13 HO12 HW12 HC12 HR12 HB12
    go_wp2_with fail
    refine (awake_any w13).mono ?_
    rintro e wf ⟨rfl, hbf⟩
    have HBF : Hid (Below w.heap.size w wf) := HB13.out.trans (hbf.mono HB13.out.size)
    clear hbf
    go_wp2
    go_ret
    exact ⟨rfl, HBF.out⟩
  | true =>
    go_wp2_with fail
    refine hcall.mono ?_
    clear hcall x0 x1 x2 x3 x4 y0 y1 y2 y3 hrr
    rintro e w8 ⟨rfl, hb8⟩
    have HO8 : Hid (w8.heap[p5]? = some (.cells (carr ep' sh' (.slice a1' n' c1') (.slice b1' n' d1') le') 29)) := heap_kept HO7.out hb8
    have HW8 : Hid (w8.heap[p6]? = some (.cells (rarr ep' sh' (.slice a3 n' c3) le') 25)) := heap_kept HW7.out hb8
    have HC8 : Hid (Cfr w8 (.agg (carr ep' sh' (.slice a1' n' c1') (.slice b1' n' d1') le')) ⟨ep', sh', l, le'⟩) := HC7.out.later hb8
    have HR8 : Hid (Rfr w8 (.agg (rarr ep' sh' (.slice a3 n' c3) le')) ⟨ep', sh', l, le'⟩) := HR7.out.later hb8
    have HB8 : Hid (Below w.heap.size w w8) := HB7.out.trans (hb8.mono HB7.out.size)
    clear hb8 HO7 HW7 HC7 HR7 HB7
    have hrt := right_true HRB.out.symm
    have hpk : pk = plc (nodes l) a1 := by have := HPL.out; simpa using this
    have hfew := hrt.few
    simp only at hfew
    have HNL : Hid ((nodes l).length = n') := by rw [Hid, nodes_length]; exact HLN.out
    rw [HLN.out] at hfew
    clear HPL HLE HM HLN
    obtain ⟨q, rfl⟩ : ∃ q, n' = q + 1 := ⟨n' - 1, by omega⟩
    obtain ⟨b3, off3, rfl, hmem⟩ : ∃ b off, a3 = some ⟨b, off, none⟩ ∧ ∀ i x, (nodes l)[i]? = some x → w8.cell? ⟨b, off + i * 2, none⟩ = some (.int .i64 x) := by
      obtain ⟨aa, cc, e, hm, _⟩ := HR8.out
      simp only [Value.agg.injEq, Array.mk.injEq, List.cons.injEq, Value.slice.injEq] at e
      obtain ⟨-, -, ⟨rfl, -, -⟩, -⟩ := e
      obtain ⟨b, off, e2, hc⟩ := hm.at (by have := HNL.out; rw [nodes_length] at this; simp only; omega)
      refine ⟨b, off, e2, fun i x hx => ?_⟩
      have hi : i < l.length := by have := (List.getElem?_eq_some_iff.1 hx).1; rwa [nodes_length] at this
      have h1 := nodes_at (List.getElem?_eq_getElem hi)
      rw [hx] at h1
      simp only [Option.some.injEq] at h1
      rw [h1]
      exact (hc i _ (List.getElem?_eq_getElem hi)).1
    have HMEM : Hid (∀ i x, (nodes l)[i]? = some x → w8.cell? ⟨b3, off3 + i * 2, none⟩ = some (.int .i64 x)) := hmem
    clear hmem
    have hq0 : 0 < (nodes l).length := by rw [HNL.out]; omega
    have hqq : q < (nodes l).length := by rw [HNL.out]; omega
    obtain ⟨f0, hf0⟩ : ∃ f0, (nodes l)[0]? = some f0 := ⟨_, List.getElem?_eq_getElem hq0⟩
    obtain ⟨fl, hfl⟩ : ∃ fl, (nodes l)[q]? = some fl := ⟨_, List.getElem?_eq_getElem hqq⟩
    have HF0 : Hid ((nodes l)[0]? = some f0) := hf0
    have HFL : Hid ((nodes l)[q]? = some fl) := hfl
    clear hf0 hfl hq0 hqq
    have HLN : Hid (l.length = q + 1) := by rw [Hid, ← nodes_length]; exact HNL.out
    have HAT : Hid (∀ k : Nat, k < q + 1 → ∀ y, (nodes l)[k]? = some y → atC ⟨ep', sh', l, le'⟩ (k : Int) = y) := fun k hk y hy => by unfold atC; rw [if_pos ⟨HRB.out.symm, by omega, by rw [HLN.out]; omega⟩, Int.toNat_natCast, hy]; rfl
    have HAN : Hid (∀ k : Int, ¬ (0 ≤ k ∧ k < q + 1) → atC ⟨ep', sh', l, le'⟩ k = -1) := fun k hk => by unfold atC; rw [if_neg (fun h => hk ⟨h.2.1, by have := h.2.2; rw [HLN.out] at this; omega⟩)]
    have HHD : Hid (atC ⟨ep', sh', l, le'⟩ 0 = f0) := HAT.out 0 (by omega) f0 HF0.out
    have HTL : Hid (atC ⟨ep', sh', l, le'⟩ ((l.length : Int) - 1) = fl) := by rw [HLN.out]; have := HAT.out q (by omega) fl HFL.out; rw [show (((q + 1 : Nat) : Int) - 1) = (q : Int) by omega]; exact this
    have hle7 : le' = -1 ∨ srv le' = true := by have := hrt.le; unfold leOk at this; simp only at this; by_cases e : le' = -1; exact .inl e; simp [e] at this; exact .inr this.1
    have HLS : Hid (le' = -1 ∨ srv le' = true) := hle7
    have hwq : IntKind.i64.wrap (q : Int) = q := by simp [IntKind.wrap, IntKind.bits]; omega
    have hlq : (q : Int) < (q : Int) + 1 := by omega
    clear hrt hle7
    obtain ⟨x0, x1, x2, x3, x4⟩ := five_cells HO8.out
    obtain ⟨y0, y1, y2, y3⟩ := four_cells HW8.out
    have hcall := find_any _ _ a1 _ HR8.out
    simp only at hcall
    rw [← hpk] at hcall
    have HPQ : Hid (pk = plc (nodes l) a1) := hpk
    clear hpk
    go_wp2_with fail
    refine hcall.mono ?_
    clear hcall x0 x1 x2 x3 x4 y0 y1 y2 y3
    rintro e w9 ⟨rfl, hb9⟩
    have HO9 : Hid (w9.heap[p5]? = some (.cells (carr ep' sh' (.slice a1' (q + 1) c1') (.slice b1' (q + 1) d1') le') 29)) := heap_kept HO8.out hb9
    have HW9 : Hid (w9.heap[p6]? = some (.cells (rarr ep' sh' (.slice (some ⟨b3, off3, none⟩) (q + 1) c3) le') 25)) := heap_kept HW8.out hb9
    have HC9 : Hid (Cfr w9 (.agg (carr ep' sh' (.slice a1' (q + 1) c1') (.slice b1' (q + 1) d1') le')) ⟨ep', sh', l, le'⟩) := HC8.out.later hb9
    have HR9 : Hid (Rfr w9 (.agg (rarr ep' sh' (.slice (some ⟨b3, off3, none⟩) (q + 1) c3) le')) ⟨ep', sh', l, le'⟩) := HR8.out.later hb9
    have HB9 : Hid (Below w.heap.size w w9) := HB8.out.trans (hb9.mono HB8.out.size)
    have HMM : Hid (∀ i x, (nodes l)[i]? = some x → w9.cell? ⟨b3, off3 + i * 2, none⟩ = some (.int .i64 x)) := fun i x hx => cell_later hb9 (HMEM.out i x hx)
    clear hb9 HO8 HW8 HC8 HR8 HB8 HMEM
    obtain ⟨x0, x1, x2, x3, x4⟩ := five_cells HO9.out
    obtain ⟨y0, y1, y2, y3⟩ := four_cells HW9.out
    have m0 := HMM.out 0 f0 HF0.out
    simp only [Nat.zero_mul, Nat.add_zero] at m0
    have mq := HMM.out q fl HFL.out
    by_cases hin : a1 ∈ nodes l
    · obtain ⟨k, hk1, hk2, hk3, hk4⟩ := plc_mem hin
      have hpk := HPQ.out
      clear HPQ
      rw [hk2] at hpk
      subst hpk
      have hk5 : k < q + 1 := by rw [← HNL.out]; exact hk1
      clear hk1 hk2 hk4 hin
      have HHA : Hid (hasB ⟨ep', sh', l, le'⟩ a1 = true) := by simp [Hid, hasB, HPK.out]
      by_cases hk6 : k < q
      · obtain ⟨nx, hnx⟩ : ∃ nx, (nodes l)[k + 1]? = some nx := ⟨_, List.getElem?_eq_getElem (by rw [HNL.out]; omega)⟩
        have HNX : Hid (besideC ⟨ep', sh', l, le'⟩ a1 1 = nx) := by rw [Hid, besideC, HPK.out, if_neg (by omega)]; exact HAT.out (k + 1) (by omega) nx hnx
        have mnx := HMM.out (k + 1) nx hnx
        clear hnx
        by_cases hk7 : 0 < k
        · obtain ⟨j, rfl⟩ : ∃ j, k = j + 1 := ⟨k - 1, by omega⟩
          obtain ⟨pv, hpv⟩ : ∃ pv, (nodes l)[j]? = some pv := ⟨_, List.getElem?_eq_getElem (by rw [HNL.out]; omega)⟩
          have HPV : Hid (besideC ⟨ep', sh', l, le'⟩ a1 (-1) = pv) := by rw [Hid, besideC, HPK.out, if_neg (by omega), show (((j + 1 : Nat) : Int) + -1) = (j : Int) by omega]; exact HAT.out j (by omega) pv hpv
          have mpv := HMM.out j pv hpv
          have hwj : IntKind.i64.wrap (j : Int) = j := by simp [IntKind.wrap, IntKind.bits]; omega
          clear hpv hk3
          go_upto_region 14 with fail
          refine wp_region_noPanic ?_
          refine wp_region_held_drew (S := fun w' => (w'.cell? ⟨p5, 0, none⟩ = some (.int .u64 (ep' : Nat)) ∧ w'.cell? ⟨p5, 1, none⟩ = some (.int .i64 sh') ∧ w'.cell? ⟨p5, 2, none⟩ = some (.slice a1' (q + 1) c1') ∧ w'.cell? ⟨p5, 3, none⟩ = some (.slice b1' (q + 1) d1') ∧ w'.cell? ⟨p5, 4, none⟩ = some (.int .i64 le')) ∧ (w'.cell? ⟨p6, 0, none⟩ = some (.int .u64 (ep' : Nat)) ∧ w'.cell? ⟨p6, 1, none⟩ = some (.int .i64 sh') ∧ w'.cell? ⟨p6, 2, none⟩ = some (.slice (some ⟨b3, off3, none⟩) (q + 1) c3) ∧ w'.cell? ⟨p6, 3, none⟩ = some (.int .i64 le')) ∧ w'.cell? ⟨b3, off3, none⟩ = some (.int .i64 f0) ∧ w'.cell? ⟨b3, off3 + q * 2, none⟩ = some (.int .i64 fl)) (by kernel_rfl) ?_ (fun hHeld => ?_)
          · exact ⟨⟨x0, x1, x2, x3, x4⟩, ⟨y0, y1, y2, y3⟩, m0, mq⟩
          refine held_take (i := 0) (d := 88) (v := ?_) rfl rfl (by kernel_rfl) (by kernel_rfl) (by kernel_rfl) (fun _ _ _ h => h) (Or.inl ⟨by rfl, ?_⟩) hHeld ?_
          rotate_left
          · (intro w hSw; (try dsimp only at hSw); go_simp; all_goals (with_reducible rfl))
          try simp only [Act.put, List.setIfInBounds_toArray, List.set_cons_zero, List.set_cons_succ]
          refine held_take (i := 1) (d := 89) (v := ?_) rfl rfl (by kernel_rfl) (by kernel_rfl) (by kernel_rfl) (fun _ _ _ h => h) (Or.inl ⟨by rfl, ?_⟩) hHeld ?_
          rotate_left
          · (intro w hSw; (try dsimp only at hSw); go_simp; all_goals (with_reducible rfl))
          try simp only [Act.put, List.setIfInBounds_toArray, List.set_cons_zero, List.set_cons_succ]
          refine held_take (i := 2) (d := 90) (v := ?_) rfl rfl (by kernel_rfl) (by kernel_rfl) (by kernel_rfl) (fun _ _ _ h => h) (Or.inl ⟨by rfl, ?_⟩) hHeld ?_
          rotate_left
          · (intro w hSw; (try dsimp only at hSw); go_simp; all_goals (with_reducible rfl))
          try simp only [Act.put, List.setIfInBounds_toArray, List.set_cons_zero, List.set_cons_succ]
          refine held_take (i := 3) (d := 91) (v := ?_) rfl rfl (by kernel_rfl) (by kernel_rfl) (by kernel_rfl) (fun _ _ _ h => h) (Or.inl ⟨by rfl, ?_⟩) hHeld ?_
          rotate_left
          · (intro w hSw; (try dsimp only at hSw); go_simp; all_goals (with_reducible rfl))
          try simp only [Act.put, List.setIfInBounds_toArray, List.set_cons_zero, List.set_cons_succ]
          refine held_take (i := 4) (d := 92) (v := ?_) rfl rfl (by kernel_rfl) (by kernel_rfl) (by kernel_rfl) (fun _ _ _ h => h) (Or.inl ⟨by rfl, ?_⟩) hHeld ?_
          rotate_left
          · (intro w hSw; (try dsimp only at hSw); go_simp; all_goals (with_reducible rfl))
          try simp only [Act.put, List.setIfInBounds_toArray, List.set_cons_zero, List.set_cons_succ]
          refine held_take (i := 6) (d := 94) (v := ?_) rfl rfl (by kernel_rfl) (by kernel_rfl) (by kernel_rfl) (fun _ _ _ h => h) (Or.inl ⟨by rfl, ?_⟩) hHeld ?_
          rotate_left
          · (intro w hSw; (try dsimp only at hSw); go_simp; all_goals (with_reducible rfl))
          try simp only [Act.put, List.setIfInBounds_toArray, List.set_cons_zero, List.set_cons_succ]
          refine held_take (i := 7) (d := 95) (v := ?_) rfl rfl (by kernel_rfl) (by kernel_rfl) (by kernel_rfl) (fun _ _ _ h => h) (Or.inl ⟨by rfl, ?_⟩) hHeld ?_
          rotate_left
          · (intro w hSw; (try dsimp only at hSw); go_simp; all_goals (with_reducible rfl))
          try simp only [Act.put, List.setIfInBounds_toArray, List.set_cons_zero, List.set_cons_succ]
          refine held_take (i := 8) (d := 96) (v := ?_) rfl rfl (by kernel_rfl) (by kernel_rfl) (by kernel_rfl) (fun _ _ _ h => h) (Or.inl ⟨by rfl, ?_⟩) hHeld ?_
          rotate_left
          · (intro w hSw; (try dsimp only at hSw); go_simp; all_goals (with_reducible rfl))
          try simp only [Act.put, List.setIfInBounds_toArray, List.set_cons_zero, List.set_cons_succ]
          refine held_take (i := 9) (d := 97) (v := ?_) rfl rfl (by kernel_rfl) (by kernel_rfl) (by kernel_rfl) (fun _ _ _ h => h) (Or.inl ⟨by rfl, ?_⟩) hHeld ?_
          rotate_left
          · (intro w hSw; (try dsimp only at hSw); go_simp; all_goals (with_reducible rfl))
          try simp only [Act.put, List.setIfInBounds_toArray, List.set_cons_zero, List.set_cons_succ]
          refine held_take (i := 10) (d := 98) (v := ?_) rfl rfl (by kernel_rfl) (by kernel_rfl) (by kernel_rfl) (fun _ _ _ h => h) (Or.inl ⟨by rfl, ?_⟩) hHeld ?_
          rotate_left
          · (intro w hSw; (try dsimp only at hSw); go_simp; all_goals (with_reducible rfl))
          try simp only [Act.put, List.setIfInBounds_toArray, List.set_cons_zero, List.set_cons_succ]
          have hq := head_any _ _  _ (HC9.out.later (Below.refl _ w9).drew)
          rw [HHD.out] at hq
          refine wpAnyH_ready (rs := [5]) (by kernel_rfl) (by simp) ?_
          refine AllReadyH.cons rfl (fun K hK => ?_) AllReadyH.nil
          go_simp
          refine hq.mono ?_
          rintro e w10 ⟨rfl, hb10⟩
          have b10 : Below w9.heap.size w9 w10 := (Below.refl _ w9).drew.trans hb10
          have HO10 : Hid (w10.heap[p5]? = some (.cells (carr ep' sh' (.slice a1' (q + 1) c1') (.slice b1' (q + 1) d1') le') 29)) := heap_kept HO9.out b10
          have HW10 : Hid (w10.heap[p6]? = some (.cells (rarr ep' sh' (.slice (some ⟨b3, off3, none⟩) (q + 1) c3) le') 25)) := heap_kept HW9.out b10
          have HC10 : Hid (Cfr w10 (.agg (carr ep' sh' (.slice a1' (q + 1) c1') (.slice b1' (q + 1) d1') le')) ⟨ep', sh', l, le'⟩) := HC9.out.later b10
          have HR10 : Hid (Rfr w10 (.agg (rarr ep' sh' (.slice (some ⟨b3, off3, none⟩) (q + 1) c3) le')) ⟨ep', sh', l, le'⟩) := HR9.out.later b10
          have HB10 : Hid (Below w.heap.size w w10) := HB9.out.trans (b10.mono HB9.out.size)
          have m0 := cell_later b10 m0
          have mq := cell_later b10 mq
          clear x0 x1 x2 x3 x4 y0 y1 y2 y3
          obtain ⟨x0, x1, x2, x3, x4⟩ := five_cells HO10.out
          obtain ⟨y0, y1, y2, y3⟩ := four_cells HW10.out
          go_wp2_with fail
          refine hK.out _ _ ?_ (fun hHeld => ?_)
          · exact ⟨⟨x0, x1, x2, x3, x4⟩, ⟨y0, y1, y2, y3⟩, m0, mq⟩
          clear hK K
          try simp only [Act.put, List.setIfInBounds_toArray, List.set_cons_zero, List.set_cons_succ]
          clear hq b10 HO9 HW9 HC9 HR9 HB9
          refine held_take (i := 11) (d := 99) (v := ?_) rfl rfl (by kernel_rfl) (by kernel_rfl) (by kernel_rfl) (fun _ _ _ h => h) (Or.inl ⟨by rfl, ?_⟩) hHeld ?_
          rotate_left
          · (intro w hSw; (try dsimp only at hSw); go_simp; all_goals (with_reducible rfl))
          try simp only [Act.put, List.setIfInBounds_toArray, List.set_cons_zero, List.set_cons_succ]
          refine held_take (i := 12) (d := 100) (v := ?_) rfl rfl (by kernel_rfl) (by kernel_rfl) (by kernel_rfl) (fun _ _ _ h => h) (Or.inl ⟨by rfl, ?_⟩) hHeld ?_
          rotate_left
          · (intro w hSw; (try dsimp only at hSw); go_simp; all_goals (with_reducible rfl))
          try simp only [Act.put, List.setIfInBounds_toArray, List.set_cons_zero, List.set_cons_succ]
          refine held_take (i := 13) (d := 101) (v := ?_) rfl rfl (by kernel_rfl) (by kernel_rfl) (by kernel_rfl) (fun _ _ _ h => h) (Or.inl ⟨by rfl, ?_⟩) hHeld ?_
          rotate_left
          · (intro w hSw; (try dsimp only at hSw); go_simp; all_goals (with_reducible rfl))
          try simp only [Act.put, List.setIfInBounds_toArray, List.set_cons_zero, List.set_cons_succ]
          refine held_take (i := 14) (d := 102) (v := ?_) rfl rfl (by kernel_rfl) (by kernel_rfl) (by kernel_rfl) (fun _ _ _ h => h) (Or.inl ⟨by rfl, ?_⟩) hHeld ?_
          rotate_left
          · (intro w hSw; (try dsimp only at hSw); go_simp; all_goals (with_reducible rfl))
          try simp only [Act.put, List.setIfInBounds_toArray, List.set_cons_zero, List.set_cons_succ]
          refine held_take (i := 16) (d := 104) (v := ?_) rfl rfl (by kernel_rfl) (by kernel_rfl) (by kernel_rfl) (fun _ _ _ h => h) (Or.inl ⟨by rfl, ?_⟩) hHeld ?_
          rotate_left
          · (intro w hSw; (try dsimp only at hSw); go_simp; all_goals (with_reducible rfl))
          try simp only [Act.put, List.setIfInBounds_toArray, List.set_cons_zero, List.set_cons_succ]
          refine held_take (i := 17) (d := 105) (v := ?_) rfl rfl (by kernel_rfl) (by kernel_rfl) (by kernel_rfl) (fun _ _ _ h => h) (Or.inl ⟨by rfl, ?_⟩) hHeld ?_
          rotate_left
          · (intro w hSw; (try dsimp only at hSw); go_simp; all_goals (with_reducible rfl))
          try simp only [Act.put, List.setIfInBounds_toArray, List.set_cons_zero, List.set_cons_succ]
          refine held_take (i := 18) (d := 106) (v := ?_) rfl rfl (by kernel_rfl) (by kernel_rfl) (by kernel_rfl) (fun _ _ _ h => h) (Or.inl ⟨by rfl, ?_⟩) hHeld ?_
          rotate_left
          · (intro w hSw; (try dsimp only at hSw); go_simp; all_goals (with_reducible rfl))
          try simp only [Act.put, List.setIfInBounds_toArray, List.set_cons_zero, List.set_cons_succ]
          refine held_take (i := 19) (d := 107) (v := ?_) rfl rfl (by kernel_rfl) (by kernel_rfl) (by kernel_rfl) (fun _ _ _ h => h) (Or.inl ⟨by rfl, ?_⟩) hHeld ?_
          rotate_left
          · (intro w hSw; (try dsimp only at hSw); go_simp; all_goals (with_reducible rfl))
          try simp only [Act.put, List.setIfInBounds_toArray, List.set_cons_zero, List.set_cons_succ]
          refine held_take (i := 20) (d := 108) (v := ?_) rfl rfl (by kernel_rfl) (by kernel_rfl) (by kernel_rfl) (fun _ _ _ h => h) (Or.inl ⟨by rfl, ?_⟩) hHeld ?_
          rotate_left
          · (intro w hSw; (try dsimp only at hSw); go_simp; all_goals (with_reducible rfl))
          try simp only [Act.put, List.setIfInBounds_toArray, List.set_cons_zero, List.set_cons_succ]
          refine held_take (i := 21) (d := 109) (v := ?_) rfl rfl (by kernel_rfl) (by kernel_rfl) (by kernel_rfl) (fun _ _ _ h => h) (Or.inl ⟨by rfl, ?_⟩) hHeld ?_
          rotate_left
          · (intro w hSw; (try dsimp only at hSw); go_simp; all_goals (with_reducible rfl))
          try simp only [Act.put, List.setIfInBounds_toArray, List.set_cons_zero, List.set_cons_succ]
          refine held_take (i := 22) (d := 110) (v := ?_) rfl rfl (by kernel_rfl) (by kernel_rfl) (by kernel_rfl) (fun _ _ _ h => h) (Or.inl ⟨by rfl, ?_⟩) hHeld ?_
          rotate_left
          · (intro w hSw; (try dsimp only at hSw); go_simp; all_goals (with_reducible rfl))
          try simp only [Act.put, List.setIfInBounds_toArray, List.set_cons_zero, List.set_cons_succ]
          refine held_take (i := 23) (d := 111) (v := ?_) rfl rfl (by kernel_rfl) (by kernel_rfl) (by kernel_rfl) (fun _ _ _ h => h) (Or.inl ⟨by rfl, ?_⟩) hHeld ?_
          rotate_left
          · (intro w hSw; (try dsimp only at hSw); go_simp; all_goals (with_reducible rfl))
          try simp only [Act.put, List.setIfInBounds_toArray, List.set_cons_zero, List.set_cons_succ]
          refine held_take (i := 24) (d := 112) (v := ?_) rfl rfl (by kernel_rfl) (by kernel_rfl) (by kernel_rfl) (fun _ _ _ h => h) (Or.inl ⟨by rfl, ?_⟩) hHeld ?_
          rotate_left
          · (intro w hSw; (try dsimp only at hSw); go_simp; all_goals (with_reducible rfl))
          try simp only [Act.put, List.setIfInBounds_toArray, List.set_cons_zero, List.set_cons_succ]
          have hq := tail_any _ _  _ (HC10.out)
          rw [HTL.out] at hq
          refine wpAnyH_ready (rs := [15]) (by kernel_rfl) (by simp) ?_
          refine AllReadyH.cons rfl (fun K hK => ?_) AllReadyH.nil
          go_simp
          refine hq.mono ?_
          rintro e w11 ⟨rfl, hb11⟩
          have HO11 : Hid (w11.heap[p5]? = some (.cells (carr ep' sh' (.slice a1' (q + 1) c1') (.slice b1' (q + 1) d1') le') 29)) := heap_kept HO10.out hb11
          have HW11 : Hid (w11.heap[p6]? = some (.cells (rarr ep' sh' (.slice (some ⟨b3, off3, none⟩) (q + 1) c3) le') 25)) := heap_kept HW10.out hb11
          have HC11 : Hid (Cfr w11 (.agg (carr ep' sh' (.slice a1' (q + 1) c1') (.slice b1' (q + 1) d1') le')) ⟨ep', sh', l, le'⟩) := HC10.out.later hb11
          have HR11 : Hid (Rfr w11 (.agg (rarr ep' sh' (.slice (some ⟨b3, off3, none⟩) (q + 1) c3) le')) ⟨ep', sh', l, le'⟩) := HR10.out.later hb11
          have HB11 : Hid (Below w.heap.size w w11) := HB10.out.trans (hb11.mono HB10.out.size)
          have m0 := cell_later hb11 m0
          have mq := cell_later hb11 mq
          clear x0 x1 x2 x3 x4 y0 y1 y2 y3
          obtain ⟨x0, x1, x2, x3, x4⟩ := five_cells HO11.out
          obtain ⟨y0, y1, y2, y3⟩ := four_cells HW11.out
          go_wp2_with fail
          refine hK.out _ _ ?_ (fun hHeld => ?_)
          · exact ⟨⟨x0, x1, x2, x3, x4⟩, ⟨y0, y1, y2, y3⟩, m0, mq⟩
          clear hK K
          try simp only [Act.put, List.setIfInBounds_toArray, List.set_cons_zero, List.set_cons_succ]
          clear hq hb11 HO10 HW10 HC10 HR10 HB10
          refine held_take (i := 25) (d := 113) (v := ?_) rfl rfl (by kernel_rfl) (by kernel_rfl) (by kernel_rfl) (fun _ _ _ h => h) (Or.inl ⟨by rfl, ?_⟩) hHeld ?_
          rotate_left
          · (intro w hSw; (try dsimp only at hSw); go_simp; all_goals (with_reducible rfl))
          try simp only [Act.put, List.setIfInBounds_toArray, List.set_cons_zero, List.set_cons_succ]
          refine held_take (i := 26) (d := 114) (v := ?_) rfl rfl (by kernel_rfl) (by kernel_rfl) (by kernel_rfl) (fun _ _ _ h => h) (Or.inl ⟨by rfl, ?_⟩) hHeld ?_
          rotate_left
          · (intro w hSw; (try dsimp only at hSw); go_simp; all_goals (with_reducible rfl))
          try simp only [Act.put, List.setIfInBounds_toArray, List.set_cons_zero, List.set_cons_succ]
          refine held_take (i := 27) (d := 115) (v := ?_) rfl rfl (by kernel_rfl) (by kernel_rfl) (by kernel_rfl) (fun _ _ _ h => h) (Or.inl ⟨by rfl, ?_⟩) hHeld ?_
          rotate_left
          · (intro w hSw; (try dsimp only at hSw); go_simp; all_goals (with_reducible rfl))
          try simp only [Act.put, List.setIfInBounds_toArray, List.set_cons_zero, List.set_cons_succ]
          refine held_take (i := 28) (d := 116) (v := ?_) rfl rfl (by kernel_rfl) (by kernel_rfl) (by kernel_rfl) (fun _ _ _ h => h) (Or.inl ⟨by rfl, ?_⟩) hHeld ?_
          rotate_left
          · (intro w hSw; (try dsimp only at hSw); go_simp; all_goals (with_reducible rfl))
          try simp only [Act.put, List.setIfInBounds_toArray, List.set_cons_zero, List.set_cons_succ]
          refine held_take (i := 29) (d := 117) (v := ?_) rfl rfl (by kernel_rfl) (by kernel_rfl) (by kernel_rfl) (fun _ _ _ h => h) (Or.inl ⟨by rfl, ?_⟩) hHeld ?_
          rotate_left
          · (intro w hSw; (try dsimp only at hSw); go_simp; all_goals (with_reducible rfl))
          try simp only [Act.put, List.setIfInBounds_toArray, List.set_cons_zero, List.set_cons_succ]
          refine held_take (i := 31) (d := 119) (v := ?_) rfl rfl (by kernel_rfl) (by kernel_rfl) (by kernel_rfl) (fun _ _ _ h => h) (Or.inl ⟨by rfl, ?_⟩) hHeld ?_
          rotate_left
          · (intro w hSw; (try dsimp only at hSw); go_simp; all_goals (with_reducible rfl))
          try simp only [Act.put, List.setIfInBounds_toArray, List.set_cons_zero, List.set_cons_succ]
          have hq := next_any _ _ a1 _ (HC11.out)
          rw [HNX.out] at hq
          refine wpAnyH_ready (rs := [30]) (by kernel_rfl) (by simp) ?_
          refine AllReadyH.cons rfl (fun K hK => ?_) AllReadyH.nil
          go_simp
          refine hq.mono ?_
          rintro e w12 ⟨rfl, hb12⟩
          have HO12 : Hid (w12.heap[p5]? = some (.cells (carr ep' sh' (.slice a1' (q + 1) c1') (.slice b1' (q + 1) d1') le') 29)) := heap_kept HO11.out hb12
          have HW12 : Hid (w12.heap[p6]? = some (.cells (rarr ep' sh' (.slice (some ⟨b3, off3, none⟩) (q + 1) c3) le') 25)) := heap_kept HW11.out hb12
          have HC12 : Hid (Cfr w12 (.agg (carr ep' sh' (.slice a1' (q + 1) c1') (.slice b1' (q + 1) d1') le')) ⟨ep', sh', l, le'⟩) := HC11.out.later hb12
          have HR12 : Hid (Rfr w12 (.agg (rarr ep' sh' (.slice (some ⟨b3, off3, none⟩) (q + 1) c3) le')) ⟨ep', sh', l, le'⟩) := HR11.out.later hb12
          have HB12 : Hid (Below w.heap.size w w12) := HB11.out.trans (hb12.mono HB11.out.size)
          have m0 := cell_later hb12 m0
          have mq := cell_later hb12 mq
          clear x0 x1 x2 x3 x4 y0 y1 y2 y3
          obtain ⟨x0, x1, x2, x3, x4⟩ := five_cells HO12.out
          obtain ⟨y0, y1, y2, y3⟩ := four_cells HW12.out
          go_wp2_with fail
          refine hK.out _ _ ?_ (fun hHeld => ?_)
          · exact ⟨⟨x0, x1, x2, x3, x4⟩, ⟨y0, y1, y2, y3⟩, m0, mq⟩
          clear hK K
          try simp only [Act.put, List.setIfInBounds_toArray, List.set_cons_zero, List.set_cons_succ]
          clear hq hb12 HO11 HW11 HC11 HR11 HB11
          refine held_take (i := 32) (d := 120) (v := ?_) rfl rfl (by kernel_rfl) (by kernel_rfl) (by kernel_rfl) (fun _ _ _ h => h) (Or.inl ⟨by rfl, ?_⟩) hHeld ?_
          rotate_left
          · (intro w hSw; (try dsimp only at hSw); go_simp; all_goals (with_reducible rfl))
          try simp only [Act.put, List.setIfInBounds_toArray, List.set_cons_zero, List.set_cons_succ]
          refine held_take (i := 33) (d := 121) (v := ?_) rfl rfl (by kernel_rfl) (by kernel_rfl) (by kernel_rfl) (fun _ _ _ h => h) (Or.inl ⟨by rfl, ?_⟩) hHeld ?_
          rotate_left
          · (intro w hSw; (try dsimp only at hSw); go_simp; all_goals (with_reducible rfl))
          try simp only [Act.put, List.setIfInBounds_toArray, List.set_cons_zero, List.set_cons_succ]
          refine held_take (i := 34) (d := 122) (v := ?_) rfl rfl (by kernel_rfl) (by kernel_rfl) (by kernel_rfl) (fun _ _ _ h => h) (Or.inl ⟨by rfl, ?_⟩) hHeld ?_
          rotate_left
          · (intro w hSw; (try dsimp only at hSw); go_simp; all_goals (with_reducible rfl))
          try simp only [Act.put, List.setIfInBounds_toArray, List.set_cons_zero, List.set_cons_succ]
          refine held_take (i := 35) (d := 123) (v := ?_) rfl rfl (by kernel_rfl) (by kernel_rfl) (by kernel_rfl) (fun _ _ _ h => h) (Or.inl ⟨by rfl, ?_⟩) hHeld ?_
          rotate_left
          · (intro w hSw; (try dsimp only at hSw); go_simp; all_goals (with_reducible rfl))
          try simp only [Act.put, List.setIfInBounds_toArray, List.set_cons_zero, List.set_cons_succ]
          refine held_take (i := 36) (d := 124) (v := ?_) rfl rfl (by kernel_rfl) (by kernel_rfl) (by kernel_rfl) (fun _ _ _ h => h) (Or.inl ⟨by rfl, ?_⟩) hHeld ?_
          rotate_left
          · (intro w hSw; (try dsimp only at hSw); go_simp; all_goals (with_reducible rfl))
          try simp only [Act.put, List.setIfInBounds_toArray, List.set_cons_zero, List.set_cons_succ]
          refine held_take (i := 38) (d := 126) (v := ?_) rfl rfl (by kernel_rfl) (by kernel_rfl) (by kernel_rfl) (fun _ _ _ h => h) (Or.inl ⟨by rfl, ?_⟩) hHeld ?_
          rotate_left
          · (intro w hSw; (try dsimp only at hSw); go_simp; all_goals (with_reducible rfl))
          try simp only [Act.put, List.setIfInBounds_toArray, List.set_cons_zero, List.set_cons_succ]
          have hq := prev_any _ _ a1 _ (HC12.out)
          rw [HPV.out] at hq
          refine wpAnyH_ready (rs := [37]) (by kernel_rfl) (by simp) ?_
          refine AllReadyH.cons rfl (fun K hK => ?_) AllReadyH.nil
          go_simp
          refine hq.mono ?_
          rintro e w13 ⟨rfl, hb13⟩
          have HO13 : Hid (w13.heap[p5]? = some (.cells (carr ep' sh' (.slice a1' (q + 1) c1') (.slice b1' (q + 1) d1') le') 29)) := heap_kept HO12.out hb13
          have HW13 : Hid (w13.heap[p6]? = some (.cells (rarr ep' sh' (.slice (some ⟨b3, off3, none⟩) (q + 1) c3) le') 25)) := heap_kept HW12.out hb13
          have HC13 : Hid (Cfr w13 (.agg (carr ep' sh' (.slice a1' (q + 1) c1') (.slice b1' (q + 1) d1') le')) ⟨ep', sh', l, le'⟩) := HC12.out.later hb13
          have HR13 : Hid (Rfr w13 (.agg (rarr ep' sh' (.slice (some ⟨b3, off3, none⟩) (q + 1) c3) le')) ⟨ep', sh', l, le'⟩) := HR12.out.later hb13
          have HB13 : Hid (Below w.heap.size w w13) := HB12.out.trans (hb13.mono HB12.out.size)
          have m0 := cell_later hb13 m0
          have mq := cell_later hb13 mq
          clear x0 x1 x2 x3 x4 y0 y1 y2 y3
          obtain ⟨x0, x1, x2, x3, x4⟩ := five_cells HO13.out
          obtain ⟨y0, y1, y2, y3⟩ := four_cells HW13.out
          go_wp2_with fail
          refine hK.out _ _ ?_ (fun hHeld => ?_)
          · exact ⟨⟨x0, x1, x2, x3, x4⟩, ⟨y0, y1, y2, y3⟩, m0, mq⟩
          clear hK K
          try simp only [Act.put, List.setIfInBounds_toArray, List.set_cons_zero, List.set_cons_succ]
          clear hq hb13 HO12 HW12 HC12 HR12 HB12
          refine held_take (i := 39) (d := 127) (v := ?_) rfl rfl (by kernel_rfl) (by kernel_rfl) (by kernel_rfl) (fun _ _ _ h => h) (Or.inl ⟨by rfl, ?_⟩) hHeld ?_
          rotate_left
          · (intro w hSw; (try dsimp only at hSw); go_simp; all_goals (with_reducible rfl))
          try simp only [Act.put, List.setIfInBounds_toArray, List.set_cons_zero, List.set_cons_succ]
          refine held_take (i := 40) (d := 128) (v := ?_) rfl rfl (by kernel_rfl) (by kernel_rfl) (by kernel_rfl) (fun _ _ _ h => h) (Or.inl ⟨by rfl, ?_⟩) hHeld ?_
          rotate_left
          · (intro w hSw; (try dsimp only at hSw); go_simp; all_goals (with_reducible rfl))
          try simp only [Act.put, List.setIfInBounds_toArray, List.set_cons_zero, List.set_cons_succ]
          refine held_take (i := 41) (d := 129) (v := ?_) rfl rfl (by kernel_rfl) (by kernel_rfl) (by kernel_rfl) (fun _ _ _ h => h) (Or.inl ⟨by rfl, ?_⟩) hHeld ?_
          rotate_left
          · (intro w hSw; (try dsimp only at hSw); go_simp; all_goals (with_reducible rfl))
          try simp only [Act.put, List.setIfInBounds_toArray, List.set_cons_zero, List.set_cons_succ]
          refine held_take (i := 42) (d := 130) (v := ?_) rfl rfl (by kernel_rfl) (by kernel_rfl) (by kernel_rfl) (fun _ _ _ h => h) (Or.inl ⟨by rfl, ?_⟩) hHeld ?_
          rotate_left
          · (intro w hSw; (try dsimp only at hSw); go_simp; all_goals (with_reducible rfl))
          try simp only [Act.put, List.setIfInBounds_toArray, List.set_cons_zero, List.set_cons_succ]
          refine held_take (i := 43) (d := 131) (v := ?_) rfl rfl (by kernel_rfl) (by kernel_rfl) (by kernel_rfl) (fun _ _ _ h => h) (Or.inl ⟨by rfl, ?_⟩) hHeld ?_
          rotate_left
          · (intro w hSw; (try dsimp only at hSw); go_simp; all_goals (with_reducible rfl))
          try simp only [Act.put, List.setIfInBounds_toArray, List.set_cons_zero, List.set_cons_succ]
          refine held_take (i := 45) (d := 133) (v := ?_) rfl rfl (by kernel_rfl) (by kernel_rfl) (by kernel_rfl) (fun _ _ _ h => h) (Or.inl ⟨by rfl, ?_⟩) hHeld ?_
          rotate_left
          · (intro w hSw; (try dsimp only at hSw); go_simp; all_goals (with_reducible rfl))
          try simp only [Act.put, List.setIfInBounds_toArray, List.set_cons_zero, List.set_cons_succ]
          refine held_take (i := 46) (d := 134) (v := ?_) rfl rfl (by kernel_rfl) (by kernel_rfl) (by kernel_rfl) (fun _ _ _ h => h) (Or.inl ⟨by rfl, ?_⟩) hHeld ?_
          rotate_left
          · (intro w hSw; (try dsimp only at hSw); go_simp; all_goals (with_reducible rfl))
          try simp only [Act.put, List.setIfInBounds_toArray, List.set_cons_zero, List.set_cons_succ]
          have hq := has_any _ _ a1 _ (HC13.out)
          rw [HHA.out] at hq
          refine wpAnyH_ready (rs := [44]) (by kernel_rfl) (by simp) ?_
          refine AllReadyH.cons rfl (fun K hK => ?_) AllReadyH.nil
          go_simp
          refine hq.mono ?_
          rintro e w14 ⟨rfl, hb14⟩
          have HO14 : Hid (w14.heap[p5]? = some (.cells (carr ep' sh' (.slice a1' (q + 1) c1') (.slice b1' (q + 1) d1') le') 29)) := heap_kept HO13.out hb14
          have HW14 : Hid (w14.heap[p6]? = some (.cells (rarr ep' sh' (.slice (some ⟨b3, off3, none⟩) (q + 1) c3) le') 25)) := heap_kept HW13.out hb14
          have HC14 : Hid (Cfr w14 (.agg (carr ep' sh' (.slice a1' (q + 1) c1') (.slice b1' (q + 1) d1') le')) ⟨ep', sh', l, le'⟩) := HC13.out.later hb14
          have HR14 : Hid (Rfr w14 (.agg (rarr ep' sh' (.slice (some ⟨b3, off3, none⟩) (q + 1) c3) le')) ⟨ep', sh', l, le'⟩) := HR13.out.later hb14
          have HB14 : Hid (Below w.heap.size w w14) := HB13.out.trans (hb14.mono HB13.out.size)
          have m0 := cell_later hb14 m0
          have mq := cell_later hb14 mq
          clear x0 x1 x2 x3 x4 y0 y1 y2 y3
          obtain ⟨x0, x1, x2, x3, x4⟩ := five_cells HO14.out
          obtain ⟨y0, y1, y2, y3⟩ := four_cells HW14.out
          go_wp2_with fail
          refine hK.out _ _ ?_ (fun hHeld => ?_)
          · exact ⟨⟨x0, x1, x2, x3, x4⟩, ⟨y0, y1, y2, y3⟩, m0, mq⟩
          clear hK K
          try simp only [Act.put, List.setIfInBounds_toArray, List.set_cons_zero, List.set_cons_succ]
          clear hq hb14 HO13 HW13 HC13 HR13 HB13
          refine held_take (i := 47) (d := 135) (v := ?_) rfl rfl (by kernel_rfl) (by kernel_rfl) (by kernel_rfl) (fun _ _ _ h => h) (Or.inl ⟨by rfl, ?_⟩) hHeld ?_
          rotate_left
          · (intro w hSw; (try dsimp only at hSw); go_simp; all_goals (with_reducible rfl))
          try simp only [Act.put, List.setIfInBounds_toArray, List.set_cons_zero, List.set_cons_succ]
          refine held_take (i := 48) (d := 136) (v := undef) rfl rfl (by kernel_rfl) (by kernel_rfl) (by kernel_rfl) (fun _ _ _ h => h) (Or.inr ⟨by rfl, rfl⟩) hHeld ?_
          try simp only [Act.put, List.setIfInBounds_toArray, List.set_cons_zero, List.set_cons_succ]
          refine held_take (i := 49) (d := 137) (v := undef) rfl rfl (by kernel_rfl) (by kernel_rfl) (by kernel_rfl) (fun _ _ _ h => h) (Or.inr ⟨by rfl, rfl⟩) hHeld ?_
          try simp only [Act.put, List.setIfInBounds_toArray, List.set_cons_zero, List.set_cons_succ]
          refine held_take (i := 50) (d := 138) (v := undef) rfl rfl (by kernel_rfl) (by kernel_rfl) (by kernel_rfl) (fun _ _ _ h => h) (Or.inr ⟨by rfl, rfl⟩) hHeld ?_
          try simp only [Act.put, List.setIfInBounds_toArray, List.set_cons_zero, List.set_cons_succ]
          refine held_take (i := 51) (d := 139) (v := undef) rfl rfl (by kernel_rfl) (by kernel_rfl) (by kernel_rfl) (fun _ _ _ h => h) (Or.inr ⟨by rfl, rfl⟩) hHeld ?_
          try simp only [Act.put, List.setIfInBounds_toArray, List.set_cons_zero, List.set_cons_succ]
          refine held_take (i := 52) (d := 140) (v := undef) rfl rfl (by kernel_rfl) (by kernel_rfl) (by kernel_rfl) (fun _ _ _ h => h) (Or.inr ⟨by rfl, rfl⟩) hHeld ?_
          try simp only [Act.put, List.setIfInBounds_toArray, List.set_cons_zero, List.set_cons_succ]
          refine held_take (i := 53) (d := 141) (v := undef) rfl rfl (by kernel_rfl) (by kernel_rfl) (by kernel_rfl) (fun _ _ _ h => h) (Or.inr ⟨by rfl, rfl⟩) hHeld ?_
          try simp only [Act.put, List.setIfInBounds_toArray, List.set_cons_zero, List.set_cons_succ]
          refine held_take (i := 54) (d := 142) (v := undef) rfl rfl (by kernel_rfl) (by kernel_rfl) (by kernel_rfl) (fun _ _ _ h => h) (Or.inr ⟨by rfl, rfl⟩) hHeld ?_
          try simp only [Act.put, List.setIfInBounds_toArray, List.set_cons_zero, List.set_cons_succ]
          refine held_take (i := 55) (d := 143) (v := undef) rfl rfl (by kernel_rfl) (by kernel_rfl) (by kernel_rfl) (fun _ _ _ h => h) (Or.inr ⟨by rfl, rfl⟩) hHeld ?_
          try simp only [Act.put, List.setIfInBounds_toArray, List.set_cons_zero, List.set_cons_succ]
          refine held_take (i := 56) (d := 144) (v := ?_) rfl rfl (by kernel_rfl) (by kernel_rfl) (by kernel_rfl) (fun _ _ _ h => h) (Or.inl ⟨by rfl, ?_⟩) hHeld ?_
          rotate_left
          · (intro w hSw; (try dsimp only at hSw); go_simp; all_goals (with_reducible rfl))
          try simp only [Act.put, List.setIfInBounds_toArray, List.set_cons_zero, List.set_cons_succ]
          refine held_take (i := 57) (d := 145) (v := ?_) rfl rfl (by kernel_rfl) (by kernel_rfl) (by kernel_rfl) (fun _ _ _ h => h) (Or.inl ⟨by rfl, ?_⟩) hHeld ?_
          rotate_left
          · (intro w hSw; (try dsimp only at hSw); go_simp; all_goals (with_reducible rfl))
          try simp only [Act.put, List.setIfInBounds_toArray, List.set_cons_zero, List.set_cons_succ]
          refine held_take (i := 58) (d := 146) (v := ?_) rfl rfl (by kernel_rfl) (by kernel_rfl) (by kernel_rfl) (fun _ _ _ h => h) (Or.inl ⟨by rfl, ?_⟩) hHeld ?_
          rotate_left
          · (intro w hSw; (try dsimp only at hSw); go_simp; all_goals (with_reducible rfl))
          try simp only [Act.put, List.setIfInBounds_toArray, List.set_cons_zero, List.set_cons_succ]
          refine held_take (i := 59) (d := 147) (v := ?_) rfl rfl (by kernel_rfl) (by kernel_rfl) (by kernel_rfl) (fun _ _ _ h => h) (Or.inl ⟨by rfl, ?_⟩) hHeld ?_
          rotate_left
          · (intro w hSw; (try dsimp only at hSw); go_simp; all_goals (with_reducible rfl))
          try simp only [Act.put, List.setIfInBounds_toArray, List.set_cons_zero, List.set_cons_succ]
          have hq := awake_any w14
          refine wpAnyH_ready (rs := [60]) (by kernel_rfl) (by simp) ?_
          refine AllReadyH.cons rfl (fun K hK => ?_) AllReadyH.nil
          go_simp
          refine hq.mono ?_
          rintro e w15 ⟨rfl, hb15⟩
          have HO15 : Hid (w15.heap[p5]? = some (.cells (carr ep' sh' (.slice a1' (q + 1) c1') (.slice b1' (q + 1) d1') le') 29)) := heap_kept HO14.out hb15
          have HW15 : Hid (w15.heap[p6]? = some (.cells (rarr ep' sh' (.slice (some ⟨b3, off3, none⟩) (q + 1) c3) le') 25)) := heap_kept HW14.out hb15
          have HC15 : Hid (Cfr w15 (.agg (carr ep' sh' (.slice a1' (q + 1) c1') (.slice b1' (q + 1) d1') le')) ⟨ep', sh', l, le'⟩) := HC14.out.later hb15
          have HR15 : Hid (Rfr w15 (.agg (rarr ep' sh' (.slice (some ⟨b3, off3, none⟩) (q + 1) c3) le')) ⟨ep', sh', l, le'⟩) := HR14.out.later hb15
          have HB15 : Hid (Below w.heap.size w w15) := HB14.out.trans (hb15.mono HB14.out.size)
          have m0 := cell_later hb15 m0
          have mq := cell_later hb15 mq
          clear x0 x1 x2 x3 x4 y0 y1 y2 y3
          obtain ⟨x0, x1, x2, x3, x4⟩ := five_cells HO15.out
          obtain ⟨y0, y1, y2, y3⟩ := four_cells HW15.out
          go_wp2_with fail
          refine hK.out _ _ ?_ (fun hHeld => ?_)
          · exact ⟨⟨x0, x1, x2, x3, x4⟩, ⟨y0, y1, y2, y3⟩, m0, mq⟩
          clear hK K
          try simp only [Act.put, List.setIfInBounds_toArray, List.set_cons_zero, List.set_cons_succ]
          clear hq hb15 HO14 HW14 HC14 HR14 HB14
          refine held_take (i := 61) (d := 149) (v := ?_) rfl rfl (by kernel_rfl) (by kernel_rfl) (by kernel_rfl) (fun _ _ _ h => h) (Or.inl ⟨by rfl, ?_⟩) hHeld ?_
          rotate_left
          · (intro w hSw; (try dsimp only at hSw); go_simp; all_goals (with_reducible rfl))
          try simp only [Act.put, List.setIfInBounds_toArray, List.set_cons_zero, List.set_cons_succ]
          refine held_take (i := 62) (d := 4) (v := ?_) rfl rfl (by kernel_rfl) (by kernel_rfl) (by kernel_rfl) (fun _ _ _ h => h) (Or.inl ⟨by rfl, ?_⟩) hHeld ?_
          rotate_left
          · (intro w hSw; (try dsimp only at hSw); go_simp; all_goals (with_reducible rfl))
          try simp only [Act.put, List.setIfInBounds_toArray, List.set_cons_zero, List.set_cons_succ]
          refine wpAnyH_done (by kernel_rfl) ?_ _
          refine NoPanic.normal ?_
          go_wp2
          go_ret
          exact ⟨rfl, HB15.out⟩
        · obtain rfl : k = 0 := by omega
          have HPV : Hid (besideC ⟨ep', sh', l, le'⟩ a1 (-1) = -1) := by rw [Hid, besideC, HPK.out, if_neg (by omega)]; exact HAN.out _ (by omega)
          clear hk3
          go_upto_region 14 with fail
          refine wp_region_noPanic ?_
          refine wp_region_held_drew (S := fun w' => (w'.cell? ⟨p5, 0, none⟩ = some (.int .u64 (ep' : Nat)) ∧ w'.cell? ⟨p5, 1, none⟩ = some (.int .i64 sh') ∧ w'.cell? ⟨p5, 2, none⟩ = some (.slice a1' (q + 1) c1') ∧ w'.cell? ⟨p5, 3, none⟩ = some (.slice b1' (q + 1) d1') ∧ w'.cell? ⟨p5, 4, none⟩ = some (.int .i64 le')) ∧ (w'.cell? ⟨p6, 0, none⟩ = some (.int .u64 (ep' : Nat)) ∧ w'.cell? ⟨p6, 1, none⟩ = some (.int .i64 sh') ∧ w'.cell? ⟨p6, 2, none⟩ = some (.slice (some ⟨b3, off3, none⟩) (q + 1) c3) ∧ w'.cell? ⟨p6, 3, none⟩ = some (.int .i64 le')) ∧ w'.cell? ⟨b3, off3, none⟩ = some (.int .i64 f0) ∧ w'.cell? ⟨b3, off3 + q * 2, none⟩ = some (.int .i64 fl)) (by kernel_rfl) ?_ (fun hHeld => ?_)
          · exact ⟨⟨x0, x1, x2, x3, x4⟩, ⟨y0, y1, y2, y3⟩, m0, mq⟩
          refine held_take (i := 0) (d := 88) (v := ?_) rfl rfl (by kernel_rfl) (by kernel_rfl) (by kernel_rfl) (fun _ _ _ h => h) (Or.inl ⟨by rfl, ?_⟩) hHeld ?_
          rotate_left
          · (intro w hSw; (try dsimp only at hSw); go_simp; all_goals (with_reducible rfl))
          try simp only [Act.put, List.setIfInBounds_toArray, List.set_cons_zero, List.set_cons_succ]
          refine held_take (i := 1) (d := 89) (v := ?_) rfl rfl (by kernel_rfl) (by kernel_rfl) (by kernel_rfl) (fun _ _ _ h => h) (Or.inl ⟨by rfl, ?_⟩) hHeld ?_
          rotate_left
          · (intro w hSw; (try dsimp only at hSw); go_simp; all_goals (with_reducible rfl))
          try simp only [Act.put, List.setIfInBounds_toArray, List.set_cons_zero, List.set_cons_succ]
          refine held_take (i := 2) (d := 90) (v := ?_) rfl rfl (by kernel_rfl) (by kernel_rfl) (by kernel_rfl) (fun _ _ _ h => h) (Or.inl ⟨by rfl, ?_⟩) hHeld ?_
          rotate_left
          · (intro w hSw; (try dsimp only at hSw); go_simp; all_goals (with_reducible rfl))
          try simp only [Act.put, List.setIfInBounds_toArray, List.set_cons_zero, List.set_cons_succ]
          refine held_take (i := 3) (d := 91) (v := ?_) rfl rfl (by kernel_rfl) (by kernel_rfl) (by kernel_rfl) (fun _ _ _ h => h) (Or.inl ⟨by rfl, ?_⟩) hHeld ?_
          rotate_left
          · (intro w hSw; (try dsimp only at hSw); go_simp; all_goals (with_reducible rfl))
          try simp only [Act.put, List.setIfInBounds_toArray, List.set_cons_zero, List.set_cons_succ]
          refine held_take (i := 4) (d := 92) (v := ?_) rfl rfl (by kernel_rfl) (by kernel_rfl) (by kernel_rfl) (fun _ _ _ h => h) (Or.inl ⟨by rfl, ?_⟩) hHeld ?_
          rotate_left
          · (intro w hSw; (try dsimp only at hSw); go_simp; all_goals (with_reducible rfl))
          try simp only [Act.put, List.setIfInBounds_toArray, List.set_cons_zero, List.set_cons_succ]
          refine held_take (i := 6) (d := 94) (v := ?_) rfl rfl (by kernel_rfl) (by kernel_rfl) (by kernel_rfl) (fun _ _ _ h => h) (Or.inl ⟨by rfl, ?_⟩) hHeld ?_
          rotate_left
          · (intro w hSw; (try dsimp only at hSw); go_simp; all_goals (with_reducible rfl))
          try simp only [Act.put, List.setIfInBounds_toArray, List.set_cons_zero, List.set_cons_succ]
          refine held_take (i := 7) (d := 95) (v := ?_) rfl rfl (by kernel_rfl) (by kernel_rfl) (by kernel_rfl) (fun _ _ _ h => h) (Or.inl ⟨by rfl, ?_⟩) hHeld ?_
          rotate_left
          · (intro w hSw; (try dsimp only at hSw); go_simp; all_goals (with_reducible rfl))
          try simp only [Act.put, List.setIfInBounds_toArray, List.set_cons_zero, List.set_cons_succ]
          refine held_take (i := 8) (d := 96) (v := ?_) rfl rfl (by kernel_rfl) (by kernel_rfl) (by kernel_rfl) (fun _ _ _ h => h) (Or.inl ⟨by rfl, ?_⟩) hHeld ?_
          rotate_left
          · (intro w hSw; (try dsimp only at hSw); go_simp; all_goals (with_reducible rfl))
          try simp only [Act.put, List.setIfInBounds_toArray, List.set_cons_zero, List.set_cons_succ]
          refine held_take (i := 9) (d := 97) (v := ?_) rfl rfl (by kernel_rfl) (by kernel_rfl) (by kernel_rfl) (fun _ _ _ h => h) (Or.inl ⟨by rfl, ?_⟩) hHeld ?_
          rotate_left
          · (intro w hSw; (try dsimp only at hSw); go_simp; all_goals (with_reducible rfl))
          try simp only [Act.put, List.setIfInBounds_toArray, List.set_cons_zero, List.set_cons_succ]
          refine held_take (i := 10) (d := 98) (v := ?_) rfl rfl (by kernel_rfl) (by kernel_rfl) (by kernel_rfl) (fun _ _ _ h => h) (Or.inl ⟨by rfl, ?_⟩) hHeld ?_
          rotate_left
          · (intro w hSw; (try dsimp only at hSw); go_simp; all_goals (with_reducible rfl))
          try simp only [Act.put, List.setIfInBounds_toArray, List.set_cons_zero, List.set_cons_succ]
          have hq := head_any _ _  _ (HC9.out.later (Below.refl _ w9).drew)
          rw [HHD.out] at hq
          refine wpAnyH_ready (rs := [5]) (by kernel_rfl) (by simp) ?_
          refine AllReadyH.cons rfl (fun K hK => ?_) AllReadyH.nil
          go_simp
          refine hq.mono ?_
          rintro e w10 ⟨rfl, hb10⟩
          have b10 : Below w9.heap.size w9 w10 := (Below.refl _ w9).drew.trans hb10
          have HO10 : Hid (w10.heap[p5]? = some (.cells (carr ep' sh' (.slice a1' (q + 1) c1') (.slice b1' (q + 1) d1') le') 29)) := heap_kept HO9.out b10
          have HW10 : Hid (w10.heap[p6]? = some (.cells (rarr ep' sh' (.slice (some ⟨b3, off3, none⟩) (q + 1) c3) le') 25)) := heap_kept HW9.out b10
          have HC10 : Hid (Cfr w10 (.agg (carr ep' sh' (.slice a1' (q + 1) c1') (.slice b1' (q + 1) d1') le')) ⟨ep', sh', l, le'⟩) := HC9.out.later b10
          have HR10 : Hid (Rfr w10 (.agg (rarr ep' sh' (.slice (some ⟨b3, off3, none⟩) (q + 1) c3) le')) ⟨ep', sh', l, le'⟩) := HR9.out.later b10
          have HB10 : Hid (Below w.heap.size w w10) := HB9.out.trans (b10.mono HB9.out.size)
          have m0 := cell_later b10 m0
          have mq := cell_later b10 mq
          clear x0 x1 x2 x3 x4 y0 y1 y2 y3
          obtain ⟨x0, x1, x2, x3, x4⟩ := five_cells HO10.out
          obtain ⟨y0, y1, y2, y3⟩ := four_cells HW10.out
          go_wp2_with fail
          refine hK.out _ _ ?_ (fun hHeld => ?_)
          · exact ⟨⟨x0, x1, x2, x3, x4⟩, ⟨y0, y1, y2, y3⟩, m0, mq⟩
          clear hK K
          try simp only [Act.put, List.setIfInBounds_toArray, List.set_cons_zero, List.set_cons_succ]
          clear hq b10 HO9 HW9 HC9 HR9 HB9
          refine held_take (i := 11) (d := 99) (v := ?_) rfl rfl (by kernel_rfl) (by kernel_rfl) (by kernel_rfl) (fun _ _ _ h => h) (Or.inl ⟨by rfl, ?_⟩) hHeld ?_
          rotate_left
          · (intro w hSw; (try dsimp only at hSw); go_simp; all_goals (with_reducible rfl))
          try simp only [Act.put, List.setIfInBounds_toArray, List.set_cons_zero, List.set_cons_succ]
          refine held_take (i := 12) (d := 100) (v := ?_) rfl rfl (by kernel_rfl) (by kernel_rfl) (by kernel_rfl) (fun _ _ _ h => h) (Or.inl ⟨by rfl, ?_⟩) hHeld ?_
          rotate_left
          · (intro w hSw; (try dsimp only at hSw); go_simp; all_goals (with_reducible rfl))
          try simp only [Act.put, List.setIfInBounds_toArray, List.set_cons_zero, List.set_cons_succ]
          refine held_take (i := 13) (d := 101) (v := ?_) rfl rfl (by kernel_rfl) (by kernel_rfl) (by kernel_rfl) (fun _ _ _ h => h) (Or.inl ⟨by rfl, ?_⟩) hHeld ?_
          rotate_left
          · (intro w hSw; (try dsimp only at hSw); go_simp; all_goals (with_reducible rfl))
          try simp only [Act.put, List.setIfInBounds_toArray, List.set_cons_zero, List.set_cons_succ]
          refine held_take (i := 14) (d := 102) (v := ?_) rfl rfl (by kernel_rfl) (by kernel_rfl) (by kernel_rfl) (fun _ _ _ h => h) (Or.inl ⟨by rfl, ?_⟩) hHeld ?_
          rotate_left
          · (intro w hSw; (try dsimp only at hSw); go_simp; all_goals (with_reducible rfl))
          try simp only [Act.put, List.setIfInBounds_toArray, List.set_cons_zero, List.set_cons_succ]
          refine held_take (i := 16) (d := 104) (v := ?_) rfl rfl (by kernel_rfl) (by kernel_rfl) (by kernel_rfl) (fun _ _ _ h => h) (Or.inl ⟨by rfl, ?_⟩) hHeld ?_
          rotate_left
          · (intro w hSw; (try dsimp only at hSw); go_simp; all_goals (with_reducible rfl))
          try simp only [Act.put, List.setIfInBounds_toArray, List.set_cons_zero, List.set_cons_succ]
          refine held_take (i := 17) (d := 105) (v := ?_) rfl rfl (by kernel_rfl) (by kernel_rfl) (by kernel_rfl) (fun _ _ _ h => h) (Or.inl ⟨by rfl, ?_⟩) hHeld ?_
          rotate_left
          · (intro w hSw; (try dsimp only at hSw); go_simp; all_goals (with_reducible rfl))
          try simp only [Act.put, List.setIfInBounds_toArray, List.set_cons_zero, List.set_cons_succ]
          refine held_take (i := 18) (d := 106) (v := ?_) rfl rfl (by kernel_rfl) (by kernel_rfl) (by kernel_rfl) (fun _ _ _ h => h) (Or.inl ⟨by rfl, ?_⟩) hHeld ?_
          rotate_left
          · (intro w hSw; (try dsimp only at hSw); go_simp; all_goals (with_reducible rfl))
          try simp only [Act.put, List.setIfInBounds_toArray, List.set_cons_zero, List.set_cons_succ]
          refine held_take (i := 19) (d := 107) (v := ?_) rfl rfl (by kernel_rfl) (by kernel_rfl) (by kernel_rfl) (fun _ _ _ h => h) (Or.inl ⟨by rfl, ?_⟩) hHeld ?_
          rotate_left
          · (intro w hSw; (try dsimp only at hSw); go_simp; all_goals (with_reducible rfl))
          try simp only [Act.put, List.setIfInBounds_toArray, List.set_cons_zero, List.set_cons_succ]
          refine held_take (i := 20) (d := 108) (v := ?_) rfl rfl (by kernel_rfl) (by kernel_rfl) (by kernel_rfl) (fun _ _ _ h => h) (Or.inl ⟨by rfl, ?_⟩) hHeld ?_
          rotate_left
          · (intro w hSw; (try dsimp only at hSw); go_simp; all_goals (with_reducible rfl))
          try simp only [Act.put, List.setIfInBounds_toArray, List.set_cons_zero, List.set_cons_succ]
          refine held_take (i := 21) (d := 109) (v := ?_) rfl rfl (by kernel_rfl) (by kernel_rfl) (by kernel_rfl) (fun _ _ _ h => h) (Or.inl ⟨by rfl, ?_⟩) hHeld ?_
          rotate_left
          · (intro w hSw; (try dsimp only at hSw); go_simp; all_goals (with_reducible rfl))
          try simp only [Act.put, List.setIfInBounds_toArray, List.set_cons_zero, List.set_cons_succ]
          refine held_take (i := 22) (d := 110) (v := ?_) rfl rfl (by kernel_rfl) (by kernel_rfl) (by kernel_rfl) (fun _ _ _ h => h) (Or.inl ⟨by rfl, ?_⟩) hHeld ?_
          rotate_left
          · (intro w hSw; (try dsimp only at hSw); go_simp; all_goals (with_reducible rfl))
          try simp only [Act.put, List.setIfInBounds_toArray, List.set_cons_zero, List.set_cons_succ]
          refine held_take (i := 23) (d := 111) (v := ?_) rfl rfl (by kernel_rfl) (by kernel_rfl) (by kernel_rfl) (fun _ _ _ h => h) (Or.inl ⟨by rfl, ?_⟩) hHeld ?_
          rotate_left
          · (intro w hSw; (try dsimp only at hSw); go_simp; all_goals (with_reducible rfl))
          try simp only [Act.put, List.setIfInBounds_toArray, List.set_cons_zero, List.set_cons_succ]
          refine held_take (i := 24) (d := 112) (v := ?_) rfl rfl (by kernel_rfl) (by kernel_rfl) (by kernel_rfl) (fun _ _ _ h => h) (Or.inl ⟨by rfl, ?_⟩) hHeld ?_
          rotate_left
          · (intro w hSw; (try dsimp only at hSw); go_simp; all_goals (with_reducible rfl))
          try simp only [Act.put, List.setIfInBounds_toArray, List.set_cons_zero, List.set_cons_succ]
          have hq := tail_any _ _  _ (HC10.out)
          rw [HTL.out] at hq
          refine wpAnyH_ready (rs := [15]) (by kernel_rfl) (by simp) ?_
          refine AllReadyH.cons rfl (fun K hK => ?_) AllReadyH.nil
          go_simp
          refine hq.mono ?_
          rintro e w11 ⟨rfl, hb11⟩
          have HO11 : Hid (w11.heap[p5]? = some (.cells (carr ep' sh' (.slice a1' (q + 1) c1') (.slice b1' (q + 1) d1') le') 29)) := heap_kept HO10.out hb11
          have HW11 : Hid (w11.heap[p6]? = some (.cells (rarr ep' sh' (.slice (some ⟨b3, off3, none⟩) (q + 1) c3) le') 25)) := heap_kept HW10.out hb11
          have HC11 : Hid (Cfr w11 (.agg (carr ep' sh' (.slice a1' (q + 1) c1') (.slice b1' (q + 1) d1') le')) ⟨ep', sh', l, le'⟩) := HC10.out.later hb11
          have HR11 : Hid (Rfr w11 (.agg (rarr ep' sh' (.slice (some ⟨b3, off3, none⟩) (q + 1) c3) le')) ⟨ep', sh', l, le'⟩) := HR10.out.later hb11
          have HB11 : Hid (Below w.heap.size w w11) := HB10.out.trans (hb11.mono HB10.out.size)
          have m0 := cell_later hb11 m0
          have mq := cell_later hb11 mq
          clear x0 x1 x2 x3 x4 y0 y1 y2 y3
          obtain ⟨x0, x1, x2, x3, x4⟩ := five_cells HO11.out
          obtain ⟨y0, y1, y2, y3⟩ := four_cells HW11.out
          go_wp2_with fail
          refine hK.out _ _ ?_ (fun hHeld => ?_)
          · exact ⟨⟨x0, x1, x2, x3, x4⟩, ⟨y0, y1, y2, y3⟩, m0, mq⟩
          clear hK K
          try simp only [Act.put, List.setIfInBounds_toArray, List.set_cons_zero, List.set_cons_succ]
          clear hq hb11 HO10 HW10 HC10 HR10 HB10
          refine held_take (i := 25) (d := 113) (v := ?_) rfl rfl (by kernel_rfl) (by kernel_rfl) (by kernel_rfl) (fun _ _ _ h => h) (Or.inl ⟨by rfl, ?_⟩) hHeld ?_
          rotate_left
          · (intro w hSw; (try dsimp only at hSw); go_simp; all_goals (with_reducible rfl))
          try simp only [Act.put, List.setIfInBounds_toArray, List.set_cons_zero, List.set_cons_succ]
          refine held_take (i := 26) (d := 114) (v := ?_) rfl rfl (by kernel_rfl) (by kernel_rfl) (by kernel_rfl) (fun _ _ _ h => h) (Or.inl ⟨by rfl, ?_⟩) hHeld ?_
          rotate_left
          · (intro w hSw; (try dsimp only at hSw); go_simp; all_goals (with_reducible rfl))
          try simp only [Act.put, List.setIfInBounds_toArray, List.set_cons_zero, List.set_cons_succ]
          refine held_take (i := 27) (d := 115) (v := ?_) rfl rfl (by kernel_rfl) (by kernel_rfl) (by kernel_rfl) (fun _ _ _ h => h) (Or.inl ⟨by rfl, ?_⟩) hHeld ?_
          rotate_left
          · (intro w hSw; (try dsimp only at hSw); go_simp; all_goals (with_reducible rfl))
          try simp only [Act.put, List.setIfInBounds_toArray, List.set_cons_zero, List.set_cons_succ]
          refine held_take (i := 28) (d := 116) (v := ?_) rfl rfl (by kernel_rfl) (by kernel_rfl) (by kernel_rfl) (fun _ _ _ h => h) (Or.inl ⟨by rfl, ?_⟩) hHeld ?_
          rotate_left
          · (intro w hSw; (try dsimp only at hSw); go_simp; all_goals (with_reducible rfl))
          try simp only [Act.put, List.setIfInBounds_toArray, List.set_cons_zero, List.set_cons_succ]
          refine held_take (i := 29) (d := 117) (v := ?_) rfl rfl (by kernel_rfl) (by kernel_rfl) (by kernel_rfl) (fun _ _ _ h => h) (Or.inl ⟨by rfl, ?_⟩) hHeld ?_
          rotate_left
          · (intro w hSw; (try dsimp only at hSw); go_simp; all_goals (with_reducible rfl))
          try simp only [Act.put, List.setIfInBounds_toArray, List.set_cons_zero, List.set_cons_succ]
          refine held_take (i := 31) (d := 119) (v := ?_) rfl rfl (by kernel_rfl) (by kernel_rfl) (by kernel_rfl) (fun _ _ _ h => h) (Or.inl ⟨by rfl, ?_⟩) hHeld ?_
          rotate_left
          · (intro w hSw; (try dsimp only at hSw); go_simp; all_goals (with_reducible rfl))
          try simp only [Act.put, List.setIfInBounds_toArray, List.set_cons_zero, List.set_cons_succ]
          have hq := next_any _ _ a1 _ (HC11.out)
          rw [HNX.out] at hq
          refine wpAnyH_ready (rs := [30]) (by kernel_rfl) (by simp) ?_
          refine AllReadyH.cons rfl (fun K hK => ?_) AllReadyH.nil
          go_simp
          refine hq.mono ?_
          rintro e w12 ⟨rfl, hb12⟩
          have HO12 : Hid (w12.heap[p5]? = some (.cells (carr ep' sh' (.slice a1' (q + 1) c1') (.slice b1' (q + 1) d1') le') 29)) := heap_kept HO11.out hb12
          have HW12 : Hid (w12.heap[p6]? = some (.cells (rarr ep' sh' (.slice (some ⟨b3, off3, none⟩) (q + 1) c3) le') 25)) := heap_kept HW11.out hb12
          have HC12 : Hid (Cfr w12 (.agg (carr ep' sh' (.slice a1' (q + 1) c1') (.slice b1' (q + 1) d1') le')) ⟨ep', sh', l, le'⟩) := HC11.out.later hb12
          have HR12 : Hid (Rfr w12 (.agg (rarr ep' sh' (.slice (some ⟨b3, off3, none⟩) (q + 1) c3) le')) ⟨ep', sh', l, le'⟩) := HR11.out.later hb12
          have HB12 : Hid (Below w.heap.size w w12) := HB11.out.trans (hb12.mono HB11.out.size)
          have m0 := cell_later hb12 m0
          have mq := cell_later hb12 mq
          clear x0 x1 x2 x3 x4 y0 y1 y2 y3
          obtain ⟨x0, x1, x2, x3, x4⟩ := five_cells HO12.out
          obtain ⟨y0, y1, y2, y3⟩ := four_cells HW12.out
          go_wp2_with fail
          refine hK.out _ _ ?_ (fun hHeld => ?_)
          · exact ⟨⟨x0, x1, x2, x3, x4⟩, ⟨y0, y1, y2, y3⟩, m0, mq⟩
          clear hK K
          try simp only [Act.put, List.setIfInBounds_toArray, List.set_cons_zero, List.set_cons_succ]
          clear hq hb12 HO11 HW11 HC11 HR11 HB11
          refine held_take (i := 32) (d := 120) (v := ?_) rfl rfl (by kernel_rfl) (by kernel_rfl) (by kernel_rfl) (fun _ _ _ h => h) (Or.inl ⟨by rfl, ?_⟩) hHeld ?_
          rotate_left
          · (intro w hSw; (try dsimp only at hSw); go_simp; all_goals (with_reducible rfl))
          try simp only [Act.put, List.setIfInBounds_toArray, List.set_cons_zero, List.set_cons_succ]
          refine held_take (i := 33) (d := 121) (v := ?_) rfl rfl (by kernel_rfl) (by kernel_rfl) (by kernel_rfl) (fun _ _ _ h => h) (Or.inl ⟨by rfl, ?_⟩) hHeld ?_
          rotate_left
          · (intro w hSw; (try dsimp only at hSw); go_simp; all_goals (with_reducible rfl))
          try simp only [Act.put, List.setIfInBounds_toArray, List.set_cons_zero, List.set_cons_succ]
          refine held_take (i := 34) (d := 122) (v := ?_) rfl rfl (by kernel_rfl) (by kernel_rfl) (by kernel_rfl) (fun _ _ _ h => h) (Or.inl ⟨by rfl, ?_⟩) hHeld ?_
          rotate_left
          · (intro w hSw; (try dsimp only at hSw); go_simp; all_goals (with_reducible rfl))
          try simp only [Act.put, List.setIfInBounds_toArray, List.set_cons_zero, List.set_cons_succ]
          refine held_take (i := 35) (d := 123) (v := ?_) rfl rfl (by kernel_rfl) (by kernel_rfl) (by kernel_rfl) (fun _ _ _ h => h) (Or.inl ⟨by rfl, ?_⟩) hHeld ?_
          rotate_left
          · (intro w hSw; (try dsimp only at hSw); go_simp; all_goals (with_reducible rfl))
          try simp only [Act.put, List.setIfInBounds_toArray, List.set_cons_zero, List.set_cons_succ]
          refine held_take (i := 36) (d := 124) (v := ?_) rfl rfl (by kernel_rfl) (by kernel_rfl) (by kernel_rfl) (fun _ _ _ h => h) (Or.inl ⟨by rfl, ?_⟩) hHeld ?_
          rotate_left
          · (intro w hSw; (try dsimp only at hSw); go_simp; all_goals (with_reducible rfl))
          try simp only [Act.put, List.setIfInBounds_toArray, List.set_cons_zero, List.set_cons_succ]
          refine held_take (i := 38) (d := 126) (v := ?_) rfl rfl (by kernel_rfl) (by kernel_rfl) (by kernel_rfl) (fun _ _ _ h => h) (Or.inl ⟨by rfl, ?_⟩) hHeld ?_
          rotate_left
          · (intro w hSw; (try dsimp only at hSw); go_simp; all_goals (with_reducible rfl))
          try simp only [Act.put, List.setIfInBounds_toArray, List.set_cons_zero, List.set_cons_succ]
          have hq := prev_any _ _ a1 _ (HC12.out)
          rw [HPV.out] at hq
          refine wpAnyH_ready (rs := [37]) (by kernel_rfl) (by simp) ?_
          refine AllReadyH.cons rfl (fun K hK => ?_) AllReadyH.nil
          go_simp
          refine hq.mono ?_
          rintro e w13 ⟨rfl, hb13⟩
          have HO13 : Hid (w13.heap[p5]? = some (.cells (carr ep' sh' (.slice a1' (q + 1) c1') (.slice b1' (q + 1) d1') le') 29)) := heap_kept HO12.out hb13
          have HW13 : Hid (w13.heap[p6]? = some (.cells (rarr ep' sh' (.slice (some ⟨b3, off3, none⟩) (q + 1) c3) le') 25)) := heap_kept HW12.out hb13
          have HC13 : Hid (Cfr w13 (.agg (carr ep' sh' (.slice a1' (q + 1) c1') (.slice b1' (q + 1) d1') le')) ⟨ep', sh', l, le'⟩) := HC12.out.later hb13
          have HR13 : Hid (Rfr w13 (.agg (rarr ep' sh' (.slice (some ⟨b3, off3, none⟩) (q + 1) c3) le')) ⟨ep', sh', l, le'⟩) := HR12.out.later hb13
          have HB13 : Hid (Below w.heap.size w w13) := HB12.out.trans (hb13.mono HB12.out.size)
          have m0 := cell_later hb13 m0
          have mq := cell_later hb13 mq
          clear x0 x1 x2 x3 x4 y0 y1 y2 y3
          obtain ⟨x0, x1, x2, x3, x4⟩ := five_cells HO13.out
          obtain ⟨y0, y1, y2, y3⟩ := four_cells HW13.out
          go_wp2_with fail
          refine hK.out _ _ ?_ (fun hHeld => ?_)
          · exact ⟨⟨x0, x1, x2, x3, x4⟩, ⟨y0, y1, y2, y3⟩, m0, mq⟩
          clear hK K
          try simp only [Act.put, List.setIfInBounds_toArray, List.set_cons_zero, List.set_cons_succ]
          clear hq hb13 HO12 HW12 HC12 HR12 HB12
          refine held_take (i := 39) (d := 127) (v := ?_) rfl rfl (by kernel_rfl) (by kernel_rfl) (by kernel_rfl) (fun _ _ _ h => h) (Or.inl ⟨by rfl, ?_⟩) hHeld ?_
          rotate_left
          · (intro w hSw; (try dsimp only at hSw); go_simp; all_goals (with_reducible rfl))
          try simp only [Act.put, List.setIfInBounds_toArray, List.set_cons_zero, List.set_cons_succ]
          refine held_take (i := 40) (d := 128) (v := ?_) rfl rfl (by kernel_rfl) (by kernel_rfl) (by kernel_rfl) (fun _ _ _ h => h) (Or.inl ⟨by rfl, ?_⟩) hHeld ?_
          rotate_left
          · (intro w hSw; (try dsimp only at hSw); go_simp; all_goals (with_reducible rfl))
          try simp only [Act.put, List.setIfInBounds_toArray, List.set_cons_zero, List.set_cons_succ]
          refine held_take (i := 41) (d := 129) (v := ?_) rfl rfl (by kernel_rfl) (by kernel_rfl) (by kernel_rfl) (fun _ _ _ h => h) (Or.inl ⟨by rfl, ?_⟩) hHeld ?_
          rotate_left
          · (intro w hSw; (try dsimp only at hSw); go_simp; all_goals (with_reducible rfl))
          try simp only [Act.put, List.setIfInBounds_toArray, List.set_cons_zero, List.set_cons_succ]
          refine held_take (i := 42) (d := 130) (v := ?_) rfl rfl (by kernel_rfl) (by kernel_rfl) (by kernel_rfl) (fun _ _ _ h => h) (Or.inl ⟨by rfl, ?_⟩) hHeld ?_
          rotate_left
          · (intro w hSw; (try dsimp only at hSw); go_simp; all_goals (with_reducible rfl))
          try simp only [Act.put, List.setIfInBounds_toArray, List.set_cons_zero, List.set_cons_succ]
          refine held_take (i := 43) (d := 131) (v := ?_) rfl rfl (by kernel_rfl) (by kernel_rfl) (by kernel_rfl) (fun _ _ _ h => h) (Or.inl ⟨by rfl, ?_⟩) hHeld ?_
          rotate_left
          · (intro w hSw; (try dsimp only at hSw); go_simp; all_goals (with_reducible rfl))
          try simp only [Act.put, List.setIfInBounds_toArray, List.set_cons_zero, List.set_cons_succ]
          refine held_take (i := 45) (d := 133) (v := ?_) rfl rfl (by kernel_rfl) (by kernel_rfl) (by kernel_rfl) (fun _ _ _ h => h) (Or.inl ⟨by rfl, ?_⟩) hHeld ?_
          rotate_left
          · (intro w hSw; (try dsimp only at hSw); go_simp; all_goals (with_reducible rfl))
          try simp only [Act.put, List.setIfInBounds_toArray, List.set_cons_zero, List.set_cons_succ]
          refine held_take (i := 46) (d := 134) (v := ?_) rfl rfl (by kernel_rfl) (by kernel_rfl) (by kernel_rfl) (fun _ _ _ h => h) (Or.inl ⟨by rfl, ?_⟩) hHeld ?_
          rotate_left
          · (intro w hSw; (try dsimp only at hSw); go_simp; all_goals (with_reducible rfl))
          try simp only [Act.put, List.setIfInBounds_toArray, List.set_cons_zero, List.set_cons_succ]
          have hq := has_any _ _ a1 _ (HC13.out)
          rw [HHA.out] at hq
          refine wpAnyH_ready (rs := [44]) (by kernel_rfl) (by simp) ?_
          refine AllReadyH.cons rfl (fun K hK => ?_) AllReadyH.nil
          go_simp
          refine hq.mono ?_
          rintro e w14 ⟨rfl, hb14⟩
          have HO14 : Hid (w14.heap[p5]? = some (.cells (carr ep' sh' (.slice a1' (q + 1) c1') (.slice b1' (q + 1) d1') le') 29)) := heap_kept HO13.out hb14
          have HW14 : Hid (w14.heap[p6]? = some (.cells (rarr ep' sh' (.slice (some ⟨b3, off3, none⟩) (q + 1) c3) le') 25)) := heap_kept HW13.out hb14
          have HC14 : Hid (Cfr w14 (.agg (carr ep' sh' (.slice a1' (q + 1) c1') (.slice b1' (q + 1) d1') le')) ⟨ep', sh', l, le'⟩) := HC13.out.later hb14
          have HR14 : Hid (Rfr w14 (.agg (rarr ep' sh' (.slice (some ⟨b3, off3, none⟩) (q + 1) c3) le')) ⟨ep', sh', l, le'⟩) := HR13.out.later hb14
          have HB14 : Hid (Below w.heap.size w w14) := HB13.out.trans (hb14.mono HB13.out.size)
          have m0 := cell_later hb14 m0
          have mq := cell_later hb14 mq
          clear x0 x1 x2 x3 x4 y0 y1 y2 y3
          obtain ⟨x0, x1, x2, x3, x4⟩ := five_cells HO14.out
          obtain ⟨y0, y1, y2, y3⟩ := four_cells HW14.out
          go_wp2_with fail
          refine hK.out _ _ ?_ (fun hHeld => ?_)
          · exact ⟨⟨x0, x1, x2, x3, x4⟩, ⟨y0, y1, y2, y3⟩, m0, mq⟩
          clear hK K
          try simp only [Act.put, List.setIfInBounds_toArray, List.set_cons_zero, List.set_cons_succ]
          clear hq hb14 HO13 HW13 HC13 HR13 HB13
          refine held_take (i := 47) (d := 135) (v := ?_) rfl rfl (by kernel_rfl) (by kernel_rfl) (by kernel_rfl) (fun _ _ _ h => h) (Or.inl ⟨by rfl, ?_⟩) hHeld ?_
          rotate_left
          · (intro w hSw; (try dsimp only at hSw); go_simp; all_goals (with_reducible rfl))
          try simp only [Act.put, List.setIfInBounds_toArray, List.set_cons_zero, List.set_cons_succ]
          refine held_take (i := 48) (d := 136) (v := undef) rfl rfl (by kernel_rfl) (by kernel_rfl) (by kernel_rfl) (fun _ _ _ h => h) (Or.inr ⟨by rfl, rfl⟩) hHeld ?_
          try simp only [Act.put, List.setIfInBounds_toArray, List.set_cons_zero, List.set_cons_succ]
          refine held_take (i := 49) (d := 137) (v := undef) rfl rfl (by kernel_rfl) (by kernel_rfl) (by kernel_rfl) (fun _ _ _ h => h) (Or.inr ⟨by rfl, rfl⟩) hHeld ?_
          try simp only [Act.put, List.setIfInBounds_toArray, List.set_cons_zero, List.set_cons_succ]
          refine held_take (i := 50) (d := 138) (v := undef) rfl rfl (by kernel_rfl) (by kernel_rfl) (by kernel_rfl) (fun _ _ _ h => h) (Or.inr ⟨by rfl, rfl⟩) hHeld ?_
          try simp only [Act.put, List.setIfInBounds_toArray, List.set_cons_zero, List.set_cons_succ]
          refine held_take (i := 51) (d := 139) (v := undef) rfl rfl (by kernel_rfl) (by kernel_rfl) (by kernel_rfl) (fun _ _ _ h => h) (Or.inr ⟨by rfl, rfl⟩) hHeld ?_
          try simp only [Act.put, List.setIfInBounds_toArray, List.set_cons_zero, List.set_cons_succ]
          refine held_take (i := 52) (d := 140) (v := undef) rfl rfl (by kernel_rfl) (by kernel_rfl) (by kernel_rfl) (fun _ _ _ h => h) (Or.inr ⟨by rfl, rfl⟩) hHeld ?_
          try simp only [Act.put, List.setIfInBounds_toArray, List.set_cons_zero, List.set_cons_succ]
          refine held_take (i := 53) (d := 141) (v := undef) rfl rfl (by kernel_rfl) (by kernel_rfl) (by kernel_rfl) (fun _ _ _ h => h) (Or.inr ⟨by rfl, rfl⟩) hHeld ?_
          try simp only [Act.put, List.setIfInBounds_toArray, List.set_cons_zero, List.set_cons_succ]
          refine held_take (i := 54) (d := 142) (v := undef) rfl rfl (by kernel_rfl) (by kernel_rfl) (by kernel_rfl) (fun _ _ _ h => h) (Or.inr ⟨by rfl, rfl⟩) hHeld ?_
          try simp only [Act.put, List.setIfInBounds_toArray, List.set_cons_zero, List.set_cons_succ]
          refine held_take (i := 55) (d := 143) (v := undef) rfl rfl (by kernel_rfl) (by kernel_rfl) (by kernel_rfl) (fun _ _ _ h => h) (Or.inr ⟨by rfl, rfl⟩) hHeld ?_
          try simp only [Act.put, List.setIfInBounds_toArray, List.set_cons_zero, List.set_cons_succ]
          refine held_take (i := 56) (d := 144) (v := ?_) rfl rfl (by kernel_rfl) (by kernel_rfl) (by kernel_rfl) (fun _ _ _ h => h) (Or.inl ⟨by rfl, ?_⟩) hHeld ?_
          rotate_left
          · (intro w hSw; (try dsimp only at hSw); go_simp; all_goals (with_reducible rfl))
          try simp only [Act.put, List.setIfInBounds_toArray, List.set_cons_zero, List.set_cons_succ]
          refine held_take (i := 57) (d := 145) (v := ?_) rfl rfl (by kernel_rfl) (by kernel_rfl) (by kernel_rfl) (fun _ _ _ h => h) (Or.inl ⟨by rfl, ?_⟩) hHeld ?_
          rotate_left
          · (intro w hSw; (try dsimp only at hSw); go_simp; all_goals (with_reducible rfl))
          try simp only [Act.put, List.setIfInBounds_toArray, List.set_cons_zero, List.set_cons_succ]
          refine held_take (i := 58) (d := 146) (v := ?_) rfl rfl (by kernel_rfl) (by kernel_rfl) (by kernel_rfl) (fun _ _ _ h => h) (Or.inl ⟨by rfl, ?_⟩) hHeld ?_
          rotate_left
          · (intro w hSw; (try dsimp only at hSw); go_simp; all_goals (with_reducible rfl))
          try simp only [Act.put, List.setIfInBounds_toArray, List.set_cons_zero, List.set_cons_succ]
          refine held_take (i := 59) (d := 147) (v := ?_) rfl rfl (by kernel_rfl) (by kernel_rfl) (by kernel_rfl) (fun _ _ _ h => h) (Or.inl ⟨by rfl, ?_⟩) hHeld ?_
          rotate_left
          · (intro w hSw; (try dsimp only at hSw); go_simp; all_goals (with_reducible rfl))
          try simp only [Act.put, List.setIfInBounds_toArray, List.set_cons_zero, List.set_cons_succ]
          have hq := awake_any w14
          refine wpAnyH_ready (rs := [60]) (by kernel_rfl) (by simp) ?_
          refine AllReadyH.cons rfl (fun K hK => ?_) AllReadyH.nil
          go_simp
          refine hq.mono ?_
          rintro e w15 ⟨rfl, hb15⟩
          have HO15 : Hid (w15.heap[p5]? = some (.cells (carr ep' sh' (.slice a1' (q + 1) c1') (.slice b1' (q + 1) d1') le') 29)) := heap_kept HO14.out hb15
          have HW15 : Hid (w15.heap[p6]? = some (.cells (rarr ep' sh' (.slice (some ⟨b3, off3, none⟩) (q + 1) c3) le') 25)) := heap_kept HW14.out hb15
          have HC15 : Hid (Cfr w15 (.agg (carr ep' sh' (.slice a1' (q + 1) c1') (.slice b1' (q + 1) d1') le')) ⟨ep', sh', l, le'⟩) := HC14.out.later hb15
          have HR15 : Hid (Rfr w15 (.agg (rarr ep' sh' (.slice (some ⟨b3, off3, none⟩) (q + 1) c3) le')) ⟨ep', sh', l, le'⟩) := HR14.out.later hb15
          have HB15 : Hid (Below w.heap.size w w15) := HB14.out.trans (hb15.mono HB14.out.size)
          have m0 := cell_later hb15 m0
          have mq := cell_later hb15 mq
          clear x0 x1 x2 x3 x4 y0 y1 y2 y3
          obtain ⟨x0, x1, x2, x3, x4⟩ := five_cells HO15.out
          obtain ⟨y0, y1, y2, y3⟩ := four_cells HW15.out
          go_wp2_with fail
          refine hK.out _ _ ?_ (fun hHeld => ?_)
          · exact ⟨⟨x0, x1, x2, x3, x4⟩, ⟨y0, y1, y2, y3⟩, m0, mq⟩
          clear hK K
          try simp only [Act.put, List.setIfInBounds_toArray, List.set_cons_zero, List.set_cons_succ]
          clear hq hb15 HO14 HW14 HC14 HR14 HB14
          refine held_take (i := 61) (d := 149) (v := ?_) rfl rfl (by kernel_rfl) (by kernel_rfl) (by kernel_rfl) (fun _ _ _ h => h) (Or.inl ⟨by rfl, ?_⟩) hHeld ?_
          rotate_left
          · (intro w hSw; (try dsimp only at hSw); go_simp; all_goals (with_reducible rfl))
          try simp only [Act.put, List.setIfInBounds_toArray, List.set_cons_zero, List.set_cons_succ]
          refine held_take (i := 62) (d := 4) (v := ?_) rfl rfl (by kernel_rfl) (by kernel_rfl) (by kernel_rfl) (fun _ _ _ h => h) (Or.inl ⟨by rfl, ?_⟩) hHeld ?_
          rotate_left
          · (intro w hSw; (try dsimp only at hSw); go_simp; all_goals (with_reducible rfl))
          try simp only [Act.put, List.setIfInBounds_toArray, List.set_cons_zero, List.set_cons_succ]
          refine wpAnyH_done (by kernel_rfl) ?_ _
          refine NoPanic.normal ?_
          go_wp2
          go_ret
          exact ⟨rfl, HB15.out⟩
      · have HNX : Hid (besideC ⟨ep', sh', l, le'⟩ a1 1 = -1) := by rw [Hid, besideC, HPK.out, if_neg (by omega)]; exact HAN.out _ (by omega)
        by_cases hk7 : 0 < k
        · obtain ⟨j, rfl⟩ : ∃ j, k = j + 1 := ⟨k - 1, by omega⟩
          obtain ⟨pv, hpv⟩ : ∃ pv, (nodes l)[j]? = some pv := ⟨_, List.getElem?_eq_getElem (by rw [HNL.out]; omega)⟩
          have HPV : Hid (besideC ⟨ep', sh', l, le'⟩ a1 (-1) = pv) := by rw [Hid, besideC, HPK.out, if_neg (by omega), show (((j + 1 : Nat) : Int) + -1) = (j : Int) by omega]; exact HAT.out j (by omega) pv hpv
          have mpv := HMM.out j pv hpv
          have hwj : IntKind.i64.wrap (j : Int) = j := by simp [IntKind.wrap, IntKind.bits]; omega
          clear hpv hk3
          go_upto_region 14 with fail
          refine wp_region_noPanic ?_
          refine wp_region_held_drew (S := fun w' => (w'.cell? ⟨p5, 0, none⟩ = some (.int .u64 (ep' : Nat)) ∧ w'.cell? ⟨p5, 1, none⟩ = some (.int .i64 sh') ∧ w'.cell? ⟨p5, 2, none⟩ = some (.slice a1' (q + 1) c1') ∧ w'.cell? ⟨p5, 3, none⟩ = some (.slice b1' (q + 1) d1') ∧ w'.cell? ⟨p5, 4, none⟩ = some (.int .i64 le')) ∧ (w'.cell? ⟨p6, 0, none⟩ = some (.int .u64 (ep' : Nat)) ∧ w'.cell? ⟨p6, 1, none⟩ = some (.int .i64 sh') ∧ w'.cell? ⟨p6, 2, none⟩ = some (.slice (some ⟨b3, off3, none⟩) (q + 1) c3) ∧ w'.cell? ⟨p6, 3, none⟩ = some (.int .i64 le')) ∧ w'.cell? ⟨b3, off3, none⟩ = some (.int .i64 f0) ∧ w'.cell? ⟨b3, off3 + q * 2, none⟩ = some (.int .i64 fl)) (by kernel_rfl) ?_ (fun hHeld => ?_)
          · exact ⟨⟨x0, x1, x2, x3, x4⟩, ⟨y0, y1, y2, y3⟩, m0, mq⟩
          refine held_take (i := 0) (d := 88) (v := ?_) rfl rfl (by kernel_rfl) (by kernel_rfl) (by kernel_rfl) (fun _ _ _ h => h) (Or.inl ⟨by rfl, ?_⟩) hHeld ?_
          rotate_left
          · (intro w hSw; (try dsimp only at hSw); go_simp; all_goals (with_reducible rfl))
          try simp only [Act.put, List.setIfInBounds_toArray, List.set_cons_zero, List.set_cons_succ]
          refine held_take (i := 1) (d := 89) (v := ?_) rfl rfl (by kernel_rfl) (by kernel_rfl) (by kernel_rfl) (fun _ _ _ h => h) (Or.inl ⟨by rfl, ?_⟩) hHeld ?_
          rotate_left
          · (intro w hSw; (try dsimp only at hSw); go_simp; all_goals (with_reducible rfl))
          try simp only [Act.put, List.setIfInBounds_toArray, List.set_cons_zero, List.set_cons_succ]
          refine held_take (i := 2) (d := 90) (v := ?_) rfl rfl (by kernel_rfl) (by kernel_rfl) (by kernel_rfl) (fun _ _ _ h => h) (Or.inl ⟨by rfl, ?_⟩) hHeld ?_
          rotate_left
          · (intro w hSw; (try dsimp only at hSw); go_simp; all_goals (with_reducible rfl))
          try simp only [Act.put, List.setIfInBounds_toArray, List.set_cons_zero, List.set_cons_succ]
          refine held_take (i := 3) (d := 91) (v := ?_) rfl rfl (by kernel_rfl) (by kernel_rfl) (by kernel_rfl) (fun _ _ _ h => h) (Or.inl ⟨by rfl, ?_⟩) hHeld ?_
          rotate_left
          · (intro w hSw; (try dsimp only at hSw); go_simp; all_goals (with_reducible rfl))
          try simp only [Act.put, List.setIfInBounds_toArray, List.set_cons_zero, List.set_cons_succ]
          refine held_take (i := 4) (d := 92) (v := ?_) rfl rfl (by kernel_rfl) (by kernel_rfl) (by kernel_rfl) (fun _ _ _ h => h) (Or.inl ⟨by rfl, ?_⟩) hHeld ?_
          rotate_left
          · (intro w hSw; (try dsimp only at hSw); go_simp; all_goals (with_reducible rfl))
          try simp only [Act.put, List.setIfInBounds_toArray, List.set_cons_zero, List.set_cons_succ]
          refine held_take (i := 6) (d := 94) (v := ?_) rfl rfl (by kernel_rfl) (by kernel_rfl) (by kernel_rfl) (fun _ _ _ h => h) (Or.inl ⟨by rfl, ?_⟩) hHeld ?_
          rotate_left
          · (intro w hSw; (try dsimp only at hSw); go_simp; all_goals (with_reducible rfl))
          try simp only [Act.put, List.setIfInBounds_toArray, List.set_cons_zero, List.set_cons_succ]
          refine held_take (i := 7) (d := 95) (v := ?_) rfl rfl (by kernel_rfl) (by kernel_rfl) (by kernel_rfl) (fun _ _ _ h => h) (Or.inl ⟨by rfl, ?_⟩) hHeld ?_
          rotate_left
          · (intro w hSw; (try dsimp only at hSw); go_simp; all_goals (with_reducible rfl))
          try simp only [Act.put, List.setIfInBounds_toArray, List.set_cons_zero, List.set_cons_succ]
          refine held_take (i := 8) (d := 96) (v := ?_) rfl rfl (by kernel_rfl) (by kernel_rfl) (by kernel_rfl) (fun _ _ _ h => h) (Or.inl ⟨by rfl, ?_⟩) hHeld ?_
          rotate_left
          · (intro w hSw; (try dsimp only at hSw); go_simp; all_goals (with_reducible rfl))
          try simp only [Act.put, List.setIfInBounds_toArray, List.set_cons_zero, List.set_cons_succ]
          refine held_take (i := 9) (d := 97) (v := ?_) rfl rfl (by kernel_rfl) (by kernel_rfl) (by kernel_rfl) (fun _ _ _ h => h) (Or.inl ⟨by rfl, ?_⟩) hHeld ?_
          rotate_left
          · (intro w hSw; (try dsimp only at hSw); go_simp; all_goals (with_reducible rfl))
          try simp only [Act.put, List.setIfInBounds_toArray, List.set_cons_zero, List.set_cons_succ]
          refine held_take (i := 10) (d := 98) (v := ?_) rfl rfl (by kernel_rfl) (by kernel_rfl) (by kernel_rfl) (fun _ _ _ h => h) (Or.inl ⟨by rfl, ?_⟩) hHeld ?_
          rotate_left
          · (intro w hSw; (try dsimp only at hSw); go_simp; all_goals (with_reducible rfl))
          try simp only [Act.put, List.setIfInBounds_toArray, List.set_cons_zero, List.set_cons_succ]
          have hq := head_any _ _  _ (HC9.out.later (Below.refl _ w9).drew)
          rw [HHD.out] at hq
          refine wpAnyH_ready (rs := [5]) (by kernel_rfl) (by simp) ?_
          refine AllReadyH.cons rfl (fun K hK => ?_) AllReadyH.nil
          go_simp
          refine hq.mono ?_
          rintro e w10 ⟨rfl, hb10⟩
          have b10 : Below w9.heap.size w9 w10 := (Below.refl _ w9).drew.trans hb10
          have HO10 : Hid (w10.heap[p5]? = some (.cells (carr ep' sh' (.slice a1' (q + 1) c1') (.slice b1' (q + 1) d1') le') 29)) := heap_kept HO9.out b10
          have HW10 : Hid (w10.heap[p6]? = some (.cells (rarr ep' sh' (.slice (some ⟨b3, off3, none⟩) (q + 1) c3) le') 25)) := heap_kept HW9.out b10
          have HC10 : Hid (Cfr w10 (.agg (carr ep' sh' (.slice a1' (q + 1) c1') (.slice b1' (q + 1) d1') le')) ⟨ep', sh', l, le'⟩) := HC9.out.later b10
          have HR10 : Hid (Rfr w10 (.agg (rarr ep' sh' (.slice (some ⟨b3, off3, none⟩) (q + 1) c3) le')) ⟨ep', sh', l, le'⟩) := HR9.out.later b10
          have HB10 : Hid (Below w.heap.size w w10) := HB9.out.trans (b10.mono HB9.out.size)
          have m0 := cell_later b10 m0
          have mq := cell_later b10 mq
          clear x0 x1 x2 x3 x4 y0 y1 y2 y3
          obtain ⟨x0, x1, x2, x3, x4⟩ := five_cells HO10.out
          obtain ⟨y0, y1, y2, y3⟩ := four_cells HW10.out
          go_wp2_with fail
          refine hK.out _ _ ?_ (fun hHeld => ?_)
          · exact ⟨⟨x0, x1, x2, x3, x4⟩, ⟨y0, y1, y2, y3⟩, m0, mq⟩
          clear hK K
          try simp only [Act.put, List.setIfInBounds_toArray, List.set_cons_zero, List.set_cons_succ]
          clear hq b10 HO9 HW9 HC9 HR9 HB9
          refine held_take (i := 11) (d := 99) (v := ?_) rfl rfl (by kernel_rfl) (by kernel_rfl) (by kernel_rfl) (fun _ _ _ h => h) (Or.inl ⟨by rfl, ?_⟩) hHeld ?_
          rotate_left
          · (intro w hSw; (try dsimp only at hSw); go_simp; all_goals (with_reducible rfl))
          try simp only [Act.put, List.setIfInBounds_toArray, List.set_cons_zero, List.set_cons_succ]
          refine held_take (i := 12) (d := 100) (v := ?_) rfl rfl (by kernel_rfl) (by kernel_rfl) (by kernel_rfl) (fun _ _ _ h => h) (Or.inl ⟨by rfl, ?_⟩) hHeld ?_
          rotate_left
          · (intro w hSw; (try dsimp only at hSw); go_simp; all_goals (with_reducible rfl))
          try simp only [Act.put, List.setIfInBounds_toArray, List.set_cons_zero, List.set_cons_succ]
          refine held_take (i := 13) (d := 101) (v := ?_) rfl rfl (by kernel_rfl) (by kernel_rfl) (by kernel_rfl) (fun _ _ _ h => h) (Or.inl ⟨by rfl, ?_⟩) hHeld ?_
          rotate_left
          · (intro w hSw; (try dsimp only at hSw); go_simp; all_goals (with_reducible rfl))
          try simp only [Act.put, List.setIfInBounds_toArray, List.set_cons_zero, List.set_cons_succ]
          refine held_take (i := 14) (d := 102) (v := ?_) rfl rfl (by kernel_rfl) (by kernel_rfl) (by kernel_rfl) (fun _ _ _ h => h) (Or.inl ⟨by rfl, ?_⟩) hHeld ?_
          rotate_left
          · (intro w hSw; (try dsimp only at hSw); go_simp; all_goals (with_reducible rfl))
          try simp only [Act.put, List.setIfInBounds_toArray, List.set_cons_zero, List.set_cons_succ]
          refine held_take (i := 16) (d := 104) (v := ?_) rfl rfl (by kernel_rfl) (by kernel_rfl) (by kernel_rfl) (fun _ _ _ h => h) (Or.inl ⟨by rfl, ?_⟩) hHeld ?_
          rotate_left
          · (intro w hSw; (try dsimp only at hSw); go_simp; all_goals (with_reducible rfl))
          try simp only [Act.put, List.setIfInBounds_toArray, List.set_cons_zero, List.set_cons_succ]
          refine held_take (i := 17) (d := 105) (v := ?_) rfl rfl (by kernel_rfl) (by kernel_rfl) (by kernel_rfl) (fun _ _ _ h => h) (Or.inl ⟨by rfl, ?_⟩) hHeld ?_
          rotate_left
          · (intro w hSw; (try dsimp only at hSw); go_simp; all_goals (with_reducible rfl))
          try simp only [Act.put, List.setIfInBounds_toArray, List.set_cons_zero, List.set_cons_succ]
          refine held_take (i := 18) (d := 106) (v := ?_) rfl rfl (by kernel_rfl) (by kernel_rfl) (by kernel_rfl) (fun _ _ _ h => h) (Or.inl ⟨by rfl, ?_⟩) hHeld ?_
          rotate_left
          · (intro w hSw; (try dsimp only at hSw); go_simp; all_goals (with_reducible rfl))
          try simp only [Act.put, List.setIfInBounds_toArray, List.set_cons_zero, List.set_cons_succ]
          refine held_take (i := 19) (d := 107) (v := ?_) rfl rfl (by kernel_rfl) (by kernel_rfl) (by kernel_rfl) (fun _ _ _ h => h) (Or.inl ⟨by rfl, ?_⟩) hHeld ?_
          rotate_left
          · (intro w hSw; (try dsimp only at hSw); go_simp; all_goals (with_reducible rfl))
          try simp only [Act.put, List.setIfInBounds_toArray, List.set_cons_zero, List.set_cons_succ]
          refine held_take (i := 20) (d := 108) (v := ?_) rfl rfl (by kernel_rfl) (by kernel_rfl) (by kernel_rfl) (fun _ _ _ h => h) (Or.inl ⟨by rfl, ?_⟩) hHeld ?_
          rotate_left
          · (intro w hSw; (try dsimp only at hSw); go_simp; all_goals (with_reducible rfl))
          try simp only [Act.put, List.setIfInBounds_toArray, List.set_cons_zero, List.set_cons_succ]
          refine held_take (i := 21) (d := 109) (v := ?_) rfl rfl (by kernel_rfl) (by kernel_rfl) (by kernel_rfl) (fun _ _ _ h => h) (Or.inl ⟨by rfl, ?_⟩) hHeld ?_
          rotate_left
          · (intro w hSw; (try dsimp only at hSw); go_simp; all_goals (with_reducible rfl))
          try simp only [Act.put, List.setIfInBounds_toArray, List.set_cons_zero, List.set_cons_succ]
          refine held_take (i := 22) (d := 110) (v := ?_) rfl rfl (by kernel_rfl) (by kernel_rfl) (by kernel_rfl) (fun _ _ _ h => h) (Or.inl ⟨by rfl, ?_⟩) hHeld ?_
          rotate_left
          · (intro w hSw; (try dsimp only at hSw); go_simp; all_goals (with_reducible rfl))
          try simp only [Act.put, List.setIfInBounds_toArray, List.set_cons_zero, List.set_cons_succ]
          refine held_take (i := 23) (d := 111) (v := ?_) rfl rfl (by kernel_rfl) (by kernel_rfl) (by kernel_rfl) (fun _ _ _ h => h) (Or.inl ⟨by rfl, ?_⟩) hHeld ?_
          rotate_left
          · (intro w hSw; (try dsimp only at hSw); go_simp; all_goals (with_reducible rfl))
          try simp only [Act.put, List.setIfInBounds_toArray, List.set_cons_zero, List.set_cons_succ]
          refine held_take (i := 24) (d := 112) (v := ?_) rfl rfl (by kernel_rfl) (by kernel_rfl) (by kernel_rfl) (fun _ _ _ h => h) (Or.inl ⟨by rfl, ?_⟩) hHeld ?_
          rotate_left
          · (intro w hSw; (try dsimp only at hSw); go_simp; all_goals (with_reducible rfl))
          try simp only [Act.put, List.setIfInBounds_toArray, List.set_cons_zero, List.set_cons_succ]
          have hq := tail_any _ _  _ (HC10.out)
          rw [HTL.out] at hq
          refine wpAnyH_ready (rs := [15]) (by kernel_rfl) (by simp) ?_
          refine AllReadyH.cons rfl (fun K hK => ?_) AllReadyH.nil
          go_simp
          refine hq.mono ?_
          rintro e w11 ⟨rfl, hb11⟩
          have HO11 : Hid (w11.heap[p5]? = some (.cells (carr ep' sh' (.slice a1' (q + 1) c1') (.slice b1' (q + 1) d1') le') 29)) := heap_kept HO10.out hb11
          have HW11 : Hid (w11.heap[p6]? = some (.cells (rarr ep' sh' (.slice (some ⟨b3, off3, none⟩) (q + 1) c3) le') 25)) := heap_kept HW10.out hb11
          have HC11 : Hid (Cfr w11 (.agg (carr ep' sh' (.slice a1' (q + 1) c1') (.slice b1' (q + 1) d1') le')) ⟨ep', sh', l, le'⟩) := HC10.out.later hb11
          have HR11 : Hid (Rfr w11 (.agg (rarr ep' sh' (.slice (some ⟨b3, off3, none⟩) (q + 1) c3) le')) ⟨ep', sh', l, le'⟩) := HR10.out.later hb11
          have HB11 : Hid (Below w.heap.size w w11) := HB10.out.trans (hb11.mono HB10.out.size)
          have m0 := cell_later hb11 m0
          have mq := cell_later hb11 mq
          clear x0 x1 x2 x3 x4 y0 y1 y2 y3
          obtain ⟨x0, x1, x2, x3, x4⟩ := five_cells HO11.out
          obtain ⟨y0, y1, y2, y3⟩ := four_cells HW11.out
          go_wp2_with fail
          refine hK.out _ _ ?_ (fun hHeld => ?_)
          · exact ⟨⟨x0, x1, x2, x3, x4⟩, ⟨y0, y1, y2, y3⟩, m0, mq⟩
          clear hK K
          try simp only [Act.put, List.setIfInBounds_toArray, List.set_cons_zero, List.set_cons_succ]
          clear hq hb11 HO10 HW10 HC10 HR10 HB10
          refine held_take (i := 25) (d := 113) (v := ?_) rfl rfl (by kernel_rfl) (by kernel_rfl) (by kernel_rfl) (fun _ _ _ h => h) (Or.inl ⟨by rfl, ?_⟩) hHeld ?_
          rotate_left
          · (intro w hSw; (try dsimp only at hSw); go_simp; all_goals (with_reducible rfl))
          try simp only [Act.put, List.setIfInBounds_toArray, List.set_cons_zero, List.set_cons_succ]
          refine held_take (i := 26) (d := 114) (v := ?_) rfl rfl (by kernel_rfl) (by kernel_rfl) (by kernel_rfl) (fun _ _ _ h => h) (Or.inl ⟨by rfl, ?_⟩) hHeld ?_
          rotate_left
          · (intro w hSw; (try dsimp only at hSw); go_simp; all_goals (with_reducible rfl))
          try simp only [Act.put, List.setIfInBounds_toArray, List.set_cons_zero, List.set_cons_succ]
          refine held_take (i := 27) (d := 115) (v := ?_) rfl rfl (by kernel_rfl) (by kernel_rfl) (by kernel_rfl) (fun _ _ _ h => h) (Or.inl ⟨by rfl, ?_⟩) hHeld ?_
          rotate_left
          · (intro w hSw; (try dsimp only at hSw); go_simp; all_goals (with_reducible rfl))
          try simp only [Act.put, List.setIfInBounds_toArray, List.set_cons_zero, List.set_cons_succ]
          refine held_take (i := 28) (d := 116) (v := ?_) rfl rfl (by kernel_rfl) (by kernel_rfl) (by kernel_rfl) (fun _ _ _ h => h) (Or.inl ⟨by rfl, ?_⟩) hHeld ?_
          rotate_left
          · (intro w hSw; (try dsimp only at hSw); go_simp; all_goals (with_reducible rfl))
          try simp only [Act.put, List.setIfInBounds_toArray, List.set_cons_zero, List.set_cons_succ]
          refine held_take (i := 29) (d := 117) (v := ?_) rfl rfl (by kernel_rfl) (by kernel_rfl) (by kernel_rfl) (fun _ _ _ h => h) (Or.inl ⟨by rfl, ?_⟩) hHeld ?_
          rotate_left
          · (intro w hSw; (try dsimp only at hSw); go_simp; all_goals (with_reducible rfl))
          try simp only [Act.put, List.setIfInBounds_toArray, List.set_cons_zero, List.set_cons_succ]
          refine held_take (i := 31) (d := 119) (v := ?_) rfl rfl (by kernel_rfl) (by kernel_rfl) (by kernel_rfl) (fun _ _ _ h => h) (Or.inl ⟨by rfl, ?_⟩) hHeld ?_
          rotate_left
          · (intro w hSw; (try dsimp only at hSw); go_simp; all_goals (with_reducible rfl))
          try simp only [Act.put, List.setIfInBounds_toArray, List.set_cons_zero, List.set_cons_succ]
          have hq := next_any _ _ a1 _ (HC11.out)
          rw [HNX.out] at hq
          refine wpAnyH_ready (rs := [30]) (by kernel_rfl) (by simp) ?_
          refine AllReadyH.cons rfl (fun K hK => ?_) AllReadyH.nil
          go_simp
          refine hq.mono ?_
          rintro e w12 ⟨rfl, hb12⟩
          have HO12 : Hid (w12.heap[p5]? = some (.cells (carr ep' sh' (.slice a1' (q + 1) c1') (.slice b1' (q + 1) d1') le') 29)) := heap_kept HO11.out hb12
          have HW12 : Hid (w12.heap[p6]? = some (.cells (rarr ep' sh' (.slice (some ⟨b3, off3, none⟩) (q + 1) c3) le') 25)) := heap_kept HW11.out hb12
          have HC12 : Hid (Cfr w12 (.agg (carr ep' sh' (.slice a1' (q + 1) c1') (.slice b1' (q + 1) d1') le')) ⟨ep', sh', l, le'⟩) := HC11.out.later hb12
          have HR12 : Hid (Rfr w12 (.agg (rarr ep' sh' (.slice (some ⟨b3, off3, none⟩) (q + 1) c3) le')) ⟨ep', sh', l, le'⟩) := HR11.out.later hb12
          have HB12 : Hid (Below w.heap.size w w12) := HB11.out.trans (hb12.mono HB11.out.size)
          have m0 := cell_later hb12 m0
          have mq := cell_later hb12 mq
          clear x0 x1 x2 x3 x4 y0 y1 y2 y3
          obtain ⟨x0, x1, x2, x3, x4⟩ := five_cells HO12.out
          obtain ⟨y0, y1, y2, y3⟩ := four_cells HW12.out
          go_wp2_with fail
          refine hK.out _ _ ?_ (fun hHeld => ?_)
          · exact ⟨⟨x0, x1, x2, x3, x4⟩, ⟨y0, y1, y2, y3⟩, m0, mq⟩
          clear hK K
          try simp only [Act.put, List.setIfInBounds_toArray, List.set_cons_zero, List.set_cons_succ]
          clear hq hb12 HO11 HW11 HC11 HR11 HB11
          refine held_take (i := 32) (d := 120) (v := ?_) rfl rfl (by kernel_rfl) (by kernel_rfl) (by kernel_rfl) (fun _ _ _ h => h) (Or.inl ⟨by rfl, ?_⟩) hHeld ?_
          rotate_left
          · (intro w hSw; (try dsimp only at hSw); go_simp; all_goals (with_reducible rfl))
          try simp only [Act.put, List.setIfInBounds_toArray, List.set_cons_zero, List.set_cons_succ]
          refine held_take (i := 33) (d := 121) (v := ?_) rfl rfl (by kernel_rfl) (by kernel_rfl) (by kernel_rfl) (fun _ _ _ h => h) (Or.inl ⟨by rfl, ?_⟩) hHeld ?_
          rotate_left
          · (intro w hSw; (try dsimp only at hSw); go_simp; all_goals (with_reducible rfl))
          try simp only [Act.put, List.setIfInBounds_toArray, List.set_cons_zero, List.set_cons_succ]
          refine held_take (i := 34) (d := 122) (v := ?_) rfl rfl (by kernel_rfl) (by kernel_rfl) (by kernel_rfl) (fun _ _ _ h => h) (Or.inl ⟨by rfl, ?_⟩) hHeld ?_
          rotate_left
          · (intro w hSw; (try dsimp only at hSw); go_simp; all_goals (with_reducible rfl))
          try simp only [Act.put, List.setIfInBounds_toArray, List.set_cons_zero, List.set_cons_succ]
          refine held_take (i := 35) (d := 123) (v := ?_) rfl rfl (by kernel_rfl) (by kernel_rfl) (by kernel_rfl) (fun _ _ _ h => h) (Or.inl ⟨by rfl, ?_⟩) hHeld ?_
          rotate_left
          · (intro w hSw; (try dsimp only at hSw); go_simp; all_goals (with_reducible rfl))
          try simp only [Act.put, List.setIfInBounds_toArray, List.set_cons_zero, List.set_cons_succ]
          refine held_take (i := 36) (d := 124) (v := ?_) rfl rfl (by kernel_rfl) (by kernel_rfl) (by kernel_rfl) (fun _ _ _ h => h) (Or.inl ⟨by rfl, ?_⟩) hHeld ?_
          rotate_left
          · (intro w hSw; (try dsimp only at hSw); go_simp; all_goals (with_reducible rfl))
          try simp only [Act.put, List.setIfInBounds_toArray, List.set_cons_zero, List.set_cons_succ]
          refine held_take (i := 38) (d := 126) (v := ?_) rfl rfl (by kernel_rfl) (by kernel_rfl) (by kernel_rfl) (fun _ _ _ h => h) (Or.inl ⟨by rfl, ?_⟩) hHeld ?_
          rotate_left
          · (intro w hSw; (try dsimp only at hSw); go_simp; all_goals (with_reducible rfl))
          try simp only [Act.put, List.setIfInBounds_toArray, List.set_cons_zero, List.set_cons_succ]
          have hq := prev_any _ _ a1 _ (HC12.out)
          rw [HPV.out] at hq
          refine wpAnyH_ready (rs := [37]) (by kernel_rfl) (by simp) ?_
          refine AllReadyH.cons rfl (fun K hK => ?_) AllReadyH.nil
          go_simp
          refine hq.mono ?_
          rintro e w13 ⟨rfl, hb13⟩
          have HO13 : Hid (w13.heap[p5]? = some (.cells (carr ep' sh' (.slice a1' (q + 1) c1') (.slice b1' (q + 1) d1') le') 29)) := heap_kept HO12.out hb13
          have HW13 : Hid (w13.heap[p6]? = some (.cells (rarr ep' sh' (.slice (some ⟨b3, off3, none⟩) (q + 1) c3) le') 25)) := heap_kept HW12.out hb13
          have HC13 : Hid (Cfr w13 (.agg (carr ep' sh' (.slice a1' (q + 1) c1') (.slice b1' (q + 1) d1') le')) ⟨ep', sh', l, le'⟩) := HC12.out.later hb13
          have HR13 : Hid (Rfr w13 (.agg (rarr ep' sh' (.slice (some ⟨b3, off3, none⟩) (q + 1) c3) le')) ⟨ep', sh', l, le'⟩) := HR12.out.later hb13
          have HB13 : Hid (Below w.heap.size w w13) := HB12.out.trans (hb13.mono HB12.out.size)
          have m0 := cell_later hb13 m0
          have mq := cell_later hb13 mq
          clear x0 x1 x2 x3 x4 y0 y1 y2 y3
          obtain ⟨x0, x1, x2, x3, x4⟩ := five_cells HO13.out
          obtain ⟨y0, y1, y2, y3⟩ := four_cells HW13.out
          go_wp2_with fail
          refine hK.out _ _ ?_ (fun hHeld => ?_)
          · exact ⟨⟨x0, x1, x2, x3, x4⟩, ⟨y0, y1, y2, y3⟩, m0, mq⟩
          clear hK K
          try simp only [Act.put, List.setIfInBounds_toArray, List.set_cons_zero, List.set_cons_succ]
          clear hq hb13 HO12 HW12 HC12 HR12 HB12
          refine held_take (i := 39) (d := 127) (v := ?_) rfl rfl (by kernel_rfl) (by kernel_rfl) (by kernel_rfl) (fun _ _ _ h => h) (Or.inl ⟨by rfl, ?_⟩) hHeld ?_
          rotate_left
          · (intro w hSw; (try dsimp only at hSw); go_simp; all_goals (with_reducible rfl))
          try simp only [Act.put, List.setIfInBounds_toArray, List.set_cons_zero, List.set_cons_succ]
          refine held_take (i := 40) (d := 128) (v := ?_) rfl rfl (by kernel_rfl) (by kernel_rfl) (by kernel_rfl) (fun _ _ _ h => h) (Or.inl ⟨by rfl, ?_⟩) hHeld ?_
          rotate_left
          · (intro w hSw; (try dsimp only at hSw); go_simp; all_goals (with_reducible rfl))
          try simp only [Act.put, List.setIfInBounds_toArray, List.set_cons_zero, List.set_cons_succ]
          refine held_take (i := 41) (d := 129) (v := ?_) rfl rfl (by kernel_rfl) (by kernel_rfl) (by kernel_rfl) (fun _ _ _ h => h) (Or.inl ⟨by rfl, ?_⟩) hHeld ?_
          rotate_left
          · (intro w hSw; (try dsimp only at hSw); go_simp; all_goals (with_reducible rfl))
          try simp only [Act.put, List.setIfInBounds_toArray, List.set_cons_zero, List.set_cons_succ]
          refine held_take (i := 42) (d := 130) (v := ?_) rfl rfl (by kernel_rfl) (by kernel_rfl) (by kernel_rfl) (fun _ _ _ h => h) (Or.inl ⟨by rfl, ?_⟩) hHeld ?_
          rotate_left
          · (intro w hSw; (try dsimp only at hSw); go_simp; all_goals (with_reducible rfl))
          try simp only [Act.put, List.setIfInBounds_toArray, List.set_cons_zero, List.set_cons_succ]
          refine held_take (i := 43) (d := 131) (v := ?_) rfl rfl (by kernel_rfl) (by kernel_rfl) (by kernel_rfl) (fun _ _ _ h => h) (Or.inl ⟨by rfl, ?_⟩) hHeld ?_
          rotate_left
          · (intro w hSw; (try dsimp only at hSw); go_simp; all_goals (with_reducible rfl))
          try simp only [Act.put, List.setIfInBounds_toArray, List.set_cons_zero, List.set_cons_succ]
          refine held_take (i := 45) (d := 133) (v := ?_) rfl rfl (by kernel_rfl) (by kernel_rfl) (by kernel_rfl) (fun _ _ _ h => h) (Or.inl ⟨by rfl, ?_⟩) hHeld ?_
          rotate_left
          · (intro w hSw; (try dsimp only at hSw); go_simp; all_goals (with_reducible rfl))
          try simp only [Act.put, List.setIfInBounds_toArray, List.set_cons_zero, List.set_cons_succ]
          refine held_take (i := 46) (d := 134) (v := ?_) rfl rfl (by kernel_rfl) (by kernel_rfl) (by kernel_rfl) (fun _ _ _ h => h) (Or.inl ⟨by rfl, ?_⟩) hHeld ?_
          rotate_left
          · (intro w hSw; (try dsimp only at hSw); go_simp; all_goals (with_reducible rfl))
          try simp only [Act.put, List.setIfInBounds_toArray, List.set_cons_zero, List.set_cons_succ]
          have hq := has_any _ _ a1 _ (HC13.out)
          rw [HHA.out] at hq
          refine wpAnyH_ready (rs := [44]) (by kernel_rfl) (by simp) ?_
          refine AllReadyH.cons rfl (fun K hK => ?_) AllReadyH.nil
          go_simp
          refine hq.mono ?_
          rintro e w14 ⟨rfl, hb14⟩
          have HO14 : Hid (w14.heap[p5]? = some (.cells (carr ep' sh' (.slice a1' (q + 1) c1') (.slice b1' (q + 1) d1') le') 29)) := heap_kept HO13.out hb14
          have HW14 : Hid (w14.heap[p6]? = some (.cells (rarr ep' sh' (.slice (some ⟨b3, off3, none⟩) (q + 1) c3) le') 25)) := heap_kept HW13.out hb14
          have HC14 : Hid (Cfr w14 (.agg (carr ep' sh' (.slice a1' (q + 1) c1') (.slice b1' (q + 1) d1') le')) ⟨ep', sh', l, le'⟩) := HC13.out.later hb14
          have HR14 : Hid (Rfr w14 (.agg (rarr ep' sh' (.slice (some ⟨b3, off3, none⟩) (q + 1) c3) le')) ⟨ep', sh', l, le'⟩) := HR13.out.later hb14
          have HB14 : Hid (Below w.heap.size w w14) := HB13.out.trans (hb14.mono HB13.out.size)
          have m0 := cell_later hb14 m0
          have mq := cell_later hb14 mq
          clear x0 x1 x2 x3 x4 y0 y1 y2 y3
          obtain ⟨x0, x1, x2, x3, x4⟩ := five_cells HO14.out
          obtain ⟨y0, y1, y2, y3⟩ := four_cells HW14.out
          go_wp2_with fail
          refine hK.out _ _ ?_ (fun hHeld => ?_)
          · exact ⟨⟨x0, x1, x2, x3, x4⟩, ⟨y0, y1, y2, y3⟩, m0, mq⟩
          clear hK K
          try simp only [Act.put, List.setIfInBounds_toArray, List.set_cons_zero, List.set_cons_succ]
          clear hq hb14 HO13 HW13 HC13 HR13 HB13
          refine held_take (i := 47) (d := 135) (v := ?_) rfl rfl (by kernel_rfl) (by kernel_rfl) (by kernel_rfl) (fun _ _ _ h => h) (Or.inl ⟨by rfl, ?_⟩) hHeld ?_
          rotate_left
          · (intro w hSw; (try dsimp only at hSw); go_simp; all_goals (with_reducible rfl))
          try simp only [Act.put, List.setIfInBounds_toArray, List.set_cons_zero, List.set_cons_succ]
          refine held_take (i := 48) (d := 136) (v := undef) rfl rfl (by kernel_rfl) (by kernel_rfl) (by kernel_rfl) (fun _ _ _ h => h) (Or.inr ⟨by rfl, rfl⟩) hHeld ?_
          try simp only [Act.put, List.setIfInBounds_toArray, List.set_cons_zero, List.set_cons_succ]
          refine held_take (i := 49) (d := 137) (v := undef) rfl rfl (by kernel_rfl) (by kernel_rfl) (by kernel_rfl) (fun _ _ _ h => h) (Or.inr ⟨by rfl, rfl⟩) hHeld ?_
          try simp only [Act.put, List.setIfInBounds_toArray, List.set_cons_zero, List.set_cons_succ]
          refine held_take (i := 50) (d := 138) (v := undef) rfl rfl (by kernel_rfl) (by kernel_rfl) (by kernel_rfl) (fun _ _ _ h => h) (Or.inr ⟨by rfl, rfl⟩) hHeld ?_
          try simp only [Act.put, List.setIfInBounds_toArray, List.set_cons_zero, List.set_cons_succ]
          refine held_take (i := 51) (d := 139) (v := undef) rfl rfl (by kernel_rfl) (by kernel_rfl) (by kernel_rfl) (fun _ _ _ h => h) (Or.inr ⟨by rfl, rfl⟩) hHeld ?_
          try simp only [Act.put, List.setIfInBounds_toArray, List.set_cons_zero, List.set_cons_succ]
          refine held_take (i := 52) (d := 140) (v := undef) rfl rfl (by kernel_rfl) (by kernel_rfl) (by kernel_rfl) (fun _ _ _ h => h) (Or.inr ⟨by rfl, rfl⟩) hHeld ?_
          try simp only [Act.put, List.setIfInBounds_toArray, List.set_cons_zero, List.set_cons_succ]
          refine held_take (i := 53) (d := 141) (v := undef) rfl rfl (by kernel_rfl) (by kernel_rfl) (by kernel_rfl) (fun _ _ _ h => h) (Or.inr ⟨by rfl, rfl⟩) hHeld ?_
          try simp only [Act.put, List.setIfInBounds_toArray, List.set_cons_zero, List.set_cons_succ]
          refine held_take (i := 54) (d := 142) (v := undef) rfl rfl (by kernel_rfl) (by kernel_rfl) (by kernel_rfl) (fun _ _ _ h => h) (Or.inr ⟨by rfl, rfl⟩) hHeld ?_
          try simp only [Act.put, List.setIfInBounds_toArray, List.set_cons_zero, List.set_cons_succ]
          refine held_take (i := 55) (d := 143) (v := undef) rfl rfl (by kernel_rfl) (by kernel_rfl) (by kernel_rfl) (fun _ _ _ h => h) (Or.inr ⟨by rfl, rfl⟩) hHeld ?_
          try simp only [Act.put, List.setIfInBounds_toArray, List.set_cons_zero, List.set_cons_succ]
          refine held_take (i := 56) (d := 144) (v := ?_) rfl rfl (by kernel_rfl) (by kernel_rfl) (by kernel_rfl) (fun _ _ _ h => h) (Or.inl ⟨by rfl, ?_⟩) hHeld ?_
          rotate_left
          · (intro w hSw; (try dsimp only at hSw); go_simp; all_goals (with_reducible rfl))
          try simp only [Act.put, List.setIfInBounds_toArray, List.set_cons_zero, List.set_cons_succ]
          refine held_take (i := 57) (d := 145) (v := ?_) rfl rfl (by kernel_rfl) (by kernel_rfl) (by kernel_rfl) (fun _ _ _ h => h) (Or.inl ⟨by rfl, ?_⟩) hHeld ?_
          rotate_left
          · (intro w hSw; (try dsimp only at hSw); go_simp; all_goals (with_reducible rfl))
          try simp only [Act.put, List.setIfInBounds_toArray, List.set_cons_zero, List.set_cons_succ]
          refine held_take (i := 58) (d := 146) (v := ?_) rfl rfl (by kernel_rfl) (by kernel_rfl) (by kernel_rfl) (fun _ _ _ h => h) (Or.inl ⟨by rfl, ?_⟩) hHeld ?_
          rotate_left
          · (intro w hSw; (try dsimp only at hSw); go_simp; all_goals (with_reducible rfl))
          try simp only [Act.put, List.setIfInBounds_toArray, List.set_cons_zero, List.set_cons_succ]
          refine held_take (i := 59) (d := 147) (v := ?_) rfl rfl (by kernel_rfl) (by kernel_rfl) (by kernel_rfl) (fun _ _ _ h => h) (Or.inl ⟨by rfl, ?_⟩) hHeld ?_
          rotate_left
          · (intro w hSw; (try dsimp only at hSw); go_simp; all_goals (with_reducible rfl))
          try simp only [Act.put, List.setIfInBounds_toArray, List.set_cons_zero, List.set_cons_succ]
          have hq := awake_any w14
          refine wpAnyH_ready (rs := [60]) (by kernel_rfl) (by simp) ?_
          refine AllReadyH.cons rfl (fun K hK => ?_) AllReadyH.nil
          go_simp
          refine hq.mono ?_
          rintro e w15 ⟨rfl, hb15⟩
          have HO15 : Hid (w15.heap[p5]? = some (.cells (carr ep' sh' (.slice a1' (q + 1) c1') (.slice b1' (q + 1) d1') le') 29)) := heap_kept HO14.out hb15
          have HW15 : Hid (w15.heap[p6]? = some (.cells (rarr ep' sh' (.slice (some ⟨b3, off3, none⟩) (q + 1) c3) le') 25)) := heap_kept HW14.out hb15
          have HC15 : Hid (Cfr w15 (.agg (carr ep' sh' (.slice a1' (q + 1) c1') (.slice b1' (q + 1) d1') le')) ⟨ep', sh', l, le'⟩) := HC14.out.later hb15
          have HR15 : Hid (Rfr w15 (.agg (rarr ep' sh' (.slice (some ⟨b3, off3, none⟩) (q + 1) c3) le')) ⟨ep', sh', l, le'⟩) := HR14.out.later hb15
          have HB15 : Hid (Below w.heap.size w w15) := HB14.out.trans (hb15.mono HB14.out.size)
          have m0 := cell_later hb15 m0
          have mq := cell_later hb15 mq
          clear x0 x1 x2 x3 x4 y0 y1 y2 y3
          obtain ⟨x0, x1, x2, x3, x4⟩ := five_cells HO15.out
          obtain ⟨y0, y1, y2, y3⟩ := four_cells HW15.out
          go_wp2_with fail
          refine hK.out _ _ ?_ (fun hHeld => ?_)
          · exact ⟨⟨x0, x1, x2, x3, x4⟩, ⟨y0, y1, y2, y3⟩, m0, mq⟩
          clear hK K
          try simp only [Act.put, List.setIfInBounds_toArray, List.set_cons_zero, List.set_cons_succ]
          clear hq hb15 HO14 HW14 HC14 HR14 HB14
          refine held_take (i := 61) (d := 149) (v := ?_) rfl rfl (by kernel_rfl) (by kernel_rfl) (by kernel_rfl) (fun _ _ _ h => h) (Or.inl ⟨by rfl, ?_⟩) hHeld ?_
          rotate_left
          · (intro w hSw; (try dsimp only at hSw); go_simp; all_goals (with_reducible rfl))
          try simp only [Act.put, List.setIfInBounds_toArray, List.set_cons_zero, List.set_cons_succ]
          refine held_take (i := 62) (d := 4) (v := ?_) rfl rfl (by kernel_rfl) (by kernel_rfl) (by kernel_rfl) (fun _ _ _ h => h) (Or.inl ⟨by rfl, ?_⟩) hHeld ?_
          rotate_left
          · (intro w hSw; (try dsimp only at hSw); go_simp; all_goals (with_reducible rfl))
          try simp only [Act.put, List.setIfInBounds_toArray, List.set_cons_zero, List.set_cons_succ]
          refine wpAnyH_done (by kernel_rfl) ?_ _
          refine NoPanic.normal ?_
          go_wp2
          go_ret
          exact ⟨rfl, HB15.out⟩
        · obtain rfl : k = 0 := by omega
          have HPV : Hid (besideC ⟨ep', sh', l, le'⟩ a1 (-1) = -1) := by rw [Hid, besideC, HPK.out, if_neg (by omega)]; exact HAN.out _ (by omega)
          clear hk3
          go_upto_region 14 with fail
          refine wp_region_noPanic ?_
          refine wp_region_held_drew (S := fun w' => (w'.cell? ⟨p5, 0, none⟩ = some (.int .u64 (ep' : Nat)) ∧ w'.cell? ⟨p5, 1, none⟩ = some (.int .i64 sh') ∧ w'.cell? ⟨p5, 2, none⟩ = some (.slice a1' (q + 1) c1') ∧ w'.cell? ⟨p5, 3, none⟩ = some (.slice b1' (q + 1) d1') ∧ w'.cell? ⟨p5, 4, none⟩ = some (.int .i64 le')) ∧ (w'.cell? ⟨p6, 0, none⟩ = some (.int .u64 (ep' : Nat)) ∧ w'.cell? ⟨p6, 1, none⟩ = some (.int .i64 sh') ∧ w'.cell? ⟨p6, 2, none⟩ = some (.slice (some ⟨b3, off3, none⟩) (q + 1) c3) ∧ w'.cell? ⟨p6, 3, none⟩ = some (.int .i64 le')) ∧ w'.cell? ⟨b3, off3, none⟩ = some (.int .i64 f0) ∧ w'.cell? ⟨b3, off3 + q * 2, none⟩ = some (.int .i64 fl)) (by kernel_rfl) ?_ (fun hHeld => ?_)
          · exact ⟨⟨x0, x1, x2, x3, x4⟩, ⟨y0, y1, y2, y3⟩, m0, mq⟩
          refine held_take (i := 0) (d := 88) (v := ?_) rfl rfl (by kernel_rfl) (by kernel_rfl) (by kernel_rfl) (fun _ _ _ h => h) (Or.inl ⟨by rfl, ?_⟩) hHeld ?_
          rotate_left
          · (intro w hSw; (try dsimp only at hSw); go_simp; all_goals (with_reducible rfl))
          try simp only [Act.put, List.setIfInBounds_toArray, List.set_cons_zero, List.set_cons_succ]
          refine held_take (i := 1) (d := 89) (v := ?_) rfl rfl (by kernel_rfl) (by kernel_rfl) (by kernel_rfl) (fun _ _ _ h => h) (Or.inl ⟨by rfl, ?_⟩) hHeld ?_
          rotate_left
          · (intro w hSw; (try dsimp only at hSw); go_simp; all_goals (with_reducible rfl))
          try simp only [Act.put, List.setIfInBounds_toArray, List.set_cons_zero, List.set_cons_succ]
          refine held_take (i := 2) (d := 90) (v := ?_) rfl rfl (by kernel_rfl) (by kernel_rfl) (by kernel_rfl) (fun _ _ _ h => h) (Or.inl ⟨by rfl, ?_⟩) hHeld ?_
          rotate_left
          · (intro w hSw; (try dsimp only at hSw); go_simp; all_goals (with_reducible rfl))
          try simp only [Act.put, List.setIfInBounds_toArray, List.set_cons_zero, List.set_cons_succ]
          refine held_take (i := 3) (d := 91) (v := ?_) rfl rfl (by kernel_rfl) (by kernel_rfl) (by kernel_rfl) (fun _ _ _ h => h) (Or.inl ⟨by rfl, ?_⟩) hHeld ?_
          rotate_left
          · (intro w hSw; (try dsimp only at hSw); go_simp; all_goals (with_reducible rfl))
          try simp only [Act.put, List.setIfInBounds_toArray, List.set_cons_zero, List.set_cons_succ]
          refine held_take (i := 4) (d := 92) (v := ?_) rfl rfl (by kernel_rfl) (by kernel_rfl) (by kernel_rfl) (fun _ _ _ h => h) (Or.inl ⟨by rfl, ?_⟩) hHeld ?_
          rotate_left
          · (intro w hSw; (try dsimp only at hSw); go_simp; all_goals (with_reducible rfl))
          try simp only [Act.put, List.setIfInBounds_toArray, List.set_cons_zero, List.set_cons_succ]
          refine held_take (i := 6) (d := 94) (v := ?_) rfl rfl (by kernel_rfl) (by kernel_rfl) (by kernel_rfl) (fun _ _ _ h => h) (Or.inl ⟨by rfl, ?_⟩) hHeld ?_
          rotate_left
          · (intro w hSw; (try dsimp only at hSw); go_simp; all_goals (with_reducible rfl))
          try simp only [Act.put, List.setIfInBounds_toArray, List.set_cons_zero, List.set_cons_succ]
          refine held_take (i := 7) (d := 95) (v := ?_) rfl rfl (by kernel_rfl) (by kernel_rfl) (by kernel_rfl) (fun _ _ _ h => h) (Or.inl ⟨by rfl, ?_⟩) hHeld ?_
          rotate_left
          · (intro w hSw; (try dsimp only at hSw); go_simp; all_goals (with_reducible rfl))
          try simp only [Act.put, List.setIfInBounds_toArray, List.set_cons_zero, List.set_cons_succ]
          refine held_take (i := 8) (d := 96) (v := ?_) rfl rfl (by kernel_rfl) (by kernel_rfl) (by kernel_rfl) (fun _ _ _ h => h) (Or.inl ⟨by rfl, ?_⟩) hHeld ?_
          rotate_left
          · (intro w hSw; (try dsimp only at hSw); go_simp; all_goals (with_reducible rfl))
          try simp only [Act.put, List.setIfInBounds_toArray, List.set_cons_zero, List.set_cons_succ]
          refine held_take (i := 9) (d := 97) (v := ?_) rfl rfl (by kernel_rfl) (by kernel_rfl) (by kernel_rfl) (fun _ _ _ h => h) (Or.inl ⟨by rfl, ?_⟩) hHeld ?_
          rotate_left
          · (intro w hSw; (try dsimp only at hSw); go_simp; all_goals (with_reducible rfl))
          try simp only [Act.put, List.setIfInBounds_toArray, List.set_cons_zero, List.set_cons_succ]
          refine held_take (i := 10) (d := 98) (v := ?_) rfl rfl (by kernel_rfl) (by kernel_rfl) (by kernel_rfl) (fun _ _ _ h => h) (Or.inl ⟨by rfl, ?_⟩) hHeld ?_
          rotate_left
          · (intro w hSw; (try dsimp only at hSw); go_simp; all_goals (with_reducible rfl))
          try simp only [Act.put, List.setIfInBounds_toArray, List.set_cons_zero, List.set_cons_succ]
          have hq := head_any _ _  _ (HC9.out.later (Below.refl _ w9).drew)
          rw [HHD.out] at hq
          refine wpAnyH_ready (rs := [5]) (by kernel_rfl) (by simp) ?_
          refine AllReadyH.cons rfl (fun K hK => ?_) AllReadyH.nil
          go_simp
          refine hq.mono ?_
          rintro e w10 ⟨rfl, hb10⟩
          have b10 : Below w9.heap.size w9 w10 := (Below.refl _ w9).drew.trans hb10
          have HO10 : Hid (w10.heap[p5]? = some (.cells (carr ep' sh' (.slice a1' (q + 1) c1') (.slice b1' (q + 1) d1') le') 29)) := heap_kept HO9.out b10
          have HW10 : Hid (w10.heap[p6]? = some (.cells (rarr ep' sh' (.slice (some ⟨b3, off3, none⟩) (q + 1) c3) le') 25)) := heap_kept HW9.out b10
          have HC10 : Hid (Cfr w10 (.agg (carr ep' sh' (.slice a1' (q + 1) c1') (.slice b1' (q + 1) d1') le')) ⟨ep', sh', l, le'⟩) := HC9.out.later b10
          have HR10 : Hid (Rfr w10 (.agg (rarr ep' sh' (.slice (some ⟨b3, off3, none⟩) (q + 1) c3) le')) ⟨ep', sh', l, le'⟩) := HR9.out.later b10
          have HB10 : Hid (Below w.heap.size w w10) := HB9.out.trans (b10.mono HB9.out.size)
          have m0 := cell_later b10 m0
          have mq := cell_later b10 mq
          clear x0 x1 x2 x3 x4 y0 y1 y2 y3
          obtain ⟨x0, x1, x2, x3, x4⟩ := five_cells HO10.out
          obtain ⟨y0, y1, y2, y3⟩ := four_cells HW10.out
          go_wp2_with fail
          refine hK.out _ _ ?_ (fun hHeld => ?_)
          · exact ⟨⟨x0, x1, x2, x3, x4⟩, ⟨y0, y1, y2, y3⟩, m0, mq⟩
          clear hK K
          try simp only [Act.put, List.setIfInBounds_toArray, List.set_cons_zero, List.set_cons_succ]
          clear hq b10 HO9 HW9 HC9 HR9 HB9
          refine held_take (i := 11) (d := 99) (v := ?_) rfl rfl (by kernel_rfl) (by kernel_rfl) (by kernel_rfl) (fun _ _ _ h => h) (Or.inl ⟨by rfl, ?_⟩) hHeld ?_
          rotate_left
          · (intro w hSw; (try dsimp only at hSw); go_simp; all_goals (with_reducible rfl))
          try simp only [Act.put, List.setIfInBounds_toArray, List.set_cons_zero, List.set_cons_succ]
          refine held_take (i := 12) (d := 100) (v := ?_) rfl rfl (by kernel_rfl) (by kernel_rfl) (by kernel_rfl) (fun _ _ _ h => h) (Or.inl ⟨by rfl, ?_⟩) hHeld ?_
          rotate_left
          · (intro w hSw; (try dsimp only at hSw); go_simp; all_goals (with_reducible rfl))
          try simp only [Act.put, List.setIfInBounds_toArray, List.set_cons_zero, List.set_cons_succ]
          refine held_take (i := 13) (d := 101) (v := ?_) rfl rfl (by kernel_rfl) (by kernel_rfl) (by kernel_rfl) (fun _ _ _ h => h) (Or.inl ⟨by rfl, ?_⟩) hHeld ?_
          rotate_left
          · (intro w hSw; (try dsimp only at hSw); go_simp; all_goals (with_reducible rfl))
          try simp only [Act.put, List.setIfInBounds_toArray, List.set_cons_zero, List.set_cons_succ]
          refine held_take (i := 14) (d := 102) (v := ?_) rfl rfl (by kernel_rfl) (by kernel_rfl) (by kernel_rfl) (fun _ _ _ h => h) (Or.inl ⟨by rfl, ?_⟩) hHeld ?_
          rotate_left
          · (intro w hSw; (try dsimp only at hSw); go_simp; all_goals (with_reducible rfl))
          try simp only [Act.put, List.setIfInBounds_toArray, List.set_cons_zero, List.set_cons_succ]
          refine held_take (i := 16) (d := 104) (v := ?_) rfl rfl (by kernel_rfl) (by kernel_rfl) (by kernel_rfl) (fun _ _ _ h => h) (Or.inl ⟨by rfl, ?_⟩) hHeld ?_
          rotate_left
          · (intro w hSw; (try dsimp only at hSw); go_simp; all_goals (with_reducible rfl))
          try simp only [Act.put, List.setIfInBounds_toArray, List.set_cons_zero, List.set_cons_succ]
          refine held_take (i := 17) (d := 105) (v := ?_) rfl rfl (by kernel_rfl) (by kernel_rfl) (by kernel_rfl) (fun _ _ _ h => h) (Or.inl ⟨by rfl, ?_⟩) hHeld ?_
          rotate_left
          · (intro w hSw; (try dsimp only at hSw); go_simp; all_goals (with_reducible rfl))
          try simp only [Act.put, List.setIfInBounds_toArray, List.set_cons_zero, List.set_cons_succ]
          refine held_take (i := 18) (d := 106) (v := ?_) rfl rfl (by kernel_rfl) (by kernel_rfl) (by kernel_rfl) (fun _ _ _ h => h) (Or.inl ⟨by rfl, ?_⟩) hHeld ?_
          rotate_left
          · (intro w hSw; (try dsimp only at hSw); go_simp; all_goals (with_reducible rfl))
          try simp only [Act.put, List.setIfInBounds_toArray, List.set_cons_zero, List.set_cons_succ]
          refine held_take (i := 19) (d := 107) (v := ?_) rfl rfl (by kernel_rfl) (by kernel_rfl) (by kernel_rfl) (fun _ _ _ h => h) (Or.inl ⟨by rfl, ?_⟩) hHeld ?_
          rotate_left
          · (intro w hSw; (try dsimp only at hSw); go_simp; all_goals (with_reducible rfl))
          try simp only [Act.put, List.setIfInBounds_toArray, List.set_cons_zero, List.set_cons_succ]
          refine held_take (i := 20) (d := 108) (v := ?_) rfl rfl (by kernel_rfl) (by kernel_rfl) (by kernel_rfl) (fun _ _ _ h => h) (Or.inl ⟨by rfl, ?_⟩) hHeld ?_
          rotate_left
          · (intro w hSw; (try dsimp only at hSw); go_simp; all_goals (with_reducible rfl))
          try simp only [Act.put, List.setIfInBounds_toArray, List.set_cons_zero, List.set_cons_succ]
          refine held_take (i := 21) (d := 109) (v := ?_) rfl rfl (by kernel_rfl) (by kernel_rfl) (by kernel_rfl) (fun _ _ _ h => h) (Or.inl ⟨by rfl, ?_⟩) hHeld ?_
          rotate_left
          · (intro w hSw; (try dsimp only at hSw); go_simp; all_goals (with_reducible rfl))
          try simp only [Act.put, List.setIfInBounds_toArray, List.set_cons_zero, List.set_cons_succ]
          refine held_take (i := 22) (d := 110) (v := ?_) rfl rfl (by kernel_rfl) (by kernel_rfl) (by kernel_rfl) (fun _ _ _ h => h) (Or.inl ⟨by rfl, ?_⟩) hHeld ?_
          rotate_left
          · (intro w hSw; (try dsimp only at hSw); go_simp; all_goals (with_reducible rfl))
          try simp only [Act.put, List.setIfInBounds_toArray, List.set_cons_zero, List.set_cons_succ]
          refine held_take (i := 23) (d := 111) (v := ?_) rfl rfl (by kernel_rfl) (by kernel_rfl) (by kernel_rfl) (fun _ _ _ h => h) (Or.inl ⟨by rfl, ?_⟩) hHeld ?_
          rotate_left
          · (intro w hSw; (try dsimp only at hSw); go_simp; all_goals (with_reducible rfl))
          try simp only [Act.put, List.setIfInBounds_toArray, List.set_cons_zero, List.set_cons_succ]
          refine held_take (i := 24) (d := 112) (v := ?_) rfl rfl (by kernel_rfl) (by kernel_rfl) (by kernel_rfl) (fun _ _ _ h => h) (Or.inl ⟨by rfl, ?_⟩) hHeld ?_
          rotate_left
          · (intro w hSw; (try dsimp only at hSw); go_simp; all_goals (with_reducible rfl))
          try simp only [Act.put, List.setIfInBounds_toArray, List.set_cons_zero, List.set_cons_succ]
          have hq := tail_any _ _  _ (HC10.out)
          rw [HTL.out] at hq
          refine wpAnyH_ready (rs := [15]) (by kernel_rfl) (by simp) ?_
          refine AllReadyH.cons rfl (fun K hK => ?_) AllReadyH.nil
          go_simp
          refine hq.mono ?_
          rintro e w11 ⟨rfl, hb11⟩
          have HO11 : Hid (w11.heap[p5]? = some (.cells (carr ep' sh' (.slice a1' (q + 1) c1') (.slice b1' (q + 1) d1') le') 29)) := heap_kept HO10.out hb11
          have HW11 : Hid (w11.heap[p6]? = some (.cells (rarr ep' sh' (.slice (some ⟨b3, off3, none⟩) (q + 1) c3) le') 25)) := heap_kept HW10.out hb11
          have HC11 : Hid (Cfr w11 (.agg (carr ep' sh' (.slice a1' (q + 1) c1') (.slice b1' (q + 1) d1') le')) ⟨ep', sh', l, le'⟩) := HC10.out.later hb11
          have HR11 : Hid (Rfr w11 (.agg (rarr ep' sh' (.slice (some ⟨b3, off3, none⟩) (q + 1) c3) le')) ⟨ep', sh', l, le'⟩) := HR10.out.later hb11
          have HB11 : Hid (Below w.heap.size w w11) := HB10.out.trans (hb11.mono HB10.out.size)
          have m0 := cell_later hb11 m0
          have mq := cell_later hb11 mq
          clear x0 x1 x2 x3 x4 y0 y1 y2 y3
          obtain ⟨x0, x1, x2, x3, x4⟩ := five_cells HO11.out
          obtain ⟨y0, y1, y2, y3⟩ := four_cells HW11.out
          go_wp2_with fail
          refine hK.out _ _ ?_ (fun hHeld => ?_)
          · exact ⟨⟨x0, x1, x2, x3, x4⟩, ⟨y0, y1, y2, y3⟩, m0, mq⟩
          clear hK K
          try simp only [Act.put, List.setIfInBounds_toArray, List.set_cons_zero, List.set_cons_succ]
          clear hq hb11 HO10 HW10 HC10 HR10 HB10
          refine held_take (i := 25) (d := 113) (v := ?_) rfl rfl (by kernel_rfl) (by kernel_rfl) (by kernel_rfl) (fun _ _ _ h => h) (Or.inl ⟨by rfl, ?_⟩) hHeld ?_
          rotate_left
          · (intro w hSw; (try dsimp only at hSw); go_simp; all_goals (with_reducible rfl))
          try simp only [Act.put, List.setIfInBounds_toArray, List.set_cons_zero, List.set_cons_succ]
          refine held_take (i := 26) (d := 114) (v := ?_) rfl rfl (by kernel_rfl) (by kernel_rfl) (by kernel_rfl) (fun _ _ _ h => h) (Or.inl ⟨by rfl, ?_⟩) hHeld ?_
          rotate_left
          · (intro w hSw; (try dsimp only at hSw); go_simp; all_goals (with_reducible rfl))
          try simp only [Act.put, List.setIfInBounds_toArray, List.set_cons_zero, List.set_cons_succ]
          refine held_take (i := 27) (d := 115) (v := ?_) rfl rfl (by kernel_rfl) (by kernel_rfl) (by kernel_rfl) (fun _ _ _ h => h) (Or.inl ⟨by rfl, ?_⟩) hHeld ?_
          rotate_left
          · (intro w hSw; (try dsimp only at hSw); go_simp; all_goals (with_reducible rfl))
          try simp only [Act.put, List.setIfInBounds_toArray, List.set_cons_zero, List.set_cons_succ]
          refine held_take (i := 28) (d := 116) (v := ?_) rfl rfl (by kernel_rfl) (by kernel_rfl) (by kernel_rfl) (fun _ _ _ h => h) (Or.inl ⟨by rfl, ?_⟩) hHeld ?_
          rotate_left
          · (intro w hSw; (try dsimp only at hSw); go_simp; all_goals (with_reducible rfl))
          try simp only [Act.put, List.setIfInBounds_toArray, List.set_cons_zero, List.set_cons_succ]
          refine held_take (i := 29) (d := 117) (v := ?_) rfl rfl (by kernel_rfl) (by kernel_rfl) (by kernel_rfl) (fun _ _ _ h => h) (Or.inl ⟨by rfl, ?_⟩) hHeld ?_
          rotate_left
          · (intro w hSw; (try dsimp only at hSw); go_simp; all_goals (with_reducible rfl))
          try simp only [Act.put, List.setIfInBounds_toArray, List.set_cons_zero, List.set_cons_succ]
          refine held_take (i := 31) (d := 119) (v := ?_) rfl rfl (by kernel_rfl) (by kernel_rfl) (by kernel_rfl) (fun _ _ _ h => h) (Or.inl ⟨by rfl, ?_⟩) hHeld ?_
          rotate_left
          · (intro w hSw; (try dsimp only at hSw); go_simp; all_goals (with_reducible rfl))
          try simp only [Act.put, List.setIfInBounds_toArray, List.set_cons_zero, List.set_cons_succ]
          have hq := next_any _ _ a1 _ (HC11.out)
          rw [HNX.out] at hq
          refine wpAnyH_ready (rs := [30]) (by kernel_rfl) (by simp) ?_
          refine AllReadyH.cons rfl (fun K hK => ?_) AllReadyH.nil
          go_simp
          refine hq.mono ?_
          rintro e w12 ⟨rfl, hb12⟩
          have HO12 : Hid (w12.heap[p5]? = some (.cells (carr ep' sh' (.slice a1' (q + 1) c1') (.slice b1' (q + 1) d1') le') 29)) := heap_kept HO11.out hb12
          have HW12 : Hid (w12.heap[p6]? = some (.cells (rarr ep' sh' (.slice (some ⟨b3, off3, none⟩) (q + 1) c3) le') 25)) := heap_kept HW11.out hb12
          have HC12 : Hid (Cfr w12 (.agg (carr ep' sh' (.slice a1' (q + 1) c1') (.slice b1' (q + 1) d1') le')) ⟨ep', sh', l, le'⟩) := HC11.out.later hb12
          have HR12 : Hid (Rfr w12 (.agg (rarr ep' sh' (.slice (some ⟨b3, off3, none⟩) (q + 1) c3) le')) ⟨ep', sh', l, le'⟩) := HR11.out.later hb12
          have HB12 : Hid (Below w.heap.size w w12) := HB11.out.trans (hb12.mono HB11.out.size)
          have m0 := cell_later hb12 m0
          have mq := cell_later hb12 mq
          clear x0 x1 x2 x3 x4 y0 y1 y2 y3
          obtain ⟨x0, x1, x2, x3, x4⟩ := five_cells HO12.out
          obtain ⟨y0, y1, y2, y3⟩ := four_cells HW12.out
          go_wp2_with fail
          refine hK.out _ _ ?_ (fun hHeld => ?_)
          · exact ⟨⟨x0, x1, x2, x3, x4⟩, ⟨y0, y1, y2, y3⟩, m0, mq⟩
          clear hK K
          try simp only [Act.put, List.setIfInBounds_toArray, List.set_cons_zero, List.set_cons_succ]
          clear hq hb12 HO11 HW11 HC11 HR11 HB11
          refine held_take (i := 32) (d := 120) (v := ?_) rfl rfl (by kernel_rfl) (by kernel_rfl) (by kernel_rfl) (fun _ _ _ h => h) (Or.inl ⟨by rfl, ?_⟩) hHeld ?_
          rotate_left
          · (intro w hSw; (try dsimp only at hSw); go_simp; all_goals (with_reducible rfl))
          try simp only [Act.put, List.setIfInBounds_toArray, List.set_cons_zero, List.set_cons_succ]
          refine held_take (i := 33) (d := 121) (v := ?_) rfl rfl (by kernel_rfl) (by kernel_rfl) (by kernel_rfl) (fun _ _ _ h => h) (Or.inl ⟨by rfl, ?_⟩) hHeld ?_
          rotate_left
          · (intro w hSw; (try dsimp only at hSw); go_simp; all_goals (with_reducible rfl))
          try simp only [Act.put, List.setIfInBounds_toArray, List.set_cons_zero, List.set_cons_succ]
          refine held_take (i := 34) (d := 122) (v := ?_) rfl rfl (by kernel_rfl) (by kernel_rfl) (by kernel_rfl) (fun _ _ _ h => h) (Or.inl ⟨by rfl, ?_⟩) hHeld ?_
          rotate_left
          · (intro w hSw; (try dsimp only at hSw); go_simp; all_goals (with_reducible rfl))
          try simp only [Act.put, List.setIfInBounds_toArray, List.set_cons_zero, List.set_cons_succ]
          refine held_take (i := 35) (d := 123) (v := ?_) rfl rfl (by kernel_rfl) (by kernel_rfl) (by kernel_rfl) (fun _ _ _ h => h) (Or.inl ⟨by rfl, ?_⟩) hHeld ?_
          rotate_left
          · (intro w hSw; (try dsimp only at hSw); go_simp; all_goals (with_reducible rfl))
          try simp only [Act.put, List.setIfInBounds_toArray, List.set_cons_zero, List.set_cons_succ]
          refine held_take (i := 36) (d := 124) (v := ?_) rfl rfl (by kernel_rfl) (by kernel_rfl) (by kernel_rfl) (fun _ _ _ h => h) (Or.inl ⟨by rfl, ?_⟩) hHeld ?_
          rotate_left
          · (intro w hSw; (try dsimp only at hSw); go_simp; all_goals (with_reducible rfl))
          try simp only [Act.put, List.setIfInBounds_toArray, List.set_cons_zero, List.set_cons_succ]
          refine held_take (i := 38) (d := 126) (v := ?_) rfl rfl (by kernel_rfl) (by kernel_rfl) (by kernel_rfl) (fun _ _ _ h => h) (Or.inl ⟨by rfl, ?_⟩) hHeld ?_
          rotate_left
          · (intro w hSw; (try dsimp only at hSw); go_simp; all_goals (with_reducible rfl))
          try simp only [Act.put, List.setIfInBounds_toArray, List.set_cons_zero, List.set_cons_succ]
          have hq := prev_any _ _ a1 _ (HC12.out)
          rw [HPV.out] at hq
          refine wpAnyH_ready (rs := [37]) (by kernel_rfl) (by simp) ?_
          refine AllReadyH.cons rfl (fun K hK => ?_) AllReadyH.nil
          go_simp
          refine hq.mono ?_
          rintro e w13 ⟨rfl, hb13⟩
          have HO13 : Hid (w13.heap[p5]? = some (.cells (carr ep' sh' (.slice a1' (q + 1) c1') (.slice b1' (q + 1) d1') le') 29)) := heap_kept HO12.out hb13
          have HW13 : Hid (w13.heap[p6]? = some (.cells (rarr ep' sh' (.slice (some ⟨b3, off3, none⟩) (q + 1) c3) le') 25)) := heap_kept HW12.out hb13
          have HC13 : Hid (Cfr w13 (.agg (carr ep' sh' (.slice a1' (q + 1) c1') (.slice b1' (q + 1) d1') le')) ⟨ep', sh', l, le'⟩) := HC12.out.later hb13
          have HR13 : Hid (Rfr w13 (.agg (rarr ep' sh' (.slice (some ⟨b3, off3, none⟩) (q + 1) c3) le')) ⟨ep', sh', l, le'⟩) := HR12.out.later hb13
          have HB13 : Hid (Below w.heap.size w w13) := HB12.out.trans (hb13.mono HB12.out.size)
          have m0 := cell_later hb13 m0
          have mq := cell_later hb13 mq
          clear x0 x1 x2 x3 x4 y0 y1 y2 y3
          obtain ⟨x0, x1, x2, x3, x4⟩ := five_cells HO13.out
          obtain ⟨y0, y1, y2, y3⟩ := four_cells HW13.out
          go_wp2_with fail
          refine hK.out _ _ ?_ (fun hHeld => ?_)
          · exact ⟨⟨x0, x1, x2, x3, x4⟩, ⟨y0, y1, y2, y3⟩, m0, mq⟩
          clear hK K
          try simp only [Act.put, List.setIfInBounds_toArray, List.set_cons_zero, List.set_cons_succ]
          clear hq hb13 HO12 HW12 HC12 HR12 HB12
          refine held_take (i := 39) (d := 127) (v := ?_) rfl rfl (by kernel_rfl) (by kernel_rfl) (by kernel_rfl) (fun _ _ _ h => h) (Or.inl ⟨by rfl, ?_⟩) hHeld ?_
          rotate_left
          · (intro w hSw; (try dsimp only at hSw); go_simp; all_goals (with_reducible rfl))
          try simp only [Act.put, List.setIfInBounds_toArray, List.set_cons_zero, List.set_cons_succ]
          refine held_take (i := 40) (d := 128) (v := ?_) rfl rfl (by kernel_rfl) (by kernel_rfl) (by kernel_rfl) (fun _ _ _ h => h) (Or.inl ⟨by rfl, ?_⟩) hHeld ?_
          rotate_left
          · (intro w hSw; (try dsimp only at hSw); go_simp; all_goals (with_reducible rfl))
          try simp only [Act.put, List.setIfInBounds_toArray, List.set_cons_zero, List.set_cons_succ]
          refine held_take (i := 41) (d := 129) (v := ?_) rfl rfl (by kernel_rfl) (by kernel_rfl) (by kernel_rfl) (fun _ _ _ h => h) (Or.inl ⟨by rfl, ?_⟩) hHeld ?_
          rotate_left
          · (intro w hSw; (try dsimp only at hSw); go_simp; all_goals (with_reducible rfl))
          try simp only [Act.put, List.setIfInBounds_toArray, List.set_cons_zero, List.set_cons_succ]
          refine held_take (i := 42) (d := 130) (v := ?_) rfl rfl (by kernel_rfl) (by kernel_rfl) (by kernel_rfl) (fun _ _ _ h => h) (Or.inl ⟨by rfl, ?_⟩) hHeld ?_
          rotate_left
          · (intro w hSw; (try dsimp only at hSw); go_simp; all_goals (with_reducible rfl))
          try simp only [Act.put, List.setIfInBounds_toArray, List.set_cons_zero, List.set_cons_succ]
          refine held_take (i := 43) (d := 131) (v := ?_) rfl rfl (by kernel_rfl) (by kernel_rfl) (by kernel_rfl) (fun _ _ _ h => h) (Or.inl ⟨by rfl, ?_⟩) hHeld ?_
          rotate_left
          · (intro w hSw; (try dsimp only at hSw); go_simp; all_goals (with_reducible rfl))
          try simp only [Act.put, List.setIfInBounds_toArray, List.set_cons_zero, List.set_cons_succ]
          refine held_take (i := 45) (d := 133) (v := ?_) rfl rfl (by kernel_rfl) (by kernel_rfl) (by kernel_rfl) (fun _ _ _ h => h) (Or.inl ⟨by rfl, ?_⟩) hHeld ?_
          rotate_left
          · (intro w hSw; (try dsimp only at hSw); go_simp; all_goals (with_reducible rfl))
          try simp only [Act.put, List.setIfInBounds_toArray, List.set_cons_zero, List.set_cons_succ]
          refine held_take (i := 46) (d := 134) (v := ?_) rfl rfl (by kernel_rfl) (by kernel_rfl) (by kernel_rfl) (fun _ _ _ h => h) (Or.inl ⟨by rfl, ?_⟩) hHeld ?_
          rotate_left
          · (intro w hSw; (try dsimp only at hSw); go_simp; all_goals (with_reducible rfl))
          try simp only [Act.put, List.setIfInBounds_toArray, List.set_cons_zero, List.set_cons_succ]
          have hq := has_any _ _ a1 _ (HC13.out)
          rw [HHA.out] at hq
          refine wpAnyH_ready (rs := [44]) (by kernel_rfl) (by simp) ?_
          refine AllReadyH.cons rfl (fun K hK => ?_) AllReadyH.nil
          go_simp
          refine hq.mono ?_
          rintro e w14 ⟨rfl, hb14⟩
          have HO14 : Hid (w14.heap[p5]? = some (.cells (carr ep' sh' (.slice a1' (q + 1) c1') (.slice b1' (q + 1) d1') le') 29)) := heap_kept HO13.out hb14
          have HW14 : Hid (w14.heap[p6]? = some (.cells (rarr ep' sh' (.slice (some ⟨b3, off3, none⟩) (q + 1) c3) le') 25)) := heap_kept HW13.out hb14
          have HC14 : Hid (Cfr w14 (.agg (carr ep' sh' (.slice a1' (q + 1) c1') (.slice b1' (q + 1) d1') le')) ⟨ep', sh', l, le'⟩) := HC13.out.later hb14
          have HR14 : Hid (Rfr w14 (.agg (rarr ep' sh' (.slice (some ⟨b3, off3, none⟩) (q + 1) c3) le')) ⟨ep', sh', l, le'⟩) := HR13.out.later hb14
          have HB14 : Hid (Below w.heap.size w w14) := HB13.out.trans (hb14.mono HB13.out.size)
          have m0 := cell_later hb14 m0
          have mq := cell_later hb14 mq
          clear x0 x1 x2 x3 x4 y0 y1 y2 y3
          obtain ⟨x0, x1, x2, x3, x4⟩ := five_cells HO14.out
          obtain ⟨y0, y1, y2, y3⟩ := four_cells HW14.out
          go_wp2_with fail
          refine hK.out _ _ ?_ (fun hHeld => ?_)
          · exact ⟨⟨x0, x1, x2, x3, x4⟩, ⟨y0, y1, y2, y3⟩, m0, mq⟩
          clear hK K
          try simp only [Act.put, List.setIfInBounds_toArray, List.set_cons_zero, List.set_cons_succ]
          clear hq hb14 HO13 HW13 HC13 HR13 HB13
          refine held_take (i := 47) (d := 135) (v := ?_) rfl rfl (by kernel_rfl) (by kernel_rfl) (by kernel_rfl) (fun _ _ _ h => h) (Or.inl ⟨by rfl, ?_⟩) hHeld ?_
          rotate_left
          · (intro w hSw; (try dsimp only at hSw); go_simp; all_goals (with_reducible rfl))
          try simp only [Act.put, List.setIfInBounds_toArray, List.set_cons_zero, List.set_cons_succ]
          refine held_take (i := 48) (d := 136) (v := undef) rfl rfl (by kernel_rfl) (by kernel_rfl) (by kernel_rfl) (fun _ _ _ h => h) (Or.inr ⟨by rfl, rfl⟩) hHeld ?_
          try simp only [Act.put, List.setIfInBounds_toArray, List.set_cons_zero, List.set_cons_succ]
          refine held_take (i := 49) (d := 137) (v := undef) rfl rfl (by kernel_rfl) (by kernel_rfl) (by kernel_rfl) (fun _ _ _ h => h) (Or.inr ⟨by rfl, rfl⟩) hHeld ?_
          try simp only [Act.put, List.setIfInBounds_toArray, List.set_cons_zero, List.set_cons_succ]
          refine held_take (i := 50) (d := 138) (v := undef) rfl rfl (by kernel_rfl) (by kernel_rfl) (by kernel_rfl) (fun _ _ _ h => h) (Or.inr ⟨by rfl, rfl⟩) hHeld ?_
          try simp only [Act.put, List.setIfInBounds_toArray, List.set_cons_zero, List.set_cons_succ]
          refine held_take (i := 51) (d := 139) (v := undef) rfl rfl (by kernel_rfl) (by kernel_rfl) (by kernel_rfl) (fun _ _ _ h => h) (Or.inr ⟨by rfl, rfl⟩) hHeld ?_
          try simp only [Act.put, List.setIfInBounds_toArray, List.set_cons_zero, List.set_cons_succ]
          refine held_take (i := 52) (d := 140) (v := undef) rfl rfl (by kernel_rfl) (by kernel_rfl) (by kernel_rfl) (fun _ _ _ h => h) (Or.inr ⟨by rfl, rfl⟩) hHeld ?_
          try simp only [Act.put, List.setIfInBounds_toArray, List.set_cons_zero, List.set_cons_succ]
          refine held_take (i := 53) (d := 141) (v := undef) rfl rfl (by kernel_rfl) (by kernel_rfl) (by kernel_rfl) (fun _ _ _ h => h) (Or.inr ⟨by rfl, rfl⟩) hHeld ?_
          try simp only [Act.put, List.setIfInBounds_toArray, List.set_cons_zero, List.set_cons_succ]
          refine held_take (i := 54) (d := 142) (v := undef) rfl rfl (by kernel_rfl) (by kernel_rfl) (by kernel_rfl) (fun _ _ _ h => h) (Or.inr ⟨by rfl, rfl⟩) hHeld ?_
          try simp only [Act.put, List.setIfInBounds_toArray, List.set_cons_zero, List.set_cons_succ]
          refine held_take (i := 55) (d := 143) (v := undef) rfl rfl (by kernel_rfl) (by kernel_rfl) (by kernel_rfl) (fun _ _ _ h => h) (Or.inr ⟨by rfl, rfl⟩) hHeld ?_
          try simp only [Act.put, List.setIfInBounds_toArray, List.set_cons_zero, List.set_cons_succ]
          refine held_take (i := 56) (d := 144) (v := ?_) rfl rfl (by kernel_rfl) (by kernel_rfl) (by kernel_rfl) (fun _ _ _ h => h) (Or.inl ⟨by rfl, ?_⟩) hHeld ?_
          rotate_left
          · (intro w hSw; (try dsimp only at hSw); go_simp; all_goals (with_reducible rfl))
          try simp only [Act.put, List.setIfInBounds_toArray, List.set_cons_zero, List.set_cons_succ]
          refine held_take (i := 57) (d := 145) (v := ?_) rfl rfl (by kernel_rfl) (by kernel_rfl) (by kernel_rfl) (fun _ _ _ h => h) (Or.inl ⟨by rfl, ?_⟩) hHeld ?_
          rotate_left
          · (intro w hSw; (try dsimp only at hSw); go_simp; all_goals (with_reducible rfl))
          try simp only [Act.put, List.setIfInBounds_toArray, List.set_cons_zero, List.set_cons_succ]
          refine held_take (i := 58) (d := 146) (v := ?_) rfl rfl (by kernel_rfl) (by kernel_rfl) (by kernel_rfl) (fun _ _ _ h => h) (Or.inl ⟨by rfl, ?_⟩) hHeld ?_
          rotate_left
          · (intro w hSw; (try dsimp only at hSw); go_simp; all_goals (with_reducible rfl))
          try simp only [Act.put, List.setIfInBounds_toArray, List.set_cons_zero, List.set_cons_succ]
          refine held_take (i := 59) (d := 147) (v := ?_) rfl rfl (by kernel_rfl) (by kernel_rfl) (by kernel_rfl) (fun _ _ _ h => h) (Or.inl ⟨by rfl, ?_⟩) hHeld ?_
          rotate_left
          · (intro w hSw; (try dsimp only at hSw); go_simp; all_goals (with_reducible rfl))
          try simp only [Act.put, List.setIfInBounds_toArray, List.set_cons_zero, List.set_cons_succ]
          have hq := awake_any w14
          refine wpAnyH_ready (rs := [60]) (by kernel_rfl) (by simp) ?_
          refine AllReadyH.cons rfl (fun K hK => ?_) AllReadyH.nil
          go_simp
          refine hq.mono ?_
          rintro e w15 ⟨rfl, hb15⟩
          have HO15 : Hid (w15.heap[p5]? = some (.cells (carr ep' sh' (.slice a1' (q + 1) c1') (.slice b1' (q + 1) d1') le') 29)) := heap_kept HO14.out hb15
          have HW15 : Hid (w15.heap[p6]? = some (.cells (rarr ep' sh' (.slice (some ⟨b3, off3, none⟩) (q + 1) c3) le') 25)) := heap_kept HW14.out hb15
          have HC15 : Hid (Cfr w15 (.agg (carr ep' sh' (.slice a1' (q + 1) c1') (.slice b1' (q + 1) d1') le')) ⟨ep', sh', l, le'⟩) := HC14.out.later hb15
          have HR15 : Hid (Rfr w15 (.agg (rarr ep' sh' (.slice (some ⟨b3, off3, none⟩) (q + 1) c3) le')) ⟨ep', sh', l, le'⟩) := HR14.out.later hb15
          have HB15 : Hid (Below w.heap.size w w15) := HB14.out.trans (hb15.mono HB14.out.size)
          have m0 := cell_later hb15 m0
          have mq := cell_later hb15 mq
          clear x0 x1 x2 x3 x4 y0 y1 y2 y3
          obtain ⟨x0, x1, x2, x3, x4⟩ := five_cells HO15.out
          obtain ⟨y0, y1, y2, y3⟩ := four_cells HW15.out
          go_wp2_with fail
          refine hK.out _ _ ?_ (fun hHeld => ?_)
          · exact ⟨⟨x0, x1, x2, x3, x4⟩, ⟨y0, y1, y2, y3⟩, m0, mq⟩
          clear hK K
          try simp only [Act.put, List.setIfInBounds_toArray, List.set_cons_zero, List.set_cons_succ]
          clear hq hb15 HO14 HW14 HC14 HR14 HB14
          refine held_take (i := 61) (d := 149) (v := ?_) rfl rfl (by kernel_rfl) (by kernel_rfl) (by kernel_rfl) (fun _ _ _ h => h) (Or.inl ⟨by rfl, ?_⟩) hHeld ?_
          rotate_left
          · (intro w hSw; (try dsimp only at hSw); go_simp; all_goals (with_reducible rfl))
          try simp only [Act.put, List.setIfInBounds_toArray, List.set_cons_zero, List.set_cons_succ]
          refine held_take (i := 62) (d := 4) (v := ?_) rfl rfl (by kernel_rfl) (by kernel_rfl) (by kernel_rfl) (fun _ _ _ h => h) (Or.inl ⟨by rfl, ?_⟩) hHeld ?_
          rotate_left
          · (intro w hSw; (try dsimp only at hSw); go_simp; all_goals (with_reducible rfl))
          try simp only [Act.put, List.setIfInBounds_toArray, List.set_cons_zero, List.set_cons_succ]
          refine wpAnyH_done (by kernel_rfl) ?_ _
          refine NoPanic.normal ?_
          go_wp2
          go_ret
          exact ⟨rfl, HB15.out⟩
    · have hp1 : pk = -1 := by rw [HPQ.out]; exact plc_miss hin
      subst hp1
      have HNX : Hid (besideC ⟨ep', sh', l, le'⟩ a1 1 = -1) := by simp [Hid, besideC, HPK.out]
      have HPV : Hid (besideC ⟨ep', sh', l, le'⟩ a1 (-1) = -1) := by simp [Hid, besideC, HPK.out]
      have HHH : Hid (hasB ⟨ep', sh', l, le'⟩ a1 = (srv a1 && decide (le' = a1))) := by simp [Hid, hasB, learnsB, ← HRB.out, HPK.out]
      clear HPQ hin
      by_cases ha0 : a1 < 0
      · have HHA : Hid (hasB ⟨ep', sh', l, le'⟩ a1 = false) := by rw [Hid, HHH.out, srv_false.2 (by omega)]; rfl
        have hd0 : decide (0 ≤ a1) = false := by rw [decide_eq_false_iff_not]; omega
        go_upto_region 14 with fail
        refine wp_region_noPanic ?_
        refine wp_region_held_drew (S := fun w' => (w'.cell? ⟨p5, 0, none⟩ = some (.int .u64 (ep' : Nat)) ∧ w'.cell? ⟨p5, 1, none⟩ = some (.int .i64 sh') ∧ w'.cell? ⟨p5, 2, none⟩ = some (.slice a1' (q + 1) c1') ∧ w'.cell? ⟨p5, 3, none⟩ = some (.slice b1' (q + 1) d1') ∧ w'.cell? ⟨p5, 4, none⟩ = some (.int .i64 le')) ∧ (w'.cell? ⟨p6, 0, none⟩ = some (.int .u64 (ep' : Nat)) ∧ w'.cell? ⟨p6, 1, none⟩ = some (.int .i64 sh') ∧ w'.cell? ⟨p6, 2, none⟩ = some (.slice (some ⟨b3, off3, none⟩) (q + 1) c3) ∧ w'.cell? ⟨p6, 3, none⟩ = some (.int .i64 le')) ∧ w'.cell? ⟨b3, off3, none⟩ = some (.int .i64 f0) ∧ w'.cell? ⟨b3, off3 + q * 2, none⟩ = some (.int .i64 fl)) (by kernel_rfl) ?_ (fun hHeld => ?_)
        · exact ⟨⟨x0, x1, x2, x3, x4⟩, ⟨y0, y1, y2, y3⟩, m0, mq⟩
        refine held_take (i := 0) (d := 88) (v := ?_) rfl rfl (by kernel_rfl) (by kernel_rfl) (by kernel_rfl) (fun _ _ _ h => h) (Or.inl ⟨by rfl, ?_⟩) hHeld ?_
        rotate_left
        · (intro w hSw; (try dsimp only at hSw); go_simp; all_goals (with_reducible rfl))
        try simp only [Act.put, List.setIfInBounds_toArray, List.set_cons_zero, List.set_cons_succ]
        refine held_take (i := 1) (d := 89) (v := ?_) rfl rfl (by kernel_rfl) (by kernel_rfl) (by kernel_rfl) (fun _ _ _ h => h) (Or.inl ⟨by rfl, ?_⟩) hHeld ?_
        rotate_left
        · (intro w hSw; (try dsimp only at hSw); go_simp; all_goals (with_reducible rfl))
        try simp only [Act.put, List.setIfInBounds_toArray, List.set_cons_zero, List.set_cons_succ]
        refine held_take (i := 2) (d := 90) (v := ?_) rfl rfl (by kernel_rfl) (by kernel_rfl) (by kernel_rfl) (fun _ _ _ h => h) (Or.inl ⟨by rfl, ?_⟩) hHeld ?_
        rotate_left
        · (intro w hSw; (try dsimp only at hSw); go_simp; all_goals (with_reducible rfl))
        try simp only [Act.put, List.setIfInBounds_toArray, List.set_cons_zero, List.set_cons_succ]
        refine held_take (i := 3) (d := 91) (v := ?_) rfl rfl (by kernel_rfl) (by kernel_rfl) (by kernel_rfl) (fun _ _ _ h => h) (Or.inl ⟨by rfl, ?_⟩) hHeld ?_
        rotate_left
        · (intro w hSw; (try dsimp only at hSw); go_simp; all_goals (with_reducible rfl))
        try simp only [Act.put, List.setIfInBounds_toArray, List.set_cons_zero, List.set_cons_succ]
        refine held_take (i := 4) (d := 92) (v := ?_) rfl rfl (by kernel_rfl) (by kernel_rfl) (by kernel_rfl) (fun _ _ _ h => h) (Or.inl ⟨by rfl, ?_⟩) hHeld ?_
        rotate_left
        · (intro w hSw; (try dsimp only at hSw); go_simp; all_goals (with_reducible rfl))
        try simp only [Act.put, List.setIfInBounds_toArray, List.set_cons_zero, List.set_cons_succ]
        refine held_take (i := 6) (d := 94) (v := ?_) rfl rfl (by kernel_rfl) (by kernel_rfl) (by kernel_rfl) (fun _ _ _ h => h) (Or.inl ⟨by rfl, ?_⟩) hHeld ?_
        rotate_left
        · (intro w hSw; (try dsimp only at hSw); go_simp; all_goals (with_reducible rfl))
        try simp only [Act.put, List.setIfInBounds_toArray, List.set_cons_zero, List.set_cons_succ]
        refine held_take (i := 7) (d := 95) (v := ?_) rfl rfl (by kernel_rfl) (by kernel_rfl) (by kernel_rfl) (fun _ _ _ h => h) (Or.inl ⟨by rfl, ?_⟩) hHeld ?_
        rotate_left
        · (intro w hSw; (try dsimp only at hSw); go_simp; all_goals (with_reducible rfl))
        try simp only [Act.put, List.setIfInBounds_toArray, List.set_cons_zero, List.set_cons_succ]
        refine held_take (i := 8) (d := 96) (v := ?_) rfl rfl (by kernel_rfl) (by kernel_rfl) (by kernel_rfl) (fun _ _ _ h => h) (Or.inl ⟨by rfl, ?_⟩) hHeld ?_
        rotate_left
        · (intro w hSw; (try dsimp only at hSw); go_simp; all_goals (with_reducible rfl))
        try simp only [Act.put, List.setIfInBounds_toArray, List.set_cons_zero, List.set_cons_succ]
        refine held_take (i := 9) (d := 97) (v := ?_) rfl rfl (by kernel_rfl) (by kernel_rfl) (by kernel_rfl) (fun _ _ _ h => h) (Or.inl ⟨by rfl, ?_⟩) hHeld ?_
        rotate_left
        · (intro w hSw; (try dsimp only at hSw); go_simp; all_goals (with_reducible rfl))
        try simp only [Act.put, List.setIfInBounds_toArray, List.set_cons_zero, List.set_cons_succ]
        refine held_take (i := 10) (d := 98) (v := ?_) rfl rfl (by kernel_rfl) (by kernel_rfl) (by kernel_rfl) (fun _ _ _ h => h) (Or.inl ⟨by rfl, ?_⟩) hHeld ?_
        rotate_left
        · (intro w hSw; (try dsimp only at hSw); go_simp; all_goals (with_reducible rfl))
        try simp only [Act.put, List.setIfInBounds_toArray, List.set_cons_zero, List.set_cons_succ]
        have hq := head_any _ _  _ (HC9.out.later (Below.refl _ w9).drew)
        rw [HHD.out] at hq
        refine wpAnyH_ready (rs := [5]) (by kernel_rfl) (by simp) ?_
        refine AllReadyH.cons rfl (fun K hK => ?_) AllReadyH.nil
        go_simp
        refine hq.mono ?_
        rintro e w10 ⟨rfl, hb10⟩
        have b10 : Below w9.heap.size w9 w10 := (Below.refl _ w9).drew.trans hb10
        have HO10 : Hid (w10.heap[p5]? = some (.cells (carr ep' sh' (.slice a1' (q + 1) c1') (.slice b1' (q + 1) d1') le') 29)) := heap_kept HO9.out b10
        have HW10 : Hid (w10.heap[p6]? = some (.cells (rarr ep' sh' (.slice (some ⟨b3, off3, none⟩) (q + 1) c3) le') 25)) := heap_kept HW9.out b10
        have HC10 : Hid (Cfr w10 (.agg (carr ep' sh' (.slice a1' (q + 1) c1') (.slice b1' (q + 1) d1') le')) ⟨ep', sh', l, le'⟩) := HC9.out.later b10
        have HR10 : Hid (Rfr w10 (.agg (rarr ep' sh' (.slice (some ⟨b3, off3, none⟩) (q + 1) c3) le')) ⟨ep', sh', l, le'⟩) := HR9.out.later b10
        have HB10 : Hid (Below w.heap.size w w10) := HB9.out.trans (b10.mono HB9.out.size)
        have m0 := cell_later b10 m0
        have mq := cell_later b10 mq
        clear x0 x1 x2 x3 x4 y0 y1 y2 y3
        obtain ⟨x0, x1, x2, x3, x4⟩ := five_cells HO10.out
        obtain ⟨y0, y1, y2, y3⟩ := four_cells HW10.out
        go_wp2_with fail
        refine hK.out _ _ ?_ (fun hHeld => ?_)
        · exact ⟨⟨x0, x1, x2, x3, x4⟩, ⟨y0, y1, y2, y3⟩, m0, mq⟩
        clear hK K
        try simp only [Act.put, List.setIfInBounds_toArray, List.set_cons_zero, List.set_cons_succ]
        clear hq b10 HO9 HW9 HC9 HR9 HB9
        refine held_take (i := 11) (d := 99) (v := ?_) rfl rfl (by kernel_rfl) (by kernel_rfl) (by kernel_rfl) (fun _ _ _ h => h) (Or.inl ⟨by rfl, ?_⟩) hHeld ?_
        rotate_left
        · (intro w hSw; (try dsimp only at hSw); go_simp; all_goals (with_reducible rfl))
        try simp only [Act.put, List.setIfInBounds_toArray, List.set_cons_zero, List.set_cons_succ]
        refine held_take (i := 12) (d := 100) (v := ?_) rfl rfl (by kernel_rfl) (by kernel_rfl) (by kernel_rfl) (fun _ _ _ h => h) (Or.inl ⟨by rfl, ?_⟩) hHeld ?_
        rotate_left
        · (intro w hSw; (try dsimp only at hSw); go_simp; all_goals (with_reducible rfl))
        try simp only [Act.put, List.setIfInBounds_toArray, List.set_cons_zero, List.set_cons_succ]
        refine held_take (i := 13) (d := 101) (v := ?_) rfl rfl (by kernel_rfl) (by kernel_rfl) (by kernel_rfl) (fun _ _ _ h => h) (Or.inl ⟨by rfl, ?_⟩) hHeld ?_
        rotate_left
        · (intro w hSw; (try dsimp only at hSw); go_simp; all_goals (with_reducible rfl))
        try simp only [Act.put, List.setIfInBounds_toArray, List.set_cons_zero, List.set_cons_succ]
        refine held_take (i := 14) (d := 102) (v := ?_) rfl rfl (by kernel_rfl) (by kernel_rfl) (by kernel_rfl) (fun _ _ _ h => h) (Or.inl ⟨by rfl, ?_⟩) hHeld ?_
        rotate_left
        · (intro w hSw; (try dsimp only at hSw); go_simp; all_goals (with_reducible rfl))
        try simp only [Act.put, List.setIfInBounds_toArray, List.set_cons_zero, List.set_cons_succ]
        refine held_take (i := 16) (d := 104) (v := ?_) rfl rfl (by kernel_rfl) (by kernel_rfl) (by kernel_rfl) (fun _ _ _ h => h) (Or.inl ⟨by rfl, ?_⟩) hHeld ?_
        rotate_left
        · (intro w hSw; (try dsimp only at hSw); go_simp; all_goals (with_reducible rfl))
        try simp only [Act.put, List.setIfInBounds_toArray, List.set_cons_zero, List.set_cons_succ]
        refine held_take (i := 17) (d := 105) (v := ?_) rfl rfl (by kernel_rfl) (by kernel_rfl) (by kernel_rfl) (fun _ _ _ h => h) (Or.inl ⟨by rfl, ?_⟩) hHeld ?_
        rotate_left
        · (intro w hSw; (try dsimp only at hSw); go_simp; all_goals (with_reducible rfl))
        try simp only [Act.put, List.setIfInBounds_toArray, List.set_cons_zero, List.set_cons_succ]
        refine held_take (i := 18) (d := 106) (v := ?_) rfl rfl (by kernel_rfl) (by kernel_rfl) (by kernel_rfl) (fun _ _ _ h => h) (Or.inl ⟨by rfl, ?_⟩) hHeld ?_
        rotate_left
        · (intro w hSw; (try dsimp only at hSw); go_simp; all_goals (with_reducible rfl))
        try simp only [Act.put, List.setIfInBounds_toArray, List.set_cons_zero, List.set_cons_succ]
        refine held_take (i := 19) (d := 107) (v := ?_) rfl rfl (by kernel_rfl) (by kernel_rfl) (by kernel_rfl) (fun _ _ _ h => h) (Or.inl ⟨by rfl, ?_⟩) hHeld ?_
        rotate_left
        · (intro w hSw; (try dsimp only at hSw); go_simp; all_goals (with_reducible rfl))
        try simp only [Act.put, List.setIfInBounds_toArray, List.set_cons_zero, List.set_cons_succ]
        refine held_take (i := 20) (d := 108) (v := ?_) rfl rfl (by kernel_rfl) (by kernel_rfl) (by kernel_rfl) (fun _ _ _ h => h) (Or.inl ⟨by rfl, ?_⟩) hHeld ?_
        rotate_left
        · (intro w hSw; (try dsimp only at hSw); go_simp; all_goals (with_reducible rfl))
        try simp only [Act.put, List.setIfInBounds_toArray, List.set_cons_zero, List.set_cons_succ]
        refine held_take (i := 21) (d := 109) (v := ?_) rfl rfl (by kernel_rfl) (by kernel_rfl) (by kernel_rfl) (fun _ _ _ h => h) (Or.inl ⟨by rfl, ?_⟩) hHeld ?_
        rotate_left
        · (intro w hSw; (try dsimp only at hSw); go_simp; all_goals (with_reducible rfl))
        try simp only [Act.put, List.setIfInBounds_toArray, List.set_cons_zero, List.set_cons_succ]
        refine held_take (i := 22) (d := 110) (v := ?_) rfl rfl (by kernel_rfl) (by kernel_rfl) (by kernel_rfl) (fun _ _ _ h => h) (Or.inl ⟨by rfl, ?_⟩) hHeld ?_
        rotate_left
        · (intro w hSw; (try dsimp only at hSw); go_simp; all_goals (with_reducible rfl))
        try simp only [Act.put, List.setIfInBounds_toArray, List.set_cons_zero, List.set_cons_succ]
        refine held_take (i := 23) (d := 111) (v := ?_) rfl rfl (by kernel_rfl) (by kernel_rfl) (by kernel_rfl) (fun _ _ _ h => h) (Or.inl ⟨by rfl, ?_⟩) hHeld ?_
        rotate_left
        · (intro w hSw; (try dsimp only at hSw); go_simp; all_goals (with_reducible rfl))
        try simp only [Act.put, List.setIfInBounds_toArray, List.set_cons_zero, List.set_cons_succ]
        refine held_take (i := 24) (d := 112) (v := ?_) rfl rfl (by kernel_rfl) (by kernel_rfl) (by kernel_rfl) (fun _ _ _ h => h) (Or.inl ⟨by rfl, ?_⟩) hHeld ?_
        rotate_left
        · (intro w hSw; (try dsimp only at hSw); go_simp; all_goals (with_reducible rfl))
        try simp only [Act.put, List.setIfInBounds_toArray, List.set_cons_zero, List.set_cons_succ]
        have hq := tail_any _ _  _ (HC10.out)
        rw [HTL.out] at hq
        refine wpAnyH_ready (rs := [15]) (by kernel_rfl) (by simp) ?_
        refine AllReadyH.cons rfl (fun K hK => ?_) AllReadyH.nil
        go_simp
        refine hq.mono ?_
        rintro e w11 ⟨rfl, hb11⟩
        have HO11 : Hid (w11.heap[p5]? = some (.cells (carr ep' sh' (.slice a1' (q + 1) c1') (.slice b1' (q + 1) d1') le') 29)) := heap_kept HO10.out hb11
        have HW11 : Hid (w11.heap[p6]? = some (.cells (rarr ep' sh' (.slice (some ⟨b3, off3, none⟩) (q + 1) c3) le') 25)) := heap_kept HW10.out hb11
        have HC11 : Hid (Cfr w11 (.agg (carr ep' sh' (.slice a1' (q + 1) c1') (.slice b1' (q + 1) d1') le')) ⟨ep', sh', l, le'⟩) := HC10.out.later hb11
        have HR11 : Hid (Rfr w11 (.agg (rarr ep' sh' (.slice (some ⟨b3, off3, none⟩) (q + 1) c3) le')) ⟨ep', sh', l, le'⟩) := HR10.out.later hb11
        have HB11 : Hid (Below w.heap.size w w11) := HB10.out.trans (hb11.mono HB10.out.size)
        have m0 := cell_later hb11 m0
        have mq := cell_later hb11 mq
        clear x0 x1 x2 x3 x4 y0 y1 y2 y3
        obtain ⟨x0, x1, x2, x3, x4⟩ := five_cells HO11.out
        obtain ⟨y0, y1, y2, y3⟩ := four_cells HW11.out
        go_wp2_with fail
        refine hK.out _ _ ?_ (fun hHeld => ?_)
        · exact ⟨⟨x0, x1, x2, x3, x4⟩, ⟨y0, y1, y2, y3⟩, m0, mq⟩
        clear hK K
        try simp only [Act.put, List.setIfInBounds_toArray, List.set_cons_zero, List.set_cons_succ]
        clear hq hb11 HO10 HW10 HC10 HR10 HB10
        refine held_take (i := 25) (d := 113) (v := ?_) rfl rfl (by kernel_rfl) (by kernel_rfl) (by kernel_rfl) (fun _ _ _ h => h) (Or.inl ⟨by rfl, ?_⟩) hHeld ?_
        rotate_left
        · (intro w hSw; (try dsimp only at hSw); go_simp; all_goals (with_reducible rfl))
        try simp only [Act.put, List.setIfInBounds_toArray, List.set_cons_zero, List.set_cons_succ]
        refine held_take (i := 26) (d := 114) (v := ?_) rfl rfl (by kernel_rfl) (by kernel_rfl) (by kernel_rfl) (fun _ _ _ h => h) (Or.inl ⟨by rfl, ?_⟩) hHeld ?_
        rotate_left
        · (intro w hSw; (try dsimp only at hSw); go_simp; all_goals (with_reducible rfl))
        try simp only [Act.put, List.setIfInBounds_toArray, List.set_cons_zero, List.set_cons_succ]
        refine held_take (i := 27) (d := 115) (v := ?_) rfl rfl (by kernel_rfl) (by kernel_rfl) (by kernel_rfl) (fun _ _ _ h => h) (Or.inl ⟨by rfl, ?_⟩) hHeld ?_
        rotate_left
        · (intro w hSw; (try dsimp only at hSw); go_simp; all_goals (with_reducible rfl))
        try simp only [Act.put, List.setIfInBounds_toArray, List.set_cons_zero, List.set_cons_succ]
        refine held_take (i := 28) (d := 116) (v := ?_) rfl rfl (by kernel_rfl) (by kernel_rfl) (by kernel_rfl) (fun _ _ _ h => h) (Or.inl ⟨by rfl, ?_⟩) hHeld ?_
        rotate_left
        · (intro w hSw; (try dsimp only at hSw); go_simp; all_goals (with_reducible rfl))
        try simp only [Act.put, List.setIfInBounds_toArray, List.set_cons_zero, List.set_cons_succ]
        refine held_take (i := 29) (d := 117) (v := ?_) rfl rfl (by kernel_rfl) (by kernel_rfl) (by kernel_rfl) (fun _ _ _ h => h) (Or.inl ⟨by rfl, ?_⟩) hHeld ?_
        rotate_left
        · (intro w hSw; (try dsimp only at hSw); go_simp; all_goals (with_reducible rfl))
        try simp only [Act.put, List.setIfInBounds_toArray, List.set_cons_zero, List.set_cons_succ]
        refine held_take (i := 31) (d := 119) (v := ?_) rfl rfl (by kernel_rfl) (by kernel_rfl) (by kernel_rfl) (fun _ _ _ h => h) (Or.inl ⟨by rfl, ?_⟩) hHeld ?_
        rotate_left
        · (intro w hSw; (try dsimp only at hSw); go_simp; all_goals (with_reducible rfl))
        try simp only [Act.put, List.setIfInBounds_toArray, List.set_cons_zero, List.set_cons_succ]
        have hq := next_any _ _ a1 _ (HC11.out)
        rw [HNX.out] at hq
        refine wpAnyH_ready (rs := [30]) (by kernel_rfl) (by simp) ?_
        refine AllReadyH.cons rfl (fun K hK => ?_) AllReadyH.nil
        go_simp
        refine hq.mono ?_
        rintro e w12 ⟨rfl, hb12⟩
        have HO12 : Hid (w12.heap[p5]? = some (.cells (carr ep' sh' (.slice a1' (q + 1) c1') (.slice b1' (q + 1) d1') le') 29)) := heap_kept HO11.out hb12
        have HW12 : Hid (w12.heap[p6]? = some (.cells (rarr ep' sh' (.slice (some ⟨b3, off3, none⟩) (q + 1) c3) le') 25)) := heap_kept HW11.out hb12
        have HC12 : Hid (Cfr w12 (.agg (carr ep' sh' (.slice a1' (q + 1) c1') (.slice b1' (q + 1) d1') le')) ⟨ep', sh', l, le'⟩) := HC11.out.later hb12
        have HR12 : Hid (Rfr w12 (.agg (rarr ep' sh' (.slice (some ⟨b3, off3, none⟩) (q + 1) c3) le')) ⟨ep', sh', l, le'⟩) := HR11.out.later hb12
        have HB12 : Hid (Below w.heap.size w w12) := HB11.out.trans (hb12.mono HB11.out.size)
        have m0 := cell_later hb12 m0
        have mq := cell_later hb12 mq
        clear x0 x1 x2 x3 x4 y0 y1 y2 y3
        obtain ⟨x0, x1, x2, x3, x4⟩ := five_cells HO12.out
        obtain ⟨y0, y1, y2, y3⟩ := four_cells HW12.out
        go_wp2_with fail
        refine hK.out _ _ ?_ (fun hHeld => ?_)
        · exact ⟨⟨x0, x1, x2, x3, x4⟩, ⟨y0, y1, y2, y3⟩, m0, mq⟩
        clear hK K
        try simp only [Act.put, List.setIfInBounds_toArray, List.set_cons_zero, List.set_cons_succ]
        clear hq hb12 HO11 HW11 HC11 HR11 HB11
        refine held_take (i := 32) (d := 120) (v := ?_) rfl rfl (by kernel_rfl) (by kernel_rfl) (by kernel_rfl) (fun _ _ _ h => h) (Or.inl ⟨by rfl, ?_⟩) hHeld ?_
        rotate_left
        · (intro w hSw; (try dsimp only at hSw); go_simp; all_goals (with_reducible rfl))
        try simp only [Act.put, List.setIfInBounds_toArray, List.set_cons_zero, List.set_cons_succ]
        refine held_take (i := 33) (d := 121) (v := ?_) rfl rfl (by kernel_rfl) (by kernel_rfl) (by kernel_rfl) (fun _ _ _ h => h) (Or.inl ⟨by rfl, ?_⟩) hHeld ?_
        rotate_left
        · (intro w hSw; (try dsimp only at hSw); go_simp; all_goals (with_reducible rfl))
        try simp only [Act.put, List.setIfInBounds_toArray, List.set_cons_zero, List.set_cons_succ]
        refine held_take (i := 34) (d := 122) (v := ?_) rfl rfl (by kernel_rfl) (by kernel_rfl) (by kernel_rfl) (fun _ _ _ h => h) (Or.inl ⟨by rfl, ?_⟩) hHeld ?_
        rotate_left
        · (intro w hSw; (try dsimp only at hSw); go_simp; all_goals (with_reducible rfl))
        try simp only [Act.put, List.setIfInBounds_toArray, List.set_cons_zero, List.set_cons_succ]
        refine held_take (i := 35) (d := 123) (v := ?_) rfl rfl (by kernel_rfl) (by kernel_rfl) (by kernel_rfl) (fun _ _ _ h => h) (Or.inl ⟨by rfl, ?_⟩) hHeld ?_
        rotate_left
        · (intro w hSw; (try dsimp only at hSw); go_simp; all_goals (with_reducible rfl))
        try simp only [Act.put, List.setIfInBounds_toArray, List.set_cons_zero, List.set_cons_succ]
        refine held_take (i := 36) (d := 124) (v := ?_) rfl rfl (by kernel_rfl) (by kernel_rfl) (by kernel_rfl) (fun _ _ _ h => h) (Or.inl ⟨by rfl, ?_⟩) hHeld ?_
        rotate_left
        · (intro w hSw; (try dsimp only at hSw); go_simp; all_goals (with_reducible rfl))
        try simp only [Act.put, List.setIfInBounds_toArray, List.set_cons_zero, List.set_cons_succ]
        refine held_take (i := 38) (d := 126) (v := ?_) rfl rfl (by kernel_rfl) (by kernel_rfl) (by kernel_rfl) (fun _ _ _ h => h) (Or.inl ⟨by rfl, ?_⟩) hHeld ?_
        rotate_left
        · (intro w hSw; (try dsimp only at hSw); go_simp; all_goals (with_reducible rfl))
        try simp only [Act.put, List.setIfInBounds_toArray, List.set_cons_zero, List.set_cons_succ]
        have hq := prev_any _ _ a1 _ (HC12.out)
        rw [HPV.out] at hq
        refine wpAnyH_ready (rs := [37]) (by kernel_rfl) (by simp) ?_
        refine AllReadyH.cons rfl (fun K hK => ?_) AllReadyH.nil
        go_simp
        refine hq.mono ?_
        rintro e w13 ⟨rfl, hb13⟩
        have HO13 : Hid (w13.heap[p5]? = some (.cells (carr ep' sh' (.slice a1' (q + 1) c1') (.slice b1' (q + 1) d1') le') 29)) := heap_kept HO12.out hb13
        have HW13 : Hid (w13.heap[p6]? = some (.cells (rarr ep' sh' (.slice (some ⟨b3, off3, none⟩) (q + 1) c3) le') 25)) := heap_kept HW12.out hb13
        have HC13 : Hid (Cfr w13 (.agg (carr ep' sh' (.slice a1' (q + 1) c1') (.slice b1' (q + 1) d1') le')) ⟨ep', sh', l, le'⟩) := HC12.out.later hb13
        have HR13 : Hid (Rfr w13 (.agg (rarr ep' sh' (.slice (some ⟨b3, off3, none⟩) (q + 1) c3) le')) ⟨ep', sh', l, le'⟩) := HR12.out.later hb13
        have HB13 : Hid (Below w.heap.size w w13) := HB12.out.trans (hb13.mono HB12.out.size)
        have m0 := cell_later hb13 m0
        have mq := cell_later hb13 mq
        clear x0 x1 x2 x3 x4 y0 y1 y2 y3
        obtain ⟨x0, x1, x2, x3, x4⟩ := five_cells HO13.out
        obtain ⟨y0, y1, y2, y3⟩ := four_cells HW13.out
        go_wp2_with fail
        refine hK.out _ _ ?_ (fun hHeld => ?_)
        · exact ⟨⟨x0, x1, x2, x3, x4⟩, ⟨y0, y1, y2, y3⟩, m0, mq⟩
        clear hK K
        try simp only [Act.put, List.setIfInBounds_toArray, List.set_cons_zero, List.set_cons_succ]
        clear hq hb13 HO12 HW12 HC12 HR12 HB12
        refine held_take (i := 39) (d := 127) (v := ?_) rfl rfl (by kernel_rfl) (by kernel_rfl) (by kernel_rfl) (fun _ _ _ h => h) (Or.inl ⟨by rfl, ?_⟩) hHeld ?_
        rotate_left
        · (intro w hSw; (try dsimp only at hSw); go_simp; all_goals (with_reducible rfl))
        try simp only [Act.put, List.setIfInBounds_toArray, List.set_cons_zero, List.set_cons_succ]
        refine held_take (i := 40) (d := 128) (v := ?_) rfl rfl (by kernel_rfl) (by kernel_rfl) (by kernel_rfl) (fun _ _ _ h => h) (Or.inl ⟨by rfl, ?_⟩) hHeld ?_
        rotate_left
        · (intro w hSw; (try dsimp only at hSw); go_simp; all_goals (with_reducible rfl))
        try simp only [Act.put, List.setIfInBounds_toArray, List.set_cons_zero, List.set_cons_succ]
        refine held_take (i := 41) (d := 129) (v := ?_) rfl rfl (by kernel_rfl) (by kernel_rfl) (by kernel_rfl) (fun _ _ _ h => h) (Or.inl ⟨by rfl, ?_⟩) hHeld ?_
        rotate_left
        · (intro w hSw; (try dsimp only at hSw); go_simp; all_goals (with_reducible rfl))
        try simp only [Act.put, List.setIfInBounds_toArray, List.set_cons_zero, List.set_cons_succ]
        refine held_take (i := 42) (d := 130) (v := ?_) rfl rfl (by kernel_rfl) (by kernel_rfl) (by kernel_rfl) (fun _ _ _ h => h) (Or.inl ⟨by rfl, ?_⟩) hHeld ?_
        rotate_left
        · (intro w hSw; (try dsimp only at hSw); go_simp; all_goals (with_reducible rfl))
        try simp only [Act.put, List.setIfInBounds_toArray, List.set_cons_zero, List.set_cons_succ]
        refine held_take (i := 43) (d := 131) (v := ?_) rfl rfl (by kernel_rfl) (by kernel_rfl) (by kernel_rfl) (fun _ _ _ h => h) (Or.inl ⟨by rfl, ?_⟩) hHeld ?_
        rotate_left
        · (intro w hSw; (try dsimp only at hSw); go_simp; all_goals (with_reducible rfl))
        try simp only [Act.put, List.setIfInBounds_toArray, List.set_cons_zero, List.set_cons_succ]
        refine held_take (i := 45) (d := 133) (v := ?_) rfl rfl (by kernel_rfl) (by kernel_rfl) (by kernel_rfl) (fun _ _ _ h => h) (Or.inl ⟨by rfl, ?_⟩) hHeld ?_
        rotate_left
        · (intro w hSw; (try dsimp only at hSw); go_simp; all_goals (with_reducible rfl))
        try simp only [Act.put, List.setIfInBounds_toArray, List.set_cons_zero, List.set_cons_succ]
        refine held_take (i := 46) (d := 134) (v := ?_) rfl rfl (by kernel_rfl) (by kernel_rfl) (by kernel_rfl) (fun _ _ _ h => h) (Or.inl ⟨by rfl, ?_⟩) hHeld ?_
        rotate_left
        · (intro w hSw; (try dsimp only at hSw); go_simp; all_goals (with_reducible rfl))
        try simp only [Act.put, List.setIfInBounds_toArray, List.set_cons_zero, List.set_cons_succ]
        have hq := has_any _ _ a1 _ (HC13.out)
        rw [HHA.out] at hq
        refine wpAnyH_ready (rs := [44]) (by kernel_rfl) (by simp) ?_
        refine AllReadyH.cons rfl (fun K hK => ?_) AllReadyH.nil
        go_simp
        refine hq.mono ?_
        rintro e w14 ⟨rfl, hb14⟩
        have HO14 : Hid (w14.heap[p5]? = some (.cells (carr ep' sh' (.slice a1' (q + 1) c1') (.slice b1' (q + 1) d1') le') 29)) := heap_kept HO13.out hb14
        have HW14 : Hid (w14.heap[p6]? = some (.cells (rarr ep' sh' (.slice (some ⟨b3, off3, none⟩) (q + 1) c3) le') 25)) := heap_kept HW13.out hb14
        have HC14 : Hid (Cfr w14 (.agg (carr ep' sh' (.slice a1' (q + 1) c1') (.slice b1' (q + 1) d1') le')) ⟨ep', sh', l, le'⟩) := HC13.out.later hb14
        have HR14 : Hid (Rfr w14 (.agg (rarr ep' sh' (.slice (some ⟨b3, off3, none⟩) (q + 1) c3) le')) ⟨ep', sh', l, le'⟩) := HR13.out.later hb14
        have HB14 : Hid (Below w.heap.size w w14) := HB13.out.trans (hb14.mono HB13.out.size)
        have m0 := cell_later hb14 m0
        have mq := cell_later hb14 mq
        clear x0 x1 x2 x3 x4 y0 y1 y2 y3
        obtain ⟨x0, x1, x2, x3, x4⟩ := five_cells HO14.out
        obtain ⟨y0, y1, y2, y3⟩ := four_cells HW14.out
        go_wp2_with fail
        refine hK.out _ _ ?_ (fun hHeld => ?_)
        · exact ⟨⟨x0, x1, x2, x3, x4⟩, ⟨y0, y1, y2, y3⟩, m0, mq⟩
        clear hK K
        try simp only [Act.put, List.setIfInBounds_toArray, List.set_cons_zero, List.set_cons_succ]
        clear hq hb14 HO13 HW13 HC13 HR13 HB13
        refine held_take (i := 47) (d := 135) (v := ?_) rfl rfl (by kernel_rfl) (by kernel_rfl) (by kernel_rfl) (fun _ _ _ h => h) (Or.inl ⟨by rfl, ?_⟩) hHeld ?_
        rotate_left
        · (intro w hSw; (try dsimp only at hSw); go_simp; all_goals (with_reducible rfl))
        try simp only [Act.put, List.setIfInBounds_toArray, List.set_cons_zero, List.set_cons_succ]
        refine held_take (i := 48) (d := 136) (v := ?_) rfl rfl (by kernel_rfl) (by kernel_rfl) (by kernel_rfl) (fun _ _ _ h => h) (Or.inl ⟨by rfl, ?_⟩) hHeld ?_
        rotate_left
        · (intro w hSw; (try dsimp only at hSw); go_simp; all_goals (with_reducible rfl))
        try simp only [Act.put, List.setIfInBounds_toArray, List.set_cons_zero, List.set_cons_succ]
        refine held_take (i := 49) (d := 137) (v := ?_) rfl rfl (by kernel_rfl) (by kernel_rfl) (by kernel_rfl) (fun _ _ _ h => h) (Or.inl ⟨by rfl, ?_⟩) hHeld ?_
        rotate_left
        · (intro w hSw; (try dsimp only at hSw); go_simp; all_goals (with_reducible rfl))
        try simp only [Act.put, List.setIfInBounds_toArray, List.set_cons_zero, List.set_cons_succ]
        refine held_take (i := 50) (d := 138) (v := ?_) rfl rfl (by kernel_rfl) (by kernel_rfl) (by kernel_rfl) (fun _ _ _ h => h) (Or.inl ⟨by rfl, ?_⟩) hHeld ?_
        rotate_left
        · (intro w hSw; (try dsimp only at hSw); go_simp; all_goals (with_reducible rfl))
        try simp only [Act.put, List.setIfInBounds_toArray, List.set_cons_zero, List.set_cons_succ]
        refine held_take (i := 51) (d := 139) (v := undef) rfl rfl (by kernel_rfl) (by kernel_rfl) (by kernel_rfl) (fun _ _ _ h => h) (Or.inr ⟨by rfl, rfl⟩) hHeld ?_
        try simp only [Act.put, List.setIfInBounds_toArray, List.set_cons_zero, List.set_cons_succ]
        refine held_take (i := 52) (d := 140) (v := undef) rfl rfl (by kernel_rfl) (by kernel_rfl) (by kernel_rfl) (fun _ _ _ h => h) (Or.inr ⟨by rfl, rfl⟩) hHeld ?_
        try simp only [Act.put, List.setIfInBounds_toArray, List.set_cons_zero, List.set_cons_succ]
        refine held_take (i := 53) (d := 141) (v := undef) rfl rfl (by kernel_rfl) (by kernel_rfl) (by kernel_rfl) (fun _ _ _ h => h) (Or.inr ⟨by rfl, rfl⟩) hHeld ?_
        try simp only [Act.put, List.setIfInBounds_toArray, List.set_cons_zero, List.set_cons_succ]
        refine held_take (i := 54) (d := 142) (v := undef) rfl rfl (by kernel_rfl) (by kernel_rfl) (by kernel_rfl) (fun _ _ _ h => h) (Or.inr ⟨by rfl, rfl⟩) hHeld ?_
        try simp only [Act.put, List.setIfInBounds_toArray, List.set_cons_zero, List.set_cons_succ]
        refine held_take (i := 55) (d := 143) (v := ?_) rfl rfl (by kernel_rfl) (by kernel_rfl) (by kernel_rfl) (fun _ _ _ h => h) (Or.inl ⟨by rfl, ?_⟩) hHeld ?_
        rotate_left
        · (intro w hSw; (try dsimp only at hSw); go_simp; all_goals (with_reducible rfl))
        try simp only [Act.put, List.setIfInBounds_toArray, List.set_cons_zero, List.set_cons_succ]
        refine held_take (i := 56) (d := 144) (v := ?_) rfl rfl (by kernel_rfl) (by kernel_rfl) (by kernel_rfl) (fun _ _ _ h => h) (Or.inl ⟨by rfl, ?_⟩) hHeld ?_
        rotate_left
        · (intro w hSw; (try dsimp only at hSw); go_simp; all_goals (with_reducible rfl))
        try simp only [Act.put, List.setIfInBounds_toArray, List.set_cons_zero, List.set_cons_succ]
        refine held_take (i := 57) (d := 145) (v := ?_) rfl rfl (by kernel_rfl) (by kernel_rfl) (by kernel_rfl) (fun _ _ _ h => h) (Or.inl ⟨by rfl, ?_⟩) hHeld ?_
        rotate_left
        · (intro w hSw; (try dsimp only at hSw); go_simp; all_goals (with_reducible rfl))
        try simp only [Act.put, List.setIfInBounds_toArray, List.set_cons_zero, List.set_cons_succ]
        refine held_take (i := 58) (d := 146) (v := ?_) rfl rfl (by kernel_rfl) (by kernel_rfl) (by kernel_rfl) (fun _ _ _ h => h) (Or.inl ⟨by rfl, ?_⟩) hHeld ?_
        rotate_left
        · (intro w hSw; (try dsimp only at hSw); go_simp; all_goals (with_reducible rfl))
        try simp only [Act.put, List.setIfInBounds_toArray, List.set_cons_zero, List.set_cons_succ]
        refine held_take (i := 59) (d := 147) (v := ?_) rfl rfl (by kernel_rfl) (by kernel_rfl) (by kernel_rfl) (fun _ _ _ h => h) (Or.inl ⟨by rfl, ?_⟩) hHeld ?_
        rotate_left
        · (intro w hSw; (try dsimp only at hSw); go_simp; all_goals (with_reducible rfl))
        try simp only [Act.put, List.setIfInBounds_toArray, List.set_cons_zero, List.set_cons_succ]
        have hq := awake_any w14
        refine wpAnyH_ready (rs := [60]) (by kernel_rfl) (by simp) ?_
        refine AllReadyH.cons rfl (fun K hK => ?_) AllReadyH.nil
        go_simp
        refine hq.mono ?_
        rintro e w15 ⟨rfl, hb15⟩
        have HO15 : Hid (w15.heap[p5]? = some (.cells (carr ep' sh' (.slice a1' (q + 1) c1') (.slice b1' (q + 1) d1') le') 29)) := heap_kept HO14.out hb15
        have HW15 : Hid (w15.heap[p6]? = some (.cells (rarr ep' sh' (.slice (some ⟨b3, off3, none⟩) (q + 1) c3) le') 25)) := heap_kept HW14.out hb15
        have HC15 : Hid (Cfr w15 (.agg (carr ep' sh' (.slice a1' (q + 1) c1') (.slice b1' (q + 1) d1') le')) ⟨ep', sh', l, le'⟩) := HC14.out.later hb15
        have HR15 : Hid (Rfr w15 (.agg (rarr ep' sh' (.slice (some ⟨b3, off3, none⟩) (q + 1) c3) le')) ⟨ep', sh', l, le'⟩) := HR14.out.later hb15
        have HB15 : Hid (Below w.heap.size w w15) := HB14.out.trans (hb15.mono HB14.out.size)
        have m0 := cell_later hb15 m0
        have mq := cell_later hb15 mq
        clear x0 x1 x2 x3 x4 y0 y1 y2 y3
        obtain ⟨x0, x1, x2, x3, x4⟩ := five_cells HO15.out
        obtain ⟨y0, y1, y2, y3⟩ := four_cells HW15.out
        go_wp2_with fail
        refine hK.out _ _ ?_ (fun hHeld => ?_)
        · exact ⟨⟨x0, x1, x2, x3, x4⟩, ⟨y0, y1, y2, y3⟩, m0, mq⟩
        clear hK K
        try simp only [Act.put, List.setIfInBounds_toArray, List.set_cons_zero, List.set_cons_succ]
        clear hq hb15 HO14 HW14 HC14 HR14 HB14
        refine held_take (i := 61) (d := 149) (v := ?_) rfl rfl (by kernel_rfl) (by kernel_rfl) (by kernel_rfl) (fun _ _ _ h => h) (Or.inl ⟨by rfl, ?_⟩) hHeld ?_
        rotate_left
        · (intro w hSw; (try dsimp only at hSw); go_simp; all_goals (with_reducible rfl))
        try simp only [Act.put, List.setIfInBounds_toArray, List.set_cons_zero, List.set_cons_succ]
        refine held_take (i := 62) (d := 4) (v := ?_) rfl rfl (by kernel_rfl) (by kernel_rfl) (by kernel_rfl) (fun _ _ _ h => h) (Or.inl ⟨by rfl, ?_⟩) hHeld ?_
        rotate_left
        · (intro w hSw; (try dsimp only at hSw); go_simp; all_goals (with_reducible rfl))
        try simp only [Act.put, List.setIfInBounds_toArray, List.set_cons_zero, List.set_cons_succ]
        refine wpAnyH_done (by kernel_rfl) ?_ _
        refine NoPanic.normal ?_
        go_wp2
        go_ret
        exact ⟨rfl, HB15.out⟩
      · have hd0 : decide (0 ≤ a1) = true := by rw [decide_eq_true_eq]; omega
        by_cases hal : a1 = le'
        · have HHA : Hid (hasB ⟨ep', sh', l, le'⟩ a1 = true) := by rw [Hid, HHH.out, hal]; rcases HLS.out with h | h; exact absurd h (by omega); rw [h]; simp
          have hde : (a1 == le') = true := by simp [hal]
          clear hal
          go_upto_region 14 with fail
          refine wp_region_noPanic ?_
          refine wp_region_held_drew (S := fun w' => (w'.cell? ⟨p5, 0, none⟩ = some (.int .u64 (ep' : Nat)) ∧ w'.cell? ⟨p5, 1, none⟩ = some (.int .i64 sh') ∧ w'.cell? ⟨p5, 2, none⟩ = some (.slice a1' (q + 1) c1') ∧ w'.cell? ⟨p5, 3, none⟩ = some (.slice b1' (q + 1) d1') ∧ w'.cell? ⟨p5, 4, none⟩ = some (.int .i64 le')) ∧ (w'.cell? ⟨p6, 0, none⟩ = some (.int .u64 (ep' : Nat)) ∧ w'.cell? ⟨p6, 1, none⟩ = some (.int .i64 sh') ∧ w'.cell? ⟨p6, 2, none⟩ = some (.slice (some ⟨b3, off3, none⟩) (q + 1) c3) ∧ w'.cell? ⟨p6, 3, none⟩ = some (.int .i64 le')) ∧ w'.cell? ⟨b3, off3, none⟩ = some (.int .i64 f0) ∧ w'.cell? ⟨b3, off3 + q * 2, none⟩ = some (.int .i64 fl)) (by kernel_rfl) ?_ (fun hHeld => ?_)
          · exact ⟨⟨x0, x1, x2, x3, x4⟩, ⟨y0, y1, y2, y3⟩, m0, mq⟩
          refine held_take (i := 0) (d := 88) (v := ?_) rfl rfl (by kernel_rfl) (by kernel_rfl) (by kernel_rfl) (fun _ _ _ h => h) (Or.inl ⟨by rfl, ?_⟩) hHeld ?_
          rotate_left
          · (intro w hSw; (try dsimp only at hSw); go_simp; all_goals (with_reducible rfl))
          try simp only [Act.put, List.setIfInBounds_toArray, List.set_cons_zero, List.set_cons_succ]
          refine held_take (i := 1) (d := 89) (v := ?_) rfl rfl (by kernel_rfl) (by kernel_rfl) (by kernel_rfl) (fun _ _ _ h => h) (Or.inl ⟨by rfl, ?_⟩) hHeld ?_
          rotate_left
          · (intro w hSw; (try dsimp only at hSw); go_simp; all_goals (with_reducible rfl))
          try simp only [Act.put, List.setIfInBounds_toArray, List.set_cons_zero, List.set_cons_succ]
          refine held_take (i := 2) (d := 90) (v := ?_) rfl rfl (by kernel_rfl) (by kernel_rfl) (by kernel_rfl) (fun _ _ _ h => h) (Or.inl ⟨by rfl, ?_⟩) hHeld ?_
          rotate_left
          · (intro w hSw; (try dsimp only at hSw); go_simp; all_goals (with_reducible rfl))
          try simp only [Act.put, List.setIfInBounds_toArray, List.set_cons_zero, List.set_cons_succ]
          refine held_take (i := 3) (d := 91) (v := ?_) rfl rfl (by kernel_rfl) (by kernel_rfl) (by kernel_rfl) (fun _ _ _ h => h) (Or.inl ⟨by rfl, ?_⟩) hHeld ?_
          rotate_left
          · (intro w hSw; (try dsimp only at hSw); go_simp; all_goals (with_reducible rfl))
          try simp only [Act.put, List.setIfInBounds_toArray, List.set_cons_zero, List.set_cons_succ]
          refine held_take (i := 4) (d := 92) (v := ?_) rfl rfl (by kernel_rfl) (by kernel_rfl) (by kernel_rfl) (fun _ _ _ h => h) (Or.inl ⟨by rfl, ?_⟩) hHeld ?_
          rotate_left
          · (intro w hSw; (try dsimp only at hSw); go_simp; all_goals (with_reducible rfl))
          try simp only [Act.put, List.setIfInBounds_toArray, List.set_cons_zero, List.set_cons_succ]
          refine held_take (i := 6) (d := 94) (v := ?_) rfl rfl (by kernel_rfl) (by kernel_rfl) (by kernel_rfl) (fun _ _ _ h => h) (Or.inl ⟨by rfl, ?_⟩) hHeld ?_
          rotate_left
          · (intro w hSw; (try dsimp only at hSw); go_simp; all_goals (with_reducible rfl))
          try simp only [Act.put, List.setIfInBounds_toArray, List.set_cons_zero, List.set_cons_succ]
          refine held_take (i := 7) (d := 95) (v := ?_) rfl rfl (by kernel_rfl) (by kernel_rfl) (by kernel_rfl) (fun _ _ _ h => h) (Or.inl ⟨by rfl, ?_⟩) hHeld ?_
          rotate_left
          · (intro w hSw; (try dsimp only at hSw); go_simp; all_goals (with_reducible rfl))
          try simp only [Act.put, List.setIfInBounds_toArray, List.set_cons_zero, List.set_cons_succ]
          refine held_take (i := 8) (d := 96) (v := ?_) rfl rfl (by kernel_rfl) (by kernel_rfl) (by kernel_rfl) (fun _ _ _ h => h) (Or.inl ⟨by rfl, ?_⟩) hHeld ?_
          rotate_left
          · (intro w hSw; (try dsimp only at hSw); go_simp; all_goals (with_reducible rfl))
          try simp only [Act.put, List.setIfInBounds_toArray, List.set_cons_zero, List.set_cons_succ]
          refine held_take (i := 9) (d := 97) (v := ?_) rfl rfl (by kernel_rfl) (by kernel_rfl) (by kernel_rfl) (fun _ _ _ h => h) (Or.inl ⟨by rfl, ?_⟩) hHeld ?_
          rotate_left
          · (intro w hSw; (try dsimp only at hSw); go_simp; all_goals (with_reducible rfl))
          try simp only [Act.put, List.setIfInBounds_toArray, List.set_cons_zero, List.set_cons_succ]
          refine held_take (i := 10) (d := 98) (v := ?_) rfl rfl (by kernel_rfl) (by kernel_rfl) (by kernel_rfl) (fun _ _ _ h => h) (Or.inl ⟨by rfl, ?_⟩) hHeld ?_
          rotate_left
          · (intro w hSw; (try dsimp only at hSw); go_simp; all_goals (with_reducible rfl))
          try simp only [Act.put, List.setIfInBounds_toArray, List.set_cons_zero, List.set_cons_succ]
          have hq := head_any _ _  _ (HC9.out.later (Below.refl _ w9).drew)
          rw [HHD.out] at hq
          refine wpAnyH_ready (rs := [5]) (by kernel_rfl) (by simp) ?_
          refine AllReadyH.cons rfl (fun K hK => ?_) AllReadyH.nil
          go_simp
          refine hq.mono ?_
          rintro e w10 ⟨rfl, hb10⟩
          have b10 : Below w9.heap.size w9 w10 := (Below.refl _ w9).drew.trans hb10
          have HO10 : Hid (w10.heap[p5]? = some (.cells (carr ep' sh' (.slice a1' (q + 1) c1') (.slice b1' (q + 1) d1') le') 29)) := heap_kept HO9.out b10
          have HW10 : Hid (w10.heap[p6]? = some (.cells (rarr ep' sh' (.slice (some ⟨b3, off3, none⟩) (q + 1) c3) le') 25)) := heap_kept HW9.out b10
          have HC10 : Hid (Cfr w10 (.agg (carr ep' sh' (.slice a1' (q + 1) c1') (.slice b1' (q + 1) d1') le')) ⟨ep', sh', l, le'⟩) := HC9.out.later b10
          have HR10 : Hid (Rfr w10 (.agg (rarr ep' sh' (.slice (some ⟨b3, off3, none⟩) (q + 1) c3) le')) ⟨ep', sh', l, le'⟩) := HR9.out.later b10
          have HB10 : Hid (Below w.heap.size w w10) := HB9.out.trans (b10.mono HB9.out.size)
          have m0 := cell_later b10 m0
          have mq := cell_later b10 mq
          clear x0 x1 x2 x3 x4 y0 y1 y2 y3
          obtain ⟨x0, x1, x2, x3, x4⟩ := five_cells HO10.out
          obtain ⟨y0, y1, y2, y3⟩ := four_cells HW10.out
          go_wp2_with fail
          refine hK.out _ _ ?_ (fun hHeld => ?_)
          · exact ⟨⟨x0, x1, x2, x3, x4⟩, ⟨y0, y1, y2, y3⟩, m0, mq⟩
          clear hK K
          try simp only [Act.put, List.setIfInBounds_toArray, List.set_cons_zero, List.set_cons_succ]
          clear hq b10 HO9 HW9 HC9 HR9 HB9
          refine held_take (i := 11) (d := 99) (v := ?_) rfl rfl (by kernel_rfl) (by kernel_rfl) (by kernel_rfl) (fun _ _ _ h => h) (Or.inl ⟨by rfl, ?_⟩) hHeld ?_
          rotate_left
          · (intro w hSw; (try dsimp only at hSw); go_simp; all_goals (with_reducible rfl))
          try simp only [Act.put, List.setIfInBounds_toArray, List.set_cons_zero, List.set_cons_succ]
          refine held_take (i := 12) (d := 100) (v := ?_) rfl rfl (by kernel_rfl) (by kernel_rfl) (by kernel_rfl) (fun _ _ _ h => h) (Or.inl ⟨by rfl, ?_⟩) hHeld ?_
          rotate_left
          · (intro w hSw; (try dsimp only at hSw); go_simp; all_goals (with_reducible rfl))
          try simp only [Act.put, List.setIfInBounds_toArray, List.set_cons_zero, List.set_cons_succ]
          refine held_take (i := 13) (d := 101) (v := ?_) rfl rfl (by kernel_rfl) (by kernel_rfl) (by kernel_rfl) (fun _ _ _ h => h) (Or.inl ⟨by rfl, ?_⟩) hHeld ?_
          rotate_left
          · (intro w hSw; (try dsimp only at hSw); go_simp; all_goals (with_reducible rfl))
          try simp only [Act.put, List.setIfInBounds_toArray, List.set_cons_zero, List.set_cons_succ]
          refine held_take (i := 14) (d := 102) (v := ?_) rfl rfl (by kernel_rfl) (by kernel_rfl) (by kernel_rfl) (fun _ _ _ h => h) (Or.inl ⟨by rfl, ?_⟩) hHeld ?_
          rotate_left
          · (intro w hSw; (try dsimp only at hSw); go_simp; all_goals (with_reducible rfl))
          try simp only [Act.put, List.setIfInBounds_toArray, List.set_cons_zero, List.set_cons_succ]
          refine held_take (i := 16) (d := 104) (v := ?_) rfl rfl (by kernel_rfl) (by kernel_rfl) (by kernel_rfl) (fun _ _ _ h => h) (Or.inl ⟨by rfl, ?_⟩) hHeld ?_
          rotate_left
          · (intro w hSw; (try dsimp only at hSw); go_simp; all_goals (with_reducible rfl))
          try simp only [Act.put, List.setIfInBounds_toArray, List.set_cons_zero, List.set_cons_succ]
          refine held_take (i := 17) (d := 105) (v := ?_) rfl rfl (by kernel_rfl) (by kernel_rfl) (by kernel_rfl) (fun _ _ _ h => h) (Or.inl ⟨by rfl, ?_⟩) hHeld ?_
          rotate_left
          · (intro w hSw; (try dsimp only at hSw); go_simp; all_goals (with_reducible rfl))
          try simp only [Act.put, List.setIfInBounds_toArray, List.set_cons_zero, List.set_cons_succ]
          refine held_take (i := 18) (d := 106) (v := ?_) rfl rfl (by kernel_rfl) (by kernel_rfl) (by kernel_rfl) (fun _ _ _ h => h) (Or.inl ⟨by rfl, ?_⟩) hHeld ?_
          rotate_left
          · (intro w hSw; (try dsimp only at hSw); go_simp; all_goals (with_reducible rfl))
          try simp only [Act.put, List.setIfInBounds_toArray, List.set_cons_zero, List.set_cons_succ]
          refine held_take (i := 19) (d := 107) (v := ?_) rfl rfl (by kernel_rfl) (by kernel_rfl) (by kernel_rfl) (fun _ _ _ h => h) (Or.inl ⟨by rfl, ?_⟩) hHeld ?_
          rotate_left
          · (intro w hSw; (try dsimp only at hSw); go_simp; all_goals (with_reducible rfl))
          try simp only [Act.put, List.setIfInBounds_toArray, List.set_cons_zero, List.set_cons_succ]
          refine held_take (i := 20) (d := 108) (v := ?_) rfl rfl (by kernel_rfl) (by kernel_rfl) (by kernel_rfl) (fun _ _ _ h => h) (Or.inl ⟨by rfl, ?_⟩) hHeld ?_
          rotate_left
          · (intro w hSw; (try dsimp only at hSw); go_simp; all_goals (with_reducible rfl))
          try simp only [Act.put, List.setIfInBounds_toArray, List.set_cons_zero, List.set_cons_succ]
          refine held_take (i := 21) (d := 109) (v := ?_) rfl rfl (by kernel_rfl) (by kernel_rfl) (by kernel_rfl) (fun _ _ _ h => h) (Or.inl ⟨by rfl, ?_⟩) hHeld ?_
          rotate_left
          · (intro w hSw; (try dsimp only at hSw); go_simp; all_goals (with_reducible rfl))
          try simp only [Act.put, List.setIfInBounds_toArray, List.set_cons_zero, List.set_cons_succ]
          refine held_take (i := 22) (d := 110) (v := ?_) rfl rfl (by kernel_rfl) (by kernel_rfl) (by kernel_rfl) (fun _ _ _ h => h) (Or.inl ⟨by rfl, ?_⟩) hHeld ?_
          rotate_left
          · (intro w hSw; (try dsimp only at hSw); go_simp; all_goals (with_reducible rfl))
          try simp only [Act.put, List.setIfInBounds_toArray, List.set_cons_zero, List.set_cons_succ]
          refine held_take (i := 23) (d := 111) (v := ?_) rfl rfl (by kernel_rfl) (by kernel_rfl) (by kernel_rfl) (fun _ _ _ h => h) (Or.inl ⟨by rfl, ?_⟩) hHeld ?_
          rotate_left
          · (intro w hSw; (try dsimp only at hSw); go_simp; all_goals (with_reducible rfl))
          try simp only [Act.put, List.setIfInBounds_toArray, List.set_cons_zero, List.set_cons_succ]
          refine held_take (i := 24) (d := 112) (v := ?_) rfl rfl (by kernel_rfl) (by kernel_rfl) (by kernel_rfl) (fun _ _ _ h => h) (Or.inl ⟨by rfl, ?_⟩) hHeld ?_
          rotate_left
          · (intro w hSw; (try dsimp only at hSw); go_simp; all_goals (with_reducible rfl))
          try simp only [Act.put, List.setIfInBounds_toArray, List.set_cons_zero, List.set_cons_succ]
          have hq := tail_any _ _  _ (HC10.out)
          rw [HTL.out] at hq
          refine wpAnyH_ready (rs := [15]) (by kernel_rfl) (by simp) ?_
          refine AllReadyH.cons rfl (fun K hK => ?_) AllReadyH.nil
          go_simp
          refine hq.mono ?_
          rintro e w11 ⟨rfl, hb11⟩
          have HO11 : Hid (w11.heap[p5]? = some (.cells (carr ep' sh' (.slice a1' (q + 1) c1') (.slice b1' (q + 1) d1') le') 29)) := heap_kept HO10.out hb11
          have HW11 : Hid (w11.heap[p6]? = some (.cells (rarr ep' sh' (.slice (some ⟨b3, off3, none⟩) (q + 1) c3) le') 25)) := heap_kept HW10.out hb11
          have HC11 : Hid (Cfr w11 (.agg (carr ep' sh' (.slice a1' (q + 1) c1') (.slice b1' (q + 1) d1') le')) ⟨ep', sh', l, le'⟩) := HC10.out.later hb11
          have HR11 : Hid (Rfr w11 (.agg (rarr ep' sh' (.slice (some ⟨b3, off3, none⟩) (q + 1) c3) le')) ⟨ep', sh', l, le'⟩) := HR10.out.later hb11
          have HB11 : Hid (Below w.heap.size w w11) := HB10.out.trans (hb11.mono HB10.out.size)
          have m0 := cell_later hb11 m0
          have mq := cell_later hb11 mq
          clear x0 x1 x2 x3 x4 y0 y1 y2 y3
          obtain ⟨x0, x1, x2, x3, x4⟩ := five_cells HO11.out
          obtain ⟨y0, y1, y2, y3⟩ := four_cells HW11.out
          go_wp2_with fail
          refine hK.out _ _ ?_ (fun hHeld => ?_)
          · exact ⟨⟨x0, x1, x2, x3, x4⟩, ⟨y0, y1, y2, y3⟩, m0, mq⟩
          clear hK K
          try simp only [Act.put, List.setIfInBounds_toArray, List.set_cons_zero, List.set_cons_succ]
          clear hq hb11 HO10 HW10 HC10 HR10 HB10
          refine held_take (i := 25) (d := 113) (v := ?_) rfl rfl (by kernel_rfl) (by kernel_rfl) (by kernel_rfl) (fun _ _ _ h => h) (Or.inl ⟨by rfl, ?_⟩) hHeld ?_
          rotate_left
          · (intro w hSw; (try dsimp only at hSw); go_simp; all_goals (with_reducible rfl))
          try simp only [Act.put, List.setIfInBounds_toArray, List.set_cons_zero, List.set_cons_succ]
          refine held_take (i := 26) (d := 114) (v := ?_) rfl rfl (by kernel_rfl) (by kernel_rfl) (by kernel_rfl) (fun _ _ _ h => h) (Or.inl ⟨by rfl, ?_⟩) hHeld ?_
          rotate_left
          · (intro w hSw; (try dsimp only at hSw); go_simp; all_goals (with_reducible rfl))
          try simp only [Act.put, List.setIfInBounds_toArray, List.set_cons_zero, List.set_cons_succ]
          refine held_take (i := 27) (d := 115) (v := ?_) rfl rfl (by kernel_rfl) (by kernel_rfl) (by kernel_rfl) (fun _ _ _ h => h) (Or.inl ⟨by rfl, ?_⟩) hHeld ?_
          rotate_left
          · (intro w hSw; (try dsimp only at hSw); go_simp; all_goals (with_reducible rfl))
          try simp only [Act.put, List.setIfInBounds_toArray, List.set_cons_zero, List.set_cons_succ]
          refine held_take (i := 28) (d := 116) (v := ?_) rfl rfl (by kernel_rfl) (by kernel_rfl) (by kernel_rfl) (fun _ _ _ h => h) (Or.inl ⟨by rfl, ?_⟩) hHeld ?_
          rotate_left
          · (intro w hSw; (try dsimp only at hSw); go_simp; all_goals (with_reducible rfl))
          try simp only [Act.put, List.setIfInBounds_toArray, List.set_cons_zero, List.set_cons_succ]
          refine held_take (i := 29) (d := 117) (v := ?_) rfl rfl (by kernel_rfl) (by kernel_rfl) (by kernel_rfl) (fun _ _ _ h => h) (Or.inl ⟨by rfl, ?_⟩) hHeld ?_
          rotate_left
          · (intro w hSw; (try dsimp only at hSw); go_simp; all_goals (with_reducible rfl))
          try simp only [Act.put, List.setIfInBounds_toArray, List.set_cons_zero, List.set_cons_succ]
          refine held_take (i := 31) (d := 119) (v := ?_) rfl rfl (by kernel_rfl) (by kernel_rfl) (by kernel_rfl) (fun _ _ _ h => h) (Or.inl ⟨by rfl, ?_⟩) hHeld ?_
          rotate_left
          · (intro w hSw; (try dsimp only at hSw); go_simp; all_goals (with_reducible rfl))
          try simp only [Act.put, List.setIfInBounds_toArray, List.set_cons_zero, List.set_cons_succ]
          have hq := next_any _ _ a1 _ (HC11.out)
          rw [HNX.out] at hq
          refine wpAnyH_ready (rs := [30]) (by kernel_rfl) (by simp) ?_
          refine AllReadyH.cons rfl (fun K hK => ?_) AllReadyH.nil
          go_simp
          refine hq.mono ?_
          rintro e w12 ⟨rfl, hb12⟩
          have HO12 : Hid (w12.heap[p5]? = some (.cells (carr ep' sh' (.slice a1' (q + 1) c1') (.slice b1' (q + 1) d1') le') 29)) := heap_kept HO11.out hb12
          have HW12 : Hid (w12.heap[p6]? = some (.cells (rarr ep' sh' (.slice (some ⟨b3, off3, none⟩) (q + 1) c3) le') 25)) := heap_kept HW11.out hb12
          have HC12 : Hid (Cfr w12 (.agg (carr ep' sh' (.slice a1' (q + 1) c1') (.slice b1' (q + 1) d1') le')) ⟨ep', sh', l, le'⟩) := HC11.out.later hb12
          have HR12 : Hid (Rfr w12 (.agg (rarr ep' sh' (.slice (some ⟨b3, off3, none⟩) (q + 1) c3) le')) ⟨ep', sh', l, le'⟩) := HR11.out.later hb12
          have HB12 : Hid (Below w.heap.size w w12) := HB11.out.trans (hb12.mono HB11.out.size)
          have m0 := cell_later hb12 m0
          have mq := cell_later hb12 mq
          clear x0 x1 x2 x3 x4 y0 y1 y2 y3
          obtain ⟨x0, x1, x2, x3, x4⟩ := five_cells HO12.out
          obtain ⟨y0, y1, y2, y3⟩ := four_cells HW12.out
          go_wp2_with fail
          refine hK.out _ _ ?_ (fun hHeld => ?_)
          · exact ⟨⟨x0, x1, x2, x3, x4⟩, ⟨y0, y1, y2, y3⟩, m0, mq⟩
          clear hK K
          try simp only [Act.put, List.setIfInBounds_toArray, List.set_cons_zero, List.set_cons_succ]
          clear hq hb12 HO11 HW11 HC11 HR11 HB11
          refine held_take (i := 32) (d := 120) (v := ?_) rfl rfl (by kernel_rfl) (by kernel_rfl) (by kernel_rfl) (fun _ _ _ h => h) (Or.inl ⟨by rfl, ?_⟩) hHeld ?_
          rotate_left
          · (intro w hSw; (try dsimp only at hSw); go_simp; all_goals (with_reducible rfl))
          try simp only [Act.put, List.setIfInBounds_toArray, List.set_cons_zero, List.set_cons_succ]
          refine held_take (i := 33) (d := 121) (v := ?_) rfl rfl (by kernel_rfl) (by kernel_rfl) (by kernel_rfl) (fun _ _ _ h => h) (Or.inl ⟨by rfl, ?_⟩) hHeld ?_
          rotate_left
          · (intro w hSw; (try dsimp only at hSw); go_simp; all_goals (with_reducible rfl))
          try simp only [Act.put, List.setIfInBounds_toArray, List.set_cons_zero, List.set_cons_succ]
          refine held_take (i := 34) (d := 122) (v := ?_) rfl rfl (by kernel_rfl) (by kernel_rfl) (by kernel_rfl) (fun _ _ _ h => h) (Or.inl ⟨by rfl, ?_⟩) hHeld ?_
          rotate_left
          · (intro w hSw; (try dsimp only at hSw); go_simp; all_goals (with_reducible rfl))
          try simp only [Act.put, List.setIfInBounds_toArray, List.set_cons_zero, List.set_cons_succ]
          refine held_take (i := 35) (d := 123) (v := ?_) rfl rfl (by kernel_rfl) (by kernel_rfl) (by kernel_rfl) (fun _ _ _ h => h) (Or.inl ⟨by rfl, ?_⟩) hHeld ?_
          rotate_left
          · (intro w hSw; (try dsimp only at hSw); go_simp; all_goals (with_reducible rfl))
          try simp only [Act.put, List.setIfInBounds_toArray, List.set_cons_zero, List.set_cons_succ]
          refine held_take (i := 36) (d := 124) (v := ?_) rfl rfl (by kernel_rfl) (by kernel_rfl) (by kernel_rfl) (fun _ _ _ h => h) (Or.inl ⟨by rfl, ?_⟩) hHeld ?_
          rotate_left
          · (intro w hSw; (try dsimp only at hSw); go_simp; all_goals (with_reducible rfl))
          try simp only [Act.put, List.setIfInBounds_toArray, List.set_cons_zero, List.set_cons_succ]
          refine held_take (i := 38) (d := 126) (v := ?_) rfl rfl (by kernel_rfl) (by kernel_rfl) (by kernel_rfl) (fun _ _ _ h => h) (Or.inl ⟨by rfl, ?_⟩) hHeld ?_
          rotate_left
          · (intro w hSw; (try dsimp only at hSw); go_simp; all_goals (with_reducible rfl))
          try simp only [Act.put, List.setIfInBounds_toArray, List.set_cons_zero, List.set_cons_succ]
          have hq := prev_any _ _ a1 _ (HC12.out)
          rw [HPV.out] at hq
          refine wpAnyH_ready (rs := [37]) (by kernel_rfl) (by simp) ?_
          refine AllReadyH.cons rfl (fun K hK => ?_) AllReadyH.nil
          go_simp
          refine hq.mono ?_
          rintro e w13 ⟨rfl, hb13⟩
          have HO13 : Hid (w13.heap[p5]? = some (.cells (carr ep' sh' (.slice a1' (q + 1) c1') (.slice b1' (q + 1) d1') le') 29)) := heap_kept HO12.out hb13
          have HW13 : Hid (w13.heap[p6]? = some (.cells (rarr ep' sh' (.slice (some ⟨b3, off3, none⟩) (q + 1) c3) le') 25)) := heap_kept HW12.out hb13
          have HC13 : Hid (Cfr w13 (.agg (carr ep' sh' (.slice a1' (q + 1) c1') (.slice b1' (q + 1) d1') le')) ⟨ep', sh', l, le'⟩) := HC12.out.later hb13
          have HR13 : Hid (Rfr w13 (.agg (rarr ep' sh' (.slice (some ⟨b3, off3, none⟩) (q + 1) c3) le')) ⟨ep', sh', l, le'⟩) := HR12.out.later hb13
          have HB13 : Hid (Below w.heap.size w w13) := HB12.out.trans (hb13.mono HB12.out.size)
          have m0 := cell_later hb13 m0
          have mq := cell_later hb13 mq
          clear x0 x1 x2 x3 x4 y0 y1 y2 y3
          obtain ⟨x0, x1, x2, x3, x4⟩ := five_cells HO13.out
          obtain ⟨y0, y1, y2, y3⟩ := four_cells HW13.out
          go_wp2_with fail
          refine hK.out _ _ ?_ (fun hHeld => ?_)
          · exact ⟨⟨x0, x1, x2, x3, x4⟩, ⟨y0, y1, y2, y3⟩, m0, mq⟩
          clear hK K
          try simp only [Act.put, List.setIfInBounds_toArray, List.set_cons_zero, List.set_cons_succ]
          clear hq hb13 HO12 HW12 HC12 HR12 HB12
          refine held_take (i := 39) (d := 127) (v := ?_) rfl rfl (by kernel_rfl) (by kernel_rfl) (by kernel_rfl) (fun _ _ _ h => h) (Or.inl ⟨by rfl, ?_⟩) hHeld ?_
          rotate_left
          · (intro w hSw; (try dsimp only at hSw); go_simp; all_goals (with_reducible rfl))
          try simp only [Act.put, List.setIfInBounds_toArray, List.set_cons_zero, List.set_cons_succ]
          refine held_take (i := 40) (d := 128) (v := ?_) rfl rfl (by kernel_rfl) (by kernel_rfl) (by kernel_rfl) (fun _ _ _ h => h) (Or.inl ⟨by rfl, ?_⟩) hHeld ?_
          rotate_left
          · (intro w hSw; (try dsimp only at hSw); go_simp; all_goals (with_reducible rfl))
          try simp only [Act.put, List.setIfInBounds_toArray, List.set_cons_zero, List.set_cons_succ]
          refine held_take (i := 41) (d := 129) (v := ?_) rfl rfl (by kernel_rfl) (by kernel_rfl) (by kernel_rfl) (fun _ _ _ h => h) (Or.inl ⟨by rfl, ?_⟩) hHeld ?_
          rotate_left
          · (intro w hSw; (try dsimp only at hSw); go_simp; all_goals (with_reducible rfl))
          try simp only [Act.put, List.setIfInBounds_toArray, List.set_cons_zero, List.set_cons_succ]
          refine held_take (i := 42) (d := 130) (v := ?_) rfl rfl (by kernel_rfl) (by kernel_rfl) (by kernel_rfl) (fun _ _ _ h => h) (Or.inl ⟨by rfl, ?_⟩) hHeld ?_
          rotate_left
          · (intro w hSw; (try dsimp only at hSw); go_simp; all_goals (with_reducible rfl))
          try simp only [Act.put, List.setIfInBounds_toArray, List.set_cons_zero, List.set_cons_succ]
          refine held_take (i := 43) (d := 131) (v := ?_) rfl rfl (by kernel_rfl) (by kernel_rfl) (by kernel_rfl) (fun _ _ _ h => h) (Or.inl ⟨by rfl, ?_⟩) hHeld ?_
          rotate_left
          · (intro w hSw; (try dsimp only at hSw); go_simp; all_goals (with_reducible rfl))
          try simp only [Act.put, List.setIfInBounds_toArray, List.set_cons_zero, List.set_cons_succ]
          refine held_take (i := 45) (d := 133) (v := ?_) rfl rfl (by kernel_rfl) (by kernel_rfl) (by kernel_rfl) (fun _ _ _ h => h) (Or.inl ⟨by rfl, ?_⟩) hHeld ?_
          rotate_left
          · (intro w hSw; (try dsimp only at hSw); go_simp; all_goals (with_reducible rfl))
          try simp only [Act.put, List.setIfInBounds_toArray, List.set_cons_zero, List.set_cons_succ]
          refine held_take (i := 46) (d := 134) (v := ?_) rfl rfl (by kernel_rfl) (by kernel_rfl) (by kernel_rfl) (fun _ _ _ h => h) (Or.inl ⟨by rfl, ?_⟩) hHeld ?_
          rotate_left
          · (intro w hSw; (try dsimp only at hSw); go_simp; all_goals (with_reducible rfl))
          try simp only [Act.put, List.setIfInBounds_toArray, List.set_cons_zero, List.set_cons_succ]
          have hq := has_any _ _ a1 _ (HC13.out)
          rw [HHA.out] at hq
          refine wpAnyH_ready (rs := [44]) (by kernel_rfl) (by simp) ?_
          refine AllReadyH.cons rfl (fun K hK => ?_) AllReadyH.nil
          go_simp
          refine hq.mono ?_
          rintro e w14 ⟨rfl, hb14⟩
          have HO14 : Hid (w14.heap[p5]? = some (.cells (carr ep' sh' (.slice a1' (q + 1) c1') (.slice b1' (q + 1) d1') le') 29)) := heap_kept HO13.out hb14
          have HW14 : Hid (w14.heap[p6]? = some (.cells (rarr ep' sh' (.slice (some ⟨b3, off3, none⟩) (q + 1) c3) le') 25)) := heap_kept HW13.out hb14
          have HC14 : Hid (Cfr w14 (.agg (carr ep' sh' (.slice a1' (q + 1) c1') (.slice b1' (q + 1) d1') le')) ⟨ep', sh', l, le'⟩) := HC13.out.later hb14
          have HR14 : Hid (Rfr w14 (.agg (rarr ep' sh' (.slice (some ⟨b3, off3, none⟩) (q + 1) c3) le')) ⟨ep', sh', l, le'⟩) := HR13.out.later hb14
          have HB14 : Hid (Below w.heap.size w w14) := HB13.out.trans (hb14.mono HB13.out.size)
          have m0 := cell_later hb14 m0
          have mq := cell_later hb14 mq
          clear x0 x1 x2 x3 x4 y0 y1 y2 y3
          obtain ⟨x0, x1, x2, x3, x4⟩ := five_cells HO14.out
          obtain ⟨y0, y1, y2, y3⟩ := four_cells HW14.out
          go_wp2_with fail
          refine hK.out _ _ ?_ (fun hHeld => ?_)
          · exact ⟨⟨x0, x1, x2, x3, x4⟩, ⟨y0, y1, y2, y3⟩, m0, mq⟩
          clear hK K
          try simp only [Act.put, List.setIfInBounds_toArray, List.set_cons_zero, List.set_cons_succ]
          clear hq hb14 HO13 HW13 HC13 HR13 HB13
          refine held_take (i := 47) (d := 135) (v := ?_) rfl rfl (by kernel_rfl) (by kernel_rfl) (by kernel_rfl) (fun _ _ _ h => h) (Or.inl ⟨by rfl, ?_⟩) hHeld ?_
          rotate_left
          · (intro w hSw; (try dsimp only at hSw); go_simp; all_goals (with_reducible rfl))
          try simp only [Act.put, List.setIfInBounds_toArray, List.set_cons_zero, List.set_cons_succ]
          refine held_take (i := 48) (d := 136) (v := ?_) rfl rfl (by kernel_rfl) (by kernel_rfl) (by kernel_rfl) (fun _ _ _ h => h) (Or.inl ⟨by rfl, ?_⟩) hHeld ?_
          rotate_left
          · (intro w hSw; (try dsimp only at hSw); go_simp; all_goals (with_reducible rfl))
          try simp only [Act.put, List.setIfInBounds_toArray, List.set_cons_zero, List.set_cons_succ]
          refine held_take (i := 49) (d := 137) (v := ?_) rfl rfl (by kernel_rfl) (by kernel_rfl) (by kernel_rfl) (fun _ _ _ h => h) (Or.inl ⟨by rfl, ?_⟩) hHeld ?_
          rotate_left
          · (intro w hSw; (try dsimp only at hSw); go_simp; all_goals (with_reducible rfl))
          try simp only [Act.put, List.setIfInBounds_toArray, List.set_cons_zero, List.set_cons_succ]
          refine held_take (i := 50) (d := 138) (v := ?_) rfl rfl (by kernel_rfl) (by kernel_rfl) (by kernel_rfl) (fun _ _ _ h => h) (Or.inl ⟨by rfl, ?_⟩) hHeld ?_
          rotate_left
          · (intro w hSw; (try dsimp only at hSw); go_simp; all_goals (with_reducible rfl))
          try simp only [Act.put, List.setIfInBounds_toArray, List.set_cons_zero, List.set_cons_succ]
          refine held_take (i := 51) (d := 139) (v := ?_) rfl rfl (by kernel_rfl) (by kernel_rfl) (by kernel_rfl) (fun _ _ _ h => h) (Or.inl ⟨by rfl, ?_⟩) hHeld ?_
          rotate_left
          · (intro w hSw; (try dsimp only at hSw); go_simp; all_goals (with_reducible rfl))
          try simp only [Act.put, List.setIfInBounds_toArray, List.set_cons_zero, List.set_cons_succ]
          refine held_take (i := 52) (d := 140) (v := ?_) rfl rfl (by kernel_rfl) (by kernel_rfl) (by kernel_rfl) (fun _ _ _ h => h) (Or.inl ⟨by rfl, ?_⟩) hHeld ?_
          rotate_left
          · (intro w hSw; (try dsimp only at hSw); go_simp; all_goals (with_reducible rfl))
          try simp only [Act.put, List.setIfInBounds_toArray, List.set_cons_zero, List.set_cons_succ]
          refine held_take (i := 53) (d := 141) (v := ?_) rfl rfl (by kernel_rfl) (by kernel_rfl) (by kernel_rfl) (fun _ _ _ h => h) (Or.inl ⟨by rfl, ?_⟩) hHeld ?_
          rotate_left
          · (intro w hSw; (try dsimp only at hSw); go_simp; all_goals (with_reducible rfl))
          try simp only [Act.put, List.setIfInBounds_toArray, List.set_cons_zero, List.set_cons_succ]
          refine held_take (i := 54) (d := 142) (v := ?_) rfl rfl (by kernel_rfl) (by kernel_rfl) (by kernel_rfl) (fun _ _ _ h => h) (Or.inl ⟨by rfl, ?_⟩) hHeld ?_
          rotate_left
          · (intro w hSw; (try dsimp only at hSw); go_simp; all_goals (with_reducible rfl))
          try simp only [Act.put, List.setIfInBounds_toArray, List.set_cons_zero, List.set_cons_succ]
          refine held_take (i := 55) (d := 143) (v := ?_) rfl rfl (by kernel_rfl) (by kernel_rfl) (by kernel_rfl) (fun _ _ _ h => h) (Or.inl ⟨by rfl, ?_⟩) hHeld ?_
          rotate_left
          · (intro w hSw; (try dsimp only at hSw); go_simp; all_goals (with_reducible rfl))
          try simp only [Act.put, List.setIfInBounds_toArray, List.set_cons_zero, List.set_cons_succ]
          refine held_take (i := 56) (d := 144) (v := ?_) rfl rfl (by kernel_rfl) (by kernel_rfl) (by kernel_rfl) (fun _ _ _ h => h) (Or.inl ⟨by rfl, ?_⟩) hHeld ?_
          rotate_left
          · (intro w hSw; (try dsimp only at hSw); go_simp; all_goals (with_reducible rfl))
          try simp only [Act.put, List.setIfInBounds_toArray, List.set_cons_zero, List.set_cons_succ]
          refine held_take (i := 57) (d := 145) (v := ?_) rfl rfl (by kernel_rfl) (by kernel_rfl) (by kernel_rfl) (fun _ _ _ h => h) (Or.inl ⟨by rfl, ?_⟩) hHeld ?_
          rotate_left
          · (intro w hSw; (try dsimp only at hSw); go_simp; all_goals (with_reducible rfl))
          try simp only [Act.put, List.setIfInBounds_toArray, List.set_cons_zero, List.set_cons_succ]
          refine held_take (i := 58) (d := 146) (v := ?_) rfl rfl (by kernel_rfl) (by kernel_rfl) (by kernel_rfl) (fun _ _ _ h => h) (Or.inl ⟨by rfl, ?_⟩) hHeld ?_
          rotate_left
          · (intro w hSw; (try dsimp only at hSw); go_simp; all_goals (with_reducible rfl))
          try simp only [Act.put, List.setIfInBounds_toArray, List.set_cons_zero, List.set_cons_succ]
          refine held_take (i := 59) (d := 147) (v := ?_) rfl rfl (by kernel_rfl) (by kernel_rfl) (by kernel_rfl) (fun _ _ _ h => h) (Or.inl ⟨by rfl, ?_⟩) hHeld ?_
          rotate_left
          · (intro w hSw; (try dsimp only at hSw); go_simp; all_goals (with_reducible rfl))
          try simp only [Act.put, List.setIfInBounds_toArray, List.set_cons_zero, List.set_cons_succ]
          have hq := awake_any w14
          refine wpAnyH_ready (rs := [60]) (by kernel_rfl) (by simp) ?_
          refine AllReadyH.cons rfl (fun K hK => ?_) AllReadyH.nil
          go_simp
          refine hq.mono ?_
          rintro e w15 ⟨rfl, hb15⟩
          have HO15 : Hid (w15.heap[p5]? = some (.cells (carr ep' sh' (.slice a1' (q + 1) c1') (.slice b1' (q + 1) d1') le') 29)) := heap_kept HO14.out hb15
          have HW15 : Hid (w15.heap[p6]? = some (.cells (rarr ep' sh' (.slice (some ⟨b3, off3, none⟩) (q + 1) c3) le') 25)) := heap_kept HW14.out hb15
          have HC15 : Hid (Cfr w15 (.agg (carr ep' sh' (.slice a1' (q + 1) c1') (.slice b1' (q + 1) d1') le')) ⟨ep', sh', l, le'⟩) := HC14.out.later hb15
          have HR15 : Hid (Rfr w15 (.agg (rarr ep' sh' (.slice (some ⟨b3, off3, none⟩) (q + 1) c3) le')) ⟨ep', sh', l, le'⟩) := HR14.out.later hb15
          have HB15 : Hid (Below w.heap.size w w15) := HB14.out.trans (hb15.mono HB14.out.size)
          have m0 := cell_later hb15 m0
          have mq := cell_later hb15 mq
          clear x0 x1 x2 x3 x4 y0 y1 y2 y3
          obtain ⟨x0, x1, x2, x3, x4⟩ := five_cells HO15.out
          obtain ⟨y0, y1, y2, y3⟩ := four_cells HW15.out
          go_wp2_with fail
          refine hK.out _ _ ?_ (fun hHeld => ?_)
          · exact ⟨⟨x0, x1, x2, x3, x4⟩, ⟨y0, y1, y2, y3⟩, m0, mq⟩
          clear hK K
          try simp only [Act.put, List.setIfInBounds_toArray, List.set_cons_zero, List.set_cons_succ]
          clear hq hb15 HO14 HW14 HC14 HR14 HB14
          refine held_take (i := 61) (d := 149) (v := ?_) rfl rfl (by kernel_rfl) (by kernel_rfl) (by kernel_rfl) (fun _ _ _ h => h) (Or.inl ⟨by rfl, ?_⟩) hHeld ?_
          rotate_left
          · (intro w hSw; (try dsimp only at hSw); go_simp; all_goals (with_reducible rfl))
          try simp only [Act.put, List.setIfInBounds_toArray, List.set_cons_zero, List.set_cons_succ]
          refine held_take (i := 62) (d := 4) (v := ?_) rfl rfl (by kernel_rfl) (by kernel_rfl) (by kernel_rfl) (fun _ _ _ h => h) (Or.inl ⟨by rfl, ?_⟩) hHeld ?_
          rotate_left
          · (intro w hSw; (try dsimp only at hSw); go_simp; all_goals (with_reducible rfl))
          try simp only [Act.put, List.setIfInBounds_toArray, List.set_cons_zero, List.set_cons_succ]
          refine wpAnyH_done (by kernel_rfl) ?_ _
          refine NoPanic.normal ?_
          go_wp2
          go_ret
          exact ⟨rfl, HB15.out⟩
        · have HHA : Hid (hasB ⟨ep', sh', l, le'⟩ a1 = false) := by rw [Hid, HHH.out, decide_eq_false (fun e => hal e.symm)]; simp
          have hde : (a1 == le') = false := by simp [hal]
          clear hal
          go_upto_region 14 with fail
          refine wp_region_noPanic ?_
          refine wp_region_held_drew (S := fun w' => (w'.cell? ⟨p5, 0, none⟩ = some (.int .u64 (ep' : Nat)) ∧ w'.cell? ⟨p5, 1, none⟩ = some (.int .i64 sh') ∧ w'.cell? ⟨p5, 2, none⟩ = some (.slice a1' (q + 1) c1') ∧ w'.cell? ⟨p5, 3, none⟩ = some (.slice b1' (q + 1) d1') ∧ w'.cell? ⟨p5, 4, none⟩ = some (.int .i64 le')) ∧ (w'.cell? ⟨p6, 0, none⟩ = some (.int .u64 (ep' : Nat)) ∧ w'.cell? ⟨p6, 1, none⟩ = some (.int .i64 sh') ∧ w'.cell? ⟨p6, 2, none⟩ = some (.slice (some ⟨b3, off3, none⟩) (q + 1) c3) ∧ w'.cell? ⟨p6, 3, none⟩ = some (.int .i64 le')) ∧ w'.cell? ⟨b3, off3, none⟩ = some (.int .i64 f0) ∧ w'.cell? ⟨b3, off3 + q * 2, none⟩ = some (.int .i64 fl)) (by kernel_rfl) ?_ (fun hHeld => ?_)
          · exact ⟨⟨x0, x1, x2, x3, x4⟩, ⟨y0, y1, y2, y3⟩, m0, mq⟩
          refine held_take (i := 0) (d := 88) (v := ?_) rfl rfl (by kernel_rfl) (by kernel_rfl) (by kernel_rfl) (fun _ _ _ h => h) (Or.inl ⟨by rfl, ?_⟩) hHeld ?_
          rotate_left
          · (intro w hSw; (try dsimp only at hSw); go_simp; all_goals (with_reducible rfl))
          try simp only [Act.put, List.setIfInBounds_toArray, List.set_cons_zero, List.set_cons_succ]
          refine held_take (i := 1) (d := 89) (v := ?_) rfl rfl (by kernel_rfl) (by kernel_rfl) (by kernel_rfl) (fun _ _ _ h => h) (Or.inl ⟨by rfl, ?_⟩) hHeld ?_
          rotate_left
          · (intro w hSw; (try dsimp only at hSw); go_simp; all_goals (with_reducible rfl))
          try simp only [Act.put, List.setIfInBounds_toArray, List.set_cons_zero, List.set_cons_succ]
          refine held_take (i := 2) (d := 90) (v := ?_) rfl rfl (by kernel_rfl) (by kernel_rfl) (by kernel_rfl) (fun _ _ _ h => h) (Or.inl ⟨by rfl, ?_⟩) hHeld ?_
          rotate_left
          · (intro w hSw; (try dsimp only at hSw); go_simp; all_goals (with_reducible rfl))
          try simp only [Act.put, List.setIfInBounds_toArray, List.set_cons_zero, List.set_cons_succ]
          refine held_take (i := 3) (d := 91) (v := ?_) rfl rfl (by kernel_rfl) (by kernel_rfl) (by kernel_rfl) (fun _ _ _ h => h) (Or.inl ⟨by rfl, ?_⟩) hHeld ?_
          rotate_left
          · (intro w hSw; (try dsimp only at hSw); go_simp; all_goals (with_reducible rfl))
          try simp only [Act.put, List.setIfInBounds_toArray, List.set_cons_zero, List.set_cons_succ]
          refine held_take (i := 4) (d := 92) (v := ?_) rfl rfl (by kernel_rfl) (by kernel_rfl) (by kernel_rfl) (fun _ _ _ h => h) (Or.inl ⟨by rfl, ?_⟩) hHeld ?_
          rotate_left
          · (intro w hSw; (try dsimp only at hSw); go_simp; all_goals (with_reducible rfl))
          try simp only [Act.put, List.setIfInBounds_toArray, List.set_cons_zero, List.set_cons_succ]
          refine held_take (i := 6) (d := 94) (v := ?_) rfl rfl (by kernel_rfl) (by kernel_rfl) (by kernel_rfl) (fun _ _ _ h => h) (Or.inl ⟨by rfl, ?_⟩) hHeld ?_
          rotate_left
          · (intro w hSw; (try dsimp only at hSw); go_simp; all_goals (with_reducible rfl))
          try simp only [Act.put, List.setIfInBounds_toArray, List.set_cons_zero, List.set_cons_succ]
          refine held_take (i := 7) (d := 95) (v := ?_) rfl rfl (by kernel_rfl) (by kernel_rfl) (by kernel_rfl) (fun _ _ _ h => h) (Or.inl ⟨by rfl, ?_⟩) hHeld ?_
          rotate_left
          · (intro w hSw; (try dsimp only at hSw); go_simp; all_goals (with_reducible rfl))
          try simp only [Act.put, List.setIfInBounds_toArray, List.set_cons_zero, List.set_cons_succ]
          refine held_take (i := 8) (d := 96) (v := ?_) rfl rfl (by kernel_rfl) (by kernel_rfl) (by kernel_rfl) (fun _ _ _ h => h) (Or.inl ⟨by rfl, ?_⟩) hHeld ?_
          rotate_left
          · (intro w hSw; (try dsimp only at hSw); go_simp; all_goals (with_reducible rfl))
          try simp only [Act.put, List.setIfInBounds_toArray, List.set_cons_zero, List.set_cons_succ]
          refine held_take (i := 9) (d := 97) (v := ?_) rfl rfl (by kernel_rfl) (by kernel_rfl) (by kernel_rfl) (fun _ _ _ h => h) (Or.inl ⟨by rfl, ?_⟩) hHeld ?_
          rotate_left
          · (intro w hSw; (try dsimp only at hSw); go_simp; all_goals (with_reducible rfl))
          try simp only [Act.put, List.setIfInBounds_toArray, List.set_cons_zero, List.set_cons_succ]
          refine held_take (i := 10) (d := 98) (v := ?_) rfl rfl (by kernel_rfl) (by kernel_rfl) (by kernel_rfl) (fun _ _ _ h => h) (Or.inl ⟨by rfl, ?_⟩) hHeld ?_
          rotate_left
          · (intro w hSw; (try dsimp only at hSw); go_simp; all_goals (with_reducible rfl))
          try simp only [Act.put, List.setIfInBounds_toArray, List.set_cons_zero, List.set_cons_succ]
          have hq := head_any _ _  _ (HC9.out.later (Below.refl _ w9).drew)
          rw [HHD.out] at hq
          refine wpAnyH_ready (rs := [5]) (by kernel_rfl) (by simp) ?_
          refine AllReadyH.cons rfl (fun K hK => ?_) AllReadyH.nil
          go_simp
          refine hq.mono ?_
          rintro e w10 ⟨rfl, hb10⟩
          have b10 : Below w9.heap.size w9 w10 := (Below.refl _ w9).drew.trans hb10
          have HO10 : Hid (w10.heap[p5]? = some (.cells (carr ep' sh' (.slice a1' (q + 1) c1') (.slice b1' (q + 1) d1') le') 29)) := heap_kept HO9.out b10
          have HW10 : Hid (w10.heap[p6]? = some (.cells (rarr ep' sh' (.slice (some ⟨b3, off3, none⟩) (q + 1) c3) le') 25)) := heap_kept HW9.out b10
          have HC10 : Hid (Cfr w10 (.agg (carr ep' sh' (.slice a1' (q + 1) c1') (.slice b1' (q + 1) d1') le')) ⟨ep', sh', l, le'⟩) := HC9.out.later b10
          have HR10 : Hid (Rfr w10 (.agg (rarr ep' sh' (.slice (some ⟨b3, off3, none⟩) (q + 1) c3) le')) ⟨ep', sh', l, le'⟩) := HR9.out.later b10
          have HB10 : Hid (Below w.heap.size w w10) := HB9.out.trans (b10.mono HB9.out.size)
          have m0 := cell_later b10 m0
          have mq := cell_later b10 mq
          clear x0 x1 x2 x3 x4 y0 y1 y2 y3
          obtain ⟨x0, x1, x2, x3, x4⟩ := five_cells HO10.out
          obtain ⟨y0, y1, y2, y3⟩ := four_cells HW10.out
          go_wp2_with fail
          refine hK.out _ _ ?_ (fun hHeld => ?_)
          · exact ⟨⟨x0, x1, x2, x3, x4⟩, ⟨y0, y1, y2, y3⟩, m0, mq⟩
          clear hK K
          try simp only [Act.put, List.setIfInBounds_toArray, List.set_cons_zero, List.set_cons_succ]
          clear hq b10 HO9 HW9 HC9 HR9 HB9
          refine held_take (i := 11) (d := 99) (v := ?_) rfl rfl (by kernel_rfl) (by kernel_rfl) (by kernel_rfl) (fun _ _ _ h => h) (Or.inl ⟨by rfl, ?_⟩) hHeld ?_
          rotate_left
          · (intro w hSw; (try dsimp only at hSw); go_simp; all_goals (with_reducible rfl))
          try simp only [Act.put, List.setIfInBounds_toArray, List.set_cons_zero, List.set_cons_succ]
          refine held_take (i := 12) (d := 100) (v := ?_) rfl rfl (by kernel_rfl) (by kernel_rfl) (by kernel_rfl) (fun _ _ _ h => h) (Or.inl ⟨by rfl, ?_⟩) hHeld ?_
          rotate_left
          · (intro w hSw; (try dsimp only at hSw); go_simp; all_goals (with_reducible rfl))
          try simp only [Act.put, List.setIfInBounds_toArray, List.set_cons_zero, List.set_cons_succ]
          refine held_take (i := 13) (d := 101) (v := ?_) rfl rfl (by kernel_rfl) (by kernel_rfl) (by kernel_rfl) (fun _ _ _ h => h) (Or.inl ⟨by rfl, ?_⟩) hHeld ?_
          rotate_left
          · (intro w hSw; (try dsimp only at hSw); go_simp; all_goals (with_reducible rfl))
          try simp only [Act.put, List.setIfInBounds_toArray, List.set_cons_zero, List.set_cons_succ]
          refine held_take (i := 14) (d := 102) (v := ?_) rfl rfl (by kernel_rfl) (by kernel_rfl) (by kernel_rfl) (fun _ _ _ h => h) (Or.inl ⟨by rfl, ?_⟩) hHeld ?_
          rotate_left
          · (intro w hSw; (try dsimp only at hSw); go_simp; all_goals (with_reducible rfl))
          try simp only [Act.put, List.setIfInBounds_toArray, List.set_cons_zero, List.set_cons_succ]
          refine held_take (i := 16) (d := 104) (v := ?_) rfl rfl (by kernel_rfl) (by kernel_rfl) (by kernel_rfl) (fun _ _ _ h => h) (Or.inl ⟨by rfl, ?_⟩) hHeld ?_
          rotate_left
          · (intro w hSw; (try dsimp only at hSw); go_simp; all_goals (with_reducible rfl))
          try simp only [Act.put, List.setIfInBounds_toArray, List.set_cons_zero, List.set_cons_succ]
          refine held_take (i := 17) (d := 105) (v := ?_) rfl rfl (by kernel_rfl) (by kernel_rfl) (by kernel_rfl) (fun _ _ _ h => h) (Or.inl ⟨by rfl, ?_⟩) hHeld ?_
          rotate_left
          · (intro w hSw; (try dsimp only at hSw); go_simp; all_goals (with_reducible rfl))
          try simp only [Act.put, List.setIfInBounds_toArray, List.set_cons_zero, List.set_cons_succ]
          refine held_take (i := 18) (d := 106) (v := ?_) rfl rfl (by kernel_rfl) (by kernel_rfl) (by kernel_rfl) (fun _ _ _ h => h) (Or.inl ⟨by rfl, ?_⟩) hHeld ?_
          rotate_left
          · (intro w hSw; (try dsimp only at hSw); go_simp; all_goals (with_reducible rfl))
          try simp only [Act.put, List.setIfInBounds_toArray, List.set_cons_zero, List.set_cons_succ]
          refine held_take (i := 19) (d := 107) (v := ?_) rfl rfl (by kernel_rfl) (by kernel_rfl) (by kernel_rfl) (fun _ _ _ h => h) (Or.inl ⟨by rfl, ?_⟩) hHeld ?_
          rotate_left
          · (intro w hSw; (try dsimp only at hSw); go_simp; all_goals (with_reducible rfl))
          try simp only [Act.put, List.setIfInBounds_toArray, List.set_cons_zero, List.set_cons_succ]
          refine held_take (i := 20) (d := 108) (v := ?_) rfl rfl (by kernel_rfl) (by kernel_rfl) (by kernel_rfl) (fun _ _ _ h => h) (Or.inl ⟨by rfl, ?_⟩) hHeld ?_
          rotate_left
          · (intro w hSw; (try dsimp only at hSw); go_simp; all_goals (with_reducible rfl))
          try simp only [Act.put, List.setIfInBounds_toArray, List.set_cons_zero, List.set_cons_succ]
          refine held_take (i := 21) (d := 109) (v := ?_) rfl rfl (by kernel_rfl) (by kernel_rfl) (by kernel_rfl) (fun _ _ _ h => h) (Or.inl ⟨by rfl, ?_⟩) hHeld ?_
          rotate_left
          · (intro w hSw; (try dsimp only at hSw); go_simp; all_goals (with_reducible rfl))
          try simp only [Act.put, List.setIfInBounds_toArray, List.set_cons_zero, List.set_cons_succ]
          refine held_take (i := 22) (d := 110) (v := ?_) rfl rfl (by kernel_rfl) (by kernel_rfl) (by kernel_rfl) (fun _ _ _ h => h) (Or.inl ⟨by rfl, ?_⟩) hHeld ?_
          rotate_left
          · (intro w hSw; (try dsimp only at hSw); go_simp; all_goals (with_reducible rfl))
          try simp only [Act.put, List.setIfInBounds_toArray, List.set_cons_zero, List.set_cons_succ]
          refine held_take (i := 23) (d := 111) (v := ?_) rfl rfl (by kernel_rfl) (by kernel_rfl) (by kernel_rfl) (fun _ _ _ h => h) (Or.inl ⟨by rfl, ?_⟩) hHeld ?_
          rotate_left
          · (intro w hSw; (try dsimp only at hSw); go_simp; all_goals (with_reducible rfl))
          try simp only [Act.put, List.setIfInBounds_toArray, List.set_cons_zero, List.set_cons_succ]
          refine held_take (i := 24) (d := 112) (v := ?_) rfl rfl (by kernel_rfl) (by kernel_rfl) (by kernel_rfl) (fun _ _ _ h => h) (Or.inl ⟨by rfl, ?_⟩) hHeld ?_
          rotate_left
          · (intro w hSw; (try dsimp only at hSw); go_simp; all_goals (with_reducible rfl))
          try simp only [Act.put, List.setIfInBounds_toArray, List.set_cons_zero, List.set_cons_succ]
          have hq := tail_any _ _  _ (HC10.out)
          rw [HTL.out] at hq
          refine wpAnyH_ready (rs := [15]) (by kernel_rfl) (by simp) ?_
          refine AllReadyH.cons rfl (fun K hK => ?_) AllReadyH.nil
          go_simp
          refine hq.mono ?_
          rintro e w11 ⟨rfl, hb11⟩
          have HO11 : Hid (w11.heap[p5]? = some (.cells (carr ep' sh' (.slice a1' (q + 1) c1') (.slice b1' (q + 1) d1') le') 29)) := heap_kept HO10.out hb11
          have HW11 : Hid (w11.heap[p6]? = some (.cells (rarr ep' sh' (.slice (some ⟨b3, off3, none⟩) (q + 1) c3) le') 25)) := heap_kept HW10.out hb11
          have HC11 : Hid (Cfr w11 (.agg (carr ep' sh' (.slice a1' (q + 1) c1') (.slice b1' (q + 1) d1') le')) ⟨ep', sh', l, le'⟩) := HC10.out.later hb11
          have HR11 : Hid (Rfr w11 (.agg (rarr ep' sh' (.slice (some ⟨b3, off3, none⟩) (q + 1) c3) le')) ⟨ep', sh', l, le'⟩) := HR10.out.later hb11
          have HB11 : Hid (Below w.heap.size w w11) := HB10.out.trans (hb11.mono HB10.out.size)
          have m0 := cell_later hb11 m0
          have mq := cell_later hb11 mq
          clear x0 x1 x2 x3 x4 y0 y1 y2 y3
          obtain ⟨x0, x1, x2, x3, x4⟩ := five_cells HO11.out
          obtain ⟨y0, y1, y2, y3⟩ := four_cells HW11.out
          go_wp2_with fail
          refine hK.out _ _ ?_ (fun hHeld => ?_)
          · exact ⟨⟨x0, x1, x2, x3, x4⟩, ⟨y0, y1, y2, y3⟩, m0, mq⟩
          clear hK K
          try simp only [Act.put, List.setIfInBounds_toArray, List.set_cons_zero, List.set_cons_succ]
          clear hq hb11 HO10 HW10 HC10 HR10 HB10
          refine held_take (i := 25) (d := 113) (v := ?_) rfl rfl (by kernel_rfl) (by kernel_rfl) (by kernel_rfl) (fun _ _ _ h => h) (Or.inl ⟨by rfl, ?_⟩) hHeld ?_
          rotate_left
          · (intro w hSw; (try dsimp only at hSw); go_simp; all_goals (with_reducible rfl))
          try simp only [Act.put, List.setIfInBounds_toArray, List.set_cons_zero, List.set_cons_succ]
          refine held_take (i := 26) (d := 114) (v := ?_) rfl rfl (by kernel_rfl) (by kernel_rfl) (by kernel_rfl) (fun _ _ _ h => h) (Or.inl ⟨by rfl, ?_⟩) hHeld ?_
          rotate_left
          · (intro w hSw; (try dsimp only at hSw); go_simp; all_goals (with_reducible rfl))
          try simp only [Act.put, List.setIfInBounds_toArray, List.set_cons_zero, List.set_cons_succ]
          refine held_take (i := 27) (d := 115) (v := ?_) rfl rfl (by kernel_rfl) (by kernel_rfl) (by kernel_rfl) (fun _ _ _ h => h) (Or.inl ⟨by rfl, ?_⟩) hHeld ?_
          rotate_left
          · (intro w hSw; (try dsimp only at hSw); go_simp; all_goals (with_reducible rfl))
          try simp only [Act.put, List.setIfInBounds_toArray, List.set_cons_zero, List.set_cons_succ]
          refine held_take (i := 28) (d := 116) (v := ?_) rfl rfl (by kernel_rfl) (by kernel_rfl) (by kernel_rfl) (fun _ _ _ h => h) (Or.inl ⟨by rfl, ?_⟩) hHeld ?_
          rotate_left
          · (intro w hSw; (try dsimp only at hSw); go_simp; all_goals (with_reducible rfl))
          try simp only [Act.put, List.setIfInBounds_toArray, List.set_cons_zero, List.set_cons_succ]
          refine held_take (i := 29) (d := 117) (v := ?_) rfl rfl (by kernel_rfl) (by kernel_rfl) (by kernel_rfl) (fun _ _ _ h => h) (Or.inl ⟨by rfl, ?_⟩) hHeld ?_
          rotate_left
          · (intro w hSw; (try dsimp only at hSw); go_simp; all_goals (with_reducible rfl))
          try simp only [Act.put, List.setIfInBounds_toArray, List.set_cons_zero, List.set_cons_succ]
          refine held_take (i := 31) (d := 119) (v := ?_) rfl rfl (by kernel_rfl) (by kernel_rfl) (by kernel_rfl) (fun _ _ _ h => h) (Or.inl ⟨by rfl, ?_⟩) hHeld ?_
          rotate_left
          · (intro w hSw; (try dsimp only at hSw); go_simp; all_goals (with_reducible rfl))
          try simp only [Act.put, List.setIfInBounds_toArray, List.set_cons_zero, List.set_cons_succ]
          have hq := next_any _ _ a1 _ (HC11.out)
          rw [HNX.out] at hq
          refine wpAnyH_ready (rs := [30]) (by kernel_rfl) (by simp) ?_
          refine AllReadyH.cons rfl (fun K hK => ?_) AllReadyH.nil
          go_simp
          refine hq.mono ?_
          rintro e w12 ⟨rfl, hb12⟩
          have HO12 : Hid (w12.heap[p5]? = some (.cells (carr ep' sh' (.slice a1' (q + 1) c1') (.slice b1' (q + 1) d1') le') 29)) := heap_kept HO11.out hb12
          have HW12 : Hid (w12.heap[p6]? = some (.cells (rarr ep' sh' (.slice (some ⟨b3, off3, none⟩) (q + 1) c3) le') 25)) := heap_kept HW11.out hb12
          have HC12 : Hid (Cfr w12 (.agg (carr ep' sh' (.slice a1' (q + 1) c1') (.slice b1' (q + 1) d1') le')) ⟨ep', sh', l, le'⟩) := HC11.out.later hb12
          have HR12 : Hid (Rfr w12 (.agg (rarr ep' sh' (.slice (some ⟨b3, off3, none⟩) (q + 1) c3) le')) ⟨ep', sh', l, le'⟩) := HR11.out.later hb12
          have HB12 : Hid (Below w.heap.size w w12) := HB11.out.trans (hb12.mono HB11.out.size)
          have m0 := cell_later hb12 m0
          have mq := cell_later hb12 mq
          clear x0 x1 x2 x3 x4 y0 y1 y2 y3
          obtain ⟨x0, x1, x2, x3, x4⟩ := five_cells HO12.out
          obtain ⟨y0, y1, y2, y3⟩ := four_cells HW12.out
          go_wp2_with fail
          refine hK.out _ _ ?_ (fun hHeld => ?_)
          · exact ⟨⟨x0, x1, x2, x3, x4⟩, ⟨y0, y1, y2, y3⟩, m0, mq⟩
          clear hK K
          try simp only [Act.put, List.setIfInBounds_toArray, List.set_cons_zero, List.set_cons_succ]
          clear hq hb12 HO11 HW11 HC11 HR11 HB11
          refine held_take (i := 32) (d := 120) (v := ?_) rfl rfl (by kernel_rfl) (by kernel_rfl) (by kernel_rfl) (fun _ _ _ h => h) (Or.inl ⟨by rfl, ?_⟩) hHeld ?_
          rotate_left
          · (intro w hSw; (try dsimp only at hSw); go_simp; all_goals (with_reducible rfl))
          try simp only [Act.put, List.setIfInBounds_toArray, List.set_cons_zero, List.set_cons_succ]
          refine held_take (i := 33) (d := 121) (v := ?_) rfl rfl (by kernel_rfl) (by kernel_rfl) (by kernel_rfl) (fun _ _ _ h => h) (Or.inl ⟨by rfl, ?_⟩) hHeld ?_
          rotate_left
          · (intro w hSw; (try dsimp only at hSw); go_simp; all_goals (with_reducible rfl))
          try simp only [Act.put, List.setIfInBounds_toArray, List.set_cons_zero, List.set_cons_succ]
          refine held_take (i := 34) (d := 122) (v := ?_) rfl rfl (by kernel_rfl) (by kernel_rfl) (by kernel_rfl) (fun _ _ _ h => h) (Or.inl ⟨by rfl, ?_⟩) hHeld ?_
          rotate_left
          · (intro w hSw; (try dsimp only at hSw); go_simp; all_goals (with_reducible rfl))
          try simp only [Act.put, List.setIfInBounds_toArray, List.set_cons_zero, List.set_cons_succ]
          refine held_take (i := 35) (d := 123) (v := ?_) rfl rfl (by kernel_rfl) (by kernel_rfl) (by kernel_rfl) (fun _ _ _ h => h) (Or.inl ⟨by rfl, ?_⟩) hHeld ?_
          rotate_left
          · (intro w hSw; (try dsimp only at hSw); go_simp; all_goals (with_reducible rfl))
          try simp only [Act.put, List.setIfInBounds_toArray, List.set_cons_zero, List.set_cons_succ]
          refine held_take (i := 36) (d := 124) (v := ?_) rfl rfl (by kernel_rfl) (by kernel_rfl) (by kernel_rfl) (fun _ _ _ h => h) (Or.inl ⟨by rfl, ?_⟩) hHeld ?_
          rotate_left
          · (intro w hSw; (try dsimp only at hSw); go_simp; all_goals (with_reducible rfl))
          try simp only [Act.put, List.setIfInBounds_toArray, List.set_cons_zero, List.set_cons_succ]
          refine held_take (i := 38) (d := 126) (v := ?_) rfl rfl (by kernel_rfl) (by kernel_rfl) (by kernel_rfl) (fun _ _ _ h => h) (Or.inl ⟨by rfl, ?_⟩) hHeld ?_
          rotate_left
          · (intro w hSw; (try dsimp only at hSw); go_simp; all_goals (with_reducible rfl))
          try simp only [Act.put, List.setIfInBounds_toArray, List.set_cons_zero, List.set_cons_succ]
          have hq := prev_any _ _ a1 _ (HC12.out)
          rw [HPV.out] at hq
          refine wpAnyH_ready (rs := [37]) (by kernel_rfl) (by simp) ?_
          refine AllReadyH.cons rfl (fun K hK => ?_) AllReadyH.nil
          go_simp
          refine hq.mono ?_
          rintro e w13 ⟨rfl, hb13⟩
          have HO13 : Hid (w13.heap[p5]? = some (.cells (carr ep' sh' (.slice a1' (q + 1) c1') (.slice b1' (q + 1) d1') le') 29)) := heap_kept HO12.out hb13
          have HW13 : Hid (w13.heap[p6]? = some (.cells (rarr ep' sh' (.slice (some ⟨b3, off3, none⟩) (q + 1) c3) le') 25)) := heap_kept HW12.out hb13
          have HC13 : Hid (Cfr w13 (.agg (carr ep' sh' (.slice a1' (q + 1) c1') (.slice b1' (q + 1) d1') le')) ⟨ep', sh', l, le'⟩) := HC12.out.later hb13
          have HR13 : Hid (Rfr w13 (.agg (rarr ep' sh' (.slice (some ⟨b3, off3, none⟩) (q + 1) c3) le')) ⟨ep', sh', l, le'⟩) := HR12.out.later hb13
          have HB13 : Hid (Below w.heap.size w w13) := HB12.out.trans (hb13.mono HB12.out.size)
          have m0 := cell_later hb13 m0
          have mq := cell_later hb13 mq
          clear x0 x1 x2 x3 x4 y0 y1 y2 y3
          obtain ⟨x0, x1, x2, x3, x4⟩ := five_cells HO13.out
          obtain ⟨y0, y1, y2, y3⟩ := four_cells HW13.out
          go_wp2_with fail
          refine hK.out _ _ ?_ (fun hHeld => ?_)
          · exact ⟨⟨x0, x1, x2, x3, x4⟩, ⟨y0, y1, y2, y3⟩, m0, mq⟩
          clear hK K
          try simp only [Act.put, List.setIfInBounds_toArray, List.set_cons_zero, List.set_cons_succ]
          clear hq hb13 HO12 HW12 HC12 HR12 HB12
          refine held_take (i := 39) (d := 127) (v := ?_) rfl rfl (by kernel_rfl) (by kernel_rfl) (by kernel_rfl) (fun _ _ _ h => h) (Or.inl ⟨by rfl, ?_⟩) hHeld ?_
          rotate_left
          · (intro w hSw; (try dsimp only at hSw); go_simp; all_goals (with_reducible rfl))
          try simp only [Act.put, List.setIfInBounds_toArray, List.set_cons_zero, List.set_cons_succ]
          refine held_take (i := 40) (d := 128) (v := ?_) rfl rfl (by kernel_rfl) (by kernel_rfl) (by kernel_rfl) (fun _ _ _ h => h) (Or.inl ⟨by rfl, ?_⟩) hHeld ?_
          rotate_left
          · (intro w hSw; (try dsimp only at hSw); go_simp; all_goals (with_reducible rfl))
          try simp only [Act.put, List.setIfInBounds_toArray, List.set_cons_zero, List.set_cons_succ]
          refine held_take (i := 41) (d := 129) (v := ?_) rfl rfl (by kernel_rfl) (by kernel_rfl) (by kernel_rfl) (fun _ _ _ h => h) (Or.inl ⟨by rfl, ?_⟩) hHeld ?_
          rotate_left
          · (intro w hSw; (try dsimp only at hSw); go_simp; all_goals (with_reducible rfl))
          try simp only [Act.put, List.setIfInBounds_toArray, List.set_cons_zero, List.set_cons_succ]
          refine held_take (i := 42) (d := 130) (v := ?_) rfl rfl (by kernel_rfl) (by kernel_rfl) (by kernel_rfl) (fun _ _ _ h => h) (Or.inl ⟨by rfl, ?_⟩) hHeld ?_
          rotate_left
          · (intro w hSw; (try dsimp only at hSw); go_simp; all_goals (with_reducible rfl))
          try simp only [Act.put, List.setIfInBounds_toArray, List.set_cons_zero, List.set_cons_succ]
          refine held_take (i := 43) (d := 131) (v := ?_) rfl rfl (by kernel_rfl) (by kernel_rfl) (by kernel_rfl) (fun _ _ _ h => h) (Or.inl ⟨by rfl, ?_⟩) hHeld ?_
          rotate_left
          · (intro w hSw; (try dsimp only at hSw); go_simp; all_goals (with_reducible rfl))
          try simp only [Act.put, List.setIfInBounds_toArray, List.set_cons_zero, List.set_cons_succ]
          refine held_take (i := 45) (d := 133) (v := ?_) rfl rfl (by kernel_rfl) (by kernel_rfl) (by kernel_rfl) (fun _ _ _ h => h) (Or.inl ⟨by rfl, ?_⟩) hHeld ?_
          rotate_left
          · (intro w hSw; (try dsimp only at hSw); go_simp; all_goals (with_reducible rfl))
          try simp only [Act.put, List.setIfInBounds_toArray, List.set_cons_zero, List.set_cons_succ]
          refine held_take (i := 46) (d := 134) (v := ?_) rfl rfl (by kernel_rfl) (by kernel_rfl) (by kernel_rfl) (fun _ _ _ h => h) (Or.inl ⟨by rfl, ?_⟩) hHeld ?_
          rotate_left
          · (intro w hSw; (try dsimp only at hSw); go_simp; all_goals (with_reducible rfl))
          try simp only [Act.put, List.setIfInBounds_toArray, List.set_cons_zero, List.set_cons_succ]
          have hq := has_any _ _ a1 _ (HC13.out)
          rw [HHA.out] at hq
          refine wpAnyH_ready (rs := [44]) (by kernel_rfl) (by simp) ?_
          refine AllReadyH.cons rfl (fun K hK => ?_) AllReadyH.nil
          go_simp
          refine hq.mono ?_
          rintro e w14 ⟨rfl, hb14⟩
          have HO14 : Hid (w14.heap[p5]? = some (.cells (carr ep' sh' (.slice a1' (q + 1) c1') (.slice b1' (q + 1) d1') le') 29)) := heap_kept HO13.out hb14
          have HW14 : Hid (w14.heap[p6]? = some (.cells (rarr ep' sh' (.slice (some ⟨b3, off3, none⟩) (q + 1) c3) le') 25)) := heap_kept HW13.out hb14
          have HC14 : Hid (Cfr w14 (.agg (carr ep' sh' (.slice a1' (q + 1) c1') (.slice b1' (q + 1) d1') le')) ⟨ep', sh', l, le'⟩) := HC13.out.later hb14
          have HR14 : Hid (Rfr w14 (.agg (rarr ep' sh' (.slice (some ⟨b3, off3, none⟩) (q + 1) c3) le')) ⟨ep', sh', l, le'⟩) := HR13.out.later hb14
          have HB14 : Hid (Below w.heap.size w w14) := HB13.out.trans (hb14.mono HB13.out.size)
          have m0 := cell_later hb14 m0
          have mq := cell_later hb14 mq
          clear x0 x1 x2 x3 x4 y0 y1 y2 y3
          obtain ⟨x0, x1, x2, x3, x4⟩ := five_cells HO14.out
          obtain ⟨y0, y1, y2, y3⟩ := four_cells HW14.out
          go_wp2_with fail
          refine hK.out _ _ ?_ (fun hHeld => ?_)
          · exact ⟨⟨x0, x1, x2, x3, x4⟩, ⟨y0, y1, y2, y3⟩, m0, mq⟩
          clear hK K
          try simp only [Act.put, List.setIfInBounds_toArray, List.set_cons_zero, List.set_cons_succ]
          clear hq hb14 HO13 HW13 HC13 HR13 HB13
          refine held_take (i := 47) (d := 135) (v := ?_) rfl rfl (by kernel_rfl) (by kernel_rfl) (by kernel_rfl) (fun _ _ _ h => h) (Or.inl ⟨by rfl, ?_⟩) hHeld ?_
          rotate_left
          · (intro w hSw; (try dsimp only at hSw); go_simp; all_goals (with_reducible rfl))
          try simp only [Act.put, List.setIfInBounds_toArray, List.set_cons_zero, List.set_cons_succ]
          refine held_take (i := 48) (d := 136) (v := ?_) rfl rfl (by kernel_rfl) (by kernel_rfl) (by kernel_rfl) (fun _ _ _ h => h) (Or.inl ⟨by rfl, ?_⟩) hHeld ?_
          rotate_left
          · (intro w hSw; (try dsimp only at hSw); go_simp; all_goals (with_reducible rfl))
          try simp only [Act.put, List.setIfInBounds_toArray, List.set_cons_zero, List.set_cons_succ]
          refine held_take (i := 49) (d := 137) (v := ?_) rfl rfl (by kernel_rfl) (by kernel_rfl) (by kernel_rfl) (fun _ _ _ h => h) (Or.inl ⟨by rfl, ?_⟩) hHeld ?_
          rotate_left
          · (intro w hSw; (try dsimp only at hSw); go_simp; all_goals (with_reducible rfl))
          try simp only [Act.put, List.setIfInBounds_toArray, List.set_cons_zero, List.set_cons_succ]
          refine held_take (i := 50) (d := 138) (v := ?_) rfl rfl (by kernel_rfl) (by kernel_rfl) (by kernel_rfl) (fun _ _ _ h => h) (Or.inl ⟨by rfl, ?_⟩) hHeld ?_
          rotate_left
          · (intro w hSw; (try dsimp only at hSw); go_simp; all_goals (with_reducible rfl))
          try simp only [Act.put, List.setIfInBounds_toArray, List.set_cons_zero, List.set_cons_succ]
          refine held_take (i := 51) (d := 139) (v := ?_) rfl rfl (by kernel_rfl) (by kernel_rfl) (by kernel_rfl) (fun _ _ _ h => h) (Or.inl ⟨by rfl, ?_⟩) hHeld ?_
          rotate_left
          · (intro w hSw; (try dsimp only at hSw); go_simp; all_goals (with_reducible rfl))
          try simp only [Act.put, List.setIfInBounds_toArray, List.set_cons_zero, List.set_cons_succ]
          refine held_take (i := 52) (d := 140) (v := ?_) rfl rfl (by kernel_rfl) (by kernel_rfl) (by kernel_rfl) (fun _ _ _ h => h) (Or.inl ⟨by rfl, ?_⟩) hHeld ?_
          rotate_left
          · (intro w hSw; (try dsimp only at hSw); go_simp; all_goals (with_reducible rfl))
          try simp only [Act.put, List.setIfInBounds_toArray, List.set_cons_zero, List.set_cons_succ]
          refine held_take (i := 53) (d := 141) (v := ?_) rfl rfl (by kernel_rfl) (by kernel_rfl) (by kernel_rfl) (fun _ _ _ h => h) (Or.inl ⟨by rfl, ?_⟩) hHeld ?_
          rotate_left
          · (intro w hSw; (try dsimp only at hSw); go_simp; all_goals (with_reducible rfl))
          try simp only [Act.put, List.setIfInBounds_toArray, List.set_cons_zero, List.set_cons_succ]
          refine held_take (i := 54) (d := 142) (v := ?_) rfl rfl (by kernel_rfl) (by kernel_rfl) (by kernel_rfl) (fun _ _ _ h => h) (Or.inl ⟨by rfl, ?_⟩) hHeld ?_
          rotate_left
          · (intro w hSw; (try dsimp only at hSw); go_simp; all_goals (with_reducible rfl))
          try simp only [Act.put, List.setIfInBounds_toArray, List.set_cons_zero, List.set_cons_succ]
          refine held_take (i := 55) (d := 143) (v := ?_) rfl rfl (by kernel_rfl) (by kernel_rfl) (by kernel_rfl) (fun _ _ _ h => h) (Or.inl ⟨by rfl, ?_⟩) hHeld ?_
          rotate_left
          · (intro w hSw; (try dsimp only at hSw); go_simp; all_goals (with_reducible rfl))
          try simp only [Act.put, List.setIfInBounds_toArray, List.set_cons_zero, List.set_cons_succ]
          refine held_take (i := 56) (d := 144) (v := ?_) rfl rfl (by kernel_rfl) (by kernel_rfl) (by kernel_rfl) (fun _ _ _ h => h) (Or.inl ⟨by rfl, ?_⟩) hHeld ?_
          rotate_left
          · (intro w hSw; (try dsimp only at hSw); go_simp; all_goals (with_reducible rfl))
          try simp only [Act.put, List.setIfInBounds_toArray, List.set_cons_zero, List.set_cons_succ]
          refine held_take (i := 57) (d := 145) (v := ?_) rfl rfl (by kernel_rfl) (by kernel_rfl) (by kernel_rfl) (fun _ _ _ h => h) (Or.inl ⟨by rfl, ?_⟩) hHeld ?_
          rotate_left
          · (intro w hSw; (try dsimp only at hSw); go_simp; all_goals (with_reducible rfl))
          try simp only [Act.put, List.setIfInBounds_toArray, List.set_cons_zero, List.set_cons_succ]
          refine held_take (i := 58) (d := 146) (v := ?_) rfl rfl (by kernel_rfl) (by kernel_rfl) (by kernel_rfl) (fun _ _ _ h => h) (Or.inl ⟨by rfl, ?_⟩) hHeld ?_
          rotate_left
          · (intro w hSw; (try dsimp only at hSw); go_simp; all_goals (with_reducible rfl))
          try simp only [Act.put, List.setIfInBounds_toArray, List.set_cons_zero, List.set_cons_succ]
          refine held_take (i := 59) (d := 147) (v := ?_) rfl rfl (by kernel_rfl) (by kernel_rfl) (by kernel_rfl) (fun _ _ _ h => h) (Or.inl ⟨by rfl, ?_⟩) hHeld ?_
          rotate_left
          · (intro w hSw; (try dsimp only at hSw); go_simp; all_goals (with_reducible rfl))
          try simp only [Act.put, List.setIfInBounds_toArray, List.set_cons_zero, List.set_cons_succ]
          have hq := awake_any w14
          refine wpAnyH_ready (rs := [60]) (by kernel_rfl) (by simp) ?_
          refine AllReadyH.cons rfl (fun K hK => ?_) AllReadyH.nil
          go_simp
          refine hq.mono ?_
          rintro e w15 ⟨rfl, hb15⟩
          have HO15 : Hid (w15.heap[p5]? = some (.cells (carr ep' sh' (.slice a1' (q + 1) c1') (.slice b1' (q + 1) d1') le') 29)) := heap_kept HO14.out hb15
          have HW15 : Hid (w15.heap[p6]? = some (.cells (rarr ep' sh' (.slice (some ⟨b3, off3, none⟩) (q + 1) c3) le') 25)) := heap_kept HW14.out hb15
          have HC15 : Hid (Cfr w15 (.agg (carr ep' sh' (.slice a1' (q + 1) c1') (.slice b1' (q + 1) d1') le')) ⟨ep', sh', l, le'⟩) := HC14.out.later hb15
          have HR15 : Hid (Rfr w15 (.agg (rarr ep' sh' (.slice (some ⟨b3, off3, none⟩) (q + 1) c3) le')) ⟨ep', sh', l, le'⟩) := HR14.out.later hb15
          have HB15 : Hid (Below w.heap.size w w15) := HB14.out.trans (hb15.mono HB14.out.size)
          have m0 := cell_later hb15 m0
          have mq := cell_later hb15 mq
          clear x0 x1 x2 x3 x4 y0 y1 y2 y3
          obtain ⟨x0, x1, x2, x3, x4⟩ := five_cells HO15.out
          obtain ⟨y0, y1, y2, y3⟩ := four_cells HW15.out
          go_wp2_with fail
          refine hK.out _ _ ?_ (fun hHeld => ?_)
          · exact ⟨⟨x0, x1, x2, x3, x4⟩, ⟨y0, y1, y2, y3⟩, m0, mq⟩
          clear hK K
          try simp only [Act.put, List.setIfInBounds_toArray, List.set_cons_zero, List.set_cons_succ]
          clear hq hb15 HO14 HW14 HC14 HR14 HB14
          refine held_take (i := 61) (d := 149) (v := ?_) rfl rfl (by kernel_rfl) (by kernel_rfl) (by kernel_rfl) (fun _ _ _ h => h) (Or.inl ⟨by rfl, ?_⟩) hHeld ?_
          rotate_left
          · (intro w hSw; (try dsimp only at hSw); go_simp; all_goals (with_reducible rfl))
          try simp only [Act.put, List.setIfInBounds_toArray, List.set_cons_zero, List.set_cons_succ]
          refine held_take (i := 62) (d := 4) (v := ?_) rfl rfl (by kernel_rfl) (by kernel_rfl) (by kernel_rfl) (fun _ _ _ h => h) (Or.inl ⟨by rfl, ?_⟩) hHeld ?_
          rotate_left
          · (intro w hSw; (try dsimp only at hSw); go_simp; all_goals (with_reducible rfl))
          try simp only [Act.put, List.setIfInBounds_toArray, List.set_cons_zero, List.set_cons_succ]
          refine wpAnyH_done (by kernel_rfl) ?_ _
          refine NoPanic.normal ?_
          go_wp2
          go_ret
          exact ⟨rfl, HB15.out⟩

/-! From the call to the statement. -/
set_option maxRecDepth 100000 in
theorem lifted (os : Os) (started : os.Started) (H : Type) (enc : TypeId × Value → H) :
    ReturnsInHanded {} Try.checked os 3 .any (Rows.confRightSpec.pre6 enc Try.prog Try.f3 Rows.confRightRow.domain false) (Rows.confRightSpec.post enc Try.prog Try.f3 false true false false) := by
  refine returnsInHanded_of_change (C := Try.checked) own started (by kernel_rfl) Try.func3
    (ChangeSpec.witness6 (enc := enc) (C := Try.checked) false ⟨#[], #[.agg #[.int .u64 0, .int .i64 0, .slice none 0 0, .int .i64 0], .int .i64 0], []⟩ 8 (by kernel_rfl) (by kernel_rfl) (by kernel_rfl) (by kernel_rfl)) ?_
  intro W base args ds gs before hval0 hW hcnd _
  have hval : ∀ (j : Nat) t v, Try.f3.params[j]? = some t → args[j]? = some v → Value.okWide Try.prog W .any base t v := hval0
  have hW' := hW
  obtain ⟨p, q, hA0, hV, rfl, hfz, hnd⟩ := hW
  have hA : DataW.TrodAll enc Try.prog W 0 (fun _ => true) true Try.f3.params.toList args.toList ds p := hA0
  rw [Try.params3] at hA hval
  obtain ⟨v0, vs0, d0, ds0, p0, q0, hargs, rfl, rfl, h0, r0⟩ := trodAll_cons hA
  obtain ⟨v1, vs1, d1, ds1, p1, q1, rfl, rfl, rfl, h1, r1⟩ := trodAll_cons r0
  obtain ⟨rfl, rfl, rfl⟩ := trodAll_nil r1
  obtain rfl : args = #[v0, v1] := by cases args; simp_all
  obtain ⟨rfl, rfl⟩ := trodVars_none hV
  have k0 := h0
  have lt0 : ∀ x ∈ p0, x.block < W.heap.size := by obtain ⟨m, hm⟩ := k0; exact DataW.trod_lt m _ _ _ hm
  obtain ⟨i0, rfl, w0⟩ := open_in (hval 0 25 v0 rfl rfl) h0
  obtain ⟨a1, rfl, rfl, rfl, w1⟩ := open_int Try.underlying3 (hval 1 3 v1 rfl rfl) h1
  clear hA0 hval0
  refine (walk i0 a1 W w0 w1).mono fun e W' ⟨he, bel⟩ => ?_
  subst he
  exact ⟨_, rfl, _, _, _, [], _, [], hW', trodAll_mk1 (shut_bool Try.underlying4 _), (trodAll_cons_mk (Below.trod laidOut (by kernel_rfl) (of_decide_eq_true (by kernel_rfl)) k0 bel lt0) (trodAll_cons_mk (shut_int Try.underlying3 w1) trodAll_mk0)), rfl, bel.frame _, fun h => by cases h⟩

theorem over : Rows.confRightRow.holds Try.pinned (OpenSpec.ofChange Rows.confRightSpec) :=
  OpenClaim.holds_of_wide 3 Try.f3 rfl rfl rfl rfl rfl rfl rfl ⟨rfl, rfl, rfl, rfl, rfl⟩ rfl rfl rfl rfl rfl (by kernel_rfl) Try.func3 (by kernel_rfl)
    (of_decide_eq_true (by kernel_rfl)) (by unfold Func.isWrapper; first | (rw [if_pos (by decide +kernel)]; kernel_rfl) | (rw [if_neg (by decide +kernel)]; exact ⟨rfl, rfl⟩))
    (fun os started H enc _ => lifted os started H enc)
end Go.Proofs.Ytgpjplpfjghcgaa.confRight
namespace Go.Proofs.Ytgpjplpfjghcgaa
theorem confRight_holds : Rows.ConfRightSaid := confRight.over
#print axioms confRight_holds
end Go.Proofs.Ytgpjplpfjghcgaa
