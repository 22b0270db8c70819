/-
  Whatever configuration, kind of change, number and epoch come in, sautoirlaw16.ConfTurns returns true, and leaves its arguments as they were.
-/
import Derived.Test.YtgpjplpfjghcgaaRows
import Derived.Test.YtgpjplpfjghcgaaCoG
import Derived.Test.YtgpjplpfjghcgaaCoJ
import Derived.Test.YtgpjplpfjghcgaaCoQ
import Derived.Test.YtgpjplpfjghcgaaCoU
import Derived.Test.YtgpjplpfjghcgaaCoTA
import Derived.Test.YtgpjplpfjghcgaaCoS
import Derived.WalkKit
import Derived.ProofKit
import Derived.OpenShut
import Derived.ShutString
import Derived.ChangeOld
import Derived.Below
namespace Go.Proofs.Ytgpjplpfjghcgaa.confTurns
open Go.ChangeShapes Go.WideShapes Go.ChangeAt Go.RowKit
open Go.ChangeMaps (open_string shut_string)
set_option linter.unusedSimpArgs false
set_option linter.unusedVariables false

theorem own : ownKnob Try.prog.godebug = none := by kernel_rfl
theorem laidOut : laidOutB Try.prog = true := by kernel_rfl

/-! The law returns true, and writes nothing that was there. -/
set_option maxRecDepth 100000 in
set_option maxHeartbeats 40000000 in
theorem walk (i0 : In) (a1 : Int) (a2 : Int) (a3 : Int) (w : World) (w0 : i0.ok w) (w1 : (Lit.int .i64 a1).wf = true) (w2 : (Lit.int .i64 a2).wf = true) (w3 : (Lit.int .u64 a3).wf = true) :
    Calls Try.prog 4 #[inv i0, .int .i64 a1, .int .i64 a2, .int .u64 a3] w fun e w' => e = .returned (.bool true) ∧ Below w.heap.size w w' := by
  obtain ⟨ep, sh, a, n, c, M, le⟩ := i0
  obtain ⟨e0, rfl⟩ : ∃ e0 : Nat, a3 = (e0 : Int) := ⟨a3.toNat, by have := bounds_u64 w3; omega⟩
  clear w1 w2 w3
  have HM : Hid (Mems w a n M) := w0.mems
  clear w0
  have hb0 : Below w.heap.size w (w.alloc (.cells #[.int .u64 (ep : Nat), .int .i64 sh, .slice a n c, .int .i64 le] 25)) := (Below.refl _ _).alloc (Nat.le_refl _) _
  have hcall := ours_any ep sh le a n c M _ (HM.out.later hb0)
  go_enter Try.func4, Try.ntmps4
  go_wp2_with fail
  generalize w.alloc (.cells #[.int .u64 (ep : Nat), .int .i64 sh, .slice a n c, .int .i64 le] 25) = w0 at *
  refine hcall.mono ?_
  clear hcall
  rintro e w1 ⟨⟨v1, rfl, hv1⟩, hb1⟩
  have HLE : (inC ep sh n M le).l.length ≤ 10 := by simp [inC, fewM_length]; omega
  generalize inC ep sh n M le = cc at hv1 HLE
  obtain ⟨ep', sh', l, le'⟩ := cc
  simp only at HLE
  obtain ⟨a1', c1', b1', d1', rfl, hA, hB, -⟩ := hv1.read
  simp only at hA hB
  have HC1 : Cfr w1 (.agg (carr ep' sh' (.slice a1' l.length c1') (.slice b1' l.length d1') le')) ⟨ep', sh', l, le'⟩ := ⟨_, _, _, _, rfl, hA, hB, by show l.length ≤ 100000; omega⟩
  clear hA hB hv1
  generalize hn' : l.length = n' at *
  have HLN : Hid (l.length = n') := hn'
  clear hn'
  have hb2 : Below w1.heap.size w1 (w1.alloc (.cells (carr ep' sh' (.slice a1' n' c1') (.slice b1' n' d1') le') 29)) := (Below.refl _ _).alloc (Nat.le_refl _) _
  have ho2 := heap_alloc_new w1 (.cells (carr ep' sh' (.slice a1' n' c1') (.slice b1' n' d1') le') 29)
  go_upto_region 2 with fail
  generalize w1.alloc (.cells (carr ep' sh' (.slice a1' n' c1') (.slice b1' n' d1') le') 29) = w2 at *
  have HO2 : Hid (w2.heap[w1.heap.size]? = some (.cells (carr ep' sh' (.slice a1' n' c1') (.slice b1' n' d1') le') 29)) := ho2
  have HC2 : Hid (Cfr w2 (.agg (carr ep' sh' (.slice a1' n' c1') (.slice b1' n' d1') le')) ⟨ep', sh', l, le'⟩) := HC1.later hb2
  have HB2 : Hid (Below w.heap.size w w2) := hb0.trans ((hb1.mono hb0.size).trans (hb2.mono (by have := hb1.size; have := hb0.size; omega)))
  clear hb0 hb1 hb2 ho2 HC1
  generalize w1.heap.size = p5 at *
  have HS : Hid (∀ w', Below w2.heap.size w2 w' → (fun w' => w'.cell? ⟨p5, 0, none⟩ = some (.int .u64 (ep' : Nat)) ∧ w'.cell? ⟨p5, 1, none⟩ = some (.int .i64 sh') ∧ w'.cell? ⟨p5, 2, none⟩ = some (.slice a1' n' c1') ∧ w'.cell? ⟨p5, 3, none⟩ = some (.slice b1' n' d1') ∧ w'.cell? ⟨p5, 4, none⟩ = some (.int .i64 le')) w') := fun w' hb => five_cells (heap_kept HO2.out hb)
  have hd0 : Below w2.heap.size w2 w2.drew := (Below.refl _ _).drew
  obtain ⟨rr, hrr⟩ : ∃ rr, rr = turnC ⟨ep', sh', l, le'⟩ a1 a2 e0 := ⟨_, rfl⟩
  have HRR : Hid (turnC ⟨ep', sh', l, le'⟩ a1 a2 e0 = rr) := hrr.symm
  have HRL0 : rr.1.l.length ≤ 100 := by rw [hrr]; have := turn_len ⟨ep', sh', l, le'⟩ a1 a2 e0; simp only at this; rw [HLN.out] at this; omega
  clear hrr
  obtain ⟨⟨re, rs, rl, rle⟩, rn⟩ := rr
  simp only at HRL0
  generalize hm : rl.length = m at *
  have HRLN : Hid (rl.length = m) := hm
  clear hm
  refine wp_region_noPanic ?_
  refine wp_region_held_drew (S := fun w' => w'.cell? ⟨p5, 0, none⟩ = some (.int .u64 (ep' : Nat)) ∧ w'.cell? ⟨p5, 1, none⟩ = some (.int .i64 sh') ∧ w'.cell? ⟨p5, 2, none⟩ = some (.slice a1' n' c1') ∧ w'.cell? ⟨p5, 3, none⟩ = some (.slice b1' n' d1') ∧ w'.cell? ⟨p5, 4, none⟩ = some (.int .i64 le')) (by kernel_rfl) ?_ (fun hHeld => ?_)
  · exact HS.out _ hd0
  refine held_take (i := 0) (d := 17) (v := ?_) rfl rfl (by kernel_rfl) (by kernel_rfl) (by kernel_rfl) (fun _ _ _ h => h) (Or.inl ⟨by rfl, ?_⟩) hHeld ?_
  rotate_left
  · (intro w hSw; (try dsimp only at hSw); go_simp; all_goals (with_reducible rfl))
  try simp only [Act.put, List.setIfInBounds_toArray, List.set_cons_zero, List.set_cons_succ]
  refine held_take (i := 1) (d := 18) (v := ?_) rfl rfl (by kernel_rfl) (by kernel_rfl) (by kernel_rfl) (fun _ _ _ h => h) (Or.inl ⟨by rfl, ?_⟩) hHeld ?_
  rotate_left
  · (intro w hSw; (try dsimp only at hSw); go_simp; all_goals (with_reducible rfl))
  try simp only [Act.put, List.setIfInBounds_toArray, List.set_cons_zero, List.set_cons_succ]
  refine held_take (i := 3) (d := 20) (v := ?_) rfl rfl (by kernel_rfl) (by kernel_rfl) (by kernel_rfl) (fun _ _ _ h => h) (Or.inl ⟨by rfl, ?_⟩) hHeld ?_
  rotate_left
  · (intro w hSw; (try dsimp only at hSw); go_simp; all_goals (with_reducible rfl))
  try simp only [Act.put, List.setIfInBounds_toArray, List.set_cons_zero, List.set_cons_succ]
  refine held_take (i := 4) (d := 21) (v := ?_) rfl rfl (by kernel_rfl) (by kernel_rfl) (by kernel_rfl) (fun _ _ _ h => h) (Or.inl ⟨by rfl, ?_⟩) hHeld ?_
  rotate_left
  · (intro w hSw; (try dsimp only at hSw); go_simp; all_goals (with_reducible rfl))
  try simp only [Act.put, List.setIfInBounds_toArray, List.set_cons_zero, List.set_cons_succ]
  refine held_take (i := 5) (d := 22) (v := ?_) rfl rfl (by kernel_rfl) (by kernel_rfl) (by kernel_rfl) (fun _ _ _ h => h) (Or.inl ⟨by rfl, ?_⟩) hHeld ?_
  rotate_left
  · (intro w hSw; (try dsimp only at hSw); go_simp; all_goals (with_reducible rfl))
  try simp only [Act.put, List.setIfInBounds_toArray, List.set_cons_zero, List.set_cons_succ]
  refine held_inv (fun nn ll aa w' => ∃ (l2 l6 l12 l13 : Bool) (v10 v12 v19 v23 : Value) (ai ab am aq : Option Addr) (ci cb cm cq : Nat), nn + l2.toNat + l6.toNat + l12.toNat + l13.toNat = 13 ∧ ll = #[true, true, l2, true, true, true, l6, false, false, false, false, false, l12, l13, false, false, false, false] ∧ aa = { tmps := #[inv ⟨ep, sh, a, n, c, M, le⟩, .int .i64 a1, .int .i64 a2, .int .u64 (e0 : Nat), .pointer (some ⟨w.heap.size, 0, none⟩), undef, undef, undef, .bool false, .pointer (some ⟨p5, 0, none⟩), v10, undef, v12, undef, .agg #[.int .u64 (ep : Nat), .int .i64 sh, .slice a n c, .int .i64 le], (.agg #[.int .u64 (ep' : Nat), .int .i64 sh', .slice a1' n' c1', .slice b1' n' d1', .int .i64 le']), undef, (.agg #[.int .u64 (ep' : Nat), .int .i64 sh', .slice a1' n' c1', .slice b1' n' d1', .int .i64 le']), (.agg #[.int .u64 (ep' : Nat), .int .i64 sh', .slice a1' n' c1', .slice b1' n' d1', .int .i64 le']), v19, .int .i64 a1, .int .i64 a2, .int .u64 (e0 : Nat), v23, undef, undef, undef, undef, undef, undef, undef, undef, undef, undef, undef, undef, undef, undef, undef, undef, undef, undef, undef, undef, undef, undef, undef, undef, undef], defers := [] } ∧ (l6 = true → l2 = true) ∧ (l2 = true → v19 = (.agg (rarr ep' sh' (.slice aq n' cq) le')) ∧ Rfr w' (.agg (rarr ep' sh' (.slice aq n' cq) le')) ⟨ep', sh', l, le'⟩) ∧ (l6 = true → v23 = (.tuple #[(.agg (carr re rs (.slice ai m ci) (.slice ab m cb) rle)), .int .i64 rn, (.agg (rarr re rs (.slice am m cm) rle)), .int .i64 rn]) ∧ Cfo w' 0 (.agg (carr re rs (.slice ai m ci) (.slice ab m cb) rle)) ⟨re, rs, rl, rle⟩ ∧ Rfr w' (.agg (rarr re rs (.slice am m cm) rle)) ⟨re, rs, rl, rle⟩) ∧ (Blk w' w2.heap.size (.cells #[.int .u64 0, .int .i64 0, .slice none 0 0, .slice none 0 0, .int .i64 0] 29 (0, 0)) l12 v10) ∧ (Blk w' w2.heap.size (.cells #[.int .u64 0, .int .i64 0, .slice none 0 0, .int .i64 0] 25 (0, 0)) l13 v12) ∧ (Below w2.heap.size w2 w')) ?_ _ _ _ _ ⟨false, false, false, false, undef, undef, undef, undef, none, none, none, none, 0, 0, 0, 0, rfl, by kernel_rfl, rfl, by simp, by simp, by simp, Blk.no _ _ _ _, Blk.no _ _ _ _, hd0⟩
  clear hHeld
  rintro nn ll aa w' ⟨l2, l6, l12, l13, v10, v12, v19, v23, ai, ab, am, aq, ci, cb, cm, cq, hn, rfl, rfl, o62, f2, f6, g12, g13, hbw⟩
  cases l6 with
  | true =>
    left
    obtain rfl := o62 rfl
    obtain ⟨rfl, hA, hU⟩ := f6 rfl
    obtain ⟨rfl, -⟩ := f2 rfl
    have HWW : Hid (Below w2.heap.size w2 w') := hbw
    have HAA : Hid (Cfo w' 0 (.agg (carr re rs (.slice ai m ci) (.slice ab m cb) rle)) ⟨re, rs, rl, rle⟩) := hA
    have HUU : Hid (Rfr w' (.agg (rarr re rs (.slice am m cm) rle)) ⟨re, rs, rl, rle⟩) := hU
    have hHeld := HS.out _ hbw
    clear o62 f2 f6 hA hU hbw
    cases l12 with
    | true =>
      obtain ⟨p10, rfl, b10, s10⟩ := g12 rfl
      have HB10 : Hid (w'.heap[p10]? = some (.cells #[.int .u64 0, .int .i64 0, .slice none 0 0, .slice none 0 0, .int .i64 0] 29 (0, 0))) := b10
      clear b10 g12
      cases l13 with
      | true =>
        obtain ⟨p12, rfl, b12, s12⟩ := g13 rfl
        have HB12 : Hid (w'.heap[p12]? = some (.cells #[.int .u64 0, .int .i64 0, .slice none 0 0, .int .i64 0] 25 (0, 0))) := b12
        clear b12 g13
        obtain rfl : nn = 9 := by simpa using hn
        refine held_take (i := 7) (d := 16) (v := ?_) rfl rfl (by kernel_rfl) (by kernel_rfl) (by kernel_rfl) (fun _ _ _ h => h) (Or.inl ⟨by rfl, ?_⟩) hHeld ?_
        rotate_left
        · (intro w hSw; (try dsimp only at hSw); go_simp; all_goals (with_reducible rfl))
        try simp only [Act.put, List.setIfInBounds_toArray, List.set_cons_zero, List.set_cons_succ]
        refine held_take (i := 8) (d := 24) (v := ?_) rfl rfl (by kernel_rfl) (by kernel_rfl) (by kernel_rfl) (fun _ _ _ h => h) (Or.inl ⟨by rfl, ?_⟩) hHeld ?_
        rotate_left
        · (intro w hSw; (try dsimp only at hSw); go_simp; all_goals (with_reducible rfl))
        try simp only [Act.put, List.setIfInBounds_toArray, List.set_cons_zero, List.set_cons_succ]
        refine held_take (i := 9) (d := 25) (v := ?_) rfl rfl (by kernel_rfl) (by kernel_rfl) (by kernel_rfl) (fun _ _ _ h => h) (Or.inl ⟨by rfl, ?_⟩) hHeld ?_
        rotate_left
        · (intro w hSw; (try dsimp only at hSw); go_simp; all_goals (with_reducible rfl))
        try simp only [Act.put, List.setIfInBounds_toArray, List.set_cons_zero, List.set_cons_succ]
        refine held_take (i := 10) (d := 26) (v := ?_) rfl rfl (by kernel_rfl) (by kernel_rfl) (by kernel_rfl) (fun _ _ _ h => h) (Or.inl ⟨by rfl, ?_⟩) hHeld ?_
        rotate_left
        · (intro w hSw; (try dsimp only at hSw); go_simp; all_goals (with_reducible rfl))
        try simp only [Act.put, List.setIfInBounds_toArray, List.set_cons_zero, List.set_cons_succ]
        refine held_take (i := 11) (d := 27) (v := ?_) rfl rfl (by kernel_rfl) (by kernel_rfl) (by kernel_rfl) (fun _ _ _ h => h) (Or.inl ⟨by rfl, ?_⟩) hHeld ?_
        rotate_left
        · (intro w hSw; (try dsimp only at hSw); go_simp; all_goals (with_reducible rfl))
        try simp only [Act.put, List.setIfInBounds_toArray, List.set_cons_zero, List.set_cons_succ]
        have HNE : Hid (p12 ≠ p10) := block_ne (tagOf_heap HB12.out) (tagOf_heap HB10.out) (by decide)
        obtain ⟨z0, z1, z2, z3, z4⟩ := five_cells HB10.out
        obtain ⟨g0, g1, g2, g3, g4⟩ := five_frozen HB10.out
        have HF5 : Hid ((put5 w' p10 (.int .u64 (re : Nat)) (.int .i64 rs) (.slice ai m ci) (.slice ab m cb) (.int .i64 rle)).heap[p10]? = some (.cells (carr re rs (.slice ai m ci) (.slice ab m cb) rle) 29)) := five_put HB10.out
        have HT5 : Hid ((put5 w' p10 (.int .u64 (re : Nat)) (.int .i64 rs) (.slice ai m ci) (.slice ab m cb) (.int .i64 rle)).heap[p12]? = some (.cells #[.int .u64 0, .int .i64 0, .slice none 0 0, .int .i64 0] 25 (0, 0))) := (put5_other _ _ _ _ _ HNE.out).trans HB12.out
        have HB5 : Hid (Below w2.heap.size w2 (put5 w' p10 (.int .u64 (re : Nat)) (.int .i64 rs) (.slice ai m ci) (.slice ab m cb) (.int .i64 rle))) := below_put5 HWW.out s10 _ _ _ _ _
        have HK5 : Hid (∀ k, k ≠ p10 → (put5 w' p10 (.int .u64 (re : Nat)) (.int .i64 rs) (.slice ai m ci) (.slice ab m cb) (.int .i64 rle)).heap[k]? = w'.heap[k]?) := fun k hk => put5_other _ _ _ _ _ hk
        unfold put5 at HF5 HT5 HB5 HK5
        refine wpAnyH_ready (rs := [14]) (by kernel_rfl) (by simp) ?_
        refine AllReadyH.cons rfl (fun K hK => ?_) AllReadyH.nil
        go_simp
        refine hK.out _ _ (HS.out _ HB5.out) (fun hHeld => ?_)
        clear hK K hHeld
        try simp only [Act.put, List.setIfInBounds_toArray, List.set_cons_zero, List.set_cons_succ]
        generalize (((((w'.setCell ⟨p10, 0, none⟩ (.int .u64 (re : Nat))).setCell ⟨p10, 1, none⟩ (.int .i64 rs)).setCell ⟨p10, 2, none⟩ (.slice ai m ci)).setCell ⟨p10, 3, none⟩ (.slice ab m cb)).setCell ⟨p10, 4, none⟩ (.int .i64 rle)) = w9 at *
        clear z0 z1 z2 z3 z4 g0 g1 g2 g3 g4
        refine wpAnyH_ready (rs := [15]) (by kernel_rfl) (by simp) ?_
        refine AllReadyH.cons rfl (fun K hK => ?_) AllReadyH.nil
        go_simp
        refine hK.out _ _ (HS.out _ HB5.out) (fun hHeld => ?_)
        clear hK K hHeld
        try simp only [Act.put, List.setIfInBounds_toArray, List.set_cons_zero, List.set_cons_succ]
        obtain ⟨z0, z1, z2, z3⟩ := four_cells HT5.out
        obtain ⟨g0, g1, g2, g3⟩ := four_frozen HT5.out
        have HF4 : Hid ((put4 w9 p12 (.int .u64 (re : Nat)) (.int .i64 rs) (.slice am m cm) (.int .i64 rle)).heap[p12]? = some (.cells (rarr re rs (.slice am m cm) rle) 25)) := four_put HT5.out
        have HF6 : Hid ((put4 w9 p12 (.int .u64 (re : Nat)) (.int .i64 rs) (.slice am m cm) (.int .i64 rle)).heap[p10]? = some (.cells (carr re rs (.slice ai m ci) (.slice ab m cb) rle) 29)) := (put4_other _ _ _ _ (fun e => HNE.out e.symm)).trans HF5.out
        have HB6 : Hid (Below w2.heap.size w2 (put4 w9 p12 (.int .u64 (re : Nat)) (.int .i64 rs) (.slice am m cm) (.int .i64 rle))) := below_put4 HB5.out s12 _ _ _ _
        have HK6 : Hid (∀ k, k ≠ p10 → k ≠ p12 → (put4 w9 p12 (.int .u64 (re : Nat)) (.int .i64 rs) (.slice am m cm) (.int .i64 rle)).heap[k]? = w'.heap[k]?) := fun k h1 h2 => (put4_other _ _ _ _ h2).trans (HK5.out k h1)
        unfold put4 at HF4 HF6 HB6 HK6
        refine wpAnyH_ready (rs := [16]) (by kernel_rfl) (by simp) ?_
        refine AllReadyH.cons rfl (fun K hK => ?_) AllReadyH.nil
        go_simp
        refine hK.out _ _ (HS.out _ HB6.out) (fun hHeld => ?_)
        clear hK K hHeld
        try simp only [Act.put, List.setIfInBounds_toArray, List.set_cons_zero, List.set_cons_succ]
        generalize ((((w9.setCell ⟨p12, 0, none⟩ (.int .u64 (re : Nat))).setCell ⟨p12, 1, none⟩ (.int .i64 rs)).setCell ⟨p12, 2, none⟩ (.slice am m cm)).setCell ⟨p12, 3, none⟩ (.int .i64 rle)) = w10 at *
        clear z0 z1 z2 z3 g0 g1 g2 g3
        refine wpAnyH_ready (rs := [17]) (by kernel_rfl) (by simp) ?_
        refine AllReadyH.cons rfl (fun K hK => ?_) AllReadyH.nil
        go_simp
        refine hK.out _ _ (HS.out _ HB6.out) (fun hHeld => ?_)
        clear hK K hHeld
        try simp only [Act.put, List.setIfInBounds_toArray, List.set_cons_zero, List.set_cons_succ]
        refine wpAnyH_done (by kernel_rfl) ?_ _
        refine NoPanic.normal ?_
        have hkk : ∀ k t, tagOf w' k = some t → t ≠ 29 → t ≠ 25 → w10.heap[k]? = w'.heap[k]? := fun k t ht h1 h2 => HK6.out k (tag_ne HB10.out h1 ht) (tag_ne HB12.out h2 ht)
        have HA10 : Hid (Cfr w10 (.agg (carr re rs (.slice ai m ci) (.slice ab m cb) rle)) ⟨re, rs, rl, rle⟩) := by
          obtain ⟨va, vb, e, h1, h2, h3⟩ := HAA.out
          exact Cfo.read ⟨va, vb, e, own_same h1 (fun k _ ht => hkk k 3 ht (by decide) (by decide)), own_same h2 (fun k _ ht => hkk k 4 ht (by decide) (by decide)), h3⟩
        have HU10 : Hid (Rfr w10 (.agg (rarr re rs (.slice am m cm) rle)) ⟨re, rs, rl, rle⟩) := by
          obtain ⟨am', cm', e, hm, h3⟩ := HUU.out
          refine ⟨am', cm', e, ?_, h3⟩
          by_cases h0 : 0 < rl.length
          · obtain ⟨b9, off9, e9, hc⟩ := hm.at h0
            subst e9
            have n1 := hm.ne h0 HB10.out rfl
            have n2 := hm.ne h0 HB12.out rfl
            exact .inr ⟨b9, off9, rfl, fun i m hi => by rw [cell_same (HK6.out b9 n1 n2), cell_same (HK6.out b9 n1 n2)]; exact hc i m hi⟩
          · exact .inl (show rl = [] from List.length_eq_zero_iff.1 (by omega))
        have HB10' : Hid (Below w.heap.size w w10) := HB2.out.trans (HB6.out.mono HB2.out.size)
        clear hkk HK5 HK6 HAA HUU HF5 HT5 HB5 HB10 HB12
        obtain ⟨x0, x1, x2, x3, x4⟩ := five_cells HF6.out
        obtain ⟨y0, y1, y2, y3⟩ := four_cells HF4.out
        have hp := plain_any _ _ _ (HA10.out.later (Below.refl _ w10).drew) (by show rl.length ≤ 900; rw [HRLN.out]; omega)
        have hee : (rn == rn) = true := by simp
        have hmm : ((m : Int) == (m : Int)) = true := by simp
        go_upto_region 3 with fail
        refine wp_region_noPanic ?_
        refine wp_region_held_drew (S := fun w' => (w'.cell? ⟨p10, 0, none⟩ = some (.int .u64 (re : Nat)) ∧ w'.cell? ⟨p10, 1, none⟩ = some (.int .i64 rs) ∧ w'.cell? ⟨p10, 2, none⟩ = some (.slice ai m ci) ∧ w'.cell? ⟨p10, 3, none⟩ = some (.slice ab m cb) ∧ w'.cell? ⟨p10, 4, none⟩ = some (.int .i64 rle)) ∧ (w'.cell? ⟨p12, 0, none⟩ = some (.int .u64 (re : Nat)) ∧ w'.cell? ⟨p12, 1, none⟩ = some (.int .i64 rs) ∧ w'.cell? ⟨p12, 2, none⟩ = some (.slice am m cm) ∧ w'.cell? ⟨p12, 3, none⟩ = some (.int .i64 rle))) (by kernel_rfl) ?_ (fun hHeld => ?_)
        · exact ⟨⟨x0, x1, x2, x3, x4⟩, ⟨y0, y1, y2, y3⟩⟩
        refine held_take (i := 0) (d := 28) (v := ?_) rfl rfl (by kernel_rfl) (by kernel_rfl) (by kernel_rfl) (fun _ _ _ h => h) (Or.inl ⟨by rfl, ?_⟩) hHeld ?_
        rotate_left
        · (intro w hSw; (try dsimp only at hSw); go_simp; all_goals (with_reducible rfl))
        try simp only [Act.put, List.setIfInBounds_toArray, List.set_cons_zero, List.set_cons_succ]
        refine held_take (i := 1) (d := 29) (v := ?_) rfl rfl (by kernel_rfl) (by kernel_rfl) (by kernel_rfl) (fun _ _ _ h => h) (Or.inl ⟨by rfl, ?_⟩) hHeld ?_
        rotate_left
        · (intro w hSw; (try dsimp only at hSw); go_simp; all_goals (with_reducible rfl))
        try simp only [Act.put, List.setIfInBounds_toArray, List.set_cons_zero, List.set_cons_succ]
        refine held_take (i := 2) (d := 30) (v := ?_) rfl rfl (by kernel_rfl) (by kernel_rfl) (by kernel_rfl) (fun _ _ _ h => h) (Or.inl ⟨by rfl, ?_⟩) hHeld ?_
        rotate_left
        · (intro w hSw; (try dsimp only at hSw); go_simp; all_goals (with_reducible rfl))
        try simp only [Act.put, List.setIfInBounds_toArray, List.set_cons_zero, List.set_cons_succ]
        refine held_take (i := 3) (d := 31) (v := ?_) rfl rfl (by kernel_rfl) (by kernel_rfl) (by kernel_rfl) (fun _ _ _ h => h) (Or.inl ⟨by rfl, ?_⟩) hHeld ?_
        rotate_left
        · (intro w hSw; (try dsimp only at hSw); go_simp; all_goals (with_reducible rfl))
        try simp only [Act.put, List.setIfInBounds_toArray, List.set_cons_zero, List.set_cons_succ]
        refine held_take (i := 4) (d := 32) (v := ?_) rfl rfl (by kernel_rfl) (by kernel_rfl) (by kernel_rfl) (fun _ _ _ h => h) (Or.inl ⟨by rfl, ?_⟩) hHeld ?_
        rotate_left
        · (intro w hSw; (try dsimp only at hSw); go_simp; all_goals (with_reducible rfl))
        try simp only [Act.put, List.setIfInBounds_toArray, List.set_cons_zero, List.set_cons_succ]
        refine held_take (i := 6) (d := 34) (v := ?_) rfl rfl (by kernel_rfl) (by kernel_rfl) (by kernel_rfl) (fun _ _ _ h => h) (Or.inl ⟨by rfl, ?_⟩) hHeld ?_
        rotate_left
        · (intro w hSw; (try dsimp only at hSw); go_simp; all_goals (with_reducible rfl))
        try simp only [Act.put, List.setIfInBounds_toArray, List.set_cons_zero, List.set_cons_succ]
        refine wpAnyH_ready (rs := [5]) (by kernel_rfl) (by simp) ?_
        refine AllReadyH.cons rfl (fun K hK => ?_) AllReadyH.nil
        go_simp
        refine hp.mono ?_
        rintro e w11 ⟨⟨vp, rfl, hvp⟩, hb11⟩
        have b11 : Below w10.heap.size w10 w11 := (Below.refl _ w10).drew.trans hb11
        have HP11 : Hid (Rfr w11 vp ⟨re, rs, rl, rle⟩) := hvp.read
        obtain ⟨apx, cpx, rfl, hmp, -⟩ := hvp.read
        simp only at hmp ⊢
        rw [HRLN.out]
        have HR11 : Hid (Rfr w11 (.agg (rarr re rs (.slice apx m cpx) rle)) ⟨re, rs, rl, rle⟩) := ⟨apx, cpx, by rw [HRLN.out], hmp, by show rl.length ≤ 100000; rw [HRLN.out]; omega⟩
        have f11 := heap_kept HF6.out b11
        have t11 := heap_kept HF4.out b11
        have hs := rsame_any _ _ _ _ HR11.out (HU10.out.later b11)
        have HB11 : Hid (Below w.heap.size w w11) := HB10'.out.trans (b11.mono HB10'.out.size)
        go_wp2_with fail
        refine hK.out _ _ ?_ (fun hHeld => ?_)
        · exact ⟨five_cells f11, four_cells t11⟩
        clear hK K
        try simp only [Act.put, List.setIfInBounds_toArray, List.set_cons_zero, List.set_cons_succ]
        refine wpAnyH_ready (rs := [7]) (by kernel_rfl) (by simp) ?_
        refine AllReadyH.cons rfl (fun K hK => ?_) AllReadyH.nil
        go_simp
        refine hs.mono ?_
        rintro e w12 ⟨rfl, hb12⟩
        have f12 := heap_kept f11 hb12
        have t12 := heap_kept t11 hb12
        have HB12' : Hid (Below w.heap.size w w12) := HB11.out.trans (hb12.mono HB11.out.size)
        go_wp2_with fail
        refine hK.out _ _ ?_ (fun hHeld => ?_)
        · exact ⟨five_cells f12, four_cells t12⟩
        clear hK K
        try simp only [Act.put, List.setIfInBounds_toArray, List.set_cons_zero, List.set_cons_succ]
        refine held_take (i := 8) (d := 36) (v := ?_) rfl rfl (by kernel_rfl) (by kernel_rfl) (by kernel_rfl) (fun _ _ _ h => h) (Or.inl ⟨by rfl, ?_⟩) hHeld ?_
        rotate_left
        · (intro w hSw; (try dsimp only at hSw); go_simp; all_goals (with_reducible rfl))
        try simp only [Act.put, List.setIfInBounds_toArray, List.set_cons_zero, List.set_cons_succ]
        refine held_take (i := 9) (d := 37) (v := ?_) rfl rfl (by kernel_rfl) (by kernel_rfl) (by kernel_rfl) (fun _ _ _ h => h) (Or.inl ⟨by rfl, ?_⟩) hHeld ?_
        rotate_left
        · (intro w hSw; (try dsimp only at hSw); go_simp; all_goals (with_reducible rfl))
        try simp only [Act.put, List.setIfInBounds_toArray, List.set_cons_zero, List.set_cons_succ]
        refine held_take (i := 10) (d := 38) (v := ?_) rfl rfl (by kernel_rfl) (by kernel_rfl) (by kernel_rfl) (fun _ _ _ h => h) (Or.inl ⟨by rfl, ?_⟩) hHeld ?_
        rotate_left
        · (intro w hSw; (try dsimp only at hSw); go_simp; all_goals (with_reducible rfl))
        try simp only [Act.put, List.setIfInBounds_toArray, List.set_cons_zero, List.set_cons_succ]
        refine held_take (i := 11) (d := 39) (v := ?_) rfl rfl (by kernel_rfl) (by kernel_rfl) (by kernel_rfl) (fun _ _ _ h => h) (Or.inl ⟨by rfl, ?_⟩) hHeld ?_
        rotate_left
        · (intro w hSw; (try dsimp only at hSw); go_simp; all_goals (with_reducible rfl))
        try simp only [Act.put, List.setIfInBounds_toArray, List.set_cons_zero, List.set_cons_succ]
        refine held_take (i := 12) (d := 40) (v := ?_) rfl rfl (by kernel_rfl) (by kernel_rfl) (by kernel_rfl) (fun _ _ _ h => h) (Or.inl ⟨by rfl, ?_⟩) hHeld ?_
        rotate_left
        · (intro w hSw; (try dsimp only at hSw); go_simp; all_goals (with_reducible rfl))
        try simp only [Act.put, List.setIfInBounds_toArray, List.set_cons_zero, List.set_cons_succ]
        refine held_take (i := 13) (d := 41) (v := ?_) rfl rfl (by kernel_rfl) (by kernel_rfl) (by kernel_rfl) (fun _ _ _ h => h) (Or.inl ⟨by rfl, ?_⟩) hHeld ?_
        rotate_left
        · (intro w hSw; (try dsimp only at hSw); go_simp; all_goals (with_reducible rfl))
        try simp only [Act.put, List.setIfInBounds_toArray, List.set_cons_zero, List.set_cons_succ]
        refine held_take (i := 14) (d := 42) (v := ?_) rfl rfl (by kernel_rfl) (by kernel_rfl) (by kernel_rfl) (fun _ _ _ h => h) (Or.inl ⟨by rfl, ?_⟩) hHeld ?_
        rotate_left
        · (intro w hSw; (try dsimp only at hSw); go_simp; all_goals (with_reducible rfl))
        try simp only [Act.put, List.setIfInBounds_toArray, List.set_cons_zero, List.set_cons_succ]
        refine held_take (i := 15) (d := 43) (v := ?_) rfl rfl (by kernel_rfl) (by kernel_rfl) (by kernel_rfl) (fun _ _ _ h => h) (Or.inl ⟨by rfl, ?_⟩) hHeld ?_
        rotate_left
        · (intro w hSw; (try dsimp only at hSw); go_simp; all_goals (with_reducible rfl))
        try simp only [Act.put, List.setIfInBounds_toArray, List.set_cons_zero, List.set_cons_succ]
        refine held_take (i := 16) (d := 44) (v := ?_) rfl rfl (by kernel_rfl) (by kernel_rfl) (by kernel_rfl) (fun _ _ _ h => h) (Or.inl ⟨by rfl, ?_⟩) hHeld ?_
        rotate_left
        · (intro w hSw; (try dsimp only at hSw); go_simp; all_goals (with_reducible rfl))
        try simp only [Act.put, List.setIfInBounds_toArray, List.set_cons_zero, List.set_cons_succ]
        refine held_take (i := 17) (d := 45) (v := ?_) rfl rfl (by kernel_rfl) (by kernel_rfl) (by kernel_rfl) (fun _ _ _ h => h) (Or.inl ⟨by rfl, ?_⟩) hHeld ?_
        rotate_left
        · (intro w hSw; (try dsimp only at hSw); go_simp; all_goals (with_reducible rfl))
        try simp only [Act.put, List.setIfInBounds_toArray, List.set_cons_zero, List.set_cons_succ]
        refine held_take (i := 18) (d := 46) (v := ?_) rfl rfl (by kernel_rfl) (by kernel_rfl) (by kernel_rfl) (fun _ _ _ h => h) (Or.inl ⟨by rfl, ?_⟩) hHeld ?_
        rotate_left
        · (intro w hSw; (try dsimp only at hSw); go_simp; all_goals (with_reducible rfl))
        try simp only [Act.put, List.setIfInBounds_toArray, List.set_cons_zero, List.set_cons_succ]
        refine wpAnyH_ready (rs := [19]) (by kernel_rfl) (by simp) ?_
        refine AllReadyH.cons rfl (fun K hK => ?_) AllReadyH.nil
        go_simp
        refine (awake_any w12).mono ?_
        rintro e w13 ⟨rfl, hb13⟩
        have f13 := heap_kept f12 hb13
        have t13 := heap_kept t12 hb13
        have HB13 : Hid (Below w.heap.size w w13) := HB12'.out.trans (hb13.mono HB12'.out.size)
        go_wp2_with fail
        refine hK.out _ _ ?_ (fun hHeld => ?_)
        · exact ⟨five_cells f13, four_cells t13⟩
        clear hK K
        try simp only [Act.put, List.setIfInBounds_toArray, List.set_cons_zero, List.set_cons_succ]
        refine held_take (i := 20) (d := 48) (v := ?_) rfl rfl (by kernel_rfl) (by kernel_rfl) (by kernel_rfl) (fun _ _ _ h => h) (Or.inl ⟨by rfl, ?_⟩) hHeld ?_
        rotate_left
        · (intro w hSw; (try dsimp only at hSw); go_simp; all_goals (with_reducible rfl))
        try simp only [Act.put, List.setIfInBounds_toArray, List.set_cons_zero, List.set_cons_succ]
        refine held_take (i := 21) (d := 8) (v := ?_) rfl rfl (by kernel_rfl) (by kernel_rfl) (by kernel_rfl) (fun _ _ _ h => h) (Or.inl ⟨by rfl, ?_⟩) hHeld ?_
        rotate_left
        · (intro w hSw; (try dsimp only at hSw); go_simp; all_goals (with_reducible rfl))
        try simp only [Act.put, List.setIfInBounds_toArray, List.set_cons_zero, List.set_cons_succ]
        refine wpAnyH_done (by kernel_rfl) ?_ _
        refine NoPanic.normal ?_
        go_wp2
        go_ret
        exact ⟨rfl, HB13.out⟩
      | false =>
        obtain rfl : nn = 10 := by simpa using hn
        clear g13
        refine held_take (i := 7) (d := 16) (v := ?_) rfl rfl (by kernel_rfl) (by kernel_rfl) (by kernel_rfl) (fun _ _ _ h => h) (Or.inl ⟨by rfl, ?_⟩) hHeld ?_
        rotate_left
        · (intro w hSw; (try dsimp only at hSw); go_simp; all_goals (with_reducible rfl))
        try simp only [Act.put, List.setIfInBounds_toArray, List.set_cons_zero, List.set_cons_succ]
        refine held_take (i := 8) (d := 24) (v := ?_) rfl rfl (by kernel_rfl) (by kernel_rfl) (by kernel_rfl) (fun _ _ _ h => h) (Or.inl ⟨by rfl, ?_⟩) hHeld ?_
        rotate_left
        · (intro w hSw; (try dsimp only at hSw); go_simp; all_goals (with_reducible rfl))
        try simp only [Act.put, List.setIfInBounds_toArray, List.set_cons_zero, List.set_cons_succ]
        refine held_take (i := 9) (d := 25) (v := ?_) rfl rfl (by kernel_rfl) (by kernel_rfl) (by kernel_rfl) (fun _ _ _ h => h) (Or.inl ⟨by rfl, ?_⟩) hHeld ?_
        rotate_left
        · (intro w hSw; (try dsimp only at hSw); go_simp; all_goals (with_reducible rfl))
        try simp only [Act.put, List.setIfInBounds_toArray, List.set_cons_zero, List.set_cons_succ]
        refine held_take (i := 10) (d := 26) (v := ?_) rfl rfl (by kernel_rfl) (by kernel_rfl) (by kernel_rfl) (fun _ _ _ h => h) (Or.inl ⟨by rfl, ?_⟩) hHeld ?_
        rotate_left
        · (intro w hSw; (try dsimp only at hSw); go_simp; all_goals (with_reducible rfl))
        try simp only [Act.put, List.setIfInBounds_toArray, List.set_cons_zero, List.set_cons_succ]
        refine held_take (i := 11) (d := 27) (v := ?_) rfl rfl (by kernel_rfl) (by kernel_rfl) (by kernel_rfl) (fun _ _ _ h => h) (Or.inl ⟨by rfl, ?_⟩) hHeld ?_
        rotate_left
        · (intro w hSw; (try dsimp only at hSw); go_simp; all_goals (with_reducible rfl))
        try simp only [Act.put, List.setIfInBounds_toArray, List.set_cons_zero, List.set_cons_succ]
        refine wpAnyH_ready (rs := [13]) (by kernel_rfl) (by simp) ?_
        refine AllReadyH.cons rfl (fun K hK => ?_) AllReadyH.nil
        have hba : Below w'.heap.size w' (w'.alloc (.cells #[.int .u64 0, .int .i64 0, .slice none 0 0, .int .i64 0] 25 (0, 0))) := (Below.refl _ _).alloc (Nat.le_refl _) _
        have HWX : Hid (Below w2.heap.size w2 (w'.alloc (.cells #[.int .u64 0, .int .i64 0, .slice none 0 0, .int .i64 0] 25 (0, 0)))) := HWW.out.trans (hba.mono HWW.out.size)
        have HAX : Hid (Cfo (w'.alloc (.cells #[.int .u64 0, .int .i64 0, .slice none 0 0, .int .i64 0] 25 (0, 0))) 0 (.agg (carr re rs (.slice ai m ci) (.slice ab m cb) rle)) ⟨re, rs, rl, rle⟩) := HAA.out.later hba
        have HUX : Hid (Rfr (w'.alloc (.cells #[.int .u64 0, .int .i64 0, .slice none 0 0, .int .i64 0] 25 (0, 0))) (.agg (rarr re rs (.slice am m cm) rle)) ⟨re, rs, rl, rle⟩) := HUU.out.later hba
        have HB12 : Hid ((w'.alloc (.cells #[.int .u64 0, .int .i64 0, .slice none 0 0, .int .i64 0] 25 (0, 0))).heap[w'.heap.size]? = some (.cells #[.int .u64 0, .int .i64 0, .slice none 0 0, .int .i64 0] 25 (0, 0))) := heap_alloc_new _ _
        have hsp : Hid (w2.heap.size ≤ w'.heap.size) := HWW.out.size
        have HB10X : Hid ((w'.alloc (.cells #[.int .u64 0, .int .i64 0, .slice none 0 0, .int .i64 0] 25 (0, 0))).heap[p10]? = some (.cells #[.int .u64 0, .int .i64 0, .slice none 0 0, .slice none 0 0, .int .i64 0] 29 (0, 0))) := heap_kept HB10.out hba
        go_simp
        refine hK.out _ _ (HS.out _ HWX.out) (fun hHeld => ?_)
        clear hK K hba HWW HAA HUU
        try simp only [Act.put, List.setIfInBounds_toArray, List.set_cons_zero, List.set_cons_succ]
        generalize w'.heap.size = p12 at *
        generalize (w'.alloc (.cells #[.int .u64 0, .int .i64 0, .slice none 0 0, .int .i64 0] 25 (0, 0))) = w8 at *
        have s12 := hsp.out
        clear hsp
        have HWW := HWX
        have HAA := HAX
        have HUU := HUX
        clear HWX HAX HUX
        clear HB10
        have HB10 := HB10X
        clear HB10X
        have HNE : Hid (p12 ≠ p10) := block_ne (tagOf_heap HB12.out) (tagOf_heap HB10.out) (by decide)
        obtain ⟨z0, z1, z2, z3, z4⟩ := five_cells HB10.out
        obtain ⟨g0, g1, g2, g3, g4⟩ := five_frozen HB10.out
        have HF5 : Hid ((put5 w8 p10 (.int .u64 (re : Nat)) (.int .i64 rs) (.slice ai m ci) (.slice ab m cb) (.int .i64 rle)).heap[p10]? = some (.cells (carr re rs (.slice ai m ci) (.slice ab m cb) rle) 29)) := five_put HB10.out
        have HT5 : Hid ((put5 w8 p10 (.int .u64 (re : Nat)) (.int .i64 rs) (.slice ai m ci) (.slice ab m cb) (.int .i64 rle)).heap[p12]? = some (.cells #[.int .u64 0, .int .i64 0, .slice none 0 0, .int .i64 0] 25 (0, 0))) := (put5_other _ _ _ _ _ HNE.out).trans HB12.out
        have HB5 : Hid (Below w2.heap.size w2 (put5 w8 p10 (.int .u64 (re : Nat)) (.int .i64 rs) (.slice ai m ci) (.slice ab m cb) (.int .i64 rle))) := below_put5 HWW.out s10 _ _ _ _ _
        have HK5 : Hid (∀ k, k ≠ p10 → (put5 w8 p10 (.int .u64 (re : Nat)) (.int .i64 rs) (.slice ai m ci) (.slice ab m cb) (.int .i64 rle)).heap[k]? = w8.heap[k]?) := fun k hk => put5_other _ _ _ _ _ hk
        unfold put5 at HF5 HT5 HB5 HK5
        refine wpAnyH_ready (rs := [14]) (by kernel_rfl) (by simp) ?_
        refine AllReadyH.cons rfl (fun K hK => ?_) AllReadyH.nil
        go_simp
        refine hK.out _ _ (HS.out _ HB5.out) (fun hHeld => ?_)
        clear hK K hHeld
        try simp only [Act.put, List.setIfInBounds_toArray, List.set_cons_zero, List.set_cons_succ]
        generalize (((((w8.setCell ⟨p10, 0, none⟩ (.int .u64 (re : Nat))).setCell ⟨p10, 1, none⟩ (.int .i64 rs)).setCell ⟨p10, 2, none⟩ (.slice ai m ci)).setCell ⟨p10, 3, none⟩ (.slice ab m cb)).setCell ⟨p10, 4, none⟩ (.int .i64 rle)) = w9 at *
        clear z0 z1 z2 z3 z4 g0 g1 g2 g3 g4
        refine wpAnyH_ready (rs := [15]) (by kernel_rfl) (by simp) ?_
        refine AllReadyH.cons rfl (fun K hK => ?_) AllReadyH.nil
        go_simp
        refine hK.out _ _ (HS.out _ HB5.out) (fun hHeld => ?_)
        clear hK K hHeld
        try simp only [Act.put, List.setIfInBounds_toArray, List.set_cons_zero, List.set_cons_succ]
        obtain ⟨z0, z1, z2, z3⟩ := four_cells HT5.out
        obtain ⟨g0, g1, g2, g3⟩ := four_frozen HT5.out
        have HF4 : Hid ((put4 w9 p12 (.int .u64 (re : Nat)) (.int .i64 rs) (.slice am m cm) (.int .i64 rle)).heap[p12]? = some (.cells (rarr re rs (.slice am m cm) rle) 25)) := four_put HT5.out
        have HF6 : Hid ((put4 w9 p12 (.int .u64 (re : Nat)) (.int .i64 rs) (.slice am m cm) (.int .i64 rle)).heap[p10]? = some (.cells (carr re rs (.slice ai m ci) (.slice ab m cb) rle) 29)) := (put4_other _ _ _ _ (fun e => HNE.out e.symm)).trans HF5.out
        have HB6 : Hid (Below w2.heap.size w2 (put4 w9 p12 (.int .u64 (re : Nat)) (.int .i64 rs) (.slice am m cm) (.int .i64 rle))) := below_put4 HB5.out s12 _ _ _ _
        have HK6 : Hid (∀ k, k ≠ p10 → k ≠ p12 → (put4 w9 p12 (.int .u64 (re : Nat)) (.int .i64 rs) (.slice am m cm) (.int .i64 rle)).heap[k]? = w8.heap[k]?) := fun k h1 h2 => (put4_other _ _ _ _ h2).trans (HK5.out k h1)
        unfold put4 at HF4 HF6 HB6 HK6
        refine wpAnyH_ready (rs := [16]) (by kernel_rfl) (by simp) ?_
        refine AllReadyH.cons rfl (fun K hK => ?_) AllReadyH.nil
        go_simp
        refine hK.out _ _ (HS.out _ HB6.out) (fun hHeld => ?_)
        clear hK K hHeld
        try simp only [Act.put, List.setIfInBounds_toArray, List.set_cons_zero, List.set_cons_succ]
        generalize ((((w9.setCell ⟨p12, 0, none⟩ (.int .u64 (re : Nat))).setCell ⟨p12, 1, none⟩ (.int .i64 rs)).setCell ⟨p12, 2, none⟩ (.slice am m cm)).setCell ⟨p12, 3, none⟩ (.int .i64 rle)) = w10 at *
        clear z0 z1 z2 z3 g0 g1 g2 g3
        refine wpAnyH_ready (rs := [17]) (by kernel_rfl) (by simp) ?_
        refine AllReadyH.cons rfl (fun K hK => ?_) AllReadyH.nil
        go_simp
        refine hK.out _ _ (HS.out _ HB6.out) (fun hHeld => ?_)
        clear hK K hHeld
        try simp only [Act.put, List.setIfInBounds_toArray, List.set_cons_zero, List.set_cons_succ]
        refine wpAnyH_done (by kernel_rfl) ?_ _
        refine NoPanic.normal ?_
        have hkk : ∀ k t, tagOf w8 k = some t → t ≠ 29 → t ≠ 25 → w10.heap[k]? = w8.heap[k]? := fun k t ht h1 h2 => HK6.out k (tag_ne HB10.out h1 ht) (tag_ne HB12.out h2 ht)
        have HA10 : Hid (Cfr w10 (.agg (carr re rs (.slice ai m ci) (.slice ab m cb) rle)) ⟨re, rs, rl, rle⟩) := by
          obtain ⟨va, vb, e, h1, h2, h3⟩ := HAA.out
          exact Cfo.read ⟨va, vb, e, own_same h1 (fun k _ ht => hkk k 3 ht (by decide) (by decide)), own_same h2 (fun k _ ht => hkk k 4 ht (by decide) (by decide)), h3⟩
        have HU10 : Hid (Rfr w10 (.agg (rarr re rs (.slice am m cm) rle)) ⟨re, rs, rl, rle⟩) := by
          obtain ⟨am', cm', e, hm, h3⟩ := HUU.out
          refine ⟨am', cm', e, ?_, h3⟩
          by_cases h0 : 0 < rl.length
          · obtain ⟨b9, off9, e9, hc⟩ := hm.at h0
            subst e9
            have n1 := hm.ne h0 HB10.out rfl
            have n2 := hm.ne h0 HB12.out rfl
            exact .inr ⟨b9, off9, rfl, fun i m hi => by rw [cell_same (HK6.out b9 n1 n2), cell_same (HK6.out b9 n1 n2)]; exact hc i m hi⟩
          · exact .inl (show rl = [] from List.length_eq_zero_iff.1 (by omega))
        have HB10' : Hid (Below w.heap.size w w10) := HB2.out.trans (HB6.out.mono HB2.out.size)
        clear hkk HK5 HK6 HAA HUU HF5 HT5 HB5 HB10 HB12
        obtain ⟨x0, x1, x2, x3, x4⟩ := five_cells HF6.out
        obtain ⟨y0, y1, y2, y3⟩ := four_cells HF4.out
        have hp := plain_any _ _ _ (HA10.out.later (Below.refl _ w10).drew) (by show rl.length ≤ 900; rw [HRLN.out]; omega)
        have hee : (rn == rn) = true := by simp
        have hmm : ((m : Int) == (m : Int)) = true := by simp
        go_upto_region 3 with fail
        refine wp_region_noPanic ?_
        refine wp_region_held_drew (S := fun w' => (w'.cell? ⟨p10, 0, none⟩ = some (.int .u64 (re : Nat)) ∧ w'.cell? ⟨p10, 1, none⟩ = some (.int .i64 rs) ∧ w'.cell? ⟨p10, 2, none⟩ = some (.slice ai m ci) ∧ w'.cell? ⟨p10, 3, none⟩ = some (.slice ab m cb) ∧ w'.cell? ⟨p10, 4, none⟩ = some (.int .i64 rle)) ∧ (w'.cell? ⟨p12, 0, none⟩ = some (.int .u64 (re : Nat)) ∧ w'.cell? ⟨p12, 1, none⟩ = some (.int .i64 rs) ∧ w'.cell? ⟨p12, 2, none⟩ = some (.slice am m cm) ∧ w'.cell? ⟨p12, 3, none⟩ = some (.int .i64 rle))) (by kernel_rfl) ?_ (fun hHeld => ?_)
        · exact ⟨⟨x0, x1, x2, x3, x4⟩, ⟨y0, y1, y2, y3⟩⟩
        refine held_take (i := 0) (d := 28) (v := ?_) rfl rfl (by kernel_rfl) (by kernel_rfl) (by kernel_rfl) (fun _ _ _ h => h) (Or.inl ⟨by rfl, ?_⟩) hHeld ?_
        rotate_left
        · (intro w hSw; (try dsimp only at hSw); go_simp; all_goals (with_reducible rfl))
        try simp only [Act.put, List.setIfInBounds_toArray, List.set_cons_zero, List.set_cons_succ]
        refine held_take (i := 1) (d := 29) (v := ?_) rfl rfl (by kernel_rfl) (by kernel_rfl) (by kernel_rfl) (fun _ _ _ h => h) (Or.inl ⟨by rfl, ?_⟩) hHeld ?_
        rotate_left
        · (intro w hSw; (try dsimp only at hSw); go_simp; all_goals (with_reducible rfl))
        try simp only [Act.put, List.setIfInBounds_toArray, List.set_cons_zero, List.set_cons_succ]
        refine held_take (i := 2) (d := 30) (v := ?_) rfl rfl (by kernel_rfl) (by kernel_rfl) (by kernel_rfl) (fun _ _ _ h => h) (Or.inl ⟨by rfl, ?_⟩) hHeld ?_
        rotate_left
        · (intro w hSw; (try dsimp only at hSw); go_simp; all_goals (with_reducible rfl))
        try simp only [Act.put, List.setIfInBounds_toArray, List.set_cons_zero, List.set_cons_succ]
        refine held_take (i := 3) (d := 31) (v := ?_) rfl rfl (by kernel_rfl) (by kernel_rfl) (by kernel_rfl) (fun _ _ _ h => h) (Or.inl ⟨by rfl, ?_⟩) hHeld ?_
        rotate_left
        · (intro w hSw; (try dsimp only at hSw); go_simp; all_goals (with_reducible rfl))
        try simp only [Act.put, List.setIfInBounds_toArray, List.set_cons_zero, List.set_cons_succ]
        refine held_take (i := 4) (d := 32) (v := ?_) rfl rfl (by kernel_rfl) (by kernel_rfl) (by kernel_rfl) (fun _ _ _ h => h) (Or.inl ⟨by rfl, ?_⟩) hHeld ?_
        rotate_left
        · (intro w hSw; (try dsimp only at hSw); go_simp; all_goals (with_reducible rfl))
        try simp only [Act.put, List.setIfInBounds_toArray, List.set_cons_zero, List.set_cons_succ]
        refine held_take (i := 6) (d := 34) (v := ?_) rfl rfl (by kernel_rfl) (by kernel_rfl) (by kernel_rfl) (fun _ _ _ h => h) (Or.inl ⟨by rfl, ?_⟩) hHeld ?_
        rotate_left
        · (intro w hSw; (try dsimp only at hSw); go_simp; all_goals (with_reducible rfl))
        try simp only [Act.put, List.setIfInBounds_toArray, List.set_cons_zero, List.set_cons_succ]
        refine wpAnyH_ready (rs := [5]) (by kernel_rfl) (by simp) ?_
        refine AllReadyH.cons rfl (fun K hK => ?_) AllReadyH.nil
        go_simp
        refine hp.mono ?_
        rintro e w11 ⟨⟨vp, rfl, hvp⟩, hb11⟩
        have b11 : Below w10.heap.size w10 w11 := (Below.refl _ w10).drew.trans hb11
        have HP11 : Hid (Rfr w11 vp ⟨re, rs, rl, rle⟩) := hvp.read
        obtain ⟨apx, cpx, rfl, hmp, -⟩ := hvp.read
        simp only at hmp ⊢
        rw [HRLN.out]
        have HR11 : Hid (Rfr w11 (.agg (rarr re rs (.slice apx m cpx) rle)) ⟨re, rs, rl, rle⟩) := ⟨apx, cpx, by rw [HRLN.out], hmp, by show rl.length ≤ 100000; rw [HRLN.out]; omega⟩
        have f11 := heap_kept HF6.out b11
        have t11 := heap_kept HF4.out b11
        have hs := rsame_any _ _ _ _ HR11.out (HU10.out.later b11)
        have HB11 : Hid (Below w.heap.size w w11) := HB10'.out.trans (b11.mono HB10'.out.size)
        go_wp2_with fail
        refine hK.out _ _ ?_ (fun hHeld => ?_)
        · exact ⟨five_cells f11, four_cells t11⟩
        clear hK K
        try simp only [Act.put, List.setIfInBounds_toArray, List.set_cons_zero, List.set_cons_succ]
        refine wpAnyH_ready (rs := [7]) (by kernel_rfl) (by simp) ?_
        refine AllReadyH.cons rfl (fun K hK => ?_) AllReadyH.nil
        go_simp
        refine hs.mono ?_
        rintro e w12 ⟨rfl, hb12⟩
        have f12 := heap_kept f11 hb12
        have t12 := heap_kept t11 hb12
        have HB12' : Hid (Below w.heap.size w w12) := HB11.out.trans (hb12.mono HB11.out.size)
        go_wp2_with fail
        refine hK.out _ _ ?_ (fun hHeld => ?_)
        · exact ⟨five_cells f12, four_cells t12⟩
        clear hK K
        try simp only [Act.put, List.setIfInBounds_toArray, List.set_cons_zero, List.set_cons_succ]
        refine held_take (i := 8) (d := 36) (v := ?_) rfl rfl (by kernel_rfl) (by kernel_rfl) (by kernel_rfl) (fun _ _ _ h => h) (Or.inl ⟨by rfl, ?_⟩) hHeld ?_
        rotate_left
        · (intro w hSw; (try dsimp only at hSw); go_simp; all_goals (with_reducible rfl))
        try simp only [Act.put, List.setIfInBounds_toArray, List.set_cons_zero, List.set_cons_succ]
        refine held_take (i := 9) (d := 37) (v := ?_) rfl rfl (by kernel_rfl) (by kernel_rfl) (by kernel_rfl) (fun _ _ _ h => h) (Or.inl ⟨by rfl, ?_⟩) hHeld ?_
        rotate_left
        · (intro w hSw; (try dsimp only at hSw); go_simp; all_goals (with_reducible rfl))
        try simp only [Act.put, List.setIfInBounds_toArray, List.set_cons_zero, List.set_cons_succ]
        refine held_take (i := 10) (d := 38) (v := ?_) rfl rfl (by kernel_rfl) (by kernel_rfl) (by kernel_rfl) (fun _ _ _ h => h) (Or.inl ⟨by rfl, ?_⟩) hHeld ?_
        rotate_left
        · (intro w hSw; (try dsimp only at hSw); go_simp; all_goals (with_reducible rfl))
        try simp only [Act.put, List.setIfInBounds_toArray, List.set_cons_zero, List.set_cons_succ]
        refine held_take (i := 11) (d := 39) (v := ?_) rfl rfl (by kernel_rfl) (by kernel_rfl) (by kernel_rfl) (fun _ _ _ h => h) (Or.inl ⟨by rfl, ?_⟩) hHeld ?_
        rotate_left
        · (intro w hSw; (try dsimp only at hSw); go_simp; all_goals (with_reducible rfl))
        try simp only [Act.put, List.setIfInBounds_toArray, List.set_cons_zero, List.set_cons_succ]
        refine held_take (i := 12) (d := 40) (v := ?_) rfl rfl (by kernel_rfl) (by kernel_rfl) (by kernel_rfl) (fun _ _ _ h => h) (Or.inl ⟨by rfl, ?_⟩) hHeld ?_
        rotate_left
        · (intro w hSw; (try dsimp only at hSw); go_simp; all_goals (with_reducible rfl))
        try simp only [Act.put, List.setIfInBounds_toArray, List.set_cons_zero, List.set_cons_succ]
        refine held_take (i := 13) (d := 41) (v := ?_) rfl rfl (by kernel_rfl) (by kernel_rfl) (by kernel_rfl) (fun _ _ _ h => h) (Or.inl ⟨by rfl, ?_⟩) hHeld ?_
        rotate_left
        · (intro w hSw; (try dsimp only at hSw); go_simp; all_goals (with_reducible rfl))
        try simp only [Act.put, List.setIfInBounds_toArray, List.set_cons_zero, List.set_cons_succ]
        refine held_take (i := 14) (d := 42) (v := ?_) rfl rfl (by kernel_rfl) (by kernel_rfl) (by kernel_rfl) (fun _ _ _ h => h) (Or.inl ⟨by rfl, ?_⟩) hHeld ?_
        rotate_left
        · (intro w hSw; (try dsimp only at hSw); go_simp; all_goals (with_reducible rfl))
        try simp only [Act.put, List.setIfInBounds_toArray, List.set_cons_zero, List.set_cons_succ]
        refine held_take (i := 15) (d := 43) (v := ?_) rfl rfl (by kernel_rfl) (by kernel_rfl) (by kernel_rfl) (fun _ _ _ h => h) (Or.inl ⟨by rfl, ?_⟩) hHeld ?_
        rotate_left
        · (intro w hSw; (try dsimp only at hSw); go_simp; all_goals (with_reducible rfl))
        try simp only [Act.put, List.setIfInBounds_toArray, List.set_cons_zero, List.set_cons_succ]
        refine held_take (i := 16) (d := 44) (v := ?_) rfl rfl (by kernel_rfl) (by kernel_rfl) (by kernel_rfl) (fun _ _ _ h => h) (Or.inl ⟨by rfl, ?_⟩) hHeld ?_
        rotate_left
        · (intro w hSw; (try dsimp only at hSw); go_simp; all_goals (with_reducible rfl))
        try simp only [Act.put, List.setIfInBounds_toArray, List.set_cons_zero, List.set_cons_succ]
        refine held_take (i := 17) (d := 45) (v := ?_) rfl rfl (by kernel_rfl) (by kernel_rfl) (by kernel_rfl) (fun _ _ _ h => h) (Or.inl ⟨by rfl, ?_⟩) hHeld ?_
        rotate_left
        · (intro w hSw; (try dsimp only at hSw); go_simp; all_goals (with_reducible rfl))
        try simp only [Act.put, List.setIfInBounds_toArray, List.set_cons_zero, List.set_cons_succ]
        refine held_take (i := 18) (d := 46) (v := ?_) rfl rfl (by kernel_rfl) (by kernel_rfl) (by kernel_rfl) (fun _ _ _ h => h) (Or.inl ⟨by rfl, ?_⟩) hHeld ?_
        rotate_left
        · (intro w hSw; (try dsimp only at hSw); go_simp; all_goals (with_reducible rfl))
        try simp only [Act.put, List.setIfInBounds_toArray, List.set_cons_zero, List.set_cons_succ]
        refine wpAnyH_ready (rs := [19]) (by kernel_rfl) (by simp) ?_
        refine AllReadyH.cons rfl (fun K hK => ?_) AllReadyH.nil
        go_simp
        refine (awake_any w12).mono ?_
        rintro e w13 ⟨rfl, hb13⟩
        have f13 := heap_kept f12 hb13
        have t13 := heap_kept t12 hb13
        have HB13 : Hid (Below w.heap.size w w13) := HB12'.out.trans (hb13.mono HB12'.out.size)
        go_wp2_with fail
        refine hK.out _ _ ?_ (fun hHeld => ?_)
        · exact ⟨five_cells f13, four_cells t13⟩
        clear hK K
        try simp only [Act.put, List.setIfInBounds_toArray, List.set_cons_zero, List.set_cons_succ]
        refine held_take (i := 20) (d := 48) (v := ?_) rfl rfl (by kernel_rfl) (by kernel_rfl) (by kernel_rfl) (fun _ _ _ h => h) (Or.inl ⟨by rfl, ?_⟩) hHeld ?_
        rotate_left
        · (intro w hSw; (try dsimp only at hSw); go_simp; all_goals (with_reducible rfl))
        try simp only [Act.put, List.setIfInBounds_toArray, List.set_cons_zero, List.set_cons_succ]
        refine held_take (i := 21) (d := 8) (v := ?_) rfl rfl (by kernel_rfl) (by kernel_rfl) (by kernel_rfl) (fun _ _ _ h => h) (Or.inl ⟨by rfl, ?_⟩) hHeld ?_
        rotate_left
        · (intro w hSw; (try dsimp only at hSw); go_simp; all_goals (with_reducible rfl))
        try simp only [Act.put, List.setIfInBounds_toArray, List.set_cons_zero, List.set_cons_succ]
        refine wpAnyH_done (by kernel_rfl) ?_ _
        refine NoPanic.normal ?_
        go_wp2
        go_ret
        exact ⟨rfl, HB13.out⟩
    | false =>
      clear g12
      cases l13 with
      | true =>
        obtain ⟨p12, rfl, b12, s12⟩ := g13 rfl
        have HB12 : Hid (w'.heap[p12]? = some (.cells #[.int .u64 0, .int .i64 0, .slice none 0 0, .int .i64 0] 25 (0, 0))) := b12
        clear b12 g13
        obtain rfl : nn = 10 := by simpa using hn
        refine held_take (i := 7) (d := 16) (v := ?_) rfl rfl (by kernel_rfl) (by kernel_rfl) (by kernel_rfl) (fun _ _ _ h => h) (Or.inl ⟨by rfl, ?_⟩) hHeld ?_
        rotate_left
        · (intro w hSw; (try dsimp only at hSw); go_simp; all_goals (with_reducible rfl))
        try simp only [Act.put, List.setIfInBounds_toArray, List.set_cons_zero, List.set_cons_succ]
        refine held_take (i := 8) (d := 24) (v := ?_) rfl rfl (by kernel_rfl) (by kernel_rfl) (by kernel_rfl) (fun _ _ _ h => h) (Or.inl ⟨by rfl, ?_⟩) hHeld ?_
        rotate_left
        · (intro w hSw; (try dsimp only at hSw); go_simp; all_goals (with_reducible rfl))
        try simp only [Act.put, List.setIfInBounds_toArray, List.set_cons_zero, List.set_cons_succ]
        refine held_take (i := 9) (d := 25) (v := ?_) rfl rfl (by kernel_rfl) (by kernel_rfl) (by kernel_rfl) (fun _ _ _ h => h) (Or.inl ⟨by rfl, ?_⟩) hHeld ?_
        rotate_left
        · (intro w hSw; (try dsimp only at hSw); go_simp; all_goals (with_reducible rfl))
        try simp only [Act.put, List.setIfInBounds_toArray, List.set_cons_zero, List.set_cons_succ]
        refine held_take (i := 10) (d := 26) (v := ?_) rfl rfl (by kernel_rfl) (by kernel_rfl) (by kernel_rfl) (fun _ _ _ h => h) (Or.inl ⟨by rfl, ?_⟩) hHeld ?_
        rotate_left
        · (intro w hSw; (try dsimp only at hSw); go_simp; all_goals (with_reducible rfl))
        try simp only [Act.put, List.setIfInBounds_toArray, List.set_cons_zero, List.set_cons_succ]
        refine held_take (i := 11) (d := 27) (v := ?_) rfl rfl (by kernel_rfl) (by kernel_rfl) (by kernel_rfl) (fun _ _ _ h => h) (Or.inl ⟨by rfl, ?_⟩) hHeld ?_
        rotate_left
        · (intro w hSw; (try dsimp only at hSw); go_simp; all_goals (with_reducible rfl))
        try simp only [Act.put, List.setIfInBounds_toArray, List.set_cons_zero, List.set_cons_succ]
        refine wpAnyH_ready (rs := [12]) (by kernel_rfl) (by simp) ?_
        refine AllReadyH.cons rfl (fun K hK => ?_) AllReadyH.nil
        have hba : Below w'.heap.size w' (w'.alloc (.cells #[.int .u64 0, .int .i64 0, .slice none 0 0, .slice none 0 0, .int .i64 0] 29 (0, 0))) := (Below.refl _ _).alloc (Nat.le_refl _) _
        have HWX : Hid (Below w2.heap.size w2 (w'.alloc (.cells #[.int .u64 0, .int .i64 0, .slice none 0 0, .slice none 0 0, .int .i64 0] 29 (0, 0)))) := HWW.out.trans (hba.mono HWW.out.size)
        have HAX : Hid (Cfo (w'.alloc (.cells #[.int .u64 0, .int .i64 0, .slice none 0 0, .slice none 0 0, .int .i64 0] 29 (0, 0))) 0 (.agg (carr re rs (.slice ai m ci) (.slice ab m cb) rle)) ⟨re, rs, rl, rle⟩) := HAA.out.later hba
        have HUX : Hid (Rfr (w'.alloc (.cells #[.int .u64 0, .int .i64 0, .slice none 0 0, .slice none 0 0, .int .i64 0] 29 (0, 0))) (.agg (rarr re rs (.slice am m cm) rle)) ⟨re, rs, rl, rle⟩) := HUU.out.later hba
        have HB10 : Hid ((w'.alloc (.cells #[.int .u64 0, .int .i64 0, .slice none 0 0, .slice none 0 0, .int .i64 0] 29 (0, 0))).heap[w'.heap.size]? = some (.cells #[.int .u64 0, .int .i64 0, .slice none 0 0, .slice none 0 0, .int .i64 0] 29 (0, 0))) := heap_alloc_new _ _
        have hsp : Hid (w2.heap.size ≤ w'.heap.size) := HWW.out.size
        have HB12X : Hid ((w'.alloc (.cells #[.int .u64 0, .int .i64 0, .slice none 0 0, .slice none 0 0, .int .i64 0] 29 (0, 0))).heap[p12]? = some (.cells #[.int .u64 0, .int .i64 0, .slice none 0 0, .int .i64 0] 25 (0, 0))) := heap_kept HB12.out hba
        go_simp
        refine hK.out _ _ (HS.out _ HWX.out) (fun hHeld => ?_)
        clear hK K hba HWW HAA HUU
        try simp only [Act.put, List.setIfInBounds_toArray, List.set_cons_zero, List.set_cons_succ]
        generalize w'.heap.size = p10 at *
        generalize (w'.alloc (.cells #[.int .u64 0, .int .i64 0, .slice none 0 0, .slice none 0 0, .int .i64 0] 29 (0, 0))) = w8 at *
        have s10 := hsp.out
        clear hsp
        have HWW := HWX
        have HAA := HAX
        have HUU := HUX
        clear HWX HAX HUX
        clear HB12
        have HB12 := HB12X
        clear HB12X
        have HNE : Hid (p12 ≠ p10) := block_ne (tagOf_heap HB12.out) (tagOf_heap HB10.out) (by decide)
        obtain ⟨z0, z1, z2, z3, z4⟩ := five_cells HB10.out
        obtain ⟨g0, g1, g2, g3, g4⟩ := five_frozen HB10.out
        have HF5 : Hid ((put5 w8 p10 (.int .u64 (re : Nat)) (.int .i64 rs) (.slice ai m ci) (.slice ab m cb) (.int .i64 rle)).heap[p10]? = some (.cells (carr re rs (.slice ai m ci) (.slice ab m cb) rle) 29)) := five_put HB10.out
        have HT5 : Hid ((put5 w8 p10 (.int .u64 (re : Nat)) (.int .i64 rs) (.slice ai m ci) (.slice ab m cb) (.int .i64 rle)).heap[p12]? = some (.cells #[.int .u64 0, .int .i64 0, .slice none 0 0, .int .i64 0] 25 (0, 0))) := (put5_other _ _ _ _ _ HNE.out).trans HB12.out
        have HB5 : Hid (Below w2.heap.size w2 (put5 w8 p10 (.int .u64 (re : Nat)) (.int .i64 rs) (.slice ai m ci) (.slice ab m cb) (.int .i64 rle))) := below_put5 HWW.out s10 _ _ _ _ _
        have HK5 : Hid (∀ k, k ≠ p10 → (put5 w8 p10 (.int .u64 (re : Nat)) (.int .i64 rs) (.slice ai m ci) (.slice ab m cb) (.int .i64 rle)).heap[k]? = w8.heap[k]?) := fun k hk => put5_other _ _ _ _ _ hk
        unfold put5 at HF5 HT5 HB5 HK5
        refine wpAnyH_ready (rs := [14]) (by kernel_rfl) (by simp) ?_
        refine AllReadyH.cons rfl (fun K hK => ?_) AllReadyH.nil
        go_simp
        refine hK.out _ _ (HS.out _ HB5.out) (fun hHeld => ?_)
        clear hK K hHeld
        try simp only [Act.put, List.setIfInBounds_toArray, List.set_cons_zero, List.set_cons_succ]
        generalize (((((w8.setCell ⟨p10, 0, none⟩ (.int .u64 (re : Nat))).setCell ⟨p10, 1, none⟩ (.int .i64 rs)).setCell ⟨p10, 2, none⟩ (.slice ai m ci)).setCell ⟨p10, 3, none⟩ (.slice ab m cb)).setCell ⟨p10, 4, none⟩ (.int .i64 rle)) = w9 at *
        clear z0 z1 z2 z3 z4 g0 g1 g2 g3 g4
        refine wpAnyH_ready (rs := [15]) (by kernel_rfl) (by simp) ?_
        refine AllReadyH.cons rfl (fun K hK => ?_) AllReadyH.nil
        go_simp
        refine hK.out _ _ (HS.out _ HB5.out) (fun hHeld => ?_)
        clear hK K hHeld
        try simp only [Act.put, List.setIfInBounds_toArray, List.set_cons_zero, List.set_cons_succ]
        obtain ⟨z0, z1, z2, z3⟩ := four_cells HT5.out
        obtain ⟨g0, g1, g2, g3⟩ := four_frozen HT5.out
        have HF4 : Hid ((put4 w9 p12 (.int .u64 (re : Nat)) (.int .i64 rs) (.slice am m cm) (.int .i64 rle)).heap[p12]? = some (.cells (rarr re rs (.slice am m cm) rle) 25)) := four_put HT5.out
        have HF6 : Hid ((put4 w9 p12 (.int .u64 (re : Nat)) (.int .i64 rs) (.slice am m cm) (.int .i64 rle)).heap[p10]? = some (.cells (carr re rs (.slice ai m ci) (.slice ab m cb) rle) 29)) := (put4_other _ _ _ _ (fun e => HNE.out e.symm)).trans HF5.out
        have HB6 : Hid (Below w2.heap.size w2 (put4 w9 p12 (.int .u64 (re : Nat)) (.int .i64 rs) (.slice am m cm) (.int .i64 rle))) := below_put4 HB5.out s12 _ _ _ _
        have HK6 : Hid (∀ k, k ≠ p10 → k ≠ p12 → (put4 w9 p12 (.int .u64 (re : Nat)) (.int .i64 rs) (.slice am m cm) (.int .i64 rle)).heap[k]? = w8.heap[k]?) := fun k h1 h2 => (put4_other _ _ _ _ h2).trans (HK5.out k h1)
        unfold put4 at HF4 HF6 HB6 HK6
        refine wpAnyH_ready (rs := [16]) (by kernel_rfl) (by simp) ?_
        refine AllReadyH.cons rfl (fun K hK => ?_) AllReadyH.nil
        go_simp
        refine hK.out _ _ (HS.out _ HB6.out) (fun hHeld => ?_)
        clear hK K hHeld
        try simp only [Act.put, List.setIfInBounds_toArray, List.set_cons_zero, List.set_cons_succ]
        generalize ((((w9.setCell ⟨p12, 0, none⟩ (.int .u64 (re : Nat))).setCell ⟨p12, 1, none⟩ (.int .i64 rs)).setCell ⟨p12, 2, none⟩ (.slice am m cm)).setCell ⟨p12, 3, none⟩ (.int .i64 rle)) = w10 at *
        clear z0 z1 z2 z3 g0 g1 g2 g3
        refine wpAnyH_ready (rs := [17]) (by kernel_rfl) (by simp) ?_
        refine AllReadyH.cons rfl (fun K hK => ?_) AllReadyH.nil
        go_simp
        refine hK.out _ _ (HS.out _ HB6.out) (fun hHeld => ?_)
        clear hK K hHeld
        try simp only [Act.put, List.setIfInBounds_toArray, List.set_cons_zero, List.set_cons_succ]
        refine wpAnyH_done (by kernel_rfl) ?_ _
        refine NoPanic.normal ?_
        have hkk : ∀ k t, tagOf w8 k = some t → t ≠ 29 → t ≠ 25 → w10.heap[k]? = w8.heap[k]? := fun k t ht h1 h2 => HK6.out k (tag_ne HB10.out h1 ht) (tag_ne HB12.out h2 ht)
        have HA10 : Hid (Cfr w10 (.agg (carr re rs (.slice ai m ci) (.slice ab m cb) rle)) ⟨re, rs, rl, rle⟩) := by
          obtain ⟨va, vb, e, h1, h2, h3⟩ := HAA.out
          exact Cfo.read ⟨va, vb, e, own_same h1 (fun k _ ht => hkk k 3 ht (by decide) (by decide)), own_same h2 (fun k _ ht => hkk k 4 ht (by decide) (by decide)), h3⟩
        have HU10 : Hid (Rfr w10 (.agg (rarr re rs (.slice am m cm) rle)) ⟨re, rs, rl, rle⟩) := by
          obtain ⟨am', cm', e, hm, h3⟩ := HUU.out
          refine ⟨am', cm', e, ?_, h3⟩
          by_cases h0 : 0 < rl.length
          · obtain ⟨b9, off9, e9, hc⟩ := hm.at h0
            subst e9
            have n1 := hm.ne h0 HB10.out rfl
            have n2 := hm.ne h0 HB12.out rfl
            exact .inr ⟨b9, off9, rfl, fun i m hi => by rw [cell_same (HK6.out b9 n1 n2), cell_same (HK6.out b9 n1 n2)]; exact hc i m hi⟩
          · exact .inl (show rl = [] from List.length_eq_zero_iff.1 (by omega))
        have HB10' : Hid (Below w.heap.size w w10) := HB2.out.trans (HB6.out.mono HB2.out.size)
        clear hkk HK5 HK6 HAA HUU HF5 HT5 HB5 HB10 HB12
        obtain ⟨x0, x1, x2, x3, x4⟩ := five_cells HF6.out
        obtain ⟨y0, y1, y2, y3⟩ := four_cells HF4.out
        have hp := plain_any _ _ _ (HA10.out.later (Below.refl _ w10).drew) (by show rl.length ≤ 900; rw [HRLN.out]; omega)
        have hee : (rn == rn) = true := by simp
        have hmm : ((m : Int) == (m : Int)) = true := by simp
        go_upto_region 3 with fail
        refine wp_region_noPanic ?_
        refine wp_region_held_drew (S := fun w' => (w'.cell? ⟨p10, 0, none⟩ = some (.int .u64 (re : Nat)) ∧ w'.cell? ⟨p10, 1, none⟩ = some (.int .i64 rs) ∧ w'.cell? ⟨p10, 2, none⟩ = some (.slice ai m ci) ∧ w'.cell? ⟨p10, 3, none⟩ = some (.slice ab m cb) ∧ w'.cell? ⟨p10, 4, none⟩ = some (.int .i64 rle)) ∧ (w'.cell? ⟨p12, 0, none⟩ = some (.int .u64 (re : Nat)) ∧ w'.cell? ⟨p12, 1, none⟩ = some (.int .i64 rs) ∧ w'.cell? ⟨p12, 2, none⟩ = some (.slice am m cm) ∧ w'.cell? ⟨p12, 3, none⟩ = some (.int .i64 rle))) (by kernel_rfl) ?_ (fun hHeld => ?_)
        · exact ⟨⟨x0, x1, x2, x3, x4⟩, ⟨y0, y1, y2, y3⟩⟩
        refine held_take (i := 0) (d := 28) (v := ?_) rfl rfl (by kernel_rfl) (by kernel_rfl) (by kernel_rfl) (fun _ _ _ h => h) (Or.inl ⟨by rfl, ?_⟩) hHeld ?_
        rotate_left
        · (intro w hSw; (try dsimp only at hSw); go_simp; all_goals (with_reducible rfl))
        try simp only [Act.put, List.setIfInBounds_toArray, List.set_cons_zero, List.set_cons_succ]
        refine held_take (i := 1) (d := 29) (v := ?_) rfl rfl (by kernel_rfl) (by kernel_rfl) (by kernel_rfl) (fun _ _ _ h => h) (Or.inl ⟨by rfl, ?_⟩) hHeld ?_
        rotate_left
        · (intro w hSw; (try dsimp only at hSw); go_simp; all_goals (with_reducible rfl))
        try simp only [Act.put, List.setIfInBounds_toArray, List.set_cons_zero, List.set_cons_succ]
        refine held_take (i := 2) (d := 30) (v := ?_) rfl rfl (by kernel_rfl) (by kernel_rfl) (by kernel_rfl) (fun _ _ _ h => h) (Or.inl ⟨by rfl, ?_⟩) hHeld ?_
        rotate_left
        · (intro w hSw; (try dsimp only at hSw); go_simp; all_goals (with_reducible rfl))
        try simp only [Act.put, List.setIfInBounds_toArray, List.set_cons_zero, List.set_cons_succ]
        refine held_take (i := 3) (d := 31) (v := ?_) rfl rfl (by kernel_rfl) (by kernel_rfl) (by kernel_rfl) (fun _ _ _ h => h) (Or.inl ⟨by rfl, ?_⟩) hHeld ?_
        rotate_left
        · (intro w hSw; (try dsimp only at hSw); go_simp; all_goals (with_reducible rfl))
        try simp only [Act.put, List.setIfInBounds_toArray, List.set_cons_zero, List.set_cons_succ]
        refine held_take (i := 4) (d := 32) (v := ?_) rfl rfl (by kernel_rfl) (by kernel_rfl) (by kernel_rfl) (fun _ _ _ h => h) (Or.inl ⟨by rfl, ?_⟩) hHeld ?_
        rotate_left
        · (intro w hSw; (try dsimp only at hSw); go_simp; all_goals (with_reducible rfl))
        try simp only [Act.put, List.setIfInBounds_toArray, List.set_cons_zero, List.set_cons_succ]
        refine held_take (i := 6) (d := 34) (v := ?_) rfl rfl (by kernel_rfl) (by kernel_rfl) (by kernel_rfl) (fun _ _ _ h => h) (Or.inl ⟨by rfl, ?_⟩) hHeld ?_
        rotate_left
        · (intro w hSw; (try dsimp only at hSw); go_simp; all_goals (with_reducible rfl))
        try simp only [Act.put, List.setIfInBounds_toArray, List.set_cons_zero, List.set_cons_succ]
        refine wpAnyH_ready (rs := [5]) (by kernel_rfl) (by simp) ?_
        refine AllReadyH.cons rfl (fun K hK => ?_) AllReadyH.nil
        go_simp
        refine hp.mono ?_
        rintro e w11 ⟨⟨vp, rfl, hvp⟩, hb11⟩
        have b11 : Below w10.heap.size w10 w11 := (Below.refl _ w10).drew.trans hb11
        have HP11 : Hid (Rfr w11 vp ⟨re, rs, rl, rle⟩) := hvp.read
        obtain ⟨apx, cpx, rfl, hmp, -⟩ := hvp.read
        simp only at hmp ⊢
        rw [HRLN.out]
        have HR11 : Hid (Rfr w11 (.agg (rarr re rs (.slice apx m cpx) rle)) ⟨re, rs, rl, rle⟩) := ⟨apx, cpx, by rw [HRLN.out], hmp, by show rl.length ≤ 100000; rw [HRLN.out]; omega⟩
        have f11 := heap_kept HF6.out b11
        have t11 := heap_kept HF4.out b11
        have hs := rsame_any _ _ _ _ HR11.out (HU10.out.later b11)
        have HB11 : Hid (Below w.heap.size w w11) := HB10'.out.trans (b11.mono HB10'.out.size)
        go_wp2_with fail
        refine hK.out _ _ ?_ (fun hHeld => ?_)
        · exact ⟨five_cells f11, four_cells t11⟩
        clear hK K
        try simp only [Act.put, List.setIfInBounds_toArray, List.set_cons_zero, List.set_cons_succ]
        refine wpAnyH_ready (rs := [7]) (by kernel_rfl) (by simp) ?_
        refine AllReadyH.cons rfl (fun K hK => ?_) AllReadyH.nil
        go_simp
        refine hs.mono ?_
        rintro e w12 ⟨rfl, hb12⟩
        have f12 := heap_kept f11 hb12
        have t12 := heap_kept t11 hb12
        have HB12' : Hid (Below w.heap.size w w12) := HB11.out.trans (hb12.mono HB11.out.size)
        go_wp2_with fail
        refine hK.out _ _ ?_ (fun hHeld => ?_)
        · exact ⟨five_cells f12, four_cells t12⟩
        clear hK K
        try simp only [Act.put, List.setIfInBounds_toArray, List.set_cons_zero, List.set_cons_succ]
        refine held_take (i := 8) (d := 36) (v := ?_) rfl rfl (by kernel_rfl) (by kernel_rfl) (by kernel_rfl) (fun _ _ _ h => h) (Or.inl ⟨by rfl, ?_⟩) hHeld ?_
        rotate_left
        · (intro w hSw; (try dsimp only at hSw); go_simp; all_goals (with_reducible rfl))
        try simp only [Act.put, List.setIfInBounds_toArray, List.set_cons_zero, List.set_cons_succ]
        refine held_take (i := 9) (d := 37) (v := ?_) rfl rfl (by kernel_rfl) (by kernel_rfl) (by kernel_rfl) (fun _ _ _ h => h) (Or.inl ⟨by rfl, ?_⟩) hHeld ?_
        rotate_left
        · (intro w hSw; (try dsimp only at hSw); go_simp; all_goals (with_reducible rfl))
        try simp only [Act.put, List.setIfInBounds_toArray, List.set_cons_zero, List.set_cons_succ]
        refine held_take (i := 10) (d := 38) (v := ?_) rfl rfl (by kernel_rfl) (by kernel_rfl) (by kernel_rfl) (fun _ _ _ h => h) (Or.inl ⟨by rfl, ?_⟩) hHeld ?_
        rotate_left
        · (intro w hSw; (try dsimp only at hSw); go_simp; all_goals (with_reducible rfl))
        try simp only [Act.put, List.setIfInBounds_toArray, List.set_cons_zero, List.set_cons_succ]
        refine held_take (i := 11) (d := 39) (v := ?_) rfl rfl (by kernel_rfl) (by kernel_rfl) (by kernel_rfl) (fun _ _ _ h => h) (Or.inl ⟨by rfl, ?_⟩) hHeld ?_
        rotate_left
        · (intro w hSw; (try dsimp only at hSw); go_simp; all_goals (with_reducible rfl))
        try simp only [Act.put, List.setIfInBounds_toArray, List.set_cons_zero, List.set_cons_succ]
        refine held_take (i := 12) (d := 40) (v := ?_) rfl rfl (by kernel_rfl) (by kernel_rfl) (by kernel_rfl) (fun _ _ _ h => h) (Or.inl ⟨by rfl, ?_⟩) hHeld ?_
        rotate_left
        · (intro w hSw; (try dsimp only at hSw); go_simp; all_goals (with_reducible rfl))
        try simp only [Act.put, List.setIfInBounds_toArray, List.set_cons_zero, List.set_cons_succ]
        refine held_take (i := 13) (d := 41) (v := ?_) rfl rfl (by kernel_rfl) (by kernel_rfl) (by kernel_rfl) (fun _ _ _ h => h) (Or.inl ⟨by rfl, ?_⟩) hHeld ?_
        rotate_left
        · (intro w hSw; (try dsimp only at hSw); go_simp; all_goals (with_reducible rfl))
        try simp only [Act.put, List.setIfInBounds_toArray, List.set_cons_zero, List.set_cons_succ]
        refine held_take (i := 14) (d := 42) (v := ?_) rfl rfl (by kernel_rfl) (by kernel_rfl) (by kernel_rfl) (fun _ _ _ h => h) (Or.inl ⟨by rfl, ?_⟩) hHeld ?_
        rotate_left
        · (intro w hSw; (try dsimp only at hSw); go_simp; all_goals (with_reducible rfl))
        try simp only [Act.put, List.setIfInBounds_toArray, List.set_cons_zero, List.set_cons_succ]
        refine held_take (i := 15) (d := 43) (v := ?_) rfl rfl (by kernel_rfl) (by kernel_rfl) (by kernel_rfl) (fun _ _ _ h => h) (Or.inl ⟨by rfl, ?_⟩) hHeld ?_
        rotate_left
        · (intro w hSw; (try dsimp only at hSw); go_simp; all_goals (with_reducible rfl))
        try simp only [Act.put, List.setIfInBounds_toArray, List.set_cons_zero, List.set_cons_succ]
        refine held_take (i := 16) (d := 44) (v := ?_) rfl rfl (by kernel_rfl) (by kernel_rfl) (by kernel_rfl) (fun _ _ _ h => h) (Or.inl ⟨by rfl, ?_⟩) hHeld ?_
        rotate_left
        · (intro w hSw; (try dsimp only at hSw); go_simp; all_goals (with_reducible rfl))
        try simp only [Act.put, List.setIfInBounds_toArray, List.set_cons_zero, List.set_cons_succ]
        refine held_take (i := 17) (d := 45) (v := ?_) rfl rfl (by kernel_rfl) (by kernel_rfl) (by kernel_rfl) (fun _ _ _ h => h) (Or.inl ⟨by rfl, ?_⟩) hHeld ?_
        rotate_left
        · (intro w hSw; (try dsimp only at hSw); go_simp; all_goals (with_reducible rfl))
        try simp only [Act.put, List.setIfInBounds_toArray, List.set_cons_zero, List.set_cons_succ]
        refine held_take (i := 18) (d := 46) (v := ?_) rfl rfl (by kernel_rfl) (by kernel_rfl) (by kernel_rfl) (fun _ _ _ h => h) (Or.inl ⟨by rfl, ?_⟩) hHeld ?_
        rotate_left
        · (intro w hSw; (try dsimp only at hSw); go_simp; all_goals (with_reducible rfl))
        try simp only [Act.put, List.setIfInBounds_toArray, List.set_cons_zero, List.set_cons_succ]
        refine wpAnyH_ready (rs := [19]) (by kernel_rfl) (by simp) ?_
        refine AllReadyH.cons rfl (fun K hK => ?_) AllReadyH.nil
        go_simp
        refine (awake_any w12).mono ?_
        rintro e w13 ⟨rfl, hb13⟩
        have f13 := heap_kept f12 hb13
        have t13 := heap_kept t12 hb13
        have HB13 : Hid (Below w.heap.size w w13) := HB12'.out.trans (hb13.mono HB12'.out.size)
        go_wp2_with fail
        refine hK.out _ _ ?_ (fun hHeld => ?_)
        · exact ⟨five_cells f13, four_cells t13⟩
        clear hK K
        try simp only [Act.put, List.setIfInBounds_toArray, List.set_cons_zero, List.set_cons_succ]
        refine held_take (i := 20) (d := 48) (v := ?_) rfl rfl (by kernel_rfl) (by kernel_rfl) (by kernel_rfl) (fun _ _ _ h => h) (Or.inl ⟨by rfl, ?_⟩) hHeld ?_
        rotate_left
        · (intro w hSw; (try dsimp only at hSw); go_simp; all_goals (with_reducible rfl))
        try simp only [Act.put, List.setIfInBounds_toArray, List.set_cons_zero, List.set_cons_succ]
        refine held_take (i := 21) (d := 8) (v := ?_) rfl rfl (by kernel_rfl) (by kernel_rfl) (by kernel_rfl) (fun _ _ _ h => h) (Or.inl ⟨by rfl, ?_⟩) hHeld ?_
        rotate_left
        · (intro w hSw; (try dsimp only at hSw); go_simp; all_goals (with_reducible rfl))
        try simp only [Act.put, List.setIfInBounds_toArray, List.set_cons_zero, List.set_cons_succ]
        refine wpAnyH_done (by kernel_rfl) ?_ _
        refine NoPanic.normal ?_
        go_wp2
        go_ret
        exact ⟨rfl, HB13.out⟩
      | false =>
        obtain rfl : nn = 11 := by simpa using hn
        clear g13
        refine held_take (i := 7) (d := 16) (v := ?_) rfl rfl (by kernel_rfl) (by kernel_rfl) (by kernel_rfl) (fun _ _ _ h => h) (Or.inl ⟨by rfl, ?_⟩) hHeld ?_
        rotate_left
        · (intro w hSw; (try dsimp only at hSw); go_simp; all_goals (with_reducible rfl))
        try simp only [Act.put, List.setIfInBounds_toArray, List.set_cons_zero, List.set_cons_succ]
        refine held_take (i := 8) (d := 24) (v := ?_) rfl rfl (by kernel_rfl) (by kernel_rfl) (by kernel_rfl) (fun _ _ _ h => h) (Or.inl ⟨by rfl, ?_⟩) hHeld ?_
        rotate_left
        · (intro w hSw; (try dsimp only at hSw); go_simp; all_goals (with_reducible rfl))
        try simp only [Act.put, List.setIfInBounds_toArray, List.set_cons_zero, List.set_cons_succ]
        refine held_take (i := 9) (d := 25) (v := ?_) rfl rfl (by kernel_rfl) (by kernel_rfl) (by kernel_rfl) (fun _ _ _ h => h) (Or.inl ⟨by rfl, ?_⟩) hHeld ?_
        rotate_left
        · (intro w hSw; (try dsimp only at hSw); go_simp; all_goals (with_reducible rfl))
        try simp only [Act.put, List.setIfInBounds_toArray, List.set_cons_zero, List.set_cons_succ]
        refine held_take (i := 10) (d := 26) (v := ?_) rfl rfl (by kernel_rfl) (by kernel_rfl) (by kernel_rfl) (fun _ _ _ h => h) (Or.inl ⟨by rfl, ?_⟩) hHeld ?_
        rotate_left
        · (intro w hSw; (try dsimp only at hSw); go_simp; all_goals (with_reducible rfl))
        try simp only [Act.put, List.setIfInBounds_toArray, List.set_cons_zero, List.set_cons_succ]
        refine held_take (i := 11) (d := 27) (v := ?_) rfl rfl (by kernel_rfl) (by kernel_rfl) (by kernel_rfl) (fun _ _ _ h => h) (Or.inl ⟨by rfl, ?_⟩) hHeld ?_
        rotate_left
        · (intro w hSw; (try dsimp only at hSw); go_simp; all_goals (with_reducible rfl))
        try simp only [Act.put, List.setIfInBounds_toArray, List.set_cons_zero, List.set_cons_succ]
        refine wpAnyH_ready (rs := [12, 13]) (by kernel_rfl) (by simp) ?_
        refine AllReadyH.cons rfl (fun K hK => ?_) (AllReadyH.cons rfl (fun K hK => ?_) AllReadyH.nil)
        · skip
          have hba : Below w'.heap.size w' (w'.alloc (.cells #[.int .u64 0, .int .i64 0, .slice none 0 0, .slice none 0 0, .int .i64 0] 29 (0, 0))) := (Below.refl _ _).alloc (Nat.le_refl _) _
          have HWX : Hid (Below w2.heap.size w2 (w'.alloc (.cells #[.int .u64 0, .int .i64 0, .slice none 0 0, .slice none 0 0, .int .i64 0] 29 (0, 0)))) := HWW.out.trans (hba.mono HWW.out.size)
          have HAX : Hid (Cfo (w'.alloc (.cells #[.int .u64 0, .int .i64 0, .slice none 0 0, .slice none 0 0, .int .i64 0] 29 (0, 0))) 0 (.agg (carr re rs (.slice ai m ci) (.slice ab m cb) rle)) ⟨re, rs, rl, rle⟩) := HAA.out.later hba
          have HUX : Hid (Rfr (w'.alloc (.cells #[.int .u64 0, .int .i64 0, .slice none 0 0, .slice none 0 0, .int .i64 0] 29 (0, 0))) (.agg (rarr re rs (.slice am m cm) rle)) ⟨re, rs, rl, rle⟩) := HUU.out.later hba
          have HB10 : Hid ((w'.alloc (.cells #[.int .u64 0, .int .i64 0, .slice none 0 0, .slice none 0 0, .int .i64 0] 29 (0, 0))).heap[w'.heap.size]? = some (.cells #[.int .u64 0, .int .i64 0, .slice none 0 0, .slice none 0 0, .int .i64 0] 29 (0, 0))) := heap_alloc_new _ _
          have hsp : Hid (w2.heap.size ≤ w'.heap.size) := HWW.out.size
          go_simp
          refine hK.out _ _ (HS.out _ HWX.out) (fun hHeld => ?_)
          clear hK K hba HWW HAA HUU
          try simp only [Act.put, List.setIfInBounds_toArray, List.set_cons_zero, List.set_cons_succ]
          generalize w'.heap.size = p10 at *
          generalize (w'.alloc (.cells #[.int .u64 0, .int .i64 0, .slice none 0 0, .slice none 0 0, .int .i64 0] 29 (0, 0))) = w8 at *
          have s10 := hsp.out
          clear hsp
          have HWW := HWX
          have HAA := HAX
          have HUU := HUX
          clear HWX HAX HUX
          refine wpAnyH_ready (rs := [13]) (by kernel_rfl) (by simp) ?_
          refine AllReadyH.cons rfl (fun K hK => ?_) AllReadyH.nil
          have hba : Below w8.heap.size w8 (w8.alloc (.cells #[.int .u64 0, .int .i64 0, .slice none 0 0, .int .i64 0] 25 (0, 0))) := (Below.refl _ _).alloc (Nat.le_refl _) _
          have HWX : Hid (Below w2.heap.size w2 (w8.alloc (.cells #[.int .u64 0, .int .i64 0, .slice none 0 0, .int .i64 0] 25 (0, 0)))) := HWW.out.trans (hba.mono HWW.out.size)
          have HAX : Hid (Cfo (w8.alloc (.cells #[.int .u64 0, .int .i64 0, .slice none 0 0, .int .i64 0] 25 (0, 0))) 0 (.agg (carr re rs (.slice ai m ci) (.slice ab m cb) rle)) ⟨re, rs, rl, rle⟩) := HAA.out.later hba
          have HUX : Hid (Rfr (w8.alloc (.cells #[.int .u64 0, .int .i64 0, .slice none 0 0, .int .i64 0] 25 (0, 0))) (.agg (rarr re rs (.slice am m cm) rle)) ⟨re, rs, rl, rle⟩) := HUU.out.later hba
          have HB12 : Hid ((w8.alloc (.cells #[.int .u64 0, .int .i64 0, .slice none 0 0, .int .i64 0] 25 (0, 0))).heap[w8.heap.size]? = some (.cells #[.int .u64 0, .int .i64 0, .slice none 0 0, .int .i64 0] 25 (0, 0))) := heap_alloc_new _ _
          have hsp : Hid (w2.heap.size ≤ w8.heap.size) := HWW.out.size
          have HB10X : Hid ((w8.alloc (.cells #[.int .u64 0, .int .i64 0, .slice none 0 0, .int .i64 0] 25 (0, 0))).heap[p10]? = some (.cells #[.int .u64 0, .int .i64 0, .slice none 0 0, .slice none 0 0, .int .i64 0] 29 (0, 0))) := heap_kept HB10.out hba
          go_simp
          refine hK.out _ _ (HS.out _ HWX.out) (fun hHeld => ?_)
          clear hK K hba HWW HAA HUU
          try simp only [Act.put, List.setIfInBounds_toArray, List.set_cons_zero, List.set_cons_succ]
          generalize w8.heap.size = p12 at *
          generalize (w8.alloc (.cells #[.int .u64 0, .int .i64 0, .slice none 0 0, .int .i64 0] 25 (0, 0))) = w8' at *
          have s12 := hsp.out
          clear hsp
          have HWW := HWX
          have HAA := HAX
          have HUU := HUX
          clear HWX HAX HUX
          clear HB10
          have HB10 := HB10X
          clear HB10X
          have HNE : Hid (p12 ≠ p10) := block_ne (tagOf_heap HB12.out) (tagOf_heap HB10.out) (by decide)
          obtain ⟨z0, z1, z2, z3, z4⟩ := five_cells HB10.out
          obtain ⟨g0, g1, g2, g3, g4⟩ := five_frozen HB10.out
          have HF5 : Hid ((put5 w8' p10 (.int .u64 (re : Nat)) (.int .i64 rs) (.slice ai m ci) (.slice ab m cb) (.int .i64 rle)).heap[p10]? = some (.cells (carr re rs (.slice ai m ci) (.slice ab m cb) rle) 29)) := five_put HB10.out
          have HT5 : Hid ((put5 w8' p10 (.int .u64 (re : Nat)) (.int .i64 rs) (.slice ai m ci) (.slice ab m cb) (.int .i64 rle)).heap[p12]? = some (.cells #[.int .u64 0, .int .i64 0, .slice none 0 0, .int .i64 0] 25 (0, 0))) := (put5_other _ _ _ _ _ HNE.out).trans HB12.out
          have HB5 : Hid (Below w2.heap.size w2 (put5 w8' p10 (.int .u64 (re : Nat)) (.int .i64 rs) (.slice ai m ci) (.slice ab m cb) (.int .i64 rle))) := below_put5 HWW.out s10 _ _ _ _ _
          have HK5 : Hid (∀ k, k ≠ p10 → (put5 w8' p10 (.int .u64 (re : Nat)) (.int .i64 rs) (.slice ai m ci) (.slice ab m cb) (.int .i64 rle)).heap[k]? = w8'.heap[k]?) := fun k hk => put5_other _ _ _ _ _ hk
          unfold put5 at HF5 HT5 HB5 HK5
          refine wpAnyH_ready (rs := [14]) (by kernel_rfl) (by simp) ?_
          refine AllReadyH.cons rfl (fun K hK => ?_) AllReadyH.nil
          go_simp
          refine hK.out _ _ (HS.out _ HB5.out) (fun hHeld => ?_)
          clear hK K hHeld
          try simp only [Act.put, List.setIfInBounds_toArray, List.set_cons_zero, List.set_cons_succ]
          generalize (((((w8'.setCell ⟨p10, 0, none⟩ (.int .u64 (re : Nat))).setCell ⟨p10, 1, none⟩ (.int .i64 rs)).setCell ⟨p10, 2, none⟩ (.slice ai m ci)).setCell ⟨p10, 3, none⟩ (.slice ab m cb)).setCell ⟨p10, 4, none⟩ (.int .i64 rle)) = w9 at *
          clear z0 z1 z2 z3 z4 g0 g1 g2 g3 g4
          refine wpAnyH_ready (rs := [15]) (by kernel_rfl) (by simp) ?_
          refine AllReadyH.cons rfl (fun K hK => ?_) AllReadyH.nil
          go_simp
          refine hK.out _ _ (HS.out _ HB5.out) (fun hHeld => ?_)
          clear hK K hHeld
          try simp only [Act.put, List.setIfInBounds_toArray, List.set_cons_zero, List.set_cons_succ]
          obtain ⟨z0, z1, z2, z3⟩ := four_cells HT5.out
          obtain ⟨g0, g1, g2, g3⟩ := four_frozen HT5.out
          have HF4 : Hid ((put4 w9 p12 (.int .u64 (re : Nat)) (.int .i64 rs) (.slice am m cm) (.int .i64 rle)).heap[p12]? = some (.cells (rarr re rs (.slice am m cm) rle) 25)) := four_put HT5.out
          have HF6 : Hid ((put4 w9 p12 (.int .u64 (re : Nat)) (.int .i64 rs) (.slice am m cm) (.int .i64 rle)).heap[p10]? = some (.cells (carr re rs (.slice ai m ci) (.slice ab m cb) rle) 29)) := (put4_other _ _ _ _ (fun e => HNE.out e.symm)).trans HF5.out
          have HB6 : Hid (Below w2.heap.size w2 (put4 w9 p12 (.int .u64 (re : Nat)) (.int .i64 rs) (.slice am m cm) (.int .i64 rle))) := below_put4 HB5.out s12 _ _ _ _
          have HK6 : Hid (∀ k, k ≠ p10 → k ≠ p12 → (put4 w9 p12 (.int .u64 (re : Nat)) (.int .i64 rs) (.slice am m cm) (.int .i64 rle)).heap[k]? = w8'.heap[k]?) := fun k h1 h2 => (put4_other _ _ _ _ h2).trans (HK5.out k h1)
          unfold put4 at HF4 HF6 HB6 HK6
          refine wpAnyH_ready (rs := [16]) (by kernel_rfl) (by simp) ?_
          refine AllReadyH.cons rfl (fun K hK => ?_) AllReadyH.nil
          go_simp
          refine hK.out _ _ (HS.out _ HB6.out) (fun hHeld => ?_)
          clear hK K hHeld
          try simp only [Act.put, List.setIfInBounds_toArray, List.set_cons_zero, List.set_cons_succ]
          generalize ((((w9.setCell ⟨p12, 0, none⟩ (.int .u64 (re : Nat))).setCell ⟨p12, 1, none⟩ (.int .i64 rs)).setCell ⟨p12, 2, none⟩ (.slice am m cm)).setCell ⟨p12, 3, none⟩ (.int .i64 rle)) = w10 at *
          clear z0 z1 z2 z3 g0 g1 g2 g3
          refine wpAnyH_ready (rs := [17]) (by kernel_rfl) (by simp) ?_
          refine AllReadyH.cons rfl (fun K hK => ?_) AllReadyH.nil
          go_simp
          refine hK.out _ _ (HS.out _ HB6.out) (fun hHeld => ?_)
          clear hK K hHeld
          try simp only [Act.put, List.setIfInBounds_toArray, List.set_cons_zero, List.set_cons_succ]
          refine wpAnyH_done (by kernel_rfl) ?_ _
          refine NoPanic.normal ?_
          have hkk : ∀ k t, tagOf w8' k = some t → t ≠ 29 → t ≠ 25 → w10.heap[k]? = w8'.heap[k]? := fun k t ht h1 h2 => HK6.out k (tag_ne HB10.out h1 ht) (tag_ne HB12.out h2 ht)
          have HA10 : Hid (Cfr w10 (.agg (carr re rs (.slice ai m ci) (.slice ab m cb) rle)) ⟨re, rs, rl, rle⟩) := by
            obtain ⟨va, vb, e, h1, h2, h3⟩ := HAA.out
            exact Cfo.read ⟨va, vb, e, own_same h1 (fun k _ ht => hkk k 3 ht (by decide) (by decide)), own_same h2 (fun k _ ht => hkk k 4 ht (by decide) (by decide)), h3⟩
          have HU10 : Hid (Rfr w10 (.agg (rarr re rs (.slice am m cm) rle)) ⟨re, rs, rl, rle⟩) := by
            obtain ⟨am', cm', e, hm, h3⟩ := HUU.out
            refine ⟨am', cm', e, ?_, h3⟩
            by_cases h0 : 0 < rl.length
            · obtain ⟨b9, off9, e9, hc⟩ := hm.at h0
              subst e9
              have n1 := hm.ne h0 HB10.out rfl
              have n2 := hm.ne h0 HB12.out rfl
              exact .inr ⟨b9, off9, rfl, fun i m hi => by rw [cell_same (HK6.out b9 n1 n2), cell_same (HK6.out b9 n1 n2)]; exact hc i m hi⟩
            · exact .inl (show rl = [] from List.length_eq_zero_iff.1 (by omega))
          have HB10' : Hid (Below w.heap.size w w10) := HB2.out.trans (HB6.out.mono HB2.out.size)
          clear hkk HK5 HK6 HAA HUU HF5 HT5 HB5 HB10 HB12
          obtain ⟨x0, x1, x2, x3, x4⟩ := five_cells HF6.out
          obtain ⟨y0, y1, y2, y3⟩ := four_cells HF4.out
          have hp := plain_any _ _ _ (HA10.out.later (Below.refl _ w10).drew) (by show rl.length ≤ 900; rw [HRLN.out]; omega)
          have hee : (rn == rn) = true := by simp
          have hmm : ((m : Int) == (m : Int)) = true := by simp
          go_upto_region 3 with fail
          refine wp_region_noPanic ?_
          refine wp_region_held_drew (S := fun w' => (w'.cell? ⟨p10, 0, none⟩ = some (.int .u64 (re : Nat)) ∧ w'.cell? ⟨p10, 1, none⟩ = some (.int .i64 rs) ∧ w'.cell? ⟨p10, 2, none⟩ = some (.slice ai m ci) ∧ w'.cell? ⟨p10, 3, none⟩ = some (.slice ab m cb) ∧ w'.cell? ⟨p10, 4, none⟩ = some (.int .i64 rle)) ∧ (w'.cell? ⟨p12, 0, none⟩ = some (.int .u64 (re : Nat)) ∧ w'.cell? ⟨p12, 1, none⟩ = some (.int .i64 rs) ∧ w'.cell? ⟨p12, 2, none⟩ = some (.slice am m cm) ∧ w'.cell? ⟨p12, 3, none⟩ = some (.int .i64 rle))) (by kernel_rfl) ?_ (fun hHeld => ?_)
          · exact ⟨⟨x0, x1, x2, x3, x4⟩, ⟨y0, y1, y2, y3⟩⟩
          refine held_take (i := 0) (d := 28) (v := ?_) rfl rfl (by kernel_rfl) (by kernel_rfl) (by kernel_rfl) (fun _ _ _ h => h) (Or.inl ⟨by rfl, ?_⟩) hHeld ?_
          rotate_left
          · (intro w hSw; (try dsimp only at hSw); go_simp; all_goals (with_reducible rfl))
          try simp only [Act.put, List.setIfInBounds_toArray, List.set_cons_zero, List.set_cons_succ]
          refine held_take (i := 1) (d := 29) (v := ?_) rfl rfl (by kernel_rfl) (by kernel_rfl) (by kernel_rfl) (fun _ _ _ h => h) (Or.inl ⟨by rfl, ?_⟩) hHeld ?_
          rotate_left
          · (intro w hSw; (try dsimp only at hSw); go_simp; all_goals (with_reducible rfl))
          try simp only [Act.put, List.setIfInBounds_toArray, List.set_cons_zero, List.set_cons_succ]
          refine held_take (i := 2) (d := 30) (v := ?_) rfl rfl (by kernel_rfl) (by kernel_rfl) (by kernel_rfl) (fun _ _ _ h => h) (Or.inl ⟨by rfl, ?_⟩) hHeld ?_
          rotate_left
          · (intro w hSw; (try dsimp only at hSw); go_simp; all_goals (with_reducible rfl))
          try simp only [Act.put, List.setIfInBounds_toArray, List.set_cons_zero, List.set_cons_succ]
          refine held_take (i := 3) (d := 31) (v := ?_) rfl rfl (by kernel_rfl) (by kernel_rfl) (by kernel_rfl) (fun _ _ _ h => h) (Or.inl ⟨by rfl, ?_⟩) hHeld ?_
          rotate_left
          · (intro w hSw; (try dsimp only at hSw); go_simp; all_goals (with_reducible rfl))
          try simp only [Act.put, List.setIfInBounds_toArray, List.set_cons_zero, List.set_cons_succ]
          refine held_take (i := 4) (d := 32) (v := ?_) rfl rfl (by kernel_rfl) (by kernel_rfl) (by kernel_rfl) (fun _ _ _ h => h) (Or.inl ⟨by rfl, ?_⟩) hHeld ?_
          rotate_left
          · (intro w hSw; (try dsimp only at hSw); go_simp; all_goals (with_reducible rfl))
          try simp only [Act.put, List.setIfInBounds_toArray, List.set_cons_zero, List.set_cons_succ]
          refine held_take (i := 6) (d := 34) (v := ?_) rfl rfl (by kernel_rfl) (by kernel_rfl) (by kernel_rfl) (fun _ _ _ h => h) (Or.inl ⟨by rfl, ?_⟩) hHeld ?_
          rotate_left
          · (intro w hSw; (try dsimp only at hSw); go_simp; all_goals (with_reducible rfl))
          try simp only [Act.put, List.setIfInBounds_toArray, List.set_cons_zero, List.set_cons_succ]
          refine wpAnyH_ready (rs := [5]) (by kernel_rfl) (by simp) ?_
          refine AllReadyH.cons rfl (fun K hK => ?_) AllReadyH.nil
          go_simp
          refine hp.mono ?_
          rintro e w11 ⟨⟨vp, rfl, hvp⟩, hb11⟩
          have b11 : Below w10.heap.size w10 w11 := (Below.refl _ w10).drew.trans hb11
          have HP11 : Hid (Rfr w11 vp ⟨re, rs, rl, rle⟩) := hvp.read
          obtain ⟨apx, cpx, rfl, hmp, -⟩ := hvp.read
          simp only at hmp ⊢
          rw [HRLN.out]
          have HR11 : Hid (Rfr w11 (.agg (rarr re rs (.slice apx m cpx) rle)) ⟨re, rs, rl, rle⟩) := ⟨apx, cpx, by rw [HRLN.out], hmp, by show rl.length ≤ 100000; rw [HRLN.out]; omega⟩
          have f11 := heap_kept HF6.out b11
          have t11 := heap_kept HF4.out b11
          have hs := rsame_any _ _ _ _ HR11.out (HU10.out.later b11)
          have HB11 : Hid (Below w.heap.size w w11) := HB10'.out.trans (b11.mono HB10'.out.size)
          go_wp2_with fail
          refine hK.out _ _ ?_ (fun hHeld => ?_)
          · exact ⟨five_cells f11, four_cells t11⟩
          clear hK K
          try simp only [Act.put, List.setIfInBounds_toArray, List.set_cons_zero, List.set_cons_succ]
          refine wpAnyH_ready (rs := [7]) (by kernel_rfl) (by simp) ?_
          refine AllReadyH.cons rfl (fun K hK => ?_) AllReadyH.nil
          go_simp
          refine hs.mono ?_
          rintro e w12 ⟨rfl, hb12⟩
          have f12 := heap_kept f11 hb12
          have t12 := heap_kept t11 hb12
          have HB12' : Hid (Below w.heap.size w w12) := HB11.out.trans (hb12.mono HB11.out.size)
          go_wp2_with fail
          refine hK.out _ _ ?_ (fun hHeld => ?_)
          · exact ⟨five_cells f12, four_cells t12⟩
          clear hK K
          try simp only [Act.put, List.setIfInBounds_toArray, List.set_cons_zero, List.set_cons_succ]
          refine held_take (i := 8) (d := 36) (v := ?_) rfl rfl (by kernel_rfl) (by kernel_rfl) (by kernel_rfl) (fun _ _ _ h => h) (Or.inl ⟨by rfl, ?_⟩) hHeld ?_
          rotate_left
          · (intro w hSw; (try dsimp only at hSw); go_simp; all_goals (with_reducible rfl))
          try simp only [Act.put, List.setIfInBounds_toArray, List.set_cons_zero, List.set_cons_succ]
          refine held_take (i := 9) (d := 37) (v := ?_) rfl rfl (by kernel_rfl) (by kernel_rfl) (by kernel_rfl) (fun _ _ _ h => h) (Or.inl ⟨by rfl, ?_⟩) hHeld ?_
          rotate_left
          · (intro w hSw; (try dsimp only at hSw); go_simp; all_goals (with_reducible rfl))
          try simp only [Act.put, List.setIfInBounds_toArray, List.set_cons_zero, List.set_cons_succ]
          refine held_take (i := 10) (d := 38) (v := ?_) rfl rfl (by kernel_rfl) (by kernel_rfl) (by kernel_rfl) (fun _ _ _ h => h) (Or.inl ⟨by rfl, ?_⟩) hHeld ?_
          rotate_left
          · (intro w hSw; (try dsimp only at hSw); go_simp; all_goals (with_reducible rfl))
          try simp only [Act.put, List.setIfInBounds_toArray, List.set_cons_zero, List.set_cons_succ]
          refine held_take (i := 11) (d := 39) (v := ?_) rfl rfl (by kernel_rfl) (by kernel_rfl) (by kernel_rfl) (fun _ _ _ h => h) (Or.inl ⟨by rfl, ?_⟩) hHeld ?_
          rotate_left
          · (intro w hSw; (try dsimp only at hSw); go_simp; all_goals (with_reducible rfl))
          try simp only [Act.put, List.setIfInBounds_toArray, List.set_cons_zero, List.set_cons_succ]
          refine held_take (i := 12) (d := 40) (v := ?_) rfl rfl (by kernel_rfl) (by kernel_rfl) (by kernel_rfl) (fun _ _ _ h => h) (Or.inl ⟨by rfl, ?_⟩) hHeld ?_
          rotate_left
          · (intro w hSw; (try dsimp only at hSw); go_simp; all_goals (with_reducible rfl))
          try simp only [Act.put, List.setIfInBounds_toArray, List.set_cons_zero, List.set_cons_succ]
          refine held_take (i := 13) (d := 41) (v := ?_) rfl rfl (by kernel_rfl) (by kernel_rfl) (by kernel_rfl) (fun _ _ _ h => h) (Or.inl ⟨by rfl, ?_⟩) hHeld ?_
          rotate_left
          · (intro w hSw; (try dsimp only at hSw); go_simp; all_goals (with_reducible rfl))
          try simp only [Act.put, List.setIfInBounds_toArray, List.set_cons_zero, List.set_cons_succ]
          refine held_take (i := 14) (d := 42) (v := ?_) rfl rfl (by kernel_rfl) (by kernel_rfl) (by kernel_rfl) (fun _ _ _ h => h) (Or.inl ⟨by rfl, ?_⟩) hHeld ?_
          rotate_left
          · (intro w hSw; (try dsimp only at hSw); go_simp; all_goals (with_reducible rfl))
          try simp only [Act.put, List.setIfInBounds_toArray, List.set_cons_zero, List.set_cons_succ]
          refine held_take (i := 15) (d := 43) (v := ?_) rfl rfl (by kernel_rfl) (by kernel_rfl) (by kernel_rfl) (fun _ _ _ h => h) (Or.inl ⟨by rfl, ?_⟩) hHeld ?_
          rotate_left
          · (intro w hSw; (try dsimp only at hSw); go_simp; all_goals (with_reducible rfl))
          try simp only [Act.put, List.setIfInBounds_toArray, List.set_cons_zero, List.set_cons_succ]
          refine held_take (i := 16) (d := 44) (v := ?_) rfl rfl (by kernel_rfl) (by kernel_rfl) (by kernel_rfl) (fun _ _ _ h => h) (Or.inl ⟨by rfl, ?_⟩) hHeld ?_
          rotate_left
          · (intro w hSw; (try dsimp only at hSw); go_simp; all_goals (with_reducible rfl))
          try simp only [Act.put, List.setIfInBounds_toArray, List.set_cons_zero, List.set_cons_succ]
          refine held_take (i := 17) (d := 45) (v := ?_) rfl rfl (by kernel_rfl) (by kernel_rfl) (by kernel_rfl) (fun _ _ _ h => h) (Or.inl ⟨by rfl, ?_⟩) hHeld ?_
          rotate_left
          · (intro w hSw; (try dsimp only at hSw); go_simp; all_goals (with_reducible rfl))
          try simp only [Act.put, List.setIfInBounds_toArray, List.set_cons_zero, List.set_cons_succ]
          refine held_take (i := 18) (d := 46) (v := ?_) rfl rfl (by kernel_rfl) (by kernel_rfl) (by kernel_rfl) (fun _ _ _ h => h) (Or.inl ⟨by rfl, ?_⟩) hHeld ?_
          rotate_left
          · (intro w hSw; (try dsimp only at hSw); go_simp; all_goals (with_reducible rfl))
          try simp only [Act.put, List.setIfInBounds_toArray, List.set_cons_zero, List.set_cons_succ]
          refine wpAnyH_ready (rs := [19]) (by kernel_rfl) (by simp) ?_
          refine AllReadyH.cons rfl (fun K hK => ?_) AllReadyH.nil
          go_simp
          refine (awake_any w12).mono ?_
          rintro e w13 ⟨rfl, hb13⟩
          have f13 := heap_kept f12 hb13
          have t13 := heap_kept t12 hb13
          have HB13 : Hid (Below w.heap.size w w13) := HB12'.out.trans (hb13.mono HB12'.out.size)
          go_wp2_with fail
          refine hK.out _ _ ?_ (fun hHeld => ?_)
          · exact ⟨five_cells f13, four_cells t13⟩
          clear hK K
          try simp only [Act.put, List.setIfInBounds_toArray, List.set_cons_zero, List.set_cons_succ]
          refine held_take (i := 20) (d := 48) (v := ?_) rfl rfl (by kernel_rfl) (by kernel_rfl) (by kernel_rfl) (fun _ _ _ h => h) (Or.inl ⟨by rfl, ?_⟩) hHeld ?_
          rotate_left
          · (intro w hSw; (try dsimp only at hSw); go_simp; all_goals (with_reducible rfl))
          try simp only [Act.put, List.setIfInBounds_toArray, List.set_cons_zero, List.set_cons_succ]
          refine held_take (i := 21) (d := 8) (v := ?_) rfl rfl (by kernel_rfl) (by kernel_rfl) (by kernel_rfl) (fun _ _ _ h => h) (Or.inl ⟨by rfl, ?_⟩) hHeld ?_
          rotate_left
          · (intro w hSw; (try dsimp only at hSw); go_simp; all_goals (with_reducible rfl))
          try simp only [Act.put, List.setIfInBounds_toArray, List.set_cons_zero, List.set_cons_succ]
          refine wpAnyH_done (by kernel_rfl) ?_ _
          refine NoPanic.normal ?_
          go_wp2
          go_ret
          exact ⟨rfl, HB13.out⟩
        · skip
          have hba : Below w'.heap.size w' (w'.alloc (.cells #[.int .u64 0, .int .i64 0, .slice none 0 0, .int .i64 0] 25 (0, 0))) := (Below.refl _ _).alloc (Nat.le_refl _) _
          have HWX : Hid (Below w2.heap.size w2 (w'.alloc (.cells #[.int .u64 0, .int .i64 0, .slice none 0 0, .int .i64 0] 25 (0, 0)))) := HWW.out.trans (hba.mono HWW.out.size)
          have HAX : Hid (Cfo (w'.alloc (.cells #[.int .u64 0, .int .i64 0, .slice none 0 0, .int .i64 0] 25 (0, 0))) 0 (.agg (carr re rs (.slice ai m ci) (.slice ab m cb) rle)) ⟨re, rs, rl, rle⟩) := HAA.out.later hba
          have HUX : Hid (Rfr (w'.alloc (.cells #[.int .u64 0, .int .i64 0, .slice none 0 0, .int .i64 0] 25 (0, 0))) (.agg (rarr re rs (.slice am m cm) rle)) ⟨re, rs, rl, rle⟩) := HUU.out.later hba
          have HB12 : Hid ((w'.alloc (.cells #[.int .u64 0, .int .i64 0, .slice none 0 0, .int .i64 0] 25 (0, 0))).heap[w'.heap.size]? = some (.cells #[.int .u64 0, .int .i64 0, .slice none 0 0, .int .i64 0] 25 (0, 0))) := heap_alloc_new _ _
          have hsp : Hid (w2.heap.size ≤ w'.heap.size) := HWW.out.size
          go_simp
          refine hK.out _ _ (HS.out _ HWX.out) (fun hHeld => ?_)
          clear hK K hba HWW HAA HUU
          try simp only [Act.put, List.setIfInBounds_toArray, List.set_cons_zero, List.set_cons_succ]
          generalize w'.heap.size = p12 at *
          generalize (w'.alloc (.cells #[.int .u64 0, .int .i64 0, .slice none 0 0, .int .i64 0] 25 (0, 0))) = w8 at *
          have s12 := hsp.out
          clear hsp
          have HWW := HWX
          have HAA := HAX
          have HUU := HUX
          clear HWX HAX HUX
          refine wpAnyH_ready (rs := [12]) (by kernel_rfl) (by simp) ?_
          refine AllReadyH.cons rfl (fun K hK => ?_) AllReadyH.nil
          have hba : Below w8.heap.size w8 (w8.alloc (.cells #[.int .u64 0, .int .i64 0, .slice none 0 0, .slice none 0 0, .int .i64 0] 29 (0, 0))) := (Below.refl _ _).alloc (Nat.le_refl _) _
          have HWX : Hid (Below w2.heap.size w2 (w8.alloc (.cells #[.int .u64 0, .int .i64 0, .slice none 0 0, .slice none 0 0, .int .i64 0] 29 (0, 0)))) := HWW.out.trans (hba.mono HWW.out.size)
          have HAX : Hid (Cfo (w8.alloc (.cells #[.int .u64 0, .int .i64 0, .slice none 0 0, .slice none 0 0, .int .i64 0] 29 (0, 0))) 0 (.agg (carr re rs (.slice ai m ci) (.slice ab m cb) rle)) ⟨re, rs, rl, rle⟩) := HAA.out.later hba
          have HUX : Hid (Rfr (w8.alloc (.cells #[.int .u64 0, .int .i64 0, .slice none 0 0, .slice none 0 0, .int .i64 0] 29 (0, 0))) (.agg (rarr re rs (.slice am m cm) rle)) ⟨re, rs, rl, rle⟩) := HUU.out.later hba
          have HB10 : Hid ((w8.alloc (.cells #[.int .u64 0, .int .i64 0, .slice none 0 0, .slice none 0 0, .int .i64 0] 29 (0, 0))).heap[w8.heap.size]? = some (.cells #[.int .u64 0, .int .i64 0, .slice none 0 0, .slice none 0 0, .int .i64 0] 29 (0, 0))) := heap_alloc_new _ _
          have hsp : Hid (w2.heap.size ≤ w8.heap.size) := HWW.out.size
          have HB12X : Hid ((w8.alloc (.cells #[.int .u64 0, .int .i64 0, .slice none 0 0, .slice none 0 0, .int .i64 0] 29 (0, 0))).heap[p12]? = some (.cells #[.int .u64 0, .int .i64 0, .slice none 0 0, .int .i64 0] 25 (0, 0))) := heap_kept HB12.out hba
          go_simp
          refine hK.out _ _ (HS.out _ HWX.out) (fun hHeld => ?_)
          clear hK K hba HWW HAA HUU
          try simp only [Act.put, List.setIfInBounds_toArray, List.set_cons_zero, List.set_cons_succ]
          generalize w8.heap.size = p10 at *
          generalize (w8.alloc (.cells #[.int .u64 0, .int .i64 0, .slice none 0 0, .slice none 0 0, .int .i64 0] 29 (0, 0))) = w8' at *
          have s10 := hsp.out
          clear hsp
          have HWW := HWX
          have HAA := HAX
          have HUU := HUX
          clear HWX HAX HUX
          clear HB12
          have HB12 := HB12X
          clear HB12X
          have HNE : Hid (p12 ≠ p10) := block_ne (tagOf_heap HB12.out) (tagOf_heap HB10.out) (by decide)
          obtain ⟨z0, z1, z2, z3, z4⟩ := five_cells HB10.out
          obtain ⟨g0, g1, g2, g3, g4⟩ := five_frozen HB10.out
          have HF5 : Hid ((put5 w8' p10 (.int .u64 (re : Nat)) (.int .i64 rs) (.slice ai m ci) (.slice ab m cb) (.int .i64 rle)).heap[p10]? = some (.cells (carr re rs (.slice ai m ci) (.slice ab m cb) rle) 29)) := five_put HB10.out
          have HT5 : Hid ((put5 w8' p10 (.int .u64 (re : Nat)) (.int .i64 rs) (.slice ai m ci) (.slice ab m cb) (.int .i64 rle)).heap[p12]? = some (.cells #[.int .u64 0, .int .i64 0, .slice none 0 0, .int .i64 0] 25 (0, 0))) := (put5_other _ _ _ _ _ HNE.out).trans HB12.out
          have HB5 : Hid (Below w2.heap.size w2 (put5 w8' p10 (.int .u64 (re : Nat)) (.int .i64 rs) (.slice ai m ci) (.slice ab m cb) (.int .i64 rle))) := below_put5 HWW.out s10 _ _ _ _ _
          have HK5 : Hid (∀ k, k ≠ p10 → (put5 w8' p10 (.int .u64 (re : Nat)) (.int .i64 rs) (.slice ai m ci) (.slice ab m cb) (.int .i64 rle)).heap[k]? = w8'.heap[k]?) := fun k hk => put5_other _ _ _ _ _ hk
          unfold put5 at HF5 HT5 HB5 HK5
          refine wpAnyH_ready (rs := [14]) (by kernel_rfl) (by simp) ?_
          refine AllReadyH.cons rfl (fun K hK => ?_) AllReadyH.nil
          go_simp
          refine hK.out _ _ (HS.out _ HB5.out) (fun hHeld => ?_)
          clear hK K hHeld
          try simp only [Act.put, List.setIfInBounds_toArray, List.set_cons_zero, List.set_cons_succ]
          generalize (((((w8'.setCell ⟨p10, 0, none⟩ (.int .u64 (re : Nat))).setCell ⟨p10, 1, none⟩ (.int .i64 rs)).setCell ⟨p10, 2, none⟩ (.slice ai m ci)).setCell ⟨p10, 3, none⟩ (.slice ab m cb)).setCell ⟨p10, 4, none⟩ (.int .i64 rle)) = w9 at *
          clear z0 z1 z2 z3 z4 g0 g1 g2 g3 g4
          refine wpAnyH_ready (rs := [15]) (by kernel_rfl) (by simp) ?_
          refine AllReadyH.cons rfl (fun K hK => ?_) AllReadyH.nil
          go_simp
          refine hK.out _ _ (HS.out _ HB5.out) (fun hHeld => ?_)
          clear hK K hHeld
          try simp only [Act.put, List.setIfInBounds_toArray, List.set_cons_zero, List.set_cons_succ]
          obtain ⟨z0, z1, z2, z3⟩ := four_cells HT5.out
          obtain ⟨g0, g1, g2, g3⟩ := four_frozen HT5.out
          have HF4 : Hid ((put4 w9 p12 (.int .u64 (re : Nat)) (.int .i64 rs) (.slice am m cm) (.int .i64 rle)).heap[p12]? = some (.cells (rarr re rs (.slice am m cm) rle) 25)) := four_put HT5.out
          have HF6 : Hid ((put4 w9 p12 (.int .u64 (re : Nat)) (.int .i64 rs) (.slice am m cm) (.int .i64 rle)).heap[p10]? = some (.cells (carr re rs (.slice ai m ci) (.slice ab m cb) rle) 29)) := (put4_other _ _ _ _ (fun e => HNE.out e.symm)).trans HF5.out
          have HB6 : Hid (Below w2.heap.size w2 (put4 w9 p12 (.int .u64 (re : Nat)) (.int .i64 rs) (.slice am m cm) (.int .i64 rle))) := below_put4 HB5.out s12 _ _ _ _
          have HK6 : Hid (∀ k, k ≠ p10 → k ≠ p12 → (put4 w9 p12 (.int .u64 (re : Nat)) (.int .i64 rs) (.slice am m cm) (.int .i64 rle)).heap[k]? = w8'.heap[k]?) := fun k h1 h2 => (put4_other _ _ _ _ h2).trans (HK5.out k h1)
          unfold put4 at HF4 HF6 HB6 HK6
          refine wpAnyH_ready (rs := [16]) (by kernel_rfl) (by simp) ?_
          refine AllReadyH.cons rfl (fun K hK => ?_) AllReadyH.nil
          go_simp
          refine hK.out _ _ (HS.out _ HB6.out) (fun hHeld => ?_)
          clear hK K hHeld
          try simp only [Act.put, List.setIfInBounds_toArray, List.set_cons_zero, List.set_cons_succ]
          generalize ((((w9.setCell ⟨p12, 0, none⟩ (.int .u64 (re : Nat))).setCell ⟨p12, 1, none⟩ (.int .i64 rs)).setCell ⟨p12, 2, none⟩ (.slice am m cm)).setCell ⟨p12, 3, none⟩ (.int .i64 rle)) = w10 at *
          clear z0 z1 z2 z3 g0 g1 g2 g3
          refine wpAnyH_ready (rs := [17]) (by kernel_rfl) (by simp) ?_
          refine AllReadyH.cons rfl (fun K hK => ?_) AllReadyH.nil
          go_simp
          refine hK.out _ _ (HS.out _ HB6.out) (fun hHeld => ?_)
          clear hK K hHeld
          try simp only [Act.put, List.setIfInBounds_toArray, List.set_cons_zero, List.set_cons_succ]
          refine wpAnyH_done (by kernel_rfl) ?_ _
          refine NoPanic.normal ?_
          have hkk : ∀ k t, tagOf w8' k = some t → t ≠ 29 → t ≠ 25 → w10.heap[k]? = w8'.heap[k]? := fun k t ht h1 h2 => HK6.out k (tag_ne HB10.out h1 ht) (tag_ne HB12.out h2 ht)
          have HA10 : Hid (Cfr w10 (.agg (carr re rs (.slice ai m ci) (.slice ab m cb) rle)) ⟨re, rs, rl, rle⟩) := by
            obtain ⟨va, vb, e, h1, h2, h3⟩ := HAA.out
            exact Cfo.read ⟨va, vb, e, own_same h1 (fun k _ ht => hkk k 3 ht (by decide) (by decide)), own_same h2 (fun k _ ht => hkk k 4 ht (by decide) (by decide)), h3⟩
          have HU10 : Hid (Rfr w10 (.agg (rarr re rs (.slice am m cm) rle)) ⟨re, rs, rl, rle⟩) := by
            obtain ⟨am', cm', e, hm, h3⟩ := HUU.out
            refine ⟨am', cm', e, ?_, h3⟩
            by_cases h0 : 0 < rl.length
            · obtain ⟨b9, off9, e9, hc⟩ := hm.at h0
              subst e9
              have n1 := hm.ne h0 HB10.out rfl
              have n2 := hm.ne h0 HB12.out rfl
              exact .inr ⟨b9, off9, rfl, fun i m hi => by rw [cell_same (HK6.out b9 n1 n2), cell_same (HK6.out b9 n1 n2)]; exact hc i m hi⟩
            · exact .inl (show rl = [] from List.length_eq_zero_iff.1 (by omega))
          have HB10' : Hid (Below w.heap.size w w10) := HB2.out.trans (HB6.out.mono HB2.out.size)
          clear hkk HK5 HK6 HAA HUU HF5 HT5 HB5 HB10 HB12
          obtain ⟨x0, x1, x2, x3, x4⟩ := five_cells HF6.out
          obtain ⟨y0, y1, y2, y3⟩ := four_cells HF4.out
          have hp := plain_any _ _ _ (HA10.out.later (Below.refl _ w10).drew) (by show rl.length ≤ 900; rw [HRLN.out]; omega)
          have hee : (rn == rn) = true := by simp
          have hmm : ((m : Int) == (m : Int)) = true := by simp
          go_upto_region 3 with fail
          refine wp_region_noPanic ?_
          refine wp_region_held_drew (S := fun w' => (w'.cell? ⟨p10, 0, none⟩ = some (.int .u64 (re : Nat)) ∧ w'.cell? ⟨p10, 1, none⟩ = some (.int .i64 rs) ∧ w'.cell? ⟨p10, 2, none⟩ = some (.slice ai m ci) ∧ w'.cell? ⟨p10, 3, none⟩ = some (.slice ab m cb) ∧ w'.cell? ⟨p10, 4, none⟩ = some (.int .i64 rle)) ∧ (w'.cell? ⟨p12, 0, none⟩ = some (.int .u64 (re : Nat)) ∧ w'.cell? ⟨p12, 1, none⟩ = some (.int .i64 rs) ∧ w'.cell? ⟨p12, 2, none⟩ = some (.slice am m cm) ∧ w'.cell? ⟨p12, 3, none⟩ = some (.int .i64 rle))) (by kernel_rfl) ?_ (fun hHeld => ?_)
          · exact ⟨⟨x0, x1, x2, x3, x4⟩, ⟨y0, y1, y2, y3⟩⟩
          refine held_take (i := 0) (d := 28) (v := ?_) rfl rfl (by kernel_rfl) (by kernel_rfl) (by kernel_rfl) (fun _ _ _ h => h) (Or.inl ⟨by rfl, ?_⟩) hHeld ?_
          rotate_left
          · (intro w hSw; (try dsimp only at hSw); go_simp; all_goals (with_reducible rfl))
          try simp only [Act.put, List.setIfInBounds_toArray, List.set_cons_zero, List.set_cons_succ]
          refine held_take (i := 1) (d := 29) (v := ?_) rfl rfl (by kernel_rfl) (by kernel_rfl) (by kernel_rfl) (fun _ _ _ h => h) (Or.inl ⟨by rfl, ?_⟩) hHeld ?_
          rotate_left
          · (intro w hSw; (try dsimp only at hSw); go_simp; all_goals (with_reducible rfl))
          try simp only [Act.put, List.setIfInBounds_toArray, List.set_cons_zero, List.set_cons_succ]
          refine held_take (i := 2) (d := 30) (v := ?_) rfl rfl (by kernel_rfl) (by kernel_rfl) (by kernel_rfl) (fun _ _ _ h => h) (Or.inl ⟨by rfl, ?_⟩) hHeld ?_
          rotate_left
          · (intro w hSw; (try dsimp only at hSw); go_simp; all_goals (with_reducible rfl))
          try simp only [Act.put, List.setIfInBounds_toArray, List.set_cons_zero, List.set_cons_succ]
          refine held_take (i := 3) (d := 31) (v := ?_) rfl rfl (by kernel_rfl) (by kernel_rfl) (by kernel_rfl) (fun _ _ _ h => h) (Or.inl ⟨by rfl, ?_⟩) hHeld ?_
          rotate_left
          · (intro w hSw; (try dsimp only at hSw); go_simp; all_goals (with_reducible rfl))
          try simp only [Act.put, List.setIfInBounds_toArray, List.set_cons_zero, List.set_cons_succ]
          refine held_take (i := 4) (d := 32) (v := ?_) rfl rfl (by kernel_rfl) (by kernel_rfl) (by kernel_rfl) (fun _ _ _ h => h) (Or.inl ⟨by rfl, ?_⟩) hHeld ?_
          rotate_left
          · (intro w hSw; (try dsimp only at hSw); go_simp; all_goals (with_reducible rfl))
          try simp only [Act.put, List.setIfInBounds_toArray, List.set_cons_zero, List.set_cons_succ]
          refine held_take (i := 6) (d := 34) (v := ?_) rfl rfl (by kernel_rfl) (by kernel_rfl) (by kernel_rfl) (fun _ _ _ h => h) (Or.inl ⟨by rfl, ?_⟩) hHeld ?_
          rotate_left
          · (intro w hSw; (try dsimp only at hSw); go_simp; all_goals (with_reducible rfl))
          try simp only [Act.put, List.setIfInBounds_toArray, List.set_cons_zero, List.set_cons_succ]
          refine wpAnyH_ready (rs := [5]) (by kernel_rfl) (by simp) ?_
          refine AllReadyH.cons rfl (fun K hK => ?_) AllReadyH.nil
          go_simp
          refine hp.mono ?_
          rintro e w11 ⟨⟨vp, rfl, hvp⟩, hb11⟩
          have b11 : Below w10.heap.size w10 w11 := (Below.refl _ w10).drew.trans hb11
          have HP11 : Hid (Rfr w11 vp ⟨re, rs, rl, rle⟩) := hvp.read
          obtain ⟨apx, cpx, rfl, hmp, -⟩ := hvp.read
          simp only at hmp ⊢
          rw [HRLN.out]
          have HR11 : Hid (Rfr w11 (.agg (rarr re rs (.slice apx m cpx) rle)) ⟨re, rs, rl, rle⟩) := ⟨apx, cpx, by rw [HRLN.out], hmp, by show rl.length ≤ 100000; rw [HRLN.out]; omega⟩
          have f11 := heap_kept HF6.out b11
          have t11 := heap_kept HF4.out b11
          have hs := rsame_any _ _ _ _ HR11.out (HU10.out.later b11)
          have HB11 : Hid (Below w.heap.size w w11) := HB10'.out.trans (b11.mono HB10'.out.size)
          go_wp2_with fail
          refine hK.out _ _ ?_ (fun hHeld => ?_)
          · exact ⟨five_cells f11, four_cells t11⟩
          clear hK K
          try simp only [Act.put, List.setIfInBounds_toArray, List.set_cons_zero, List.set_cons_succ]
          refine wpAnyH_ready (rs := [7]) (by kernel_rfl) (by simp) ?_
          refine AllReadyH.cons rfl (fun K hK => ?_) AllReadyH.nil
          go_simp
          refine hs.mono ?_
          rintro e w12 ⟨rfl, hb12⟩
          have f12 := heap_kept f11 hb12
          have t12 := heap_kept t11 hb12
          have HB12' : Hid (Below w.heap.size w w12) := HB11.out.trans (hb12.mono HB11.out.size)
          go_wp2_with fail
          refine hK.out _ _ ?_ (fun hHeld => ?_)
          · exact ⟨five_cells f12, four_cells t12⟩
          clear hK K
          try simp only [Act.put, List.setIfInBounds_toArray, List.set_cons_zero, List.set_cons_succ]
          refine held_take (i := 8) (d := 36) (v := ?_) rfl rfl (by kernel_rfl) (by kernel_rfl) (by kernel_rfl) (fun _ _ _ h => h) (Or.inl ⟨by rfl, ?_⟩) hHeld ?_
          rotate_left
          · (intro w hSw; (try dsimp only at hSw); go_simp; all_goals (with_reducible rfl))
          try simp only [Act.put, List.setIfInBounds_toArray, List.set_cons_zero, List.set_cons_succ]
          refine held_take (i := 9) (d := 37) (v := ?_) rfl rfl (by kernel_rfl) (by kernel_rfl) (by kernel_rfl) (fun _ _ _ h => h) (Or.inl ⟨by rfl, ?_⟩) hHeld ?_
          rotate_left
          · (intro w hSw; (try dsimp only at hSw); go_simp; all_goals (with_reducible rfl))
          try simp only [Act.put, List.setIfInBounds_toArray, List.set_cons_zero, List.set_cons_succ]
          refine held_take (i := 10) (d := 38) (v := ?_) rfl rfl (by kernel_rfl) (by kernel_rfl) (by kernel_rfl) (fun _ _ _ h => h) (Or.inl ⟨by rfl, ?_⟩) hHeld ?_
          rotate_left
          · (intro w hSw; (try dsimp only at hSw); go_simp; all_goals (with_reducible rfl))
          try simp only [Act.put, List.setIfInBounds_toArray, List.set_cons_zero, List.set_cons_succ]
          refine held_take (i := 11) (d := 39) (v := ?_) rfl rfl (by kernel_rfl) (by kernel_rfl) (by kernel_rfl) (fun _ _ _ h => h) (Or.inl ⟨by rfl, ?_⟩) hHeld ?_
          rotate_left
          · (intro w hSw; (try dsimp only at hSw); go_simp; all_goals (with_reducible rfl))
          try simp only [Act.put, List.setIfInBounds_toArray, List.set_cons_zero, List.set_cons_succ]
          refine held_take (i := 12) (d := 40) (v := ?_) rfl rfl (by kernel_rfl) (by kernel_rfl) (by kernel_rfl) (fun _ _ _ h => h) (Or.inl ⟨by rfl, ?_⟩) hHeld ?_
          rotate_left
          · (intro w hSw; (try dsimp only at hSw); go_simp; all_goals (with_reducible rfl))
          try simp only [Act.put, List.setIfInBounds_toArray, List.set_cons_zero, List.set_cons_succ]
          refine held_take (i := 13) (d := 41) (v := ?_) rfl rfl (by kernel_rfl) (by kernel_rfl) (by kernel_rfl) (fun _ _ _ h => h) (Or.inl ⟨by rfl, ?_⟩) hHeld ?_
          rotate_left
          · (intro w hSw; (try dsimp only at hSw); go_simp; all_goals (with_reducible rfl))
          try simp only [Act.put, List.setIfInBounds_toArray, List.set_cons_zero, List.set_cons_succ]
          refine held_take (i := 14) (d := 42) (v := ?_) rfl rfl (by kernel_rfl) (by kernel_rfl) (by kernel_rfl) (fun _ _ _ h => h) (Or.inl ⟨by rfl, ?_⟩) hHeld ?_
          rotate_left
          · (intro w hSw; (try dsimp only at hSw); go_simp; all_goals (with_reducible rfl))
          try simp only [Act.put, List.setIfInBounds_toArray, List.set_cons_zero, List.set_cons_succ]
          refine held_take (i := 15) (d := 43) (v := ?_) rfl rfl (by kernel_rfl) (by kernel_rfl) (by kernel_rfl) (fun _ _ _ h => h) (Or.inl ⟨by rfl, ?_⟩) hHeld ?_
          rotate_left
          · (intro w hSw; (try dsimp only at hSw); go_simp; all_goals (with_reducible rfl))
          try simp only [Act.put, List.setIfInBounds_toArray, List.set_cons_zero, List.set_cons_succ]
          refine held_take (i := 16) (d := 44) (v := ?_) rfl rfl (by kernel_rfl) (by kernel_rfl) (by kernel_rfl) (fun _ _ _ h => h) (Or.inl ⟨by rfl, ?_⟩) hHeld ?_
          rotate_left
          · (intro w hSw; (try dsimp only at hSw); go_simp; all_goals (with_reducible rfl))
          try simp only [Act.put, List.setIfInBounds_toArray, List.set_cons_zero, List.set_cons_succ]
          refine held_take (i := 17) (d := 45) (v := ?_) rfl rfl (by kernel_rfl) (by kernel_rfl) (by kernel_rfl) (fun _ _ _ h => h) (Or.inl ⟨by rfl, ?_⟩) hHeld ?_
          rotate_left
          · (intro w hSw; (try dsimp only at hSw); go_simp; all_goals (with_reducible rfl))
          try simp only [Act.put, List.setIfInBounds_toArray, List.set_cons_zero, List.set_cons_succ]
          refine held_take (i := 18) (d := 46) (v := ?_) rfl rfl (by kernel_rfl) (by kernel_rfl) (by kernel_rfl) (fun _ _ _ h => h) (Or.inl ⟨by rfl, ?_⟩) hHeld ?_
          rotate_left
          · (intro w hSw; (try dsimp only at hSw); go_simp; all_goals (with_reducible rfl))
          try simp only [Act.put, List.setIfInBounds_toArray, List.set_cons_zero, List.set_cons_succ]
          refine wpAnyH_ready (rs := [19]) (by kernel_rfl) (by simp) ?_
          refine AllReadyH.cons rfl (fun K hK => ?_) AllReadyH.nil
          go_simp
          refine (awake_any w12).mono ?_
          rintro e w13 ⟨rfl, hb13⟩
          have f13 := heap_kept f12 hb13
          have t13 := heap_kept t12 hb13
          have HB13 : Hid (Below w.heap.size w w13) := HB12'.out.trans (hb13.mono HB12'.out.size)
          go_wp2_with fail
          refine hK.out _ _ ?_ (fun hHeld => ?_)
          · exact ⟨five_cells f13, four_cells t13⟩
          clear hK K
          try simp only [Act.put, List.setIfInBounds_toArray, List.set_cons_zero, List.set_cons_succ]
          refine held_take (i := 20) (d := 48) (v := ?_) rfl rfl (by kernel_rfl) (by kernel_rfl) (by kernel_rfl) (fun _ _ _ h => h) (Or.inl ⟨by rfl, ?_⟩) hHeld ?_
          rotate_left
          · (intro w hSw; (try dsimp only at hSw); go_simp; all_goals (with_reducible rfl))
          try simp only [Act.put, List.setIfInBounds_toArray, List.set_cons_zero, List.set_cons_succ]
          refine held_take (i := 21) (d := 8) (v := ?_) rfl rfl (by kernel_rfl) (by kernel_rfl) (by kernel_rfl) (fun _ _ _ h => h) (Or.inl ⟨by rfl, ?_⟩) hHeld ?_
          rotate_left
          · (intro w hSw; (try dsimp only at hSw); go_simp; all_goals (with_reducible rfl))
          try simp only [Act.put, List.setIfInBounds_toArray, List.set_cons_zero, List.set_cons_succ]
          refine wpAnyH_done (by kernel_rfl) ?_ _
          refine NoPanic.normal ?_
          go_wp2
          go_ret
          exact ⟨rfl, HB13.out⟩
  | false =>
    right
    obtain ⟨m9, rfl⟩ : ∃ m9, nn = m9 + 1 := by
      refine ⟨nn - 1, ?_⟩
      have hb : ∀ b : Bool, b.toNat ≤ 1 := fun b => by cases b <;> simp
      have h1 := hb l2; have h8 := hb l12; have h9 := hb l13
      simp only [Bool.toNat_false] at hn
      omega
    refine ⟨m9, rfl, ?_, ?_⟩
    · clear o62 f2 f6 g12 g13 hbw hn
      revert l2 l12 l13
      decide +kernel
    · intro i hi
      have hcase : (i = 2 ∧ l2 = false) ∨ (i = 12 ∧ l12 = false) ∨ (i = 13 ∧ l13 = false) ∨ (i = 6 ∧ l2 = true) := by
        refine of_decide_eq_true (List.all_eq_true.1 (?_ : List.all _ (fun i => decide ((i = 2 ∧ l2 = false) ∨ (i = 12 ∧ l12 = false) ∨ (i = 13 ∧ l13 = false) ∨ (i = 6 ∧ l2 = true))) = true) i hi)
        clear hi o62 f2 f6 g12 g13 hbw hn
        revert l2 l12 l13
        decide +kernel
      clear hi
      rcases hcase with ⟨rfl, rfl⟩ | ⟨rfl, rfl⟩ | ⟨rfl, rfl⟩ | ⟨rfl, rfl⟩
      · have hcc := HC2.out.later hbw
        refine wpOp_shut rfl (fun K hK => ?_)
        go_simp
        refine (plain_any _ _ _ hcc (by show l.length ≤ 900; rw [HLN.out]; omega)).mono ?_
        rintro e w5 ⟨⟨vq, rfl, hvq⟩, hb5⟩
        have hb6 := hbw.trans (hb5.mono hbw.size)
        have hqq := hvq.read
        obtain ⟨xq, yq, rfl, hL, -⟩ := hvq.read
        simp only at hqq hL ⊢
        rw [HLN.out] at hqq ⊢
        have hq : Rfr w5 (.agg (rarr ep' sh' (.slice xq n' yq) le')) ⟨ep', sh', l, le'⟩ := hqq
        go_wp2_with fail
        exact hK.out _ _ ⟨HS.out _ hb6, true, false, l12, l13, v10, v12, (.agg (rarr ep' sh' (.slice xq n' yq) le')), v23, ai, ab, am, xq, ci, cb, cm, yq, by simp only [Bool.toNat_true, Bool.toNat_false] at hn ⊢; omega, rfl, rfl, (fun h => by cases h), fun _ => ⟨rfl, hq⟩, (fun h => by cases h), g12.later hb5, g13.later hb5, hb6⟩
      · have hb5 : Below w'.heap.size w' (w'.alloc (.cells #[.int .u64 0, .int .i64 0, .slice none 0 0, .slice none 0 0, .int .i64 0] 29 (0, 0))) := (Below.refl _ _).alloc (Nat.le_refl _) _
        have hb6 := hbw.trans (hb5.mono hbw.size)
        refine wpOp_shut rfl (fun K hK => ?_)
        go_simp
        exact hK.out _ _ ⟨HS.out _ hb6, l2, false, true, l13, .pointer (some ⟨w'.heap.size, 0, none⟩), v12, v19, v23, ai, ab, am, aq, ci, cb, cm, cq, by simp only [Bool.toNat_true, Bool.toNat_false] at hn ⊢; omega, rfl, rfl, (fun h => by cases h), fun h => ⟨(f2 h).1, (f2 h).2.later hb5⟩, (fun h => by cases h), Blk.new _ _ _ _ hbw.size, g13.later hb5, hb6⟩
      · have hb5 : Below w'.heap.size w' (w'.alloc (.cells #[.int .u64 0, .int .i64 0, .slice none 0 0, .int .i64 0] 25 (0, 0))) := (Below.refl _ _).alloc (Nat.le_refl _) _
        have hb6 := hbw.trans (hb5.mono hbw.size)
        refine wpOp_shut rfl (fun K hK => ?_)
        go_simp
        exact hK.out _ _ ⟨HS.out _ hb6, l2, false, l12, true, v10, .pointer (some ⟨w'.heap.size, 0, none⟩), v19, v23, ai, ab, am, aq, ci, cb, cm, cq, by simp only [Bool.toNat_true, Bool.toNat_false] at hn ⊢; omega, rfl, rfl, (fun h => by cases h), fun h => ⟨(f2 h).1, (f2 h).2.later hb5⟩, (fun h => by cases h), g12.later hb5, Blk.new _ _ _ _ hbw.size, hb6⟩
      · obtain ⟨rfl, hr2⟩ := f2 rfl
        have hcc := HC2.out.later hbw
        have htt := turn_any _ _ _ a1 a2 e0 _ hcc hr2 (by show l.length ≤ 900; rw [HLN.out]; omega)
        rw [HRR.out] at htt
        refine wpOp_shut rfl (fun K hK => ?_)
        go_simp
        refine htt.mono ?_
        rintro e w5 ⟨⟨va, vu, rfl, hva, hvu⟩, hb5⟩
        have hb6 := hbw.trans (hb5.mono hbw.size)
        have hva' := hva
        have hvu' := hvu
        obtain ⟨xa, xb, rfl, ho1, ho2, -⟩ := hva
        obtain ⟨am', cm', rfl, hmr, -⟩ := hvu
        have ho1' := ho1.shape
        have ho2' := ho2.shape
        obtain ⟨ai', ci', rfl, -⟩ := ho1'
        obtain ⟨ab', cb', rfl, -⟩ := ho2'
        simp only [List.length_map] at hva' hvu' ⊢
        rw [HRLN.out] at hva' hvu' ⊢
        have hA : Cfo w5 0 (.agg (carr re rs (.slice ai' m ci') (.slice ab' m cb') rle)) ⟨re, rs, rl, rle⟩ := hva'
        have hU : Rfr w5 (.agg (rarr re rs (.slice am' m cm') rle)) ⟨re, rs, rl, rle⟩ := hvu'
        go_wp2_with fail
        exact hK.out _ _ ⟨HS.out _ hb6, true, true, l12, l13, v10, v12, (.agg (rarr ep' sh' (.slice aq n' cq) le')), (.tuple #[(.agg (carr re rs (.slice ai' m ci') (.slice ab' m cb') rle)), .int .i64 rn, (.agg (rarr re rs (.slice am' m cm') rle)), .int .i64 rn]), ai', ab', am', aq, ci', cb', cm', cq, by simp only [Bool.toNat_true, Bool.toNat_false] at hn ⊢; omega, rfl, rfl, fun _ => rfl, fun _ => ⟨rfl, hr2.later hb5⟩, fun _ => ⟨rfl, hA, hU⟩, g12.later hb5, g13.later hb5, hb6⟩

/-! From the call to the statement. -/
set_option maxRecDepth 100000 in
theorem lifted (os : Os) (started : os.Started) (H : Type) (enc : TypeId × Value → H) :
    ReturnsInHanded {} Try.checked os 4 .any (Rows.confTurnsSpec.pre6 enc Try.prog Try.f4 Rows.confTurnsRow.domain false) (Rows.confTurnsSpec.post enc Try.prog Try.f4 false true false false) := by
  refine returnsInHanded_of_change (C := Try.checked) own started (by kernel_rfl) Try.func4
    (ChangeSpec.witness6 (enc := enc) (C := Try.checked) false ⟨#[], #[.agg #[.int .u64 0, .int .i64 0, .slice none 0 0, .int .i64 0], .int .i64 0, .int .i64 0, .int .u64 0], []⟩ 8 (by kernel_rfl) (by kernel_rfl) (by kernel_rfl) (by kernel_rfl)) ?_
  intro W base args ds gs before hval0 hW hcnd _
  have hval : ∀ (j : Nat) t v, Try.f4.params[j]? = some t → args[j]? = some v → Value.okWide Try.prog W .any base t v := hval0
  have hW' := hW
  obtain ⟨p, q, hA0, hV, rfl, hfz, hnd⟩ := hW
  have hA : DataW.TrodAll enc Try.prog W 0 (fun _ => true) true Try.f4.params.toList args.toList ds p := hA0
  rw [Try.params4] at hA hval
  obtain ⟨v0, vs0, d0, ds0, p0, q0, hargs, rfl, rfl, h0, r0⟩ := trodAll_cons hA
  obtain ⟨v1, vs1, d1, ds1, p1, q1, rfl, rfl, rfl, h1, r1⟩ := trodAll_cons r0
  obtain ⟨v2, vs2, d2, ds2, p2, q2, rfl, rfl, rfl, h2, r2⟩ := trodAll_cons r1
  obtain ⟨v3, vs3, d3, ds3, p3, q3, rfl, rfl, rfl, h3, r3⟩ := trodAll_cons r2
  obtain ⟨rfl, rfl, rfl⟩ := trodAll_nil r3
  obtain rfl : args = #[v0, v1, v2, v3] := by cases args; simp_all
  obtain ⟨rfl, rfl⟩ := trodVars_none hV
  have k0 := h0
  have lt0 : ∀ x ∈ p0, x.block < W.heap.size := by obtain ⟨m, hm⟩ := k0; exact DataW.trod_lt m _ _ _ hm
  obtain ⟨i0, rfl, w0⟩ := open_in (hval 0 25 v0 rfl rfl) h0
  obtain ⟨a1, rfl, rfl, rfl, w1⟩ := open_int Try.underlying3 (hval 1 3 v1 rfl rfl) h1
  obtain ⟨a2, rfl, rfl, rfl, w2⟩ := open_int Try.underlying3 (hval 2 3 v2 rfl rfl) h2
  obtain ⟨a3, rfl, rfl, rfl, w3⟩ := open_int Try.underlying22 (hval 3 22 v3 rfl rfl) h3
  clear hA0 hval0
  refine (walk i0 a1 a2 a3 W w0 w1 w2 w3).mono fun e W' ⟨he, bel⟩ => ?_
  subst he
  exact ⟨_, rfl, _, _, _, [], _, [], hW', trodAll_mk1 (shut_bool Try.underlying4 _), (trodAll_cons_mk (Below.trod laidOut (by kernel_rfl) (of_decide_eq_true (by kernel_rfl)) k0 bel lt0) (trodAll_cons_mk (shut_int Try.underlying3 w1) (trodAll_cons_mk (shut_int Try.underlying3 w2) (trodAll_cons_mk (shut_int Try.underlying22 w3) trodAll_mk0)))), rfl, bel.frame _, fun h => by cases h⟩

theorem over : Rows.confTurnsRow.holds Try.pinned (OpenSpec.ofChange Rows.confTurnsSpec) :=
  OpenClaim.holds_of_wide 4 Try.f4 rfl rfl rfl rfl rfl rfl rfl ⟨rfl, rfl, rfl, rfl, rfl⟩ rfl rfl rfl rfl rfl (by kernel_rfl) Try.func4 (by kernel_rfl)
    (of_decide_eq_true (by kernel_rfl)) (by unfold Func.isWrapper; first | (rw [if_pos (by decide +kernel)]; kernel_rfl) | (rw [if_neg (by decide +kernel)]; exact ⟨rfl, rfl⟩))
    (fun os started H enc _ => lifted os started H enc)
end Go.Proofs.Ytgpjplpfjghcgaa.confTurns
namespace Go.Proofs.Ytgpjplpfjghcgaa
theorem confTurns_holds : Rows.ConfTurnsSaid := confTurns.over
#print axioms confTurns_holds
end Go.Proofs.Ytgpjplpfjghcgaa
