/- A change of both: Mark. -/
import Derived.Test.YtgpjplpfjghcgaaCoT
namespace Go.Proofs.Ytgpjplpfjghcgaa
open Go Go.RowKit
set_option linter.unusedVariables false
set_option linter.unusedSimpArgs false

set_option maxRecDepth 100000 in
set_option maxHeartbeats 8000000 in
theorem turn3 (v u : Value) (c : Cf) (kd x : Int) (e0 : Nat) (w : World) (hv : Cfr w v c) (hu : Rfr w u c) (hle : c.l.length ≤ 900) (hk0 : kd ≠ 0) (hk1 : kd ≠ 1) (hk2 : kd ≠ 2) :
    Calls Try.prog 19 #[v, u, .int .i64 kd, .int .i64 x, .int .u64 (e0 : Nat)] w fun e w' => (∃ v' u', e = .returned (.tuple #[v', .int .i64 (markC c x).2, u', .int .i64 (markC c x).2]) ∧ Cfo w' 0 v' (markC c x).1 ∧ Rfr w' u' (markC c x).1) ∧ Below w.heap.size w w' := by
  obtain ⟨a, c1, b, c2, rfl, ha, hb, hl⟩ := hv
  obtain ⟨a3, c3, rfl, hm, -⟩ := hu
  obtain ⟨ep, sh, l, le⟩ := c
  simp only at *
  obtain ⟨w0, hw0⟩ : ∃ w0, w0 = (((w.alloc (.cells (carr ep sh (.slice a l.length c1) (.slice b l.length c2) le) 29)).alloc (.cells (rarr ep sh (.slice a3 l.length c3) le) 25)).alloc (.cells #[.int .u64 0, .int .i64 0, .slice none 0 0, .slice none 0 0, .int .i64 0] 29)).alloc (.cells #[.int .u64 0, .int .i64 0, .slice none 0 0, .int .i64 0] 25) := ⟨_, rfl⟩
  have hW0 : Below w.heap.size w w0 := by rw [hw0]; exact ((((Below.refl _ _).alloc (Nat.le_refl _) _).alloc (by simp) _).alloc (by simp <;> omega) _).alloc (by simp <;> omega) _
  have h0 : w0.heap[w.heap.size]? = some (.cells (carr ep sh (.slice a l.length c1) (.slice b l.length c2) le) 29) := by
    rw [hw0]; exact heap_kept (heap_alloc_new _ _) ((((Below.refl _ _).alloc (Nat.le_refl _) _).alloc (by simp) _).alloc (by simp <;> omega) _)
  have h1 : w0.heap[w.heap.size + 1]? = some (.cells (rarr ep sh (.slice a3 l.length c3) le) 25) := by
    have := heap_alloc_new (w.alloc (.cells (carr ep sh (.slice a l.length c1) (.slice b l.length c2) le) 29)) (.cells (rarr ep sh (.slice a3 l.length c3) le) 25)
    rw [World.size_alloc] at this
    rw [hw0]; exact heap_kept this (((Below.refl _ _).alloc (Nat.le_refl _) _).alloc (by simp) _)
  have h2 : w0.heap[w.heap.size + 1 + 1]? = some (.cells #[.int .u64 0, .int .i64 0, .slice none 0 0, .slice none 0 0, .int .i64 0] 29) := by
    have := heap_alloc_new ((w.alloc (.cells (carr ep sh (.slice a l.length c1) (.slice b l.length c2) le) 29)).alloc (.cells (rarr ep sh (.slice a3 l.length c3) le) 25)) (.cells #[.int .u64 0, .int .i64 0, .slice none 0 0, .slice none 0 0, .int .i64 0] 29)
    rw [World.size_alloc, World.size_alloc] at this
    rw [hw0]; exact heap_kept this ((Below.refl _ _).alloc (Nat.le_refl _) _)
  have h3 : w0.heap[w.heap.size + 1 + 1 + 1]? = some (.cells #[.int .u64 0, .int .i64 0, .slice none 0 0, .int .i64 0] 25) := by
    have := heap_alloc_new (((w.alloc (.cells (carr ep sh (.slice a l.length c1) (.slice b l.length c2) le) 29)).alloc (.cells (rarr ep sh (.slice a3 l.length c3) le) 25)).alloc (.cells #[.int .u64 0, .int .i64 0, .slice none 0 0, .slice none 0 0, .int .i64 0] 29)) (.cells #[.int .u64 0, .int .i64 0, .slice none 0 0, .int .i64 0] 25)
    rw [World.size_alloc, World.size_alloc, World.size_alloc] at this
    rw [hw0]; exact this
  have hX : Cfr w (.agg (carr ep sh (.slice a l.length c1) (.slice b l.length c2) le)) ⟨ep, sh, l, le⟩ := ⟨a, c1, b, c2, rfl, ha, hb, hl⟩
  have hY : Rfr w (.agg (rarr ep sh (.slice a3 l.length c3) le)) ⟨ep, sh, l, le⟩ := ⟨a3, c3, rfl, hm, hl⟩
  clear ha hb hm
  have hw0' := hw0.symm
  clear hw0
  have HLEN : Hid (l.length ≤ 900) := hle
  generalize hn : l.length = n at *
  have HB0 : Hid (Below w.heap.size w w0) := hW0
  have HP0 : Hid (w0.heap[w.heap.size]? = some (.cells (carr ep sh (.slice a n c1) (.slice b n c2) le) 29)) := h0
  have HS0 : Hid (w0.heap[w.heap.size + 1]? = some (.cells (rarr ep sh (.slice a3 n c3) le) 25)) := h1
  have HZ0 : Hid (w0.heap[w.heap.size + 1 + 1]? = some (.cells #[.int .u64 0, .int .i64 0, .slice none 0 0, .slice none 0 0, .int .i64 0] 29)) := h2
  have HT0 : Hid (w0.heap[w.heap.size + 1 + 1 + 1]? = some (.cells #[.int .u64 0, .int .i64 0, .slice none 0 0, .int .i64 0] 25)) := h3
  have HX : Hid (Cfr w (.agg (carr ep sh (.slice a n c1) (.slice b n c2) le)) ⟨ep, sh, l, le⟩) := hX
  have HY : Hid (Rfr w (.agg (rarr ep sh (.slice a3 n c3) le)) ⟨ep, sh, l, le⟩) := hY
  have HLN : Hid (l.length = n) := hn
  clear hW0 h0 h1 h2 h3 hX hY hn
  obtain ⟨r, hr⟩ : ∃ r, r = markC ⟨ep, sh, l, le⟩ x := ⟨_, rfl⟩
  rw [← hr]
  have HR : Hid (markC ⟨ep, sh, l, le⟩ x = r) := hr.symm
  clear hr
  have hk0' : (kd == 0) = false := by simp [hk0]
  have hk1' : (kd == 1) = false := by simp [hk1]
  have hk2' : (kd == 2) = false := by simp [hk2]
  have hcall := mark_any _ _ x _ (HX.out.later HB0.out) (by show l.length ≤ 900; rw [HLN.out]; exact hle)
  rw [HR.out] at hcall
  obtain ⟨x0, x1, x2, x3, x4⟩ := five_cells HP0.out
  go_enter Try.func19, Try.ntmps19
  go_wp2_with fail
  refine hcall.mono ?_
  clear hcall x0 x1 x2 x3 x4 hw0'
  rintro e w1 ⟨⟨v1, rfl, hv1⟩, hb1⟩
  have HB1 : Hid (Below w.heap.size w w1) := HB0.out.trans (hb1.mono HB0.out.size)
  have HP1 : Hid (w1.heap[w.heap.size]? = some (.cells (carr ep sh (.slice a n c1) (.slice b n c2) le) 29)) := heap_kept HP0.out hb1
  have HS1 : Hid (w1.heap[w.heap.size + 1]? = some (.cells (rarr ep sh (.slice a3 n c3) le) 25)) := heap_kept HS0.out hb1
  have HZ1 : Hid (w1.heap[w.heap.size + 1 + 1]? = some (.cells #[.int .u64 0, .int .i64 0, .slice none 0 0, .slice none 0 0, .int .i64 0] 29)) := heap_kept HZ0.out hb1
  have HT1 : Hid (w1.heap[w.heap.size + 1 + 1 + 1]? = some (.cells #[.int .u64 0, .int .i64 0, .slice none 0 0, .int .i64 0] 25)) := heap_kept HT0.out hb1
  obtain ⟨⟨re, rs, rl, rle⟩, rn⟩ := r
  obtain ⟨va, vb, rfl, ho1, ho2, hl1⟩ := hv1
  simp only at ho1 ho2 hl1
  have hln1 := ho1.shape
  obtain ⟨ai, ci, rfl, _, _, _, _⟩ := hln1
  have hln2 := ho2.shape
  obtain ⟨ab, cb, rfl, _, _, _, _⟩ := hln2
  simp only [List.length_map] at ho1 ho2 ⊢
  generalize hm : rl.length = m at *
  have HRL : Hid (rl.length = m) := hm
  clear hm
  have HO1 : Hid (OwnV w1 w0.heap.size 3 (.slice ai m ci) (rl.map mi) ∧ OwnV w1 w0.heap.size 4 (.slice ab m cb) (rl.map mb)) := ⟨ho1, ho2⟩
  clear ho1 ho2 hb1
  have hb2 : Below w1.heap.size w1 (w1.alloc (.cells (carr re rs (.slice ai m ci) (.slice ab m cb) rle) 29)) := (Below.refl _ _).alloc (Nat.le_refl _) _
  have hq2 := heap_alloc_new w1 (.cells (carr re rs (.slice ai m ci) (.slice ab m cb) rle) 29)
  go_upto_region 15 with fail
  generalize w1.alloc (.cells (carr re rs (.slice ai m ci) (.slice ab m cb) rle) 29) = w2 at *
  have HB2 : Hid (Below w.heap.size w w2) := HB1.out.trans (hb2.mono HB1.out.size)
  have HP2 : Hid (w2.heap[w.heap.size]? = some (.cells (carr ep sh (.slice a n c1) (.slice b n c2) le) 29)) := heap_kept HP1.out hb2
  have HS2 : Hid (w2.heap[w.heap.size + 1]? = some (.cells (rarr ep sh (.slice a3 n c3) le) 25)) := heap_kept HS1.out hb2
  have HZ2 : Hid (w2.heap[w.heap.size + 1 + 1]? = some (.cells #[.int .u64 0, .int .i64 0, .slice none 0 0, .slice none 0 0, .int .i64 0] 29)) := heap_kept HZ1.out hb2
  have HT2 : Hid (w2.heap[w.heap.size + 1 + 1 + 1]? = some (.cells #[.int .u64 0, .int .i64 0, .slice none 0 0, .int .i64 0] 25)) := heap_kept HT1.out hb2
  have HQ2 : Hid (w2.heap[w1.heap.size]? = some (.cells (carr re rs (.slice ai m ci) (.slice ab m cb) rle) 29)) := hq2
  have HO2 : Hid (OwnV w2 w0.heap.size 3 (.slice ai m ci) (rl.map mi) ∧ OwnV w2 w0.heap.size 4 (.slice ab m cb) (rl.map mb)) := ⟨HO1.out.1.later hb2, HO1.out.2.later hb2⟩
  have HPA : Hid (w.heap.size + 1 + 1 + 1 < w1.heap.size) := (Array.getElem?_eq_some_iff.1 HT1.out).1
  clear hb2 hq2 HO1
  generalize w1.heap.size = pa at *
  have hcall := rmark_any _ _ x _ (HY.out.later HB2.out) (by show l.length ≤ 900; rw [HLN.out]; exact hle)
  rw [HR.out] at hcall
  obtain ⟨x0, x1, x2, x3⟩ := four_cells HS2.out
  go_wp2_with fail
  refine hcall.mono ?_
  clear hcall x0 x1 x2 x3
  rintro e w3 ⟨⟨v3, rfl, hv3⟩, hb3⟩
  have HB3 : Hid (Below w.heap.size w w3) := HB2.out.trans (hb3.mono HB2.out.size)
  have HP3 : Hid (w3.heap[w.heap.size]? = some (.cells (carr ep sh (.slice a n c1) (.slice b n c2) le) 29)) := heap_kept HP2.out hb3
  have HS3 : Hid (w3.heap[w.heap.size + 1]? = some (.cells (rarr ep sh (.slice a3 n c3) le) 25)) := heap_kept HS2.out hb3
  have HZ3 : Hid (w3.heap[w.heap.size + 1 + 1]? = some (.cells #[.int .u64 0, .int .i64 0, .slice none 0 0, .slice none 0 0, .int .i64 0] 29)) := heap_kept HZ2.out hb3
  have HT3 : Hid (w3.heap[w.heap.size + 1 + 1 + 1]? = some (.cells #[.int .u64 0, .int .i64 0, .slice none 0 0, .int .i64 0] 25)) := heap_kept HT2.out hb3
  have HQ3 : Hid (w3.heap[pa]? = some (.cells (carr re rs (.slice ai m ci) (.slice ab m cb) rle) 29)) := heap_kept HQ2.out hb3
  have HO3 : Hid (OwnV w3 w0.heap.size 3 (.slice ai m ci) (rl.map mi) ∧ OwnV w3 w0.heap.size 4 (.slice ab m cb) (rl.map mb)) := ⟨HO2.out.1.later hb3, HO2.out.2.later hb3⟩
  obtain ⟨am, cm, rfl, hmr, -⟩ := hv3
  simp only at hmr ⊢
  rw [HRL.out]
  have HM3 : Hid (Mrow w3 am rl) := hmr
  clear hmr hb3
  have hb4 : Below w3.heap.size w3 (w3.alloc (.cells (rarr re rs (.slice am m cm) rle) 25)) := (Below.refl _ _).alloc (Nat.le_refl _) _
  have hq4 := heap_alloc_new w3 (.cells (rarr re rs (.slice am m cm) rle) 25)
  go_upto_region 16 with fail
  generalize w3.alloc (.cells (rarr re rs (.slice am m cm) rle) 25) = w4 at *
  have HB4 : Hid (Below w.heap.size w w4) := HB3.out.trans (hb4.mono HB3.out.size)
  have HP4 : Hid (w4.heap[w.heap.size]? = some (.cells (carr ep sh (.slice a n c1) (.slice b n c2) le) 29)) := heap_kept HP3.out hb4
  have HS4 : Hid (w4.heap[w.heap.size + 1]? = some (.cells (rarr ep sh (.slice a3 n c3) le) 25)) := heap_kept HS3.out hb4
  have HZ4 : Hid (w4.heap[w.heap.size + 1 + 1]? = some (.cells #[.int .u64 0, .int .i64 0, .slice none 0 0, .slice none 0 0, .int .i64 0] 29)) := heap_kept HZ3.out hb4
  have HT4 : Hid (w4.heap[w.heap.size + 1 + 1 + 1]? = some (.cells #[.int .u64 0, .int .i64 0, .slice none 0 0, .int .i64 0] 25)) := heap_kept HT3.out hb4
  have HQ4 : Hid (w4.heap[pa]? = some (.cells (carr re rs (.slice ai m ci) (.slice ab m cb) rle) 29)) := heap_kept HQ3.out hb4
  have HU4 : Hid (w4.heap[w3.heap.size]? = some (.cells (rarr re rs (.slice am m cm) rle) 25)) := hq4
  have HO4 : Hid (OwnV w4 w0.heap.size 3 (.slice ai m ci) (rl.map mi) ∧ OwnV w4 w0.heap.size 4 (.slice ab m cb) (rl.map mb)) := ⟨HO3.out.1.later hb4, HO3.out.2.later hb4⟩
  have HM4 : Hid (Mrow w4 am rl) := HM3.out.later hb4
  have HPB : Hid (w.heap.size + 1 + 1 + 1 < w3.heap.size) := (Array.getElem?_eq_some_iff.1 HT3.out).1
  clear hb4 hq4 HP0 HP1 HP2 HP3 HS0 HS1 HS2 HS3 HZ0 HZ1 HZ2 HZ3 HT0 HT1 HT2 HT3 HB0 HB1 HB2 HB3 HQ2 HQ3 HO2 HO3 HM3
  generalize w3.heap.size = pb at *
  obtain ⟨x0, x1, x2, x3, x4⟩ := five_cells HQ4.out
  obtain ⟨y0, y1, y2, y3⟩ := four_cells HU4.out
  obtain ⟨z0, z1, z2, z3, z4⟩ := five_cells HZ4.out
  obtain ⟨g0, g1, g2, g3, g4⟩ := five_frozen HZ4.out
  refine wp_region_noPanic ?_
  refine wp_region_held_drew (S := fun w' => (w'.cell? ⟨pa, 0, none⟩ = some (.int .u64 (re : Nat)) ∧ w'.cell? ⟨pa, 1, none⟩ = some (.int .i64 rs) ∧ w'.cell? ⟨pa, 2, none⟩ = some (.slice ai m ci) ∧ w'.cell? ⟨pa, 3, none⟩ = some (.slice ab m cb) ∧ w'.cell? ⟨pa, 4, none⟩ = some (.int .i64 rle)) ∧ (w'.cell? ⟨pb, 0, none⟩ = some (.int .u64 (re : Nat)) ∧ w'.cell? ⟨pb, 1, none⟩ = some (.int .i64 rs) ∧ w'.cell? ⟨pb, 2, none⟩ = some (.slice am m cm) ∧ w'.cell? ⟨pb, 3, none⟩ = some (.int .i64 rle))) (by kernel_rfl) ?_ (fun hHeld => ?_)
  · exact ⟨⟨x0, x1, x2, x3, x4⟩, ⟨y0, y1, y2, y3⟩⟩
  refine held_take (i := 0) (d := 103) (v := ?_) rfl rfl (by kernel_rfl) (by kernel_rfl) (by kernel_rfl) (fun _ _ _ h => h) (Or.inl ⟨by rfl, ?_⟩) hHeld ?_
  rotate_left
  · (intro w hSw; (try dsimp only at hSw); go_simp; all_goals (with_reducible rfl))
  try simp only [Act.put, List.setIfInBounds_toArray, List.set_cons_zero, List.set_cons_succ]
  refine held_take (i := 1) (d := 104) (v := ?_) rfl rfl (by kernel_rfl) (by kernel_rfl) (by kernel_rfl) (fun _ _ _ h => h) (Or.inl ⟨by rfl, ?_⟩) hHeld ?_
  rotate_left
  · (intro w hSw; (try dsimp only at hSw); go_simp; all_goals (with_reducible rfl))
  try simp only [Act.put, List.setIfInBounds_toArray, List.set_cons_zero, List.set_cons_succ]
  refine held_take (i := 2) (d := 105) (v := ?_) rfl rfl (by kernel_rfl) (by kernel_rfl) (by kernel_rfl) (fun _ _ _ h => h) (Or.inl ⟨by rfl, ?_⟩) hHeld ?_
  rotate_left
  · (intro w hSw; (try dsimp only at hSw); go_simp; all_goals (with_reducible rfl))
  try simp only [Act.put, List.setIfInBounds_toArray, List.set_cons_zero, List.set_cons_succ]
  refine held_take (i := 3) (d := 106) (v := ?_) rfl rfl (by kernel_rfl) (by kernel_rfl) (by kernel_rfl) (fun _ _ _ h => h) (Or.inl ⟨by rfl, ?_⟩) hHeld ?_
  rotate_left
  · (intro w hSw; (try dsimp only at hSw); go_simp; all_goals (with_reducible rfl))
  try simp only [Act.put, List.setIfInBounds_toArray, List.set_cons_zero, List.set_cons_succ]
  have HQ5 : Hid ((put5 w4 (w.heap.size + 1 + 1) (.int .u64 (re : Nat)) (.int .i64 rs) (.slice ai m ci) (.slice ab m cb) (.int .i64 rle)).drew.heap[pa]? = some (.cells (carr re rs (.slice ai m ci) (.slice ab m cb) rle) 29)) := (put5_other _ _ _ _ _ (by have := HPA.out; omega)).trans HQ4.out
  have HU5 : Hid ((put5 w4 (w.heap.size + 1 + 1) (.int .u64 (re : Nat)) (.int .i64 rs) (.slice ai m ci) (.slice ab m cb) (.int .i64 rle)).drew.heap[pb]? = some (.cells (rarr re rs (.slice am m cm) rle) 25)) := (put5_other _ _ _ _ _ (by have := HPB.out; omega)).trans HU4.out
  refine wpAnyH_ready (rs := [4]) (by kernel_rfl) (by simp) ?_
  refine AllReadyH.cons rfl (fun K hK => ?_) AllReadyH.nil
  go_simp
  refine hK.out _ _ ?_ (fun hHeld => ?_)
  · exact ⟨five_cells HQ5.out, four_cells HU5.out⟩
  clear hK K
  try simp only [Act.put, List.setIfInBounds_toArray, List.set_cons_zero, List.set_cons_succ]
  have HF5 : Hid ((put5 w4 (w.heap.size + 1 + 1) (.int .u64 (re : Nat)) (.int .i64 rs) (.slice ai m ci) (.slice ab m cb) (.int .i64 rle)).drew.heap[w.heap.size + 1 + 1]? = some (.cells (carr re rs (.slice ai m ci) (.slice ab m cb) rle) 29)) := five_put HZ4.out
  have HT5 : Hid ((put5 w4 (w.heap.size + 1 + 1) (.int .u64 (re : Nat)) (.int .i64 rs) (.slice ai m ci) (.slice ab m cb) (.int .i64 rle)).drew.heap[w.heap.size + 1 + 1 + 1]? = some (.cells #[.int .u64 0, .int .i64 0, .slice none 0 0, .int .i64 0] 25)) := (put5_other _ _ _ _ _ (by omega)).trans HT4.out
  have HB5 : Hid (Below w.heap.size w (put5 w4 (w.heap.size + 1 + 1) (.int .u64 (re : Nat)) (.int .i64 rs) (.slice ai m ci) (.slice ab m cb) (.int .i64 rle)).drew) := (below_put5 HB4.out (by omega) _ _ _ _ _).drew
  have HK5 : Hid (∀ k, k ≠ w.heap.size + 1 + 1 → (put5 w4 (w.heap.size + 1 + 1) (.int .u64 (re : Nat)) (.int .i64 rs) (.slice ai m ci) (.slice ab m cb) (.int .i64 rle)).drew.heap[k]? = w4.heap[k]?) := fun k hk => put5_other _ _ _ _ _ hk
  unfold put5 at HF5 HT5 HB5 HK5 HQ5 HU5 hHeld
  generalize (((((w4.setCell ⟨w.heap.size + 1 + 1, 0, none⟩ (.int .u64 (re : Nat))).setCell ⟨w.heap.size + 1 + 1, 1, none⟩ (.int .i64 rs)).setCell ⟨w.heap.size + 1 + 1, 2, none⟩ (.slice ai m ci)).setCell ⟨w.heap.size + 1 + 1, 3, none⟩ (.slice ab m cb)).setCell ⟨w.heap.size + 1 + 1, 4, none⟩ (.int .i64 rle)).drew = w5 at *
  clear x0 x1 x2 x3 x4 y0 y1 y2 y3 z0 z1 z2 z3 z4 g0 g1 g2 g3 g4
  obtain ⟨z0, z1, z2, z3⟩ := four_cells HT5.out
  obtain ⟨g0, g1, g2, g3⟩ := four_frozen HT5.out
  refine wpAnyH_ready (rs := [5]) (by kernel_rfl) (by simp) ?_
  refine AllReadyH.cons rfl (fun K hK => ?_) AllReadyH.nil
  go_simp
  refine hK.out _ _ ?_ (fun hHeld => ?_)
  · exact ⟨five_cells HQ5.out, four_cells HU5.out⟩
  clear hK K
  try simp only [Act.put, List.setIfInBounds_toArray, List.set_cons_zero, List.set_cons_succ]
  have HQ6 : Hid ((put4 w5 (w.heap.size + 1 + 1 + 1) (.int .u64 (re : Nat)) (.int .i64 rs) (.slice am m cm) (.int .i64 rle)).heap[pa]? = some (.cells (carr re rs (.slice ai m ci) (.slice ab m cb) rle) 29)) := (put4_other _ _ _ _ (by have := HPA.out; omega)).trans HQ5.out
  have HU6 : Hid ((put4 w5 (w.heap.size + 1 + 1 + 1) (.int .u64 (re : Nat)) (.int .i64 rs) (.slice am m cm) (.int .i64 rle)).heap[pb]? = some (.cells (rarr re rs (.slice am m cm) rle) 25)) := (put4_other _ _ _ _ (by have := HPB.out; omega)).trans HU5.out
  refine wpAnyH_ready (rs := [6]) (by kernel_rfl) (by simp) ?_
  refine AllReadyH.cons rfl (fun K hK => ?_) AllReadyH.nil
  go_simp
  refine hK.out _ _ ?_ (fun hHeld => ?_)
  · exact ⟨five_cells HQ6.out, four_cells HU6.out⟩
  clear hK K
  try simp only [Act.put, List.setIfInBounds_toArray, List.set_cons_zero, List.set_cons_succ]
  refine wpAnyH_ready (rs := [7]) (by kernel_rfl) (by simp) ?_
  refine AllReadyH.cons rfl (fun K hK => ?_) AllReadyH.nil
  go_simp
  refine hK.out _ _ ?_ (fun hHeld => ?_)
  · exact ⟨five_cells HQ6.out, four_cells HU6.out⟩
  clear hK K
  try simp only [Act.put, List.setIfInBounds_toArray, List.set_cons_zero, List.set_cons_succ]
  refine wpAnyH_done (by kernel_rfl) ?_ _
  refine NoPanic.normal ?_
  have HF4 : Hid ((put4 w5 (w.heap.size + 1 + 1 + 1) (.int .u64 (re : Nat)) (.int .i64 rs) (.slice am m cm) (.int .i64 rle)).heap[w.heap.size + 1 + 1 + 1]? = some (.cells (rarr re rs (.slice am m cm) rle) 25)) := four_put HT5.out
  have HF5' : Hid ((put4 w5 (w.heap.size + 1 + 1 + 1) (.int .u64 (re : Nat)) (.int .i64 rs) (.slice am m cm) (.int .i64 rle)).heap[w.heap.size + 1 + 1]? = some (.cells (carr re rs (.slice ai m ci) (.slice ab m cb) rle) 29)) := (put4_other _ _ _ _ (by omega)).trans HF5.out
  have HB6 : Hid (Below w.heap.size w (put4 w5 (w.heap.size + 1 + 1 + 1) (.int .u64 (re : Nat)) (.int .i64 rs) (.slice am m cm) (.int .i64 rle))) := below_put4 HB5.out (by omega) _ _ _ _
  have HK6 : Hid (∀ k, k ≠ w.heap.size + 1 + 1 → k ≠ w.heap.size + 1 + 1 + 1 → (put4 w5 (w.heap.size + 1 + 1 + 1) (.int .u64 (re : Nat)) (.int .i64 rs) (.slice am m cm) (.int .i64 rle)).heap[k]? = w4.heap[k]?) := fun k h1 h2 => (put4_other _ _ _ _ h2).trans (HK5.out k h1)
  unfold put4 at HF4 HF5' HB6 HK6
  go_wp2
  generalize ((((w5.setCell ⟨w.heap.size + 1 + 1 + 1, 0, none⟩ (.int .u64 (re : Nat))).setCell ⟨w.heap.size + 1 + 1 + 1, 1, none⟩ (.int .i64 rs)).setCell ⟨w.heap.size + 1 + 1 + 1, 2, none⟩ (.slice am m cm)).setCell ⟨w.heap.size + 1 + 1 + 1, 3, none⟩ (.int .i64 rle)) = wf at *
  clear z0 z1 z2 z3 g0 g1 g2 g3
  obtain ⟨z0, z1, z2, z3⟩ := four_cells HF4.out
  obtain ⟨x0, x1, x2, x3, x4⟩ := five_cells HF5'.out
  refine bodyPost_ret (v := .tuple #[.agg (carr re rs (.slice ai m ci) (.slice ab m cb) rle), .int .i64 rn, .agg (rarr re rs (.slice am m cm) rle), .int .i64 rn]) (by simp [results, Try.results19, go_sem, z0, z1, z2, z3, x0, x1, x2, x3, x4]) rfl ?_
  have hkk : ∀ k t, tagOf w4 k = some t → t ≠ 29 → t ≠ 25 → wf.heap[k]? = w4.heap[k]? := fun k t ht h1 h2 => HK6.out k (tag_ne HZ4.out h1 ht) (tag_ne HT4.out h2 ht)
  have hco : Cfo wf w0.heap.size (.agg (carr re rs (.slice ai m ci) (.slice ab m cb) rle)) ⟨re, rs, rl, rle⟩ := ⟨_, _, rfl, own_same HO4.out.1 (fun k _ ht => hkk k 3 ht (by decide) (by decide)), own_same HO4.out.2 (fun k _ ht => hkk k 4 ht (by decide) (by decide)), by show rl.length ≤ 1000; rw [HRL.out]; exact hl1⟩
  refine ⟨⟨_, _, rfl, hco.mono (Nat.zero_le _), am, cm, by rw [HRL.out], ?_, by show rl.length ≤ 100000; rw [HRL.out]; omega⟩, HB6.out⟩
  by_cases h0 : 0 < rl.length
  · obtain ⟨b9, off9, e, hc⟩ := HM4.out.at h0
    subst e
    have n1 := HM4.out.ne h0 HZ4.out rfl
    have n2 := HM4.out.ne h0 HT4.out rfl
    exact .inr ⟨b9, off9, rfl, fun i m hi => by rw [cell_same (HK6.out b9 n1 n2), cell_same (HK6.out b9 n1 n2)]; exact hc i m hi⟩
  · exact .inl (show rl = [] from List.length_eq_zero_iff.1 (by omega))

end Go.Proofs.Ytgpjplpfjghcgaa
