/- Remove. -/
import Derived.Test.YtgpjplpfjghcgaaCoE
namespace Go.Proofs.Ytgpjplpfjghcgaa
open Go Go.RowKit
set_option linter.unusedVariables false
set_option linter.unusedSimpArgs false

theorem block_ne {w : World} {a b : Nat} {t u : Nat} (h1 : tagOf w a = some t) (h2 : tagOf w b = some u) (h : t ≠ u) : a ≠ b := fun e => by
  rw [e, h2] at h1
  simp only [Option.some.injEq] at h1
  exact h h1.symm
theorem heap_grown {w wx : World} {g k : Nat} {cs : Array Value} {t u : TypeId} {m : Nat × Nat} (h : w.heap[k]? = some (.cells cs t m)) (hb : w.grownBy wx (some g)) (hg : tagOf w g = some u) (hne : t ≠ u) : wx.heap[k]? = some (.cells cs t m) :=
  (hb.block k (Array.getElem?_eq_some_iff.1 h).1 (fun e => block_ne (tagOf_heap h) hg hne (by simpa using e))).trans h
theorem own_grown {w wx : World} {base g : Nat} {e u : TypeId} {v : Value} {xs : List Value} (h : OwnV w base e v xs) (hb : w.grownBy wx (some g)) (hg : tagOf w g = some u) (hne : e ≠ u) : OwnV wx base e v xs :=
  own_same h (fun k hk ht => hb.block k hk (fun e1 => block_ne ht hg hne (by simpa using e1)))
theorem below_grown {w wx : World} {base g : Nat} (hb : w.grownBy wx (some g)) (hg : base ≤ g) (hs : base ≤ w.heap.size) : Below base w wx :=
  (Below.refl _ _).grown hb hs (fun k hk => by simp only [Option.some.injEq] at hk; omega)
/-- where a slice that was made, not empty, lies -/
theorem own_lies {w : World} {base : Nat} {e : TypeId} {v : Value} {xs : List Value} (h : OwnV w base e v xs) (hx : xs ≠ []) :
    ∃ g cap cur, v = .slice (some ⟨g, 0, none⟩) xs.length cap ∧ base ≤ g ∧ w.heap[g]? = some (.cells cur e (0, 0)) ∧ cur.size = cap ∧ xs.length ≤ cap ∧ cap ≤ maxLen ∧ cur.toList.take xs.length = xs := by
  obtain ⟨hl, h⟩ := h
  rcases h with ⟨_, h⟩ | ⟨g, cap, cur, rfl, hg, hh, hn, hm, hs, ht⟩
  · exact absurd (List.length_eq_zero_iff.1 h) hx
  · exact ⟨g, cap, cur, rfl, hg, hh, by omega, hn, hm, by simpa using ht⟩
theorem erase_map {α β : Type} (f : α → β) (l : List α) (k : Nat) : (l.map f).eraseIdx k = (l.eraseIdx k).map f := by
  rw [List.eraseIdx_eq_take_drop_succ, List.eraseIdx_eq_take_drop_succ, List.map_append, List.map_take, List.map_drop]


set_option maxRecDepth 100000 in
set_option maxHeartbeats 4000000 in
theorem remove_any (v : Value) (c : Cf) (x : Int) (e0 : Nat) (w : World) (h : Cfr w v c) (hle : c.l.length ≤ 900) :
    Calls Try.prog 35 #[v, .int .i64 x, .int .u64 (e0 : Nat)] w fun e w' => (∃ v', e = .returned (.tuple #[v', .int .i64 (removeC ⟨c.ep, c.sh, c.l, c.le⟩ x e0).2]) ∧ Cfo w' w.heap.size v' (removeC ⟨c.ep, c.sh, c.l, c.le⟩ x e0).1) ∧ Below w.heap.size w w' := by
  obtain ⟨r, hr⟩ : ∃ r, r = removeC ⟨c.ep, c.sh, c.l, c.le⟩ x e0 := ⟨_, rfl⟩
  rw [← hr]
  have HR0 : Hid (r = removeC ⟨c.ep, c.sh, c.l, c.le⟩ x e0) := hr
  clear hr
  obtain ⟨a, c1, b, c2, rfl, ha, hb, hl⟩ := h
  obtain ⟨ep, sh, l, le⟩ := c
  simp only at *
  have hW0 : Below w.heap.size w ((w.alloc (.cells (carr ep sh (.slice a l.length c1) (.slice b l.length c2) le) 29)).alloc (.cells #[.int .u64 0, .int .i64 0, .slice none 0 0, .slice none 0 0, .int .i64 0] 29)) := ((Below.refl _ _).alloc (Nat.le_refl _) _).alloc (by simp) _
  have hP0 : ((w.alloc (.cells (carr ep sh (.slice a l.length c1) (.slice b l.length c2) le) 29)).alloc (.cells #[.int .u64 0, .int .i64 0, .slice none 0 0, .slice none 0 0, .int .i64 0] 29)).heap[w.heap.size]? = some (.cells (carr ep sh (.slice a l.length c1) (.slice b l.length c2) le) 29) := heap_kept (heap_alloc_new _ _) ((Below.refl _ _).alloc (Nat.le_refl _) _)
  have hZ0 : ((w.alloc (.cells (carr ep sh (.slice a l.length c1) (.slice b l.length c2) le) 29)).alloc (.cells #[.int .u64 0, .int .i64 0, .slice none 0 0, .slice none 0 0, .int .i64 0] 29)).heap[w.heap.size + 1]? = some (.cells #[.int .u64 0, .int .i64 0, .slice none 0 0, .slice none 0 0, .int .i64 0] 29) := by have := heap_alloc_new (w.alloc (.cells (carr ep sh (.slice a l.length c1) (.slice b l.length c2) le) 29)) (.cells #[.int .u64 0, .int .i64 0, .slice none 0 0, .slice none 0 0, .int .i64 0] 29); rw [World.size_alloc] at this; exact this
  have HX : Hid (Cfr w (.agg (carr ep sh (.slice a l.length c1) (.slice b l.length c2) le)) ⟨ep, sh, l, le⟩) := ⟨a, c1, b, c2, rfl, ha, hb, hl⟩
  have HVB : Hid (Vals w b l.length (l.map mb)) := hb
  clear ha hb
  generalize hW : ((w.alloc (.cells (carr ep sh (.slice a l.length c1) (.slice b l.length c2) le) 29)).alloc (.cells #[.int .u64 0, .int .i64 0, .slice none 0 0, .slice none 0 0, .int .i64 0] 29)) = w0 at *
  have HB0 : Hid (Below w.heap.size w w0) := hW0
  have HP0 : Hid (w0.heap[w.heap.size]? = some (.cells (carr ep sh (.slice a l.length c1) (.slice b l.length c2) le) 29)) := hP0
  have HZ0 : Hid (w0.heap[w.heap.size + 1]? = some (.cells #[.int .u64 0, .int .i64 0, .slice none 0 0, .slice none 0 0, .int .i64 0] 29)) := hZ0
  clear hW0 hP0 hZ0
  generalize hn : l.length = n at *
  have HLN : Hid (l.length = n) := hn
  clear hn
  obtain ⟨x0, x1, x2, x3, x4⟩ := five_cells HP0.out
  have hcall := may_any _ _ x e0 _ (HX.out.later HB0.out)
  go_enter Try.func35, Try.ntmps35
  go_wp2_with fail
  refine hcall.mono ?_
  clear hcall x0 x1 x2 x3 x4 hW
  rintro e w1 ⟨rfl, hb1⟩
  have HP1 : Hid (w1.heap[w.heap.size]? = some (.cells (carr ep sh (.slice a n c1) (.slice b n c2) le) 29)) := heap_kept HP0.out hb1
  have HZ1 : Hid (w1.heap[w.heap.size + 1]? = some (.cells #[.int .u64 0, .int .i64 0, .slice none 0 0, .slice none 0 0, .int .i64 0] 29)) := heap_kept HZ0.out hb1
  have HB1 : Hid (Below w.heap.size w w1) := HB0.out.trans (hb1.mono HB0.out.size)
  clear hb1
  cases hm : mayB ⟨ep, sh, l, le⟩ x e0 with
  | false =>
    have HR : Hid (r = (zeroC, 1)) := by rw [Hid, HR0.out]; simp [removeC, hm]
    clear hm HR0
    obtain ⟨z0, z1, z2, z3, z4⟩ := five_cells HZ1.out
    obtain ⟨g0, g1, g2, g3, g4⟩ := five_frozen HZ1.out
    have HF : Hid ((put5 w1 (w.heap.size + 1) (.int .u64 0) (.int .i64 0) (.slice none 0 0) (.slice none 0 0) (.int .i64 0)).heap[w.heap.size + 1]? = some (.cells #[.int .u64 0, .int .i64 0, .slice none 0 0, .slice none 0 0, .int .i64 0] 29)) := five_put HZ1.out
    have HBF : Hid (Below w.heap.size w (put5 w1 (w.heap.size + 1) (.int .u64 0) (.int .i64 0) (.slice none 0 0) (.slice none 0 0) (.int .i64 0))) := below_put5 HB1.out (by omega) _ _ _ _ _
    unfold put5 at HF HBF
    go_wp2
    generalize (((((w1.setCell ⟨w.heap.size + 1, 0, none⟩ (.int .u64 0)).setCell ⟨w.heap.size + 1, 1, none⟩ (.int .i64 0)).setCell ⟨w.heap.size + 1, 2, none⟩ (.slice none 0 0)).setCell ⟨w.heap.size + 1, 3, none⟩ (.slice none 0 0)).setCell ⟨w.heap.size + 1, 4, none⟩ (.int .i64 0)) = wf at *
    clear z0 z1 z2 z3 z4 g0 g1 g2 g3 g4
    obtain ⟨z0, z1, z2, z3, z4⟩ := five_cells HF.out
    refine bodyPost_ret (v := .tuple #[.agg #[.int .u64 0, .int .i64 0, .slice none 0 0, .slice none 0 0, .int .i64 0], .int .i64 1]) (by simp [results, Try.results35, go_sem, z0, z1, z2, z3, z4]) rfl ?_
    exact ⟨⟨_, by rw [HR.out], by rw [HR.out]; exact ⟨_, _, rfl, OwnV.nil _ _ _, OwnV.nil _ _ _, by simp [zeroC]⟩⟩, HBF.out⟩
  | true =>
    obtain ⟨hrt, hsx, hep⟩ := may_right hm
    have HRT : Hid (Rt ⟨ep, sh, l, le⟩) := hrt
    have HM : Hid (mayB ⟨ep, sh, l, le⟩ x e0 = true) := hm
    clear hrt hsx hep hm
    obtain ⟨x0, x1, x2, x3, x4⟩ := five_cells HP1.out
    have hcall := later_any _ _ e0 _ (HX.out.later HB1.out) (by show l.length ≤ 1000; rw [HLN.out]; omega)
    go_wp2_with fail
    refine hcall.mono ?_
    clear hcall x0 x1 x2 x3 x4
    rintro e w2 ⟨⟨v2, rfl, hv2⟩, hb2⟩
    have HP2 : Hid (w2.heap[w.heap.size]? = some (.cells (carr ep sh (.slice a n c1) (.slice b n c2) le) 29)) := heap_kept HP1.out hb2
    have HZ2 : Hid (w2.heap[w.heap.size + 1]? = some (.cells #[.int .u64 0, .int .i64 0, .slice none 0 0, .slice none 0 0, .int .i64 0] 29)) := heap_kept HZ1.out hb2
    have HB2 : Hid (Below w.heap.size w w2) := HB1.out.trans (hb2.mono HB1.out.size)
    clear hb2
    obtain ⟨va, vb, rfl, ho1, ho2, -⟩ := hv2
    simp only at ho1 ho2
    have HO2 : Hid (OwnV w2 w1.heap.size 3 va (l.map mi) ∧ OwnV w2 w1.heap.size 4 vb (l.map mb)) := ⟨ho1, ho2⟩
    obtain ⟨va', vn, vc, rfl⟩ := owns_slice ho1
    obtain ⟨vb', vm, vd, rfl⟩ := owns_slice ho2
    clear ho1 ho2
    have hb3 : Below w2.heap.size w2 (w2.alloc (.cells (carr e0 sh (.slice va' vn vc) (.slice vb' vm vd) le) 29)) := (Below.refl _ _).alloc (Nat.le_refl _) _
    have hq3 := heap_alloc_new w2 (.cells (carr e0 sh (.slice va' vn vc) (.slice vb' vm vd) le) 29)
    generalize hw3 : w2.alloc (.cells (carr e0 sh (.slice va' vn vc) (.slice vb' vm vd) le) 29) = w3 at *
    have HP3 : Hid (w3.heap[w.heap.size]? = some (.cells (carr ep sh (.slice a n c1) (.slice b n c2) le) 29)) := heap_kept HP2.out hb3
    have HZ3 : Hid (w3.heap[w.heap.size + 1]? = some (.cells #[.int .u64 0, .int .i64 0, .slice none 0 0, .slice none 0 0, .int .i64 0] 29)) := heap_kept HZ2.out hb3
    have HB3 : Hid (Below w.heap.size w w3) := HB2.out.trans (hb3.mono HB2.out.size)
    have HQ3 : Hid (w3.heap[w2.heap.size]? = some (.cells (carr e0 sh (.slice va' vn vc) (.slice vb' vm vd) le) 29)) := hq3
    have HO3 : Hid (OwnV w3 w.heap.size 3 (.slice va' vn vc) (l.map mi) ∧ OwnV w3 w.heap.size 4 (.slice vb' vm vd) (l.map mb)) := ⟨owns_mono (HO2.out.1.later hb3) HB1.out.size, owns_mono (HO2.out.2.later hb3) HB1.out.size⟩
    have HPQ : Hid (w.heap.size + 1 < w2.heap.size) := (Array.getElem?_eq_some_iff.1 HZ2.out).1
    clear hq3
    obtain ⟨x0, x1, x2, x3, x4⟩ := five_cells HP3.out
    have hcall := learns_any _ _ x _ (HX.out.later HB3.out)
    go_wp2_with fail
    refine hcall.mono ?_
    clear hcall x0 x1 x2 x3 x4
    rintro e w4 ⟨rfl, hb4⟩
    have HP4 : Hid (w4.heap[w.heap.size]? = some (.cells (carr ep sh (.slice a n c1) (.slice b n c2) le) 29)) := heap_kept HP3.out hb4
    have HZ4 : Hid (w4.heap[w.heap.size + 1]? = some (.cells #[.int .u64 0, .int .i64 0, .slice none 0 0, .slice none 0 0, .int .i64 0] 29)) := heap_kept HZ3.out hb4
    have HB4 : Hid (Below w.heap.size w w4) := HB3.out.trans (hb4.mono HB3.out.size)
    have HQ4 : Hid (w4.heap[w2.heap.size]? = some (.cells (carr e0 sh (.slice va' vn vc) (.slice vb' vm vd) le) 29)) := heap_kept HQ3.out hb4
    have HO4 : Hid (OwnV w4 w.heap.size 3 (.slice va' vn vc) (l.map mi) ∧ OwnV w4 w.heap.size 4 (.slice vb' vm vd) (l.map mb)) := ⟨HO3.out.1.later hb4, HO3.out.2.later hb4⟩
    clear hb4 hb3 hw3 HP1 HZ1 HB1 HP2 HZ2 HB2 HO2 HP3 HZ3 HB3 HQ3 HO3
    generalize hqq : w2.heap.size = q at *
    clear hqq
    cases hlr : learnsB ⟨ep, sh, l, le⟩ x with
    | true =>
      have HR : Hid (r = (⟨e0, sh, l, -1⟩, 0)) := by rw [Hid, HR0.out]; simp [removeC, HM.out, hlr]
      clear hlr HR0
      have n4 : w4.cell? ⟨q, 4, none⟩ = some (.int .i64 le) := cell_of_heap HQ4.out rfl
      have f4 : w4.frozen? ⟨q, 4, none⟩ = false := frozen_of_row _ _ _ _ _ HQ4.out
      have HQ5 : Hid ((w4.setCell ⟨q, 4, none⟩ (.int .i64 (-1))).heap[q]? = some (.cells (carr e0 sh (.slice va' vn vc) (.slice vb' vm vd) (-1)) 29)) := heap_setCell_same _ _ _ _ _ _ HQ4.out
      have HZ5 : Hid ((w4.setCell ⟨q, 4, none⟩ (.int .i64 (-1))).heap[w.heap.size + 1]? = some (.cells #[.int .u64 0, .int .i64 0, .slice none 0 0, .slice none 0 0, .int .i64 0] 29)) := (Below.heap_setCell _ _ _ _ (by have := HPQ.out; simp; omega)).trans HZ4.out
      have HB5 : Hid (Below w.heap.size w (w4.setCell ⟨q, 4, none⟩ (.int .i64 (-1)))) := HB4.out.setCell (p := ⟨q, 4, none⟩) (by have := HPQ.out; simp; omega) _
      have HO5 : Hid (OwnV (w4.setCell ⟨q, 4, none⟩ (.int .i64 (-1))) w.heap.size 3 (.slice va' vn vc) (l.map mi) ∧ OwnV (w4.setCell ⟨q, 4, none⟩ (.int .i64 (-1))) w.heap.size 4 (.slice vb' vm vd) (l.map mb)) := ⟨own_same HO4.out.1 (fun k hk ht => Below.heap_setCell _ _ _ _ (tag_ne HQ4.out (by decide) ht)), own_same HO4.out.2 (fun k hk ht => Below.heap_setCell _ _ _ _ (tag_ne HQ4.out (by decide) ht))⟩
      generalize hw5 : w4.setCell ⟨q, 4, none⟩ (.int .i64 (-1)) = w5 at *
      obtain ⟨z0, z1, z2, z3, z4⟩ := five_cells HZ5.out
      obtain ⟨g0, g1, g2, g3, g4⟩ := five_frozen HZ5.out
      obtain ⟨n0, n1, n2, n3, n4⟩ := five_cells HQ5.out
      have HF : Hid ((put5 w5 (w.heap.size + 1) (.int .u64 (e0 : Nat)) (.int .i64 sh) (.slice va' vn vc) (.slice vb' vm vd) (.int .i64 (-1))).heap[w.heap.size + 1]? = some (.cells (carr e0 sh (.slice va' vn vc) (.slice vb' vm vd) (-1)) 29)) := five_put HZ5.out
      have HBF : Hid (Below w.heap.size w (put5 w5 (w.heap.size + 1) (.int .u64 (e0 : Nat)) (.int .i64 sh) (.slice va' vn vc) (.slice vb' vm vd) (.int .i64 (-1)))) := below_put5 HB5.out (by omega) _ _ _ _ _
      have HOF : Hid (OwnV (put5 w5 (w.heap.size + 1) (.int .u64 (e0 : Nat)) (.int .i64 sh) (.slice va' vn vc) (.slice vb' vm vd) (.int .i64 (-1))) w.heap.size 3 (.slice va' vn vc) (l.map mi) ∧ OwnV (put5 w5 (w.heap.size + 1) (.int .u64 (e0 : Nat)) (.int .i64 sh) (.slice va' vn vc) (.slice vb' vm vd) (.int .i64 (-1))) w.heap.size 4 (.slice vb' vm vd) (l.map mb)) := ⟨own_same HO5.out.1 (fun k hk ht => put5_other _ _ _ _ _ (tag_ne HZ5.out (by decide) ht)), own_same HO5.out.2 (fun k hk ht => put5_other _ _ _ _ _ (tag_ne HZ5.out (by decide) ht))⟩
      unfold put5 at HF HBF HOF
      go_wp2
      generalize (((((w5.setCell ⟨w.heap.size + 1, 0, none⟩ (.int .u64 (e0 : Nat))).setCell ⟨w.heap.size + 1, 1, none⟩ (.int .i64 sh)).setCell ⟨w.heap.size + 1, 2, none⟩ (.slice va' vn vc)).setCell ⟨w.heap.size + 1, 3, none⟩ (.slice vb' vm vd)).setCell ⟨w.heap.size + 1, 4, none⟩ (.int .i64 (-1))) = wf at *
      clear z0 z1 z2 z3 z4 g0 g1 g2 g3 g4 n0 n1 n2 n3 n4
      obtain ⟨z0, z1, z2, z3, z4⟩ := five_cells HF.out
      refine bodyPost_ret (v := .tuple #[.agg (carr e0 sh (.slice va' vn vc) (.slice vb' vm vd) (-1)), .int .i64 0]) (by simp [results, Try.results35, go_sem, z0, z1, z2, z3, z4]) rfl ?_
      exact ⟨⟨_, by rw [HR.out], by rw [HR.out]; exact ⟨_, _, rfl, HOF.out.1, HOF.out.2, by show l.length ≤ 1000; rw [HLN.out]; omega⟩⟩, HBF.out⟩
    | false =>
      obtain ⟨x0, x1, x2, x3, x4⟩ := five_cells HP4.out
      have hcall := place_any _ _ x _ (HX.out.later HB4.out)
      go_wp2_with fail
      refine hcall.mono ?_
      clear hcall x0 x1 x2 x3 x4
      rintro e w5 ⟨rfl, hb5⟩
      have HP5 : Hid (w5.heap[w.heap.size]? = some (.cells (carr ep sh (.slice a n c1) (.slice b n c2) le) 29)) := heap_kept HP4.out hb5
      have HZ5 : Hid (w5.heap[w.heap.size + 1]? = some (.cells #[.int .u64 0, .int .i64 0, .slice none 0 0, .slice none 0 0, .int .i64 0] 29)) := heap_kept HZ4.out hb5
      have HB5 : Hid (Below w.heap.size w w5) := HB4.out.trans (hb5.mono HB4.out.size)
      have HQ5 : Hid (w5.heap[q]? = some (.cells (carr e0 sh (.slice va' vn vc) (.slice vb' vm vd) le) 29)) := heap_kept HQ4.out hb5
      have HO5 : Hid (OwnV w5 w.heap.size 3 (.slice va' vn vc) (l.map mi) ∧ OwnV w5 w.heap.size 4 (.slice vb' vm vd) (l.map mb)) := ⟨HO4.out.1.later hb5, HO4.out.2.later hb5⟩
      clear hb5 HP4 HZ4 HB4 HQ4 HO4
      rcases place_cases (c := ⟨ep, sh, l, le⟩) x with hneg | ⟨k, hk, hpk, hat, hbef⟩
      · have HR : Hid (r = (zeroC, 6)) := by rw [Hid, HR0.out]; simp [removeC, HM.out, hlr, hneg]
        clear HR0 hlr
        generalize placeC ⟨ep, sh, l, le⟩ x = pk at *
        obtain ⟨z0, z1, z2, z3, z4⟩ := five_cells HZ5.out
        obtain ⟨g0, g1, g2, g3, g4⟩ := five_frozen HZ5.out
        have HF : Hid ((put5 w5 (w.heap.size + 1) (.int .u64 0) (.int .i64 0) (.slice none 0 0) (.slice none 0 0) (.int .i64 0)).heap[w.heap.size + 1]? = some (.cells #[.int .u64 0, .int .i64 0, .slice none 0 0, .slice none 0 0, .int .i64 0] 29)) := five_put HZ5.out
        have HBF : Hid (Below w.heap.size w (put5 w5 (w.heap.size + 1) (.int .u64 0) (.int .i64 0) (.slice none 0 0) (.slice none 0 0) (.int .i64 0))) := below_put5 HB5.out (by omega) _ _ _ _ _
        unfold put5 at HF HBF
        go_wp2
        generalize (((((w5.setCell ⟨w.heap.size + 1, 0, none⟩ (.int .u64 0)).setCell ⟨w.heap.size + 1, 1, none⟩ (.int .i64 0)).setCell ⟨w.heap.size + 1, 2, none⟩ (.slice none 0 0)).setCell ⟨w.heap.size + 1, 3, none⟩ (.slice none 0 0)).setCell ⟨w.heap.size + 1, 4, none⟩ (.int .i64 0)) = wf at *
        clear z0 z1 z2 z3 z4 g0 g1 g2 g3 g4
        obtain ⟨z0, z1, z2, z3, z4⟩ := five_cells HF.out
        refine bodyPost_ret (v := .tuple #[.agg #[.int .u64 0, .int .i64 0, .slice none 0 0, .slice none 0 0, .int .i64 0], .int .i64 6]) (by simp [results, Try.results35, go_sem, z0, z1, z2, z3, z4]) rfl ?_
        exact ⟨⟨_, by rw [HR.out], by rw [HR.out]; exact ⟨_, _, rfl, OwnV.nil _ _ _, OwnV.nil _ _ _, by simp [zeroC]⟩⟩, HBF.out⟩
      · simp only at hk hat hbef
        have HR : Hid (r = if hd (l.eraseIdx k) = false then (zeroC, 10) else (⟨e0, sh, l.eraseIdx k, le⟩, 0)) := by rw [Hid, HR0.out]; simp [removeC, HM.out, hlr, hpk, show ¬ ((k : Int) < 0) by omega]
        clear HR0 hlr hat hbef
        rw [hpk]
        clear hpk
        have hkn : k < n := by rw [← HLN.out]; exact hk
        have hne1 : l.map mi ≠ [] := by intro e; have := congrArg List.length e; rw [List.length_map, List.length_nil] at this; omega
        have hne2 : l.map mb ≠ [] := by intro e; have := congrArg List.length e; rw [List.length_map, List.length_nil] at this; omega
        obtain ⟨g1, cap1, cur1, e1, hg1, hh1, hs1, hn1, hm1, ht1⟩ := own_lies HO5.out.1 hne1
        simp only [Value.slice.injEq] at e1
        obtain ⟨rfl, e2, rfl⟩ := e1
        obtain rfl : n = vn := by rw [e2, List.length_map]; exact HLN.out.symm
        clear e2
        have hcall := delete_int w.heap.size g1 vc k cur1 (l.map mi) w5 hg1 hh1 hs1 hn1 hm1 ht1 (mi_one l) (by simpa using hk) (by rw [List.length_map, HLN.out]; omega)
        rw [List.length_map, HLN.out] at hcall
        have HT1 : Hid (tagOf w5 g1 = some 3 ∧ w.heap.size ≤ g1) := ⟨tagOf_heap hh1, hg1⟩
        clear hg1 hh1 hs1 hn1 hm1 ht1 hne1 hk
        obtain ⟨x0, x1, x2, x3, x4⟩ := five_cells HQ5.out
        go_wp2_with fail
        refine hcall.mono ?_
        clear hcall x0 x1 x2 x3 x4
        rintro e w6 ⟨⟨v6, rfl, -, ho6⟩, hg6⟩
        obtain ⟨a6, n6, cc6, rfl⟩ := owns_slice ho6
        have HQ6 : Hid (w6.heap[q]? = some (.cells (carr e0 sh (.slice (some ⟨g1, 0, none⟩) n vc) (.slice vb' vm vd) le) 29)) := heap_grown HQ5.out hg6 HT1.out.1 (by decide)
        have HZ6 : Hid (w6.heap[w.heap.size + 1]? = some (.cells #[.int .u64 0, .int .i64 0, .slice none 0 0, .slice none 0 0, .int .i64 0] 29)) := heap_grown HZ5.out hg6 HT1.out.1 (by decide)
        have HB6 : Hid (Below w.heap.size w w6) := HB5.out.trans (below_grown hg6 HT1.out.2 HB5.out.size)
        have HO6 : Hid (OwnV w6 w.heap.size 3 (.slice a6 n6 cc6) ((l.map mi).eraseIdx k) ∧ OwnV w6 w.heap.size 4 (.slice vb' vm vd) (l.map mb)) := ⟨ho6, own_grown HO5.out.2 hg6 HT1.out.1 (by decide)⟩
        clear hg6 ho6 HQ5 HZ5 HB5 HO5 HT1 HP5
        have n2 : w6.cell? ⟨q, 2, none⟩ = some (.slice (some ⟨g1, 0, none⟩) n vc) := cell_of_heap HQ6.out rfl
        have f2 : w6.frozen? ⟨q, 2, none⟩ = false := frozen_of_row _ _ _ _ _ HQ6.out
        have HQ7 : Hid ((w6.setCell ⟨q, 2, none⟩ (.slice a6 n6 cc6)).heap[q]? = some (.cells (carr e0 sh (.slice a6 n6 cc6) (.slice vb' vm vd) le) 29)) := heap_setCell_same _ _ _ _ _ _ HQ6.out
        have HZ7 : Hid ((w6.setCell ⟨q, 2, none⟩ (.slice a6 n6 cc6)).heap[w.heap.size + 1]? = some (.cells #[.int .u64 0, .int .i64 0, .slice none 0 0, .slice none 0 0, .int .i64 0] 29)) := (Below.heap_setCell _ _ _ _ (by have := HPQ.out; simp; omega)).trans HZ6.out
        have HB7 : Hid (Below w.heap.size w (w6.setCell ⟨q, 2, none⟩ (.slice a6 n6 cc6))) := HB6.out.setCell (p := ⟨q, 2, none⟩) (by have := HPQ.out; simp; omega) _
        have HO7 : Hid (OwnV (w6.setCell ⟨q, 2, none⟩ (.slice a6 n6 cc6)) w.heap.size 3 (.slice a6 n6 cc6) ((l.map mi).eraseIdx k) ∧ OwnV (w6.setCell ⟨q, 2, none⟩ (.slice a6 n6 cc6)) w.heap.size 4 (.slice vb' vm vd) (l.map mb)) := ⟨own_same HO6.out.1 (fun k hk ht => Below.heap_setCell _ _ _ _ (tag_ne HQ6.out (by decide) ht)), own_same HO6.out.2 (fun k hk ht => Below.heap_setCell _ _ _ _ (tag_ne HQ6.out (by decide) ht))⟩
        generalize hw7 : w6.setCell ⟨q, 2, none⟩ (.slice a6 n6 cc6) = w7 at *
        obtain ⟨g2, cap2, cur2, e1, hg1, hh1, hs1, hn1, hm1, ht1⟩ := own_lies HO7.out.2 hne2
        simp only [Value.slice.injEq] at e1
        obtain ⟨rfl, e2, rfl⟩ := e1
        obtain rfl : n = vm := by rw [e2, List.length_map]; exact HLN.out.symm
        clear e2
        have hcall := delete_bool w.heap.size g2 vd k cur2 (l.map mb) w7 hg1 hh1 hs1 hn1 hm1 ht1 (mb_one l) (by rw [List.length_map, HLN.out]; omega) (by rw [List.length_map, HLN.out]; omega)
        rw [List.length_map, HLN.out] at hcall
        have HT1 : Hid (tagOf w7 g2 = some 4 ∧ w.heap.size ≤ g2) := ⟨tagOf_heap hh1, hg1⟩
        clear hg1 hh1 hs1 hn1 hm1 ht1 hne2
        obtain ⟨x0, x1, x2, x3, x4⟩ := five_cells HQ7.out
        go_wp2_with fail
        refine hcall.mono ?_
        clear hcall x0 x1 x2 x3 x4 n2 f2 hw7
        rintro e w8 ⟨⟨v8, rfl, -, ho8⟩, hg8⟩
        obtain ⟨a8, cc8, rfl, -⟩ := ho8.shape
        generalize hn8 : ((l.map mb).eraseIdx k).length = n8 at *
        have HN8 : Hid ((l.eraseIdx k).length = n8) := by rw [Hid, ← hn8, erase_map, List.length_map]
        clear hn8
        have HQ8 : Hid (w8.heap[q]? = some (.cells (carr e0 sh (.slice a6 n6 cc6) (.slice (some ⟨g2, 0, none⟩) n vd) le) 29)) := heap_grown HQ7.out hg8 HT1.out.1 (by decide)
        have HZ8 : Hid (w8.heap[w.heap.size + 1]? = some (.cells #[.int .u64 0, .int .i64 0, .slice none 0 0, .slice none 0 0, .int .i64 0] 29)) := heap_grown HZ7.out hg8 HT1.out.1 (by decide)
        have HB8 : Hid (Below w.heap.size w w8) := HB7.out.trans (below_grown hg8 HT1.out.2 HB7.out.size)
        have HO8 : Hid (OwnV w8 w.heap.size 3 (.slice a6 n6 cc6) ((l.eraseIdx k).map mi) ∧ OwnV w8 w.heap.size 4 (.slice a8 n8 cc8) ((l.eraseIdx k).map mb)) := by rw [erase_map] at ho8; refine ⟨?_, ho8⟩; rw [← erase_map]; exact own_grown HO7.out.1 hg8 HT1.out.1 (by decide)
        clear hg8 ho8 HQ7 HZ7 HB7 HO7 HT1 HQ6 HZ6 HB6 HO6
        have n3 : w8.cell? ⟨q, 3, none⟩ = some (.slice (some ⟨g2, 0, none⟩) n vd) := cell_of_heap HQ8.out rfl
        have f3 : w8.frozen? ⟨q, 3, none⟩ = false := frozen_of_row _ _ _ _ _ HQ8.out
        have HQ9 : Hid ((w8.setCell ⟨q, 3, none⟩ (.slice a8 n8 cc8)).heap[q]? = some (.cells (carr e0 sh (.slice a6 n6 cc6) (.slice a8 n8 cc8) le) 29)) := heap_setCell_same _ _ _ _ _ _ HQ8.out
        have HZ9 : Hid ((w8.setCell ⟨q, 3, none⟩ (.slice a8 n8 cc8)).heap[w.heap.size + 1]? = some (.cells #[.int .u64 0, .int .i64 0, .slice none 0 0, .slice none 0 0, .int .i64 0] 29)) := (Below.heap_setCell _ _ _ _ (by have := HPQ.out; simp; omega)).trans HZ8.out
        have HB9 : Hid (Below w.heap.size w (w8.setCell ⟨q, 3, none⟩ (.slice a8 n8 cc8))) := HB8.out.setCell (p := ⟨q, 3, none⟩) (by have := HPQ.out; simp; omega) _
        have HO9 : Hid (OwnV (w8.setCell ⟨q, 3, none⟩ (.slice a8 n8 cc8)) w.heap.size 3 (.slice a6 n6 cc6) ((l.eraseIdx k).map mi) ∧ OwnV (w8.setCell ⟨q, 3, none⟩ (.slice a8 n8 cc8)) w.heap.size 4 (.slice a8 n8 cc8) ((l.eraseIdx k).map mb)) := ⟨own_same HO8.out.1 (fun k hk ht => Below.heap_setCell _ _ _ _ (tag_ne HQ8.out (by decide) ht)), own_same HO8.out.2 (fun k hk ht => Below.heap_setCell _ _ _ _ (tag_ne HQ8.out (by decide) ht))⟩
        generalize hw9 : w8.setCell ⟨q, 3, none⟩ (.slice a8 n8 cc8) = w9 at *
        clear HQ8 HZ8 HB8 HO8
        have HLE : Hid ((l.eraseIdx k).length ≤ 1000) := by have h1 := List.length_eraseIdx_le l k; have h2 := HLN.out; show _ ≤ _; omega
        generalize l.eraseIdx k = l2 at *
        obtain ⟨n0, n1, n2, n33, n4⟩ := five_cells HQ9.out
        by_cases hn0 : n8 = 0
        · subst hn0
          have hl2 : l2 = [] := List.length_eq_zero_iff.1 HN8.out
          have HR' := HR.out
          rw [hl2, if_pos (show hd [] = false from rfl)] at HR'
          clear HR hl2
          have HR : Hid (r = (zeroC, 10)) := HR'
          clear HR'
          obtain ⟨z0, z1, z2, z3, z4⟩ := five_cells HZ9.out
          obtain ⟨g0, g1, g2, g3, g4⟩ := five_frozen HZ9.out
          have HF : Hid ((put5 w9 (w.heap.size + 1) (.int .u64 0) (.int .i64 0) (.slice none 0 0) (.slice none 0 0) (.int .i64 0)).heap[w.heap.size + 1]? = some (.cells #[.int .u64 0, .int .i64 0, .slice none 0 0, .slice none 0 0, .int .i64 0] 29)) := five_put HZ9.out
          have HBF : Hid (Below w.heap.size w (put5 w9 (w.heap.size + 1) (.int .u64 0) (.int .i64 0) (.slice none 0 0) (.slice none 0 0) (.int .i64 0))) := below_put5 HB9.out (by omega) _ _ _ _ _
          unfold put5 at HF HBF
          go_wp2
          generalize (((((w9.setCell ⟨w.heap.size + 1, 0, none⟩ (.int .u64 0)).setCell ⟨w.heap.size + 1, 1, none⟩ (.int .i64 0)).setCell ⟨w.heap.size + 1, 2, none⟩ (.slice none 0 0)).setCell ⟨w.heap.size + 1, 3, none⟩ (.slice none 0 0)).setCell ⟨w.heap.size + 1, 4, none⟩ (.int .i64 0)) = wf at *
          clear z0 z1 z2 z3 z4 g0 g1 g2 g3 g4
          obtain ⟨z0, z1, z2, z3, z4⟩ := five_cells HF.out
          refine bodyPost_ret (v := .tuple #[.agg #[.int .u64 0, .int .i64 0, .slice none 0 0, .slice none 0 0, .int .i64 0], .int .i64 10]) (by simp [results, Try.results35, go_sem, z0, z1, z2, z3, z4]) rfl ?_
          exact ⟨⟨_, by rw [HR.out], by rw [HR.out]; exact ⟨_, _, rfl, OwnV.nil _ _ _, OwnV.nil _ _ _, by simp [zeroC]⟩⟩, HBF.out⟩
        · obtain ⟨ad, hv8⟩ : ∃ b off, a8 = some ⟨b, off, none⟩ ∧ w9.cell? ⟨b, off, none⟩ = some (.bool (hd l2)) := by
            obtain ⟨a9, c9, e9, _, _, hv9⟩ := Vals.own HO9.out.2
            simp only [Value.slice.injEq] at e9
            obtain ⟨rfl, _, _⟩ := e9
            obtain ⟨b, off, e, hc⟩ := hv9.at (by rw [List.length_map, HN8.out]; omega)
            refine ⟨b, off, e, ?_⟩
            have hl0 : 0 < l2.length := by rw [HN8.out]; omega
            have := hc 0 (.bool (hd l2)) (by rw [List.getElem?_map, List.getElem?_eq_getElem hl0]; cases l2 with | nil => simp at hl0 | cons m t => rfl)
            simpa using this
          obtain ⟨off, rfl, y0⟩ := hv8
          have hpos : 0 < n8 := by omega
          generalize hdd : hd l2 = d at *
          have HD : Hid (hd l2 = d) := hdd
          clear hdd
          cases d with
          | false =>
            rw [if_pos rfl] at HR
            obtain ⟨z0, z1, z2, z3, z4⟩ := five_cells HZ9.out
            obtain ⟨g0, g1, g2, g3, g4⟩ := five_frozen HZ9.out
            have HF : Hid ((put5 w9 (w.heap.size + 1) (.int .u64 0) (.int .i64 0) (.slice none 0 0) (.slice none 0 0) (.int .i64 0)).heap[w.heap.size + 1]? = some (.cells #[.int .u64 0, .int .i64 0, .slice none 0 0, .slice none 0 0, .int .i64 0] 29)) := five_put HZ9.out
            have HBF : Hid (Below w.heap.size w (put5 w9 (w.heap.size + 1) (.int .u64 0) (.int .i64 0) (.slice none 0 0) (.slice none 0 0) (.int .i64 0))) := below_put5 HB9.out (by omega) _ _ _ _ _
            unfold put5 at HF HBF
            go_wp2
            generalize (((((w9.setCell ⟨w.heap.size + 1, 0, none⟩ (.int .u64 0)).setCell ⟨w.heap.size + 1, 1, none⟩ (.int .i64 0)).setCell ⟨w.heap.size + 1, 2, none⟩ (.slice none 0 0)).setCell ⟨w.heap.size + 1, 3, none⟩ (.slice none 0 0)).setCell ⟨w.heap.size + 1, 4, none⟩ (.int .i64 0)) = wf at *
            clear z0 z1 z2 z3 z4 g0 g1 g2 g3 g4
            obtain ⟨z0, z1, z2, z3, z4⟩ := five_cells HF.out
            refine bodyPost_ret (v := .tuple #[.agg #[.int .u64 0, .int .i64 0, .slice none 0 0, .slice none 0 0, .int .i64 0], .int .i64 10]) (by simp [results, Try.results35, go_sem, z0, z1, z2, z3, z4]) rfl ?_
            exact ⟨⟨_, by rw [HR.out], by rw [HR.out]; exact ⟨_, _, rfl, OwnV.nil _ _ _, OwnV.nil _ _ _, by simp [zeroC]⟩⟩, HBF.out⟩
          | true =>
            rw [if_neg (by simp)] at HR
            obtain ⟨z0, z1, z2, z3, z4⟩ := five_cells HZ9.out
            obtain ⟨g0, g1, g2, g3, g4⟩ := five_frozen HZ9.out
            obtain ⟨n0, n1, n2, n3, n4⟩ := five_cells HQ9.out
            have HF : Hid ((put5 w9 (w.heap.size + 1) (.int .u64 (e0 : Nat)) (.int .i64 sh) (.slice a6 n6 cc6) (.slice (some ⟨ad, off, none⟩) n8 cc8) (.int .i64 le)).heap[w.heap.size + 1]? = some (.cells (carr e0 sh (.slice a6 n6 cc6) (.slice (some ⟨ad, off, none⟩) n8 cc8) le) 29)) := five_put HZ9.out
            have HBF : Hid (Below w.heap.size w (put5 w9 (w.heap.size + 1) (.int .u64 (e0 : Nat)) (.int .i64 sh) (.slice a6 n6 cc6) (.slice (some ⟨ad, off, none⟩) n8 cc8) (.int .i64 le))) := below_put5 HB9.out (by omega) _ _ _ _ _
            have HOF : Hid (OwnV (put5 w9 (w.heap.size + 1) (.int .u64 (e0 : Nat)) (.int .i64 sh) (.slice a6 n6 cc6) (.slice (some ⟨ad, off, none⟩) n8 cc8) (.int .i64 le)) w.heap.size 3 (.slice a6 n6 cc6) (l2.map mi) ∧ OwnV (put5 w9 (w.heap.size + 1) (.int .u64 (e0 : Nat)) (.int .i64 sh) (.slice a6 n6 cc6) (.slice (some ⟨ad, off, none⟩) n8 cc8) (.int .i64 le)) w.heap.size 4 (.slice (some ⟨ad, off, none⟩) n8 cc8) (l2.map mb)) := ⟨own_same HO9.out.1 (fun k hk ht => put5_other _ _ _ _ _ (tag_ne HZ9.out (by decide) ht)), own_same HO9.out.2 (fun k hk ht => put5_other _ _ _ _ _ (tag_ne HZ9.out (by decide) ht))⟩
            unfold put5 at HF HBF HOF
            go_wp2
            generalize (((((w9.setCell ⟨w.heap.size + 1, 0, none⟩ (.int .u64 (e0 : Nat))).setCell ⟨w.heap.size + 1, 1, none⟩ (.int .i64 sh)).setCell ⟨w.heap.size + 1, 2, none⟩ (.slice a6 n6 cc6)).setCell ⟨w.heap.size + 1, 3, none⟩ (.slice (some ⟨ad, off, none⟩) n8 cc8)).setCell ⟨w.heap.size + 1, 4, none⟩ (.int .i64 le)) = wf at *
            clear z0 z1 z2 z3 z4 g0 g1 g2 g3 g4 n0 n1 n2 n3 n4
            obtain ⟨z0, z1, z2, z3, z4⟩ := five_cells HF.out
            refine bodyPost_ret (v := .tuple #[.agg (carr e0 sh (.slice a6 n6 cc6) (.slice (some ⟨ad, off, none⟩) n8 cc8) le), .int .i64 0]) (by simp [results, Try.results35, go_sem, z0, z1, z2, z3, z4]) rfl ?_
            exact ⟨⟨_, by rw [HR.out], by rw [HR.out]; exact ⟨_, _, rfl, HOF.out.1, HOF.out.2, HLE.out⟩⟩, HBF.out⟩
end Go.Proofs.Ytgpjplpfjghcgaa
