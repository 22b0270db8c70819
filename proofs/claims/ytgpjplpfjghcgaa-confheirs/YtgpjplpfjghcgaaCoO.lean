/- The document's Promote, Mark. -/
import Derived.Test.YtgpjplpfjghcgaaCoN
namespace Go.Proofs.Ytgpjplpfjghcgaa
open Go Go.RowKit
set_option linter.unusedVariables false
set_option linter.unusedSimpArgs false

theorem mcells_one (l : List Mb) : ∀ u ∈ l.flatMap mcells, u.oneCell' = true := by
  intro u hu
  obtain ⟨m, _, hu⟩ := List.mem_flatMap.1 hu
  simp [mcells] at hu
  rcases hu with rfl | rfl <;> rfl
theorem Mrow.news {w : World} {ad : Addr} {l : List Mb} (h : Mrow w (some ad) l) : ∀ j u, (l.flatMap mcells)[j]? = some u → w.cell? (ad.add j) = some u := by
  intro j u hj
  have hlen := flat_length mcells 2 (fun _ => rfl) l
  have hjl : j < l.length * 2 := by have := (List.getElem?_eq_some_iff.1 hj).1; rw [hlen] at this; exact this
  obtain ⟨b, off, e, hc⟩ := h.at (by omega)
  simp only [Option.some.injEq] at e
  subst e
  have hi : j / 2 < l.length := by omega
  have hg : l[j / 2]? = some l[j / 2] := List.getElem?_eq_getElem hi
  have h1 := flat_at mcells 2 (fun _ => rfl) l (j / 2) (j % 2) _ hg (by omega)
  rw [show j / 2 * 2 + j % 2 = j by omega, hj] at h1
  obtain ⟨q0, q1⟩ := hc _ _ hg
  rw [Addr.add_lit]
  have hr : j % 2 = 0 ∨ j % 2 = 1 := by omega
  rcases hr with hr | hr
  · rw [hr] at h1
    simp [mcells] at h1
    rw [show off + j = off + j / 2 * 2 by omega, q0, h1]
  · rw [hr] at h1
    simp [mcells] at h1
    rw [show off + j = off + j / 2 * 2 + 1 by omega, q1, h1]
theorem owns_read {w : World} {base : Nat} {a : Option Addr} {n c : Nat} {l : List Mb} (h : w.ownsRow base 40 2 (.slice a n c) l.length (l.flatMap mcells)) : n = l.length ∧ Mrow w a l := by
  obtain ⟨a', c', e, _, _, _, hc⟩ := owns_at mcells 2 (fun _ => rfl) h
  simp only [Value.slice.injEq] at e
  obtain ⟨rfl, rfl, rfl⟩ := e
  refine ⟨rfl, ?_⟩
  by_cases hl : 0 < l.length
  · obtain ⟨b, off, e, hcc⟩ := hc hl
    exact .inr ⟨b, off, e, fun i m hi => ⟨by have := hcc i m hi 0 (by omega); simpa [mcells] using this, by have := hcc i m hi 1 (by omega); simpa [mcells] using this⟩⟩
  · exact .inl (List.length_eq_zero_iff.1 (by omega))

set_option maxRecDepth 100000 in
set_option maxHeartbeats 4000000 in
theorem rpromote_any (v : Value) (c : Cf) (x : Int) (e0 : Nat) (w : World) (h : Rfr w v c) (hle : c.l.length ≤ 900) :
    Calls Try.prog 40 #[v, .int .i64 x, .int .u64 (e0 : Nat)] w fun e w' => (∃ v', e = .returned (.tuple #[v', .int .i64 (promoteC ⟨c.ep, c.sh, c.l, c.le⟩ x e0).2]) ∧ Rfr w' v' (promoteC ⟨c.ep, c.sh, c.l, c.le⟩ x e0).1) ∧ Below w.heap.size w w' := by
  obtain ⟨r, hr⟩ : ∃ r, r = promoteC ⟨c.ep, c.sh, c.l, c.le⟩ x e0 := ⟨_, rfl⟩
  rw [← hr]
  have HR0 : Hid (r = promoteC ⟨c.ep, c.sh, c.l, c.le⟩ x e0) := hr
  clear hr
  obtain ⟨a, c1, rfl, hm, hl⟩ := h
  obtain ⟨ep, sh, l, le⟩ := c
  simp only at *
  have hW0 : Below w.heap.size w ((w.alloc (.cells (rarr ep sh (.slice a l.length c1) le) 25)).alloc (.cells #[.int .u64 0, .int .i64 0, .slice none 0 0, .int .i64 0] 25)) := ((Below.refl _ _).alloc (Nat.le_refl _) _).alloc (by simp) _
  have hP0 : ((w.alloc (.cells (rarr ep sh (.slice a l.length c1) le) 25)).alloc (.cells #[.int .u64 0, .int .i64 0, .slice none 0 0, .int .i64 0] 25)).heap[w.heap.size]? = some (.cells (rarr ep sh (.slice a l.length c1) le) 25) := heap_kept (heap_alloc_new _ _) ((Below.refl _ _).alloc (Nat.le_refl _) _)
  have hZ0 : ((w.alloc (.cells (rarr ep sh (.slice a l.length c1) le) 25)).alloc (.cells #[.int .u64 0, .int .i64 0, .slice none 0 0, .int .i64 0] 25)).heap[w.heap.size + 1]? = some (.cells #[.int .u64 0, .int .i64 0, .slice none 0 0, .int .i64 0] 25) := by have := heap_alloc_new (w.alloc (.cells (rarr ep sh (.slice a l.length c1) le) 25)) (.cells #[.int .u64 0, .int .i64 0, .slice none 0 0, .int .i64 0] 25); rw [World.size_alloc] at this; exact this
  have HX : Hid (Rfr w (.agg (rarr ep sh (.slice a l.length c1) le)) ⟨ep, sh, l, le⟩) := ⟨a, c1, rfl, hm, hl⟩
  have HM : Hid (Mrow w a l) := hm
  clear hm
  generalize hW : ((w.alloc (.cells (rarr ep sh (.slice a l.length c1) le) 25)).alloc (.cells #[.int .u64 0, .int .i64 0, .slice none 0 0, .int .i64 0] 25)) = w0 at *
  have HB0 : Hid (Below w.heap.size w w0) := hW0
  have HP0 : Hid (w0.heap[w.heap.size]? = some (.cells (rarr ep sh (.slice a l.length c1) le) 25)) := hP0
  have HZ0 : Hid (w0.heap[w.heap.size + 1]? = some (.cells #[.int .u64 0, .int .i64 0, .slice none 0 0, .int .i64 0] 25)) := hZ0
  clear hW0 hP0 hZ0
  generalize hn : l.length = n at *
  have HLN : Hid (l.length = n) := hn
  clear hn
  obtain ⟨x0, x1, x2, x3⟩ := four_cells HP0.out
  have hcall := rmay_any _ _ x e0 _ (HX.out.later HB0.out)
  go_enter Try.func40, Try.ntmps40
  go_wp2_with fail
  refine hcall.mono ?_
  clear hcall x0 x1 x2 x3 hW
  rintro e w1 ⟨rfl, hb1⟩
  have HP1 : Hid (w1.heap[w.heap.size]? = some (.cells (rarr ep sh (.slice a n c1) le) 25)) := heap_kept HP0.out hb1
  have HZ1 : Hid (w1.heap[w.heap.size + 1]? = some (.cells #[.int .u64 0, .int .i64 0, .slice none 0 0, .int .i64 0] 25)) := heap_kept HZ0.out hb1
  have HB1 : Hid (Below w.heap.size w w1) := HB0.out.trans (hb1.mono HB0.out.size)
  clear hb1
  cases hm : mayB ⟨ep, sh, l, le⟩ x e0 with
  | false =>
    have HR : Hid (r = (zeroC, 1)) := by rw [Hid, HR0.out]; simp [promoteC, hm]
    clear hm HR0
    obtain ⟨z0, z1, z2, z3⟩ := four_cells HZ1.out
    obtain ⟨g0, g1, g2, g3⟩ := four_frozen HZ1.out
    have HF : Hid ((put4 w1 (w.heap.size + 1) (.int .u64 0) (.int .i64 0) (.slice none 0 0) (.int .i64 0)).heap[w.heap.size + 1]? = some (.cells #[.int .u64 0, .int .i64 0, .slice none 0 0, .int .i64 0] 25)) := four_put HZ1.out
    have HBF : Hid (Below w.heap.size w (put4 w1 (w.heap.size + 1) (.int .u64 0) (.int .i64 0) (.slice none 0 0) (.int .i64 0))) := below_put4 HB1.out (by omega) _ _ _ _
    unfold put4 at HF HBF
    go_wp2
    generalize ((((w1.setCell ⟨w.heap.size + 1, 0, none⟩ (.int .u64 0)).setCell ⟨w.heap.size + 1, 1, none⟩ (.int .i64 0)).setCell ⟨w.heap.size + 1, 2, none⟩ (.slice none 0 0)).setCell ⟨w.heap.size + 1, 3, none⟩ (.int .i64 0)) = wf at *
    clear z0 z1 z2 z3 g0 g1 g2 g3
    obtain ⟨z0, z1, z2, z3⟩ := four_cells HF.out
    refine bodyPost_ret (v := .tuple #[.agg #[.int .u64 0, .int .i64 0, .slice none 0 0, .int .i64 0], .int .i64 1]) (by simp [results, Try.results40, go_sem, z0, z1, z2, z3]) rfl ?_
    exact ⟨⟨_, by rw [HR.out], by rw [HR.out]; exact ⟨none, 0, rfl, .inl rfl, by simp [zeroC]⟩⟩, HBF.out⟩
  | true =>
    have hml := may_learns hm
    have hrt := (may_right hm).1.few
    simp only at hml hrt
    rw [HLN.out] at hrt
    have HM1 : Hid (mayB ⟨ep, sh, l, le⟩ x e0 = true) := hm
    have HLE : Hid (learnsB ⟨ep, sh, l, le⟩ x = decide (le = x)) := hml
    clear hm hml
    obtain ⟨x0, x1, x2, x3⟩ := four_cells HP1.out
    by_cases h1 : le = x
    · have HR : Hid (r = (⟨e0, sh, l ++ [(x, false)], -1⟩, 0)) := by rw [Hid, HR0.out, promoteC, if_neg (by rw [HM1.out]; simp), if_neg (by rw [HLE.out, h1]; simp)]
      have h1b : (le != x) = false := by simp [h1]
      clear HR0 HM1 HLE h1
      have ha : Below w1.heap.size w1 (w1.alloc (.cells #[] 40)) := (Below.refl _ _).alloc (Nat.le_refl _) _
      obtain ⟨b, off, rfl, -⟩ := HM.out.at (by rw [HLN.out]; omega)
      have HNW : Hid (∀ j u, (l.flatMap mcells)[j]? = some u → (w1.alloc (.cells #[] 40)).cell? ((⟨b, off, none⟩ : Addr).add j) = some u) := Mrow.news ((HM.out.later HB1.out).later ha)
      have HOW : Hid ((w1.alloc (.cells #[] 40)).ownsRow w1.heap.size 40 2 (.slice (some ⟨w1.heap.size, 0, none⟩) 0 0) 0 []) := World.ownsRow_made w1 #[] 0 (Nat.le_refl _) (Nat.zero_le _) rfl
      have x2' : (w1.alloc (.cells #[] 40)).cell? ⟨w.heap.size, 2, none⟩ = some (.slice (some ⟨b, off, none⟩) n c1) := cell_of_heap (heap_kept HP1.out ha) rfl
      go_upto_region 6 with (
        at_builtin; refine wp_append_els mcells 2 16 23 40 _ Try.underlying23 Try.info_40 rfl (by decide) (fun _ => rfl) (by decide) rfl _ _ rfl w1.heap.size (.slice (some ⟨w1.heap.size, 0, none⟩) 0 0) ([] : List Mb) rfl HOW.out _ n c1 l rfl HLN.out.symm HNW.out (mcells_one l) (by omega) (by simp; omega) (by simp) ?_
        intro v2 w2 ho2 hg2 _
        obtain ⟨a2, n2, c2, rfl⟩ := owns_slice ho2
        rw [List.nil_append] at ho2
        obtain ⟨hn2, -⟩ := owns_read ho2
        rw [HLN.out] at hn2
        subst hn2
        have hf2 : Fr w1.heap.size [40] (w1.alloc (.cells #[] 40)) w2 := Fr.grown hg2 (fun k hk => by simp [Value.ownBlock] at hk; subst hk; exact ⟨Nat.le_refl _, 40, by simp, tagOf_heap (heap_alloc_new _ _)⟩)
        have HP2 : Hid (w2.heap[w.heap.size]? = some (.cells (rarr ep sh (.slice (some ⟨b, off, none⟩) n2 c1) le) 25)) := hf2.cells (heap_kept HP1.out ha) (by decide)
        have HZ2 : Hid (w2.heap[w.heap.size + 1]? = some (.cells #[.int .u64 0, .int .i64 0, .slice none 0 0, .int .i64 0] 25)) := hf2.cells (heap_kept HZ1.out ha) (by decide)
        have hb2 : Below w1.heap.size w1 w2 := ha.trans (hf2.below (by simp))
        have HB2 : Hid (Below w.heap.size w w2) := HB1.out.trans (hb2.mono HB1.out.size)
        have HW2 : Hid (w2.ownsRow w.heap.size 40 2 (.slice a2 n2 c2) l.length (l.flatMap mcells)) := owns_mono ho2 HB1.out.size
        clear ho2 hg2 hf2 hb2 x0 x1 x2 x3 x2')
      have x1 : w2.cell? ⟨w.heap.size, 1, none⟩ = some (.int .i64 sh) := cell_of_heap HP2.out rfl
      refine wp_region_noPanic ?_
      refine wp_region_letz 9 (fun w' => w'.cell? ⟨w.heap.size, 1, none⟩ = some (.int .i64 sh)) (by kernel_rfl) ?_ (fun hHeld => ?_)
      · exact x1
      refine letz_take (i := 0) (d := 24) (v := ?_) rfl rfl (by kernel_rfl) (by kernel_rfl) (by kernel_rfl) (by kernel_rfl) (fun _ _ _ h => h) (Or.inl ⟨by rfl, ?_⟩) hHeld ?_
      rotate_left
      · (intro w hSw; (try dsimp only at hSw); go_simp; all_goals (with_reducible rfl))
      try simp only [Act.put, List.setIfInBounds_toArray, List.set_cons_zero, List.set_cons_succ]
      refine letz_take (i := 1) (d := 25) (v := ?_) rfl rfl (by kernel_rfl) (by kernel_rfl) (by kernel_rfl) (by kernel_rfl) (fun _ _ _ h => h) (Or.inl ⟨by rfl, ?_⟩) hHeld ?_
      rotate_left
      · (intro w hSw; (try dsimp only at hSw); go_simp; all_goals (with_reducible rfl))
      try simp only [Act.put, List.setIfInBounds_toArray, List.set_cons_zero, List.set_cons_succ]
      refine letz_take (i := 2) (d := 26) (v := ?_) rfl rfl (by kernel_rfl) (by kernel_rfl) (by kernel_rfl) (by kernel_rfl) (fun _ _ _ h => h) (Or.inl ⟨by rfl, ?_⟩) hHeld ?_
      rotate_left
      · (intro w hSw; (try dsimp only at hSw); go_simp; all_goals (with_reducible rfl))
      try simp only [Act.put, List.setIfInBounds_toArray, List.set_cons_zero, List.set_cons_succ]
      refine letz_take (i := 3) (d := 27) (v := ?_) rfl rfl (by kernel_rfl) (by kernel_rfl) (by kernel_rfl) (by kernel_rfl) (fun _ _ _ h => h) (Or.inl ⟨by rfl, ?_⟩) hHeld ?_
      rotate_left
      · (intro w hSw; (try dsimp only at hSw); go_simp; all_goals (with_reducible rfl))
      try simp only [Act.put, List.setIfInBounds_toArray, List.set_cons_zero, List.set_cons_succ]
      refine letz_take (i := 4) (d := 28) (v := ?_) rfl rfl (by kernel_rfl) (by kernel_rfl) (by kernel_rfl) (by kernel_rfl) (fun _ _ _ h => h) (Or.inl ⟨by rfl, ?_⟩) hHeld ?_
      rotate_left
      · (intro w hSw; (try dsimp only at hSw); go_simp; all_goals (with_reducible rfl))
      try simp only [Act.put, List.setIfInBounds_toArray, List.set_cons_zero, List.set_cons_succ]
      refine letz_take (i := 5) (d := 29) (v := ?_) rfl rfl (by kernel_rfl) (by kernel_rfl) (by kernel_rfl) (by kernel_rfl) (fun _ _ _ h => h) (Or.inl ⟨by rfl, ?_⟩) hHeld ?_
      rotate_left
      · (intro w hSw; (try dsimp only at hSw); go_simp; all_goals (with_reducible rfl))
      try simp only [Act.put, List.setIfInBounds_toArray, List.set_cons_zero, List.set_cons_succ]
      have hb5 : Below w2.heap.size w2 (w2.alloc (.cells #[.int .i64 x, .bool false] 40)).drew := ((Below.refl _ w2).alloc (Nat.le_refl _) _).drew
      have hn5 : (w2.alloc (.cells #[.int .i64 x, .bool false] 40)).drew.heap[w2.heap.size]? = some (.cells #[.int .i64 x, .bool false] 40) := heap_alloc_new w2 _
      refine letz_one (i := 6) (by kernel_rfl) rfl (fun K hK => ?_)
      go_simp
      refine hK.out _ _ ?_ (fun hHeld => ?_)
      · exact fun _ => cell_later hb5 x1
      replace hHeld := hHeld (by kernel_rfl)
      clear hK K
      try simp only [Act.put, List.setIfInBounds_toArray, List.set_cons_zero, List.set_cons_succ]
      have HB5 : Hid (Below w.heap.size w (w2.alloc (.cells #[.int .i64 x, .bool false] 40)).drew) := HB2.out.trans (hb5.mono HB2.out.size)
      have HP5 : Hid ((w2.alloc (.cells #[.int .i64 x, .bool false] 40)).drew.heap[w.heap.size]? = some (.cells (rarr ep sh (.slice (some ⟨b, off, none⟩) n2 c1) le) 25)) := heap_kept HP2.out hb5
      have HZ5 : Hid ((w2.alloc (.cells #[.int .i64 x, .bool false] 40)).drew.heap[w.heap.size + 1]? = some (.cells #[.int .u64 0, .int .i64 0, .slice none 0 0, .int .i64 0] 25)) := heap_kept HZ2.out hb5
      have hown : (w2.alloc (.cells #[.int .i64 x, .bool false] 40)).drew.ownsRow w.heap.size 40 2 (.slice a2 n2 c2) l.length (l.flatMap mcells) := owns_later HW2.out hb5
      have hc2 := news_one mcells (x, false) hn5 rfl
      generalize (w2.alloc (.cells #[.int .i64 x, .bool false] 40)).drew = w5 at *
      clear hb5 hn5 x1 HB2 HP2 HZ2 HW2
      refine letz_one (i := 7) (by kernel_rfl) rfl (fun K hK => ?_)
      refine step_append_els mcells 2 16 23 40 _ Try.underlying23 Try.info_40 rfl (by decide) (fun _ => rfl) (by decide) rfl _ _ rfl w.heap.size _ l rfl hown ⟨w2.heap.size, 0, none⟩ 1 1 [(x, false)] rfl rfl hc2 (by intro u hu; simp [mcells] at hu; rcases hu with rfl | rfl <;> rfl) (by decide) (by rw [HLN.out]; omega) HB5.out.size ?_
      intro v9 w9 ho9 hg9 _
      obtain ⟨va, vn, vc, rfl⟩ := owns_slice ho9
      have hf9 : Fr w.heap.size [40] w5 w9 := Fr.grown hg9 (fun k hk => ⟨(owns_tag hown k hk).1, 40, by simp, (owns_tag hown k hk).2⟩)
      have HP9 : Hid (w9.heap[w.heap.size]? = some (.cells (rarr ep sh (.slice (some ⟨b, off, none⟩) n2 c1) le) 25)) := hf9.cells HP5.out (by decide)
      have HZ9 : Hid (w9.heap[w.heap.size + 1]? = some (.cells #[.int .u64 0, .int .i64 0, .slice none 0 0, .int .i64 0] 25)) := hf9.cells HZ5.out (by decide)
      have HB9 : Hid (Below w.heap.size w w9) := HB5.out.trans (hf9.below HB5.out.size)
      have HW9 : Hid (w9.ownsRow w.heap.size 40 2 (.slice va vn vc) (l ++ [(x, false)]).length ((l ++ [(x, false)]).flatMap mcells)) := ho9
      refine hK.out _ _ ?_ (fun hHeld => ?_)
      · exact fun _ => cell_of_heap HP9.out rfl
      replace hHeld := hHeld (by kernel_rfl)
      clear hK K
      try simp only [Act.put, List.setIfInBounds_toArray, List.set_cons_zero, List.set_cons_succ]
      clear hf9 ho9 hg9 hown hc2 HB5 HP5 HZ5
      obtain ⟨z0, z1, z2, z3⟩ := four_cells HZ9.out
      obtain ⟨g0, g1, g2, g3⟩ := four_frozen HZ9.out
      refine letz_take (i := 8) (d := 32) (v := ?_) rfl rfl (by kernel_rfl) (by kernel_rfl) (by kernel_rfl) (by kernel_rfl) (fun _ _ _ h => h) (Or.inl ⟨by rfl, ?_⟩) hHeld ?_
      rotate_left
      · (intro w hSw; (try dsimp only at hSw); go_simp; all_goals (with_reducible rfl))
      try simp only [Act.put, List.setIfInBounds_toArray, List.set_cons_zero, List.set_cons_succ]
      refine letz_one (i := 9) (by kernel_rfl) rfl (fun K hK => ?_)
      go_simp
      refine hK.out _ _ ?_ (fun hHeld => ?_)
      · exact fun h => absurd h (by decide)
      clear hHeld
      clear hK K
      try simp only [Act.put, List.setIfInBounds_toArray, List.set_cons_zero, List.set_cons_succ]
      refine letz_one (i := 10) (by kernel_rfl) rfl (fun K hK => ?_)
      go_simp
      refine hK.out _ _ ?_ (fun hHeld => ?_)
      · exact fun h => absurd h (by decide)
      clear hHeld
      clear hK K
      try simp only [Act.put, List.setIfInBounds_toArray, List.set_cons_zero, List.set_cons_succ]
      refine letz_done (by kernel_rfl) ?_ _
      refine NoPanic.normal ?_
      have HF : Hid ((put4 w9 (w.heap.size + 1) (.int .u64 (e0 : Nat)) (.int .i64 sh) (.slice va vn vc) (.int .i64 (-1))).heap[w.heap.size + 1]? = some (.cells (rarr e0 sh (.slice va vn vc) (-1)) 25)) := four_put HZ9.out
      have HBF : Hid (Below w.heap.size w (put4 w9 (w.heap.size + 1) (.int .u64 (e0 : Nat)) (.int .i64 sh) (.slice va vn vc) (.int .i64 (-1)))) := below_put4 HB9.out (by omega) _ _ _ _
      have HMF : Hid ((put4 w9 (w.heap.size + 1) (.int .u64 (e0 : Nat)) (.int .i64 sh) (.slice va vn vc) (.int .i64 (-1))).ownsRow w.heap.size 40 2 (.slice va vn vc) (l ++ [(x, false)]).length ((l ++ [(x, false)]).flatMap mcells)) := owns_same HW9.out (fun k hk ht => put4_other _ _ _ _ (tag_ne HZ9.out (by decide) ht))
      unfold put4 at HF HBF HMF
      go_wp2
      generalize ((((w9.setCell ⟨w.heap.size + 1, 0, none⟩ (.int .u64 (e0 : Nat))).setCell ⟨w.heap.size + 1, 1, none⟩ (.int .i64 sh)).setCell ⟨w.heap.size + 1, 2, none⟩ (.slice va vn vc)).setCell ⟨w.heap.size + 1, 3, none⟩ (.int .i64 (-1))) = wf at *
      clear z0 z1 z2 z3 g0 g1 g2 g3
      obtain ⟨z0, z1, z2, z3⟩ := four_cells HF.out
      refine bodyPost_ret (v := .tuple #[.agg (rarr e0 sh (.slice va vn vc) (-1)), .int .i64 0]) (by simp [results, Try.results40, go_sem, z0, z1, z2, z3]) rfl ?_
      obtain ⟨hvn, hmr⟩ := owns_read HMF.out
      exact ⟨⟨_, by rw [HR.out], by rw [HR.out]; exact ⟨va, vc, by rw [hvn], hmr, by show (l ++ [(x, false)]).length ≤ 100000; rw [List.length_append, HLN.out]; simp; omega⟩⟩, HBF.out⟩
    · have HR : Hid (r = (zeroC, 6)) := by rw [Hid, HR0.out, promoteC, if_neg (by rw [HM1.out]; simp), if_pos (by rw [HLE.out]; simp [h1])]
      have h1b : (le != x) = true := by simp [h1]
      clear HR0 HM1 HLE h1
      obtain ⟨z0, z1, z2, z3⟩ := four_cells HZ1.out
      obtain ⟨g0, g1, g2, g3⟩ := four_frozen HZ1.out
      have HF : Hid ((put4 w1 (w.heap.size + 1) (.int .u64 0) (.int .i64 0) (.slice none 0 0) (.int .i64 0)).heap[w.heap.size + 1]? = some (.cells #[.int .u64 0, .int .i64 0, .slice none 0 0, .int .i64 0] 25)) := four_put HZ1.out
      have HBF : Hid (Below w.heap.size w (put4 w1 (w.heap.size + 1) (.int .u64 0) (.int .i64 0) (.slice none 0 0) (.int .i64 0))) := below_put4 HB1.out (by omega) _ _ _ _
      unfold put4 at HF HBF
      go_wp2
      generalize ((((w1.setCell ⟨w.heap.size + 1, 0, none⟩ (.int .u64 0)).setCell ⟨w.heap.size + 1, 1, none⟩ (.int .i64 0)).setCell ⟨w.heap.size + 1, 2, none⟩ (.slice none 0 0)).setCell ⟨w.heap.size + 1, 3, none⟩ (.int .i64 0)) = wf at *
      clear z0 z1 z2 z3 g0 g1 g2 g3
      obtain ⟨z0, z1, z2, z3⟩ := four_cells HF.out
      refine bodyPost_ret (v := .tuple #[.agg #[.int .u64 0, .int .i64 0, .slice none 0 0, .int .i64 0], .int .i64 6]) (by simp [results, Try.results40, go_sem, z0, z1, z2, z3]) rfl ?_
      exact ⟨⟨_, by rw [HR.out], by rw [HR.out]; exact ⟨none, 0, rfl, .inl rfl, by simp [zeroC]⟩⟩, HBF.out⟩
end Go.Proofs.Ytgpjplpfjghcgaa
