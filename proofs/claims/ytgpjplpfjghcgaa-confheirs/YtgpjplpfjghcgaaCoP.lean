/- The document's Mark. -/
import Derived.Test.YtgpjplpfjghcgaaCoO
namespace Go.Proofs.Ytgpjplpfjghcgaa
open Go Go.RowKit
set_option linter.unusedVariables false
set_option linter.unusedSimpArgs false

theorem Mrow.set {w : World} {g : Nat} {l : List Mb} (h : Mrow w (some ⟨g, 0, none⟩) l) (k : Nat) (hk : k < l.length) (x : Int) (hx : (nodes l)[k]? = some x) : Mrow (w.setCell ⟨g, k * 2 + 1, none⟩ (.bool true)) (some ⟨g, 0, none⟩) (l.set k (x, true)) := by
  obtain ⟨b, off, e, hc⟩ := h.at (by omega)
  simp only [Option.some.injEq, Addr.mk.injEq] at e
  obtain ⟨rfl, rfl, _⟩ := e
  refine .inr ⟨g, 0, rfl, fun i m hi => ?_⟩
  rw [List.getElem?_set] at hi
  by_cases hik : k = i
  · subst hik
    rw [if_pos rfl, if_pos hk] at hi
    simp only [Option.some.injEq] at hi
    subst hi
    obtain ⟨q0, q1⟩ := hc k _ (List.getElem?_eq_getElem hk)
    have hx1 : l[k].1 = x := by simp [nodes, hk] at hx; exact hx
    rw [hx1] at q0
    rw [Nat.zero_add] at q0 q1 ⊢
    exact ⟨by rw [World.cell?_setCell_other _ _ _ _ (by simp)]; exact q0, World.cell?_setCell_same _ _ _ q1⟩
  · rw [if_neg hik] at hi
    obtain ⟨q0, q1⟩ := hc i m hi
    rw [Nat.zero_add] at q0 q1 ⊢
    exact ⟨by rw [World.cell?_setCell_other _ _ _ _ (by simp <;> omega)]; exact q0, by rw [World.cell?_setCell_other _ _ _ _ (by simp <;> omega)]; exact q1⟩

set_option maxRecDepth 100000 in
set_option maxHeartbeats 4000000 in
theorem rmark_any (v : Value) (c : Cf) (x : Int) (w : World) (h : Rfr w v c) (hle : c.l.length ≤ 900) :
    Calls Try.prog 42 #[v, .int .i64 x] w fun e w' => (∃ v', e = .returned (.tuple #[v', .int .i64 (markC ⟨c.ep, c.sh, c.l, c.le⟩ x).2]) ∧ Rfr w' v' (markC ⟨c.ep, c.sh, c.l, c.le⟩ x).1) ∧ Below w.heap.size w w' := by
  obtain ⟨r, hr⟩ : ∃ r, r = markC ⟨c.ep, c.sh, c.l, c.le⟩ x := ⟨_, rfl⟩
  rw [← hr]
  have HR0 : Hid (r = markC ⟨c.ep, c.sh, c.l, c.le⟩ x) := hr
  clear hr
  obtain ⟨a, c1, rfl, hm, hl⟩ := h
  obtain ⟨ep, sh, l, le⟩ := c
  simp only at *
  have hW0 : Below w.heap.size w ((w.alloc (.cells (rarr ep sh (.slice a l.length c1) le) 25)).alloc (.cells #[.int .u64 0, .int .i64 0, .slice none 0 0, .int .i64 0] 25)) := ((Below.refl _ _).alloc (Nat.le_refl _) _).alloc (by simp) _
  have hP0 : ((w.alloc (.cells (rarr ep sh (.slice a l.length c1) le) 25)).alloc (.cells #[.int .u64 0, .int .i64 0, .slice none 0 0, .int .i64 0] 25)).heap[w.heap.size]? = some (.cells (rarr ep sh (.slice a l.length c1) le) 25) := heap_kept (heap_alloc_new _ _) ((Below.refl _ _).alloc (Nat.le_refl _) _)
  have hZ0 : ((w.alloc (.cells (rarr ep sh (.slice a l.length c1) le) 25)).alloc (.cells #[.int .u64 0, .int .i64 0, .slice none 0 0, .int .i64 0] 25)).heap[w.heap.size + 1]? = some (.cells #[.int .u64 0, .int .i64 0, .slice none 0 0, .int .i64 0] 25) := by have := heap_alloc_new (w.alloc (.cells (rarr ep sh (.slice a l.length c1) le) 25)) (.cells #[.int .u64 0, .int .i64 0, .slice none 0 0, .int .i64 0] 25); rw [World.size_alloc] at this; exact this
  have HX : Hid (Rfr w (.agg (rarr ep sh (.slice a l.length c1) le)) ⟨ep, sh, l, le⟩) := ⟨a, c1, rfl, hm, hl⟩
  have HM : Hid (Mrow w a l) := hm
  clear hm
  generalize hW : ((w.alloc (.cells (rarr ep sh (.slice a l.length c1) le) 25)).alloc (.cells #[.int .u64 0, .int .i64 0, .slice none 0 0, .int .i64 0] 25)) = w0 at *
  have HB0 : Hid (Below w.heap.size w w0) := hW0
  have HP0 : Hid (w0.heap[w.heap.size]? = some (.cells (rarr ep sh (.slice a l.length c1) le) 25)) := hP0
  have HZ0 : Hid (w0.heap[w.heap.size + 1]? = some (.cells #[.int .u64 0, .int .i64 0, .slice none 0 0, .int .i64 0] 25)) := hZ0
  clear hW0 hP0 hZ0
  generalize hn : l.length = n at *
  have HLN : Hid (l.length = n) := hn
  clear hn
  obtain ⟨x0, x1, x2, x3⟩ := four_cells HP0.out
  have hcall := find_any _ _ x _ (HX.out.later HB0.out)
  go_enter Try.func42, Try.ntmps42
  go_wp2_with fail
  refine hcall.mono ?_
  clear hcall x0 x1 x2 x3 hW
  rintro e w1 ⟨rfl, hb1⟩
  have HP1 : Hid (w1.heap[w.heap.size]? = some (.cells (rarr ep sh (.slice a n c1) le) 25)) := heap_kept HP0.out hb1
  have HZ1 : Hid (w1.heap[w.heap.size + 1]? = some (.cells #[.int .u64 0, .int .i64 0, .slice none 0 0, .int .i64 0] 25)) := heap_kept HZ0.out hb1
  have HB1 : Hid (Below w.heap.size w w1) := HB0.out.trans (hb1.mono HB0.out.size)
  clear hb1
  simp only
  have HPK : Hid (rightB ⟨ep, sh, l, le⟩ = true → placeC ⟨ep, sh, l, le⟩ x = plc (nodes l) x) := fun h => by simp [placeC, h]
  have HPC := place_cases (c := ⟨ep, sh, l, le⟩) x
  have HPC' : Hid (placeC ⟨ep, sh, l, le⟩ x < 0 ∨ ∃ k : Nat, k < l.length ∧ placeC ⟨ep, sh, l, le⟩ x = k ∧ (nodes l)[k]? = some x ∧ ∀ j : Nat, j < k → (nodes l)[j]? ≠ some x) := HPC
  clear HPC
  generalize plc (nodes l) x = pk at *
  obtain ⟨x0, x1, x2, x3⟩ := four_cells HP1.out
  have hcall := rright_any _ _ _ (HX.out.later HB1.out)
  go_wp2_with fail
  refine hcall.mono ?_
  clear hcall x0 x1 x2 x3
  rintro e w2 ⟨rfl, hb2⟩
  have HP2 : Hid (w2.heap[w.heap.size]? = some (.cells (rarr ep sh (.slice a n c1) le) 25)) := heap_kept HP1.out hb2
  have HZ2 : Hid (w2.heap[w.heap.size + 1]? = some (.cells #[.int .u64 0, .int .i64 0, .slice none 0 0, .int .i64 0] 25)) := heap_kept HZ1.out hb2
  have HB2 : Hid (Below w.heap.size w w2) := HB1.out.trans (hb2.mono HB1.out.size)
  clear hb2
  cases hm : rightB ⟨ep, sh, l, le⟩ with
  | false =>
    have HR : Hid (r = (zeroC, 1)) := by rw [Hid, HR0.out]; simp [markC, hm]
    clear hm HR0
    obtain ⟨z0, z1, z2, z3⟩ := four_cells HZ2.out
    obtain ⟨g0, g1, g2, g3⟩ := four_frozen HZ2.out
    have HF : Hid ((put4 w2 (w.heap.size + 1) (.int .u64 0) (.int .i64 0) (.slice none 0 0) (.int .i64 0)).heap[w.heap.size + 1]? = some (.cells #[.int .u64 0, .int .i64 0, .slice none 0 0, .int .i64 0] 25)) := four_put HZ2.out
    have HBF : Hid (Below w.heap.size w (put4 w2 (w.heap.size + 1) (.int .u64 0) (.int .i64 0) (.slice none 0 0) (.int .i64 0))) := below_put4 HB2.out (by omega) _ _ _ _
    unfold put4 at HF HBF
    go_wp2
    generalize ((((w2.setCell ⟨w.heap.size + 1, 0, none⟩ (.int .u64 0)).setCell ⟨w.heap.size + 1, 1, none⟩ (.int .i64 0)).setCell ⟨w.heap.size + 1, 2, none⟩ (.slice none 0 0)).setCell ⟨w.heap.size + 1, 3, none⟩ (.int .i64 0)) = wf at *
    clear z0 z1 z2 z3 g0 g1 g2 g3
    obtain ⟨z0, z1, z2, z3⟩ := four_cells HF.out
    refine bodyPost_ret (v := .tuple #[.agg #[.int .u64 0, .int .i64 0, .slice none 0 0, .int .i64 0], .int .i64 1]) (by simp [results, Try.results42, go_sem, z0, z1, z2, z3]) rfl ?_
    exact ⟨⟨_, by rw [HR.out], by rw [HR.out]; exact ⟨none, 0, rfl, .inl rfl, by simp [zeroC]⟩⟩, HBF.out⟩
  | true =>
    have hpk := HPK.out hm
    have HM1 : Hid (rightB ⟨ep, sh, l, le⟩ = true) := hm
    have HPE : Hid (placeC ⟨ep, sh, l, le⟩ x = pk) := hpk
    clear hm HPK hpk
    by_cases hx0 : x < 0
    · have HR : Hid (r = (zeroC, 1)) := by rw [Hid, HR0.out]; simp [markC, srv_false.2 (show ¬ (0 ≤ x ∧ x < 8) by omega)]
      clear HM1 HPE HPC' HR0
      obtain ⟨z0, z1, z2, z3⟩ := four_cells HZ2.out
      obtain ⟨g0, g1, g2, g3⟩ := four_frozen HZ2.out
      have HF : Hid ((put4 w2 (w.heap.size + 1) (.int .u64 0) (.int .i64 0) (.slice none 0 0) (.int .i64 0)).heap[w.heap.size + 1]? = some (.cells #[.int .u64 0, .int .i64 0, .slice none 0 0, .int .i64 0] 25)) := four_put HZ2.out
      have HBF : Hid (Below w.heap.size w (put4 w2 (w.heap.size + 1) (.int .u64 0) (.int .i64 0) (.slice none 0 0) (.int .i64 0))) := below_put4 HB2.out (by omega) _ _ _ _
      unfold put4 at HF HBF
      go_wp2
      generalize ((((w2.setCell ⟨w.heap.size + 1, 0, none⟩ (.int .u64 0)).setCell ⟨w.heap.size + 1, 1, none⟩ (.int .i64 0)).setCell ⟨w.heap.size + 1, 2, none⟩ (.slice none 0 0)).setCell ⟨w.heap.size + 1, 3, none⟩ (.int .i64 0)) = wf at *
      clear z0 z1 z2 z3 g0 g1 g2 g3
      obtain ⟨z0, z1, z2, z3⟩ := four_cells HF.out
      refine bodyPost_ret (v := .tuple #[.agg #[.int .u64 0, .int .i64 0, .slice none 0 0, .int .i64 0], .int .i64 1]) (by simp [results, Try.results42, go_sem, z0, z1, z2, z3]) rfl ?_
      exact ⟨⟨_, by rw [HR.out], by rw [HR.out]; exact ⟨none, 0, rfl, .inl rfl, by simp [zeroC]⟩⟩, HBF.out⟩
    by_cases hx7 : 7 < x
    · have HR : Hid (r = (zeroC, 1)) := by rw [Hid, HR0.out]; simp [markC, srv_false.2 (show ¬ (0 ≤ x ∧ x < 8) by omega)]
      clear HM1 HPE HPC' HR0
      obtain ⟨z0, z1, z2, z3⟩ := four_cells HZ2.out
      obtain ⟨g0, g1, g2, g3⟩ := four_frozen HZ2.out
      have HF : Hid ((put4 w2 (w.heap.size + 1) (.int .u64 0) (.int .i64 0) (.slice none 0 0) (.int .i64 0)).heap[w.heap.size + 1]? = some (.cells #[.int .u64 0, .int .i64 0, .slice none 0 0, .int .i64 0] 25)) := four_put HZ2.out
      have HBF : Hid (Below w.heap.size w (put4 w2 (w.heap.size + 1) (.int .u64 0) (.int .i64 0) (.slice none 0 0) (.int .i64 0))) := below_put4 HB2.out (by omega) _ _ _ _
      unfold put4 at HF HBF
      go_wp2
      generalize ((((w2.setCell ⟨w.heap.size + 1, 0, none⟩ (.int .u64 0)).setCell ⟨w.heap.size + 1, 1, none⟩ (.int .i64 0)).setCell ⟨w.heap.size + 1, 2, none⟩ (.slice none 0 0)).setCell ⟨w.heap.size + 1, 3, none⟩ (.int .i64 0)) = wf at *
      clear z0 z1 z2 z3 g0 g1 g2 g3
      obtain ⟨z0, z1, z2, z3⟩ := four_cells HF.out
      refine bodyPost_ret (v := .tuple #[.agg #[.int .u64 0, .int .i64 0, .slice none 0 0, .int .i64 0], .int .i64 1]) (by simp [results, Try.results42, go_sem, z0, z1, z2, z3]) rfl ?_
      exact ⟨⟨_, by rw [HR.out], by rw [HR.out]; exact ⟨none, 0, rfl, .inl rfl, by simp [zeroC]⟩⟩, HBF.out⟩
    have HS : Hid (srv x = true) := srv_true.2 ⟨by omega, by omega⟩
    rcases HPC'.out with hneg | ⟨k, hk, hpk, hat, hbef⟩
    · have HR : Hid (r = (zeroC, 6)) := by rw [Hid, HR0.out]; simp [markC, HM1.out, HS.out, hneg]
      rw [HPE.out] at hneg
      clear HM1 HPE HPC' HR0
      obtain ⟨z0, z1, z2, z3⟩ := four_cells HZ2.out
      obtain ⟨g0, g1, g2, g3⟩ := four_frozen HZ2.out
      have HF : Hid ((put4 w2 (w.heap.size + 1) (.int .u64 0) (.int .i64 0) (.slice none 0 0) (.int .i64 0)).heap[w.heap.size + 1]? = some (.cells #[.int .u64 0, .int .i64 0, .slice none 0 0, .int .i64 0] 25)) := four_put HZ2.out
      have HBF : Hid (Below w.heap.size w (put4 w2 (w.heap.size + 1) (.int .u64 0) (.int .i64 0) (.slice none 0 0) (.int .i64 0))) := below_put4 HB2.out (by omega) _ _ _ _
      unfold put4 at HF HBF
      go_wp2
      generalize ((((w2.setCell ⟨w.heap.size + 1, 0, none⟩ (.int .u64 0)).setCell ⟨w.heap.size + 1, 1, none⟩ (.int .i64 0)).setCell ⟨w.heap.size + 1, 2, none⟩ (.slice none 0 0)).setCell ⟨w.heap.size + 1, 3, none⟩ (.int .i64 0)) = wf at *
      clear z0 z1 z2 z3 g0 g1 g2 g3
      obtain ⟨z0, z1, z2, z3⟩ := four_cells HF.out
      refine bodyPost_ret (v := .tuple #[.agg #[.int .u64 0, .int .i64 0, .slice none 0 0, .int .i64 0], .int .i64 6]) (by simp [results, Try.results42, go_sem, z0, z1, z2, z3]) rfl ?_
      exact ⟨⟨_, by rw [HR.out], by rw [HR.out]; exact ⟨none, 0, rfl, .inl rfl, by simp [zeroC]⟩⟩, HBF.out⟩
    · have HR1 : Hid (r = if fullAt l k = true then (zeroC, 7) else (⟨ep, sh, l.set k (x, true), le⟩, 0)) := by rw [Hid, HR0.out]; simp [markC, HM1.out, HS.out, hpk, show ¬ ((k : Int) < 0) by omega]
      rw [HPE.out] at hpk
      subst hpk
      have hkn : k < n := by rw [← HLN.out]; exact hk
      have HAT : Hid ((nodes l)[k]? = some x) := hat
      have HK : Hid (k < l.length) := hk
      obtain ⟨b, off, hae, hc⟩ := (HM.out.later HB2.out).at (by omega)
      subst hae
      have y0 := (hc k l[k] (List.getElem?_eq_getElem hk)).2
      have HFU : Hid (fullAt l k = l[k].2) := by show fullAt l k = l[k].2; rw [fullAt, List.getElem?_eq_getElem hk]; rfl
      clear hc HM1 HPE HPC' HR0 hat hbef HS
      generalize l[k].2 = fu at y0 HFU
      clear hk
      cases fu with
      | true =>
        have HR : Hid (r = (zeroC, 7)) := by rw [Hid, HR1.out, HFU.out]; rfl
        clear HR1
        obtain ⟨x0, x1, x2, x3⟩ := four_cells HP2.out
        obtain ⟨z0, z1, z2, z3⟩ := four_cells HZ2.out
        obtain ⟨g0, g1, g2, g3⟩ := four_frozen HZ2.out
        have HF : Hid ((put4 w2 (w.heap.size + 1) (.int .u64 0) (.int .i64 0) (.slice none 0 0) (.int .i64 0)).heap[w.heap.size + 1]? = some (.cells #[.int .u64 0, .int .i64 0, .slice none 0 0, .int .i64 0] 25)) := four_put HZ2.out
        have HBF : Hid (Below w.heap.size w (put4 w2 (w.heap.size + 1) (.int .u64 0) (.int .i64 0) (.slice none 0 0) (.int .i64 0))) := below_put4 HB2.out (by omega) _ _ _ _
        unfold put4 at HF HBF
        go_wp2
        generalize ((((w2.setCell ⟨w.heap.size + 1, 0, none⟩ (.int .u64 0)).setCell ⟨w.heap.size + 1, 1, none⟩ (.int .i64 0)).setCell ⟨w.heap.size + 1, 2, none⟩ (.slice none 0 0)).setCell ⟨w.heap.size + 1, 3, none⟩ (.int .i64 0)) = wf at *
        clear z0 z1 z2 z3 g0 g1 g2 g3
        obtain ⟨z0, z1, z2, z3⟩ := four_cells HF.out
        refine bodyPost_ret (v := .tuple #[.agg #[.int .u64 0, .int .i64 0, .slice none 0 0, .int .i64 0], .int .i64 7]) (by simp [results, Try.results42, go_sem, z0, z1, z2, z3]) rfl ?_
        exact ⟨⟨_, by rw [HR.out], by rw [HR.out]; exact ⟨none, 0, rfl, .inl rfl, by simp [zeroC]⟩⟩, HBF.out⟩
      | false =>
        have HR : Hid (r = (⟨ep, sh, l.set k (x, true), le⟩, 0)) := by rw [Hid, HR1.out, HFU.out]; rfl
        clear HR1
        obtain ⟨x0, x1, x2, x3⟩ := four_cells HP2.out
        have hb3 : Below w2.heap.size w2 (w2.alloc (.cells (rarr ep sh (.slice (some ⟨b, off, none⟩) n c1) le) 25)) := (Below.refl _ _).alloc (Nat.le_refl _) _
        have hq3 := heap_alloc_new w2 (.cells (rarr ep sh (.slice (some ⟨b, off, none⟩) n c1) le) 25)
        go_upto_region 9 with fail
        generalize (w2.alloc (.cells (rarr ep sh (.slice (some ⟨b, off, none⟩) n c1) le) 25)) = w3 at *
        have HP3 : Hid (w3.heap[w.heap.size]? = some (.cells (rarr ep sh (.slice (some ⟨b, off, none⟩) n c1) le) 25)) := heap_kept HP2.out hb3
        have HZ3 : Hid (w3.heap[w.heap.size + 1]? = some (.cells #[.int .u64 0, .int .i64 0, .slice none 0 0, .int .i64 0] 25)) := heap_kept HZ2.out hb3
        have HB3 : Hid (Below w.heap.size w w3) := HB2.out.trans (hb3.mono HB2.out.size)
        have HQ3 : Hid (w3.heap[w2.heap.size]? = some (.cells (rarr ep sh (.slice (some ⟨b, off, none⟩) n c1) le) 25)) := hq3
        have HPQ : Hid (w.heap.size + 1 < w2.heap.size) := (Array.getElem?_eq_some_iff.1 HZ2.out).1
        clear hb3 hq3 x0 x1 x2 x3 y0
        generalize w2.heap.size = q at *
        have ha : Below w3.heap.size w3 (w3.alloc (.cells #[] 40)) := (Below.refl _ _).alloc (Nat.le_refl _) _
        have HNW : Hid (∀ j u, (l.flatMap mcells)[j]? = some u → (w3.alloc (.cells #[] 40)).cell? ((⟨b, off, none⟩ : Addr).add j) = some u) := Mrow.news ((HM.out.later HB3.out).later ha)
        have HOW : Hid ((w3.alloc (.cells #[] 40)).ownsRow w3.heap.size 40 2 (.slice (some ⟨w3.heap.size, 0, none⟩) 0 0) 0 []) := World.ownsRow_made w3 #[] 0 (Nat.le_refl _) (Nat.zero_le _) rfl
        have x2' : (w3.alloc (.cells #[] 40)).cell? ⟨w.heap.size, 2, none⟩ = some (.slice (some ⟨b, off, none⟩) n c1) := cell_of_heap (heap_kept HP3.out ha) rfl
        go_upto_region 10 with (
          at_builtin; refine wp_append_els mcells 2 16 23 40 _ Try.underlying23 Try.info_40 rfl (by decide) (fun _ => rfl) (by decide) rfl _ _ rfl w3.heap.size (.slice (some ⟨w3.heap.size, 0, none⟩) 0 0) ([] : List Mb) rfl HOW.out _ n c1 l rfl HLN.out.symm HNW.out (mcells_one l) (by omega) (by simp; omega) (by simp) ?_
          intro v5 w5 ho5 hg5 _
          rw [List.nil_append] at ho5
          have hf5 : Fr w3.heap.size [40] (w3.alloc (.cells #[] 40)) w5 := Fr.grown hg5 (fun k hk => by simp [Value.ownBlock] at hk; subst hk; exact ⟨Nat.le_refl _, 40, by simp, tagOf_heap (heap_alloc_new _ _)⟩)
          obtain ⟨a5, c5, rfl, _, _, _, hc5⟩ := owns_at mcells 2 (fun _ => rfl) ho5
          obtain ⟨gb, goff, rfl, -⟩ := hc5 (by rw [HLN.out]; omega)
          have hgo : goff = 0 ∧ w3.heap.size ≤ gb ∧ ∃ cur, w5.heap[gb]? = some (.cells cur 40 (0, 0)) := by
            rcases ho5.2 with ⟨h, _⟩ | ⟨g', cap', cur, e1, hg', hh, _⟩
            · cases h
            · simp only [Value.slice.injEq, Option.some.injEq, Addr.mk.injEq] at e1
              obtain ⟨⟨rfl, rfl, _⟩, _, _⟩ := e1
              exact ⟨rfl, hg', cur, hh⟩
          obtain ⟨rfl, hgb, htb⟩ := hgo
          obtain ⟨-, hmr⟩ := owns_read ho5
          have HZ5 : Hid (w5.heap[w.heap.size + 1]? = some (.cells #[.int .u64 0, .int .i64 0, .slice none 0 0, .int .i64 0] 25)) := hf5.cells (heap_kept HZ3.out ha) (by decide)
          have HQ5 : Hid (w5.heap[q]? = some (.cells (rarr ep sh (.slice (some ⟨b, off, none⟩) n c1) le) 25)) := hf5.cells (heap_kept HQ3.out ha) (by decide)
          have hb5 : Below w3.heap.size w3 w5 := ha.trans (hf5.below (by simp))
          have HB5 : Hid (Below w.heap.size w w5) := HB3.out.trans (hb5.mono HB3.out.size)
          have HM5 : Hid (Mrow w5 (some ⟨gb, 0, none⟩) l) := hmr
          obtain ⟨cur5, htb⟩ := htb
          have HT5 : Hid (w5.heap[gb]? = some (.cells cur5 40 (0, 0)) ∧ w.heap.size ≤ gb) := ⟨htb, Nat.le_trans HB3.out.size hgb⟩
          clear ho5 hg5 hf5 hb5 hc5 hmr hgb htb x2'
          have e2 : w5.cell? ⟨q, 2, none⟩ = some (.slice (some ⟨b, off, none⟩) n c1) := cell_of_heap HQ5.out rfl
          have f2 : w5.frozen? ⟨q, 2, none⟩ = false := frozen_of_row _ _ _ _ _ HQ5.out)
        have HQ6 : Hid ((w5.setCell ⟨q, 2, none⟩ (.slice (some ⟨gb, 0, none⟩) l.length c5)).heap[q]? = some (.cells (rarr ep sh (.slice (some ⟨gb, 0, none⟩) l.length c5) le) 25)) := heap_setCell_same _ _ _ _ _ _ HQ5.out
        have HZ6 : Hid ((w5.setCell ⟨q, 2, none⟩ (.slice (some ⟨gb, 0, none⟩) l.length c5)).heap[w.heap.size + 1]? = some (.cells #[.int .u64 0, .int .i64 0, .slice none 0 0, .int .i64 0] 25)) := (heap_ne (by have := HPQ.out; omega)).trans HZ5.out
        have HB6 : Hid (Below w.heap.size w (w5.setCell ⟨q, 2, none⟩ (.slice (some ⟨gb, 0, none⟩) l.length c5))) := HB5.out.setCell (p := ⟨q, 2, none⟩) (by have := HPQ.out; simp; omega) _
        have HM6 : Hid (Mrow (w5.setCell ⟨q, 2, none⟩ (.slice (some ⟨gb, 0, none⟩) l.length c5)) (some ⟨gb, 0, none⟩) l) := HM5.out.same (g := q) (cs := #[]) (t := 0) (fun b' off' e h0 => by simp only [Option.some.injEq, Addr.mk.injEq] at e; obtain ⟨rfl, _, _⟩ := e; exact block_ne (tagOf_heap HT5.out.1) (tagOf_heap HQ5.out) (by decide)) (fun k hk => heap_ne hk)
        have HT6 : Hid ((w5.setCell ⟨q, 2, none⟩ (.slice (some ⟨gb, 0, none⟩) l.length c5)).heap[gb]? = some (.cells cur5 40 (0, 0)) ∧ w.heap.size ≤ gb) := ⟨(heap_ne (block_ne (tagOf_heap HT5.out.1) (tagOf_heap HQ5.out) (by decide))).trans HT5.out.1, HT5.out.2⟩
        generalize (w5.setCell ⟨q, 2, none⟩ (.slice (some ⟨gb, 0, none⟩) l.length c5)) = w6 at *
        clear e2 f2 HQ5 HZ5 HB5 HM5 HT5 HP3 HZ3 HB3 HQ3 ha HNW HOW
        obtain ⟨m0, m1, m2, m3⟩ := four_cells HQ6.out
        have hkl : k < l.length := HK.out
        obtain ⟨uu, y1⟩ : ∃ u, w6.cell? ⟨gb, k * 2 + 1, none⟩ = some (.bool u) := by obtain ⟨b', off', e, hc⟩ := HM6.out.at (by omega); simp only [Option.some.injEq, Addr.mk.injEq] at e; obtain ⟨rfl, rfl, _⟩ := e; have := (hc k _ (List.getElem?_eq_getElem hkl)).2; rw [Nat.zero_add] at this; exact ⟨_, this⟩
        have y2 : w6.frozen? ⟨gb, k * 2 + 1, none⟩ = false := frozen_of_row _ _ _ _ _ HT6.out.1
        have HQ7 : Hid ((w6.setCell ⟨gb, k * 2 + 1, none⟩ (.bool true)).heap[q]? = some (.cells (rarr ep sh (.slice (some ⟨gb, 0, none⟩) l.length c5) le) 25)) := (heap_ne (block_ne (tagOf_heap HQ6.out) (tagOf_heap HT6.out.1) (by decide))).trans HQ6.out
        have HZ7 : Hid ((w6.setCell ⟨gb, k * 2 + 1, none⟩ (.bool true)).heap[w.heap.size + 1]? = some (.cells #[.int .u64 0, .int .i64 0, .slice none 0 0, .int .i64 0] 25)) := (heap_ne (block_ne (tagOf_heap HZ6.out) (tagOf_heap HT6.out.1) (by decide))).trans HZ6.out
        have HB7 : Hid (Below w.heap.size w (w6.setCell ⟨gb, k * 2 + 1, none⟩ (.bool true))) := HB6.out.setCell (p := ⟨gb, k * 2 + 1, none⟩) HT6.out.2 _
        have HM7 : Hid (Mrow (w6.setCell ⟨gb, k * 2 + 1, none⟩ (.bool true)) (some ⟨gb, 0, none⟩) (l.set k (x, true)) ∧ gb ≠ w.heap.size + 1) := ⟨HM6.out.set k hkl x HAT.out, block_ne (tagOf_heap HT6.out.1) (tagOf_heap HZ6.out) (by decide)⟩
        go_upto_region 11 with fail
        generalize (w6.setCell ⟨gb, k * 2 + 1, none⟩ (.bool true)) = w7 at *
        clear m0 m1 m2 m3 y1 y2 HQ6 HZ6 HB6 HM6 HT6 hkl
        obtain ⟨m0, m1, m2, m3⟩ := four_cells HQ7.out
        obtain ⟨z0, z1, z2, z3⟩ := four_cells HZ7.out
        obtain ⟨g0, g1, g2, g3⟩ := four_frozen HZ7.out
        have HF : Hid ((put4 w7 (w.heap.size + 1) (.int .u64 (ep : Nat)) (.int .i64 sh) (.slice (some ⟨gb, 0, none⟩) l.length c5) (.int .i64 le)).heap[w.heap.size + 1]? = some (.cells (rarr ep sh (.slice (some ⟨gb, 0, none⟩) l.length c5) le) 25)) := four_put HZ7.out
        have HBF : Hid (Below w.heap.size w (put4 w7 (w.heap.size + 1) (.int .u64 (ep : Nat)) (.int .i64 sh) (.slice (some ⟨gb, 0, none⟩) l.length c5) (.int .i64 le))) := below_put4 HB7.out (by omega) _ _ _ _
        have HMF := (fun (W : World) (hk : ∀ k, k ≠ w.heap.size + 1 → W.heap[k]? = w7.heap[k]?) => HM7.out.1.same (g := w.heap.size + 1) (cs := #[]) (t := 0) (fun b' off' e h0 => by simp only [Option.some.injEq, Addr.mk.injEq] at e; obtain ⟨rfl, _, _⟩ := e; exact HM7.out.2) hk) (put4 w7 (w.heap.size + 1) (.int .u64 (ep : Nat)) (.int .i64 sh) (.slice (some ⟨gb, 0, none⟩) l.length c5) (.int .i64 le)) (fun k hk => put4_other _ _ _ _ hk)
        unfold put4 at HF HBF HMF
        go_wp2
        generalize ((((w7.setCell ⟨w.heap.size + 1, 0, none⟩ (.int .u64 (ep : Nat))).setCell ⟨w.heap.size + 1, 1, none⟩ (.int .i64 sh)).setCell ⟨w.heap.size + 1, 2, none⟩ (.slice (some ⟨gb, 0, none⟩) l.length c5)).setCell ⟨w.heap.size + 1, 3, none⟩ (.int .i64 le)) = wf at *
        clear z0 z1 z2 z3 g0 g1 g2 g3 m0 m1 m2 m3
        obtain ⟨z0, z1, z2, z3⟩ := four_cells HF.out
        refine bodyPost_ret (v := .tuple #[.agg (rarr ep sh (.slice (some ⟨gb, 0, none⟩) l.length c5) le), .int .i64 0]) (by simp [results, Try.results42, go_sem, z0, z1, z2, z3]) rfl ?_
        exact ⟨⟨_, by rw [HR.out], by rw [HR.out]; exact ⟨_, c5, by rw [List.length_set], HMF, by show (l.set k (x, true)).length ≤ 100000; rw [List.length_set, HLN.out]; exact hl⟩⟩, HBF.out⟩
end Go.Proofs.Ytgpjplpfjghcgaa
