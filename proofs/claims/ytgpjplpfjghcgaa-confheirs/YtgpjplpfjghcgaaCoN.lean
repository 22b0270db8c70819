/- The document's May, Learn. -/
import Derived.Test.YtgpjplpfjghcgaaCoJ
import Derived.Test.YtgpjplpfjghcgaaCoK
import Derived.Test.YtgpjplpfjghcgaaCoL
namespace Go.Proofs.Ytgpjplpfjghcgaa
open Go Go.RowKit
set_option linter.unusedVariables false
set_option linter.unusedSimpArgs false

theorem Mrow.same {w w' : World} {g : Nat} {cs : Array Value} {t : TypeId} {a : Option Addr} {l : List Mb} (h : Mrow w a l) (hg : ∀ b off, a = some ⟨b, off, none⟩ → 0 < l.length → b ≠ g) (hk : ∀ k, k ≠ g → w'.heap[k]? = w.heap[k]?) : Mrow w' a l := by
  by_cases h0 : 0 < l.length
  · obtain ⟨b, off, e, hc⟩ := h.at h0
    exact .inr ⟨b, off, e, fun i m hi => by
      have := hk b (hg b off e h0)
      rw [cell_same this, cell_same this]
      exact hc i m hi⟩
  · exact .inl (List.length_eq_zero_iff.1 (by omega))
theorem Mrow.lt {w : World} {b off : Nat} {l : List Mb} (h : Mrow w (some ⟨b, off, none⟩) l) (h0 : 0 < l.length) : b < w.heap.size := by
  obtain ⟨b', off', e, hc⟩ := h.at h0
  simp only [Option.some.injEq, Addr.mk.injEq] at e
  obtain ⟨rfl, rfl, _⟩ := e
  have := (hc 0 l[0] (List.getElem?_eq_getElem h0)).1
  exact cell_lt this
/-- members of long ago stay where the answer alone is written -/
theorem Mrow.old {w w1 w' : World} {g : Nat} {a : Option Addr} {l : List Mb} (h : Mrow w a l) (hb : Below w.heap.size w w1) (hg : w.heap.size ≤ g) (hk : ∀ k, k ≠ g → w'.heap[k]? = w1.heap[k]?) : Mrow w' a l :=
  (h.later hb).same (g := g) (cs := #[]) (t := 0) (fun b off e h0 => by subst e; have := h.lt h0; omega) hk

set_option maxRecDepth 100000 in
set_option maxHeartbeats 2000000 in
theorem rmay_any (v : Value) (c : Cf) (x : Int) (e0 : Nat) (w : World) (h : Rfr w v c) :
    Calls Try.prog 56 #[v, .int .i64 x, .int .u64 (e0 : Nat)] w fun e w' => e = .returned (.bool (mayB c x e0)) ∧ Below w.heap.size w w' := by
  have HR : Hid (mayB c x e0 = (rightB c && srv x && decide (c.ep < e0))) := rfl
  generalize mayB c x e0 = r at *
  obtain ⟨a, c1, w0, rfl, hw0, HB0, HN0, HC0, HM0, hl⟩ := h.box
  have hr := rright_any _ _ _ HC0.out
  clear h
  obtain ⟨ep, sh, l, le⟩ := c
  simp only at *
  generalize rightB ⟨ep, sh, l, le⟩ = q at *
  generalize hn : l.length = n at *
  clear hn
  obtain ⟨x0, x1, x2, x3⟩ := four_cells HN0.out
  go_enter Try.func56, Try.ntmps56
  go_wp2_with fail
  refine hr.mono ?_
  clear hr x0 x1 x2 x3
  rintro e w1 ⟨rfl, hb1⟩
  have HB1 : Hid (Below w.heap.size w w1) := HB0.out.trans (hb1.mono HB0.out.size)
  have HN1 : Hid (w1.heap[w.heap.size]? = some (.cells (rarr ep sh (.slice a n c1) le) 25)) := heap_kept HN0.out hb1
  clear hb1 hw0
  obtain ⟨x0, x1, x2, x3⟩ := four_cells HN1.out
  cases q
  · go_wp2
    go_ret
    exact ⟨ret_bool (by rw [HR.out]; simp), HB1.out⟩
  · by_cases h0 : 0 ≤ x
    · by_cases h7 : x ≤ 7
      · go_wp2
        go_ret
        exact ⟨ret_bool (by rw [HR.out, srv_true.2 ⟨h0, by omega⟩]; simp), HB1.out⟩
      · go_wp2
        go_ret
        exact ⟨ret_bool (by rw [HR.out, srv_false.2 (by omega)]; simp), HB1.out⟩
    · go_wp2
      go_ret
      exact ⟨ret_bool (by rw [HR.out, srv_false.2 (by omega)]; simp), HB1.out⟩
theorem may_learns {c : Cf} {x : Int} {e : Nat} (h : mayB c x e = true) : learnsB c x = decide (c.le = x) := by
  simp only [mayB, Bool.and_eq_true] at h
  simp [learnsB, h.1.1, h.1.2]
theorem may_place {c : Cf} {x : Int} {e : Nat} (h : mayB c x e = true) : placeC c x = plc (nodes c.l) x := by
  simp only [mayB, Bool.and_eq_true] at h
  simp [placeC, h.1.1]
theorem may_le {c : Cf} {x : Int} {e : Nat} (h : mayB c x e = true) : -1 ≤ c.le := by
  have := (may_right h).1.le
  unfold leOk at this
  by_cases e1 : c.le = -1
  · omega
  · simp [e1] at this
    have := srv_true.1 this.1
    omega

set_option maxRecDepth 100000 in
set_option maxHeartbeats 4000000 in
theorem rlearn_any (v : Value) (c : Cf) (x : Int) (e0 : Nat) (w : World) (h : Rfr w v c) (hle : c.l.length ≤ 900) :
    Calls Try.prog 38 #[v, .int .i64 x, .int .u64 (e0 : Nat)] w fun e w' => (∃ v', e = .returned (.tuple #[v', .int .i64 (learnC ⟨c.ep, c.sh, c.l, c.le⟩ x e0).2]) ∧ Rfr w' v' (learnC ⟨c.ep, c.sh, c.l, c.le⟩ x e0).1) ∧ Below w.heap.size w w' := by
  obtain ⟨r, hr⟩ : ∃ r, r = learnC ⟨c.ep, c.sh, c.l, c.le⟩ x e0 := ⟨_, rfl⟩
  rw [← hr]
  have HR0 : Hid (r = learnC ⟨c.ep, c.sh, c.l, c.le⟩ x e0) := hr
  clear hr
  obtain ⟨a, c1, rfl, hm, hl⟩ := h
  obtain ⟨ep, sh, l, le⟩ := c
  simp only at *
  have hW0 : Below w.heap.size w ((w.alloc (.cells (rarr ep sh (.slice a l.length c1) le) 25)).alloc (.cells #[.int .u64 0, .int .i64 0, .slice none 0 0, .int .i64 0] 25)) := ((Below.refl _ _).alloc (Nat.le_refl _) _).alloc (by simp) _
  have hP0 : ((w.alloc (.cells (rarr ep sh (.slice a l.length c1) le) 25)).alloc (.cells #[.int .u64 0, .int .i64 0, .slice none 0 0, .int .i64 0] 25)).heap[w.heap.size]? = some (.cells (rarr ep sh (.slice a l.length c1) le) 25) := heap_kept (heap_alloc_new _ _) ((Below.refl _ _).alloc (Nat.le_refl _) _)
  have hZ0 : ((w.alloc (.cells (rarr ep sh (.slice a l.length c1) le) 25)).alloc (.cells #[.int .u64 0, .int .i64 0, .slice none 0 0, .int .i64 0] 25)).heap[w.heap.size + 1]? = some (.cells #[.int .u64 0, .int .i64 0, .slice none 0 0, .int .i64 0] 25) := by have := heap_alloc_new (w.alloc (.cells (rarr ep sh (.slice a l.length c1) le) 25)) (.cells #[.int .u64 0, .int .i64 0, .slice none 0 0, .int .i64 0] 25); rw [World.size_alloc] at this; exact this
  have HX : Hid (Rfr w (.agg (rarr ep sh (.slice a l.length c1) le)) ⟨ep, sh, l, le⟩) := ⟨a, c1, rfl, hm, hl⟩
  have HM : Hid (Mrow w a l) := hm
  clear hm
  generalize hW : ((w.alloc (.cells (rarr ep sh (.slice a l.length c1) le) 25)).alloc (.cells #[.int .u64 0, .int .i64 0, .slice none 0 0, .int .i64 0] 25)) = w0 at *
  have HB0 : Hid (Below w.heap.size w w0) := hW0
  have HP0 : Hid (w0.heap[w.heap.size]? = some (.cells (rarr ep sh (.slice a l.length c1) le) 25)) := hP0
  have HZ0 : Hid (w0.heap[w.heap.size + 1]? = some (.cells #[.int .u64 0, .int .i64 0, .slice none 0 0, .int .i64 0] 25)) := hZ0
  clear hW0 hP0 hZ0
  generalize hn : l.length = n at *
  have HLN : Hid (l.length = n) := hn
  clear hn
  obtain ⟨x0, x1, x2, x3⟩ := four_cells HP0.out
  have hcall := rmay_any _ _ x e0 _ (HX.out.later HB0.out)
  go_enter Try.func38, Try.ntmps38
  go_wp2_with fail
  refine hcall.mono ?_
  clear hcall x0 x1 x2 x3 hW
  rintro e w1 ⟨rfl, hb1⟩
  have HP1 : Hid (w1.heap[w.heap.size]? = some (.cells (rarr ep sh (.slice a n c1) le) 25)) := heap_kept HP0.out hb1
  have HZ1 : Hid (w1.heap[w.heap.size + 1]? = some (.cells #[.int .u64 0, .int .i64 0, .slice none 0 0, .int .i64 0] 25)) := heap_kept HZ0.out hb1
  have HB1 : Hid (Below w.heap.size w w1) := HB0.out.trans (hb1.mono HB0.out.size)
  clear hb1
  cases hm : mayB ⟨ep, sh, l, le⟩ x e0 with
  | false =>
    have HR : Hid (r = (zeroC, 1)) := by rw [Hid, HR0.out]; simp [learnC, hm]
    clear hm HR0
    obtain ⟨z0, z1, z2, z3⟩ := four_cells HZ1.out
    obtain ⟨g0, g1, g2, g3⟩ := four_frozen HZ1.out
    have HF : Hid ((put4 w1 (w.heap.size + 1) (.int .u64 0) (.int .i64 0) (.slice none 0 0) (.int .i64 0)).heap[w.heap.size + 1]? = some (.cells #[.int .u64 0, .int .i64 0, .slice none 0 0, .int .i64 0] 25)) := four_put HZ1.out
    have HBF : Hid (Below w.heap.size w (put4 w1 (w.heap.size + 1) (.int .u64 0) (.int .i64 0) (.slice none 0 0) (.int .i64 0))) := below_put4 HB1.out (by omega) _ _ _ _
    unfold put4 at HF HBF
    go_wp2
    generalize ((((w1.setCell ⟨w.heap.size + 1, 0, none⟩ (.int .u64 0)).setCell ⟨w.heap.size + 1, 1, none⟩ (.int .i64 0)).setCell ⟨w.heap.size + 1, 2, none⟩ (.slice none 0 0)).setCell ⟨w.heap.size + 1, 3, none⟩ (.int .i64 0)) = wf at *
    clear z0 z1 z2 z3 g0 g1 g2 g3
    obtain ⟨z0, z1, z2, z3⟩ := four_cells HF.out
    refine bodyPost_ret (v := .tuple #[.agg #[.int .u64 0, .int .i64 0, .slice none 0 0, .int .i64 0], .int .i64 1]) (by simp [results, Try.results38, go_sem, z0, z1, z2, z3]) rfl ?_
    exact ⟨⟨_, by rw [HR.out], by rw [HR.out]; exact ⟨none, 0, rfl, .inl rfl, by simp [zeroC]⟩⟩, HBF.out⟩
  | true =>
    have hml := may_learns hm
    have hmp := may_place hm
    have hme := may_le hm
    simp only at hml hmp hme
    have HM1 : Hid (mayB ⟨ep, sh, l, le⟩ x e0 = true) := hm
    have HHH : Hid (hasB ⟨ep, sh, l, le⟩ x = (decide (le = x) || decide (0 ≤ plc (nodes l) x))) := by rw [Hid, hasB, hml, hmp]
    clear hm hml hmp
    obtain ⟨x0, x1, x2, x3⟩ := four_cells HP1.out
    have hcall := find_any _ _ x _ (HX.out.later HB1.out)
    go_wp2_with fail
    refine hcall.mono ?_
    clear hcall x0 x1 x2 x3
    rintro e w2 ⟨rfl, hb2⟩
    have HP2 : Hid (w2.heap[w.heap.size]? = some (.cells (rarr ep sh (.slice a n c1) le) 25)) := heap_kept HP1.out hb2
    have HZ2 : Hid (w2.heap[w.heap.size + 1]? = some (.cells #[.int .u64 0, .int .i64 0, .slice none 0 0, .int .i64 0] 25)) := heap_kept HZ1.out hb2
    have HB2 : Hid (Below w.heap.size w w2) := HB1.out.trans (hb2.mono HB1.out.size)
    clear hb2
    simp only
    generalize plc (nodes l) x = pk at *
    obtain ⟨x0, x1, x2, x3⟩ := four_cells HP2.out
    by_cases h1 : 0 ≤ pk
    · have HR : Hid (r = (zeroC, 7)) := by rw [Hid, HR0.out]; simp [learnC, HM1.out, HHH.out, h1]
      clear HR0 HHH HM1
      obtain ⟨z0, z1, z2, z3⟩ := four_cells HZ2.out
      obtain ⟨g0, g1, g2, g3⟩ := four_frozen HZ2.out
      have HF : Hid ((put4 w2 (w.heap.size + 1) (.int .u64 0) (.int .i64 0) (.slice none 0 0) (.int .i64 0)).heap[w.heap.size + 1]? = some (.cells #[.int .u64 0, .int .i64 0, .slice none 0 0, .int .i64 0] 25)) := four_put HZ2.out
      have HBF : Hid (Below w.heap.size w (put4 w2 (w.heap.size + 1) (.int .u64 0) (.int .i64 0) (.slice none 0 0) (.int .i64 0))) := below_put4 HB2.out (by omega) _ _ _ _
      unfold put4 at HF HBF
      go_wp2
      generalize ((((w2.setCell ⟨w.heap.size + 1, 0, none⟩ (.int .u64 0)).setCell ⟨w.heap.size + 1, 1, none⟩ (.int .i64 0)).setCell ⟨w.heap.size + 1, 2, none⟩ (.slice none 0 0)).setCell ⟨w.heap.size + 1, 3, none⟩ (.int .i64 0)) = wf at *
      clear z0 z1 z2 z3 g0 g1 g2 g3
      obtain ⟨z0, z1, z2, z3⟩ := four_cells HF.out
      refine bodyPost_ret (v := .tuple #[.agg #[.int .u64 0, .int .i64 0, .slice none 0 0, .int .i64 0], .int .i64 7]) (by simp [results, Try.results38, go_sem, z0, z1, z2, z3]) rfl ?_
      exact ⟨⟨_, by rw [HR.out], by rw [HR.out]; exact ⟨none, 0, rfl, .inl rfl, by simp [zeroC]⟩⟩, HBF.out⟩
    · by_cases h2 : le = x
      · have HR : Hid (r = (zeroC, 7)) := by rw [Hid, HR0.out, learnC, if_neg (by rw [HM1.out]; simp), if_pos (by rw [HHH.out, h2]; simp)]
        have h2b : (le == x) = true := by simp [h2]
        clear HR0 HHH HM1 h2
        obtain ⟨z0, z1, z2, z3⟩ := four_cells HZ2.out
        obtain ⟨g0, g1, g2, g3⟩ := four_frozen HZ2.out
        have HF : Hid ((put4 w2 (w.heap.size + 1) (.int .u64 0) (.int .i64 0) (.slice none 0 0) (.int .i64 0)).heap[w.heap.size + 1]? = some (.cells #[.int .u64 0, .int .i64 0, .slice none 0 0, .int .i64 0] 25)) := four_put HZ2.out
        have HBF : Hid (Below w.heap.size w (put4 w2 (w.heap.size + 1) (.int .u64 0) (.int .i64 0) (.slice none 0 0) (.int .i64 0))) := below_put4 HB2.out (by omega) _ _ _ _
        unfold put4 at HF HBF
        go_wp2
        generalize ((((w2.setCell ⟨w.heap.size + 1, 0, none⟩ (.int .u64 0)).setCell ⟨w.heap.size + 1, 1, none⟩ (.int .i64 0)).setCell ⟨w.heap.size + 1, 2, none⟩ (.slice none 0 0)).setCell ⟨w.heap.size + 1, 3, none⟩ (.int .i64 0)) = wf at *
        clear z0 z1 z2 z3 g0 g1 g2 g3
        obtain ⟨z0, z1, z2, z3⟩ := four_cells HF.out
        refine bodyPost_ret (v := .tuple #[.agg #[.int .u64 0, .int .i64 0, .slice none 0 0, .int .i64 0], .int .i64 7]) (by simp [results, Try.results38, go_sem, z0, z1, z2, z3]) rfl ?_
        exact ⟨⟨_, by rw [HR.out], by rw [HR.out]; exact ⟨none, 0, rfl, .inl rfl, by simp [zeroC]⟩⟩, HBF.out⟩
      · have h2b : (le == x) = false := by simp [h2]
        have hhf : hasB ⟨ep, sh, l, le⟩ x = false := by rw [HHH.out]; simp [h1, h2]
        by_cases h3 : le = -1
        · have HR : Hid (r = (⟨e0, sh, l, x⟩, 0)) := by rw [Hid, HR0.out, learnC, if_neg (by rw [HM1.out]; simp), if_neg (by rw [hhf]; simp), if_pos h3]
          have h4 : decide (0 ≤ le) = false := by rw [decide_eq_false_iff_not]; omega
          clear HR0 HHH HM1 h2 hhf h3
          obtain ⟨z0, z1, z2, z3⟩ := four_cells HZ2.out
          obtain ⟨g0, g1, g2, g3⟩ := four_frozen HZ2.out
          have HF : Hid ((put4 w2 (w.heap.size + 1) (.int .u64 (e0 : Nat)) (.int .i64 sh) (.slice a n c1) (.int .i64 x)).heap[w.heap.size + 1]? = some (.cells (rarr e0 sh (.slice a n c1) x) 25)) := four_put HZ2.out
          have HBF : Hid (Below w.heap.size w (put4 w2 (w.heap.size + 1) (.int .u64 (e0 : Nat)) (.int .i64 sh) (.slice a n c1) (.int .i64 x))) := below_put4 HB2.out (by omega) _ _ _ _
          have HMF := (fun (W : World) (hk : ∀ k, k ≠ w.heap.size + 1 → W.heap[k]? = w2.heap[k]?) => HM.out.old (g := w.heap.size + 1) (w1 := w2) HB2.out (by omega) hk) (put4 w2 (w.heap.size + 1) (.int .u64 (e0 : Nat)) (.int .i64 sh) (.slice a n c1) (.int .i64 x)) (fun k hk => put4_other _ _ _ _ hk)
          unfold put4 at HF HBF HMF
          go_wp2
          generalize ((((w2.setCell ⟨w.heap.size + 1, 0, none⟩ (.int .u64 (e0 : Nat))).setCell ⟨w.heap.size + 1, 1, none⟩ (.int .i64 sh)).setCell ⟨w.heap.size + 1, 2, none⟩ (.slice a n c1)).setCell ⟨w.heap.size + 1, 3, none⟩ (.int .i64 x)) = wf at *
          clear z0 z1 z2 z3 g0 g1 g2 g3 x0 x1 x2 x3
          obtain ⟨z0, z1, z2, z3⟩ := four_cells HF.out
          refine bodyPost_ret (v := .tuple #[.agg (rarr e0 sh (.slice a n c1) x), .int .i64 0]) (by simp [results, Try.results38, go_sem, z0, z1, z2, z3]) rfl ?_
          exact ⟨⟨_, by rw [HR.out], by rw [HR.out]; exact ⟨a, c1, by rw [HLN.out], HMF, by show l.length ≤ 100000; rw [HLN.out]; exact hl⟩⟩, HBF.out⟩
        · have HR : Hid (r = (zeroC, 10)) := by rw [Hid, HR0.out, learnC, if_neg (by rw [HM1.out]; simp), if_neg (by rw [hhf]; simp), if_neg h3]
          have h4 : decide (0 ≤ le) = true := by rw [decide_eq_true_eq]; omega
          clear HR0 HHH HM1 h2 hhf h3
          obtain ⟨z0, z1, z2, z3⟩ := four_cells HZ2.out
          obtain ⟨g0, g1, g2, g3⟩ := four_frozen HZ2.out
          have HF : Hid ((put4 w2 (w.heap.size + 1) (.int .u64 0) (.int .i64 0) (.slice none 0 0) (.int .i64 0)).heap[w.heap.size + 1]? = some (.cells #[.int .u64 0, .int .i64 0, .slice none 0 0, .int .i64 0] 25)) := four_put HZ2.out
          have HBF : Hid (Below w.heap.size w (put4 w2 (w.heap.size + 1) (.int .u64 0) (.int .i64 0) (.slice none 0 0) (.int .i64 0))) := below_put4 HB2.out (by omega) _ _ _ _
          unfold put4 at HF HBF
          go_wp2
          generalize ((((w2.setCell ⟨w.heap.size + 1, 0, none⟩ (.int .u64 0)).setCell ⟨w.heap.size + 1, 1, none⟩ (.int .i64 0)).setCell ⟨w.heap.size + 1, 2, none⟩ (.slice none 0 0)).setCell ⟨w.heap.size + 1, 3, none⟩ (.int .i64 0)) = wf at *
          clear z0 z1 z2 z3 g0 g1 g2 g3
          obtain ⟨z0, z1, z2, z3⟩ := four_cells HF.out
          refine bodyPost_ret (v := .tuple #[.agg #[.int .u64 0, .int .i64 0, .slice none 0 0, .int .i64 0], .int .i64 10]) (by simp [results, Try.results38, go_sem, z0, z1, z2, z3]) rfl ?_
          exact ⟨⟨_, by rw [HR.out], by rw [HR.out]; exact ⟨none, 0, rfl, .inl rfl, by simp [zeroC]⟩⟩, HBF.out⟩
end Go.Proofs.Ytgpjplpfjghcgaa
