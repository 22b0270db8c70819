/- Learn, Promote, Mark. -/
import Derived.Test.YtgpjplpfjghcgaaCoH
namespace Go.Proofs.Ytgpjplpfjghcgaa
open Go Go.RowKit
set_option linter.unusedVariables false
set_option linter.unusedSimpArgs false

def learnC (c : Cf) (x : Int) (e : Nat) : Cf × Int :=
  if mayB c x e = false then (zeroC, 1)
  else if hasB c x = true then (zeroC, 7)
  else if c.le = -1 then (⟨e, c.sh, c.l, x⟩, 0)
  else (zeroC, 10)
def promoteC (c : Cf) (x : Int) (e : Nat) : Cf × Int :=
  if mayB c x e = false then (zeroC, 1)
  else if learnsB c x = false then (zeroC, 6)
  else (⟨e, c.sh, c.l ++ [(x, false)], -1⟩, 0)
def fullAt (l : List Mb) (k : Nat) : Bool := (l[k]?.map (·.2)).getD false
def markC (c : Cf) (x : Int) : Cf × Int :=
  if (rightB c && srv x) = false then (zeroC, 1)
  else if placeC c x < 0 then (zeroC, 6)
  else if fullAt c.l (placeC c x).toNat = true then (zeroC, 7)
  else (⟨c.ep, c.sh, c.l.set (placeC c x).toNat (x, true), c.le⟩, 0)

theorem set_mi {l : List Mb} {k : Nat} {x : Int} {f : Bool} (h : (nodes l)[k]? = some x) : (l.set k (x, f)).map mi = l.map mi := by
  have hk : k < l.length := by have := (List.getElem?_eq_some_iff.1 h).1; rwa [nodes_length] at this
  have hx : l[k].1 = x := by simp [nodes, hk] at h; exact h
  apply List.ext_getElem?
  intro j
  rw [List.getElem?_map, List.getElem?_map, List.getElem?_set]
  by_cases e : k = j
  · subst e
    simp [hk, mi, hx]
  · simp [e]
theorem own_set {w : World} {base g n cap : Nat} {e : TypeId} {xs : List Value} (h : OwnV w base e (.slice (some ⟨g, 0, none⟩) n cap) xs) (k : Nat) (hk : k < xs.length) (u : Value) : OwnV (w.setCell ⟨g, k, none⟩ u) base e (.slice (some ⟨g, 0, none⟩) n cap) (xs.set k u) := by
  obtain ⟨hl, h⟩ := h
  rcases h with ⟨h, _⟩ | ⟨g', cap', cur, e1, hg, hh, hn, hm, hs, ht⟩
  · cases h
  · simp only [Value.slice.injEq, Option.some.injEq, Addr.mk.injEq] at e1
    obtain ⟨⟨rfl, _⟩, e2, rfl⟩ := e1
    refine ⟨by rw [List.length_set, Nat.mul_one], .inr ⟨g, cap, cur.setIfInBounds k u, by rw [List.length_set, e2], hg, heap_setCell_same _ _ _ _ _ _ hh, by rw [List.length_set]; exact hn, hm, by rw [Array.size_setIfInBounds]; exact hs, ?_⟩⟩
    rw [List.length_set, Array.toList_setIfInBounds, List.take_set, ht]

set_option maxRecDepth 100000 in
set_option maxHeartbeats 4000000 in
theorem learn_any (v : Value) (c : Cf) (x : Int) (e0 : Nat) (w : World) (h : Cfr w v c) (hle : c.l.length ≤ 900) :
    Calls Try.prog 37 #[v, .int .i64 x, .int .u64 (e0 : Nat)] w fun e w' => (∃ v', e = .returned (.tuple #[v', .int .i64 (learnC ⟨c.ep, c.sh, c.l, c.le⟩ x e0).2]) ∧ Cfo w' w.heap.size v' (learnC ⟨c.ep, c.sh, c.l, c.le⟩ x e0).1) ∧ Below w.heap.size w w' := by
  obtain ⟨r, hr⟩ : ∃ r, r = learnC ⟨c.ep, c.sh, c.l, c.le⟩ x e0 := ⟨_, rfl⟩
  rw [← hr]
  have HR0 : Hid (r = learnC ⟨c.ep, c.sh, c.l, c.le⟩ x e0) := hr
  clear hr
  obtain ⟨a, c1, b, c2, rfl, ha, hb, hl⟩ := h
  obtain ⟨ep, sh, l, le⟩ := c
  simp only at *
  have hW0 : Below w.heap.size w ((w.alloc (.cells (carr ep sh (.slice a l.length c1) (.slice b l.length c2) le) 29)).alloc (.cells #[.int .u64 0, .int .i64 0, .slice none 0 0, .slice none 0 0, .int .i64 0] 29)) := ((Below.refl _ _).alloc (Nat.le_refl _) _).alloc (by simp) _
  have hP0 : ((w.alloc (.cells (carr ep sh (.slice a l.length c1) (.slice b l.length c2) le) 29)).alloc (.cells #[.int .u64 0, .int .i64 0, .slice none 0 0, .slice none 0 0, .int .i64 0] 29)).heap[w.heap.size]? = some (.cells (carr ep sh (.slice a l.length c1) (.slice b l.length c2) le) 29) := heap_kept (heap_alloc_new _ _) ((Below.refl _ _).alloc (Nat.le_refl _) _)
  have hZ0 : ((w.alloc (.cells (carr ep sh (.slice a l.length c1) (.slice b l.length c2) le) 29)).alloc (.cells #[.int .u64 0, .int .i64 0, .slice none 0 0, .slice none 0 0, .int .i64 0] 29)).heap[w.heap.size + 1]? = some (.cells #[.int .u64 0, .int .i64 0, .slice none 0 0, .slice none 0 0, .int .i64 0] 29) := by have := heap_alloc_new (w.alloc (.cells (carr ep sh (.slice a l.length c1) (.slice b l.length c2) le) 29)) (.cells #[.int .u64 0, .int .i64 0, .slice none 0 0, .slice none 0 0, .int .i64 0] 29); rw [World.size_alloc] at this; exact this
  have HX : Hid (Cfr w (.agg (carr ep sh (.slice a l.length c1) (.slice b l.length c2) le)) ⟨ep, sh, l, le⟩) := ⟨a, c1, b, c2, rfl, ha, hb, hl⟩
  have HVB : Hid (Vals w b l.length (l.map mb)) := hb
  clear ha hb
  generalize hW : ((w.alloc (.cells (carr ep sh (.slice a l.length c1) (.slice b l.length c2) le) 29)).alloc (.cells #[.int .u64 0, .int .i64 0, .slice none 0 0, .slice none 0 0, .int .i64 0] 29)) = w0 at *
  have HB0 : Hid (Below w.heap.size w w0) := hW0
  have HP0 : Hid (w0.heap[w.heap.size]? = some (.cells (carr ep sh (.slice a l.length c1) (.slice b l.length c2) le) 29)) := hP0
  have HZ0 : Hid (w0.heap[w.heap.size + 1]? = some (.cells #[.int .u64 0, .int .i64 0, .slice none 0 0, .slice none 0 0, .int .i64 0] 29)) := hZ0
  clear hW0 hP0 hZ0
  generalize hn : l.length = n at *
  have HLN : Hid (l.length = n) := hn
  clear hn
  obtain ⟨x0, x1, x2, x3, x4⟩ := five_cells HP0.out
  have hcall := may_any _ _ x e0 _ (HX.out.later HB0.out)
  go_enter Try.func37, Try.ntmps37
  go_wp2_with fail
  refine hcall.mono ?_
  clear hcall x0 x1 x2 x3 x4 hW
  rintro e w1 ⟨rfl, hb1⟩
  have HP1 : Hid (w1.heap[w.heap.size]? = some (.cells (carr ep sh (.slice a n c1) (.slice b n c2) le) 29)) := heap_kept HP0.out hb1
  have HZ1 : Hid (w1.heap[w.heap.size + 1]? = some (.cells #[.int .u64 0, .int .i64 0, .slice none 0 0, .slice none 0 0, .int .i64 0] 29)) := heap_kept HZ0.out hb1
  have HB1 : Hid (Below w.heap.size w w1) := HB0.out.trans (hb1.mono HB0.out.size)
  clear hb1
  cases hm : mayB ⟨ep, sh, l, le⟩ x e0 with
  | false =>
    have HR : Hid (r = (zeroC, 1)) := by rw [Hid, HR0.out]; simp [learnC, hm]
    clear hm HR0
    obtain ⟨z0, z1, z2, z3, z4⟩ := five_cells HZ1.out
    obtain ⟨g0, g1, g2, g3, g4⟩ := five_frozen HZ1.out
    have HF : Hid ((put5 w1 (w.heap.size + 1) (.int .u64 0) (.int .i64 0) (.slice none 0 0) (.slice none 0 0) (.int .i64 0)).heap[w.heap.size + 1]? = some (.cells #[.int .u64 0, .int .i64 0, .slice none 0 0, .slice none 0 0, .int .i64 0] 29)) := five_put HZ1.out
    have HBF : Hid (Below w.heap.size w (put5 w1 (w.heap.size + 1) (.int .u64 0) (.int .i64 0) (.slice none 0 0) (.slice none 0 0) (.int .i64 0))) := below_put5 HB1.out (by omega) _ _ _ _ _
    unfold put5 at HF HBF
    go_wp2
    generalize (((((w1.setCell ⟨w.heap.size + 1, 0, none⟩ (.int .u64 0)).setCell ⟨w.heap.size + 1, 1, none⟩ (.int .i64 0)).setCell ⟨w.heap.size + 1, 2, none⟩ (.slice none 0 0)).setCell ⟨w.heap.size + 1, 3, none⟩ (.slice none 0 0)).setCell ⟨w.heap.size + 1, 4, none⟩ (.int .i64 0)) = wf at *
    clear z0 z1 z2 z3 z4 g0 g1 g2 g3 g4
    obtain ⟨z0, z1, z2, z3, z4⟩ := five_cells HF.out
    refine bodyPost_ret (v := .tuple #[.agg #[.int .u64 0, .int .i64 0, .slice none 0 0, .slice none 0 0, .int .i64 0], .int .i64 1]) (by simp [results, Try.results37, go_sem, z0, z1, z2, z3, z4]) rfl ?_
    exact ⟨⟨_, by rw [HR.out], by rw [HR.out]; exact ⟨_, _, rfl, OwnV.nil _ _ _, OwnV.nil _ _ _, by simp [zeroC]⟩⟩, HBF.out⟩
  | true =>
    have HM : Hid (mayB ⟨ep, sh, l, le⟩ x e0 = true) := hm
    clear hm
    obtain ⟨x0, x1, x2, x3, x4⟩ := five_cells HP1.out
    have hcall := has_any _ _ x _ (HX.out.later HB1.out)
    go_wp2_with fail
    refine hcall.mono ?_
    clear hcall x0 x1 x2 x3 x4
    rintro e w2 ⟨rfl, hb2⟩
    have HP2 : Hid (w2.heap[w.heap.size]? = some (.cells (carr ep sh (.slice a n c1) (.slice b n c2) le) 29)) := heap_kept HP1.out hb2
    have HZ2 : Hid (w2.heap[w.heap.size + 1]? = some (.cells #[.int .u64 0, .int .i64 0, .slice none 0 0, .slice none 0 0, .int .i64 0] 29)) := heap_kept HZ1.out hb2
    have HB2 : Hid (Below w.heap.size w w2) := HB1.out.trans (hb2.mono HB1.out.size)
    clear hb2
    cases hh : hasB ⟨ep, sh, l, le⟩ x with
    | true =>
      have HR : Hid (r = (zeroC, 7)) := by rw [Hid, HR0.out]; simp [learnC, HM.out, hh]
      clear hh HR0
      obtain ⟨z0, z1, z2, z3, z4⟩ := five_cells HZ2.out
      obtain ⟨g0, g1, g2, g3, g4⟩ := five_frozen HZ2.out
      have HF : Hid ((put5 w2 (w.heap.size + 1) (.int .u64 0) (.int .i64 0) (.slice none 0 0) (.slice none 0 0) (.int .i64 0)).heap[w.heap.size + 1]? = some (.cells #[.int .u64 0, .int .i64 0, .slice none 0 0, .slice none 0 0, .int .i64 0] 29)) := five_put HZ2.out
      have HBF : Hid (Below w.heap.size w (put5 w2 (w.heap.size + 1) (.int .u64 0) (.int .i64 0) (.slice none 0 0) (.slice none 0 0) (.int .i64 0))) := below_put5 HB2.out (by omega) _ _ _ _ _
      unfold put5 at HF HBF
      go_wp2
      generalize (((((w2.setCell ⟨w.heap.size + 1, 0, none⟩ (.int .u64 0)).setCell ⟨w.heap.size + 1, 1, none⟩ (.int .i64 0)).setCell ⟨w.heap.size + 1, 2, none⟩ (.slice none 0 0)).setCell ⟨w.heap.size + 1, 3, none⟩ (.slice none 0 0)).setCell ⟨w.heap.size + 1, 4, none⟩ (.int .i64 0)) = wf at *
      clear z0 z1 z2 z3 z4 g0 g1 g2 g3 g4
      obtain ⟨z0, z1, z2, z3, z4⟩ := five_cells HF.out
      refine bodyPost_ret (v := .tuple #[.agg #[.int .u64 0, .int .i64 0, .slice none 0 0, .slice none 0 0, .int .i64 0], .int .i64 7]) (by simp [results, Try.results37, go_sem, z0, z1, z2, z3, z4]) rfl ?_
      exact ⟨⟨_, by rw [HR.out], by rw [HR.out]; exact ⟨_, _, rfl, OwnV.nil _ _ _, OwnV.nil _ _ _, by simp [zeroC]⟩⟩, HBF.out⟩
    | false =>
      obtain ⟨x0, x1, x2, x3, x4⟩ := five_cells HP2.out
      by_cases hle1 : le = -1
      · have HR : Hid (r = (⟨e0, sh, l, x⟩, 0)) := by rw [Hid, HR0.out, learnC, if_neg (by rw [HM.out]; simp), if_neg (by rw [hh]; simp), if_pos hle1]
        clear hh HR0 x0 x1 x2 x3 x4
        have hlb : (le != -1) = false := by simp [hle1]
        clear hle1
        obtain ⟨x0, x1, x2, x3, x4⟩ := five_cells HP2.out
        have hcall := later_any _ _ e0 _ (HX.out.later HB2.out) (by show l.length ≤ 1000; rw [HLN.out]; omega)
        go_wp2_with fail
        refine hcall.mono ?_
        clear hcall x0 x1 x2 x3 x4
        rintro e w3 ⟨⟨v3, rfl, hv3⟩, hb3⟩
        have HP3 : Hid (w3.heap[w.heap.size]? = some (.cells (carr ep sh (.slice a n c1) (.slice b n c2) le) 29)) := heap_kept HP2.out hb3
        have HZ3 : Hid (w3.heap[w.heap.size + 1]? = some (.cells #[.int .u64 0, .int .i64 0, .slice none 0 0, .slice none 0 0, .int .i64 0] 29)) := heap_kept HZ2.out hb3
        have HB3 : Hid (Below w.heap.size w w3) := HB2.out.trans (hb3.mono HB2.out.size)
        clear hb3
        obtain ⟨va, vb, rfl, ho1, ho2, -⟩ := hv3
        simp only at ho1 ho2
        have HO3 : Hid (OwnV w3 w2.heap.size 3 va (l.map mi) ∧ OwnV w3 w2.heap.size 4 vb (l.map mb)) := ⟨ho1, ho2⟩
        obtain ⟨va', vn, vc, rfl⟩ := owns_slice ho1
        obtain ⟨vb', vm, vd, rfl⟩ := owns_slice ho2
        clear ho1 ho2
        have hb4 : Below w3.heap.size w3 (w3.alloc (.cells (carr e0 sh (.slice va' vn vc) (.slice vb' vm vd) le) 29)) := (Below.refl _ _).alloc (Nat.le_refl _) _
        have hq4 := heap_alloc_new w3 (.cells (carr e0 sh (.slice va' vn vc) (.slice vb' vm vd) le) 29)
        go_upto_region 8 with fail
        generalize w3.alloc (.cells (carr e0 sh (.slice va' vn vc) (.slice vb' vm vd) le) 29) = w4 at *
        have HP4 : Hid (w4.heap[w.heap.size]? = some (.cells (carr ep sh (.slice a n c1) (.slice b n c2) le) 29)) := heap_kept HP3.out hb4
        have HZ4 : Hid (w4.heap[w.heap.size + 1]? = some (.cells #[.int .u64 0, .int .i64 0, .slice none 0 0, .slice none 0 0, .int .i64 0] 29)) := heap_kept HZ3.out hb4
        have HB4 : Hid (Below w.heap.size w w4) := HB3.out.trans (hb4.mono HB3.out.size)
        have HQ4 : Hid (w4.heap[w3.heap.size]? = some (.cells (carr e0 sh (.slice va' vn vc) (.slice vb' vm vd) le) 29)) := hq4
        have HO4 : Hid (OwnV w4 w.heap.size 3 (.slice va' vn vc) (l.map mi) ∧ OwnV w4 w.heap.size 4 (.slice vb' vm vd) (l.map mb)) := ⟨owns_mono (HO3.out.1.later hb4) HB2.out.size, owns_mono (HO3.out.2.later hb4) HB2.out.size⟩
        have HPQ : Hid (w.heap.size + 1 < w3.heap.size) := (Array.getElem?_eq_some_iff.1 HZ3.out).1
        clear hq4 hb4
        generalize w3.heap.size = q at *
        have n4 : w4.cell? ⟨q, 4, none⟩ = some (.int .i64 le) := cell_of_heap HQ4.out rfl
        have f4 : w4.frozen? ⟨q, 4, none⟩ = false := frozen_of_row _ _ _ _ _ HQ4.out
        have HQ5 : Hid ((w4.setCell ⟨q, 4, none⟩ (.int .i64 x)).heap[q]? = some (.cells (carr e0 sh (.slice va' vn vc) (.slice vb' vm vd) x) 29)) := heap_setCell_same _ _ _ _ _ _ HQ4.out
        have HZ5 : Hid ((w4.setCell ⟨q, 4, none⟩ (.int .i64 x)).heap[w.heap.size + 1]? = some (.cells #[.int .u64 0, .int .i64 0, .slice none 0 0, .slice none 0 0, .int .i64 0] 29)) := (Below.heap_setCell _ _ _ _ (by have := HPQ.out; simp; omega)).trans HZ4.out
        have HB5 : Hid (Below w.heap.size w (w4.setCell ⟨q, 4, none⟩ (.int .i64 x))) := HB4.out.setCell (p := ⟨q, 4, none⟩) (by have := HPQ.out; simp; omega) _
        have HO5 : Hid (OwnV (w4.setCell ⟨q, 4, none⟩ (.int .i64 x)) w.heap.size 3 (.slice va' vn vc) (l.map mi) ∧ OwnV (w4.setCell ⟨q, 4, none⟩ (.int .i64 x)) w.heap.size 4 (.slice vb' vm vd) (l.map mb)) := ⟨own_same HO4.out.1 (fun k hk ht => Below.heap_setCell _ _ _ _ (tag_ne HQ4.out (by decide) ht)), own_same HO4.out.2 (fun k hk ht => Below.heap_setCell _ _ _ _ (tag_ne HQ4.out (by decide) ht))⟩
        generalize hw5 : w4.setCell ⟨q, 4, none⟩ (.int .i64 x) = w5 at *
        obtain ⟨z0, z1, z2, z3, z4⟩ := five_cells HZ5.out
        obtain ⟨g0, g1, g2, g3, g4⟩ := five_frozen HZ5.out
        obtain ⟨n0, n1, n2, n3, n4⟩ := five_cells HQ5.out
        have HF : Hid ((put5 w5 (w.heap.size + 1) (.int .u64 (e0 : Nat)) (.int .i64 sh) (.slice va' vn vc) (.slice vb' vm vd) (.int .i64 x)).heap[w.heap.size + 1]? = some (.cells (carr e0 sh (.slice va' vn vc) (.slice vb' vm vd) x) 29)) := five_put HZ5.out
        have HBF : Hid (Below w.heap.size w (put5 w5 (w.heap.size + 1) (.int .u64 (e0 : Nat)) (.int .i64 sh) (.slice va' vn vc) (.slice vb' vm vd) (.int .i64 x))) := below_put5 HB5.out (by omega) _ _ _ _ _
        have HOF : Hid (OwnV (put5 w5 (w.heap.size + 1) (.int .u64 (e0 : Nat)) (.int .i64 sh) (.slice va' vn vc) (.slice vb' vm vd) (.int .i64 x)) w.heap.size 3 (.slice va' vn vc) (l.map mi) ∧ OwnV (put5 w5 (w.heap.size + 1) (.int .u64 (e0 : Nat)) (.int .i64 sh) (.slice va' vn vc) (.slice vb' vm vd) (.int .i64 x)) w.heap.size 4 (.slice vb' vm vd) (l.map mb)) := ⟨own_same HO5.out.1 (fun k hk ht => put5_other _ _ _ _ _ (tag_ne HZ5.out (by decide) ht)), own_same HO5.out.2 (fun k hk ht => put5_other _ _ _ _ _ (tag_ne HZ5.out (by decide) ht))⟩
        unfold put5 at HF HBF HOF
        go_wp2
        generalize (((((w5.setCell ⟨w.heap.size + 1, 0, none⟩ (.int .u64 (e0 : Nat))).setCell ⟨w.heap.size + 1, 1, none⟩ (.int .i64 sh)).setCell ⟨w.heap.size + 1, 2, none⟩ (.slice va' vn vc)).setCell ⟨w.heap.size + 1, 3, none⟩ (.slice vb' vm vd)).setCell ⟨w.heap.size + 1, 4, none⟩ (.int .i64 x)) = wf at *
        clear z0 z1 z2 z3 z4 g0 g1 g2 g3 g4 n0 n1 n2 n3 n4
        obtain ⟨z0, z1, z2, z3, z4⟩ := five_cells HF.out
        refine bodyPost_ret (v := .tuple #[.agg (carr e0 sh (.slice va' vn vc) (.slice vb' vm vd) x), .int .i64 0]) (by simp [results, Try.results37, go_sem, z0, z1, z2, z3, z4]) rfl ?_
        exact ⟨⟨_, by rw [HR.out], by rw [HR.out]; exact ⟨_, _, rfl, HOF.out.1, HOF.out.2, by show l.length ≤ 1000; rw [HLN.out]; omega⟩⟩, HBF.out⟩
      · have HR : Hid (r = (zeroC, 10)) := by rw [Hid, HR0.out]; simp [learnC, HM.out, hh, hle1]
        have hlb : (le != -1) = true := by simp [hle1]
        clear hh HR0
        obtain ⟨z0, z1, z2, z3, z4⟩ := five_cells HZ2.out
        obtain ⟨g0, g1, g2, g3, g4⟩ := five_frozen HZ2.out
        have HF : Hid ((put5 w2 (w.heap.size + 1) (.int .u64 0) (.int .i64 0) (.slice none 0 0) (.slice none 0 0) (.int .i64 0)).heap[w.heap.size + 1]? = some (.cells #[.int .u64 0, .int .i64 0, .slice none 0 0, .slice none 0 0, .int .i64 0] 29)) := five_put HZ2.out
        have HBF : Hid (Below w.heap.size w (put5 w2 (w.heap.size + 1) (.int .u64 0) (.int .i64 0) (.slice none 0 0) (.slice none 0 0) (.int .i64 0))) := below_put5 HB2.out (by omega) _ _ _ _ _
        unfold put5 at HF HBF
        go_wp2
        generalize (((((w2.setCell ⟨w.heap.size + 1, 0, none⟩ (.int .u64 0)).setCell ⟨w.heap.size + 1, 1, none⟩ (.int .i64 0)).setCell ⟨w.heap.size + 1, 2, none⟩ (.slice none 0 0)).setCell ⟨w.heap.size + 1, 3, none⟩ (.slice none 0 0)).setCell ⟨w.heap.size + 1, 4, none⟩ (.int .i64 0)) = wf at *
        clear z0 z1 z2 z3 z4 g0 g1 g2 g3 g4
        obtain ⟨z0, z1, z2, z3, z4⟩ := five_cells HF.out
        refine bodyPost_ret (v := .tuple #[.agg #[.int .u64 0, .int .i64 0, .slice none 0 0, .slice none 0 0, .int .i64 0], .int .i64 10]) (by simp [results, Try.results37, go_sem, z0, z1, z2, z3, z4]) rfl ?_
        exact ⟨⟨_, by rw [HR.out], by rw [HR.out]; exact ⟨_, _, rfl, OwnV.nil _ _ _, OwnV.nil _ _ _, by simp [zeroC]⟩⟩, HBF.out⟩

set_option maxRecDepth 100000 in
set_option maxHeartbeats 4000000 in
theorem mark_any (v : Value) (c : Cf) (x : Int) (w : World) (h : Cfr w v c) (hle : c.l.length ≤ 900) :
    Calls Try.prog 41 #[v, .int .i64 x] w fun e w' => (∃ v', e = .returned (.tuple #[v', .int .i64 (markC ⟨c.ep, c.sh, c.l, c.le⟩ x).2]) ∧ Cfo w' w.heap.size v' (markC ⟨c.ep, c.sh, c.l, c.le⟩ x).1) ∧ Below w.heap.size w w' := by
  obtain ⟨r, hr⟩ : ∃ r, r = markC ⟨c.ep, c.sh, c.l, c.le⟩ x := ⟨_, rfl⟩
  rw [← hr]
  have HR0 : Hid (r = markC ⟨c.ep, c.sh, c.l, c.le⟩ x) := hr
  clear hr
  obtain ⟨a, c1, b, c2, rfl, ha, hb, hl⟩ := h
  obtain ⟨ep, sh, l, le⟩ := c
  simp only at *
  have hW0 : Below w.heap.size w ((w.alloc (.cells (carr ep sh (.slice a l.length c1) (.slice b l.length c2) le) 29)).alloc (.cells #[.int .u64 0, .int .i64 0, .slice none 0 0, .slice none 0 0, .int .i64 0] 29)) := ((Below.refl _ _).alloc (Nat.le_refl _) _).alloc (by simp) _
  have hP0 : ((w.alloc (.cells (carr ep sh (.slice a l.length c1) (.slice b l.length c2) le) 29)).alloc (.cells #[.int .u64 0, .int .i64 0, .slice none 0 0, .slice none 0 0, .int .i64 0] 29)).heap[w.heap.size]? = some (.cells (carr ep sh (.slice a l.length c1) (.slice b l.length c2) le) 29) := heap_kept (heap_alloc_new _ _) ((Below.refl _ _).alloc (Nat.le_refl _) _)
  have hZ0 : ((w.alloc (.cells (carr ep sh (.slice a l.length c1) (.slice b l.length c2) le) 29)).alloc (.cells #[.int .u64 0, .int .i64 0, .slice none 0 0, .slice none 0 0, .int .i64 0] 29)).heap[w.heap.size + 1]? = some (.cells #[.int .u64 0, .int .i64 0, .slice none 0 0, .slice none 0 0, .int .i64 0] 29) := by have := heap_alloc_new (w.alloc (.cells (carr ep sh (.slice a l.length c1) (.slice b l.length c2) le) 29)) (.cells #[.int .u64 0, .int .i64 0, .slice none 0 0, .slice none 0 0, .int .i64 0] 29); rw [World.size_alloc] at this; exact this
  have HX : Hid (Cfr w (.agg (carr ep sh (.slice a l.length c1) (.slice b l.length c2) le)) ⟨ep, sh, l, le⟩) := ⟨a, c1, b, c2, rfl, ha, hb, hl⟩
  have HVB : Hid (Vals w b l.length (l.map mb)) := hb
  clear ha hb
  generalize hW : ((w.alloc (.cells (carr ep sh (.slice a l.length c1) (.slice b l.length c2) le) 29)).alloc (.cells #[.int .u64 0, .int .i64 0, .slice none 0 0, .slice none 0 0, .int .i64 0] 29)) = w0 at *
  have HB0 : Hid (Below w.heap.size w w0) := hW0
  have HP0 : Hid (w0.heap[w.heap.size]? = some (.cells (carr ep sh (.slice a l.length c1) (.slice b l.length c2) le) 29)) := hP0
  have HZ0 : Hid (w0.heap[w.heap.size + 1]? = some (.cells #[.int .u64 0, .int .i64 0, .slice none 0 0, .slice none 0 0, .int .i64 0] 29)) := hZ0
  clear hW0 hP0 hZ0
  generalize hn : l.length = n at *
  have HLN : Hid (l.length = n) := hn
  clear hn
  obtain ⟨x0, x1, x2, x3, x4⟩ := five_cells HP0.out
  have hcall := right_any _ _ _ (HX.out.later HB0.out)
  go_enter Try.func41, Try.ntmps41
  go_wp2_with fail
  refine hcall.mono ?_
  clear hcall x0 x1 x2 x3 x4 hW
  rintro e w1 ⟨rfl, hb1⟩
  have HP1 : Hid (w1.heap[w.heap.size]? = some (.cells (carr ep sh (.slice a n c1) (.slice b n c2) le) 29)) := heap_kept HP0.out hb1
  have HZ1 : Hid (w1.heap[w.heap.size + 1]? = some (.cells #[.int .u64 0, .int .i64 0, .slice none 0 0, .slice none 0 0, .int .i64 0] 29)) := heap_kept HZ0.out hb1
  have HB1 : Hid (Below w.heap.size w w1) := HB0.out.trans (hb1.mono HB0.out.size)
  clear hb1
  have hsv := server_any x w1
  cases hm : rightB ⟨ep, sh, l, le⟩ with
  | false =>
    have HR : Hid (r = (zeroC, 1)) := by rw [Hid, HR0.out]; simp [markC, hm]
    clear hm HR0 hsv
    skip
    obtain ⟨z0, z1, z2, z3, z4⟩ := five_cells HZ1.out
    obtain ⟨g0, g1, g2, g3, g4⟩ := five_frozen HZ1.out
    have HF : Hid ((put5 w1 (w.heap.size + 1) (.int .u64 0) (.int .i64 0) (.slice none 0 0) (.slice none 0 0) (.int .i64 0)).heap[w.heap.size + 1]? = some (.cells #[.int .u64 0, .int .i64 0, .slice none 0 0, .slice none 0 0, .int .i64 0] 29)) := five_put HZ1.out
    have HBF : Hid (Below w.heap.size w (put5 w1 (w.heap.size + 1) (.int .u64 0) (.int .i64 0) (.slice none 0 0) (.slice none 0 0) (.int .i64 0))) := below_put5 HB1.out (by omega) _ _ _ _ _
    unfold put5 at HF HBF
    go_wp2
    generalize (((((w1.setCell ⟨w.heap.size + 1, 0, none⟩ (.int .u64 0)).setCell ⟨w.heap.size + 1, 1, none⟩ (.int .i64 0)).setCell ⟨w.heap.size + 1, 2, none⟩ (.slice none 0 0)).setCell ⟨w.heap.size + 1, 3, none⟩ (.slice none 0 0)).setCell ⟨w.heap.size + 1, 4, none⟩ (.int .i64 0)) = wf at *
    clear z0 z1 z2 z3 z4 g0 g1 g2 g3 g4
    obtain ⟨z0, z1, z2, z3, z4⟩ := five_cells HF.out
    refine bodyPost_ret (v := .tuple #[.agg #[.int .u64 0, .int .i64 0, .slice none 0 0, .slice none 0 0, .int .i64 0], .int .i64 1]) (by simp [results, Try.results41, go_sem, z0, z1, z2, z3, z4]) rfl ?_
    exact ⟨⟨_, by rw [HR.out], by rw [HR.out]; exact ⟨_, _, rfl, OwnV.nil _ _ _, OwnV.nil _ _ _, by simp [zeroC]⟩⟩, HBF.out⟩
  | true =>
    have HM : Hid (rightB ⟨ep, sh, l, le⟩ = true) := hm
    clear hm
    cases hs : srv x with
    | false =>
      have HR : Hid (r = (zeroC, 1)) := by rw [Hid, HR0.out]; simp [markC, hs]
      rw [hs] at hsv
      clear hs HR0
      obtain ⟨z0, z1, z2, z3, z4⟩ := five_cells HZ1.out
      obtain ⟨g0, g1, g2, g3, g4⟩ := five_frozen HZ1.out
      have HF : Hid ((put5 w1 (w.heap.size + 1) (.int .u64 0) (.int .i64 0) (.slice none 0 0) (.slice none 0 0) (.int .i64 0)).heap[w.heap.size + 1]? = some (.cells #[.int .u64 0, .int .i64 0, .slice none 0 0, .slice none 0 0, .int .i64 0] 29)) := five_put HZ1.out
      have HBF : Hid (Below w.heap.size w (put5 w1 (w.heap.size + 1) (.int .u64 0) (.int .i64 0) (.slice none 0 0) (.slice none 0 0) (.int .i64 0))) := below_put5 HB1.out (by omega) _ _ _ _ _
      unfold put5 at HF HBF
      go_wp2_with (go_at_call 30; refine hsv.mono ?_; rintro e w' ⟨rfl, hw'⟩; rw [hw']; clear hw' w')
      generalize (((((w1.setCell ⟨w.heap.size + 1, 0, none⟩ (.int .u64 0)).setCell ⟨w.heap.size + 1, 1, none⟩ (.int .i64 0)).setCell ⟨w.heap.size + 1, 2, none⟩ (.slice none 0 0)).setCell ⟨w.heap.size + 1, 3, none⟩ (.slice none 0 0)).setCell ⟨w.heap.size + 1, 4, none⟩ (.int .i64 0)) = wf at *
      clear z0 z1 z2 z3 z4 g0 g1 g2 g3 g4
      obtain ⟨z0, z1, z2, z3, z4⟩ := five_cells HF.out
      refine bodyPost_ret (v := .tuple #[.agg #[.int .u64 0, .int .i64 0, .slice none 0 0, .slice none 0 0, .int .i64 0], .int .i64 1]) (by simp [results, Try.results41, go_sem, z0, z1, z2, z3, z4]) rfl ?_
      exact ⟨⟨_, by rw [HR.out], by rw [HR.out]; exact ⟨_, _, rfl, OwnV.nil _ _ _, OwnV.nil _ _ _, by simp [zeroC]⟩⟩, HBF.out⟩
    | true =>
      have HS : Hid (srv x = true) := hs
      rw [hs] at hsv
      clear hs
      obtain ⟨x0, x1, x2, x3, x4⟩ := five_cells HP1.out
      have hcall := place_any _ _ x _ (HX.out.later HB1.out)
      go_wp2_with (go_at_call 30; refine hsv.mono ?_; rintro e w' ⟨rfl, hw'⟩; rw [hw']; clear hw' w')
      refine hcall.mono ?_
      clear hcall x0 x1 x2 x3 x4 hsv
      rintro e w2 ⟨rfl, hb2⟩
      have HP2 : Hid (w2.heap[w.heap.size]? = some (.cells (carr ep sh (.slice a n c1) (.slice b n c2) le) 29)) := heap_kept HP1.out hb2
      have HZ2 : Hid (w2.heap[w.heap.size + 1]? = some (.cells #[.int .u64 0, .int .i64 0, .slice none 0 0, .slice none 0 0, .int .i64 0] 29)) := heap_kept HZ1.out hb2
      have HB2 : Hid (Below w.heap.size w w2) := HB1.out.trans (hb2.mono HB1.out.size)
      clear hb2
      rcases place_cases (c := ⟨ep, sh, l, le⟩) x with hneg | ⟨k, hk, hpk, hat, hbef⟩
      · have HR : Hid (r = (zeroC, 6)) := by rw [Hid, HR0.out]; simp [markC, HM.out, HS.out, hneg]
        clear HR0
        generalize placeC ⟨ep, sh, l, le⟩ x = pk at *
        obtain ⟨z0, z1, z2, z3, z4⟩ := five_cells HZ2.out
        obtain ⟨g0, g1, g2, g3, g4⟩ := five_frozen HZ2.out
        have HF : Hid ((put5 w2 (w.heap.size + 1) (.int .u64 0) (.int .i64 0) (.slice none 0 0) (.slice none 0 0) (.int .i64 0)).heap[w.heap.size + 1]? = some (.cells #[.int .u64 0, .int .i64 0, .slice none 0 0, .slice none 0 0, .int .i64 0] 29)) := five_put HZ2.out
        have HBF : Hid (Below w.heap.size w (put5 w2 (w.heap.size + 1) (.int .u64 0) (.int .i64 0) (.slice none 0 0) (.slice none 0 0) (.int .i64 0))) := below_put5 HB2.out (by omega) _ _ _ _ _
        unfold put5 at HF HBF
        go_wp2
        generalize (((((w2.setCell ⟨w.heap.size + 1, 0, none⟩ (.int .u64 0)).setCell ⟨w.heap.size + 1, 1, none⟩ (.int .i64 0)).setCell ⟨w.heap.size + 1, 2, none⟩ (.slice none 0 0)).setCell ⟨w.heap.size + 1, 3, none⟩ (.slice none 0 0)).setCell ⟨w.heap.size + 1, 4, none⟩ (.int .i64 0)) = wf at *
        clear z0 z1 z2 z3 z4 g0 g1 g2 g3 g4
        obtain ⟨z0, z1, z2, z3, z4⟩ := five_cells HF.out
        refine bodyPost_ret (v := .tuple #[.agg #[.int .u64 0, .int .i64 0, .slice none 0 0, .slice none 0 0, .int .i64 0], .int .i64 6]) (by simp [results, Try.results41, go_sem, z0, z1, z2, z3, z4]) rfl ?_
        exact ⟨⟨_, by rw [HR.out], by rw [HR.out]; exact ⟨_, _, rfl, OwnV.nil _ _ _, OwnV.nil _ _ _, by simp [zeroC]⟩⟩, HBF.out⟩
      · simp only at hk hat hbef
        have HR1 : Hid (r = if fullAt l k = true then (zeroC, 7) else (⟨ep, sh, l.set k (x, true), le⟩, 0)) := by rw [Hid, HR0.out]; simp [markC, HM.out, HS.out, hpk, show ¬ ((k : Int) < 0) by omega]
        have hkn : k < n := by rw [← HLN.out]; exact hk
        have HAT : Hid ((nodes l)[k]? = some x) := hat
        rw [hpk]
        clear HR0 hat hbef hpk
        obtain ⟨b', off', hbe, hbc⟩ := (HVB.out.later HB2.out).at (by omega)
        subst hbe
        have y0 := hbc k (.bool l[k].2) (by simp [hk, mb])
        have HFU : Hid (fullAt l k = l[k].2) := by simp [Hid, fullAt, hk]
        clear hbc
        generalize l[k].2 = fu at y0 HFU
        obtain ⟨x0, x1, x2, x3, x4⟩ := five_cells HP2.out
        cases fu with
        | true =>
          have HR : Hid (r = (zeroC, 7)) := by rw [Hid, HR1.out, HFU.out]; rfl
          clear HR1
          obtain ⟨z0, z1, z2, z3, z4⟩ := five_cells HZ2.out
          obtain ⟨g0, g1, g2, g3, g4⟩ := five_frozen HZ2.out
          have HF : Hid ((put5 w2 (w.heap.size + 1) (.int .u64 0) (.int .i64 0) (.slice none 0 0) (.slice none 0 0) (.int .i64 0)).heap[w.heap.size + 1]? = some (.cells #[.int .u64 0, .int .i64 0, .slice none 0 0, .slice none 0 0, .int .i64 0] 29)) := five_put HZ2.out
          have HBF : Hid (Below w.heap.size w (put5 w2 (w.heap.size + 1) (.int .u64 0) (.int .i64 0) (.slice none 0 0) (.slice none 0 0) (.int .i64 0))) := below_put5 HB2.out (by omega) _ _ _ _ _
          unfold put5 at HF HBF
          go_wp2
          generalize (((((w2.setCell ⟨w.heap.size + 1, 0, none⟩ (.int .u64 0)).setCell ⟨w.heap.size + 1, 1, none⟩ (.int .i64 0)).setCell ⟨w.heap.size + 1, 2, none⟩ (.slice none 0 0)).setCell ⟨w.heap.size + 1, 3, none⟩ (.slice none 0 0)).setCell ⟨w.heap.size + 1, 4, none⟩ (.int .i64 0)) = wf at *
          clear z0 z1 z2 z3 z4 g0 g1 g2 g3 g4
          obtain ⟨z0, z1, z2, z3, z4⟩ := five_cells HF.out
          refine bodyPost_ret (v := .tuple #[.agg #[.int .u64 0, .int .i64 0, .slice none 0 0, .slice none 0 0, .int .i64 0], .int .i64 7]) (by simp [results, Try.results41, go_sem, z0, z1, z2, z3, z4]) rfl ?_
          exact ⟨⟨_, by rw [HR.out], by rw [HR.out]; exact ⟨_, _, rfl, OwnV.nil _ _ _, OwnV.nil _ _ _, by simp [zeroC]⟩⟩, HBF.out⟩
        | false =>
          have HR : Hid (r = (⟨ep, sh, l.set k (x, true), le⟩, 0)) := by rw [Hid, HR1.out, HFU.out]; rfl
          clear HR1
          skip
          have hcall := later_any _ _ ep _ (HX.out.later HB2.out) (by show l.length ≤ 1000; rw [HLN.out]; omega)
          go_wp2_with fail
          refine hcall.mono ?_
          clear hcall x0 x1 x2 x3 x4
          rintro e w3 ⟨⟨v3, rfl, hv3⟩, hb3⟩
          have HP3 : Hid (w3.heap[w.heap.size]? = some (.cells (carr ep sh (.slice a n c1) (.slice (some ⟨b', off', none⟩) n c2) le) 29)) := heap_kept HP2.out hb3
          have HZ3 : Hid (w3.heap[w.heap.size + 1]? = some (.cells #[.int .u64 0, .int .i64 0, .slice none 0 0, .slice none 0 0, .int .i64 0] 29)) := heap_kept HZ2.out hb3
          have HB3 : Hid (Below w.heap.size w w3) := HB2.out.trans (hb3.mono HB2.out.size)
          clear hb3
          obtain ⟨va, vb, rfl, ho1, ho2, -⟩ := hv3
          simp only at ho1 ho2
          have HO3 : Hid (OwnV w3 w2.heap.size 3 va (l.map mi) ∧ OwnV w3 w2.heap.size 4 vb (l.map mb)) := ⟨ho1, ho2⟩
          obtain ⟨va', vn, vc, rfl⟩ := owns_slice ho1
          obtain ⟨vb', vm, vd, rfl⟩ := owns_slice ho2
          clear ho1 ho2
          have hb4 : Below w3.heap.size w3 (w3.alloc (.cells (carr ep sh (.slice va' vn vc) (.slice vb' vm vd) le) 29)) := (Below.refl _ _).alloc (Nat.le_refl _) _
          have hq4 := heap_alloc_new w3 (.cells (carr ep sh (.slice va' vn vc) (.slice vb' vm vd) le) 29)
          go_upto_region 9 with fail
          generalize w3.alloc (.cells (carr ep sh (.slice va' vn vc) (.slice vb' vm vd) le) 29) = w4 at *
          have HP4 : Hid (w4.heap[w.heap.size]? = some (.cells (carr ep sh (.slice a n c1) (.slice (some ⟨b', off', none⟩) n c2) le) 29)) := heap_kept HP3.out hb4
          have HZ4 : Hid (w4.heap[w.heap.size + 1]? = some (.cells #[.int .u64 0, .int .i64 0, .slice none 0 0, .slice none 0 0, .int .i64 0] 29)) := heap_kept HZ3.out hb4
          have HB4 : Hid (Below w.heap.size w w4) := HB3.out.trans (hb4.mono HB3.out.size)
          have HQ4 : Hid (w4.heap[w3.heap.size]? = some (.cells (carr ep sh (.slice va' vn vc) (.slice vb' vm vd) le) 29)) := hq4
          have HO4 : Hid (OwnV w4 w.heap.size 3 (.slice va' vn vc) (l.map mi) ∧ OwnV w4 w.heap.size 4 (.slice vb' vm vd) (l.map mb)) := ⟨owns_mono (HO3.out.1.later hb4) HB2.out.size, owns_mono (HO3.out.2.later hb4) HB2.out.size⟩
          have HPQ : Hid (w.heap.size + 1 < w3.heap.size) := (Array.getElem?_eq_some_iff.1 HZ3.out).1
          clear hq4 hb4
          generalize w3.heap.size = q at *
          clear y0
          have hne2 : l.map mb ≠ [] := by intro e; have := congrArg List.length e; rw [List.length_map, List.length_nil] at this; omega
          obtain ⟨gk, cap2, cur2, e1, hg1, hh1, hs1, hn1, hm1, ht1⟩ := own_lies HO4.out.2 hne2
          simp only [Value.slice.injEq] at e1
          obtain ⟨rfl, e2, rfl⟩ := e1
          obtain rfl : n = vm := by rw [e2, List.length_map]; exact HLN.out.symm
          clear e2 hne2
          have hkc : k < cur2.size := by rw [hs1]; rw [List.length_map, HLN.out] at hn1; omega
          have y1 : w4.cell? ⟨gk, k, none⟩ = some cur2[k] := cell_of_heap hh1 (Array.getElem?_eq_getElem hkc)
          have y2 : w4.frozen? ⟨gk, k, none⟩ = false := frozen_of_row _ _ _ _ _ hh1
          have HQ5 : Hid ((w4.setCell ⟨gk, k, none⟩ (.bool true)).heap[q]? = some (.cells (carr ep sh (.slice va' vn vc) (.slice (some ⟨gk, 0, none⟩) n vd) le) 29)) := (heap_ne (block_ne (tagOf_heap HQ4.out) (tagOf_heap hh1) (by decide))).trans HQ4.out
          have HZ5 : Hid ((w4.setCell ⟨gk, k, none⟩ (.bool true)).heap[w.heap.size + 1]? = some (.cells #[.int .u64 0, .int .i64 0, .slice none 0 0, .slice none 0 0, .int .i64 0] 29)) := (heap_ne (block_ne (tagOf_heap HZ4.out) (tagOf_heap hh1) (by decide))).trans HZ4.out
          have HB5 : Hid (Below w.heap.size w (w4.setCell ⟨gk, k, none⟩ (.bool true))) := HB4.out.setCell (p := ⟨gk, k, none⟩) hg1 _
          have HO5 : Hid (OwnV (w4.setCell ⟨gk, k, none⟩ (.bool true)) w.heap.size 3 (.slice va' vn vc) ((l.set k (x, true)).map mi) ∧ OwnV (w4.setCell ⟨gk, k, none⟩ (.bool true)) w.heap.size 4 (.slice (some ⟨gk, 0, none⟩) n vd) ((l.set k (x, true)).map mb)) := by
            refine ⟨?_, ?_⟩
            · rw [set_mi HAT.out]; exact own_same HO4.out.1 (fun k hk ht => heap_ne (tag_ne hh1 (by decide) ht))
            · rw [List.map_set]; exact own_set HO4.out.2 k (by rw [List.length_map, HLN.out]; exact hkn) _
          obtain ⟨x0, x1, x2, x3, x4⟩ := five_cells HQ4.out
          have hk3 : (0 : Int) ≤ (k : Int) := by omega
          clear hg1 hh1 hs1 hn1 hm1 ht1 hk
          go_upto_region 10 with fail
          generalize (w4.setCell ⟨gk, k, none⟩ (.bool true)) = w5 at *
          clear x0 x1 x2 x3 x4 y1 y2
          obtain ⟨z0, z1, z2, z3, z4⟩ := five_cells HZ5.out
          obtain ⟨g0, g1, g2, g3, g4⟩ := five_frozen HZ5.out
          obtain ⟨n0, n1, n2, n3, n4⟩ := five_cells HQ5.out
          have HF : Hid ((put5 w5 (w.heap.size + 1) (.int .u64 (ep : Nat)) (.int .i64 sh) (.slice va' vn vc) (.slice (some ⟨gk, 0, none⟩) n vd) (.int .i64 le)).heap[w.heap.size + 1]? = some (.cells (carr ep sh (.slice va' vn vc) (.slice (some ⟨gk, 0, none⟩) n vd) le) 29)) := five_put HZ5.out
          have HBF : Hid (Below w.heap.size w (put5 w5 (w.heap.size + 1) (.int .u64 (ep : Nat)) (.int .i64 sh) (.slice va' vn vc) (.slice (some ⟨gk, 0, none⟩) n vd) (.int .i64 le))) := below_put5 HB5.out (by omega) _ _ _ _ _
          have HOF : Hid (OwnV (put5 w5 (w.heap.size + 1) (.int .u64 (ep : Nat)) (.int .i64 sh) (.slice va' vn vc) (.slice (some ⟨gk, 0, none⟩) n vd) (.int .i64 le)) w.heap.size 3 (.slice va' vn vc) ((l.set k (x, true)).map mi) ∧ OwnV (put5 w5 (w.heap.size + 1) (.int .u64 (ep : Nat)) (.int .i64 sh) (.slice va' vn vc) (.slice (some ⟨gk, 0, none⟩) n vd) (.int .i64 le)) w.heap.size 4 (.slice (some ⟨gk, 0, none⟩) n vd) ((l.set k (x, true)).map mb)) := ⟨own_same HO5.out.1 (fun k hk ht => put5_other _ _ _ _ _ (tag_ne HZ5.out (by decide) ht)), own_same HO5.out.2 (fun k hk ht => put5_other _ _ _ _ _ (tag_ne HZ5.out (by decide) ht))⟩
          unfold put5 at HF HBF HOF
          go_wp2
          generalize (((((w5.setCell ⟨w.heap.size + 1, 0, none⟩ (.int .u64 (ep : Nat))).setCell ⟨w.heap.size + 1, 1, none⟩ (.int .i64 sh)).setCell ⟨w.heap.size + 1, 2, none⟩ (.slice va' vn vc)).setCell ⟨w.heap.size + 1, 3, none⟩ (.slice (some ⟨gk, 0, none⟩) n vd)).setCell ⟨w.heap.size + 1, 4, none⟩ (.int .i64 le)) = wf at *
          clear z0 z1 z2 z3 z4 g0 g1 g2 g3 g4 n0 n1 n2 n3 n4
          obtain ⟨z0, z1, z2, z3, z4⟩ := five_cells HF.out
          refine bodyPost_ret (v := .tuple #[.agg (carr ep sh (.slice va' vn vc) (.slice (some ⟨gk, 0, none⟩) n vd) le), .int .i64 0]) (by simp [results, Try.results41, go_sem, z0, z1, z2, z3, z4]) rfl ?_
          exact ⟨⟨_, by rw [HR.out], by rw [HR.out]; exact ⟨_, _, rfl, HOF.out.1, HOF.out.2, by show (l.set k (x, true)).length ≤ 1000; rw [List.length_set, HLN.out]; omega⟩⟩, HBF.out⟩
end Go.Proofs.Ytgpjplpfjghcgaa
