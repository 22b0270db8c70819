/- Promote. -/
import Derived.Test.YtgpjplpfjghcgaaCoK
namespace Go.Proofs.Ytgpjplpfjghcgaa
open Go Go.RowKit
set_option linter.unusedVariables false
set_option linter.unusedSimpArgs false

/-- one of two that are ready, whichever is drawn -/
theorem letz_two {P : Program} {md : Region.Mode} {ops : Array Oper} {Q : Exit → Act → World → Prop} {z : Nat} {S : World → Prop} {i j : Nat} {o o2 : Oper} {fuel : Nat} {done : Array Bool} {a : Act} {w : World} (hr : Region.ready md ops done = [i, j]) (ho : ops[i]? = some o) (ho2 : ops[j]? = some o2)
    (h : ∀ K : Act → World → Prop, Shut (∀ a w, ((done.setIfInBounds i true).getD z true = false → S w) → (((done.setIfInBounds i true).getD z true = false → S w) → Letz P md ops Q z S fuel (done.setIfInBounds i true) a w) → K a w) → if Region.wanted o (yielded ops a.tmps) = true then Oper.wp P o a w K Q else K (a.put o.dst undef) w)
    (h2 : ∀ K : Act → World → Prop, Shut (∀ a w, ((done.setIfInBounds j true).getD z true = false → S w) → (((done.setIfInBounds j true).getD z true = false → S w) → Letz P md ops Q z S fuel (done.setIfInBounds j true) a w) → K a w) → if Region.wanted o2 (yielded ops a.tmps) = true then Oper.wp P o2 a w K Q else K (a.put o2.dst undef) w) : Letz P md ops Q z S (fuel + 1) done a w := by
  refine ⟨fun e => absurd (hr ▸ e) (by simp), fun x hx => ?_⟩
  rw [hr] at hx
  simp only [List.mem_cons, List.not_mem_nil, or_false] at hx
  rcases hx with rfl | rfl
  · exact wpOp_step ho (fun K hK => h K (fun a w h1 h2 => hK a w ⟨h1, h2 h1⟩))
  · exact wpOp_step ho2 (fun K hK => h2 K (fun a w h1 h2 => hK a w ⟨h1, h2 h1⟩))
theorem step_append_fr (t e : TypeId) (z : Value) (bytes : Nat) (hu : Try.prog.underlying t = some (.slice e)) (hinfo : (Try.prog.info? e).map (fun i => (i.zero, i.size, i.bytes)) = some (some z, 1, bytes)) (hz : z.cells.size = 1) (hby : bytes ≤ 1000)
    {w : World} {ops : Array Oper} {o : Oper} {a : Act} {K : Act → World → Prop} {Q : Exit → Act → World → Prop} {E : Prop} (hgd : o.guard = none) (s x : Operand)
    (ho : o.op = .call { callee := .builtin .append, args := #[s, x], argTypes := #[t, t] })
    (base : Nat) (v : Value) (xs : List Value) (hs : a.eval s = v) (hown : OwnV w base e v xs)
    (ad : Addr) (c : Nat) (u : Value) (hx : a.eval x = .slice (some ad) 1 c) (hc : w.cell? ad = some u) (h1 : u.oneCell' = true)
    (hmany : xs.length ≤ 10000) (hbase : base ≤ w.heap.size)
    (h : ∀ v' w', OwnV w' base e v' (xs ++ [u]) → Fr base [e] w w' → K (a.put o.dst v') w') : if Region.wanted o (yielded ops a.tmps) = true then Oper.wp Try.prog o a w K Q else E := by
  have hf : xs.flatMap (fun x => [x]) = xs := by simp
  refine step_append_els (fun x : Value => [x]) 1 bytes t e z hu hinfo hz (by decide) (fun _ => rfl) hby hgd s x ho base v xs hs (by rw [hf]; exact hown) ad 1 c [u] hx rfl ?_ (by simpa using h1) (by decide) (by omega) hbase ?_
  · intro j y hj
    cases j with
    | zero => simp at hj; subst hj; rw [show ad.add 0 = ad from by simp [Addr.add]]; exact hc
    | succ j => simp at hj
  · intro v' w' h2 h3 _
    have h4 : OwnV w' base e v' (xs ++ [u]) := by
      have e1 : (xs ++ [u]).flatMap (fun x => [x]) = xs ++ [u] := by simp
      rw [e1] at h2
      exact h2
    exact h v' w' h4 (Fr.grown h3 (fun k hk => ⟨(own_tag hown k hk).1, e, by simp, (own_tag hown k hk).2⟩))

set_option maxRecDepth 100000 in
set_option maxHeartbeats 4000000 in
theorem promote_any (v : Value) (c : Cf) (x : Int) (e0 : Nat) (w : World) (h : Cfr w v c) (hle : c.l.length ≤ 900) :
    Calls Try.prog 39 #[v, .int .i64 x, .int .u64 (e0 : Nat)] w fun e w' => (∃ v', e = .returned (.tuple #[v', .int .i64 (promoteC ⟨c.ep, c.sh, c.l, c.le⟩ x e0).2]) ∧ Cfo w' w.heap.size v' (promoteC ⟨c.ep, c.sh, c.l, c.le⟩ x e0).1) ∧ Below w.heap.size w w' := by
  obtain ⟨r, hr⟩ : ∃ r, r = promoteC ⟨c.ep, c.sh, c.l, c.le⟩ x e0 := ⟨_, rfl⟩
  rw [← hr]
  have HR0 : Hid (r = promoteC ⟨c.ep, c.sh, c.l, c.le⟩ x e0) := hr
  clear hr
  obtain ⟨a, c1, b, c2, rfl, ha, hb, hl⟩ := h
  obtain ⟨ep, sh, l, le⟩ := c
  simp only at *
  have hW0 : Below w.heap.size w ((w.alloc (.cells (carr ep sh (.slice a l.length c1) (.slice b l.length c2) le) 29)).alloc (.cells #[.int .u64 0, .int .i64 0, .slice none 0 0, .slice none 0 0, .int .i64 0] 29)) := ((Below.refl _ _).alloc (Nat.le_refl _) _).alloc (by simp) _
  have hP0 : ((w.alloc (.cells (carr ep sh (.slice a l.length c1) (.slice b l.length c2) le) 29)).alloc (.cells #[.int .u64 0, .int .i64 0, .slice none 0 0, .slice none 0 0, .int .i64 0] 29)).heap[w.heap.size]? = some (.cells (carr ep sh (.slice a l.length c1) (.slice b l.length c2) le) 29) := heap_kept (heap_alloc_new _ _) ((Below.refl _ _).alloc (Nat.le_refl _) _)
  have hZ0 : ((w.alloc (.cells (carr ep sh (.slice a l.length c1) (.slice b l.length c2) le) 29)).alloc (.cells #[.int .u64 0, .int .i64 0, .slice none 0 0, .slice none 0 0, .int .i64 0] 29)).heap[w.heap.size + 1]? = some (.cells #[.int .u64 0, .int .i64 0, .slice none 0 0, .slice none 0 0, .int .i64 0] 29) := by have := heap_alloc_new (w.alloc (.cells (carr ep sh (.slice a l.length c1) (.slice b l.length c2) le) 29)) (.cells #[.int .u64 0, .int .i64 0, .slice none 0 0, .slice none 0 0, .int .i64 0] 29); rw [World.size_alloc] at this; exact this
  have HX : Hid (Cfr w (.agg (carr ep sh (.slice a l.length c1) (.slice b l.length c2) le)) ⟨ep, sh, l, le⟩) := ⟨a, c1, b, c2, rfl, ha, hb, hl⟩
  have HVB : Hid (Vals w b l.length (l.map mb)) := hb
  clear ha hb
  generalize hW : ((w.alloc (.cells (carr ep sh (.slice a l.length c1) (.slice b l.length c2) le) 29)).alloc (.cells #[.int .u64 0, .int .i64 0, .slice none 0 0, .slice none 0 0, .int .i64 0] 29)) = w0 at *
  have HB0 : Hid (Below w.heap.size w w0) := hW0
  have HP0 : Hid (w0.heap[w.heap.size]? = some (.cells (carr ep sh (.slice a l.length c1) (.slice b l.length c2) le) 29)) := hP0
  have HZ0 : Hid (w0.heap[w.heap.size + 1]? = some (.cells #[.int .u64 0, .int .i64 0, .slice none 0 0, .slice none 0 0, .int .i64 0] 29)) := hZ0
  clear hW0 hP0 hZ0
  generalize hn : l.length = n at *
  have HLN : Hid (l.length = n) := hn
  clear hn
  obtain ⟨x0, x1, x2, x3, x4⟩ := five_cells HP0.out
  have hcall := may_any _ _ x e0 _ (HX.out.later HB0.out)
  go_enter Try.func39, Try.ntmps39
  go_wp2_with fail
  refine hcall.mono ?_
  clear hcall x0 x1 x2 x3 x4 hW
  rintro e w1 ⟨rfl, hb1⟩
  have HP1 : Hid (w1.heap[w.heap.size]? = some (.cells (carr ep sh (.slice a n c1) (.slice b n c2) le) 29)) := heap_kept HP0.out hb1
  have HZ1 : Hid (w1.heap[w.heap.size + 1]? = some (.cells #[.int .u64 0, .int .i64 0, .slice none 0 0, .slice none 0 0, .int .i64 0] 29)) := heap_kept HZ0.out hb1
  have HB1 : Hid (Below w.heap.size w w1) := HB0.out.trans (hb1.mono HB0.out.size)
  clear hb1
  cases hm : mayB ⟨ep, sh, l, le⟩ x e0 with
  | false =>
    have HR : Hid (r = (zeroC, 1)) := by rw [Hid, HR0.out]; simp [promoteC, hm]
    clear hm HR0
    obtain ⟨z0, z1, z2, z3, z4⟩ := five_cells HZ1.out
    obtain ⟨g0, g1, g2, g3, g4⟩ := five_frozen HZ1.out
    have HF : Hid ((put5 w1 (w.heap.size + 1) (.int .u64 0) (.int .i64 0) (.slice none 0 0) (.slice none 0 0) (.int .i64 0)).heap[w.heap.size + 1]? = some (.cells #[.int .u64 0, .int .i64 0, .slice none 0 0, .slice none 0 0, .int .i64 0] 29)) := five_put HZ1.out
    have HBF : Hid (Below w.heap.size w (put5 w1 (w.heap.size + 1) (.int .u64 0) (.int .i64 0) (.slice none 0 0) (.slice none 0 0) (.int .i64 0))) := below_put5 HB1.out (by omega) _ _ _ _ _
    unfold put5 at HF HBF
    go_wp2
    generalize (((((w1.setCell ⟨w.heap.size + 1, 0, none⟩ (.int .u64 0)).setCell ⟨w.heap.size + 1, 1, none⟩ (.int .i64 0)).setCell ⟨w.heap.size + 1, 2, none⟩ (.slice none 0 0)).setCell ⟨w.heap.size + 1, 3, none⟩ (.slice none 0 0)).setCell ⟨w.heap.size + 1, 4, none⟩ (.int .i64 0)) = wf at *
    clear z0 z1 z2 z3 z4 g0 g1 g2 g3 g4
    obtain ⟨z0, z1, z2, z3, z4⟩ := five_cells HF.out
    refine bodyPost_ret (v := .tuple #[.agg #[.int .u64 0, .int .i64 0, .slice none 0 0, .slice none 0 0, .int .i64 0], .int .i64 1]) (by simp [results, Try.results39, go_sem, z0, z1, z2, z3, z4]) rfl ?_
    exact ⟨⟨_, by rw [HR.out], by rw [HR.out]; exact ⟨_, _, rfl, OwnV.nil _ _ _, OwnV.nil _ _ _, by simp [zeroC]⟩⟩, HBF.out⟩
  | true =>
    have HM : Hid (mayB ⟨ep, sh, l, le⟩ x e0 = true) := hm
    clear hm
    obtain ⟨x0, x1, x2, x3, x4⟩ := five_cells HP1.out
    have hcall := learns_any _ _ x _ (HX.out.later HB1.out)
    go_wp2_with fail
    refine hcall.mono ?_
    clear hcall x0 x1 x2 x3 x4
    rintro e w2 ⟨rfl, hb2⟩
    have HP2 : Hid (w2.heap[w.heap.size]? = some (.cells (carr ep sh (.slice a n c1) (.slice b n c2) le) 29)) := heap_kept HP1.out hb2
    have HZ2 : Hid (w2.heap[w.heap.size + 1]? = some (.cells #[.int .u64 0, .int .i64 0, .slice none 0 0, .slice none 0 0, .int .i64 0] 29)) := heap_kept HZ1.out hb2
    have HB2 : Hid (Below w.heap.size w w2) := HB1.out.trans (hb2.mono HB1.out.size)
    clear hb2
    cases hh : learnsB ⟨ep, sh, l, le⟩ x with
    | false =>
      have HR : Hid (r = (zeroC, 6)) := by rw [Hid, HR0.out]; simp [promoteC, HM.out, hh]
      clear hh HR0
      obtain ⟨z0, z1, z2, z3, z4⟩ := five_cells HZ2.out
      obtain ⟨g0, g1, g2, g3, g4⟩ := five_frozen HZ2.out
      have HF : Hid ((put5 w2 (w.heap.size + 1) (.int .u64 0) (.int .i64 0) (.slice none 0 0) (.slice none 0 0) (.int .i64 0)).heap[w.heap.size + 1]? = some (.cells #[.int .u64 0, .int .i64 0, .slice none 0 0, .slice none 0 0, .int .i64 0] 29)) := five_put HZ2.out
      have HBF : Hid (Below w.heap.size w (put5 w2 (w.heap.size + 1) (.int .u64 0) (.int .i64 0) (.slice none 0 0) (.slice none 0 0) (.int .i64 0))) := below_put5 HB2.out (by omega) _ _ _ _ _
      unfold put5 at HF HBF
      go_wp2
      generalize (((((w2.setCell ⟨w.heap.size + 1, 0, none⟩ (.int .u64 0)).setCell ⟨w.heap.size + 1, 1, none⟩ (.int .i64 0)).setCell ⟨w.heap.size + 1, 2, none⟩ (.slice none 0 0)).setCell ⟨w.heap.size + 1, 3, none⟩ (.slice none 0 0)).setCell ⟨w.heap.size + 1, 4, none⟩ (.int .i64 0)) = wf at *
      clear z0 z1 z2 z3 z4 g0 g1 g2 g3 g4
      obtain ⟨z0, z1, z2, z3, z4⟩ := five_cells HF.out
      refine bodyPost_ret (v := .tuple #[.agg #[.int .u64 0, .int .i64 0, .slice none 0 0, .slice none 0 0, .int .i64 0], .int .i64 6]) (by simp [results, Try.results39, go_sem, z0, z1, z2, z3, z4]) rfl ?_
      exact ⟨⟨_, by rw [HR.out], by rw [HR.out]; exact ⟨_, _, rfl, OwnV.nil _ _ _, OwnV.nil _ _ _, by simp [zeroC]⟩⟩, HBF.out⟩
    | true =>
      have HR : Hid (r = (⟨e0, sh, l ++ [(x, false)], -1⟩, 0)) := by rw [Hid, HR0.out]; simp [promoteC, HM.out, hh]
      clear hh HR0
      obtain ⟨x0, x1, x2, x3, x4⟩ := five_cells HP2.out
      have hcall := later_any _ _ e0 _ (HX.out.later HB2.out) (by show l.length ≤ 1000; rw [HLN.out]; omega)
      go_wp2_with fail
      refine hcall.mono ?_
      clear hcall x0 x1 x2 x3 x4
      rintro e w3 ⟨⟨v3, rfl, hv3⟩, hb3⟩
      have HP3 : Hid (w3.heap[w.heap.size]? = some (.cells (carr ep sh (.slice a n c1) (.slice b n c2) le) 29)) := heap_kept HP2.out hb3
      have HZ3 : Hid (w3.heap[w.heap.size + 1]? = some (.cells #[.int .u64 0, .int .i64 0, .slice none 0 0, .slice none 0 0, .int .i64 0] 29)) := heap_kept HZ2.out hb3
      have HB3 : Hid (Below w.heap.size w w3) := HB2.out.trans (hb3.mono HB2.out.size)
      clear hb3
      obtain ⟨va, vb, rfl, ho1, ho2, -⟩ := hv3
      simp only at ho1 ho2
      have HO3 : Hid (OwnV w3 w2.heap.size 3 va (l.map mi) ∧ OwnV w3 w2.heap.size 4 vb (l.map mb)) := ⟨ho1, ho2⟩
      obtain ⟨va', vn, vc, rfl⟩ := owns_slice ho1
      obtain ⟨vb', vm, vd, rfl⟩ := owns_slice ho2
      clear ho1 ho2
      have hb4 : Below w3.heap.size w3 (w3.alloc (.cells (carr e0 sh (.slice va' vn vc) (.slice vb' vm vd) le) 29)) := (Below.refl _ _).alloc (Nat.le_refl _) _
      have hq4 := heap_alloc_new w3 (.cells (carr e0 sh (.slice va' vn vc) (.slice vb' vm vd) le) 29)
      go_upto_region 6 with fail
      generalize w3.alloc (.cells (carr e0 sh (.slice va' vn vc) (.slice vb' vm vd) le) 29) = w4 at *
      have HP4 : Hid (w4.heap[w.heap.size]? = some (.cells (carr ep sh (.slice a n c1) (.slice b n c2) le) 29)) := heap_kept HP3.out hb4
      have HZ4 : Hid (w4.heap[w.heap.size + 1]? = some (.cells #[.int .u64 0, .int .i64 0, .slice none 0 0, .slice none 0 0, .int .i64 0] 29)) := heap_kept HZ3.out hb4
      have HB4 : Hid (Below w.heap.size w w4) := HB3.out.trans (hb4.mono HB3.out.size)
      have HQ4 : Hid (w4.heap[w3.heap.size]? = some (.cells (carr e0 sh (.slice va' vn vc) (.slice vb' vm vd) le) 29)) := hq4
      have HO4 : Hid (OwnV w4 w.heap.size 3 (.slice va' vn vc) (l.map mi) ∧ OwnV w4 w.heap.size 4 (.slice vb' vm vd) (l.map mb)) := ⟨owns_mono (HO3.out.1.later hb4) HB2.out.size, owns_mono (HO3.out.2.later hb4) HB2.out.size⟩
      have HPQ : Hid (w.heap.size + 1 < w3.heap.size) := (Array.getElem?_eq_some_iff.1 HZ3.out).1
      clear hq4 hb4
      generalize w3.heap.size = q at *
      have h2 : w4.cell? ⟨q, 2, none⟩ = some (.slice va' vn vc) := cell_of_heap HQ4.out rfl
      have h3 : w4.cell? ⟨q, 3, none⟩ = some (.slice vb' vm vd) := cell_of_heap HQ4.out rfl
      have HZD : Hid (w4.drew.heap[w.heap.size + 1]? = some (.cells #[.int .u64 0, .int .i64 0, .slice none 0 0, .slice none 0 0, .int .i64 0] 29)) := HZ4.out
      have HQD : Hid (w4.drew.heap[q]? = some (.cells (carr e0 sh (.slice va' vn vc) (.slice vb' vm vd) le) 29)) := HQ4.out
      have HBD : Hid (Below w.heap.size w w4.drew) := HB4.out.drew
      have HID : Hid (OwnV w4.drew w.heap.size 3 (.slice va' vn vc) (l.map mi)) := HO4.out.1
      have HFD : Hid (OwnV w4.drew w.heap.size 4 (.slice vb' vm vd) (l.map mb)) := HO4.out.2
      refine wp_region_noPanic ?_
      refine wp_region_letz 10 (fun w' => w'.cell? ⟨q, 2, none⟩ = some (.slice va' vn vc) ∧ w'.cell? ⟨q, 3, none⟩ = some (.slice vb' vm vd)) (by kernel_rfl) ?_ (fun hHeld => ?_)
      · exact ⟨h2, h3⟩
      refine letz_take (i := 0) (d := 25) (v := ?_) rfl rfl (by kernel_rfl) (by kernel_rfl) (by kernel_rfl) (by kernel_rfl) (fun _ _ _ h => h) (Or.inl ⟨by rfl, ?_⟩) hHeld ?_
      rotate_left
      · (intro w hSw; (try dsimp only at hSw); go_simp; all_goals (with_reducible rfl))
      try simp only [Act.put, List.setIfInBounds_toArray, List.set_cons_zero, List.set_cons_succ]
      refine letz_take (i := 1) (d := 26) (v := ?_) rfl rfl (by kernel_rfl) (by kernel_rfl) (by kernel_rfl) (by kernel_rfl) (fun _ _ _ h => h) (Or.inl ⟨by rfl, ?_⟩) hHeld ?_
      rotate_left
      · (intro w hSw; (try dsimp only at hSw); go_simp; all_goals (with_reducible rfl))
      try simp only [Act.put, List.setIfInBounds_toArray, List.set_cons_zero, List.set_cons_succ]
      refine letz_take (i := 2) (d := 27) (v := ?_) rfl rfl (by kernel_rfl) (by kernel_rfl) (by kernel_rfl) (by kernel_rfl) (fun _ _ _ h => h) (Or.inl ⟨by rfl, ?_⟩) hHeld ?_
      rotate_left
      · (intro w hSw; (try dsimp only at hSw); go_simp; all_goals (with_reducible rfl))
      try simp only [Act.put, List.setIfInBounds_toArray, List.set_cons_zero, List.set_cons_succ]
      refine letz_take (i := 5) (d := 30) (v := ?_) rfl rfl (by kernel_rfl) (by kernel_rfl) (by kernel_rfl) (by kernel_rfl) (fun _ _ _ h => h) (Or.inl ⟨by rfl, ?_⟩) hHeld ?_
      rotate_left
      · (intro w hSw; (try dsimp only at hSw); go_simp; all_goals (with_reducible rfl))
      try simp only [Act.put, List.setIfInBounds_toArray, List.set_cons_zero, List.set_cons_succ]
      refine letz_take (i := 6) (d := 31) (v := ?_) rfl rfl (by kernel_rfl) (by kernel_rfl) (by kernel_rfl) (by kernel_rfl) (fun _ _ _ h => h) (Or.inl ⟨by rfl, ?_⟩) hHeld ?_
      rotate_left
      · (intro w hSw; (try dsimp only at hSw); go_simp; all_goals (with_reducible rfl))
      try simp only [Act.put, List.setIfInBounds_toArray, List.set_cons_zero, List.set_cons_succ]
      have hlm1 : (l.map mi).length ≤ 900 := by rw [List.length_map, HLN.out]; exact hle
      have hlm2 : (l.map mb).length ≤ 900 := by rw [List.length_map, HLN.out]; exact hle
      generalize w4.drew = wD at *
      clear HP4 HZ4 HB4 HQ4 HO4 h2 h3
      refine letz_two (i := 3) (j := 7) (by kernel_rfl) rfl rfl (fun K hK => ?_) (fun K hK => ?_)
      · skip
        go_simp
        have ha : Below wD.heap.size wD (wD.alloc (.cells #[.int .i64 x] 3)) := (Below.refl _ _).alloc (Nat.le_refl _) _
        have hc3 : (wD.alloc (.cells #[.int .i64 x] 3)).heap[wD.heap.size]? = some (.cells #[.int .i64 x] 3) := heap_alloc_new _ _
        have HZ11 : Hid ((wD.alloc (.cells #[.int .i64 x] 3)).heap[w.heap.size + 1]? = some (.cells #[.int .u64 0, .int .i64 0, .slice none 0 0, .slice none 0 0, .int .i64 0] 29)) := heap_kept HZD.out ha
        have HQ11 : Hid ((wD.alloc (.cells #[.int .i64 x] 3)).heap[q]? = some (.cells (carr e0 sh (.slice va' vn vc) (.slice vb' vm vd) le) 29)) := heap_kept HQD.out ha
        have HB11 : Hid (Below w.heap.size w (wD.alloc (.cells #[.int .i64 x] 3))) := HBD.out.trans (ha.mono HBD.out.size)
        have HI11 := OwnV.later HID.out ha
        have HF11 := OwnV.later HFD.out ha
        replace HI11 : Hid (OwnV (wD.alloc (.cells #[.int .i64 x] 3)) w.heap.size 3 (.slice va' vn vc) (l.map mi)) := HI11
        replace HF11 : Hid (OwnV (wD.alloc (.cells #[.int .i64 x] 3)) w.heap.size 4 (.slice vb' vm vd) (l.map mb)) := HF11
        refine hK.out _ _ ?_ (fun hHeld => ?_)
        · exact fun _ => ⟨cell_of_heap HQ11.out rfl, cell_of_heap HQ11.out rfl⟩
        replace hHeld := hHeld (by kernel_rfl)
        clear hK K
        try simp only [Act.put, List.setIfInBounds_toArray, List.set_cons_zero, List.set_cons_succ]
        generalize hgs11 : wD.heap.size = pg3 at *
        generalize (wD.alloc (.cells #[.int .i64 x] 3)) = w11 at *
        clear ha hgs11 HZD HQD HBD HID HFD
        refine letz_two (i := 4) (j := 7) (by kernel_rfl) rfl rfl (fun K hK => ?_) (fun K hK => ?_)
        · skip
          refine step_append_fr 26 3 _ 8 Try.underlying26 Try.info_3 rfl (by decide) rfl _ _ rfl w.heap.size _ _ rfl HI11.out ⟨pg3, 0, none⟩ 1 (.int .i64 x) rfl (cell_of_heap hc3 rfl) rfl (by omega) HB11.out.size ?_
          intro vv w12 ho hf
          obtain ⟨ai12, ni12, ci12, rfl⟩ := owns_slice ho
          have HZ12 : Hid (w12.heap[w.heap.size + 1]? = some (.cells #[.int .u64 0, .int .i64 0, .slice none 0 0, .slice none 0 0, .int .i64 0] 29)) := hf.cells HZ11.out (by decide)
          have HQ12 : Hid (w12.heap[q]? = some (.cells (carr e0 sh (.slice va' vn vc) (.slice vb' vm vd) le) 29)) := hf.cells HQ11.out (by decide)
          have HB12 : Hid (Below w.heap.size w w12) := HB11.out.trans (hf.below HB11.out.size)
          have HI12 : Hid (OwnV w12 w.heap.size 3 (.slice ai12 ni12 ci12) (l.map mi ++ [.int .i64 x])) := ho
          have HF12 : Hid (OwnV w12 w.heap.size 4 (.slice vb' vm vd) (l.map mb)) := hf.ownV HF11.out (by decide)
          refine hK.out _ _ ?_ (fun hHeld => ?_)
          · exact fun _ => ⟨cell_of_heap HQ12.out rfl, cell_of_heap HQ12.out rfl⟩
          replace hHeld := hHeld (by kernel_rfl)
          clear hK K
          try simp only [Act.put, List.setIfInBounds_toArray, List.set_cons_zero, List.set_cons_succ]
          clear ho hf hc3 HZ11 HQ11 HB11 HI11 HF11
          refine letz_take (i := 9) (d := 34) (v := ?_) rfl rfl (by kernel_rfl) (by kernel_rfl) (by kernel_rfl) (by kernel_rfl) (fun _ _ _ h => h) (Or.inl ⟨by rfl, ?_⟩) hHeld ?_
          rotate_left
          · (intro w hSw; (try dsimp only at hSw); go_simp; all_goals (with_reducible rfl))
          try simp only [Act.put, List.setIfInBounds_toArray, List.set_cons_zero, List.set_cons_succ]
          refine letz_one (i := 7) (by kernel_rfl) rfl (fun K hK => ?_)
          go_simp
          have ha : Below w12.heap.size w12 (w12.alloc (.cells #[.bool false] 4)) := (Below.refl _ _).alloc (Nat.le_refl _) _
          have hc7 : (w12.alloc (.cells #[.bool false] 4)).heap[w12.heap.size]? = some (.cells #[.bool false] 4) := heap_alloc_new _ _
          have HZ13 : Hid ((w12.alloc (.cells #[.bool false] 4)).heap[w.heap.size + 1]? = some (.cells #[.int .u64 0, .int .i64 0, .slice none 0 0, .slice none 0 0, .int .i64 0] 29)) := heap_kept HZ12.out ha
          have HQ13 : Hid ((w12.alloc (.cells #[.bool false] 4)).heap[q]? = some (.cells (carr e0 sh (.slice va' vn vc) (.slice vb' vm vd) le) 29)) := heap_kept HQ12.out ha
          have HB13 : Hid (Below w.heap.size w (w12.alloc (.cells #[.bool false] 4))) := HB12.out.trans (ha.mono HB12.out.size)
          have HI13 := OwnV.later HI12.out ha
          have HF13 := OwnV.later HF12.out ha
          replace HI13 : Hid (OwnV (w12.alloc (.cells #[.bool false] 4)) w.heap.size 3 (.slice ai12 ni12 ci12) (l.map mi ++ [.int .i64 x])) := HI13
          replace HF13 : Hid (OwnV (w12.alloc (.cells #[.bool false] 4)) w.heap.size 4 (.slice vb' vm vd) (l.map mb)) := HF13
          refine hK.out _ _ ?_ (fun hHeld => ?_)
          · exact fun _ => ⟨cell_of_heap HQ13.out rfl, cell_of_heap HQ13.out rfl⟩
          replace hHeld := hHeld (by kernel_rfl)
          clear hK K
          try simp only [Act.put, List.setIfInBounds_toArray, List.set_cons_zero, List.set_cons_succ]
          generalize hgs13 : w12.heap.size = pg7 at *
          generalize (w12.alloc (.cells #[.bool false] 4)) = w13 at *
          clear ha hgs13 HZ12 HQ12 HB12 HI12 HF12
          refine letz_one (i := 8) (by kernel_rfl) rfl (fun K hK => ?_)
          refine step_append_fr 27 4 _ 1 Try.underlying27 Try.info_4 rfl (by decide) rfl _ _ rfl w.heap.size _ _ rfl HF13.out ⟨pg7, 0, none⟩ 1 (.bool false) rfl (cell_of_heap hc7 rfl) rfl (by omega) HB13.out.size ?_
          intro vv w14 ho hf
          obtain ⟨ab14, nb14, cb14, rfl⟩ := owns_slice ho
          have HZ14 : Hid (w14.heap[w.heap.size + 1]? = some (.cells #[.int .u64 0, .int .i64 0, .slice none 0 0, .slice none 0 0, .int .i64 0] 29)) := hf.cells HZ13.out (by decide)
          have HQ14 : Hid (w14.heap[q]? = some (.cells (carr e0 sh (.slice va' vn vc) (.slice vb' vm vd) le) 29)) := hf.cells HQ13.out (by decide)
          have HB14 : Hid (Below w.heap.size w w14) := HB13.out.trans (hf.below HB13.out.size)
          have HF14 : Hid (OwnV w14 w.heap.size 4 (.slice ab14 nb14 cb14) (l.map mb ++ [.bool false])) := ho
          have HI14 : Hid (OwnV w14 w.heap.size 3 (.slice ai12 ni12 ci12) (l.map mi ++ [.int .i64 x])) := hf.ownV HI13.out (by decide)
          refine hK.out _ _ ?_ (fun hHeld => ?_)
          · exact fun _ => ⟨cell_of_heap HQ14.out rfl, cell_of_heap HQ14.out rfl⟩
          replace hHeld := hHeld (by kernel_rfl)
          clear hK K
          try simp only [Act.put, List.setIfInBounds_toArray, List.set_cons_zero, List.set_cons_succ]
          clear ho hf hc7 HZ13 HQ13 HB13 HI13 HF13
          have e2 : w14.cell? ⟨q, 2, none⟩ = some (.slice va' vn vc) := cell_of_heap HQ14.out rfl
          have f2 : w14.frozen? ⟨q, 2, none⟩ = false := frozen_of_row _ _ _ _ _ HQ14.out
          have hs1 : (w14.setCell ⟨q, 2, none⟩ (.slice ai12 ni12 ci12)).heap[q]? = some (.cells (carr e0 sh (.slice ai12 ni12 ci12) (.slice vb' vm vd) le) 29) := heap_setCell_same _ _ _ _ _ _ HQ14.out
          have e3 : (w14.setCell ⟨q, 2, none⟩ (.slice ai12 ni12 ci12)).cell? ⟨q, 3, none⟩ = some (.slice vb' vm vd) := cell_of_heap hs1 rfl
          have f3 : (w14.setCell ⟨q, 2, none⟩ (.slice ai12 ni12 ci12)).frozen? ⟨q, 3, none⟩ = false := frozen_of_row _ _ _ _ _ hs1
          have hs2 : ((w14.setCell ⟨q, 2, none⟩ (.slice ai12 ni12 ci12)).setCell ⟨q, 3, none⟩ (.slice ab14 nb14 cb14)).heap[q]? = some (.cells (carr e0 sh (.slice ai12 ni12 ci12) (.slice ab14 nb14 cb14) le) 29) := heap_setCell_same _ _ _ _ _ _ hs1
          have e4 : ((w14.setCell ⟨q, 2, none⟩ (.slice ai12 ni12 ci12)).setCell ⟨q, 3, none⟩ (.slice ab14 nb14 cb14)).cell? ⟨q, 4, none⟩ = some (.int .i64 le) := cell_of_heap hs2 rfl
          have f4 : ((w14.setCell ⟨q, 2, none⟩ (.slice ai12 ni12 ci12)).setCell ⟨q, 3, none⟩ (.slice ab14 nb14 cb14)).frozen? ⟨q, 4, none⟩ = false := frozen_of_row _ _ _ _ _ hs2
          have HQ9 : Hid ((((w14.setCell ⟨q, 2, none⟩ (.slice ai12 ni12 ci12)).setCell ⟨q, 3, none⟩ (.slice ab14 nb14 cb14)).setCell ⟨q, 4, none⟩ (.int .i64 (-1))).heap[q]? = some (.cells (carr e0 sh (.slice ai12 ni12 ci12) (.slice ab14 nb14 cb14) (-1)) 29)) := heap_setCell_same _ _ _ _ _ _ hs2
          have HZ9 : Hid ((((w14.setCell ⟨q, 2, none⟩ (.slice ai12 ni12 ci12)).setCell ⟨q, 3, none⟩ (.slice ab14 nb14 cb14)).setCell ⟨q, 4, none⟩ (.int .i64 (-1))).heap[w.heap.size + 1]? = some (.cells #[.int .u64 0, .int .i64 0, .slice none 0 0, .slice none 0 0, .int .i64 0] 29)) := by rw [Hid, heap_ne (by have := HPQ.out; omega), heap_ne (by have := HPQ.out; omega), heap_ne (by have := HPQ.out; omega)]; exact HZ14.out
          have HB9 : Hid (Below w.heap.size w (((w14.setCell ⟨q, 2, none⟩ (.slice ai12 ni12 ci12)).setCell ⟨q, 3, none⟩ (.slice ab14 nb14 cb14)).setCell ⟨q, 4, none⟩ (.int .i64 (-1)))) := ((HB14.out.setCell (p := ⟨q, 2, none⟩) (by have := HPQ.out; simp; omega) _).setCell (p := ⟨q, 3, none⟩) (by have := HPQ.out; simp; omega) _).setCell (p := ⟨q, 4, none⟩) (by have := HPQ.out; simp; omega) _
          have HO9 : Hid (OwnV (((w14.setCell ⟨q, 2, none⟩ (.slice ai12 ni12 ci12)).setCell ⟨q, 3, none⟩ (.slice ab14 nb14 cb14)).setCell ⟨q, 4, none⟩ (.int .i64 (-1))) w.heap.size 3 (.slice ai12 ni12 ci12) ((l ++ [(x, false)]).map mi) ∧ OwnV (((w14.setCell ⟨q, 2, none⟩ (.slice ai12 ni12 ci12)).setCell ⟨q, 3, none⟩ (.slice ab14 nb14 cb14)).setCell ⟨q, 4, none⟩ (.int .i64 (-1))) w.heap.size 4 (.slice ab14 nb14 cb14) ((l ++ [(x, false)]).map mb)) := by
            rw [List.map_append, List.map_append]
            have hk3 : ∀ k, tagOf w14 k = some 3 → (((w14.setCell ⟨q, 2, none⟩ (.slice ai12 ni12 ci12)).setCell ⟨q, 3, none⟩ (.slice ab14 nb14 cb14)).setCell ⟨q, 4, none⟩ (.int .i64 (-1))).heap[k]? = w14.heap[k]? := fun k ht => by have hne := tag_ne HQ14.out (by decide) ht; rw [heap_ne hne, heap_ne hne, heap_ne hne]
            have hk4 : ∀ k, tagOf w14 k = some 4 → (((w14.setCell ⟨q, 2, none⟩ (.slice ai12 ni12 ci12)).setCell ⟨q, 3, none⟩ (.slice ab14 nb14 cb14)).setCell ⟨q, 4, none⟩ (.int .i64 (-1))).heap[k]? = w14.heap[k]? := fun k ht => by have hne := tag_ne HQ14.out (by decide) ht; rw [heap_ne hne, heap_ne hne, heap_ne hne]
            exact ⟨own_same HI14.out (fun k _ ht => hk3 k ht), own_same HF14.out (fun k _ ht => hk4 k ht)⟩
          clear hs1 hs2 HQ14 HZ14 HB14 HI14 HF14
          refine letz_one (i := 10) (by kernel_rfl) rfl (fun K hK => ?_)
          go_simp
          refine hK.out _ _ ?_ (fun hHeld => ?_)
          · exact fun h => absurd h (by decide)
          clear hHeld
          clear hK K
          try simp only [Act.put, List.setIfInBounds_toArray, List.set_cons_zero, List.set_cons_succ]
          refine letz_one (i := 11) (by kernel_rfl) rfl (fun K hK => ?_)
          go_simp
          refine hK.out _ _ ?_ (fun hHeld => ?_)
          · exact fun h => absurd h (by decide)
          clear hHeld
          clear hK K
          try simp only [Act.put, List.setIfInBounds_toArray, List.set_cons_zero, List.set_cons_succ]
          refine letz_one (i := 12) (by kernel_rfl) rfl (fun K hK => ?_)
          go_simp
          refine hK.out _ _ ?_ (fun hHeld => ?_)
          · exact fun h => absurd h (by decide)
          clear hHeld
          clear hK K
          try simp only [Act.put, List.setIfInBounds_toArray, List.set_cons_zero, List.set_cons_succ]
          refine letz_done (by kernel_rfl) ?_ _
          refine NoPanic.normal ?_
          go_upto_region 8 with fail
          clear e2 f2 e3 f3 e4 f4
          generalize (((w14.setCell ⟨q, 2, none⟩ (.slice ai12 ni12 ci12)).setCell ⟨q, 3, none⟩ (.slice ab14 nb14 cb14)).setCell ⟨q, 4, none⟩ (.int .i64 (-1))) = w9 at *
          obtain ⟨z0, z1, z2, z3, z4⟩ := five_cells HZ9.out
          obtain ⟨g0, g1, g2, g3, g4⟩ := five_frozen HZ9.out
          obtain ⟨n0, n1, n2, n3, n4⟩ := five_cells HQ9.out
          have HF : Hid ((put5 w9 (w.heap.size + 1) (.int .u64 (e0 : Nat)) (.int .i64 sh) (.slice ai12 ni12 ci12) (.slice ab14 nb14 cb14) (.int .i64 (-1))).heap[w.heap.size + 1]? = some (.cells (carr e0 sh (.slice ai12 ni12 ci12) (.slice ab14 nb14 cb14) (-1)) 29)) := five_put HZ9.out
          have HBF : Hid (Below w.heap.size w (put5 w9 (w.heap.size + 1) (.int .u64 (e0 : Nat)) (.int .i64 sh) (.slice ai12 ni12 ci12) (.slice ab14 nb14 cb14) (.int .i64 (-1)))) := below_put5 HB9.out (by omega) _ _ _ _ _
          have HOF : Hid (OwnV (put5 w9 (w.heap.size + 1) (.int .u64 (e0 : Nat)) (.int .i64 sh) (.slice ai12 ni12 ci12) (.slice ab14 nb14 cb14) (.int .i64 (-1))) w.heap.size 3 (.slice ai12 ni12 ci12) ((l ++ [(x, false)]).map mi) ∧ OwnV (put5 w9 (w.heap.size + 1) (.int .u64 (e0 : Nat)) (.int .i64 sh) (.slice ai12 ni12 ci12) (.slice ab14 nb14 cb14) (.int .i64 (-1))) w.heap.size 4 (.slice ab14 nb14 cb14) ((l ++ [(x, false)]).map mb)) := ⟨own_same HO9.out.1 (fun k hk ht => put5_other _ _ _ _ _ (tag_ne HZ9.out (by decide) ht)), own_same HO9.out.2 (fun k hk ht => put5_other _ _ _ _ _ (tag_ne HZ9.out (by decide) ht))⟩
          unfold put5 at HF HBF HOF
          go_wp2
          generalize (((((w9.setCell ⟨w.heap.size + 1, 0, none⟩ (.int .u64 (e0 : Nat))).setCell ⟨w.heap.size + 1, 1, none⟩ (.int .i64 sh)).setCell ⟨w.heap.size + 1, 2, none⟩ (.slice ai12 ni12 ci12)).setCell ⟨w.heap.size + 1, 3, none⟩ (.slice ab14 nb14 cb14)).setCell ⟨w.heap.size + 1, 4, none⟩ (.int .i64 (-1))) = wf at *
          clear z0 z1 z2 z3 z4 g0 g1 g2 g3 g4 n0 n1 n2 n3 n4
          obtain ⟨z0, z1, z2, z3, z4⟩ := five_cells HF.out
          refine bodyPost_ret (v := .tuple #[.agg (carr e0 sh (.slice ai12 ni12 ci12) (.slice ab14 nb14 cb14) (-1)), .int .i64 0]) (by simp [results, Try.results39, go_sem, z0, z1, z2, z3, z4]) rfl ?_
          exact ⟨⟨_, by rw [HR.out], by rw [HR.out]; exact ⟨_, _, rfl, HOF.out.1, HOF.out.2, by show (l ++ [(x, false)]).length ≤ 1000; rw [List.length_append, HLN.out]; simp; omega⟩⟩, HBF.out⟩
        · skip
          go_simp
          have ha : Below w11.heap.size w11 (w11.alloc (.cells #[.bool false] 4)) := (Below.refl _ _).alloc (Nat.le_refl _) _
          have hc7 : (w11.alloc (.cells #[.bool false] 4)).heap[w11.heap.size]? = some (.cells #[.bool false] 4) := heap_alloc_new _ _
          have HZ12 : Hid ((w11.alloc (.cells #[.bool false] 4)).heap[w.heap.size + 1]? = some (.cells #[.int .u64 0, .int .i64 0, .slice none 0 0, .slice none 0 0, .int .i64 0] 29)) := heap_kept HZ11.out ha
          have HQ12 : Hid ((w11.alloc (.cells #[.bool false] 4)).heap[q]? = some (.cells (carr e0 sh (.slice va' vn vc) (.slice vb' vm vd) le) 29)) := heap_kept HQ11.out ha
          have HB12 : Hid (Below w.heap.size w (w11.alloc (.cells #[.bool false] 4))) := HB11.out.trans (ha.mono HB11.out.size)
          have HI12 := OwnV.later HI11.out ha
          have HF12 := OwnV.later HF11.out ha
          replace HI12 : Hid (OwnV (w11.alloc (.cells #[.bool false] 4)) w.heap.size 3 (.slice va' vn vc) (l.map mi)) := HI12
          replace HF12 : Hid (OwnV (w11.alloc (.cells #[.bool false] 4)) w.heap.size 4 (.slice vb' vm vd) (l.map mb)) := HF12
          have hc3' := heap_kept hc3 ha
          refine hK.out _ _ ?_ (fun hHeld => ?_)
          · exact fun _ => ⟨cell_of_heap HQ12.out rfl, cell_of_heap HQ12.out rfl⟩
          replace hHeld := hHeld (by kernel_rfl)
          clear hK K
          try simp only [Act.put, List.setIfInBounds_toArray, List.set_cons_zero, List.set_cons_succ]
          generalize hgs12 : w11.heap.size = pg7 at *
          generalize (w11.alloc (.cells #[.bool false] 4)) = w12 at *
          clear ha hgs12 HZ11 HQ11 HB11 HI11 HF11
          clear hc3
          have hc3 := hc3'
          clear hc3'
          refine letz_one (i := 4) (by kernel_rfl) rfl (fun K hK => ?_)
          refine step_append_fr 26 3 _ 8 Try.underlying26 Try.info_3 rfl (by decide) rfl _ _ rfl w.heap.size _ _ rfl HI12.out ⟨pg3, 0, none⟩ 1 (.int .i64 x) rfl (cell_of_heap hc3 rfl) rfl (by omega) HB12.out.size ?_
          intro vv w13 ho hf
          obtain ⟨ai13, ni13, ci13, rfl⟩ := owns_slice ho
          have HZ13 : Hid (w13.heap[w.heap.size + 1]? = some (.cells #[.int .u64 0, .int .i64 0, .slice none 0 0, .slice none 0 0, .int .i64 0] 29)) := hf.cells HZ12.out (by decide)
          have HQ13 : Hid (w13.heap[q]? = some (.cells (carr e0 sh (.slice va' vn vc) (.slice vb' vm vd) le) 29)) := hf.cells HQ12.out (by decide)
          have HB13 : Hid (Below w.heap.size w w13) := HB12.out.trans (hf.below HB12.out.size)
          have HI13 : Hid (OwnV w13 w.heap.size 3 (.slice ai13 ni13 ci13) (l.map mi ++ [.int .i64 x])) := ho
          have HF13 : Hid (OwnV w13 w.heap.size 4 (.slice vb' vm vd) (l.map mb)) := hf.ownV HF12.out (by decide)
          have hc7' := hf.cells hc7 (by decide)
          refine hK.out _ _ ?_ (fun hHeld => ?_)
          · exact fun _ => ⟨cell_of_heap HQ13.out rfl, cell_of_heap HQ13.out rfl⟩
          replace hHeld := hHeld (by kernel_rfl)
          clear hK K
          try simp only [Act.put, List.setIfInBounds_toArray, List.set_cons_zero, List.set_cons_succ]
          clear ho hf hc3 HZ12 HQ12 HB12 HI12 HF12
          clear hc7
          have hc7 := hc7'
          clear hc7'
          refine letz_take (i := 9) (d := 34) (v := ?_) rfl rfl (by kernel_rfl) (by kernel_rfl) (by kernel_rfl) (by kernel_rfl) (fun _ _ _ h => h) (Or.inl ⟨by rfl, ?_⟩) hHeld ?_
          rotate_left
          · (intro w hSw; (try dsimp only at hSw); go_simp; all_goals (with_reducible rfl))
          try simp only [Act.put, List.setIfInBounds_toArray, List.set_cons_zero, List.set_cons_succ]
          refine letz_one (i := 8) (by kernel_rfl) rfl (fun K hK => ?_)
          refine step_append_fr 27 4 _ 1 Try.underlying27 Try.info_4 rfl (by decide) rfl _ _ rfl w.heap.size _ _ rfl HF13.out ⟨pg7, 0, none⟩ 1 (.bool false) rfl (cell_of_heap hc7 rfl) rfl (by omega) HB13.out.size ?_
          intro vv w14 ho hf
          obtain ⟨ab14, nb14, cb14, rfl⟩ := owns_slice ho
          have HZ14 : Hid (w14.heap[w.heap.size + 1]? = some (.cells #[.int .u64 0, .int .i64 0, .slice none 0 0, .slice none 0 0, .int .i64 0] 29)) := hf.cells HZ13.out (by decide)
          have HQ14 : Hid (w14.heap[q]? = some (.cells (carr e0 sh (.slice va' vn vc) (.slice vb' vm vd) le) 29)) := hf.cells HQ13.out (by decide)
          have HB14 : Hid (Below w.heap.size w w14) := HB13.out.trans (hf.below HB13.out.size)
          have HF14 : Hid (OwnV w14 w.heap.size 4 (.slice ab14 nb14 cb14) (l.map mb ++ [.bool false])) := ho
          have HI14 : Hid (OwnV w14 w.heap.size 3 (.slice ai13 ni13 ci13) (l.map mi ++ [.int .i64 x])) := hf.ownV HI13.out (by decide)
          refine hK.out _ _ ?_ (fun hHeld => ?_)
          · exact fun _ => ⟨cell_of_heap HQ14.out rfl, cell_of_heap HQ14.out rfl⟩
          replace hHeld := hHeld (by kernel_rfl)
          clear hK K
          try simp only [Act.put, List.setIfInBounds_toArray, List.set_cons_zero, List.set_cons_succ]
          clear ho hf hc7 HZ13 HQ13 HB13 HI13 HF13
          have e2 : w14.cell? ⟨q, 2, none⟩ = some (.slice va' vn vc) := cell_of_heap HQ14.out rfl
          have f2 : w14.frozen? ⟨q, 2, none⟩ = false := frozen_of_row _ _ _ _ _ HQ14.out
          have hs1 : (w14.setCell ⟨q, 2, none⟩ (.slice ai13 ni13 ci13)).heap[q]? = some (.cells (carr e0 sh (.slice ai13 ni13 ci13) (.slice vb' vm vd) le) 29) := heap_setCell_same _ _ _ _ _ _ HQ14.out
          have e3 : (w14.setCell ⟨q, 2, none⟩ (.slice ai13 ni13 ci13)).cell? ⟨q, 3, none⟩ = some (.slice vb' vm vd) := cell_of_heap hs1 rfl
          have f3 : (w14.setCell ⟨q, 2, none⟩ (.slice ai13 ni13 ci13)).frozen? ⟨q, 3, none⟩ = false := frozen_of_row _ _ _ _ _ hs1
          have hs2 : ((w14.setCell ⟨q, 2, none⟩ (.slice ai13 ni13 ci13)).setCell ⟨q, 3, none⟩ (.slice ab14 nb14 cb14)).heap[q]? = some (.cells (carr e0 sh (.slice ai13 ni13 ci13) (.slice ab14 nb14 cb14) le) 29) := heap_setCell_same _ _ _ _ _ _ hs1
          have e4 : ((w14.setCell ⟨q, 2, none⟩ (.slice ai13 ni13 ci13)).setCell ⟨q, 3, none⟩ (.slice ab14 nb14 cb14)).cell? ⟨q, 4, none⟩ = some (.int .i64 le) := cell_of_heap hs2 rfl
          have f4 : ((w14.setCell ⟨q, 2, none⟩ (.slice ai13 ni13 ci13)).setCell ⟨q, 3, none⟩ (.slice ab14 nb14 cb14)).frozen? ⟨q, 4, none⟩ = false := frozen_of_row _ _ _ _ _ hs2
          have HQ9 : Hid ((((w14.setCell ⟨q, 2, none⟩ (.slice ai13 ni13 ci13)).setCell ⟨q, 3, none⟩ (.slice ab14 nb14 cb14)).setCell ⟨q, 4, none⟩ (.int .i64 (-1))).heap[q]? = some (.cells (carr e0 sh (.slice ai13 ni13 ci13) (.slice ab14 nb14 cb14) (-1)) 29)) := heap_setCell_same _ _ _ _ _ _ hs2
          have HZ9 : Hid ((((w14.setCell ⟨q, 2, none⟩ (.slice ai13 ni13 ci13)).setCell ⟨q, 3, none⟩ (.slice ab14 nb14 cb14)).setCell ⟨q, 4, none⟩ (.int .i64 (-1))).heap[w.heap.size + 1]? = some (.cells #[.int .u64 0, .int .i64 0, .slice none 0 0, .slice none 0 0, .int .i64 0] 29)) := by rw [Hid, heap_ne (by have := HPQ.out; omega), heap_ne (by have := HPQ.out; omega), heap_ne (by have := HPQ.out; omega)]; exact HZ14.out
          have HB9 : Hid (Below w.heap.size w (((w14.setCell ⟨q, 2, none⟩ (.slice ai13 ni13 ci13)).setCell ⟨q, 3, none⟩ (.slice ab14 nb14 cb14)).setCell ⟨q, 4, none⟩ (.int .i64 (-1)))) := ((HB14.out.setCell (p := ⟨q, 2, none⟩) (by have := HPQ.out; simp; omega) _).setCell (p := ⟨q, 3, none⟩) (by have := HPQ.out; simp; omega) _).setCell (p := ⟨q, 4, none⟩) (by have := HPQ.out; simp; omega) _
          have HO9 : Hid (OwnV (((w14.setCell ⟨q, 2, none⟩ (.slice ai13 ni13 ci13)).setCell ⟨q, 3, none⟩ (.slice ab14 nb14 cb14)).setCell ⟨q, 4, none⟩ (.int .i64 (-1))) w.heap.size 3 (.slice ai13 ni13 ci13) ((l ++ [(x, false)]).map mi) ∧ OwnV (((w14.setCell ⟨q, 2, none⟩ (.slice ai13 ni13 ci13)).setCell ⟨q, 3, none⟩ (.slice ab14 nb14 cb14)).setCell ⟨q, 4, none⟩ (.int .i64 (-1))) w.heap.size 4 (.slice ab14 nb14 cb14) ((l ++ [(x, false)]).map mb)) := by
            rw [List.map_append, List.map_append]
            have hk3 : ∀ k, tagOf w14 k = some 3 → (((w14.setCell ⟨q, 2, none⟩ (.slice ai13 ni13 ci13)).setCell ⟨q, 3, none⟩ (.slice ab14 nb14 cb14)).setCell ⟨q, 4, none⟩ (.int .i64 (-1))).heap[k]? = w14.heap[k]? := fun k ht => by have hne := tag_ne HQ14.out (by decide) ht; rw [heap_ne hne, heap_ne hne, heap_ne hne]
            have hk4 : ∀ k, tagOf w14 k = some 4 → (((w14.setCell ⟨q, 2, none⟩ (.slice ai13 ni13 ci13)).setCell ⟨q, 3, none⟩ (.slice ab14 nb14 cb14)).setCell ⟨q, 4, none⟩ (.int .i64 (-1))).heap[k]? = w14.heap[k]? := fun k ht => by have hne := tag_ne HQ14.out (by decide) ht; rw [heap_ne hne, heap_ne hne, heap_ne hne]
            exact ⟨own_same HI14.out (fun k _ ht => hk3 k ht), own_same HF14.out (fun k _ ht => hk4 k ht)⟩
          clear hs1 hs2 HQ14 HZ14 HB14 HI14 HF14
          refine letz_one (i := 10) (by kernel_rfl) rfl (fun K hK => ?_)
          go_simp
          refine hK.out _ _ ?_ (fun hHeld => ?_)
          · exact fun h => absurd h (by decide)
          clear hHeld
          clear hK K
          try simp only [Act.put, List.setIfInBounds_toArray, List.set_cons_zero, List.set_cons_succ]
          refine letz_one (i := 11) (by kernel_rfl) rfl (fun K hK => ?_)
          go_simp
          refine hK.out _ _ ?_ (fun hHeld => ?_)
          · exact fun h => absurd h (by decide)
          clear hHeld
          clear hK K
          try simp only [Act.put, List.setIfInBounds_toArray, List.set_cons_zero, List.set_cons_succ]
          refine letz_one (i := 12) (by kernel_rfl) rfl (fun K hK => ?_)
          go_simp
          refine hK.out _ _ ?_ (fun hHeld => ?_)
          · exact fun h => absurd h (by decide)
          clear hHeld
          clear hK K
          try simp only [Act.put, List.setIfInBounds_toArray, List.set_cons_zero, List.set_cons_succ]
          refine letz_done (by kernel_rfl) ?_ _
          refine NoPanic.normal ?_
          go_upto_region 8 with fail
          clear e2 f2 e3 f3 e4 f4
          generalize (((w14.setCell ⟨q, 2, none⟩ (.slice ai13 ni13 ci13)).setCell ⟨q, 3, none⟩ (.slice ab14 nb14 cb14)).setCell ⟨q, 4, none⟩ (.int .i64 (-1))) = w9 at *
          obtain ⟨z0, z1, z2, z3, z4⟩ := five_cells HZ9.out
          obtain ⟨g0, g1, g2, g3, g4⟩ := five_frozen HZ9.out
          obtain ⟨n0, n1, n2, n3, n4⟩ := five_cells HQ9.out
          have HF : Hid ((put5 w9 (w.heap.size + 1) (.int .u64 (e0 : Nat)) (.int .i64 sh) (.slice ai13 ni13 ci13) (.slice ab14 nb14 cb14) (.int .i64 (-1))).heap[w.heap.size + 1]? = some (.cells (carr e0 sh (.slice ai13 ni13 ci13) (.slice ab14 nb14 cb14) (-1)) 29)) := five_put HZ9.out
          have HBF : Hid (Below w.heap.size w (put5 w9 (w.heap.size + 1) (.int .u64 (e0 : Nat)) (.int .i64 sh) (.slice ai13 ni13 ci13) (.slice ab14 nb14 cb14) (.int .i64 (-1)))) := below_put5 HB9.out (by omega) _ _ _ _ _
          have HOF : Hid (OwnV (put5 w9 (w.heap.size + 1) (.int .u64 (e0 : Nat)) (.int .i64 sh) (.slice ai13 ni13 ci13) (.slice ab14 nb14 cb14) (.int .i64 (-1))) w.heap.size 3 (.slice ai13 ni13 ci13) ((l ++ [(x, false)]).map mi) ∧ OwnV (put5 w9 (w.heap.size + 1) (.int .u64 (e0 : Nat)) (.int .i64 sh) (.slice ai13 ni13 ci13) (.slice ab14 nb14 cb14) (.int .i64 (-1))) w.heap.size 4 (.slice ab14 nb14 cb14) ((l ++ [(x, false)]).map mb)) := ⟨own_same HO9.out.1 (fun k hk ht => put5_other _ _ _ _ _ (tag_ne HZ9.out (by decide) ht)), own_same HO9.out.2 (fun k hk ht => put5_other _ _ _ _ _ (tag_ne HZ9.out (by decide) ht))⟩
          unfold put5 at HF HBF HOF
          go_wp2
          generalize (((((w9.setCell ⟨w.heap.size + 1, 0, none⟩ (.int .u64 (e0 : Nat))).setCell ⟨w.heap.size + 1, 1, none⟩ (.int .i64 sh)).setCell ⟨w.heap.size + 1, 2, none⟩ (.slice ai13 ni13 ci13)).setCell ⟨w.heap.size + 1, 3, none⟩ (.slice ab14 nb14 cb14)).setCell ⟨w.heap.size + 1, 4, none⟩ (.int .i64 (-1))) = wf at *
          clear z0 z1 z2 z3 z4 g0 g1 g2 g3 g4 n0 n1 n2 n3 n4
          obtain ⟨z0, z1, z2, z3, z4⟩ := five_cells HF.out
          refine bodyPost_ret (v := .tuple #[.agg (carr e0 sh (.slice ai13 ni13 ci13) (.slice ab14 nb14 cb14) (-1)), .int .i64 0]) (by simp [results, Try.results39, go_sem, z0, z1, z2, z3, z4]) rfl ?_
          exact ⟨⟨_, by rw [HR.out], by rw [HR.out]; exact ⟨_, _, rfl, HOF.out.1, HOF.out.2, by show (l ++ [(x, false)]).length ≤ 1000; rw [List.length_append, HLN.out]; simp; omega⟩⟩, HBF.out⟩
      · skip
        go_simp
        have ha : Below wD.heap.size wD (wD.alloc (.cells #[.bool false] 4)) := (Below.refl _ _).alloc (Nat.le_refl _) _
        have hc7 : (wD.alloc (.cells #[.bool false] 4)).heap[wD.heap.size]? = some (.cells #[.bool false] 4) := heap_alloc_new _ _
        have HZ11 : Hid ((wD.alloc (.cells #[.bool false] 4)).heap[w.heap.size + 1]? = some (.cells #[.int .u64 0, .int .i64 0, .slice none 0 0, .slice none 0 0, .int .i64 0] 29)) := heap_kept HZD.out ha
        have HQ11 : Hid ((wD.alloc (.cells #[.bool false] 4)).heap[q]? = some (.cells (carr e0 sh (.slice va' vn vc) (.slice vb' vm vd) le) 29)) := heap_kept HQD.out ha
        have HB11 : Hid (Below w.heap.size w (wD.alloc (.cells #[.bool false] 4))) := HBD.out.trans (ha.mono HBD.out.size)
        have HI11 := OwnV.later HID.out ha
        have HF11 := OwnV.later HFD.out ha
        replace HI11 : Hid (OwnV (wD.alloc (.cells #[.bool false] 4)) w.heap.size 3 (.slice va' vn vc) (l.map mi)) := HI11
        replace HF11 : Hid (OwnV (wD.alloc (.cells #[.bool false] 4)) w.heap.size 4 (.slice vb' vm vd) (l.map mb)) := HF11
        refine hK.out _ _ ?_ (fun hHeld => ?_)
        · exact fun _ => ⟨cell_of_heap HQ11.out rfl, cell_of_heap HQ11.out rfl⟩
        replace hHeld := hHeld (by kernel_rfl)
        clear hK K
        try simp only [Act.put, List.setIfInBounds_toArray, List.set_cons_zero, List.set_cons_succ]
        generalize hgs11 : wD.heap.size = pg7 at *
        generalize (wD.alloc (.cells #[.bool false] 4)) = w11 at *
        clear ha hgs11 HZD HQD HBD HID HFD
        refine letz_one (i := 3) (by kernel_rfl) rfl (fun K hK => ?_)
        go_simp
        have ha : Below w11.heap.size w11 (w11.alloc (.cells #[.int .i64 x] 3)) := (Below.refl _ _).alloc (Nat.le_refl _) _
        have hc3 : (w11.alloc (.cells #[.int .i64 x] 3)).heap[w11.heap.size]? = some (.cells #[.int .i64 x] 3) := heap_alloc_new _ _
        have HZ12 : Hid ((w11.alloc (.cells #[.int .i64 x] 3)).heap[w.heap.size + 1]? = some (.cells #[.int .u64 0, .int .i64 0, .slice none 0 0, .slice none 0 0, .int .i64 0] 29)) := heap_kept HZ11.out ha
        have HQ12 : Hid ((w11.alloc (.cells #[.int .i64 x] 3)).heap[q]? = some (.cells (carr e0 sh (.slice va' vn vc) (.slice vb' vm vd) le) 29)) := heap_kept HQ11.out ha
        have HB12 : Hid (Below w.heap.size w (w11.alloc (.cells #[.int .i64 x] 3))) := HB11.out.trans (ha.mono HB11.out.size)
        have HI12 := OwnV.later HI11.out ha
        have HF12 := OwnV.later HF11.out ha
        replace HI12 : Hid (OwnV (w11.alloc (.cells #[.int .i64 x] 3)) w.heap.size 3 (.slice va' vn vc) (l.map mi)) := HI12
        replace HF12 : Hid (OwnV (w11.alloc (.cells #[.int .i64 x] 3)) w.heap.size 4 (.slice vb' vm vd) (l.map mb)) := HF12
        have hc7' := heap_kept hc7 ha
        refine hK.out _ _ ?_ (fun hHeld => ?_)
        · exact fun _ => ⟨cell_of_heap HQ12.out rfl, cell_of_heap HQ12.out rfl⟩
        replace hHeld := hHeld (by kernel_rfl)
        clear hK K
        try simp only [Act.put, List.setIfInBounds_toArray, List.set_cons_zero, List.set_cons_succ]
        generalize hgs12 : w11.heap.size = pg3 at *
        generalize (w11.alloc (.cells #[.int .i64 x] 3)) = w12 at *
        clear ha hgs12 HZ11 HQ11 HB11 HI11 HF11
        clear hc7
        have hc7 := hc7'
        clear hc7'
        refine letz_one (i := 4) (by kernel_rfl) rfl (fun K hK => ?_)
        refine step_append_fr 26 3 _ 8 Try.underlying26 Try.info_3 rfl (by decide) rfl _ _ rfl w.heap.size _ _ rfl HI12.out ⟨pg3, 0, none⟩ 1 (.int .i64 x) rfl (cell_of_heap hc3 rfl) rfl (by omega) HB12.out.size ?_
        intro vv w13 ho hf
        obtain ⟨ai13, ni13, ci13, rfl⟩ := owns_slice ho
        have HZ13 : Hid (w13.heap[w.heap.size + 1]? = some (.cells #[.int .u64 0, .int .i64 0, .slice none 0 0, .slice none 0 0, .int .i64 0] 29)) := hf.cells HZ12.out (by decide)
        have HQ13 : Hid (w13.heap[q]? = some (.cells (carr e0 sh (.slice va' vn vc) (.slice vb' vm vd) le) 29)) := hf.cells HQ12.out (by decide)
        have HB13 : Hid (Below w.heap.size w w13) := HB12.out.trans (hf.below HB12.out.size)
        have HI13 : Hid (OwnV w13 w.heap.size 3 (.slice ai13 ni13 ci13) (l.map mi ++ [.int .i64 x])) := ho
        have HF13 : Hid (OwnV w13 w.heap.size 4 (.slice vb' vm vd) (l.map mb)) := hf.ownV HF12.out (by decide)
        have hc7' := hf.cells hc7 (by decide)
        refine hK.out _ _ ?_ (fun hHeld => ?_)
        · exact fun _ => ⟨cell_of_heap HQ13.out rfl, cell_of_heap HQ13.out rfl⟩
        replace hHeld := hHeld (by kernel_rfl)
        clear hK K
        try simp only [Act.put, List.setIfInBounds_toArray, List.set_cons_zero, List.set_cons_succ]
        clear ho hf hc3 HZ12 HQ12 HB12 HI12 HF12
        clear hc7
        have hc7 := hc7'
        clear hc7'
        refine letz_take (i := 9) (d := 34) (v := ?_) rfl rfl (by kernel_rfl) (by kernel_rfl) (by kernel_rfl) (by kernel_rfl) (fun _ _ _ h => h) (Or.inl ⟨by rfl, ?_⟩) hHeld ?_
        rotate_left
        · (intro w hSw; (try dsimp only at hSw); go_simp; all_goals (with_reducible rfl))
        try simp only [Act.put, List.setIfInBounds_toArray, List.set_cons_zero, List.set_cons_succ]
        refine letz_one (i := 8) (by kernel_rfl) rfl (fun K hK => ?_)
        refine step_append_fr 27 4 _ 1 Try.underlying27 Try.info_4 rfl (by decide) rfl _ _ rfl w.heap.size _ _ rfl HF13.out ⟨pg7, 0, none⟩ 1 (.bool false) rfl (cell_of_heap hc7 rfl) rfl (by omega) HB13.out.size ?_
        intro vv w14 ho hf
        obtain ⟨ab14, nb14, cb14, rfl⟩ := owns_slice ho
        have HZ14 : Hid (w14.heap[w.heap.size + 1]? = some (.cells #[.int .u64 0, .int .i64 0, .slice none 0 0, .slice none 0 0, .int .i64 0] 29)) := hf.cells HZ13.out (by decide)
        have HQ14 : Hid (w14.heap[q]? = some (.cells (carr e0 sh (.slice va' vn vc) (.slice vb' vm vd) le) 29)) := hf.cells HQ13.out (by decide)
        have HB14 : Hid (Below w.heap.size w w14) := HB13.out.trans (hf.below HB13.out.size)
        have HF14 : Hid (OwnV w14 w.heap.size 4 (.slice ab14 nb14 cb14) (l.map mb ++ [.bool false])) := ho
        have HI14 : Hid (OwnV w14 w.heap.size 3 (.slice ai13 ni13 ci13) (l.map mi ++ [.int .i64 x])) := hf.ownV HI13.out (by decide)
        refine hK.out _ _ ?_ (fun hHeld => ?_)
        · exact fun _ => ⟨cell_of_heap HQ14.out rfl, cell_of_heap HQ14.out rfl⟩
        replace hHeld := hHeld (by kernel_rfl)
        clear hK K
        try simp only [Act.put, List.setIfInBounds_toArray, List.set_cons_zero, List.set_cons_succ]
        clear ho hf hc7 HZ13 HQ13 HB13 HI13 HF13
        have e2 : w14.cell? ⟨q, 2, none⟩ = some (.slice va' vn vc) := cell_of_heap HQ14.out rfl
        have f2 : w14.frozen? ⟨q, 2, none⟩ = false := frozen_of_row _ _ _ _ _ HQ14.out
        have hs1 : (w14.setCell ⟨q, 2, none⟩ (.slice ai13 ni13 ci13)).heap[q]? = some (.cells (carr e0 sh (.slice ai13 ni13 ci13) (.slice vb' vm vd) le) 29) := heap_setCell_same _ _ _ _ _ _ HQ14.out
        have e3 : (w14.setCell ⟨q, 2, none⟩ (.slice ai13 ni13 ci13)).cell? ⟨q, 3, none⟩ = some (.slice vb' vm vd) := cell_of_heap hs1 rfl
        have f3 : (w14.setCell ⟨q, 2, none⟩ (.slice ai13 ni13 ci13)).frozen? ⟨q, 3, none⟩ = false := frozen_of_row _ _ _ _ _ hs1
        have hs2 : ((w14.setCell ⟨q, 2, none⟩ (.slice ai13 ni13 ci13)).setCell ⟨q, 3, none⟩ (.slice ab14 nb14 cb14)).heap[q]? = some (.cells (carr e0 sh (.slice ai13 ni13 ci13) (.slice ab14 nb14 cb14) le) 29) := heap_setCell_same _ _ _ _ _ _ hs1
        have e4 : ((w14.setCell ⟨q, 2, none⟩ (.slice ai13 ni13 ci13)).setCell ⟨q, 3, none⟩ (.slice ab14 nb14 cb14)).cell? ⟨q, 4, none⟩ = some (.int .i64 le) := cell_of_heap hs2 rfl
        have f4 : ((w14.setCell ⟨q, 2, none⟩ (.slice ai13 ni13 ci13)).setCell ⟨q, 3, none⟩ (.slice ab14 nb14 cb14)).frozen? ⟨q, 4, none⟩ = false := frozen_of_row _ _ _ _ _ hs2
        have HQ9 : Hid ((((w14.setCell ⟨q, 2, none⟩ (.slice ai13 ni13 ci13)).setCell ⟨q, 3, none⟩ (.slice ab14 nb14 cb14)).setCell ⟨q, 4, none⟩ (.int .i64 (-1))).heap[q]? = some (.cells (carr e0 sh (.slice ai13 ni13 ci13) (.slice ab14 nb14 cb14) (-1)) 29)) := heap_setCell_same _ _ _ _ _ _ hs2
        have HZ9 : Hid ((((w14.setCell ⟨q, 2, none⟩ (.slice ai13 ni13 ci13)).setCell ⟨q, 3, none⟩ (.slice ab14 nb14 cb14)).setCell ⟨q, 4, none⟩ (.int .i64 (-1))).heap[w.heap.size + 1]? = some (.cells #[.int .u64 0, .int .i64 0, .slice none 0 0, .slice none 0 0, .int .i64 0] 29)) := by rw [Hid, heap_ne (by have := HPQ.out; omega), heap_ne (by have := HPQ.out; omega), heap_ne (by have := HPQ.out; omega)]; exact HZ14.out
        have HB9 : Hid (Below w.heap.size w (((w14.setCell ⟨q, 2, none⟩ (.slice ai13 ni13 ci13)).setCell ⟨q, 3, none⟩ (.slice ab14 nb14 cb14)).setCell ⟨q, 4, none⟩ (.int .i64 (-1)))) := ((HB14.out.setCell (p := ⟨q, 2, none⟩) (by have := HPQ.out; simp; omega) _).setCell (p := ⟨q, 3, none⟩) (by have := HPQ.out; simp; omega) _).setCell (p := ⟨q, 4, none⟩) (by have := HPQ.out; simp; omega) _
        have HO9 : Hid (OwnV (((w14.setCell ⟨q, 2, none⟩ (.slice ai13 ni13 ci13)).setCell ⟨q, 3, none⟩ (.slice ab14 nb14 cb14)).setCell ⟨q, 4, none⟩ (.int .i64 (-1))) w.heap.size 3 (.slice ai13 ni13 ci13) ((l ++ [(x, false)]).map mi) ∧ OwnV (((w14.setCell ⟨q, 2, none⟩ (.slice ai13 ni13 ci13)).setCell ⟨q, 3, none⟩ (.slice ab14 nb14 cb14)).setCell ⟨q, 4, none⟩ (.int .i64 (-1))) w.heap.size 4 (.slice ab14 nb14 cb14) ((l ++ [(x, false)]).map mb)) := by
          rw [List.map_append, List.map_append]
          have hk3 : ∀ k, tagOf w14 k = some 3 → (((w14.setCell ⟨q, 2, none⟩ (.slice ai13 ni13 ci13)).setCell ⟨q, 3, none⟩ (.slice ab14 nb14 cb14)).setCell ⟨q, 4, none⟩ (.int .i64 (-1))).heap[k]? = w14.heap[k]? := fun k ht => by have hne := tag_ne HQ14.out (by decide) ht; rw [heap_ne hne, heap_ne hne, heap_ne hne]
          have hk4 : ∀ k, tagOf w14 k = some 4 → (((w14.setCell ⟨q, 2, none⟩ (.slice ai13 ni13 ci13)).setCell ⟨q, 3, none⟩ (.slice ab14 nb14 cb14)).setCell ⟨q, 4, none⟩ (.int .i64 (-1))).heap[k]? = w14.heap[k]? := fun k ht => by have hne := tag_ne HQ14.out (by decide) ht; rw [heap_ne hne, heap_ne hne, heap_ne hne]
          exact ⟨own_same HI14.out (fun k _ ht => hk3 k ht), own_same HF14.out (fun k _ ht => hk4 k ht)⟩
        clear hs1 hs2 HQ14 HZ14 HB14 HI14 HF14
        refine letz_one (i := 10) (by kernel_rfl) rfl (fun K hK => ?_)
        go_simp
        refine hK.out _ _ ?_ (fun hHeld => ?_)
        · exact fun h => absurd h (by decide)
        clear hHeld
        clear hK K
        try simp only [Act.put, List.setIfInBounds_toArray, List.set_cons_zero, List.set_cons_succ]
        refine letz_one (i := 11) (by kernel_rfl) rfl (fun K hK => ?_)
        go_simp
        refine hK.out _ _ ?_ (fun hHeld => ?_)
        · exact fun h => absurd h (by decide)
        clear hHeld
        clear hK K
        try simp only [Act.put, List.setIfInBounds_toArray, List.set_cons_zero, List.set_cons_succ]
        refine letz_one (i := 12) (by kernel_rfl) rfl (fun K hK => ?_)
        go_simp
        refine hK.out _ _ ?_ (fun hHeld => ?_)
        · exact fun h => absurd h (by decide)
        clear hHeld
        clear hK K
        try simp only [Act.put, List.setIfInBounds_toArray, List.set_cons_zero, List.set_cons_succ]
        refine letz_done (by kernel_rfl) ?_ _
        refine NoPanic.normal ?_
        go_upto_region 8 with fail
        clear e2 f2 e3 f3 e4 f4
        generalize (((w14.setCell ⟨q, 2, none⟩ (.slice ai13 ni13 ci13)).setCell ⟨q, 3, none⟩ (.slice ab14 nb14 cb14)).setCell ⟨q, 4, none⟩ (.int .i64 (-1))) = w9 at *
        obtain ⟨z0, z1, z2, z3, z4⟩ := five_cells HZ9.out
        obtain ⟨g0, g1, g2, g3, g4⟩ := five_frozen HZ9.out
        obtain ⟨n0, n1, n2, n3, n4⟩ := five_cells HQ9.out
        have HF : Hid ((put5 w9 (w.heap.size + 1) (.int .u64 (e0 : Nat)) (.int .i64 sh) (.slice ai13 ni13 ci13) (.slice ab14 nb14 cb14) (.int .i64 (-1))).heap[w.heap.size + 1]? = some (.cells (carr e0 sh (.slice ai13 ni13 ci13) (.slice ab14 nb14 cb14) (-1)) 29)) := five_put HZ9.out
        have HBF : Hid (Below w.heap.size w (put5 w9 (w.heap.size + 1) (.int .u64 (e0 : Nat)) (.int .i64 sh) (.slice ai13 ni13 ci13) (.slice ab14 nb14 cb14) (.int .i64 (-1)))) := below_put5 HB9.out (by omega) _ _ _ _ _
        have HOF : Hid (OwnV (put5 w9 (w.heap.size + 1) (.int .u64 (e0 : Nat)) (.int .i64 sh) (.slice ai13 ni13 ci13) (.slice ab14 nb14 cb14) (.int .i64 (-1))) w.heap.size 3 (.slice ai13 ni13 ci13) ((l ++ [(x, false)]).map mi) ∧ OwnV (put5 w9 (w.heap.size + 1) (.int .u64 (e0 : Nat)) (.int .i64 sh) (.slice ai13 ni13 ci13) (.slice ab14 nb14 cb14) (.int .i64 (-1))) w.heap.size 4 (.slice ab14 nb14 cb14) ((l ++ [(x, false)]).map mb)) := ⟨own_same HO9.out.1 (fun k hk ht => put5_other _ _ _ _ _ (tag_ne HZ9.out (by decide) ht)), own_same HO9.out.2 (fun k hk ht => put5_other _ _ _ _ _ (tag_ne HZ9.out (by decide) ht))⟩
        unfold put5 at HF HBF HOF
        go_wp2
        generalize (((((w9.setCell ⟨w.heap.size + 1, 0, none⟩ (.int .u64 (e0 : Nat))).setCell ⟨w.heap.size + 1, 1, none⟩ (.int .i64 sh)).setCell ⟨w.heap.size + 1, 2, none⟩ (.slice ai13 ni13 ci13)).setCell ⟨w.heap.size + 1, 3, none⟩ (.slice ab14 nb14 cb14)).setCell ⟨w.heap.size + 1, 4, none⟩ (.int .i64 (-1))) = wf at *
        clear z0 z1 z2 z3 z4 g0 g1 g2 g3 g4 n0 n1 n2 n3 n4
        obtain ⟨z0, z1, z2, z3, z4⟩ := five_cells HF.out
        refine bodyPost_ret (v := .tuple #[.agg (carr e0 sh (.slice ai13 ni13 ci13) (.slice ab14 nb14 cb14) (-1)), .int .i64 0]) (by simp [results, Try.results39, go_sem, z0, z1, z2, z3, z4]) rfl ?_
        exact ⟨⟨_, by rw [HR.out], by rw [HR.out]; exact ⟨_, _, rfl, HOF.out.1, HOF.out.2, by show (l ++ [(x, false)]).length ≤ 1000; rw [List.length_append, HLN.out]; simp; omega⟩⟩, HBF.out⟩
end Go.Proofs.Ytgpjplpfjghcgaa
