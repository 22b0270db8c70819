/- What an object's calls do: Put. -/
import Derived.Test.YtmahigfamgbhfaaObF
import Derived.Deep.RegionHeld3
import Derived.Deep.Cut
namespace Go.Proofs.Ytmahigfamgbhfaa
open Go.RowKit
set_option linter.unusedVariables false
set_option linter.unusedSimpArgs false


/-- 'append(x, y)' in a region that draws its order -/
theorem step_append_ver {w : World} {ops : Array Oper} {o : Oper} {a : Act} {K : Act → World → Prop} {Q : Exit → Act → World → Prop} {E : Prop} (hgd : o.guard = none) (s x : Operand)
    (t e : TypeId) (hu : Try.prog.underlying t = some (.slice e)) (hinfo : (Try.prog.info? e).map (fun i => (i.zero, i.size, i.bytes)) = some (some (.agg #[.int .i64 0, .int .u64 0, .string ⟨#[]⟩, .bool false]), 4, 40))
    (ho : o.op = .call { callee := .builtin .append, args := #[s, x], argTypes := #[t, t] })
    (base : Nat) (v : Value) (l : List Ver) (hs : a.eval s = v) (hown : VOwn w base e v l)
    (g c : Nat) (u : Ver) (hx : a.eval x = .slice (some ⟨g, 0, none⟩) 1 c) (hc : VarV w g e u) (hok : u.ok)
    (hmany : l.length ≤ 1000000000) (hbase : base ≤ w.heap.size)
    (h : ∀ v' w', VOwn w' base e v' (l ++ [u]) → Below base w w' → K (a.put o.dst v') w') :
    if Region.wanted o (yielded ops a.tmps) = true then Oper.wp Try.prog o a w K Q else E := by
  have hw : Region.wanted o (yielded ops a.tmps) = true := by simp [Region.wanted, hgd]
  rw [if_pos hw]
  obtain ⟨i0, hi, hz0, hz1, hz2⟩ := info_parts hinfo
  refine wp_append_own w s x t ho base e i0 _ 4 40 hu hi hz0 hz1 hz2 rfl (by decide) v _ _ hs hown.1 ⟨g, 0, none⟩ 1 c u.cells hx rfl ?_ ?_ (by unfold maxLen; omega) (by omega) hbase ?_
  · intro j y hj
    rw [Addr.add_lit]
    match j, hj with
    | 0, hj => exact cell_of_heap hc (by simpa [Ver.cells] using hj)
    | 1, hj => exact cell_of_heap hc (by simpa [Ver.cells] using hj)
    | 2, hj => exact cell_of_heap hc (by simpa [Ver.cells] using hj)
    | 3, hj => exact cell_of_heap hc (by simpa [Ver.cells] using hj)
    | j + 4, hj => simp [Ver.cells] at hj
  · have := cellsL_one [u]
    simpa [cellsL] using this
  · intro v' w' h1 h2 _
    refine h v' w' ⟨?_, ?_⟩ ((Below.refl _ _).grown h2 hbase hown.block)
    · rw [cellsL_append, List.length_append, show cellsL [u] = u.cells by simp [cellsL]]
      exact h1
    · intro y hy
      rcases List.mem_append.1 hy with hy | hy
      · exact hown.2 y hy
      · simp at hy; rw [hy]; exact hok


set_option maxRecDepth 100000 in
set_option maxHeartbeats 4000000 in
theorem put_ok (u : Value) (l : List Ver) (p : Int) (s : ByteArray) (g : Bool) (w : World) (h : Ob w u l) (hr : rightL l = true) (hpw : (Lit.int .i64 p).wf = true) (hs : s.size ≤ maxLen) (hp : (lastL l).pos < p) (hmay : may s g = true) (hfull : (lastL l).num < 18446744073709551615) (hshort : l.length < 1000000000) :
    Calls Try.prog 16 #[.agg #[u], .int .i64 p, .string s, .bool g] w fun e w' => ∃ u', e = .returned (.tuple #[.agg #[u'], .int .i64 0]) ∧ Ob w' u' (l ++ [⟨p, (lastL l).num + 1, s, g⟩]) ∧ Below w.heap.size w w' := by
  obtain ⟨a, cap, rfl, hv, hc, hm, hz, hlen, hadr⟩ := h
  have HB : Hid (Below w.heap.size w ((w.alloc (.cells #[.slice a l.length cap] 25)).alloc (.cells #[.slice none 0 0] 25))) := ((Below.refl _ w).alloc (Nat.le_refl _) _).alloc (by simp) _
  have hbx : ((w.alloc (.cells #[.slice a l.length cap] 25)).alloc (.cells #[.slice none 0 0] 25)).heap[w.heap.size]? = some (.cells #[.slice a l.length cap] 25) := (heap_alloc_old _ _ (by simp)).trans (heap_alloc_new w _)
  have hvx : ((w.alloc (.cells #[.slice a l.length cap] 25)).alloc (.cells #[.slice none 0 0] 25)).heap[w.heap.size + 1]? = some (.cells #[.slice none 0 0] 25) := by
    have := heap_alloc_new (w.alloc (.cells #[.slice a l.length cap] 25)) (.cells #[.slice none 0 0] 25)
    rwa [World.size_alloc] at this
  have h1 := right_any a l.length cap l _ (hv.later HB.out)
  rw [hr] at h1
  go_enter Try.func16, Try.ntmps16
  go_wp2_with fail
  refine h1.mono ?_
  clear h1
  rintro e w1 ⟨rfl, hb1⟩
  have HB1 : Hid (Below w.heap.size w w1) := HB.out.trans (hb1.mono HB.out.size)
  have hbx1 := (hb1.block w.heap.size (Array.getElem?_eq_some_iff.1 hbx).1).trans hbx
  have hvx1 := (hb1.block (w.heap.size + 1) (Array.getElem?_eq_some_iff.1 hvx).1).trans hvx
  have HVR : Hid (VRow w a l.length l) := hv
  clear HB hbx hvx hb1 hv
  have c0 : w1.cell? ⟨w.heap.size, 0, none⟩ = some (.slice a l.length cap) := cell_of_heap hbx1 rfl
  have h2 := last_any a l.length cap l w1 (HVR.out.later HB1.out)
  go_wp2_with fail
  refine h2.mono ?_
  clear h2
  rintro e w2 ⟨rfl, hb2⟩
  have hvx2 := (hb2.block (w.heap.size + 1) (Array.getElem?_eq_some_iff.1 hvx1).1).trans hvx1
  have HB2 : Hid (Below w.heap.size w w2) := HB1.out.trans (hb2.mono HB1.out.size)
  have c2 : w2.cell? ⟨w.heap.size, 0, none⟩ = some (.slice a l.length cap) := cell_later hb2 c0
  have hby : Below w2.heap.size w2 (w2.alloc (.cells #[.int .i64 (lastL l).pos, .int .u64 ((lastL l).num : Nat), .string (lastL l).val, .bool (lastL l).gone] 36)) := (Below.refl _ _).alloc (Nat.le_refl _) _
  have HB3 : Hid (Below w.heap.size w (w2.alloc (.cells #[.int .i64 (lastL l).pos, .int .u64 ((lastL l).num : Nat), .string (lastL l).val, .bool (lastL l).gone] 36))) := HB2.out.trans (hby.mono HB2.out.size)
  have hlt2 : w.heap.size + 1 < w2.heap.size := (Array.getElem?_eq_some_iff.1 hvx2).1
  have hvx3 := (hby.block (w.heap.size + 1) hlt2).trans hvx2
  have hnum : (lastL l).num < 18446744073709551616 := (HVR.out.okn _).num
  clear hb2 c0 hbx1 hvx1 HB1 hby
  generalize hL : lastL l = v at *
  have HLV : Hid (lastL l = v) := hL
  clear hL
  have hv10 : VarV (w2.alloc (.cells #[.int .i64 v.pos, .int .u64 (v.num : Nat), .string v.val, .bool v.gone] 36)) w2.heap.size 36 v := heap_alloc_new w2 _
  have cb3 : (w2.alloc (.cells #[.int .i64 v.pos, .int .u64 (v.num : Nat), .string v.val, .bool v.gone] 36)).cell? ⟨w.heap.size, 0, none⟩ = some (.slice a l.length cap) := cell_later ((Below.refl _ _).alloc (Nat.le_refl _) _) c2
  go_upto_region 4 with fail
  generalize w2.alloc (.cells #[.int .i64 v.pos, .int .u64 (v.num : Nat), .string v.val, .bool v.gone] 36) = w3 at *
  obtain ⟨t0, t1, t2, t3⟩ := hv10.cells
  have hle2 : w.heap.size + 1 < w2.heap.size := hlt2
  generalize w2.heap.size = p10 at *
  have HV10 : Hid (VarV w3 p10 36 v) := hv10
  clear c2 hlt2 hv10 hvx2
  have h3 := mayStand_any s g w3 hs
  rw [hmay] at h3
  clear hmay
  have e1 : ((v.num : Int) == 18446744073709551615) = false := by simp; omega
  have hp2 : ¬ p ≤ v.pos := by omega
  have HX : Hid (v.num + 1 = v.num + 1) := rfl
  have hv4 : VarV (w3.alloc (.cells #[.int .i64 p, .int .u64 ((v.num : Int) + 1), .string s, .bool g] 36)) w3.heap.size 36 ⟨p, v.num + 1, s, g⟩ := heap_alloc_new w3 _
  have hby : Below w3.heap.size w3 (w3.alloc (.cells #[.int .i64 p, .int .u64 ((v.num : Int) + 1), .string s, .bool g] 36)) := (Below.refl _ _).alloc (Nat.le_refl _) _
  have hlt3 : w.heap.size + 1 < w3.heap.size := (Array.getElem?_eq_some_iff.1 hvx3).1
  have hvx4 := (hby.block (w.heap.size + 1) hlt3).trans hvx3
  have cb4 := cell_later hby cb3
  have HB4 : Hid (Below w.heap.size w (w3.alloc (.cells #[.int .i64 p, .int .u64 ((v.num : Int) + 1), .string s, .bool g] 36))) := HB3.out.trans (hby.mono HB3.out.size)
  clear hby
  go_wp2_with fail
  refine h3.mono ?_
  rintro e w4 ⟨rfl, hw⟩
  subst w4
  clear h3
  go_upto_region 9 with fail
  generalize w3.alloc (.cells #[.int .i64 p, .int .u64 ((v.num : Int) + 1), .string s, .bool g] 36) = w4 at *
  generalize w3.heap.size = p11 at *
  have HV4 : Hid (VarV w4 p11 36 ⟨p, v.num + 1, s, g⟩) := hv4
  have HVX4 : Hid (w4.heap[w.heap.size + 1]? = some (.cells #[.slice none 0 0] 25)) := hvx4
  have hlt4 : w.heap.size + 1 < w4.heap.size := (Array.getElem?_eq_some_iff.1 hvx4).1
  have HLT : Hid (w.heap.size + 1 < w4.heap.size) := hlt4
  have HOK : Hid (Ver.ok ⟨p, v.num + 1, s, g⟩) := ⟨hpw, by show v.num + 1 < 18446744073709551616; omega, hs⟩
  have HS : Hid (∀ W, Below w4.heap.size w4 W → W.cell? ⟨w.heap.size, 0, none⟩ = some (.slice a l.length cap) ∧ W.cell? ⟨p11, 0, none⟩ = some (.int .i64 p) ∧ W.cell? ⟨p11, 1, none⟩ = some (.int .u64 ((v.num : Int) + 1)) ∧ W.cell? ⟨p11, 2, none⟩ = some (.string s) ∧ W.cell? ⟨p11, 3, none⟩ = some (.bool g)) := by
    intro W hW
    obtain ⟨k0, k1, k2, k3⟩ := hv4.cells
    exact ⟨cell_later hW cb4, cell_later hW k0, cell_later hW k1, cell_later hW k2, cell_later hW k3⟩
  clear t0 t1 t2 t3 HV10 hvx3 cb3 HB3 hvx4 hlt3 hlt4 hv4 hle2 e1 hp2 hp hfull cb4
  refine wp_region_noPanic ?_
  refine wp_region_held_drew (S := (fun w' => w'.cell? ⟨w.heap.size, 0, none⟩ = some (.slice a l.length cap) ∧ w'.cell? ⟨p11, 0, none⟩ = some (.int .i64 p) ∧ w'.cell? ⟨p11, 1, none⟩ = some (.int .u64 ((v.num : Int) + 1)) ∧ w'.cell? ⟨p11, 2, none⟩ = some (.string s) ∧ w'.cell? ⟨p11, 3, none⟩ = some (.bool g))) (by kernel_rfl) ?_ (fun hHeld => ?_)
  · exact HS.out _ (Below.refl _ _).drew
  refine held_take (i := 0) (d := 40) (v := ?_) rfl rfl (by kernel_rfl) (by kernel_rfl) (by kernel_rfl) (fun _ _ _ h => h) (Or.inl ⟨by rfl, ?_⟩) hHeld ?_
  rotate_left
  · (intro w hSw; (try dsimp only at hSw); go_simp; all_goals (with_reducible rfl))
  try simp only [Act.put, List.setIfInBounds_toArray, List.set_cons_zero, List.set_cons_succ]
  refine held_take (i := 1) (d := 41) (v := ?_) rfl rfl (by kernel_rfl) (by kernel_rfl) (by kernel_rfl) (fun _ _ _ h => h) (Or.inl ⟨by rfl, ?_⟩) hHeld ?_
  rotate_left
  · (intro w hSw; (try dsimp only at hSw); go_simp; all_goals (with_reducible rfl))
  try simp only [Act.put, List.setIfInBounds_toArray, List.set_cons_zero, List.set_cons_succ]
  refine held_take (i := 3) (d := 43) (v := ?_) rfl rfl (by kernel_rfl) (by kernel_rfl) (by kernel_rfl) (fun _ _ _ h => h) (Or.inl ⟨by rfl, ?_⟩) hHeld ?_
  rotate_left
  · (intro w hSw; (try dsimp only at hSw); go_simp; all_goals (with_reducible rfl))
  try simp only [Act.put, List.setIfInBounds_toArray, List.set_cons_zero, List.set_cons_succ]
  refine wpAnyH_ready (rs := [2, 4]) (by kernel_rfl) (by simp) ?_
  refine AllReadyH.cons rfl (fun K hK => ?_) (AllReadyH.cons rfl (fun K hK => ?_) AllReadyH.nil)
  · have HBd : Hid (Below w4.heap.size w4 w4.drew) := (Below.refl _ _).drew
    have h5 := clone_any a l.length cap l w4.drew (HVR.out.later (HB4.out.trans (HBd.out.mono HB4.out.size))) (fun e => ⟨by rw [(hz e).1]; rfl, (hz e).2⟩) hlen
    go_simp
    refine h5.mono ?_
    clear h5
    rintro e w5 ⟨v5, rfl, ho5, hb5⟩
    obtain ⟨a5, n5, cap5, rfl⟩ : ∃ a n c, v5 = .slice a n c := by obtain ⟨a, c, e, -⟩ := ho5.slice; exact ⟨_, _, _, e⟩
    have HB5 : Hid (Below w4.heap.size w4 w5) := HBd.out.trans hb5
    have HO5 : Hid (VOwn w5 w4.heap.size 36 (.slice a5 n5 cap5) l) := ho5
    clear hb5 ho5
    go_wp2_with fail
    refine hK.out _ _ ?_ (fun hHeld => ?_)
    · exact HS.out _ HB5.out
    clear hK K
    try simp only [Act.put, List.setIfInBounds_toArray, List.set_cons_zero, List.set_cons_succ]
    have HB6 : Hid (Below w4.heap.size w4 (w5.alloc (.cells #[.int .i64 p, .int .u64 ((v.num : Int) + 1), .string s, .bool g] 36))) := HB5.out.alloc HB5.out.size _
    have HO6 : Hid (VOwn (w5.alloc (.cells #[.int .i64 p, .int .u64 ((v.num : Int) + 1), .string s, .bool g] 36)) w4.heap.size 36 (.slice a5 n5 cap5) l) := HO5.out.later ((Below.refl _ _).alloc (Nat.le_refl _) _)
    have HV6 : Hid (VarV (w5.alloc (.cells #[.int .i64 p, .int .u64 ((v.num : Int) + 1), .string s, .bool g] 36)) w5.heap.size 36 ⟨p, v.num + 1, s, g⟩) := heap_alloc_new w5 _
    refine wpAnyH_ready (rs := [4]) (by kernel_rfl) (by simp) ?_
    refine AllReadyH.cons rfl (fun K hK => ?_) AllReadyH.nil
    go_simp
    refine hK.out _ _ ?_ (fun hHeld => ?_)
    · exact HS.out _ HB6.out
    clear hK K
    try simp only [Act.put, List.setIfInBounds_toArray, List.set_cons_zero, List.set_cons_succ]
    have HBS : Hid (w4.heap.size ≤ (w5.alloc (.cells #[.int .i64 p, .int .u64 ((v.num : Int) + 1), .string s, .bool g] 36)).heap.size) := HB6.out.size
    have HBL : Hid (w4.heap.size ≤ w4.heap.size) := Nat.le_refl _
    generalize w5.alloc (.cells #[.int .i64 p, .int .u64 ((v.num : Int) + 1), .string s, .bool g] 36) = w6 at *
    refine wpAnyH_ready (rs := [5]) (by kernel_rfl) (by simp) ?_
    refine AllReadyH.cons rfl (fun K hK => ?_) AllReadyH.nil
    refine step_append_ver (by rfl) _ _ 23 36 Try.underlying23 Try.info_36 (by rfl) w4.heap.size _ l (by rfl) HO6.out w5.heap.size _ ⟨p, v.num + 1, s, g⟩ (by rfl) HV6.out HOK.out (by omega) HBS.out ?_
    intro v7 w7 ho7 hb7
    obtain ⟨a7, n7, cap7, rfl⟩ : ∃ a n c, v7 = .slice a n c := by obtain ⟨a, c, e, -⟩ := ho7.slice; exact ⟨_, _, _, e⟩
    have HB7 : Hid (Below w4.heap.size w4 w7) := HB6.out.trans (hb7.mono HBL.out)
    have HO7 : Hid (VOwn w7 w4.heap.size 36 (.slice a7 n7 cap7) (l ++ [⟨p, v.num + 1, s, g⟩])) := ho7
    clear ho7 hb7
    refine hK.out _ _ ?_ (fun hHeld => ?_)
    · exact HS.out _ HB7.out
    clear hK K
    try simp only [Act.put, List.setIfInBounds_toArray, List.set_cons_zero, List.set_cons_succ]
    have hvx7 := (HB7.out.block (w.heap.size + 1) HLT.out).trans HVX4.out
    refine held_take (i := 6) (d := 46) (v := ?_) rfl rfl (by kernel_rfl) (by kernel_rfl) (by kernel_rfl) (fun _ _ _ h => h) (Or.inl ⟨by rfl, ?_⟩) hHeld ?_
    rotate_left
    · (intro w hSw; (try dsimp only at hSw); go_simp; all_goals (with_reducible rfl))
    try simp only [Act.put, List.setIfInBounds_toArray, List.set_cons_zero, List.set_cons_succ]
    have HV : Hid (w7.heap[w.heap.size + 1]? = some (.cells #[.slice none 0 0] 25)) := hvx7
    have z0 : w7.cell? ⟨w.heap.size + 1, 0, none⟩ = some (.slice none 0 0) := cell_of_heap HV.out rfl
    have f0 : w7.frozen? ⟨w.heap.size + 1, 0, none⟩ = false := frozen_of_row w7 _ _ _ _ HV.out
    have s0 : ∀ u, (w7.setCell ⟨w.heap.size + 1, 0, none⟩ u).cell? ⟨w.heap.size + 1, 0, none⟩ = some u := fun u => cell_of_heap (heap_setCell_same w7 _ 0 _ 25 u HV.out) rfl
    have HO : Hid (Ob (w7.setCell ⟨w.heap.size + 1, 0, none⟩ (.slice a7 n7 cap7)) (.slice a7 n7 cap7) (l ++ [⟨p, v.num + 1, s, g⟩])) := (HO7.out.set_below (show w.heap.size + 1 < w4.heap.size from Nat.lt_of_lt_of_le HLT.out HBL.out) _).ob (by simp; omega)
    have hne : w.heap.size + 1 ≠ p11 := fun e => by
      have h1 := HVX4.out
      have h2 : w4.heap[p11]? = _ := HV4.out
      rw [e] at h1
      rw [h1] at h2
      simp at h2
    clear hvx7
    refine wpAnyH_ready (rs := [7]) (by kernel_rfl) (by simp) ?_
    refine AllReadyH.cons rfl (fun K hK => ?_) AllReadyH.nil
    go_simp
    refine hK.out _ _ ?_ (fun hHeld => ?_)
    · exact ⟨(World.cell?_setCell_other _ _ _ _ (by simp)).trans hHeld.1, (World.cell?_setCell_other _ _ _ _ (by simp [hne])).trans hHeld.2.1, (World.cell?_setCell_other _ _ _ _ (by simp [hne])).trans hHeld.2.2.1, (World.cell?_setCell_other _ _ _ _ (by simp [hne])).trans hHeld.2.2.2.1, (World.cell?_setCell_other _ _ _ _ (by simp [hne])).trans hHeld.2.2.2.2⟩
    clear hK K
    try simp only [Act.put, List.setIfInBounds_toArray, List.set_cons_zero, List.set_cons_succ]
    refine held_take (i := 8) (d := 9) (v := ?_) rfl rfl (by kernel_rfl) (by kernel_rfl) (by kernel_rfl) (fun _ _ _ h => h) (Or.inl ⟨by rfl, ?_⟩) hHeld ?_
    rotate_left
    · (intro w hSw; (try dsimp only at hSw); go_simp; all_goals (with_reducible rfl))
    try simp only [Act.put, List.setIfInBounds_toArray, List.set_cons_zero, List.set_cons_succ]
    refine wpAnyH_done (by kernel_rfl) ?_ _
    refine NoPanic.normal ?_
    go_wp2
    refine bodyPost_ret (v := .tuple #[.agg #[.slice a7 n7 cap7], .int .i64 0]) (by simp [results, Try.results16, go_sem, s0]) rfl ?_
    refine ⟨_, rfl, ?_, (HB4.out.trans (HB7.out.mono HB4.out.size)).setCell (by simp) _⟩
    rw [HLV.out]
    exact HO.out
  · have HB5 : Hid (Below w4.heap.size w4 (w4.alloc (.cells #[.int .i64 p, .int .u64 ((v.num : Int) + 1), .string s, .bool g] 36)).drew) := ((Below.refl _ _).alloc (Nat.le_refl _) _).drew
    have HV5 : Hid (VarV (w4.alloc (.cells #[.int .i64 p, .int .u64 ((v.num : Int) + 1), .string s, .bool g] 36)).drew w4.heap.size 36 ⟨p, v.num + 1, s, g⟩) := heap_alloc_new w4 _
    go_simp
    refine hK.out _ _ ?_ (fun hHeld => ?_)
    · exact HS.out _ HB5.out
    clear hK K
    try simp only [Act.put, List.setIfInBounds_toArray, List.set_cons_zero, List.set_cons_succ]
    generalize (w4.alloc (.cells #[.int .i64 p, .int .u64 ((v.num : Int) + 1), .string s, .bool g] 36)).drew = w5 at *
    have h5 := clone_any a l.length cap l w5 (HVR.out.later (HB4.out.trans (HB5.out.mono HB4.out.size))) (fun e => ⟨by rw [(hz e).1]; rfl, (hz e).2⟩) hlen
    refine wpAnyH_ready (rs := [2]) (by kernel_rfl) (by simp) ?_
    refine AllReadyH.cons rfl (fun K hK => ?_) AllReadyH.nil
    go_simp
    refine h5.mono ?_
    clear h5
    rintro e w6 ⟨v5, rfl, ho5, hb5⟩
    obtain ⟨a5, n5, cap5, rfl⟩ : ∃ a n c, v5 = .slice a n c := by obtain ⟨a, c, e, -⟩ := ho5.slice; exact ⟨_, _, _, e⟩
    have HB6 : Hid (Below w4.heap.size w4 w6) := HB5.out.trans (hb5.mono HB5.out.size)
    have HO6 : Hid (VOwn w6 w5.heap.size 36 (.slice a5 n5 cap5) l) := ho5
    have HV6 : Hid (VarV w6 w4.heap.size 36 ⟨p, v.num + 1, s, g⟩) := HV5.out.later hb5
    have HBS : Hid (w5.heap.size ≤ w6.heap.size) := hb5.size
    have HBL : Hid (w4.heap.size ≤ w5.heap.size) := HB5.out.size
    clear hb5 ho5
    go_wp2_with fail
    refine hK.out _ _ ?_ (fun hHeld => ?_)
    · exact HS.out _ HB6.out
    clear hK K
    try simp only [Act.put, List.setIfInBounds_toArray, List.set_cons_zero, List.set_cons_succ]
    refine wpAnyH_ready (rs := [5]) (by kernel_rfl) (by simp) ?_
    refine AllReadyH.cons rfl (fun K hK => ?_) AllReadyH.nil
    refine step_append_ver (by rfl) _ _ 23 36 Try.underlying23 Try.info_36 (by rfl) w5.heap.size _ l (by rfl) HO6.out w4.heap.size _ ⟨p, v.num + 1, s, g⟩ (by rfl) HV6.out HOK.out (by omega) HBS.out ?_
    intro v7 w7 ho7 hb7
    obtain ⟨a7, n7, cap7, rfl⟩ : ∃ a n c, v7 = .slice a n c := by obtain ⟨a, c, e, -⟩ := ho7.slice; exact ⟨_, _, _, e⟩
    have HB7 : Hid (Below w4.heap.size w4 w7) := HB6.out.trans (hb7.mono HBL.out)
    have HO7 : Hid (VOwn w7 w5.heap.size 36 (.slice a7 n7 cap7) (l ++ [⟨p, v.num + 1, s, g⟩])) := ho7
    clear ho7 hb7
    refine hK.out _ _ ?_ (fun hHeld => ?_)
    · exact HS.out _ HB7.out
    clear hK K
    try simp only [Act.put, List.setIfInBounds_toArray, List.set_cons_zero, List.set_cons_succ]
    have hvx7 := (HB7.out.block (w.heap.size + 1) HLT.out).trans HVX4.out
    refine held_take (i := 6) (d := 46) (v := ?_) rfl rfl (by kernel_rfl) (by kernel_rfl) (by kernel_rfl) (fun _ _ _ h => h) (Or.inl ⟨by rfl, ?_⟩) hHeld ?_
    rotate_left
    · (intro w hSw; (try dsimp only at hSw); go_simp; all_goals (with_reducible rfl))
    try simp only [Act.put, List.setIfInBounds_toArray, List.set_cons_zero, List.set_cons_succ]
    have HV : Hid (w7.heap[w.heap.size + 1]? = some (.cells #[.slice none 0 0] 25)) := hvx7
    have z0 : w7.cell? ⟨w.heap.size + 1, 0, none⟩ = some (.slice none 0 0) := cell_of_heap HV.out rfl
    have f0 : w7.frozen? ⟨w.heap.size + 1, 0, none⟩ = false := frozen_of_row w7 _ _ _ _ HV.out
    have s0 : ∀ u, (w7.setCell ⟨w.heap.size + 1, 0, none⟩ u).cell? ⟨w.heap.size + 1, 0, none⟩ = some u := fun u => cell_of_heap (heap_setCell_same w7 _ 0 _ 25 u HV.out) rfl
    have HO : Hid (Ob (w7.setCell ⟨w.heap.size + 1, 0, none⟩ (.slice a7 n7 cap7)) (.slice a7 n7 cap7) (l ++ [⟨p, v.num + 1, s, g⟩])) := (HO7.out.set_below (show w.heap.size + 1 < w5.heap.size from Nat.lt_of_lt_of_le HLT.out HBL.out) _).ob (by simp; omega)
    have hne : w.heap.size + 1 ≠ p11 := fun e => by
      have h1 := HVX4.out
      have h2 : w4.heap[p11]? = _ := HV4.out
      rw [e] at h1
      rw [h1] at h2
      simp at h2
    clear hvx7
    refine wpAnyH_ready (rs := [7]) (by kernel_rfl) (by simp) ?_
    refine AllReadyH.cons rfl (fun K hK => ?_) AllReadyH.nil
    go_simp
    refine hK.out _ _ ?_ (fun hHeld => ?_)
    · exact ⟨(World.cell?_setCell_other _ _ _ _ (by simp)).trans hHeld.1, (World.cell?_setCell_other _ _ _ _ (by simp [hne])).trans hHeld.2.1, (World.cell?_setCell_other _ _ _ _ (by simp [hne])).trans hHeld.2.2.1, (World.cell?_setCell_other _ _ _ _ (by simp [hne])).trans hHeld.2.2.2.1, (World.cell?_setCell_other _ _ _ _ (by simp [hne])).trans hHeld.2.2.2.2⟩
    clear hK K
    try simp only [Act.put, List.setIfInBounds_toArray, List.set_cons_zero, List.set_cons_succ]
    refine held_take (i := 8) (d := 9) (v := ?_) rfl rfl (by kernel_rfl) (by kernel_rfl) (by kernel_rfl) (fun _ _ _ h => h) (Or.inl ⟨by rfl, ?_⟩) hHeld ?_
    rotate_left
    · (intro w hSw; (try dsimp only at hSw); go_simp; all_goals (with_reducible rfl))
    try simp only [Act.put, List.setIfInBounds_toArray, List.set_cons_zero, List.set_cons_succ]
    refine wpAnyH_done (by kernel_rfl) ?_ _
    refine NoPanic.normal ?_
    go_wp2
    refine bodyPost_ret (v := .tuple #[.agg #[.slice a7 n7 cap7], .int .i64 0]) (by simp [results, Try.results16, go_sem, s0]) rfl ?_
    refine ⟨_, rfl, ?_, (HB4.out.trans (HB7.out.mono HB4.out.size)).setCell (by simp) _⟩
    rw [HLV.out]
    exact HO.out
end Go.Proofs.Ytmahigfamgbhfaa
