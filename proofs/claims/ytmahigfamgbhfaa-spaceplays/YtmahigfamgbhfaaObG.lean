/- What an object's calls do: Undo of one that is right. -/
import Derived.Test.YtmahigfamgbhfaaObF
import Derived.Deep.RegionHeld3
namespace Go.Proofs.Ytmahigfamgbhfaa
open Go.RowKit
set_option linter.unusedVariables false


set_option maxRecDepth 100000 in
set_option maxHeartbeats 2000000 in
theorem undo_right (u : Value) (l : List Ver) (m : Int) (w : World) (h : Ob w u l) (hr : rightL l = true) :
    Calls Try.prog 20 #[.agg #[u], .int .i64 m] w fun e w' => ∃ u', e = .returned (.agg #[u']) ∧ Ob w' u' (undoL l m) ∧ Below w.heap.size w w' := by
  obtain ⟨a, cap, rfl, hv, hc, hm, hz, hlen, hadr⟩ := h
  have HB : Hid (Below w.heap.size w ((w.alloc (.cells #[.slice a l.length cap] 25)).alloc (.cells #[.slice none 0 0] 25))) := ((Below.refl _ w).alloc (Nat.le_refl _) _).alloc (by simp) _
  have hbx : ((w.alloc (.cells #[.slice a l.length cap] 25)).alloc (.cells #[.slice none 0 0] 25)).heap[w.heap.size]? = some (.cells #[.slice a l.length cap] 25) := (heap_alloc_old _ _ (by simp)).trans (heap_alloc_new w _)
  have hvx : ((w.alloc (.cells #[.slice a l.length cap] 25)).alloc (.cells #[.slice none 0 0] 25)).heap[w.heap.size + 1]? = some (.cells #[.slice none 0 0] 25) := by
    have := heap_alloc_new (w.alloc (.cells #[.slice a l.length cap] 25)) (.cells #[.slice none 0 0] 25)
    rwa [World.size_alloc] at this
  have h1 := right_any a l.length cap l _ (hv.later HB.out)
  rw [hr] at h1
  go_enter Try.func20, Try.ntmps20
  go_wp2_with fail
  refine h1.mono ?_
  clear h1
  rintro e w1 ⟨rfl, hb1⟩
  have HB1 : Hid (Below w.heap.size w w1) := HB.out.trans (hb1.mono HB.out.size)
  have hbx1 := (hb1.block w.heap.size (Array.getElem?_eq_some_iff.1 hbx).1).trans hbx
  have hvx1 := (hb1.block (w.heap.size + 1) (Array.getElem?_eq_some_iff.1 hvx).1).trans hvx
  have HVR : Hid (VRow w a l.length l) := hv
  clear HB hbx hvx hb1 hv
  have c0 : w1.cell? ⟨w.heap.size, 0, none⟩ = some (.slice a l.length cap) := cell_of_heap hbx1 rfl
  have hB1d : Below w.heap.size w w1.drew := HB1.out.drew
  have h2 := upTo_any a l.length cap m l w1.drew (HVR.out.later hB1d) (right_rises hr) hlen
  have hul := upTo_le l m
  have hlt1 : w.heap.size + 1 < w1.heap.size := (Array.getElem?_eq_some_iff.1 hvx1).1
  have HL1 : Hid (w.heap.size + 1 < w1.heap.size) := hlt1
  have HVX : Hid (w1.heap[w.heap.size + 1]? = some (.cells #[.slice none 0 0] 25)) := hvx1
  have HC : Hid (undoL l m = l.take (upTo l m)) := rfl
  generalize upTo l m = c at *
  unfold maxLen at hm
  have hcc : c ≤ cap := by omega
  have HBd : Hid (Below w.heap.size w w1.drew) := hB1d
  clear hbx1 hvx1 hlt1 hB1d
  go_wp2
  cases a with
  | none =>
    obtain ⟨e1, rfl⟩ := hz rfl
    have e2 : l.length = 0 := by rw [e1]; rfl
    obtain rfl : c = 0 := by omega
    rw [e2] at c0 h2
    clear e2 hul hcc hm hc
    refine wp_region_noPanic ?_
    refine wp_region_held_drew (S := (fun w' => w'.cell? ⟨w.heap.size, 0, none⟩ = some (.slice none 0 0))) (by kernel_rfl) ?_ (fun hHeld => ?_)
    · exact c0
    refine held_take (i := 0) (d := 9) (v := ?_) rfl rfl (by kernel_rfl) (by kernel_rfl) (by kernel_rfl) (fun _ _ _ h => h) (Or.inl ⟨by rfl, ?_⟩) hHeld ?_
    rotate_left
    · (intro w hSw; (try dsimp only at hSw); go_simp; all_goals (with_reducible rfl))
    try simp only [Act.put, List.setIfInBounds_toArray, List.set_cons_zero, List.set_cons_succ]
    refine held_take (i := 1) (d := 10) (v := ?_) rfl rfl (by kernel_rfl) (by kernel_rfl) (by kernel_rfl) (fun _ _ _ h => h) (Or.inl ⟨by rfl, ?_⟩) hHeld ?_
    rotate_left
    · (intro w hSw; (try dsimp only at hSw); go_simp; all_goals (with_reducible rfl))
    try simp only [Act.put, List.setIfInBounds_toArray, List.set_cons_zero, List.set_cons_succ]
    refine held_take (i := 2) (d := 11) (v := ?_) rfl rfl (by kernel_rfl) (by kernel_rfl) (by kernel_rfl) (fun _ _ _ h => h) (Or.inl ⟨by rfl, ?_⟩) hHeld ?_
    rotate_left
    · (intro w hSw; (try dsimp only at hSw); go_simp; all_goals (with_reducible rfl))
    try simp only [Act.put, List.setIfInBounds_toArray, List.set_cons_zero, List.set_cons_succ]
    refine held_take (i := 3) (d := 12) (v := ?_) rfl rfl (by kernel_rfl) (by kernel_rfl) (by kernel_rfl) (fun _ _ _ h => h) (Or.inl ⟨by rfl, ?_⟩) hHeld ?_
    rotate_left
    · (intro w hSw; (try dsimp only at hSw); go_simp; all_goals (with_reducible rfl))
    try simp only [Act.put, List.setIfInBounds_toArray, List.set_cons_zero, List.set_cons_succ]
    refine wpAnyH_ready (rs := [4]) (by kernel_rfl) (by simp) ?_
    refine AllReadyH.cons rfl (fun K hK => ?_) AllReadyH.nil
    go_simp
    refine h2.mono ?_
    clear h2
    rintro e w2 ⟨rfl, hb2⟩
    have HB2 : Hid (Below w.heap.size w w2) := HBd.out.trans (hb2.mono HBd.out.size)
    have hvx2 : w2.heap[w.heap.size + 1]? = some (.cells #[.slice none 0 0] 25) := (hb2.block (w.heap.size + 1) HL1.out).trans HVX.out
    have c2 : w2.cell? ⟨w.heap.size, 0, none⟩ = some (.slice none 0 0) := cell_later hb2 c0
    clear hb2
    have HVX2 : Hid (w2.heap[w.heap.size + 1]? = some (.cells #[.slice none 0 0] 25)) := hvx2
    clear hvx2
    go_wp2_with fail
    refine hK.out _ _ ?_ (fun hHeld => ?_)
    · exact c2
    clear hK K
    try simp only [Act.put, List.setIfInBounds_toArray, List.set_cons_zero, List.set_cons_succ]
    have h3 := clone_any none 0 0 (l.take 0) w2 ((HVR.out.later HB2.out).take 0 (by omega)) (by simp) (by omega)
    refine held_take (i := 5) (d := 14) (v := ?_) rfl rfl (by kernel_rfl) (by kernel_rfl) (by kernel_rfl) (fun _ _ _ h => h) (Or.inl ⟨by rfl, ?_⟩) hHeld ?_
    rotate_left
    · (intro w hSw; (try dsimp only at hSw); go_simp; all_goals (with_reducible rfl))
    try simp only [Act.put, List.setIfInBounds_toArray, List.set_cons_zero, List.set_cons_succ]
    refine wpAnyH_ready (rs := [6]) (by kernel_rfl) (by simp) ?_
    refine AllReadyH.cons rfl (fun K hK => ?_) AllReadyH.nil
    go_simp
    refine h3.mono ?_
    clear h3
    rintro e w3 ⟨v3, rfl, ho3, hb3⟩
    obtain ⟨a3, n3, cap3, rfl⟩ : ∃ a n c, v3 = .slice a n c := by obtain ⟨a, c, e, -⟩ := ho3.slice; exact ⟨_, _, _, e⟩
    have HB3 : Hid (Below w.heap.size w w3) := HB2.out.trans (hb3.mono HB2.out.size)
    have hvx3 := (hb3.block (w.heap.size + 1) (Array.getElem?_eq_some_iff.1 HVX2.out).1).trans HVX2.out
    have HV : Hid (w3.heap[w.heap.size + 1]? = some (.cells #[.slice none 0 0] 25)) := hvx3
    have z0 : w3.cell? ⟨w.heap.size + 1, 0, none⟩ = some (.slice none 0 0) := cell_of_heap HV.out rfl
    have f0 : w3.frozen? ⟨w.heap.size + 1, 0, none⟩ = false := frozen_of_row w3 _ _ _ _ HV.out
    have s0 : ∀ u, (w3.setCell ⟨w.heap.size + 1, 0, none⟩ u).cell? ⟨w.heap.size + 1, 0, none⟩ = some u := fun u => cell_of_heap (heap_setCell_same w3 _ 0 _ 25 u HV.out) rfl
    have HO : Hid (Ob (w3.setCell ⟨w.heap.size + 1, 0, none⟩ (.slice a3 n3 cap3)) (.slice a3 n3 cap3) (undoL l m)) := by
      show Ob _ _ _
      rw [HC.out]
      exact (ho3.set_below (show w.heap.size + 1 < w2.heap.size from (Array.getElem?_eq_some_iff.1 HVX2.out).1) _).ob (by first | (simp; done) | (simp; omega))
    have c3 : w3.cell? ⟨w.heap.size, 0, none⟩ = some (.slice none 0 0) := cell_later hb3 c2
    clear hb3 hvx3 ho3
    go_wp2_with fail
    refine hK.out _ _ ?_ (fun hHeld => ?_)
    · exact c3
    clear hK K
    try simp only [Act.put, List.setIfInBounds_toArray, List.set_cons_zero, List.set_cons_succ]
    refine held_take (i := 7) (d := 16) (v := ?_) rfl rfl (by kernel_rfl) (by kernel_rfl) (by kernel_rfl) (fun _ _ _ h => h) (Or.inl ⟨by rfl, ?_⟩) hHeld ?_
    rotate_left
    · (intro w hSw; (try dsimp only at hSw); go_simp; all_goals (with_reducible rfl))
    try simp only [Act.put, List.setIfInBounds_toArray, List.set_cons_zero, List.set_cons_succ]
    refine wpAnyH_ready (rs := [8]) (by kernel_rfl) (by simp) ?_
    refine AllReadyH.cons rfl (fun K hK => ?_) AllReadyH.nil
    go_simp
    refine hK.out _ _ ?_ (fun hHeld => ?_)
    · exact (World.cell?_setCell_other _ _ _ _ (by simp)).trans c3
    clear hK K
    try simp only [Act.put, List.setIfInBounds_toArray, List.set_cons_zero, List.set_cons_succ]
    refine wpAnyH_done (by kernel_rfl) ?_ _
    refine NoPanic.normal ?_
    go_wp2
    refine bodyPost_ret (v := .agg #[.slice a3 n3 cap3]) (by simp [results, Try.results20, go_sem, s0]) rfl ?_
    exact ⟨_, rfl, HO.out, HB3.out.setCell (by simp) _⟩
  | some ad =>
    obtain ⟨b, off, rfl⟩ := hadr ad rfl
    
    refine wp_region_noPanic ?_
    refine wp_region_held_drew (S := (fun w' => w'.cell? ⟨w.heap.size, 0, none⟩ = some (.slice (some ⟨b, off, none⟩) l.length cap))) (by kernel_rfl) ?_ (fun hHeld => ?_)
    · exact c0
    refine held_take (i := 0) (d := 9) (v := ?_) rfl rfl (by kernel_rfl) (by kernel_rfl) (by kernel_rfl) (fun _ _ _ h => h) (Or.inl ⟨by rfl, ?_⟩) hHeld ?_
    rotate_left
    · (intro w hSw; (try dsimp only at hSw); go_simp; all_goals (with_reducible rfl))
    try simp only [Act.put, List.setIfInBounds_toArray, List.set_cons_zero, List.set_cons_succ]
    refine held_take (i := 1) (d := 10) (v := ?_) rfl rfl (by kernel_rfl) (by kernel_rfl) (by kernel_rfl) (fun _ _ _ h => h) (Or.inl ⟨by rfl, ?_⟩) hHeld ?_
    rotate_left
    · (intro w hSw; (try dsimp only at hSw); go_simp; all_goals (with_reducible rfl))
    try simp only [Act.put, List.setIfInBounds_toArray, List.set_cons_zero, List.set_cons_succ]
    refine held_take (i := 2) (d := 11) (v := ?_) rfl rfl (by kernel_rfl) (by kernel_rfl) (by kernel_rfl) (fun _ _ _ h => h) (Or.inl ⟨by rfl, ?_⟩) hHeld ?_
    rotate_left
    · (intro w hSw; (try dsimp only at hSw); go_simp; all_goals (with_reducible rfl))
    try simp only [Act.put, List.setIfInBounds_toArray, List.set_cons_zero, List.set_cons_succ]
    refine held_take (i := 3) (d := 12) (v := ?_) rfl rfl (by kernel_rfl) (by kernel_rfl) (by kernel_rfl) (fun _ _ _ h => h) (Or.inl ⟨by rfl, ?_⟩) hHeld ?_
    rotate_left
    · (intro w hSw; (try dsimp only at hSw); go_simp; all_goals (with_reducible rfl))
    try simp only [Act.put, List.setIfInBounds_toArray, List.set_cons_zero, List.set_cons_succ]
    refine wpAnyH_ready (rs := [4]) (by kernel_rfl) (by simp) ?_
    refine AllReadyH.cons rfl (fun K hK => ?_) AllReadyH.nil
    go_simp
    refine h2.mono ?_
    clear h2
    rintro e w2 ⟨rfl, hb2⟩
    have HB2 : Hid (Below w.heap.size w w2) := HBd.out.trans (hb2.mono HBd.out.size)
    have hvx2 : w2.heap[w.heap.size + 1]? = some (.cells #[.slice none 0 0] 25) := (hb2.block (w.heap.size + 1) HL1.out).trans HVX.out
    have c2 : w2.cell? ⟨w.heap.size, 0, none⟩ = some (.slice (some ⟨b, off, none⟩) l.length cap) := cell_later hb2 c0
    clear hb2
    have HVX2 : Hid (w2.heap[w.heap.size + 1]? = some (.cells #[.slice none 0 0] 25)) := hvx2
    clear hvx2
    go_wp2_with fail
    refine hK.out _ _ ?_ (fun hHeld => ?_)
    · exact c2
    clear hK K
    try simp only [Act.put, List.setIfInBounds_toArray, List.set_cons_zero, List.set_cons_succ]
    have h3 := clone_any (some ⟨b, off, none⟩) c cap (l.take c) w2 ((HVR.out.later HB2.out).take c (by omega)) (by simp) (by omega)
    refine held_take (i := 5) (d := 14) (v := ?_) rfl rfl (by kernel_rfl) (by kernel_rfl) (by kernel_rfl) (fun _ _ _ h => h) (Or.inl ⟨by rfl, ?_⟩) hHeld ?_
    rotate_left
    · (intro w hSw; (try dsimp only at hSw); go_simp; all_goals (with_reducible rfl))
    try simp only [Act.put, List.setIfInBounds_toArray, List.set_cons_zero, List.set_cons_succ]
    refine wpAnyH_ready (rs := [6]) (by kernel_rfl) (by simp) ?_
    refine AllReadyH.cons rfl (fun K hK => ?_) AllReadyH.nil
    go_simp
    refine h3.mono ?_
    clear h3
    rintro e w3 ⟨v3, rfl, ho3, hb3⟩
    obtain ⟨a3, n3, cap3, rfl⟩ : ∃ a n c, v3 = .slice a n c := by obtain ⟨a, c, e, -⟩ := ho3.slice; exact ⟨_, _, _, e⟩
    have HB3 : Hid (Below w.heap.size w w3) := HB2.out.trans (hb3.mono HB2.out.size)
    have hvx3 := (hb3.block (w.heap.size + 1) (Array.getElem?_eq_some_iff.1 HVX2.out).1).trans HVX2.out
    have HV : Hid (w3.heap[w.heap.size + 1]? = some (.cells #[.slice none 0 0] 25)) := hvx3
    have z0 : w3.cell? ⟨w.heap.size + 1, 0, none⟩ = some (.slice none 0 0) := cell_of_heap HV.out rfl
    have f0 : w3.frozen? ⟨w.heap.size + 1, 0, none⟩ = false := frozen_of_row w3 _ _ _ _ HV.out
    have s0 : ∀ u, (w3.setCell ⟨w.heap.size + 1, 0, none⟩ u).cell? ⟨w.heap.size + 1, 0, none⟩ = some u := fun u => cell_of_heap (heap_setCell_same w3 _ 0 _ 25 u HV.out) rfl
    have HO : Hid (Ob (w3.setCell ⟨w.heap.size + 1, 0, none⟩ (.slice a3 n3 cap3)) (.slice a3 n3 cap3) (undoL l m)) := by
      show Ob _ _ _
      rw [HC.out]
      exact (ho3.set_below (show w.heap.size + 1 < w2.heap.size from (Array.getElem?_eq_some_iff.1 HVX2.out).1) _).ob (by first | (simp; done) | (simp; omega))
    have c3 : w3.cell? ⟨w.heap.size, 0, none⟩ = some (.slice (some ⟨b, off, none⟩) l.length cap) := cell_later hb3 c2
    clear hb3 hvx3 ho3
    go_wp2_with fail
    refine hK.out _ _ ?_ (fun hHeld => ?_)
    · exact c3
    clear hK K
    try simp only [Act.put, List.setIfInBounds_toArray, List.set_cons_zero, List.set_cons_succ]
    refine held_take (i := 7) (d := 16) (v := ?_) rfl rfl (by kernel_rfl) (by kernel_rfl) (by kernel_rfl) (fun _ _ _ h => h) (Or.inl ⟨by rfl, ?_⟩) hHeld ?_
    rotate_left
    · (intro w hSw; (try dsimp only at hSw); go_simp; all_goals (with_reducible rfl))
    try simp only [Act.put, List.setIfInBounds_toArray, List.set_cons_zero, List.set_cons_succ]
    refine wpAnyH_ready (rs := [8]) (by kernel_rfl) (by simp) ?_
    refine AllReadyH.cons rfl (fun K hK => ?_) AllReadyH.nil
    go_simp
    refine hK.out _ _ ?_ (fun hHeld => ?_)
    · exact (World.cell?_setCell_other _ _ _ _ (by simp)).trans c3
    clear hK K
    try simp only [Act.put, List.setIfInBounds_toArray, List.set_cons_zero, List.set_cons_succ]
    refine wpAnyH_done (by kernel_rfl) ?_ _
    refine NoPanic.normal ?_
    go_wp2
    refine bodyPost_ret (v := .agg #[.slice a3 n3 cap3]) (by simp [results, Try.results20, go_sem, s0]) rfl ?_
    exact ⟨_, rfl, HO.out, HB3.out.setCell (by simp) _⟩
end Go.Proofs.Ytmahigfamgbhfaa
