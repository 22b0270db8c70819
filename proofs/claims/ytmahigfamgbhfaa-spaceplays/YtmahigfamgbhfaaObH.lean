/- What an object's calls do: Dirty, and Put where it refuses. -/
import Derived.Test.YtmahigfamgbhfaaObF
import Derived.Deep.RegionHeld3
import Derived.Deep.Cut
namespace Go.Proofs.Ytmahigfamgbhfaa
open Go.RowKit
set_option linter.unusedVariables false


set_option maxRecDepth 100000 in
theorem dirty_wrong (u : Value) (l : List Ver) (m : Int) (w : World) (h : Ob w u l) (hr : rightL l = false) :
    Calls Try.prog 19 #[.agg #[u], .int .i64 m] w fun e w' => e = .returned (.bool false) ∧ Below w.heap.size w w' := by
  obtain ⟨a, cap, rfl, hv, hc, hm, hz, hlen, hadr⟩ := h
  have hB : Below w.heap.size w (w.alloc (.cells #[.slice a l.length cap] 25)).drew := ((Below.refl _ w).alloc (Nat.le_refl _) _).drew
  have hbx : (w.alloc (.cells #[.slice a l.length cap] 25)).drew.heap[w.heap.size]? = some (.cells #[.slice a l.length cap] 25) := heap_alloc_new w _
  have h1 := right_any a l.length cap l _ (hv.later hB)
  rw [hr] at h1
  have HB : Hid (Below w.heap.size w (w.alloc (.cells #[.slice a l.length cap] 25)).drew) := hB
  have HBX : Hid ((w.alloc (.cells #[.slice a l.length cap] 25)).drew.heap[w.heap.size]? = some (.cells #[.slice a l.length cap] 25)) := hbx
  have HVR : Hid (VRow w a l.length l) := hv
  clear hB hbx hv
  go_enter Try.func19, Try.ntmps19
  go_wp2
  refine wp_region_noPanic ?_
  refine wp_region_held_drew (S := (fun w' => w'.cell? ⟨w.heap.size, 0, none⟩ = some (.slice a l.length cap))) (by kernel_rfl) ?_ (fun hHeld => ?_)
  · exact cell_of_heap HBX.out rfl
  refine held_take (i := 0) (d := 5) (v := ?_) rfl rfl (by kernel_rfl) (by kernel_rfl) (by kernel_rfl) (fun _ _ _ h => h) (Or.inl ⟨by rfl, ?_⟩) hHeld ?_
  rotate_left
  · (intro w hSw; (try dsimp only at hSw); go_simp; all_goals (with_reducible rfl))
  try simp only [Act.put, List.setIfInBounds_toArray, List.set_cons_zero, List.set_cons_succ]
  refine wpAnyH_ready (rs := [1]) (by kernel_rfl) (by simp) ?_
  refine AllReadyH.cons rfl (fun K hK => ?_) AllReadyH.nil
  go_simp
  refine h1.mono ?_
  clear h1
  rintro e w1 ⟨rfl, hb1⟩
  have HB1 : Hid (Below w.heap.size w w1) := HB.out.trans (hb1.mono HB.out.size)
  have c1 : w1.cell? ⟨w.heap.size, 0, none⟩ = some (.slice a l.length cap) := cell_later hb1 (cell_of_heap HBX.out rfl)
  clear hb1
  go_wp2_with fail
  refine hK.out _ _ ?_ (fun hHeld => ?_)
  · exact c1
  clear hK K
  try simp only [Act.put, List.setIfInBounds_toArray, List.set_cons_zero, List.set_cons_succ]
  refine held_take (i := 2) (d := 7) (v := ?_) rfl rfl (by kernel_rfl) (by kernel_rfl) (by kernel_rfl) (fun _ _ _ h => h) (Or.inl ⟨by rfl, ?_⟩) hHeld ?_
  rotate_left
  · (intro w hSw; (try dsimp only at hSw); go_simp; all_goals (with_reducible rfl))
  try simp only [Act.put, List.setIfInBounds_toArray, List.set_cons_zero, List.set_cons_succ]
  refine held_take (i := 3) (d := 8) (v := undef) rfl rfl (by kernel_rfl) (by kernel_rfl) (by kernel_rfl) (fun _ _ _ h => h) (Or.inr ⟨by rfl, rfl⟩) hHeld ?_
  try simp only [Act.put, List.setIfInBounds_toArray, List.set_cons_zero, List.set_cons_succ]
  refine held_take (i := 4) (d := 9) (v := undef) rfl rfl (by kernel_rfl) (by kernel_rfl) (by kernel_rfl) (fun _ _ _ h => h) (Or.inr ⟨by rfl, rfl⟩) hHeld ?_
  try simp only [Act.put, List.setIfInBounds_toArray, List.set_cons_zero, List.set_cons_succ]
  refine held_take (i := 5) (d := 10) (v := undef) rfl rfl (by kernel_rfl) (by kernel_rfl) (by kernel_rfl) (fun _ _ _ h => h) (Or.inr ⟨by rfl, rfl⟩) hHeld ?_
  try simp only [Act.put, List.setIfInBounds_toArray, List.set_cons_zero, List.set_cons_succ]
  refine held_take (i := 6) (d := 11) (v := undef) rfl rfl (by kernel_rfl) (by kernel_rfl) (by kernel_rfl) (fun _ _ _ h => h) (Or.inr ⟨by rfl, rfl⟩) hHeld ?_
  try simp only [Act.put, List.setIfInBounds_toArray, List.set_cons_zero, List.set_cons_succ]
  refine held_take (i := 7) (d := 12) (v := undef) rfl rfl (by kernel_rfl) (by kernel_rfl) (by kernel_rfl) (fun _ _ _ h => h) (Or.inr ⟨by rfl, rfl⟩) hHeld ?_
  try simp only [Act.put, List.setIfInBounds_toArray, List.set_cons_zero, List.set_cons_succ]
  refine held_take (i := 8) (d := 13) (v := undef) rfl rfl (by kernel_rfl) (by kernel_rfl) (by kernel_rfl) (fun _ _ _ h => h) (Or.inr ⟨by rfl, rfl⟩) hHeld ?_
  try simp only [Act.put, List.setIfInBounds_toArray, List.set_cons_zero, List.set_cons_succ]
  refine held_take (i := 9) (d := 14) (v := undef) rfl rfl (by kernel_rfl) (by kernel_rfl) (by kernel_rfl) (fun _ _ _ h => h) (Or.inr ⟨by rfl, rfl⟩) hHeld ?_
  try simp only [Act.put, List.setIfInBounds_toArray, List.set_cons_zero, List.set_cons_succ]
  refine held_take (i := 10) (d := 15) (v := ?_) rfl rfl (by kernel_rfl) (by kernel_rfl) (by kernel_rfl) (fun _ _ _ h => h) (Or.inl ⟨by rfl, ?_⟩) hHeld ?_
  rotate_left
  · (intro w hSw; (try dsimp only at hSw); go_simp; all_goals (with_reducible rfl))
  try simp only [Act.put, List.setIfInBounds_toArray, List.set_cons_zero, List.set_cons_succ]
  refine held_take (i := 11) (d := 4) (v := ?_) rfl rfl (by kernel_rfl) (by kernel_rfl) (by kernel_rfl) (fun _ _ _ h => h) (Or.inl ⟨by rfl, ?_⟩) hHeld ?_
  rotate_left
  · (intro w hSw; (try dsimp only at hSw); go_simp; all_goals (with_reducible rfl))
  try simp only [Act.put, List.setIfInBounds_toArray, List.set_cons_zero, List.set_cons_succ]
  refine wpAnyH_done (by kernel_rfl) ?_ _
  refine NoPanic.normal ?_
  go_wp2
  go_ret
  exact ⟨rfl, HB1.out⟩

set_option maxRecDepth 100000 in
theorem dirty_right (u : Value) (l : List Ver) (m : Int) (w : World) (h : Ob w u l) (hr : rightL l = true) :
    Calls Try.prog 19 #[.agg #[u], .int .i64 m] w fun e w' => e = .returned (.bool (decide (upTo l m < l.length))) ∧ Below w.heap.size w w' := by
  obtain ⟨a, cap, rfl, hv, hc, hm, hz, hlen, hadr⟩ := h
  have hB : Below w.heap.size w (w.alloc (.cells #[.slice a l.length cap] 25)).drew := ((Below.refl _ w).alloc (Nat.le_refl _) _).drew
  have hbx : (w.alloc (.cells #[.slice a l.length cap] 25)).drew.heap[w.heap.size]? = some (.cells #[.slice a l.length cap] 25) := heap_alloc_new w _
  have h1 := right_any a l.length cap l _ (hv.later hB)
  rw [hr] at h1
  have HB : Hid (Below w.heap.size w (w.alloc (.cells #[.slice a l.length cap] 25)).drew) := hB
  have HBX : Hid ((w.alloc (.cells #[.slice a l.length cap] 25)).drew.heap[w.heap.size]? = some (.cells #[.slice a l.length cap] 25)) := hbx
  have HVR : Hid (VRow w a l.length l) := hv
  clear hB hbx hv
  go_enter Try.func19, Try.ntmps19
  go_wp2
  refine wp_region_noPanic ?_
  refine wp_region_held_drew (S := (fun w' => w'.cell? ⟨w.heap.size, 0, none⟩ = some (.slice a l.length cap))) (by kernel_rfl) ?_ (fun hHeld => ?_)
  · exact cell_of_heap HBX.out rfl
  refine held_take (i := 0) (d := 5) (v := ?_) rfl rfl (by kernel_rfl) (by kernel_rfl) (by kernel_rfl) (fun _ _ _ h => h) (Or.inl ⟨by rfl, ?_⟩) hHeld ?_
  rotate_left
  · (intro w hSw; (try dsimp only at hSw); go_simp; all_goals (with_reducible rfl))
  try simp only [Act.put, List.setIfInBounds_toArray, List.set_cons_zero, List.set_cons_succ]
  refine wpAnyH_ready (rs := [1]) (by kernel_rfl) (by simp) ?_
  refine AllReadyH.cons rfl (fun K hK => ?_) AllReadyH.nil
  go_simp
  refine h1.mono ?_
  clear h1
  rintro e w1 ⟨rfl, hb1⟩
  have HB1 : Hid (Below w.heap.size w w1) := HB.out.trans (hb1.mono HB.out.size)
  have c1 : w1.cell? ⟨w.heap.size, 0, none⟩ = some (.slice a l.length cap) := cell_later hb1 (cell_of_heap HBX.out rfl)
  clear hb1
  go_wp2_with fail
  refine hK.out _ _ ?_ (fun hHeld => ?_)
  · exact c1
  clear hK K
  try simp only [Act.put, List.setIfInBounds_toArray, List.set_cons_zero, List.set_cons_succ]
  have h2 := upTo_any a l.length cap m l w1 (HVR.out.later HB1.out) (right_rises hr) hlen
  have hdec : decide ((upTo l m : Int) < (l.length : Int)) = decide (upTo l m < l.length) := by by_cases hh : upTo l m < l.length <;> simp [hh] <;> omega
  generalize hcq : upTo l m = c at *
  have HCQ : Hid (upTo l m = c) := hcq
  clear hcq
  refine held_take (i := 2) (d := 7) (v := ?_) rfl rfl (by kernel_rfl) (by kernel_rfl) (by kernel_rfl) (fun _ _ _ h => h) (Or.inl ⟨by rfl, ?_⟩) hHeld ?_
  rotate_left
  · (intro w hSw; (try dsimp only at hSw); go_simp; all_goals (with_reducible rfl))
  try simp only [Act.put, List.setIfInBounds_toArray, List.set_cons_zero, List.set_cons_succ]
  refine held_take (i := 3) (d := 8) (v := ?_) rfl rfl (by kernel_rfl) (by kernel_rfl) (by kernel_rfl) (fun _ _ _ h => h) (Or.inl ⟨by rfl, ?_⟩) hHeld ?_
  rotate_left
  · (intro w hSw; (try dsimp only at hSw); go_simp; all_goals (with_reducible rfl))
  try simp only [Act.put, List.setIfInBounds_toArray, List.set_cons_zero, List.set_cons_succ]
  refine held_take (i := 4) (d := 9) (v := ?_) rfl rfl (by kernel_rfl) (by kernel_rfl) (by kernel_rfl) (fun _ _ _ h => h) (Or.inl ⟨by rfl, ?_⟩) hHeld ?_
  rotate_left
  · (intro w hSw; (try dsimp only at hSw); go_simp; all_goals (with_reducible rfl))
  try simp only [Act.put, List.setIfInBounds_toArray, List.set_cons_zero, List.set_cons_succ]
  refine held_take (i := 6) (d := 11) (v := ?_) rfl rfl (by kernel_rfl) (by kernel_rfl) (by kernel_rfl) (fun _ _ _ h => h) (Or.inl ⟨by rfl, ?_⟩) hHeld ?_
  rotate_left
  · (intro w hSw; (try dsimp only at hSw); go_simp; all_goals (with_reducible rfl))
  try simp only [Act.put, List.setIfInBounds_toArray, List.set_cons_zero, List.set_cons_succ]
  refine held_take (i := 7) (d := 12) (v := ?_) rfl rfl (by kernel_rfl) (by kernel_rfl) (by kernel_rfl) (fun _ _ _ h => h) (Or.inl ⟨by rfl, ?_⟩) hHeld ?_
  rotate_left
  · (intro w hSw; (try dsimp only at hSw); go_simp; all_goals (with_reducible rfl))
  try simp only [Act.put, List.setIfInBounds_toArray, List.set_cons_zero, List.set_cons_succ]
  refine held_take (i := 8) (d := 13) (v := ?_) rfl rfl (by kernel_rfl) (by kernel_rfl) (by kernel_rfl) (fun _ _ _ h => h) (Or.inl ⟨by rfl, ?_⟩) hHeld ?_
  rotate_left
  · (intro w hSw; (try dsimp only at hSw); go_simp; all_goals (with_reducible rfl))
  try simp only [Act.put, List.setIfInBounds_toArray, List.set_cons_zero, List.set_cons_succ]
  refine wpAnyH_ready (rs := [5]) (by kernel_rfl) (by simp) ?_
  refine AllReadyH.cons rfl (fun K hK => ?_) AllReadyH.nil
  go_simp
  refine h2.mono ?_
  clear h2
  rintro e w2 ⟨rfl, hb2⟩
  have HB2 : Hid (Below w.heap.size w w2) := HB1.out.trans (hb2.mono HB1.out.size)
  have c2 : w2.cell? ⟨w.heap.size, 0, none⟩ = some (.slice a l.length cap) := cell_later hb2 c1
  clear hb2
  go_wp2_with fail
  refine hK.out _ _ ?_ (fun hHeld => ?_)
  · exact c2
  clear hK K
  try simp only [Act.put, List.setIfInBounds_toArray, List.set_cons_zero, List.set_cons_succ]
  refine held_take (i := 9) (d := 14) (v := ?_) rfl rfl (by kernel_rfl) (by kernel_rfl) (by kernel_rfl) (fun _ _ _ h => h) (Or.inl ⟨by rfl, ?_⟩) hHeld ?_
  rotate_left
  · (intro w hSw; (try dsimp only at hSw); go_simp; all_goals (with_reducible rfl))
  try simp only [Act.put, List.setIfInBounds_toArray, List.set_cons_zero, List.set_cons_succ]
  refine held_take (i := 10) (d := 15) (v := ?_) rfl rfl (by kernel_rfl) (by kernel_rfl) (by kernel_rfl) (fun _ _ _ h => h) (Or.inl ⟨by rfl, ?_⟩) hHeld ?_
  rotate_left
  · (intro w hSw; (try dsimp only at hSw); go_simp; all_goals (with_reducible rfl))
  try simp only [Act.put, List.setIfInBounds_toArray, List.set_cons_zero, List.set_cons_succ]
  refine held_take (i := 11) (d := 4) (v := ?_) rfl rfl (by kernel_rfl) (by kernel_rfl) (by kernel_rfl) (fun _ _ _ h => h) (Or.inl ⟨by rfl, ?_⟩) hHeld ?_
  rotate_left
  · (intro w hSw; (try dsimp only at hSw); go_simp; all_goals (with_reducible rfl))
  try simp only [Act.put, List.setIfInBounds_toArray, List.set_cons_zero, List.set_cons_succ]
  refine wpAnyH_done (by kernel_rfl) ?_ _
  refine NoPanic.normal ?_
  go_wp2
  go_ret
  refine ⟨?_, HB2.out⟩
  rw [HCQ.out, ← hdec]
  rfl

theorem put_wrong (u : Value) (l : List Ver) (p : Int) (s : ByteArray) (g : Bool) (w : World) (h : Ob w u l) (hr : rightL l = false) :
    Calls Try.prog 16 #[.agg #[u], .int .i64 p, .string s, .bool g] w fun e w' => e = .returned (.tuple #[.agg #[.slice none 0 0], .int .i64 1]) ∧ Below w.heap.size w w' := by
  obtain ⟨a, cap, rfl, hv, hc, hm, hz, hlen, hadr⟩ := h
  have HB : Hid (Below w.heap.size w ((w.alloc (.cells #[.slice a l.length cap] 25)).alloc (.cells #[.slice none 0 0] 25))) := ((Below.refl _ w).alloc (Nat.le_refl _) _).alloc (by simp) _
  have hbx : ((w.alloc (.cells #[.slice a l.length cap] 25)).alloc (.cells #[.slice none 0 0] 25)).heap[w.heap.size]? = some (.cells #[.slice a l.length cap] 25) := (heap_alloc_old _ _ (by simp)).trans (heap_alloc_new w _)
  have hvx : ((w.alloc (.cells #[.slice a l.length cap] 25)).alloc (.cells #[.slice none 0 0] 25)).heap[w.heap.size + 1]? = some (.cells #[.slice none 0 0] 25) := by
    have := heap_alloc_new (w.alloc (.cells #[.slice a l.length cap] 25)) (.cells #[.slice none 0 0] 25)
    rwa [World.size_alloc] at this
  have h1 := right_any a l.length cap l _ (hv.later HB.out)
  rw [hr] at h1
  go_enter Try.func16, Try.ntmps16
  go_wp2_with fail
  refine h1.mono ?_
  clear h1
  rintro e w1 ⟨rfl, hb1⟩
  have HB1 : Hid (Below w.heap.size w w1) := HB.out.trans (hb1.mono HB.out.size)
  have hbx1 := (hb1.block w.heap.size (Array.getElem?_eq_some_iff.1 hbx).1).trans hbx
  have hvx1 := (hb1.block (w.heap.size + 1) (Array.getElem?_eq_some_iff.1 hvx).1).trans hvx
  have HVR : Hid (VRow w a l.length l) := hv
  clear HB hbx hvx hb1 hv
  have c0 : w1.cell? ⟨w.heap.size, 0, none⟩ = some (.slice a l.length cap) := cell_of_heap hbx1 rfl
  have HV : Hid (w1.heap[w.heap.size + 1]? = some (.cells #[.slice none 0 0] 25)) := hvx1
  have z0 : w1.cell? ⟨w.heap.size + 1, 0, none⟩ = some (.slice none 0 0) := cell_of_heap HV.out rfl
  have f0 : w1.frozen? ⟨w.heap.size + 1, 0, none⟩ = false := frozen_of_row w1 _ _ _ _ HV.out
  have s0 : ∀ u, (w1.setCell ⟨w.heap.size + 1, 0, none⟩ u).cell? ⟨w.heap.size + 1, 0, none⟩ = some u := fun u => cell_of_heap (heap_setCell_same w1 _ 0 _ 25 u HV.out) rfl
  clear hbx1 hvx1
  go_wp2
  refine bodyPost_ret (v := .tuple #[.agg #[.slice none 0 0], .int .i64 1]) (by simp [results, Try.results16, go_sem, s0]) rfl ?_
  exact ⟨rfl, HB1.out.setCell (by simp) _⟩

set_option maxHeartbeats 1000000 in
theorem put_arg (u : Value) (l : List Ver) (p : Int) (s : ByteArray) (g : Bool) (w : World) (h : Ob w u l) (hr : rightL l = true) (hs : s.size ≤ maxLen) (hno : p ≤ (lastL l).pos ∨ may s g = false) :
    Calls Try.prog 16 #[.agg #[u], .int .i64 p, .string s, .bool g] w fun e w' => e = .returned (.tuple #[.agg #[.slice none 0 0], .int .i64 1]) ∧ Below w.heap.size w w' := by
  obtain ⟨a, cap, rfl, hv, hc, hm, hz, hlen, hadr⟩ := h
  have HB : Hid (Below w.heap.size w ((w.alloc (.cells #[.slice a l.length cap] 25)).alloc (.cells #[.slice none 0 0] 25))) := ((Below.refl _ w).alloc (Nat.le_refl _) _).alloc (by simp) _
  have hbx : ((w.alloc (.cells #[.slice a l.length cap] 25)).alloc (.cells #[.slice none 0 0] 25)).heap[w.heap.size]? = some (.cells #[.slice a l.length cap] 25) := (heap_alloc_old _ _ (by simp)).trans (heap_alloc_new w _)
  have hvx : ((w.alloc (.cells #[.slice a l.length cap] 25)).alloc (.cells #[.slice none 0 0] 25)).heap[w.heap.size + 1]? = some (.cells #[.slice none 0 0] 25) := by
    have := heap_alloc_new (w.alloc (.cells #[.slice a l.length cap] 25)) (.cells #[.slice none 0 0] 25)
    rwa [World.size_alloc] at this
  have h1 := right_any a l.length cap l _ (hv.later HB.out)
  rw [hr] at h1
  go_enter Try.func16, Try.ntmps16
  go_wp2_with fail
  refine h1.mono ?_
  clear h1
  rintro e w1 ⟨rfl, hb1⟩
  have HB1 : Hid (Below w.heap.size w w1) := HB.out.trans (hb1.mono HB.out.size)
  have hbx1 := (hb1.block w.heap.size (Array.getElem?_eq_some_iff.1 hbx).1).trans hbx
  have hvx1 := (hb1.block (w.heap.size + 1) (Array.getElem?_eq_some_iff.1 hvx).1).trans hvx
  have HVR : Hid (VRow w a l.length l) := hv
  clear HB hbx hvx hb1 hv
  have c0 : w1.cell? ⟨w.heap.size, 0, none⟩ = some (.slice a l.length cap) := cell_of_heap hbx1 rfl
  have h2 := last_any a l.length cap l w1 (HVR.out.later HB1.out)
  go_wp2_with fail
  refine h2.mono ?_
  clear h2
  rintro e w2 ⟨rfl, hb2⟩
  have hvx2 := (hb2.block (w.heap.size + 1) (Array.getElem?_eq_some_iff.1 hvx1).1).trans hvx1
  have HB2 : Hid (Below w.heap.size w w2) := HB1.out.trans (hb2.mono HB1.out.size)
  have c2 : w2.cell? ⟨w.heap.size, 0, none⟩ = some (.slice a l.length cap) := cell_later hb2 c0
  have hby : Below w2.heap.size w2 (w2.alloc (.cells #[.int .i64 (lastL l).pos, .int .u64 ((lastL l).num : Nat), .string (lastL l).val, .bool (lastL l).gone] 36)) := (Below.refl _ _).alloc (Nat.le_refl _) _
  have HB3 : Hid (Below w.heap.size w (w2.alloc (.cells #[.int .i64 (lastL l).pos, .int .u64 ((lastL l).num : Nat), .string (lastL l).val, .bool (lastL l).gone] 36))) := HB2.out.trans (hby.mono HB2.out.size)
  have hlt2 : w.heap.size + 1 < w2.heap.size := (Array.getElem?_eq_some_iff.1 hvx2).1
  have hvx3 := (hby.block (w.heap.size + 1) hlt2).trans hvx2
  have hnum : (lastL l).num < 18446744073709551616 := (HVR.out.okn _).num
  clear hb2 c0 hbx1 hvx1 HB1 hby
  generalize hL : lastL l = v at *
  have HLV : Hid (lastL l = v) := hL
  clear hL
  have hv10 : VarV (w2.alloc (.cells #[.int .i64 v.pos, .int .u64 (v.num : Nat), .string v.val, .bool v.gone] 36)) w2.heap.size 36 v := heap_alloc_new w2 _
  have cb3 : (w2.alloc (.cells #[.int .i64 v.pos, .int .u64 (v.num : Nat), .string v.val, .bool v.gone] 36)).cell? ⟨w.heap.size, 0, none⟩ = some (.slice a l.length cap) := cell_later ((Below.refl _ _).alloc (Nat.le_refl _) _) c2
  go_upto_region 4 with fail
  generalize w2.alloc (.cells #[.int .i64 v.pos, .int .u64 (v.num : Nat), .string v.val, .bool v.gone] 36) = w3 at *
  obtain ⟨t0, t1, t2, t3⟩ := hv10.cells
  have hle2 : w.heap.size + 1 < w2.heap.size := hlt2
  generalize w2.heap.size = p10 at *
  have HV10 : Hid (VarV w3 p10 36 v) := hv10
  clear c2 hlt2 hv10 hvx2
  have HV : Hid (w3.heap[w.heap.size + 1]? = some (.cells #[.slice none 0 0] 25)) := hvx3
  have z0 : w3.cell? ⟨w.heap.size + 1, 0, none⟩ = some (.slice none 0 0) := cell_of_heap HV.out rfl
  have f0 : w3.frozen? ⟨w.heap.size + 1, 0, none⟩ = false := frozen_of_row w3 _ _ _ _ HV.out
  have s0 : ∀ u, (w3.setCell ⟨w.heap.size + 1, 0, none⟩ u).cell? ⟨w.heap.size + 1, 0, none⟩ = some u := fun u => cell_of_heap (heap_setCell_same w3 _ 0 _ 25 u HV.out) rfl
  clear hvx3
  by_cases hp : p ≤ v.pos
  · go_wp2
    refine bodyPost_ret (v := .tuple #[.agg #[.slice none 0 0], .int .i64 1]) (by simp [results, Try.results16, go_sem, s0]) rfl ?_
    exact ⟨rfl, HB3.out.setCell (by simp) _⟩
  · have hmay : may s g = false := by rcases hno with h | h; (exact absurd h hp); exact h
    have h3 := mayStand_any s g w3 hs
    rw [hmay] at h3
    clear hno hmay
    go_wp2_with fail
    refine h3.mono ?_
    rintro e w4 ⟨rfl, hw⟩
    subst w4
    go_wp2
    refine bodyPost_ret (v := .tuple #[.agg #[.slice none 0 0], .int .i64 1]) (by simp [results, Try.results16, go_sem, s0]) rfl ?_
    exact ⟨rfl, HB3.out.setCell (by simp) _⟩

set_option maxHeartbeats 1000000 in
theorem put_full (u : Value) (l : List Ver) (p : Int) (s : ByteArray) (g : Bool) (w : World) (h : Ob w u l) (hr : rightL l = true) (hs : s.size ≤ maxLen) (hp : (lastL l).pos < p) (hmay : may s g = true) (hfull : (lastL l).num = 18446744073709551615) :
    Calls Try.prog 16 #[.agg #[u], .int .i64 p, .string s, .bool g] w fun e w' => e = .returned (.tuple #[.agg #[.slice none 0 0], .int .i64 9]) ∧ Below w.heap.size w w' := by
  have HFull : Hid ((lastL l).num = 18446744073709551615) := hfull
  clear hfull
  obtain ⟨a, cap, rfl, hv, hc, hm, hz, hlen, hadr⟩ := h
  have HB : Hid (Below w.heap.size w ((w.alloc (.cells #[.slice a l.length cap] 25)).alloc (.cells #[.slice none 0 0] 25))) := ((Below.refl _ w).alloc (Nat.le_refl _) _).alloc (by simp) _
  have hbx : ((w.alloc (.cells #[.slice a l.length cap] 25)).alloc (.cells #[.slice none 0 0] 25)).heap[w.heap.size]? = some (.cells #[.slice a l.length cap] 25) := (heap_alloc_old _ _ (by simp)).trans (heap_alloc_new w _)
  have hvx : ((w.alloc (.cells #[.slice a l.length cap] 25)).alloc (.cells #[.slice none 0 0] 25)).heap[w.heap.size + 1]? = some (.cells #[.slice none 0 0] 25) := by
    have := heap_alloc_new (w.alloc (.cells #[.slice a l.length cap] 25)) (.cells #[.slice none 0 0] 25)
    rwa [World.size_alloc] at this
  have h1 := right_any a l.length cap l _ (hv.later HB.out)
  rw [hr] at h1
  go_enter Try.func16, Try.ntmps16
  go_wp2_with fail
  refine h1.mono ?_
  clear h1
  rintro e w1 ⟨rfl, hb1⟩
  have HB1 : Hid (Below w.heap.size w w1) := HB.out.trans (hb1.mono HB.out.size)
  have hbx1 := (hb1.block w.heap.size (Array.getElem?_eq_some_iff.1 hbx).1).trans hbx
  have hvx1 := (hb1.block (w.heap.size + 1) (Array.getElem?_eq_some_iff.1 hvx).1).trans hvx
  have HVR : Hid (VRow w a l.length l) := hv
  clear HB hbx hvx hb1 hv
  have c0 : w1.cell? ⟨w.heap.size, 0, none⟩ = some (.slice a l.length cap) := cell_of_heap hbx1 rfl
  have h2 := last_any a l.length cap l w1 (HVR.out.later HB1.out)
  go_wp2_with fail
  refine h2.mono ?_
  clear h2
  rintro e w2 ⟨rfl, hb2⟩
  have hvx2 := (hb2.block (w.heap.size + 1) (Array.getElem?_eq_some_iff.1 hvx1).1).trans hvx1
  have HB2 : Hid (Below w.heap.size w w2) := HB1.out.trans (hb2.mono HB1.out.size)
  have c2 : w2.cell? ⟨w.heap.size, 0, none⟩ = some (.slice a l.length cap) := cell_later hb2 c0
  have hby : Below w2.heap.size w2 (w2.alloc (.cells #[.int .i64 (lastL l).pos, .int .u64 ((lastL l).num : Nat), .string (lastL l).val, .bool (lastL l).gone] 36)) := (Below.refl _ _).alloc (Nat.le_refl _) _
  have HB3 : Hid (Below w.heap.size w (w2.alloc (.cells #[.int .i64 (lastL l).pos, .int .u64 ((lastL l).num : Nat), .string (lastL l).val, .bool (lastL l).gone] 36))) := HB2.out.trans (hby.mono HB2.out.size)
  have hlt2 : w.heap.size + 1 < w2.heap.size := (Array.getElem?_eq_some_iff.1 hvx2).1
  have hvx3 := (hby.block (w.heap.size + 1) hlt2).trans hvx2
  have hnum : (lastL l).num < 18446744073709551616 := (HVR.out.okn _).num
  clear hb2 c0 hbx1 hvx1 HB1 hby
  generalize hL : lastL l = v at *
  have HLV : Hid (lastL l = v) := hL
  clear hL
  have hv10 : VarV (w2.alloc (.cells #[.int .i64 v.pos, .int .u64 (v.num : Nat), .string v.val, .bool v.gone] 36)) w2.heap.size 36 v := heap_alloc_new w2 _
  have cb3 : (w2.alloc (.cells #[.int .i64 v.pos, .int .u64 (v.num : Nat), .string v.val, .bool v.gone] 36)).cell? ⟨w.heap.size, 0, none⟩ = some (.slice a l.length cap) := cell_later ((Below.refl _ _).alloc (Nat.le_refl _) _) c2
  go_upto_region 4 with fail
  generalize w2.alloc (.cells #[.int .i64 v.pos, .int .u64 (v.num : Nat), .string v.val, .bool v.gone] 36) = w3 at *
  obtain ⟨t0, t1, t2, t3⟩ := hv10.cells
  have hle2 : w.heap.size + 1 < w2.heap.size := hlt2
  generalize w2.heap.size = p10 at *
  have HV10 : Hid (VarV w3 p10 36 v) := hv10
  clear c2 hlt2 hv10 hvx2
  have HV : Hid (w3.heap[w.heap.size + 1]? = some (.cells #[.slice none 0 0] 25)) := hvx3
  have z0 : w3.cell? ⟨w.heap.size + 1, 0, none⟩ = some (.slice none 0 0) := cell_of_heap HV.out rfl
  have f0 : w3.frozen? ⟨w.heap.size + 1, 0, none⟩ = false := frozen_of_row w3 _ _ _ _ HV.out
  have s0 : ∀ u, (w3.setCell ⟨w.heap.size + 1, 0, none⟩ u).cell? ⟨w.heap.size + 1, 0, none⟩ = some u := fun u => cell_of_heap (heap_setCell_same w3 _ 0 _ 25 u HV.out) rfl
  clear hvx3
  have h3 := mayStand_any s g w3 hs
  rw [hmay] at h3
  clear hmay
  have e1 : ((v.num : Int) == 18446744073709551615) = true := by have := HFull.out; simp; omega
  have hp2 : ¬ p ≤ v.pos := by omega
  clear hp
  go_wp2_with fail
  refine h3.mono ?_
  rintro e w4 ⟨rfl, hw⟩
  subst w4
  go_wp2
  refine bodyPost_ret (v := .tuple #[.agg #[.slice none 0 0], .int .i64 9]) (by simp [results, Try.results16, go_sem, s0]) rfl ?_
  exact ⟨rfl, HB3.out.setCell (by simp) _⟩
end Go.Proofs.Ytmahigfamgbhfaa
