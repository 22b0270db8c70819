/- What an object's calls do: Read of one that is not right, Last, Clean, Undo. -/
import Derived.Test.YtmahigfamgbhfaaObE
import Derived.Deep.RegionHeld3
namespace Go.Proofs.Ytmahigfamgbhfaa
open Go.RowKit
set_option linter.unusedVariables false


theorem read_wrong (u : Value) (l : List Ver) (m : Int) (w : World) (h : Ob w u l) (hr : rightL l = false) :
    Calls Try.prog 17 #[.agg #[u], .int .i64 m] w fun e w' => e = .returned (.tuple #[Ver.zero.value, .bool false]) ∧ Below w.heap.size w w' := by
  obtain ⟨a, cap, rfl, hv, hc, hm, hz, hlen, hadr⟩ := h
  have HB : Hid (Below w.heap.size w ((w.alloc (.cells #[.slice a l.length cap] 25)).alloc (.cells #[.int .i64 0, .int .u64 0, .string ⟨#[]⟩, .bool false] 36))) := ((Below.refl _ w).alloc (Nat.le_refl _) _).alloc (by simp) _
  have hbx : ((w.alloc (.cells #[.slice a l.length cap] 25)).alloc (.cells #[.int .i64 0, .int .u64 0, .string ⟨#[]⟩, .bool false] 36)).heap[w.heap.size]? = some (.cells #[.slice a l.length cap] 25) := (heap_alloc_old _ _ (by simp)).trans (heap_alloc_new w _)
  have hvx : ((w.alloc (.cells #[.slice a l.length cap] 25)).alloc (.cells #[.int .i64 0, .int .u64 0, .string ⟨#[]⟩, .bool false] 36)).heap[w.heap.size + 1]? = some (.cells #[.int .i64 0, .int .u64 0, .string ⟨#[]⟩, .bool false] 36) := by
    have := heap_alloc_new (w.alloc (.cells #[.slice a l.length cap] 25)) (.cells #[.int .i64 0, .int .u64 0, .string ⟨#[]⟩, .bool false] 36)
    rwa [World.size_alloc] at this
  have h1 := right_any a l.length cap l _ (hv.later HB.out)
  rw [hr] at h1
  go_enter Try.func17, Try.ntmps17
  go_wp2_with fail
  refine h1.mono ?_
  clear h1
  rintro e w1 ⟨rfl, hb1⟩
  have HB1 : Hid (Below w.heap.size w w1) := HB.out.trans (hb1.mono HB.out.size)
  have hbx1 := (hb1.block w.heap.size (Array.getElem?_eq_some_iff.1 hbx).1).trans hbx
  have hvx1 := (hb1.block (w.heap.size + 1) (Array.getElem?_eq_some_iff.1 hvx).1).trans hvx
  have HVR : Hid (VRow w a l.length l) := hv
  clear HB hbx hvx hb1 hv
  have c0 : w1.cell? ⟨w.heap.size, 0, none⟩ = some (.slice a l.length cap) := cell_of_heap hbx1 rfl
  have HV : Hid (VarV w1 (w.heap.size + 1) 36 Ver.zero) := hvx1
  obtain ⟨z0, z1, z2, z3⟩ := HV.out.cells
  have f0 := HV.out.free 0
  have f1 := HV.out.free 1
  have f2 := HV.out.free 2
  have f3 := HV.out.free 3
  obtain ⟨s0, s1, s2, s3⟩ := HV.out.sets
  clear hbx1 hvx1
  go_wp2
  refine bodyPost_ret (v := .tuple #[Ver.zero.value, .bool false]) (by simp [results, Try.results17, go_sem, s0, s1, s2, s3, Ver.zero]) rfl ?_
  exact ⟨rfl, below_set4 HB1.out (by omega)⟩

theorem lastm_wrong (u : Value) (l : List Ver) (w : World) (h : Ob w u l) (hr : rightL l = false) :
    Calls Try.prog 18 #[.agg #[u]] w fun e w' => e = .returned Ver.zero.value ∧ Below w.heap.size w w' := by
  obtain ⟨a, cap, rfl, hv, hc, hm, hz, hlen, hadr⟩ := h
  have HB : Hid (Below w.heap.size w ((w.alloc (.cells #[.slice a l.length cap] 25)).alloc (.cells #[.int .i64 0, .int .u64 0, .string ⟨#[]⟩, .bool false] 36))) := ((Below.refl _ w).alloc (Nat.le_refl _) _).alloc (by simp) _
  have hbx : ((w.alloc (.cells #[.slice a l.length cap] 25)).alloc (.cells #[.int .i64 0, .int .u64 0, .string ⟨#[]⟩, .bool false] 36)).heap[w.heap.size]? = some (.cells #[.slice a l.length cap] 25) := (heap_alloc_old _ _ (by simp)).trans (heap_alloc_new w _)
  have hvx : ((w.alloc (.cells #[.slice a l.length cap] 25)).alloc (.cells #[.int .i64 0, .int .u64 0, .string ⟨#[]⟩, .bool false] 36)).heap[w.heap.size + 1]? = some (.cells #[.int .i64 0, .int .u64 0, .string ⟨#[]⟩, .bool false] 36) := by
    have := heap_alloc_new (w.alloc (.cells #[.slice a l.length cap] 25)) (.cells #[.int .i64 0, .int .u64 0, .string ⟨#[]⟩, .bool false] 36)
    rwa [World.size_alloc] at this
  have h1 := right_any a l.length cap l _ (hv.later HB.out)
  rw [hr] at h1
  go_enter Try.func18, Try.ntmps18
  go_wp2_with fail
  refine h1.mono ?_
  clear h1
  rintro e w1 ⟨rfl, hb1⟩
  have HB1 : Hid (Below w.heap.size w w1) := HB.out.trans (hb1.mono HB.out.size)
  have hbx1 := (hb1.block w.heap.size (Array.getElem?_eq_some_iff.1 hbx).1).trans hbx
  have hvx1 := (hb1.block (w.heap.size + 1) (Array.getElem?_eq_some_iff.1 hvx).1).trans hvx
  have HVR : Hid (VRow w a l.length l) := hv
  clear HB hbx hvx hb1 hv
  have c0 : w1.cell? ⟨w.heap.size, 0, none⟩ = some (.slice a l.length cap) := cell_of_heap hbx1 rfl
  have HV : Hid (VarV w1 (w.heap.size + 1) 36 Ver.zero) := hvx1
  obtain ⟨z0, z1, z2, z3⟩ := HV.out.cells
  have f0 := HV.out.free 0
  have f1 := HV.out.free 1
  have f2 := HV.out.free 2
  have f3 := HV.out.free 3
  obtain ⟨s0, s1, s2, s3⟩ := HV.out.sets
  clear hbx1 hvx1
  go_wp2
  refine bodyPost_ret (v := Ver.zero.value) (by simp [results, Try.results18, go_sem, s0, s1, s2, s3, Ver.zero]) rfl ?_
  exact ⟨rfl, below_set4 HB1.out (by omega)⟩

theorem lastm_right (u : Value) (l : List Ver) (w : World) (h : Ob w u l) (hr : rightL l = true) :
    Calls Try.prog 18 #[.agg #[u]] w fun e w' => e = .returned (lastL l).value ∧ Below w.heap.size w w' := by
  obtain ⟨a, cap, rfl, hv, hc, hm, hz, hlen, hadr⟩ := h
  have HB : Hid (Below w.heap.size w ((w.alloc (.cells #[.slice a l.length cap] 25)).alloc (.cells #[.int .i64 0, .int .u64 0, .string ⟨#[]⟩, .bool false] 36))) := ((Below.refl _ w).alloc (Nat.le_refl _) _).alloc (by simp) _
  have hbx : ((w.alloc (.cells #[.slice a l.length cap] 25)).alloc (.cells #[.int .i64 0, .int .u64 0, .string ⟨#[]⟩, .bool false] 36)).heap[w.heap.size]? = some (.cells #[.slice a l.length cap] 25) := (heap_alloc_old _ _ (by simp)).trans (heap_alloc_new w _)
  have hvx : ((w.alloc (.cells #[.slice a l.length cap] 25)).alloc (.cells #[.int .i64 0, .int .u64 0, .string ⟨#[]⟩, .bool false] 36)).heap[w.heap.size + 1]? = some (.cells #[.int .i64 0, .int .u64 0, .string ⟨#[]⟩, .bool false] 36) := by
    have := heap_alloc_new (w.alloc (.cells #[.slice a l.length cap] 25)) (.cells #[.int .i64 0, .int .u64 0, .string ⟨#[]⟩, .bool false] 36)
    rwa [World.size_alloc] at this
  have h1 := right_any a l.length cap l _ (hv.later HB.out)
  rw [hr] at h1
  go_enter Try.func18, Try.ntmps18
  go_wp2_with fail
  refine h1.mono ?_
  clear h1
  rintro e w1 ⟨rfl, hb1⟩
  have HB1 : Hid (Below w.heap.size w w1) := HB.out.trans (hb1.mono HB.out.size)
  have hbx1 := (hb1.block w.heap.size (Array.getElem?_eq_some_iff.1 hbx).1).trans hbx
  have hvx1 := (hb1.block (w.heap.size + 1) (Array.getElem?_eq_some_iff.1 hvx).1).trans hvx
  have HVR : Hid (VRow w a l.length l) := hv
  clear HB hbx hvx hb1 hv
  have c0 : w1.cell? ⟨w.heap.size, 0, none⟩ = some (.slice a l.length cap) := cell_of_heap hbx1 rfl
  have h2 := last_any a l.length cap l w1 (HVR.out.later HB1.out)
  go_wp2_with fail
  refine h2.mono ?_
  clear h2
  rintro e w2 ⟨rfl, hb2⟩
  have HB2 : Hid (Below w.heap.size w w2) := HB1.out.trans (hb2.mono HB1.out.size)
  have hvx2 := (hb2.block (w.heap.size + 1) (Array.getElem?_eq_some_iff.1 hvx1).1).trans hvx1
  have HV : Hid (VarV w2 (w.heap.size + 1) 36 Ver.zero) := hvx2
  obtain ⟨z0, z1, z2, z3⟩ := HV.out.cells
  have f0 := HV.out.free 0
  have f1 := HV.out.free 1
  have f2 := HV.out.free 2
  have f3 := HV.out.free 3
  obtain ⟨s0, s1, s2, s3⟩ := HV.out.sets
  clear hbx1 hvx1 hvx2 hb2 c0
  generalize hL : lastL l = v
  have HL : Hid (lastL l = v) := hL
  clear hL
  go_wp2
  refine bodyPost_ret (v := v.value) (by simp [results, Try.results18, go_sem, s0, s1, s2, s3]) rfl ?_
  exact ⟨by rw [HL.out], below_set4 HB2.out (by omega)⟩

theorem clean_wrong (u : Value) (l : List Ver) (m : Int) (w : World) (h : Ob w u l) (hr : rightL l = false) :
    Calls Try.prog 21 #[.agg #[u], .int .i64 m] w fun e w' => e = .returned (.agg #[.slice none 0 0]) ∧ Below w.heap.size w w' := by
  obtain ⟨a, cap, rfl, hv, hc, hm, hz, hlen, hadr⟩ := h
  have HB : Hid (Below w.heap.size w ((w.alloc (.cells #[.slice a l.length cap] 25)).alloc (.cells #[.slice none 0 0] 25))) := ((Below.refl _ w).alloc (Nat.le_refl _) _).alloc (by simp) _
  have hbx : ((w.alloc (.cells #[.slice a l.length cap] 25)).alloc (.cells #[.slice none 0 0] 25)).heap[w.heap.size]? = some (.cells #[.slice a l.length cap] 25) := (heap_alloc_old _ _ (by simp)).trans (heap_alloc_new w _)
  have hvx : ((w.alloc (.cells #[.slice a l.length cap] 25)).alloc (.cells #[.slice none 0 0] 25)).heap[w.heap.size + 1]? = some (.cells #[.slice none 0 0] 25) := by
    have := heap_alloc_new (w.alloc (.cells #[.slice a l.length cap] 25)) (.cells #[.slice none 0 0] 25)
    rwa [World.size_alloc] at this
  have h1 := right_any a l.length cap l _ (hv.later HB.out)
  rw [hr] at h1
  go_enter Try.func21, Try.ntmps21
  go_wp2_with fail
  refine h1.mono ?_
  clear h1
  rintro e w1 ⟨rfl, hb1⟩
  have HB1 : Hid (Below w.heap.size w w1) := HB.out.trans (hb1.mono HB.out.size)
  have hbx1 := (hb1.block w.heap.size (Array.getElem?_eq_some_iff.1 hbx).1).trans hbx
  have hvx1 := (hb1.block (w.heap.size + 1) (Array.getElem?_eq_some_iff.1 hvx).1).trans hvx
  have HVR : Hid (VRow w a l.length l) := hv
  clear HB hbx hvx hb1 hv
  have c0 : w1.cell? ⟨w.heap.size, 0, none⟩ = some (.slice a l.length cap) := cell_of_heap hbx1 rfl
  have HV : Hid (w1.heap[w.heap.size + 1]? = some (.cells #[.slice none 0 0] 25)) := hvx1
  have z0 : w1.cell? ⟨w.heap.size + 1, 0, none⟩ = some (.slice none 0 0) := cell_of_heap HV.out rfl
  have f0 : w1.frozen? ⟨w.heap.size + 1, 0, none⟩ = false := frozen_of_row w1 _ _ _ _ HV.out
  have s0 : ∀ u, (w1.setCell ⟨w.heap.size + 1, 0, none⟩ u).cell? ⟨w.heap.size + 1, 0, none⟩ = some u := fun u => cell_of_heap (heap_setCell_same w1 _ 0 _ 25 u HV.out) rfl
  clear hbx1 hvx1
  go_wp2
  refine bodyPost_ret (v := .agg #[.slice none 0 0]) (by simp [results, Try.results21, go_sem, s0]) rfl ?_
  exact ⟨rfl, HB1.out.setCell (by simp) _⟩

theorem undo_wrong (u : Value) (l : List Ver) (m : Int) (w : World) (h : Ob w u l) (hr : rightL l = false) :
    Calls Try.prog 20 #[.agg #[u], .int .i64 m] w fun e w' => e = .returned (.agg #[.slice none 0 0]) ∧ Below w.heap.size w w' := by
  obtain ⟨a, cap, rfl, hv, hc, hm, hz, hlen, hadr⟩ := h
  have HB : Hid (Below w.heap.size w ((w.alloc (.cells #[.slice a l.length cap] 25)).alloc (.cells #[.slice none 0 0] 25))) := ((Below.refl _ w).alloc (Nat.le_refl _) _).alloc (by simp) _
  have hbx : ((w.alloc (.cells #[.slice a l.length cap] 25)).alloc (.cells #[.slice none 0 0] 25)).heap[w.heap.size]? = some (.cells #[.slice a l.length cap] 25) := (heap_alloc_old _ _ (by simp)).trans (heap_alloc_new w _)
  have hvx : ((w.alloc (.cells #[.slice a l.length cap] 25)).alloc (.cells #[.slice none 0 0] 25)).heap[w.heap.size + 1]? = some (.cells #[.slice none 0 0] 25) := by
    have := heap_alloc_new (w.alloc (.cells #[.slice a l.length cap] 25)) (.cells #[.slice none 0 0] 25)
    rwa [World.size_alloc] at this
  have h1 := right_any a l.length cap l _ (hv.later HB.out)
  rw [hr] at h1
  go_enter Try.func20, Try.ntmps20
  go_wp2_with fail
  refine h1.mono ?_
  clear h1
  rintro e w1 ⟨rfl, hb1⟩
  have HB1 : Hid (Below w.heap.size w w1) := HB.out.trans (hb1.mono HB.out.size)
  have hbx1 := (hb1.block w.heap.size (Array.getElem?_eq_some_iff.1 hbx).1).trans hbx
  have hvx1 := (hb1.block (w.heap.size + 1) (Array.getElem?_eq_some_iff.1 hvx).1).trans hvx
  have HVR : Hid (VRow w a l.length l) := hv
  clear HB hbx hvx hb1 hv
  have c0 : w1.cell? ⟨w.heap.size, 0, none⟩ = some (.slice a l.length cap) := cell_of_heap hbx1 rfl
  have HV : Hid (w1.heap[w.heap.size + 1]? = some (.cells #[.slice none 0 0] 25)) := hvx1
  have z0 : w1.cell? ⟨w.heap.size + 1, 0, none⟩ = some (.slice none 0 0) := cell_of_heap HV.out rfl
  have f0 : w1.frozen? ⟨w.heap.size + 1, 0, none⟩ = false := frozen_of_row w1 _ _ _ _ HV.out
  have s0 : ∀ u, (w1.setCell ⟨w.heap.size + 1, 0, none⟩ u).cell? ⟨w.heap.size + 1, 0, none⟩ = some u := fun u => cell_of_heap (heap_setCell_same w1 _ 0 _ 25 u HV.out) rfl
  clear hbx1 hvx1
  go_wp2
  refine bodyPost_ret (v := .agg #[.slice none 0 0]) (by simp [results, Try.results20, go_sem, s0]) rfl ?_
  exact ⟨rfl, HB1.out.setCell (by simp) _⟩

set_option maxRecDepth 100000 in
theorem clean_right (u : Value) (l : List Ver) (m : Int) (w : World) (h : Ob w u l) (hr : rightL l = true) :
    Calls Try.prog 21 #[.agg #[u], .int .i64 m] w fun e w' => ∃ u', e = .returned (.agg #[u']) ∧ Ob w' u' (cleanL l m) ∧ Below w.heap.size w w' := by
  obtain ⟨a, cap, rfl, hv, hc, hm, hz, hlen, hadr⟩ := h
  have HB : Hid (Below w.heap.size w ((w.alloc (.cells #[.slice a l.length cap] 25)).alloc (.cells #[.slice none 0 0] 25))) := ((Below.refl _ w).alloc (Nat.le_refl _) _).alloc (by simp) _
  have hbx : ((w.alloc (.cells #[.slice a l.length cap] 25)).alloc (.cells #[.slice none 0 0] 25)).heap[w.heap.size]? = some (.cells #[.slice a l.length cap] 25) := (heap_alloc_old _ _ (by simp)).trans (heap_alloc_new w _)
  have hvx : ((w.alloc (.cells #[.slice a l.length cap] 25)).alloc (.cells #[.slice none 0 0] 25)).heap[w.heap.size + 1]? = some (.cells #[.slice none 0 0] 25) := by
    have := heap_alloc_new (w.alloc (.cells #[.slice a l.length cap] 25)) (.cells #[.slice none 0 0] 25)
    rwa [World.size_alloc] at this
  have h1 := right_any a l.length cap l _ (hv.later HB.out)
  rw [hr] at h1
  go_enter Try.func21, Try.ntmps21
  go_wp2_with fail
  refine h1.mono ?_
  clear h1
  rintro e w1 ⟨rfl, hb1⟩
  have HB1 : Hid (Below w.heap.size w w1) := HB.out.trans (hb1.mono HB.out.size)
  have hbx1 := (hb1.block w.heap.size (Array.getElem?_eq_some_iff.1 hbx).1).trans hbx
  have hvx1 := (hb1.block (w.heap.size + 1) (Array.getElem?_eq_some_iff.1 hvx).1).trans hvx
  have HVR : Hid (VRow w a l.length l) := hv
  clear HB hbx hvx hb1 hv
  have c0 : w1.cell? ⟨w.heap.size, 0, none⟩ = some (.slice a l.length cap) := cell_of_heap hbx1 rfl
  have h2 := upTo_any a l.length cap m l w1 (HVR.out.later HB1.out) (right_rises hr) hlen
  have hul := upTo_le l m
  go_wp2_with fail
  refine h2.mono ?_
  clear h2
  rintro e w2 ⟨rfl, hb2⟩
  have HB2 : Hid (Below w.heap.size w w2) := HB1.out.trans (hb2.mono HB1.out.size)
  have hvx2 := (hb2.block (w.heap.size + 1) (Array.getElem?_eq_some_iff.1 hvx1).1).trans hvx1
  have c2 : w2.cell? ⟨w.heap.size, 0, none⟩ = some (.slice a l.length cap) := cell_later hb2 c0
  clear hb2 c0 hbx1 hvx1 HB1
  have HC : Hid (cleanL l m = l.drop (upTo l m - 1)) := rfl
  generalize upTo l m = c at *
  have hrow := HVR.out.later HB2.out
  unfold maxLen at hm
  rcases Nat.eq_zero_or_pos c with rfl | hpos
  · have HC2 : Hid (cleanL l m = l) := by rw [HC.out]; rfl
    clear HC
    have h3 := clone_any a l.length cap l w2 hrow (fun e => ⟨by rw [(hz e).1]; rfl, (hz e).2⟩) hlen
    cases a with
    | none =>
      obtain ⟨e1, rfl⟩ := hz rfl
      have e2 : l.length = 0 := by rw [e1]; rfl
      rw [e2] at c2 h3
      clear hrow hul hc hm e2 hadr
      go_wp2_with fail
      refine h3.mono ?_
      rintro e w3 ⟨v3, rfl, ho3, hb3⟩
      clear h3
      obtain ⟨a3, n3, cap3, rfl⟩ : ∃ a n c, v3 = .slice a n c := by obtain ⟨a, c, e, -⟩ := ho3.slice; exact ⟨_, _, _, e⟩
      have HB3 : Hid (Below w.heap.size w w3) := HB2.out.trans (hb3.mono HB2.out.size)
      have hvx3 := (hb3.block (w.heap.size + 1) (Array.getElem?_eq_some_iff.1 hvx2).1).trans hvx2
      have HV : Hid (w3.heap[w.heap.size + 1]? = some (.cells #[.slice none 0 0] 25)) := hvx3
      have z0 : w3.cell? ⟨w.heap.size + 1, 0, none⟩ = some (.slice none 0 0) := cell_of_heap HV.out rfl
      have f0 : w3.frozen? ⟨w.heap.size + 1, 0, none⟩ = false := frozen_of_row w3 _ _ _ _ HV.out
      have s0 : ∀ u, (w3.setCell ⟨w.heap.size + 1, 0, none⟩ u).cell? ⟨w.heap.size + 1, 0, none⟩ = some u := fun u => cell_of_heap (heap_setCell_same w3 _ 0 _ 25 u HV.out) rfl
      have HO : Hid (Ob (w3.setCell ⟨w.heap.size + 1, 0, none⟩ (.slice a3 n3 cap3)) (.slice a3 n3 cap3) (cleanL l m)) := by
        show Ob _ _ _
        rw [HC2.out]
        exact (ho3.set_below (show w.heap.size + 1 < w2.heap.size from (Array.getElem?_eq_some_iff.1 hvx2).1) _).ob (by first | omega | (simp; omega))
      clear hb3 hvx2 hvx3 ho3
      go_wp2
      refine bodyPost_ret (v := .agg #[.slice a3 n3 cap3]) (by simp [results, Try.results21, go_sem, s0]) rfl ?_
      exact ⟨_, rfl, HO.out, HB3.out.setCell (by simp) _⟩
    | some ad =>
      obtain ⟨b, off, rfl⟩ := hadr ad rfl
      clear hrow hul hadr
      go_wp2_with fail
      refine h3.mono ?_
      rintro e w3 ⟨v3, rfl, ho3, hb3⟩
      clear h3
      obtain ⟨a3, n3, cap3, rfl⟩ : ∃ a n c, v3 = .slice a n c := by obtain ⟨a, c, e, -⟩ := ho3.slice; exact ⟨_, _, _, e⟩
      have HB3 : Hid (Below w.heap.size w w3) := HB2.out.trans (hb3.mono HB2.out.size)
      have hvx3 := (hb3.block (w.heap.size + 1) (Array.getElem?_eq_some_iff.1 hvx2).1).trans hvx2
      have HV : Hid (w3.heap[w.heap.size + 1]? = some (.cells #[.slice none 0 0] 25)) := hvx3
      have z0 : w3.cell? ⟨w.heap.size + 1, 0, none⟩ = some (.slice none 0 0) := cell_of_heap HV.out rfl
      have f0 : w3.frozen? ⟨w.heap.size + 1, 0, none⟩ = false := frozen_of_row w3 _ _ _ _ HV.out
      have s0 : ∀ u, (w3.setCell ⟨w.heap.size + 1, 0, none⟩ u).cell? ⟨w.heap.size + 1, 0, none⟩ = some u := fun u => cell_of_heap (heap_setCell_same w3 _ 0 _ 25 u HV.out) rfl
      have HO : Hid (Ob (w3.setCell ⟨w.heap.size + 1, 0, none⟩ (.slice a3 n3 cap3)) (.slice a3 n3 cap3) (cleanL l m)) := by
        show Ob _ _ _
        rw [HC2.out]
        exact (ho3.set_below (show w.heap.size + 1 < w2.heap.size from (Array.getElem?_eq_some_iff.1 hvx2).1) _).ob (by first | omega | (simp; omega))
      clear hb3 hvx2 hvx3 ho3
      go_wp2
      refine bodyPost_ret (v := .agg #[.slice a3 n3 cap3]) (by simp [results, Try.results21, go_sem, s0]) rfl ?_
      exact ⟨_, rfl, HO.out, HB3.out.setCell (by simp) _⟩
  · obtain ⟨k, rfl⟩ : ∃ k, c = k + 1 := ⟨c - 1, by omega⟩
    have HC2 : Hid (cleanL l m = l.drop k) := HC.out
    clear HC
    cases a with
    | none =>
      exfalso
      have e2 : l.length = 0 := by rw [(hz rfl).1]; rfl
      omega
    | some ad =>
      obtain ⟨b, off, rfl⟩ := hadr ad rfl
      have h3 := clone_any (some ⟨b, off + k * 4, none⟩) (l.length - k) (cap - k) (l.drop k) w2 (hrow.drop k (by omega)) (by simp) (by omega)
      have hk1 : k ≤ l.length := by omega
      have hk2 : k ≤ cap := by omega
      clear hrow hadr
      go_wp2_with fail
      refine h3.mono ?_
      rintro e w3 ⟨v3, rfl, ho3, hb3⟩
      clear h3
      obtain ⟨a3, n3, cap3, rfl⟩ : ∃ a n c, v3 = .slice a n c := by obtain ⟨a, c, e, -⟩ := ho3.slice; exact ⟨_, _, _, e⟩
      have HB3 : Hid (Below w.heap.size w w3) := HB2.out.trans (hb3.mono HB2.out.size)
      have hvx3 := (hb3.block (w.heap.size + 1) (Array.getElem?_eq_some_iff.1 hvx2).1).trans hvx2
      have HV : Hid (w3.heap[w.heap.size + 1]? = some (.cells #[.slice none 0 0] 25)) := hvx3
      have z0 : w3.cell? ⟨w.heap.size + 1, 0, none⟩ = some (.slice none 0 0) := cell_of_heap HV.out rfl
      have f0 : w3.frozen? ⟨w.heap.size + 1, 0, none⟩ = false := frozen_of_row w3 _ _ _ _ HV.out
      have s0 : ∀ u, (w3.setCell ⟨w.heap.size + 1, 0, none⟩ u).cell? ⟨w.heap.size + 1, 0, none⟩ = some u := fun u => cell_of_heap (heap_setCell_same w3 _ 0 _ 25 u HV.out) rfl
      have HO : Hid (Ob (w3.setCell ⟨w.heap.size + 1, 0, none⟩ (.slice a3 n3 cap3)) (.slice a3 n3 cap3) (cleanL l m)) := by
        show Ob _ _ _
        rw [HC2.out]
        exact (ho3.set_below (show w.heap.size + 1 < w2.heap.size from (Array.getElem?_eq_some_iff.1 hvx2).1) _).ob (by first | omega | (simp; omega))
      clear hb3 hvx2 hvx3 ho3
      go_wp2
      refine bodyPost_ret (v := .agg #[.slice a3 n3 cap3]) (by simp [results, Try.results21, go_sem, s0]) rfl ?_
      exact ⟨_, rfl, HO.out, HB3.out.setCell (by simp) _⟩
end Go.Proofs.Ytmahigfamgbhfaa
