/- Undo and Clean of a space: each object is changed in its place; those left without versions are gone. -/
import Derived.Test.YtmahigfamgbhfaaSpG
import Derived.Test.YtmahigfamgbhfaaSpC
import Derived.Deep.RegionHeld3
import Derived.Deep.Cut
namespace Go.Proofs.Ytmahigfamgbhfaa
open Go.RowKit Go.Maps
set_option linter.unusedVariables false
set_option linter.unusedSimpArgs false

theorem Sp.congr {w : World} {g bm n : Nat} {D : DataW Value} {F G : ByteArray → List Ver} (h : Sp w g bm n D F) (e : ∀ s, F s = G s) : Sp w g bm n D G := by
  have : F = G := funext e
  rw [← this]
  exact h
theorem undo_nil' (m : Int) : undoL [] m = [] := by simp [undoL]
theorem clean_nil' (m : Int) : cleanL [] m = [] := by simp [cleanL]
theorem Ob.short {w : World} {u : Value} {l : List Ver} (h : Ob w u l) : ∃ a c, u = .slice a l.length c := by
  obtain ⟨a, c, e, -⟩ := h
  exact ⟨a, c, e⟩


set_option maxRecDepth 100000 in
theorem undo_clo (pn : Nat) (a : Option Addr) (k c : Nat) (l : List Ver) (m : Int) (w : World) (h : Ob w (.slice a k c) l) (hr : rightL l = true) (hm : w.cell? ⟨pn, 0, none⟩ = some (.int .i64 m)) :
    Calls Try.prog 59 (#[.agg #[.slice a k c]] ++ #[.pointer (some ⟨pn, 0, none⟩)]) w fun e w' => ∃ a' k' c', e = .returned (.agg #[.slice a' k' c']) ∧ Ob w' (.slice a' k' c') (undoL l m) ∧ Below w.heap.size w w' := by
  have HB : Hid (Below w.heap.size w ((w.alloc (.cells #[.slice a k c] 25)).alloc (.cells #[.slice none 0 0] 25))) := ((Below.refl _ w).alloc (Nat.le_refl _) _).alloc (by simp) _
  have hvx : ((w.alloc (.cells #[.slice a k c] 25)).alloc (.cells #[.slice none 0 0] 25)).heap[w.heap.size + 1]? = some (.cells #[.slice none 0 0] 25) := by
    have := heap_alloc_new (w.alloc (.cells #[.slice a k c] 25)) (.cells #[.slice none 0 0] 25)
    rwa [World.size_alloc] at this
  have cm : ((w.alloc (.cells #[.slice a k c] 25)).alloc (.cells #[.slice none 0 0] 25)).cell? ⟨pn, 0, none⟩ = some (.int .i64 m) := cell_later HB.out hm
  have h2 := undo_right _ l m ((w.alloc (.cells #[.slice a k c] 25)).alloc (.cells #[.slice none 0 0] 25)) (h.later HB.out) hr
  clear h hm
  go_enter Try.func59, Try.ntmps59
  go_wp2_with fail
  refine h2.mono ?_
  clear h2 cm
  rintro e w3 ⟨u3, rfl, ho3, hb3⟩
  obtain ⟨a3, n3, cap3, rfl⟩ := ho3.isSlice
  have HB3 : Hid (Below w.heap.size w w3) := HB.out.trans (hb3.mono HB.out.size)
  have hvx3 := (hb3.block (w.heap.size + 1) (Array.getElem?_eq_some_iff.1 hvx).1).trans hvx
  have HV : Hid (w3.heap[w.heap.size + 1]? = some (.cells #[.slice none 0 0] 25)) := hvx3
  have z0 : w3.cell? ⟨w.heap.size + 1, 0, none⟩ = some (.slice none 0 0) := cell_of_heap HV.out rfl
  have f0 : w3.frozen? ⟨w.heap.size + 1, 0, none⟩ = false := frozen_of_row w3 _ _ _ _ HV.out
  have s0 : ∀ u, (w3.setCell ⟨w.heap.size + 1, 0, none⟩ u).cell? ⟨w.heap.size + 1, 0, none⟩ = some u := fun u => cell_of_heap (heap_setCell_same w3 _ 0 _ 25 u HV.out) rfl
  have HO : Hid (Ob (w3.setCell ⟨w.heap.size + 1, 0, none⟩ (.slice a3 n3 cap3)) (.slice a3 n3 cap3) (undoL l m)) := by
    refine ho3.but (w.heap.size + 1) (fun k hk hne => Below.heap_setCell _ _ _ _ hne) (fun off i hc => ?_)
    rw [World.cell?] at hc
    simp only [HV.out] at hc
    match off, hc with
    | 0, hc => simp at hc
    | off + 1, hc => simp at hc
  clear hb3 hvx hvx3 ho3 HB
  go_wp2
  refine bodyPost_ret (v := .agg #[.slice a3 n3 cap3]) (by simp [results, Try.results59, go_sem, s0]) rfl ?_
  exact ⟨_, _, _, rfl, HO.out, HB3.out.setCell (by simp) _⟩


set_option maxRecDepth 100000 in
theorem clean_clo (pn : Nat) (a : Option Addr) (k c : Nat) (l : List Ver) (m : Int) (w : World) (h : Ob w (.slice a k c) l) (hr : rightL l = true) (hm : w.cell? ⟨pn, 0, none⟩ = some (.int .i64 m)) :
    Calls Try.prog 60 (#[.agg #[.slice a k c]] ++ #[.pointer (some ⟨pn, 0, none⟩)]) w fun e w' => ∃ a' k' c', e = .returned (.agg #[.slice a' k' c']) ∧ Ob w' (.slice a' k' c') (cleanL l m) ∧ Below w.heap.size w w' := by
  have HB : Hid (Below w.heap.size w ((w.alloc (.cells #[.slice a k c] 25)).alloc (.cells #[.slice none 0 0] 25))) := ((Below.refl _ w).alloc (Nat.le_refl _) _).alloc (by simp) _
  have hvx : ((w.alloc (.cells #[.slice a k c] 25)).alloc (.cells #[.slice none 0 0] 25)).heap[w.heap.size + 1]? = some (.cells #[.slice none 0 0] 25) := by
    have := heap_alloc_new (w.alloc (.cells #[.slice a k c] 25)) (.cells #[.slice none 0 0] 25)
    rwa [World.size_alloc] at this
  have cm : ((w.alloc (.cells #[.slice a k c] 25)).alloc (.cells #[.slice none 0 0] 25)).cell? ⟨pn, 0, none⟩ = some (.int .i64 m) := cell_later HB.out hm
  have h2 := clean_right _ l m ((w.alloc (.cells #[.slice a k c] 25)).alloc (.cells #[.slice none 0 0] 25)) (h.later HB.out) hr
  clear h hm
  go_enter Try.func60, Try.ntmps60
  go_wp2_with fail
  refine h2.mono ?_
  clear h2 cm
  rintro e w3 ⟨u3, rfl, ho3, hb3⟩
  obtain ⟨a3, n3, cap3, rfl⟩ := ho3.isSlice
  have HB3 : Hid (Below w.heap.size w w3) := HB.out.trans (hb3.mono HB.out.size)
  have hvx3 := (hb3.block (w.heap.size + 1) (Array.getElem?_eq_some_iff.1 hvx).1).trans hvx
  have HV : Hid (w3.heap[w.heap.size + 1]? = some (.cells #[.slice none 0 0] 25)) := hvx3
  have z0 : w3.cell? ⟨w.heap.size + 1, 0, none⟩ = some (.slice none 0 0) := cell_of_heap HV.out rfl
  have f0 : w3.frozen? ⟨w.heap.size + 1, 0, none⟩ = false := frozen_of_row w3 _ _ _ _ HV.out
  have s0 : ∀ u, (w3.setCell ⟨w.heap.size + 1, 0, none⟩ u).cell? ⟨w.heap.size + 1, 0, none⟩ = some u := fun u => cell_of_heap (heap_setCell_same w3 _ 0 _ 25 u HV.out) rfl
  have HO : Hid (Ob (w3.setCell ⟨w.heap.size + 1, 0, none⟩ (.slice a3 n3 cap3)) (.slice a3 n3 cap3) (cleanL l m)) := by
    refine ho3.but (w.heap.size + 1) (fun k hk hne => Below.heap_setCell _ _ _ _ hne) (fun off i hc => ?_)
    rw [World.cell?] at hc
    simp only [HV.out] at hc
    match off, hc with
    | 0, hc => simp at hc
    | off + 1, hc => simp at hc
  clear hb3 hvx hvx3 ho3 HB
  go_wp2
  refine bodyPost_ret (v := .agg #[.slice a3 n3 cap3]) (by simp [results, Try.results60, go_sem, s0]) rfl ?_
  exact ⟨_, _, _, rfl, HO.out, HB3.out.setCell (by simp) _⟩

end Go.Proofs.Ytmahigfamgbhfaa
