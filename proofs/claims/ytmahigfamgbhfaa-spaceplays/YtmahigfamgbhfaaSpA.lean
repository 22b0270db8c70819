/- A space in memory: objects by keys, in a map; New, Read, Num: contracts. -/
import Derived.Test.YtmahigfamgbhfaaObO
import Derived.Test.YtmahigfamgbhfaaObH
import Derived.Maps.OwnSet
import Derived.Maps.Views
namespace Go.Proofs.Ytmahigfamgbhfaa
open Go.RowKit Go.Maps
set_option linter.unusedVariables false

/-- what a map's element is read as: itself -/
abbrev Rv : Value → Option (DataW Value × List MemPlace) := fun v => some (.held v, [])
abbrev klit (s : ByteArray) : Lit := .string s.data.toList
abbrev zobj : DataW Value := .held (.agg #[.slice none 0 0])
theorem zero25 (w : World) : (zeroValue 25).run Try.prog w = .ok (.agg #[.slice none 0 0]) w := by kernel_rfl
theorem law9 : Keyed Try.prog 9 := string_keyed Try.underlying9

/-- a space: its map, and what each key's object is -/
structure Sp (w : World) (g bm n : Nat) (D : DataW Value) (F : ByteArray → List Ver) : Prop where
  box : w.heap[g]? = some (.cells #[.map (some bm)] 85)
  map : w.ownsMap Try.prog 9 Rv bm n D
  obj : ∀ s, ∃ u, D.atKey (klit s) zobj = .held (.agg #[u]) ∧ Ob w u (F s)
  right : ∀ s, rightL (F s) = true
  keys : ∀ s : ByteArray, has D (klit s) = true ↔ F s ≠ []

theorem grown_of_below {w w' : World} (h : Below w.heap.size w w') : w.grownBy w' none := ⟨h.os, h.tape, h.output, h.size, fun k hk _ => h.block k hk⟩
theorem Sp.later {w wx : World} {g bm n : Nat} {D : DataW Value} {F : ByteArray → List Ver} (h : Sp w g bm n D F) (hb : Below w.heap.size w wx) : Sp wx g bm n D F :=
  ⟨(hb.block g (Array.getElem?_eq_some_iff.1 h.box).1).trans h.box, h.map.kept (grown_of_below hb) (by simp), fun s => by obtain ⟨u, h1, h2⟩ := h.obj s; exact ⟨u, h1, h2.later hb⟩, h.right, h.keys⟩
theorem Sp.cell {w : World} {g bm n : Nat} {D : DataW Value} {F : ByteArray → List Ver} (h : Sp w g bm n D F) : w.cell? ⟨g, 0, none⟩ = some (.map (some bm)) := cell_of_heap h.box rfl

/-- versions stay where a block is written that holds none -/
theorem VRow.but {w w' : World} {a : Option Addr} {n : Nat} {l : List Ver} (h : VRow w a n l) (b0 : Nat) (hk : ∀ k, k < w.heap.size → k ≠ b0 → w'.heap[k]? = w.heap[k]?) (hno : ∀ off i, w.cell? ⟨b0, off, none⟩ ≠ some (.int .i64 i)) : VRow w' a n l := by
  obtain ⟨h1, h2, h3, h4⟩ := h
  refine ⟨h1, h2, h3, ?_⟩
  rcases h4 with h4 | ⟨b, off, h4, hc⟩
  · exact .inl h4
  · refine .inr ⟨b, off, h4, fun i hi => ?_⟩
    obtain ⟨c0, c1, c2, c3⟩ := hc i hi
    have hne : b ≠ b0 := fun e => by rw [e] at c0; exact hno _ _ c0
    have hlt : b < w.heap.size := World.block_lt_of_cell? w _ c0
    have e : ∀ o, w'.cell? ⟨b, o, none⟩ = w.cell? ⟨b, o, none⟩ := fun o => World.cell?_of_block (hk b hlt hne)
    exact ⟨(e _).trans c0, (e _).trans c1, (e _).trans c2, (e _).trans c3⟩
theorem Ob.but {w w' : World} {u : Value} {l : List Ver} (h : Ob w u l) (b0 : Nat) (hk : ∀ k, k < w.heap.size → k ≠ b0 → w'.heap[k]? = w.heap[k]?) (hno : ∀ off i, w.cell? ⟨b0, off, none⟩ ≠ some (.int .i64 i)) : Ob w' u l := by
  obtain ⟨a, cap, h1, h2, h3⟩ := h
  exact ⟨a, cap, h1, h2.but b0 hk hno, h3⟩

theorem made83 (w : World) : (Instr.makeMap 83 none).run Try.prog w = .ok (.map (some w.heap.size)) (w.alloc (.map #[] 0)) := rfl
theorem new_any (w : World) : Calls Try.prog 28 #[] w fun e w' => ∃ g bm, e = .returned (.pointer (some ⟨g, 0, none⟩)) ∧ Sp w' g bm 0 (.map []) (fun _ => []) ∧ Below w.heap.size w w' ∧ w.heap.size ≤ g ∧ w.heap.size ≤ bm := by
  have hmk := made83
  go_enter Try.func28, Try.ntmps28
  go_wp2
  go_ret
  have h1 := heap_alloc_new (w.alloc (.map #[] 0)) (.cells #[.map (some w.heap.size)] 85)
  rw [World.size_alloc] at h1
  refine ⟨w.heap.size + 1, w.heap.size, rfl, ⟨h1, (World.ownsMap_made w Try.prog 9 Rv).alloc _, fun s => ⟨.slice none 0 0, rfl, Ob.nil _⟩, fun s => aw_right0, fun s => by simp [has_eq]⟩, ((Below.refl _ _).alloc (Nat.le_refl _) _).alloc (by simp) _, by omega, by omega⟩

theorem Sp.look {w : World} {g bm n : Nat} {D : DataW Value} {F : ByteArray → List Ver} (h : Sp w g bm n D F) (s : ByteArray) (hs : s.size ≤ maxLen) :
    ∃ a k c, (Instr.lookup 83 (.map (some bm)) (.string s) false).run Try.prog w = .ok (.agg #[.slice a k c]) w ∧ Ob w (.slice a k c) (F s) := by
  obtain ⟨v, ps, hrun, hv⟩ := h.map.lookup law9 Try.underlying83 (zero25 w) (zd := zobj) (zp := []) rfl (WideMaps.keyOf_string_mk Try.underlying9 hs)
  obtain ⟨u, h1, h2⟩ := h.obj s
  obtain ⟨a, k, c, rfl⟩ := h2.isSlice
  simp only [Option.some.injEq, Prod.mk.injEq] at hv
  rw [h1] at hv
  simp only [DataW.held.injEq] at hv
  rw [hv.1] at hrun
  exact ⟨a, k, c, hrun, h2⟩

theorem all_any (g bm : Nat) (w : World) (c0 : w.cell? ⟨g, 0, none⟩ = some (.map (some bm))) :
    Calls Try.prog 52 #[.pointer (some ⟨g, 0, none⟩)] w fun e w' => e = .returned (.map (some bm)) ∧ w' = w := by
  go_enter Try.func52, Try.ntmps52
  go_wp2
  go_ret
  exact ⟨rfl, rfl⟩
theorem all_nil (w : World) : Calls Try.prog 52 #[.pointer none] w fun e w' => e = .returned (.map none) ∧ w' = w := by
  go_enter Try.func52, Try.ntmps52
  go_wp2
  go_ret
  exact ⟨rfl, rfl⟩
theorem look_none (s : ByteArray) (hs : s.size ≤ maxLen) (w : World) : (Instr.lookup 83 (.map none) (.string s) false).run Try.prog w = .ok (.agg #[.slice none 0 0]) w :=
  look_nil (w := w) false law9 Try.underlying83 (zero25 _) (WideMaps.keyOf_string_mk Try.underlying9 hs)

set_option maxRecDepth 100000 in
theorem sread_any (g bm n : Nat) (D : DataW Value) (F : ByteArray → List Ver) (s : ByteArray) (m : Int) (w : World) (h : Sp w g bm n D F) (hs : s.size ≤ maxLen) :
    Calls Try.prog 37 #[.pointer (some ⟨g, 0, none⟩), .string s, .int .i64 m] w fun e w' => e = .returned (.tuple #[(readV (F s) m).value, .bool (readB (F s) m)]) ∧ Below w.heap.size w w' := by
  have hb : Below w.heap.size w (w.alloc (.cells #[.int .i64 0, .int .u64 0, .string ⟨#[]⟩, .bool false] 36)) := (Below.refl _ _).alloc (Nat.le_refl _) _
  have hvx : VarV (w.alloc (.cells #[.int .i64 0, .int .u64 0, .string ⟨#[]⟩, .bool false] 36)) w.heap.size 36 Ver.zero := heap_alloc_new w _
  have h1 := h.later hb
  have c0 := h1.cell
  obtain ⟨a, k, c, hrun, ho⟩ := h1.look s hs
  have h2 := read_right _ (F s) m _ ho (h.right s)
  have HB : Hid (Below w.heap.size w (w.alloc (.cells #[.int .i64 0, .int .u64 0, .string ⟨#[]⟩, .bool false] 36))) := hb
  clear hb h h1 ho
  generalize readV (F s) m = r at *
  generalize readB (F s) m = rb at *
  go_enter Try.func37, Try.ntmps37
  go_wp2_with fail
  refine (all_any g bm _ c0).mono ?_
  rintro e w1 ⟨rfl, hw⟩
  subst w1
  clear c0
  go_wp2_with fail
  refine h2.mono ?_
  clear h2 hrun
  rintro e w2 ⟨rfl, hb2⟩
  have HB2 : Hid (Below w.heap.size w w2) := HB.out.trans (hb2.mono HB.out.size)
  have HV : Hid (VarV w2 w.heap.size 36 Ver.zero) := hvx.later hb2
  obtain ⟨z0, z1, z2, z3⟩ := HV.out.cells
  have f0 := HV.out.free 0
  have f1 := HV.out.free 1
  have f2 := HV.out.free 2
  have f3 := HV.out.free 3
  obtain ⟨s0, s1, s2, s3⟩ := HV.out.sets
  clear hvx hb2 HB
  go_wp2
  refine bodyPost_ret (v := .tuple #[r.value, .bool rb]) (by simp [results, Try.results37, go_sem, s0, s1, s2, s3]) rfl ?_
  exact ⟨rfl, below_set4 HB2.out (by omega)⟩

theorem fld36 (v : Ver) (w : World) : (Instr.field 36 v.value 1).run Try.prog w = .ok (.int .u64 (v.num : Nat)) w := by kernel_rfl
theorem snum_any (g bm n : Nat) (D : DataW Value) (F : ByteArray → List Ver) (s : ByteArray) (w : World) (h : Sp w g bm n D F) (hs : s.size ≤ maxLen) :
    Calls Try.prog 31 #[.pointer (some ⟨g, 0, none⟩), .string s] w fun e w' => e = .returned (.int .u64 ((lastL (F s)).num : Nat)) ∧ Below w.heap.size w w' := by
  have c0 := h.cell
  obtain ⟨a, k, c, hrun, ho⟩ := h.look s hs
  have h2 := lastm_right _ (F s) w ho (h.right s)
  have hf := fld36 (lastL (F s))
  clear h ho
  generalize lastL (F s) = r at *
  go_enter Try.func31, Try.ntmps31
  go_wp2_with fail
  refine (all_any g bm _ c0).mono ?_
  rintro e w1 ⟨rfl, hw⟩
  subst w1
  clear c0
  go_wp2_with fail
  refine h2.mono ?_
  clear h2 hrun
  rintro e w2 ⟨rfl, hb2⟩
  go_wp2
  go_ret
  exact ⟨rfl, hb2⟩

/-! a space that is not there -/
set_option maxRecDepth 100000 in
theorem sread_nil (s : ByteArray) (m : Int) (w : World) (hs : s.size ≤ maxLen) :
    Calls Try.prog 37 #[.pointer none, .string s, .int .i64 m] w fun e w' => e = .returned (.tuple #[Ver.zero.value, .bool false]) ∧ Below w.heap.size w w' := by
  have hb : Below w.heap.size w (w.alloc (.cells #[.int .i64 0, .int .u64 0, .string ⟨#[]⟩, .bool false] 36)) := (Below.refl _ _).alloc (Nat.le_refl _) _
  have hvx : VarV (w.alloc (.cells #[.int .i64 0, .int .u64 0, .string ⟨#[]⟩, .bool false] 36)) w.heap.size 36 Ver.zero := heap_alloc_new w _
  have hrun := look_none s hs (w.alloc (.cells #[.int .i64 0, .int .u64 0, .string ⟨#[]⟩, .bool false] 36))
  have h2 := read_right _ [] m (w.alloc (.cells #[.int .i64 0, .int .u64 0, .string ⟨#[]⟩, .bool false] 36)) (Ob.nil _) aw_right0
  rw [show readV [] m = Ver.zero from rfl, show readB [] m = false from rfl] at h2
  have HB : Hid (Below w.heap.size w (w.alloc (.cells #[.int .i64 0, .int .u64 0, .string ⟨#[]⟩, .bool false] 36))) := hb
  clear hb
  go_enter Try.func37, Try.ntmps37
  go_wp2_with fail
  refine (all_nil _).mono ?_
  rintro e w1 ⟨rfl, hw⟩
  subst w1
  go_wp2_with fail
  refine h2.mono ?_
  clear h2 hrun
  rintro e w2 ⟨rfl, hb2⟩
  have HB2 : Hid (Below w.heap.size w w2) := HB.out.trans (hb2.mono HB.out.size)
  have HV : Hid (VarV w2 w.heap.size 36 Ver.zero) := hvx.later hb2
  obtain ⟨z0, z1, z2, z3⟩ := HV.out.cells
  have f0 := HV.out.free 0
  have f1 := HV.out.free 1
  have f2 := HV.out.free 2
  have f3 := HV.out.free 3
  obtain ⟨s0, s1, s2, s3⟩ := HV.out.sets
  clear hvx hb2 HB
  go_wp2
  refine bodyPost_ret (v := .tuple #[Ver.zero.value, .bool false]) (by simp [results, Try.results37, go_sem, s0, s1, s2, s3]) rfl ?_
  exact ⟨rfl, below_set4 HB2.out (by omega)⟩
theorem snum_nil (s : ByteArray) (w : World) (hs : s.size ≤ maxLen) :
    Calls Try.prog 31 #[.pointer none, .string s] w fun e w' => e = .returned (.int .u64 0) ∧ Below w.heap.size w w' := by
  have hrun := look_none s hs w
  have h2 := lastm_right _ [] w (Ob.nil _) aw_right0
  have hf : ∀ w, (Instr.field 36 (lastL []).value 1).run Try.prog w = .ok (.int .u64 0) w := fun w => fld36 Ver.zero w
  generalize (lastL []).value = r at *
  go_enter Try.func31, Try.ntmps31
  go_wp2_with fail
  refine (all_nil _).mono ?_
  rintro e w1 ⟨rfl, hw⟩
  subst w1
  go_wp2_with fail
  refine h2.mono ?_
  clear h2 hrun
  rintro e w2 ⟨rfl, hb2⟩
  go_wp2
  go_ret
  exact ⟨rfl, hb2⟩
theorem sput_nil (s : ByteArray) (p : Int) (v : ByteArray) (gn : Bool) (w : World) :
    Calls Try.prog 38 #[.pointer none, .string s, .int .i64 p, .string v, .bool gn] w fun e w' => e = .returned (.int .i64 2) ∧ w' = w := by
  go_enter Try.func38, Try.ntmps38
  go_wp2
  go_ret
  exact ⟨rfl, rfl⟩
end Go.Proofs.Ytmahigfamgbhfaa
