/- A table of slots in memory: slots by clients, in a map; contracts of what reads, and of set. -/
import Derived.Test.YtophkidigajliaaSeM
import Derived.Maps.OwnSet
import Derived.Maps.Views
import Derived.Deep.RegionHeld3
import Derived.Deep.Cut
namespace Go.Proofs.Ytophkidigajliaa
open Go Go.RowKit Go.Maps
set_option linter.unusedVariables false
set_option linter.unusedSimpArgs false

/-- what a map's element is read as: itself -/
abbrev Rv : Value → Option (DataW Value × List MemPlace) := fun v => some (.held v, [])
abbrev klit (c : Int) : Lit := .int .i64 c
abbrev zsl : DataW Value := .held (slotv Slot.zero)
theorem zero42 (w : World) : (zeroValue 42).run Try.prog w = .ok (slotv Slot.zero) w := by kernel_rfl
theorem law3 : Keyed Try.prog 3 := int_keyed Try.underlying3

/-- a table: its map, and what it says of each client -/
structure SeD (w : World) (g bm : Nat) (D : DataW Value) (L : Log) : Prop where
  box : w.heap[g]? = some (.cells #[.map (some bm)] 52)
  map : w.ownsMap Try.prog 3 Rv bm L.length D
  sl : ∀ c, D.atKey (klit c) zsl = .held (slotv (slotL L c))
  has : ∀ c, Maps.has D (klit c) = hasL L c
  len : Maps.size D = cnt L
def Se (w : World) (g bm : Nat) (L : Log) : Prop := ∃ D, SeD w g bm D L
theorem grown_of_below {w w' : World} (h : Below w.heap.size w w') : w.grownBy w' none := ⟨h.os, h.tape, h.output, h.size, fun k hk _ => h.block k hk⟩
theorem Se.kept {w wx : World} {g bm : Nat} {L : Log} (h : Se w g bm L) (hg : wx.heap[g]? = w.heap[g]?) (hm : wx.heap[bm]? = w.heap[bm]?) : Se wx g bm L := by
  obtain ⟨D, h1, h2, h3, h4, h5⟩ := h
  obtain ⟨es, clock, hb, F, hs, hd⟩ := h2
  exact ⟨D, hg.trans h1, ⟨es, clock, hm.trans hb, F, hs, hd⟩, h3, h4, h5⟩
theorem Se.lts {w : World} {g bm : Nat} {L : Log} (h : Se w g bm L) : g < w.heap.size ∧ bm < w.heap.size := by
  obtain ⟨D, h1, h2, h3, h4, h5⟩ := h
  exact ⟨(Array.getElem?_eq_some_iff.1 h1).1, h2.lt⟩
theorem Se.later {w wx : World} {g bm : Nat} {L : Log} (h : Se w g bm L) (hb : Below w.heap.size w wx) : Se wx g bm L :=
  h.kept (hb.block g h.lts.1) (hb.block bm h.lts.2)
theorem Se.cell {w : World} {g bm : Nat} {L : Log} (h : Se w g bm L) : w.cell? ⟨g, 0, none⟩ = some (.map (some bm)) := by
  obtain ⟨D, h1, _⟩ := h
  exact cell_of_heap h1 rfl
theorem Se.apart {w : World} {g bm : Nat} {L : Log} (h : Se w g bm L) : g ≠ bm := fun e => by
  obtain ⟨D, h1, ⟨es, clock, hb, _⟩, _⟩ := h
  rw [e, hb] at h1
  cases h1
theorem Se.isMap {w : World} {g bm : Nat} {L : Log} (h : Se w g bm L) : ∃ es clock, w.heap[bm]? = some (.map es clock) := by
  obtain ⟨D, h1, ⟨es, clock, hb, _⟩, _⟩ := h
  exact ⟨es, clock, hb⟩
theorem Se.fr {w wx : World} {g bm base : Nat} {T : List Nat} {L : Log} (h : Se w g bm L) (hf : Fr base T w wx) (hT : 52 ∉ T) : Se wx g bm L := by
  obtain ⟨es, clock, hb⟩ := h.isMap
  refine h.kept ?_ (hf.block bm h.lts.2 (.inr (fun t ht => by simp [tagOf, hb])))
  obtain ⟨D, h1, _⟩ := h
  exact (hf.cells h1 hT).trans h1.symm
theorem Se.look {w : World} {g bm : Nat} {L : Log} (h : Se w g bm L) (c : Int) (hc : (Lit.int .i64 c).wf = true) :
    (Instr.lookup 50 (.map (some bm)) (.int .i64 c) false).run Try.prog w = .ok (slotv (slotL L c)) w := by
  obtain ⟨D, h⟩ := h
  obtain ⟨v, ps, hrun, hv⟩ := h.map.lookup law3 Try.underlying50 (zero42 w) (zd := zsl) (zp := []) rfl (keyOf_int_mk Try.underlying3 hc)
  simp only [Option.some.injEq, Prod.mk.injEq] at hv
  rw [h.sl c] at hv
  simp only [DataW.held.injEq] at hv
  rw [hv.1] at hrun
  exact hrun
theorem Se.look_ok {w : World} {g bm : Nat} {L : Log} (h : Se w g bm L) (c : Int) (hc : (Lit.int .i64 c).wf = true) :
    (Instr.lookup 50 (.map (some bm)) (.int .i64 c) true).run Try.prog w = .ok (.tuple #[slotv (slotL L c), .bool (hasL L c)]) w := by
  obtain ⟨D, h⟩ := h
  obtain ⟨v, ps, hrun, hv⟩ := h.map.look_ok law3 Try.underlying50 (zero42 w) (zd := zsl) (zp := []) rfl (keyOf_int_mk Try.underlying3 hc)
  simp only [Option.some.injEq, Prod.mk.injEq] at hv
  rw [h.sl c] at hv
  simp only [DataW.held.injEq] at hv
  rw [hv.1, h.has c] at hrun
  exact hrun
theorem Se.count {w : World} {g bm : Nat} {L : Log} (h : Se w g bm L) (ty : TypeId) : (Builtin.len_ #[50] ty #[.map (some bm)]).run Try.prog w = .ok (.int .i64 (cnt L : Nat)) w := by
  obtain ⟨D, h⟩ := h
  have := h.map.len Try.underlying50 ty
  rw [h.len] at this
  exact this
theorem Se.put {w w' : World} {g bm : Nat} {D : DataW Value} {L : Log} (h : SeD w g bm D L) (c : Int) (s : Slot) (hm : w'.ownsMap Try.prog 3 Rv bm (L.length + 1) (D.put (klit c) (.held (slotv s)))) (ht : w.mapTurned w' bm) (hg : g ≠ bm) : Se w' g bm (L ++ [(c, s)]) := by
  have hk : ∀ k, k < w.heap.size → k ≠ bm → w'.heap[k]? = w.heap[k]? := fun k hk hne => ht.grown.block k hk (fun e => hne (by simpa using e))
  refine ⟨_, (hk g (Array.getElem?_eq_some_iff.1 h.box).1 hg).trans h.box, by simpa using hm, fun t => ?_, fun t => ?_, ?_⟩
  · rw [slotL_snoc]
    by_cases e : c = t
    · subst e
      rw [if_pos rfl, atKey_put_same (k := klit c) h.map.isMap (show WideAt.IsKeyLit (Lit.int .i64 c) from trivial)]
    · rw [if_neg e, atKey_put_other (by simpa [klit] using fun e2 => e e2.symm)]
      exact h.sl t
  · rw [hasL_snoc]
    by_cases e : c = t
    · subst e
      rw [if_pos rfl, has_put_same (k := klit c) h.map.isMap (show WideAt.IsKeyLit (Lit.int .i64 c) from trivial)]
    · rw [if_neg e, has_put_other (by simpa [klit] using fun e2 => e e2.symm)]
      exact h.has t
  · rw [size_put (h.map.tidy law3), h.has c, h.len, cnt_snoc]
    split <;> rfl

theorem made50 (w : World) : (Instr.makeMap 50 none).run Try.prog w = .ok (.map (some w.heap.size)) (w.alloc (.map #[] 0)) := rfl
theorem new_any (w : World) : Calls Try.prog 7 #[] w fun e w' => ∃ g bm, e = .returned (.pointer (some ⟨g, 0, none⟩)) ∧ Se w' g bm [] ∧ Below w.heap.size w w' ∧ w.heap.size ≤ g ∧ w.heap.size ≤ bm := by
  have hmk := made50
  go_enter Try.func7, Try.ntmps7
  go_wp2
  go_ret
  have h1 := heap_alloc_new (w.alloc (.map #[] 0)) (.cells #[.map (some w.heap.size)] 52)
  rw [World.size_alloc] at h1
  refine ⟨w.heap.size + 1, w.heap.size, rfl, ⟨.map [], h1, (World.ownsMap_made w Try.prog 3 Rv).alloc _, fun s => rfl, fun s => rfl, rfl⟩, ((Below.refl _ _).alloc (Nat.le_refl _) _).alloc (by simp) _, by omega, by omega⟩

set_option maxRecDepth 100000 in
theorem of_any (g bm : Nat) (L : Log) (c : Int) (w : World) (h : Se w g bm L) (hc : (Lit.int .i64 c).wf = true) :
    Calls Try.prog 17 #[.pointer (some ⟨g, 0, none⟩), .int .i64 c] w fun e w' => e = .returned (.tuple #[slotv (slotL L c), .bool (hasL L c)]) ∧ Below w.heap.size w w' := by
  have hb : Below w.heap.size w (w.alloc (.cells #[.int .u64 0, .bool false, .int .i64 0, .int .i64 0, .int .u64 0] 42)) := (Below.refl _ _).alloc (Nat.le_refl _) _
  have h1 := h.later hb
  have c0 := h1.cell
  have hl := h1.look_ok c hc
  clear h h1
  generalize slotL L c = s at *
  generalize hasL L c = b at *
  obtain ⟨q, o, t, cd, n⟩ := s
  go_enter Try.func17, Try.ntmps17
  go_wp2
  go_returns
  refine ⟨rfl, ?_⟩
  go_grown
theorem of_nil (c : Int) (w : World) :
    Calls Try.prog 17 #[.pointer none, .int .i64 c] w fun e w' => e = .returned (.tuple #[slotv Slot.zero, .bool false]) ∧ Below w.heap.size w w' := by
  go_enter Try.func17, Try.ntmps17
  go_wp2
  go_returns
  refine ⟨rfl, ?_⟩
  go_grown
theorem fld42 (s : Slot) (w : World) : (Instr.field 42 (slotv s) 1).run Try.prog w = .ok (.bool s.opn) w := by kernel_rfl
theorem isopen_any (g bm : Nat) (L : Log) (c : Int) (w : World) (h : Se w g bm L) (hc : (Lit.int .i64 c).wf = true) :
    Calls Try.prog 22 #[.pointer (some ⟨g, 0, none⟩), .int .i64 c] w fun e w' => e = .returned (.bool (slotL L c).opn) ∧ w' = w := by
  have c0 := h.cell
  have hl := h.look c hc
  have hf := fld42 (slotL L c)
  clear h
  generalize slotL L c = s at *
  obtain ⟨q, o, t, cd, n⟩ := s
  go_enter Try.func22, Try.ntmps22
  go_wp2
  go_ret
  exact ⟨rfl, rfl⟩
theorem len_any (g bm : Nat) (L : Log) (w : World) (h : Se w g bm L) :
    Calls Try.prog 12 #[.pointer (some ⟨g, 0, none⟩)] w fun e w' => e = .returned (.int .i64 (cnt L : Nat)) ∧ w' = w := by
  have c0 := h.cell
  have hl := h.count
  clear h
  go_enter Try.func12, Try.ntmps12
  go_wp2
  go_ret
  exact ⟨rfl, rfl⟩
theorem len_nil (w : World) : Calls Try.prog 12 #[.pointer none] w fun e w' => e = .returned (.int .i64 0) ∧ w' = w := by
  go_enter Try.func12, Try.ntmps12
  go_wp2
  go_ret
  exact ⟨rfl, rfl⟩
set_option maxRecDepth 100000 in
theorem how_any (g bm : Nat) (L : Log) (x : Id) (w : World) (h : Se w g bm L) (hc : (Lit.int .i64 x.1).wf = true) :
    Calls Try.prog 10 #[.pointer (some ⟨g, 0, none⟩), idv x] w fun e w' => e = .returned (.int .i64 (howL L x)) ∧ Below w.heap.size w w' := by
  have hb : Below w.heap.size w (w.alloc (.cells #[.int .i64 x.1, .int .u64 x.2] 25)) := (Below.refl _ _).alloc (Nat.le_refl _) _
  have hn := heap_alloc_new w (.cells #[.int .i64 x.1, .int .u64 x.2] 25)
  have h1 := of_any g bm L x.1 _ (h.later hb) hc
  have HE : Hid (howL L x = if hasL L x.1 = false ∨ (slotL L x.1).seq < x.2 then 0 else if (slotL L x.1).seq = x.2 then 1 else 2) := rfl
  clear h
  generalize howL L x = r at *
  generalize slotL L x.1 = s at *
  generalize hasL L x.1 = b at *
  obtain ⟨q, o, t, cd, n⟩ := s
  obtain ⟨cl, sq⟩ := x
  simp only at *
  generalize hw0 : w.alloc (.cells #[.int .i64 cl, .int .u64 sq] 25) = w0 at *
  have HN : Hid (w0.heap[w.heap.size]? = some (.cells #[.int .i64 cl, .int .u64 sq] 25)) := hn
  have HB : Hid (Below w.heap.size w w0) := hb
  clear hn hb
  have e0 : w0.cell? ⟨w.heap.size, 0, none⟩ = some (.int .i64 cl) := cell_of_heap HN.out rfl
  go_enter Try.func10, Try.ntmps10
  go_wp2_with fail
  refine h1.mono ?_
  clear h1 e0
  rintro e w1 ⟨rfl, hb1⟩
  have HN1 : Hid (w1.heap[w.heap.size]? = some (.cells #[.int .i64 cl, .int .u64 sq] 25)) := (hb1.block _ (Array.getElem?_eq_some_iff.1 HN.out).1).trans HN.out
  have HB1 : Hid (Below w.heap.size w w1) := HB.out.trans (hb1.mono HB.out.size)
  clear hb1 HB HN
  have hlt : w.heap.size < w1.heap.size := (Array.getElem?_eq_some_iff.1 HN1.out).1
  have e1 : w1.cell? ⟨w.heap.size, 1, none⟩ = some (.int .u64 sq) := cell_of_heap HN1.out rfl
  have HX : Hid (Below w.heap.size w (w1.alloc (.cells #[.int .u64 q, .bool o, .int .i64 t, .int .i64 cd, .int .u64 n] 42))) := HB1.out.alloc HB1.out.size _
  cases b
  · go_wp2
    go_ret
    refine ⟨?_, HX.out⟩
    rw [HE.out]; simp
  · by_cases h2 : q < sq
    · go_wp2
      go_ret
      refine ⟨?_, HX.out⟩
      rw [HE.out]; simp [h2]
    · by_cases h3 : q = sq
      · subst h3
        go_wp2
        go_ret
        refine ⟨?_, HX.out⟩
        rw [HE.out]; simp
      · have h4 : (q == sq) = false := by simp [h3]
        go_wp2
        go_ret
        refine ⟨?_, HX.out⟩
        rw [HE.out]; simp [h2, h3]
end Go.Proofs.Ytophkidigajliaa
