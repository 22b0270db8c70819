/- The document's table of slots: memory; a contract of Of. -/
import Derived.Test.YtophkidigajliaaSeQ
namespace Go.Proofs.Ytophkidigajliaa
open Go Go.RowKit
set_option linter.unusedVariables false
set_option linter.unusedSimpArgs false

abbrev Sl := Int × Slot
def rcells (x : Sl) : List Value := [.int .i64 x.1, .int .u64 x.2.seq, .bool x.2.opn, .int .i64 x.2.at_, .int .i64 x.2.code, .int .u64 x.2.num]
abbrev rarr (x : Sl) : Array Value := #[.int .i64 x.1, .int .u64 x.2.seq, .bool x.2.opn, .int .i64 x.2.at_, .int .i64 x.2.code, .int .u64 x.2.num]
abbrev rval (x : Sl) : Value := .agg (rarr x)
theorem rcells_one (l : List Sl) : ∀ u ∈ l.flatMap rcells, u.oneCell' = true := by
  intro u hu
  obtain ⟨x, _, h⟩ := List.mem_flatMap.1 hu
  simp only [rcells, List.mem_cons, List.not_mem_nil, or_false] at h
  rcases h with rfl | rfl | rfl | rfl | rfl | rfl <;> rfl
/-- the document's table in memory -/
structure Rt (w : World) (base g : Nat) (L : Log) : Prop where
  lo : base ≤ g
  box : ∃ v, w.heap[g]? = some (.cells #[v] 31 (0, 0)) ∧ w.ownsRow base 54 6 v L.length (L.flatMap rcells)
theorem Rt.fr {base b2 : Nat} {T : List Nat} {w w' : World} {g : Nat} {L : Log} (h : Rt w b2 g L) (f : Fr base T w w') (h54 : 54 ∉ T) (h31 : 31 ∉ T) : Rt w' b2 g L := by
  obtain ⟨v, h1, h2⟩ := h.box
  exact ⟨h.lo, v, f.cells h1 h31, f.owns h2 h54⟩
theorem Rt.later {b2 : Nat} {w w' : World} {g : Nat} {L : Log} (h : Rt w b2 g L) (f : Below w.heap.size w w') : Rt w' b2 g L := h.fr (Fr.of (base := 0) (T := []) f) (by simp) (by simp)
theorem rows_at {w : World} {base : Nat} {v : Value} {L : Log} (h : w.ownsRow base 54 6 v L.length (L.flatMap rcells)) : ∃ a c, v = .slice a L.length c ∧ L.length ≤ c ∧ c ≤ maxLen ∧ (a = none → c = 0 ∧ L = []) ∧ (0 < L.length → ∃ b off, a = some ⟨b, off, none⟩ ∧ ∀ i r, L[i]? = some r →
      w.cell? ⟨b, off + i * 6, none⟩ = some (.int .i64 r.1) ∧ w.cell? ⟨b, off + i * 6 + 1, none⟩ = some (.int .u64 r.2.seq) ∧ w.cell? ⟨b, off + i * 6 + 2, none⟩ = some (.bool r.2.opn) ∧ w.cell? ⟨b, off + i * 6 + 3, none⟩ = some (.int .i64 r.2.at_) ∧ w.cell? ⟨b, off + i * 6 + 4, none⟩ = some (.int .i64 r.2.code) ∧ w.cell? ⟨b, off + i * 6 + 5, none⟩ = some (.int .u64 r.2.num)) := by
  obtain ⟨a, c, h1, h2, h3, h4, h5⟩ := owns_at rcells 6 (fun _ => rfl) h
  refine ⟨a, c, h1, h2, h3, h4, fun hl => ?_⟩
  obtain ⟨b, off, h6, h7⟩ := h5 hl
  exact ⟨b, off, h6, fun i r hr => ⟨h7 i r hr 0 (by omega), h7 i r hr 1 (by omega), h7 i r hr 2 (by omega), h7 i r hr 3 (by omega), h7 i r hr 4 (by omega), h7 i r hr 5 (by omega)⟩⟩
theorem Rt.cells {w : World} {base g : Nat} {L : Log} (h : Rt w base g L) : ∃ a c, w.heap[g]? = some (.cells #[.slice a L.length c] 31 (0, 0)) ∧ w.ownsRow base 54 6 (.slice a L.length c) L.length (L.flatMap rcells) ∧ w.cell? ⟨g, 0, none⟩ = some (.slice a L.length c) := by
  obtain ⟨v, h1, h2⟩ := h.box
  obtain ⟨a, c, rfl, -⟩ := rows_at h2
  exact ⟨a, c, h1, h2, cell_of_heap h1 rfl⟩
theorem Try.info_54 : (Try.prog.info? 54).map (fun i => (i.zero, i.size, i.bytes)) = some (some (rval (0, Slot.zero)), 6, 48) := by kernel_rfl

theorem six_cells {w : World} {g : Nat} {a b c d e f : Value} {t : TypeId} (h : w.heap[g]? = some (.cells #[a, b, c, d, e, f] t (0, 0))) :
    w.cell? ⟨g, 0, none⟩ = some a ∧ w.cell? ⟨g, 1, none⟩ = some b ∧ w.cell? ⟨g, 2, none⟩ = some c ∧ w.cell? ⟨g, 3, none⟩ = some d ∧ w.cell? ⟨g, 4, none⟩ = some e ∧ w.cell? ⟨g, 5, none⟩ = some f :=
  ⟨cell_of_heap h rfl, cell_of_heap h rfl, cell_of_heap h rfl, cell_of_heap h rfl, cell_of_heap h rfl, cell_of_heap h rfl⟩
theorem six_frozen {w : World} {g : Nat} {a b c d e f : Value} {t : TypeId} (h : w.heap[g]? = some (.cells #[a, b, c, d, e, f] t (0, 0))) :
    w.frozen? ⟨g, 0, none⟩ = false ∧ w.frozen? ⟨g, 1, none⟩ = false ∧ w.frozen? ⟨g, 2, none⟩ = false ∧ w.frozen? ⟨g, 3, none⟩ = false ∧ w.frozen? ⟨g, 4, none⟩ = false ∧ w.frozen? ⟨g, 5, none⟩ = false := by
  refine ⟨?_, ?_, ?_, ?_, ?_, ?_⟩ <;> simp [World.frozen?, h]
/-- another struct of six cells, stored -/
abbrev put6 (w : World) (g : Nat) (a b c d e f : Value) : World := (((((w.setCell ⟨g, 0, none⟩ a).setCell ⟨g, 1, none⟩ b).setCell ⟨g, 2, none⟩ c).setCell ⟨g, 3, none⟩ d).setCell ⟨g, 4, none⟩ e).setCell ⟨g, 5, none⟩ f
theorem six_put {w : World} {g : Nat} {a b c d e f a' b' c' d' e' f' : Value} {t : TypeId} (h : w.heap[g]? = some (.cells #[a, b, c, d, e, f] t (0, 0))) :
    (put6 w g a' b' c' d' e' f').heap[g]? = some (.cells #[a', b', c', d', e', f'] t (0, 0)) :=
  heap_setCell_same _ _ _ _ _ _ (heap_setCell_same _ _ _ _ _ _ (heap_setCell_same _ _ _ _ _ _ (heap_setCell_same _ _ _ _ _ _ (heap_setCell_same _ _ _ _ _ _ (heap_setCell_same _ _ _ _ _ _ h)))))
theorem below_put6 {B : Nat} {a w : World} (h : Below B a w) {g : Nat} (hp : B ≤ g) (x y z u v t : Value) : Below B a (put6 w g x y z u v t) :=
  (((((h.setCell (p := ⟨g, 0, none⟩) hp x).setCell (p := ⟨g, 1, none⟩) hp y).setCell (p := ⟨g, 2, none⟩) hp z).setCell (p := ⟨g, 3, none⟩) hp u).setCell (p := ⟨g, 4, none⟩) hp v).setCell (p := ⟨g, 5, none⟩) hp t
theorem put6_other {w : World} {g k : Nat} (a b c d e f : Value) (h : k ≠ g) : (put6 w g a b c d e f).heap[k]? = w.heap[k]? := by
  unfold put6
  repeat rw [Below.heap_setCell _ _ _ _ (by exact h)]

/-- the row that Of answers -/
def rowL (L : Log) (c : Int) : Sl := if hasL L c = true then (c, slotL L c) else (0, Slot.zero)
theorem rowL_snoc (L : Log) (x : Sl) (c : Int) : rowL (L ++ [x]) c = if x.1 = c then x else rowL L c := by
  unfold rowL
  rw [hasL_snoc, slotL_snoc]
  obtain ⟨a, s⟩ := x
  by_cases h : a = c
  · subst h; simp
  · simp [h]
theorem rowL_slot (L : Log) (c : Int) : (rowL L c).2 = slotL L c := by
  unfold rowL
  split
  · rfl
  · rw [slotL_none (by simpa using ‹¬ hasL L c = true›)]
theorem take_next {L : Log} {k : Nat} {x : Sl} (h : L[k]? = some x) : L.take (k + 1) = L.take k ++ [x] := by
  have hk := (List.getElem?_eq_some_iff.1 h).1
  rw [List.take_succ_eq_append_getElem hk]
  rw [List.getElem?_eq_getElem hk] at h
  simp only [Option.some.injEq] at h
  rw [h]
set_option maxRecDepth 100000 in
set_option maxHeartbeats 2000000 in
theorem rof_any (base g : Nat) (L : Log) (c : Int) (w : World) (h : Rt w base g L) (hlen : L.length ≤ 100000) :
    Calls Try.prog 20 #[.pointer (some ⟨g, 0, none⟩), .int .i64 c] w fun e w' => e = .returned (.tuple #[rval (rowL L c), .bool (hasL L c)]) ∧ Below w.heap.size w w' := by
  have hb : Below w.heap.size w ((w.alloc (.cells (rarr (0, Slot.zero)) 54)).alloc (.cells (rarr (0, Slot.zero)) 54)) := ((Below.refl _ _).alloc (Nat.le_refl _) _).alloc (by simp) _
  have HN : Hid (((w.alloc (.cells (rarr (0, Slot.zero)) 54)).alloc (.cells (rarr (0, Slot.zero)) 54)).heap[w.heap.size + 1]? = some (.cells (rarr (0, Slot.zero)) 54)) := by
    have := heap_alloc_new (w.alloc (.cells (rarr (0, Slot.zero)) 54)) (.cells (rarr (0, Slot.zero)) 54)
    rwa [World.size_alloc] at this
  have HM : Hid (((w.alloc (.cells (rarr (0, Slot.zero)) 54)).alloc (.cells (rarr (0, Slot.zero)) 54)).heap[w.heap.size]? = some (.cells (rarr (0, Slot.zero)) 54)) := (heap_alloc_old _ _ (by simp)).trans (heap_alloc_new w _)
  obtain ⟨a, cc, -, h2, c0⟩ := (h.later hb).cells
  have HO : Hid (w.ownsRow base 54 6 (.slice a L.length cc) L.length (L.flatMap rcells)) := by
    obtain ⟨a', cc', h3, h4, c1⟩ := h.cells
    have e := (hb.cell (World.block_lt_of_cell? _ _ c1)).trans c1
    rw [c0] at e
    simp only [Option.some.injEq, Value.slice.injEq, true_and] at e
    obtain ⟨rfl, rfl⟩ := e
    exact h4
  have HB : Hid (Below w.heap.size w ((w.alloc (.cells (rarr (0, Slot.zero)) 54)).alloc (.cells (rarr (0, Slot.zero)) 54))) := hb
  clear h h2 hb
  go_enter Try.func20, Try.ntmps20
  go_wp2
  generalize (w.alloc (.cells (rarr (0, Slot.zero)) 54)).alloc (.cells (rarr (0, Slot.zero)) 54) = w0 at *
  go_loopw [7, 16] (fun ok t wr => ∃ k : Nat, t = .int .i64 (k : Nat) ∧ k ≤ L.length ∧ ok = .bool (hasL (L.take k) c) ∧ Hid (wr.heap[w.heap.size + 1]? = some (.cells (rarr (rowL (L.take k) c)) 54)) ∧ Hid (wr.heap[w.heap.size]? = some (.cells (rarr (0, Slot.zero)) 54)) ∧ Hid (Below w.heap.size w wr)) (fun _ t _ => L.length - (intOf t).toNat)
  case atStart => exact ⟨0, rfl, by omega, rfl, HN.out, HM.out, HB.out⟩
  case round =>
    obtain ⟨k, rfl, hk, rfl, HK, HZ, HW⟩ := hrel
    by_cases hlt : k < L.length
    · obtain ⟨a', c', e, -, -, -, h5⟩ := rows_at (HO.out)
      simp only [Value.slice.injEq, true_and] at e
      obtain ⟨rfl, rfl⟩ := e
      obtain ⟨b, off, rfl, hc⟩ := h5 (by omega)
      have hr : L[k]? = some L[k] := List.getElem?_eq_getElem hlt
      generalize L[k] = r at hr
      obtain ⟨d0, d1, d2, d3, d4, d5⟩ := hc k r hr
      have d0 := (HW.out.cell (World.block_lt_of_cell? _ _ d0)).trans d0
      have d1 := (HW.out.cell (World.block_lt_of_cell? _ _ d1)).trans d1
      have d2 := (HW.out.cell (World.block_lt_of_cell? _ _ d2)).trans d2
      have d3 := (HW.out.cell (World.block_lt_of_cell? _ _ d3)).trans d3
      have d4 := (HW.out.cell (World.block_lt_of_cell? _ _ d4)).trans d4
      have d5 := (HW.out.cell (World.block_lt_of_cell? _ _ d5)).trans d5
      have HR : Hid (L.take (k + 1) = L.take k ++ [r]) := take_next hr
      clear hc h5 hr
      obtain ⟨x, q, o, t, cd, n⟩ := r
      simp only at d0 d1 d2 d3 d4 d5
      have HX : Hid (Below w.heap.size w (wr.alloc (.cells (rarr (x, ⟨q, o, t, cd, n⟩)) 54))) := HW.out.alloc HW.out.size _
      have hX := heap_alloc_new wr (.cells (rarr (x, ⟨q, o, t, cd, n⟩)) 54)
      have hn2 : (wr.alloc (.cells (rarr (x, ⟨q, o, t, cd, n⟩)) 54)).heap[w.heap.size + 1]? = some (.cells (rarr (rowL (L.take k) c)) 54) := (heap_alloc_old _ _ (Array.getElem?_eq_some_iff.1 HK.out).1).trans HK.out
      have HZ2 : Hid ((wr.alloc (.cells (rarr (x, ⟨q, o, t, cd, n⟩)) 54)).heap[w.heap.size]? = some (.cells (rarr (0, Slot.zero)) 54)) := (heap_alloc_old _ _ (Array.getElem?_eq_some_iff.1 HZ.out).1).trans HZ.out
      by_cases he : x = c
      · have hb : (x == c) = true := by simp [he]
        subst he
        have HH : Hid (hasL (L.take (k + 1)) x = true) := by rw [Hid, HR.out, hasL_snoc, if_pos rfl]
        have HRR : Hid (rowL (L.take (k + 1)) x = (x, ⟨q, o, t, cd, n⟩)) := by rw [Hid, HR.out, rowL_snoc, if_pos rfl]
        go_upto_region 6 with fail
        clear d0 d1 d2 d3 d4 d5
        generalize hw1 : wr.alloc (.cells (rarr (x, ⟨q, o, t, cd, n⟩)) 54) = w1 at *
        have HX2 : Hid (w1.heap[w.heap.size + 1]? = some (.cells (rarr (rowL (L.take k) x)) 54)) := hn2
        have e0 : w1.cell? ⟨wr.heap.size, 0, none⟩ = some (.int .i64 x) := cell_of_heap hX rfl
        have e1 : w1.cell? ⟨wr.heap.size, 1, none⟩ = some (.int .u64 q) := cell_of_heap hX rfl
        have e2 : w1.cell? ⟨wr.heap.size, 2, none⟩ = some (.bool o) := cell_of_heap hX rfl
        have e3 : w1.cell? ⟨wr.heap.size, 3, none⟩ = some (.int .i64 t) := cell_of_heap hX rfl
        have e4 : w1.cell? ⟨wr.heap.size, 4, none⟩ = some (.int .i64 cd) := cell_of_heap hX rfl
        have e5 : w1.cell? ⟨wr.heap.size, 5, none⟩ = some (.int .u64 n) := cell_of_heap hX rfl
        have hpw : w.heap.size + 1 ≠ wr.heap.size := by have := (Array.getElem?_eq_some_iff.1 HK.out).1; omega
        generalize rowL (L.take k) x = rw0 at *
        obtain ⟨f0, f1, f2, f3, f4, f5⟩ := six_cells hn2
        obtain ⟨z0, z1, z2, z3, z4, z5⟩ := six_frozen hn2
        clear hn2 hX hb
        go_wp2
        go_roundw
        case rel => exact ⟨k + 1, by go_num, by omega, by rw [HH.out], by rw [HRR.out]; exact six_put HX2.out, (put6_other _ _ _ _ _ _ (by omega)).trans HZ2.out, below_put6 HX.out (by omega) _ _ _ _ _ _⟩
        case measure => simp [intOf]; omega
      · have hb : (x == c) = false := by simp [he]
        have HK2 : Hid ((wr.alloc (.cells (rarr (x, ⟨q, o, t, cd, n⟩)) 54)).heap[w.heap.size + 1]? = some (.cells (rarr (rowL (L.take (k + 1)) c)) 54)) := by
          rw [Hid, HR.out, rowL_snoc, if_neg he]
          exact hn2
        have HH : Hid (hasL (L.take (k + 1)) c = hasL (L.take k) c) := by rw [Hid, HR.out, hasL_snoc, if_neg he]
        clear hn2 hX he
        go_wp2
        go_roundw
        case rel => exact ⟨k + 1, by go_num, by omega, by rw [HH.out], HK2, HZ2, HX⟩
        case measure => simp [intOf]; omega
    · have hk : k = L.length := by omega
      subst hk
      rw [List.take_length] at HK ⊢
      generalize hrw : rowL L c = rw0 at HK
      obtain ⟨x, q, o, t, cd, n⟩ := rw0
      have HRW : Hid (rowL L c = (x, ⟨q, o, t, cd, n⟩)) := hrw
      clear hrw
      obtain ⟨f0, f1, f2, f3, f4, f5⟩ := six_cells HK.out
      obtain ⟨z0, z1, z2, z3, z4, z5⟩ := six_frozen HZ.out
      obtain ⟨y0, y1, y2, y3, y4, y5⟩ := six_cells HZ.out
      have HF : Hid (((((((wr.setCell ⟨w.heap.size, 0, none⟩ (.int .i64 x)).setCell ⟨w.heap.size, 1, none⟩ (.int .u64 q)).setCell ⟨w.heap.size, 2, none⟩ (.bool o)).setCell ⟨w.heap.size, 3, none⟩ (.int .i64 t)).setCell ⟨w.heap.size, 4, none⟩ (.int .i64 cd)).setCell ⟨w.heap.size, 5, none⟩ (.int .u64 n)).heap[w.heap.size]? = some (.cells (rarr (x, ⟨q, o, t, cd, n⟩)) 54)) := six_put HZ.out
      have HBF : Hid (Below w.heap.size w ((((((wr.setCell ⟨w.heap.size, 0, none⟩ (.int .i64 x)).setCell ⟨w.heap.size, 1, none⟩ (.int .u64 q)).setCell ⟨w.heap.size, 2, none⟩ (.bool o)).setCell ⟨w.heap.size, 3, none⟩ (.int .i64 t)).setCell ⟨w.heap.size, 4, none⟩ (.int .i64 cd)).setCell ⟨w.heap.size, 5, none⟩ (.int .u64 n))) := below_put6 HW.out (Nat.le_refl _) _ _ _ _ _ _
      go_wp2
      generalize ((((((wr.setCell ⟨w.heap.size, 0, none⟩ (.int .i64 x)).setCell ⟨w.heap.size, 1, none⟩ (.int .u64 q)).setCell ⟨w.heap.size, 2, none⟩ (.bool o)).setCell ⟨w.heap.size, 3, none⟩ (.int .i64 t)).setCell ⟨w.heap.size, 4, none⟩ (.int .i64 cd)).setCell ⟨w.heap.size, 5, none⟩ (.int .u64 n)) = wf at *
      obtain ⟨x0, x1, x2, x3, x4, x5⟩ := six_cells HF.out
      refine bodyPost_ret (v := .tuple #[rval (x, ⟨q, o, t, cd, n⟩), .bool (hasL L c)]) (by simp [results, Try.results20, go_sem, x0, x1, x2, x3, x4, x5]) rfl ?_
      exact ⟨by rw [HRW.out], HBF.out⟩
end Go.Proofs.Ytophkidigajliaa
