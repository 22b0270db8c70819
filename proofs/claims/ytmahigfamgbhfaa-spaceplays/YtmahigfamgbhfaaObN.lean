/- Versions that came in: as they lie in memory, and as the program's; the chapter's example. -/
import Derived.Test.YtmahigfamgbhfaaObL
import Derived.Test.YtmahigfamgbhfaaObI
import Derived.Deep.Slices
import Derived.OpenShut
namespace Go.Proofs.Ytmahigfamgbhfaa
open Go.RowKit Go.ChangeShapes Go.WideShapes
set_option linter.unusedVariables false


theorem VOwn.isSlice {w : World} {base : Nat} {e : TypeId} {v : Value} {l : List Ver} (h : VOwn w base e v l) : ∃ a n c, v = .slice a n c := by
  obtain ⟨a, c, e, -⟩ := h.slice
  exact ⟨_, _, _, e⟩
theorem Try.cells43 : Try.prog.cellsOf 43 = 4 := by kernel_rfl
theorem Try.cells3 : Try.prog.cellsOf 3 = 1 := by kernel_rfl
theorem Try.cells34 : Try.prog.cellsOf 34 = 1 := by kernel_rfl
theorem Try.cells9 : Try.prog.cellsOf 9 = 1 := by kernel_rfl
theorem Try.cells4 : Try.prog.cellsOf 4 = 1 := by kernel_rfl
theorem add_none (b off k : Nat) : (⟨b, off, none⟩ : Addr).add k = ⟨b, off + k, none⟩ := by
  unfold Addr.add
  by_cases h : k = 0
  · subst h; simp
  · simp [h]

set_option maxRecDepth 100000 in
theorem open_ver {H : Type} {enc : TypeId × Value → H} {w : World} {base : Nat} {spare : Nat → Bool} {held : Bool} {fuel : Nat} {cs : List Value} {x : DataW H × List MemPlace} (h : DataW.trod enc Try.prog w base spare held fuel 43 cs = some x) :
    ∃ v : Ver, v.ok ∧ cs = v.cells := by
  obtain ⟨xs, m, _, hx0, hl, _, hf⟩ := DataW.trod_struct Try.underlying43 h
  rw [Try.cells43] at hl
  match cs, hl with
  | [c0, c1, c2, c3], _ =>
    have g0 := hf 0 _ rfl
    have g1 := hf 1 _ rfl
    have g2 := hf 2 _ rfl
    have g3 := hf 3 _ rfl
    simp [Try.cells3, Try.cells34, Try.cells9, Try.cells4] at g0 g1 g2 g3
    have some_of : ∀ {t : TypeId} {cs : List Value} {i : Nat}, i < xs.length → DataW.trod enc Try.prog w base spare held m t cs = xs[i]? → ∃ y, DataW.trod enc Try.prog w base spare held m t cs = some y := by
      intro t cs i hi he
      rw [List.getElem?_eq_getElem hi] at he
      exact ⟨_, he⟩
    have hxl : xs.length = 4 := by first | exact hx0 | (rename_i hx _; exact hx)
    obtain ⟨y0, g0⟩ := some_of (by omega) g0
    obtain ⟨y1, g1⟩ := some_of (by omega) g1
    obtain ⟨y2, g2⟩ := some_of (by omega) g2
    obtain ⟨y3, g3⟩ := some_of (by omega) g3
    obtain ⟨n0, e0, _, w0⟩ := DataW.trod_int Try.underlying3 g0
    obtain ⟨n1, e1, _, w1⟩ := DataW.trod_int Try.underlying34 g1
    obtain ⟨n2, e2, _, w2⟩ := DataW.trod_string Try.underlying9 g2
    obtain ⟨n3, e3, _⟩ := DataW.trod_bool Try.underlying4 g3
    simp only [List.cons.injEq, and_true] at e0 e1 e2 e3
    subst e0 e1 e2 e3
    have hb : 0 ≤ n1 ∧ n1 < 18446744073709551616 := by have := bounds_u64 w1; omega
    refine ⟨⟨n0, n1.toNat, n2, n3⟩, ⟨w0, by show n1.toNat < _; omega, w2⟩, ?_⟩
    simp only [Ver.cells]
    rw [Int.toNat_of_nonneg hb.1]

set_option maxRecDepth 100000 in
theorem open_vers {H : Type} {enc : TypeId × Value → H} {w : World} {base : Nat} {spare : Nat → Bool} {held : Bool} {a : Option Addr} {len cap : Nat} {d : DataW H} {ps : List MemPlace} (h : DataW.Trod enc Try.prog w base spare held 22 (.slice a len cap) d ps) :
    ∃ l, VRow w a len l := by
  obtain ⟨fuel, hf⟩ := h
  rcases Go.Deep.open_slice Try.underlying22 hf with ⟨hcs, _⟩ | ⟨x, l, c, m, q, D, Pl, hcs, _, hl, hm, hmm, _, hx⟩
  · simp [Value.cells] at hcs
    obtain ⟨rfl, rfl, rfl⟩ := hcs
    exact ⟨[], VRow.nil _ _⟩
  · simp [Value.cells] at hcs
    obtain ⟨rfl, rfl, rfl⟩ := hcs
    have hlm : len ≤ m := by rw [hmm]; split <;> omega
    haveI : Inhabited Ver := ⟨Ver.zero⟩
    obtain ⟨O, hO⟩ := Go.Deep.choose_lt (α := Ver) (p := fun i v => v.ok ∧ ∃ b off, some x = some (⟨b, off, none⟩ : Addr) ∧
      w.cell? ⟨b, off + i * 4, none⟩ = some (.int .i64 v.pos) ∧ w.cell? ⟨b, off + i * 4 + 1, none⟩ = some (.int .u64 (v.num : Nat)) ∧ w.cell? ⟨b, off + i * 4 + 2, none⟩ = some (.string v.val) ∧ w.cell? ⟨b, off + i * 4 + 3, none⟩ = some (.bool v.gone)) (n := len) (fun i hi => by
      obtain ⟨cs', h1, h2⟩ := hx i (by omega)
      obtain ⟨v, hv, rfl⟩ := open_ver h2
      rw [Try.cells43] at h1
      obtain ⟨_, _, hcell⟩ := World.cells?_some h1
      obtain ⟨b, off, spot⟩ := x
      have hspot : spot = none := by
        obtain ⟨cs0, g1, g2⟩ := hx 0 (by omega)
        obtain ⟨o0, _, rfl⟩ := open_ver g2
        rw [Try.cells43] at g1
        have := (World.cells?_some g1).2.2 0 (by omega)
        simpa [Addr.add] using World.cell?_spot this
      subst hspot
      refine ⟨v, hv, b, off, rfl, ?_⟩
      have c0 := hcell 0 (by omega)
      have c1 := hcell 1 (by omega)
      have c2 := hcell 2 (by omega)
      have c3 := hcell 3 (by omega)
      rw [add_none, add_none] at c0 c1 c2 c3
      exact ⟨c0, c1, c2, c3⟩)
    have hlen : ((List.range len).map O).length = len := by simp
    have hnth : ∀ i, i < len → nth ((List.range len).map O) i = O i := fun i hi => by simp [nth, hi]
    refine ⟨(List.range len).map O, hlen, ?_, by omega, ?_⟩
    · intro v hv
      simp at hv
      obtain ⟨i, hi, rfl⟩ := hv
      exact (hO i hi).1
    · rcases Nat.eq_zero_or_pos len with rfl | hpos
      · exact .inl rfl
      · obtain ⟨_, b, off, e0, _⟩ := hO 0 hpos
        refine .inr ⟨b, off, e0, fun i hi => ?_⟩
        obtain ⟨_, b', off', e1, hc⟩ := hO i hi
        rw [e0] at e1
        simp only [Option.some.injEq, Addr.mk.injEq] at e1
        obtain ⟨rfl, rfl, _⟩ := e1
        rw [hnth i hi]
        exact hc


set_option maxRecDepth 100000 in
set_option maxHeartbeats 4000000 in
theorem ours9_any (a : Option Addr) (n cap : Nat) (l : List Ver) (w : World) (hr : VRow w a n l) :
    Calls Try.prog 11 #[.slice a n cap] w fun e w' => ∃ u, e = .returned (.agg #[u]) ∧ Ob w' u (l.take 20) ∧ Below w.heap.size w w' := by
  have hlen : n ≤ 9223372036854775807 := by have := hr.2.2.1; unfold maxLen at this; omega
  have HR : Hid (VRow w a n l) := hr
  clear hr
  go_enter Try.func11, Try.ntmps11
  go_wp2
  go_loopw [8] (fun s8 wr => ∃ (k : Nat) (v : Value), s8 = .int .i64 (k : Nat) ∧ k ≤ n ∧ Hid (wr.heap[w.heap.size + 1]? = some (.cells #[v] 25) ∧ wr.heap[w.heap.size]? = some (.cells #[.slice none 0 0] 25)) ∧ Hid (VOwn wr (w.heap.size + 2) 36 v (l.take (min k 20))) ∧ Hid (Below w.heap.size w wr)) (fun s8 _ => n - (intOf s8).toNat)
  case atStart =>
    have h1 := heap_alloc_new (w.alloc (.cells #[.slice none 0 0] 25)) (.cells #[.slice none 0 0] 25)
    rw [World.size_alloc] at h1
    exact ⟨0, .slice none 0 0, rfl, by omega, ⟨h1, (heap_alloc_old _ _ (by simp)).trans (heap_alloc_new w _)⟩, VOwn.nil _ _ _, ((Below.refl _ _).alloc (Nat.le_refl _) _).alloc (by simp) _⟩
  case round =>
    obtain ⟨k, v, rfl, hk, HX, HO, HB⟩ := hrel
    have hsz : w.heap.size + 2 ≤ wr.heap.size := (Array.getElem?_eq_some_iff.1 HX.out.1).1
    by_cases hlt : k < n
    · obtain ⟨b, off, rfl, hc⟩ := (HR.out.later HB.out).at (by omega)
      obtain ⟨c0, c1, c2, c3⟩ := hc k hlt
      clear hc
      have HBx : Hid (Below wr.heap.size wr (wr.alloc (.cells #[.int .i64 (nth l k).pos, .int .u64 ((nth l k).num : Nat), .string (nth l k).val, .bool (nth l k).gone] 43))) := (Below.refl _ _).alloc (Nat.le_refl _) _
      have HBw : Hid (Below w.heap.size w (wr.alloc (.cells #[.int .i64 (nth l k).pos, .int .u64 ((nth l k).num : Nat), .string (nth l k).val, .bool (nth l k).gone] 43))) := HB.out.trans (HBx.out.mono HB.out.size)
      by_cases h20 : k < 20
      · have hmin : min k 20 = k := by omega
        have HF : Hid (l.take (min (k + 1) 20) = l.take (min k 20) ++ [nth l k]) := by
          show l.take (min (k + 1) 20) = l.take (min k 20) ++ [nth l k]
          rw [hmin, show min (k + 1) 20 = k + 1 by omega]
          exact take_snoc l k (by rw [HR.out.1]; exact hlt)
        have hok := HR.out.okn k
        have hsh : (l.take (min k 20)).length ≤ 1000000000 := by simp; omega
        clear hmin
        generalize nth l k = u at *
        have HBy : Hid (Below wr.heap.size wr ((wr.alloc (.cells #[.int .i64 (u).pos, .int .u64 ((u).num : Nat), .string (u).val, .bool (u).gone] 43)).alloc (.cells #[.int .i64 (u).pos, .int .u64 ((u).num : Nat), .string (u).val, .bool (u).gone] 36))) := HBx.out.alloc HBx.out.size _
        have HO2 : Hid (VOwn ((wr.alloc (.cells #[.int .i64 (u).pos, .int .u64 ((u).num : Nat), .string (u).val, .bool (u).gone] 43)).alloc (.cells #[.int .i64 (u).pos, .int .u64 ((u).num : Nat), .string (u).val, .bool (u).gone] 36)) (w.heap.size + 2) 36 v (l.take (min k 20))) := HO.out.later HBy.out
        have hg : ((wr.alloc (.cells #[.int .i64 (u).pos, .int .u64 ((u).num : Nat), .string (u).val, .bool (u).gone] 43)).alloc (.cells #[.int .i64 (u).pos, .int .u64 ((u).num : Nat), .string (u).val, .bool (u).gone] 36)).heap[wr.heap.size + 1]? = some (.cells #[.int .i64 (u).pos, .int .u64 ((u).num : Nat), .string (u).val, .bool (u).gone] 36) := by
          have := heap_alloc_new (wr.alloc (.cells #[.int .i64 (u).pos, .int .u64 ((u).num : Nat), .string (u).val, .bool (u).gone] 43)) (.cells #[.int .i64 (u).pos, .int .u64 ((u).num : Nat), .string (u).val, .bool (u).gone] 36)
          rwa [World.size_alloc] at this
        have hb2 : w.heap.size + 2 ≤ ((wr.alloc (.cells #[.int .i64 (u).pos, .int .u64 ((u).num : Nat), .string (u).val, .bool (u).gone] 43)).alloc (.cells #[.int .i64 (u).pos, .int .u64 ((u).num : Nat), .string (u).val, .bool (u).gone] 36)).heap.size := by simp; omega
        have q1 : (wr.alloc (.cells #[.int .i64 (u).pos, .int .u64 ((u).num : Nat), .string (u).val, .bool (u).gone] 43)).cell? ⟨w.heap.size + 1, 0, none⟩ = some v := cell_later HBx.out (cell_of_heap HX.out.1 rfl)
        have HX3 : Hid (((wr.alloc (.cells #[.int .i64 (u).pos, .int .u64 ((u).num : Nat), .string (u).val, .bool (u).gone] 43)).alloc (.cells #[.int .i64 (u).pos, .int .u64 ((u).num : Nat), .string (u).val, .bool (u).gone] 36)).heap[w.heap.size + 1]? = some (.cells #[v] 25) ∧ ((wr.alloc (.cells #[.int .i64 (u).pos, .int .u64 ((u).num : Nat), .string (u).val, .bool (u).gone] 43)).alloc (.cells #[.int .i64 (u).pos, .int .u64 ((u).num : Nat), .string (u).val, .bool (u).gone] 36)).heap[w.heap.size]? = some (.cells #[.slice none 0 0] 25)) := ⟨(HBy.out.block _ (by omega)).trans HX.out.1, (HBy.out.block _ (by omega)).trans HX.out.2⟩
        go_wp2_with (at_builtin; refine wp_append_ver 23 36 Try.underlying23 Try.info_36 rfl _ _ rfl (w.heap.size + 2) _ _ rfl HO2.out _ _ u rfl hg hok hsh hb2 ?_; intro v2 w2 ho2 hbb hg2; obtain ⟨av, nv, cv, rfl⟩ := ho2.isSlice; have hx4 := (hbb.block (w.heap.size + 1) (by omega)).trans HX3.out.1; have x5 : w2.cell? ⟨w.heap.size + 1, 0, none⟩ = some v := cell_of_heap hx4 rfl; have x6 : w2.frozen? ⟨w.heap.size + 1, 0, none⟩ = false := frozen_of_row w2 _ _ _ _ hx4)
        go_roundw
        case rel =>
          have hx7 := heap_setCell_same w2 _ 0 _ 25 (.slice av nv cv) hx4
          have hx8 : (w2.setCell ⟨w.heap.size + 1, 0, none⟩ (.slice av nv cv)).heap[w.heap.size]? = some (.cells #[.slice none 0 0] 25) := by
            rw [heap_setCell_other _ _ _ _ (by simp)]
            exact (hbb.block w.heap.size (by omega)).trans HX3.out.2
          have hfin : VOwn (w2.setCell ⟨w.heap.size + 1, 0, none⟩ (.slice av nv cv)) (w.heap.size + 2) 36 (.slice av nv cv) (l.take (min (k + 1) 20)) := by
            rw [HF.out]
            exact ho2.set_below (by simp) _
          exact ⟨k + 1, .slice av nv cv, by go_num, by omega, ⟨hx7, hx8⟩, hfin, ((HBw.out.alloc HBw.out.size _).trans (hbb.mono (by omega))).setCell (by simp) _⟩
        case measure => simp [intOf]; omega
      · have HF : Hid (l.take (min (k + 1) 20) = l.take (min k 20)) := by
          show l.take (min (k + 1) 20) = l.take (min k 20)
          rw [show min (k + 1) 20 = 20 by omega, show min k 20 = 20 by omega]
        generalize nth l k = u at *
        have HO2 : Hid (VOwn (wr.alloc (.cells #[.int .i64 (u).pos, .int .u64 ((u).num : Nat), .string (u).val, .bool (u).gone] 43)) (w.heap.size + 2) 36 v (l.take (min k 20))) := HO.out.later HBx.out
        have HX2 : Hid ((wr.alloc (.cells #[.int .i64 (u).pos, .int .u64 ((u).num : Nat), .string (u).val, .bool (u).gone] 43)).heap[w.heap.size + 1]? = some (.cells #[v] 25) ∧ (wr.alloc (.cells #[.int .i64 (u).pos, .int .u64 ((u).num : Nat), .string (u).val, .bool (u).gone] 43)).heap[w.heap.size]? = some (.cells #[.slice none 0 0] 25)) := ⟨(HBx.out.block _ (by omega)).trans HX.out.1, (HBx.out.block _ (by omega)).trans HX.out.2⟩
        go_wp2
        go_roundw
        case rel => exact ⟨k + 1, v, by go_num, by omega, HX2, by unfold Hid; rw [HF.out]; exact HO2.out, HBw⟩
        case measure => simp [intOf]; omega
    · obtain ⟨av, nv, cv, rfl⟩ := HO.out.isSlice
      have q0 : wr.cell? ⟨w.heap.size + 1, 0, none⟩ = some (.slice av nv cv) := cell_of_heap HX.out.1 rfl
      have z0 : wr.cell? ⟨w.heap.size, 0, none⟩ = some (.slice none 0 0) := cell_of_heap HX.out.2 rfl
      have f0 : wr.frozen? ⟨w.heap.size, 0, none⟩ = false := frozen_of_row wr _ _ _ _ HX.out.2
      have s0 : ∀ u, (wr.setCell ⟨w.heap.size, 0, none⟩ u).cell? ⟨w.heap.size, 0, none⟩ = some u := fun u => cell_of_heap (heap_setCell_same wr _ 0 _ 25 u HX.out.2) rfl
      have HE : Hid (Ob (wr.setCell ⟨w.heap.size, 0, none⟩ (.slice av nv cv)) (.slice av nv cv) (l.take 20)) := by
        have h1 := HO.out
        have e : l.take (min k 20) = l.take 20 := by
          rw [show k = l.length by have := HR.out.1; omega]
          rcases Nat.le_total l.length 20 with h | h
          · rw [Nat.min_eq_left h, List.take_of_length_le h, List.take_of_length_le (Nat.le_refl _)]
          · rw [Nat.min_eq_right h]
        rw [e] at h1
        exact (h1.set_below (by simp) _).ob (by simp; omega)
      go_wp2
      refine bodyPost_ret (v := .agg #[.slice av nv cv]) (by simp [results, Try.results11, go_sem, s0]) rfl ?_
      exact ⟨_, rfl, HE.out, HB.out.setCell (by simp) _⟩

end Go.Proofs.Ytmahigfamgbhfaa
