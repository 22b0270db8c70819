/- What package disk's Crash does: a contract. -/
import Derived.Test.YtmlpneiadkngaaaDoorDkE
namespace Go.Proofs.YtmlpneiadkngaaaDoor
open Go.RowKit

/-- a disk's block: what its cells are -/
theorem blk_cells {w : World} {g : Nat} {r x0 y0 x1 y1 l m n : Value} (hh : w.heap[g]? = some (.cells #[r, x0, y0, x1, y1, l, m, n] 50 (0, 0))) :
    w.cell? ⟨g, 1, none⟩ = some x0 ∧ w.cell? ⟨g, 2, none⟩ = some y0 ∧ w.cell? ⟨g, 3, none⟩ = some x1 ∧ w.cell? ⟨g, 4, none⟩ = some y1 ∧ w.cell? ⟨g, 5, none⟩ = some l ∧ w.cell? ⟨g, 6, none⟩ = some m ∧ w.cell? ⟨g, 7, none⟩ = some n ∧ (∀ i, w.frozen? ⟨g, i, none⟩ = false) :=
  ⟨cell_of_heap hh rfl, cell_of_heap hh rfl, cell_of_heap hh rfl, cell_of_heap hh rfl, cell_of_heap hh rfl, cell_of_heap hh rfl, cell_of_heap hh rfl, fun _ => frozen_heap hh⟩

set_option maxHeartbeats 4000000 in
set_option maxRecDepth 100000 in
theorem dcrash_any (g : Nat) (S : Nat → Prop) (d : DS) (k0 k1 : Nat) (w : World) (h : Dk w S g d) (hk0 : k0 < 65536) (hk1 : k1 < 65536) :
    Calls Tryd.prog 28 #[.pointer (some ⟨g, 0, none⟩), .agg #[.int .u16 k0, .int .u16 k1]] w fun e w' => e = .returned (.tuple #[]) ∧ Dk w' S g (d.crash k0 k1) ∧ Frm (· = g) w w' := by
  have hok := DS.crash_ok h.good k0 k1
  have hlt := h.lt
  have hs0 := DS.stay_le d.b0 d.s0 k0 h.good.s0
  have hs1 := DS.stay_le d.b1 d.s1 k1 h.good.s1
  have hsum := h.good.sum
  have hroom := h.good.room
  have hd0 := h.good.s0
  have hd1 := h.good.s1
  obtain ⟨a0, n0, c0, a1, n1, c1, hh, h1, h2, h3, h4, h5, h6, h7⟩ := h
  have l0 := h1.row.1
  have l1 := h2.row.1
  rw [l0] at hs0 hsum hd0
  rw [l1] at hs1 hsum hd1
  have hm : ∀ (b : List Nat) (s n k : Nat), b.length = n → s ≤ n → n ≤ 1048576 → wrap64 ((s : Int) + (k : Int) % ((n : Int) - (s : Int) + 1)) = (DS.stay b s k : Nat) := by
    intro b s n k hl hs hn
    have hlt := Nat.mod_lt k (show n - s + 1 > 0 by omega)
    have e1 : (n : Int) - (s : Int) + 1 = ((n - s + 1 : Nat) : Int) := by omega
    have e2 : (s : Int) + (k : Int) % ((n : Int) - (s : Int) + 1) = ((s + k % (n - s + 1) : Nat) : Int) := by rw [e1]; push_cast; rfl
    rw [e2]
    unfold DS.stay
    rw [hl]
    exact IntWalk.wrap64_in _ ⟨by omega, by omega⟩
  have hr0 := hm d.b0 d.s0 n0 k0 l0 hd0 (by omega)
  have hr1 := hm d.b1 d.s1 n1 k1 l1 hd1 (by omega)
  have hcr : d.crash k0 k1 = { room := d.room, b0 := d.b0.take (DS.stay d.b0 d.s0 k0), s0 := DS.stay d.b0 d.s0 k0, b1 := d.b1.take (DS.stay d.b1 d.s1 k1), s1 := DS.stay d.b1 d.s1 k1, lost := false, left := none } := rfl
  rw [hcr] at hok ⊢
  clear hcr hm
  generalize DS.stay d.b0 d.s0 k0 = m0 at *
  generalize DS.stay d.b1 d.s1 k1 = m1 at *
  obtain ⟨_, _, _, ee, -, hcap0, -⟩ := h1.slice
  simp only [Value.slice.injEq] at ee
  obtain ⟨rfl, rfl, rfl⟩ := ee
  obtain ⟨_, _, _, ee, -, hcap1, -⟩ := h2.slice
  simp only [Value.slice.injEq] at ee
  obtain ⟨rfl, rfl, rfl⟩ := ee
  have hc0 : (m0 : Int) ≤ (c0 : Int) := Int.ofNat_le.2 (Nat.le_trans hs0.1 hcap0)
  have hc1 : (m1 : Int) ≤ (c1 : Int) := Int.ofNat_le.2 (Nat.le_trans hs1.1 hcap1)
  have hB : Below w.heap.size w (w.alloc (.cells #[.int .u16 k0, .int .u16 k1] 68)) := (Below.refl _ _).alloc (Nat.le_refl _) _
  have hk : (w.alloc (.cells #[.int .u16 k0, .int .u16 k1] 68)).heap[w.heap.size]? = some (.cells #[.int .u16 k0, .int .u16 k1] 68 (0, 0)) := by
    show (w.heap.push _)[w.heap.size]? = _
    simp
  have hhA : (w.alloc (.cells #[.int .u16 k0, .int .u16 k1] 68)).heap[g]? = w.heap[g]? := hB.block g hlt
  rw [hh] at hhA
  have HB : Hid (Below _ _ _) := hB
  go_enter Tryd.func28, Tryd.ntmps28
  go_wp2
  clear hB
  generalize w.alloc (.cells #[.int .u16 k0, .int .u16 k1] 68) = W0 at *
  have T0 : Hid (_ = _) := hhA
  have F0 : Hid (Frm (· = g) W0 W0) := Frm.refl _ _
  obtain ⟨e1, e2, e3, e4, e5, e6, e7, f⟩ := blk_cells hhA
  have f1 := f 1
  have f2 := f 2
  have f3 := f 3
  have f4 := f 4
  have f5 := f 5
  have f6 := f 6
  have f7 := f 7
  clear f
  have q0 : W0.cell? ⟨w.heap.size, 0, none⟩ = some (.int .u16 k0) := cell_of_heap hk rfl
  have q1 : W0.cell? ⟨w.heap.size, 1, none⟩ = some (.int .u16 k1) := cell_of_heap hk rfl
  have Q0 : Hid (_ = _) := q0
  have Q1 : Hid (_ = _) := q1
  have hne : g ≠ w.heap.size := by omega
  have HS0 : Hid (_ ≤ _) := hs0.1
  have HS1 : Hid (_ ≤ _) := hs1.1
  clear hh hhA hk hs0 hs1 l0 l1 hcap0 hcap1
  have HR0 : Hid (_ = _) := hr0
  have HR1 : Hid (_ = _) := hr1
  have HOK : Hid (DS.ok _) := hok
  have H1 : Hid (Own _ _ _ _) := h1
  have H2 : Hid (Own _ _ _ _) := h2
  have H4 : Hid (∀ k, _) := h4
  have H5 : Hid (∀ k, _) := h5
  have H6 : Hid (∀ k, _) := h6
  clear hr0 hr1 hok h1 h2 h4 h5 h6 h7
  refine wp_loop_rounds 3 ?_
  rw [rounds_succ]
  go_wp2
  go_region
  go_wp2
  rw [HR0.out]
  clear e1 e2 e3 e4 e5 e6 e7 f1 f2 f3 f4 f5 f6 f7 q0 q1
  have T1 : Hid ((W0.setCell ⟨g, 2, none⟩ (.int .i64 (m0 : Nat))).drew.heap[g]? = _) := heap_setCell_same W0 g 2 _ 50 (.int .i64 (m0 : Nat)) T0.out
  have F1 : Hid (Frm (· = g) W0 (W0.setCell ⟨g, 2, none⟩ (.int .i64 (m0 : Nat))).drew) := F0.out.trans ((Frm.one g 2 W0 (.int .i64 (m0 : Nat))).trans (Frm.drews _ _ 1))
  generalize (W0.setCell ⟨g, 2, none⟩ (.int .i64 (m0 : Nat))).drew = W1 at *
  simp only [List.setIfInBounds_toArray, List.set_cons_succ, List.set_cons_zero] at T1
  obtain ⟨e1, e2, e3, e4, e5, e6, e7, f⟩ := blk_cells T1.out
  have f1 := f 1
  have f2 := f 2
  have f3 := f 3
  have f4 := f 4
  have f5 := f 5
  have f6 := f 6
  have f7 := f 7
  have q0 : W1.cell? ⟨w.heap.size, 0, none⟩ = some (.int .u16 k0) := F1.out.cell Q0.out (Ne.symm hne)
  have q1 : W1.cell? ⟨w.heap.size, 1, none⟩ = some (.int .u16 k1) := F1.out.cell Q1.out (Ne.symm hne)
  clear f
  go_region
  go_wp2
  clear e1 e2 e3 e4 e5 e6 e7 f1 f2 f3 f4 f5 f6 f7 q0 q1
  have T2 : Hid ((W1.setCell ⟨g, 1, none⟩ (.slice a0 m0 c0)).drew.heap[g]? = _) := heap_setCell_same W1 g 1 _ 50 (.slice a0 m0 c0) T1.out
  have F2 : Hid (Frm (· = g) W0 (W1.setCell ⟨g, 1, none⟩ (.slice a0 m0 c0)).drew) := F1.out.trans ((Frm.one g 1 W1 (.slice a0 m0 c0)).trans (Frm.drews _ _ 1))
  generalize (W1.setCell ⟨g, 1, none⟩ (.slice a0 m0 c0)).drew = W2 at *
  simp only [List.setIfInBounds_toArray, List.set_cons_succ, List.set_cons_zero] at T2
  obtain ⟨e1, e2, e3, e4, e5, e6, e7, f⟩ := blk_cells T2.out
  have f1 := f 1
  have f2 := f 2
  have f3 := f 3
  have f4 := f 4
  have f5 := f 5
  have f6 := f 6
  have f7 := f 7
  have q0 : W2.cell? ⟨w.heap.size, 0, none⟩ = some (.int .u16 k0) := F2.out.cell Q0.out (Ne.symm hne)
  have q1 : W2.cell? ⟨w.heap.size, 1, none⟩ = some (.int .u16 k1) := F2.out.cell Q1.out (Ne.symm hne)
  clear f
  rw [rounds_succ]
  go_wp2
  go_region
  go_wp2
  rw [HR1.out]
  clear e1 e2 e3 e4 e5 e6 e7 f1 f2 f3 f4 f5 f6 f7 q0 q1
  have T3 : Hid ((W2.setCell ⟨g, 4, none⟩ (.int .i64 (m1 : Nat))).drew.heap[g]? = _) := heap_setCell_same W2 g 4 _ 50 (.int .i64 (m1 : Nat)) T2.out
  have F3 : Hid (Frm (· = g) W0 (W2.setCell ⟨g, 4, none⟩ (.int .i64 (m1 : Nat))).drew) := F2.out.trans ((Frm.one g 4 W2 (.int .i64 (m1 : Nat))).trans (Frm.drews _ _ 1))
  generalize (W2.setCell ⟨g, 4, none⟩ (.int .i64 (m1 : Nat))).drew = W3 at *
  simp only [List.setIfInBounds_toArray, List.set_cons_succ, List.set_cons_zero] at T3
  obtain ⟨e1, e2, e3, e4, e5, e6, e7, f⟩ := blk_cells T3.out
  have f1 := f 1
  have f2 := f 2
  have f3 := f 3
  have f4 := f 4
  have f5 := f 5
  have f6 := f 6
  have f7 := f 7
  have q0 : W3.cell? ⟨w.heap.size, 0, none⟩ = some (.int .u16 k0) := F3.out.cell Q0.out (Ne.symm hne)
  have q1 : W3.cell? ⟨w.heap.size, 1, none⟩ = some (.int .u16 k1) := F3.out.cell Q1.out (Ne.symm hne)
  clear f
  go_region
  go_wp2
  clear e1 e2 e3 e4 e5 e6 e7 f1 f2 f3 f4 f5 f6 f7 q0 q1
  have T4 : Hid ((W3.setCell ⟨g, 3, none⟩ (.slice a1 m1 c1)).drew.heap[g]? = _) := heap_setCell_same W3 g 3 _ 50 (.slice a1 m1 c1) T3.out
  have F4 : Hid (Frm (· = g) W0 (W3.setCell ⟨g, 3, none⟩ (.slice a1 m1 c1)).drew) := F3.out.trans ((Frm.one g 3 W3 (.slice a1 m1 c1)).trans (Frm.drews _ _ 1))
  generalize (W3.setCell ⟨g, 3, none⟩ (.slice a1 m1 c1)).drew = W4 at *
  simp only [List.setIfInBounds_toArray, List.set_cons_succ, List.set_cons_zero] at T4
  obtain ⟨e1, e2, e3, e4, e5, e6, e7, f⟩ := blk_cells T4.out
  have f1 := f 1
  have f2 := f 2
  have f3 := f 3
  have f4 := f 4
  have f5 := f 5
  have f6 := f 6
  have f7 := f 7
  have q0 : W4.cell? ⟨w.heap.size, 0, none⟩ = some (.int .u16 k0) := F4.out.cell Q0.out (Ne.symm hne)
  have q1 : W4.cell? ⟨w.heap.size, 1, none⟩ = some (.int .u16 k1) := F4.out.cell Q1.out (Ne.symm hne)
  clear f
  rw [rounds_succ]
  go_wp2
  go_end0
  have hm0 : m0 ≤ n0 := HS0.out
  have hm1 : m1 ≤ n1 := HS1.out
  have FW : Frm (· = g) w W0 := Frm.of_below HB.out _ (fun k h1 h2 => by omega)
  have F5 : Frm (· = g) w (((W4.setCell ⟨g, 5, none⟩ (.bool false)).setCell ⟨g, 6, none⟩ (.bool false)).setCell ⟨g, 7, none⟩ (.int .i64 0)) := FW.trans (F4.out.trans (((Frm.one _ _ _ _).trans (Frm.one _ _ _ _)).trans (Frm.one _ _ _ _)))
  refine ⟨rfl, Dk.mk' (a0 := a0) (n0 := m0) (c0 := c0) (a1 := a1) (n1 := m1) (c1 := c1) ?_ F5 (H1.out.takes hm0) (H2.out.takes hm1) h3 (fun j hj => H4.out j (by rw [ownBlock_slice _ _ _ m0 c0]; exact hj)) (fun j hj => H5.out j (by rw [ownBlock_slice _ _ _ m1 c1]; exact hj)) (fun j hj => by rw [ownBlock_slice _ _ _ n1 c1]; exact H6.out j (by rw [ownBlock_slice _ _ _ m0 c0]; exact hj)) HOK.out, F5⟩
  exact heap_setCell_same _ g 7 _ 50 _ (heap_setCell_same _ g 6 _ 50 _ (heap_setCell_same W4 g 5 _ 50 _ T4.out))
end Go.Proofs.YtmlpneiadkngaaaDoor
