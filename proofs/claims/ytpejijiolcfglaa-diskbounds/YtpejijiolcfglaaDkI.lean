/- What the law's own disk does at a crash: a contract. -/
import Derived.Test.YtpejijiolcfglaaDkH
namespace Go.Proofs.Ytpejijiolcfglaa
open Go.RowKit

theorem rblk_cells {w : World} {g : Nat} {r x0 x1 y0 y1 l n : Value} (hh : w.heap[g]? = some (.cells #[r, x0, x1, y0, y1, l, n] 44 (0, 0))) :
    w.cell? ⟨g, 1, none⟩ = some x0 ∧ w.cell? ⟨g, 2, none⟩ = some x1 ∧ w.cell? ⟨g, 3, none⟩ = some y0 ∧ w.cell? ⟨g, 4, none⟩ = some y1 ∧ w.cell? ⟨g, 5, none⟩ = some l ∧ w.cell? ⟨g, 6, none⟩ = some n ∧ (∀ i, w.frozen? ⟨g, i, none⟩ = false) :=
  ⟨cell_of_heap hh rfl, cell_of_heap hh rfl, cell_of_heap hh rfl, cell_of_heap hh rfl, cell_of_heap hh rfl, cell_of_heap hh rfl, fun _ => frozen_heap hh⟩

theorem stay_arith (b : List Nat) (s n k : Nat) (hl : b.length = n) (hs : s ≤ n) (hn : n ≤ 1048576) : wrap64 ((s : Int) + (k : Int) % ((n : Int) - (s : Int) + 1)) = (DS.stay b s k : Nat) := by
  have hlt := Nat.mod_lt k (show n - s + 1 > 0 by omega)
  have e1 : (n : Int) - (s : Int) + 1 = ((n - s + 1 : Nat) : Int) := by omega
  have e2 : (s : Int) + (k : Int) % ((n : Int) - (s : Int) + 1) = ((s + k % (n - s + 1) : Nat) : Int) := by rw [e1]; push_cast; rfl
  rw [e2]
  unfold DS.stay
  rw [hl]
  exact IntWalk.wrap64_in _ ⟨by omega, by omega⟩

set_option maxHeartbeats 4000000 in
set_option maxRecDepth 100000 in
theorem rcrash_any (g : Nat) (d : DS) (k0 k1 : Nat) (w : World) (h : Rk w g d) (hk0 : k0 < 65536) (hk1 : k1 < 65536) :
    Calls Try.prog 26 #[.pointer (some ⟨g, 0, none⟩), .agg #[.int .u16 k0, .int .u16 k1]] w fun e w' => e = .returned (.tuple #[]) ∧ Rk w' g (d.crash k0 k1) ∧ Fr (· = g) w w' := by
  have hok := DS.crash_ok h.2 k0 k1
  have hlt := h.lt
  have hs0 := DS.stay_le d.b0 d.s0 k0 h.2.s0
  have hs1 := DS.stay_le d.b1 d.s1 k1 h.2.s1
  have hsum := h.2.sum
  have hroom := h.2.room
  have hd0 := h.2.s0
  have hd1 := h.2.s1
  have hr0 := stay_arith d.b0 d.s0 _ k0 rfl hd0 (by omega)
  have hr1 := stay_arith d.b1 d.s1 _ k1 rfl hd1 (by omega)
  have hcr : d.crash k0 k1 = { room := d.room, b0 := d.b0.take (DS.stay d.b0 d.s0 k0), s0 := DS.stay d.b0 d.s0 k0, b1 := d.b1.take (DS.stay d.b1 d.s1 k1), s1 := DS.stay d.b1 d.s1 k1, lost := false, left := none } := rfl
  rw [hcr] at hok ⊢
  clear hcr
  generalize DS.stay d.b0 d.s0 k0 = m0 at *
  generalize DS.stay d.b1 d.s1 k1 = m1 at *
  have hc0 : (m0 : Int) ≤ (d.b0.length : Int) := Int.ofNat_le.2 hs0.1
  have hc1 : (m1 : Int) ≤ (d.b1.length : Int) := Int.ofNat_le.2 hs1.1
  have t0 := str_take d.b0 m0
  have t1 := str_take d.b1 m1
  have z0 := str_size d.b0
  have z1 := str_size d.b1
  have hB : Below w.heap.size w (w.alloc (.cells #[.int .u16 k0, .int .u16 k1] 28)) := (Below.refl _ _).alloc (Nat.le_refl _) _
  have hk : (w.alloc (.cells #[.int .u16 k0, .int .u16 k1] 28)).heap[w.heap.size]? = some (.cells #[.int .u16 k0, .int .u16 k1] 28 (0, 0)) := by
    show (w.heap.push _)[w.heap.size]? = _
    simp
  have hhA : Rk (w.alloc (.cells #[.int .u16 k0, .int .u16 k1] 28)) g d := h.later hB
  have HB : Hid (Below _ _ _) := hB
  have HR0 : Hid (_ = _) := hr0
  have HR1 : Hid (_ = _) := hr1
  have HOK : Hid (DS.ok _) := hok
  clear hr0 hr1 hok hs0 hs1 h
  have hne : g ≠ w.heap.size := by omega
  go_enter Try.func26, Try.ntmps26
  go_wp2
  clear hB
  generalize w.alloc (.cells #[.int .u16 k0, .int .u16 k1] 28) = W0 at *
  have T0 : Hid (W0.heap[g]? = _) := hhA.1
  have F0 : Hid (Fr (· = g) W0 W0) := Fr.refl _ _
  obtain ⟨e1, e2, e3, e4, e5, e6, f⟩ := rblk_cells hhA.1
  have f1 := f 1
  have f2 := f 2
  have f3 := f 3
  have f4 := f 4
  have f5 := f 5
  have f6 := f 6
  clear f
  have q0 : W0.cell? ⟨w.heap.size, 0, none⟩ = some (.int .u16 k0) := cell_of_heap hk rfl
  have q1 : W0.cell? ⟨w.heap.size, 1, none⟩ = some (.int .u16 k1) := cell_of_heap hk rfl
  have Q0 : Hid (_ = _) := q0
  have Q1 : Hid (_ = _) := q1
  clear hk hhA
  refine wp_loop_rounds 3 ?_
  rw [rounds_succ]
  go_wp2
  go_quiet (fail)
  go_wp2
  rw [HR0.out]
  clear e1 e2 e3 e4 e5 e6 f1 f2 f3 f4 f5 f6 q0 q1
  have T1 : Hid ((W0.drewN nq).heap[g]? = _) := T0.out
  have F1 : Hid (Fr (· = g) W0 (W0.drewN nq)) := (F0.out).trans (Fr.drews _ _ nq)
  generalize (W0.drewN nq) = W1 at *
  try simp only [List.setIfInBounds_toArray, List.set_cons_succ, List.set_cons_zero] at T1
  obtain ⟨e1, e2, e3, e4, e5, e6, f⟩ := rblk_cells T1.out
  have f1 := f 1
  have f2 := f 2
  have f3 := f 3
  have f4 := f 4
  have f5 := f 5
  have f6 := f 6
  clear f
  have q0 : W1.cell? ⟨w.heap.size, 0, none⟩ = some (.int .u16 k0) := F1.out.cell Q0.out (Ne.symm hne)
  have q1 : W1.cell? ⟨w.heap.size, 1, none⟩ = some (.int .u16 k1) := F1.out.cell Q1.out (Ne.symm hne)
  go_region
  go_wp2
  clear e1 e2 e3 e4 e5 e6 f1 f2 f3 f4 f5 f6 q0 q1
  have T2 : Hid (((W1.setCell ⟨g, 1, none⟩ (.string (str (d.b0.take m0)))).setCell ⟨g, 3, none⟩ (.int .i64 (m0 : Nat))).drew.heap[g]? = _) := heap_setCell_same _ g 3 _ 44 (.int .i64 (m0 : Nat)) (heap_setCell_same _ g 1 _ 44 (.string (str (d.b0.take m0))) (T1.out))
  have F2 : Hid (Fr (· = g) W0 ((W1.setCell ⟨g, 1, none⟩ (.string (str (d.b0.take m0)))).setCell ⟨g, 3, none⟩ (.int .i64 (m0 : Nat))).drew) := (((F1.out).trans (Fr.one g 1 _ (.string (str (d.b0.take m0))))).trans (Fr.one g 3 _ (.int .i64 (m0 : Nat)))).trans (Fr.drews _ _ 1)
  generalize ((W1.setCell ⟨g, 1, none⟩ (.string (str (d.b0.take m0)))).setCell ⟨g, 3, none⟩ (.int .i64 (m0 : Nat))).drew = W2 at *
  try simp only [List.setIfInBounds_toArray, List.set_cons_succ, List.set_cons_zero] at T2
  obtain ⟨e1, e2, e3, e4, e5, e6, f⟩ := rblk_cells T2.out
  have f1 := f 1
  have f2 := f 2
  have f3 := f 3
  have f4 := f 4
  have f5 := f 5
  have f6 := f 6
  clear f
  have q0 : W2.cell? ⟨w.heap.size, 0, none⟩ = some (.int .u16 k0) := F2.out.cell Q0.out (Ne.symm hne)
  have q1 : W2.cell? ⟨w.heap.size, 1, none⟩ = some (.int .u16 k1) := F2.out.cell Q1.out (Ne.symm hne)
  rw [rounds_succ]
  go_wp2
  go_quiet (fail)
  go_wp2
  rw [HR1.out]
  clear e1 e2 e3 e4 e5 e6 f1 f2 f3 f4 f5 f6 q0 q1
  have T3 : Hid ((W2.drewN nq).heap[g]? = _) := T2.out
  have F3 : Hid (Fr (· = g) W0 (W2.drewN nq)) := (F2.out).trans (Fr.drews _ _ nq)
  generalize (W2.drewN nq) = W3 at *
  try simp only [List.setIfInBounds_toArray, List.set_cons_succ, List.set_cons_zero] at T3
  obtain ⟨e1, e2, e3, e4, e5, e6, f⟩ := rblk_cells T3.out
  have f1 := f 1
  have f2 := f 2
  have f3 := f 3
  have f4 := f 4
  have f5 := f 5
  have f6 := f 6
  clear f
  have q0 : W3.cell? ⟨w.heap.size, 0, none⟩ = some (.int .u16 k0) := F3.out.cell Q0.out (Ne.symm hne)
  have q1 : W3.cell? ⟨w.heap.size, 1, none⟩ = some (.int .u16 k1) := F3.out.cell Q1.out (Ne.symm hne)
  go_region
  go_wp2
  clear e1 e2 e3 e4 e5 e6 f1 f2 f3 f4 f5 f6 q0 q1
  have T4 : Hid (((W3.setCell ⟨g, 2, none⟩ (.string (str (d.b1.take m1)))).setCell ⟨g, 4, none⟩ (.int .i64 (m1 : Nat))).drew.heap[g]? = _) := heap_setCell_same _ g 4 _ 44 (.int .i64 (m1 : Nat)) (heap_setCell_same _ g 2 _ 44 (.string (str (d.b1.take m1))) (T3.out))
  have F4 : Hid (Fr (· = g) W0 ((W3.setCell ⟨g, 2, none⟩ (.string (str (d.b1.take m1)))).setCell ⟨g, 4, none⟩ (.int .i64 (m1 : Nat))).drew) := (((F3.out).trans (Fr.one g 2 _ (.string (str (d.b1.take m1))))).trans (Fr.one g 4 _ (.int .i64 (m1 : Nat)))).trans (Fr.drews _ _ 1)
  generalize ((W3.setCell ⟨g, 2, none⟩ (.string (str (d.b1.take m1)))).setCell ⟨g, 4, none⟩ (.int .i64 (m1 : Nat))).drew = W4 at *
  try simp only [List.setIfInBounds_toArray, List.set_cons_succ, List.set_cons_zero] at T4
  obtain ⟨e1, e2, e3, e4, e5, e6, f⟩ := rblk_cells T4.out
  have f1 := f 1
  have f2 := f 2
  have f3 := f 3
  have f4 := f 4
  have f5 := f 5
  have f6 := f 6
  clear f
  have q0 : W4.cell? ⟨w.heap.size, 0, none⟩ = some (.int .u16 k0) := F4.out.cell Q0.out (Ne.symm hne)
  have q1 : W4.cell? ⟨w.heap.size, 1, none⟩ = some (.int .u16 k1) := F4.out.cell Q1.out (Ne.symm hne)
  rw [rounds_succ]
  go_wp2
  go_end0
  have FW : Fr (· = g) w W0 := Fr.of_below HB.out _ (fun k h1 h2 => by omega)
  exact ⟨rfl, ⟨heap_setCell_same _ g 6 _ 44 _ (heap_setCell_same W4 g 5 _ 44 _ T4.out), HOK.out⟩, FW.trans (F4.out.trans ((Fr.one _ _ _ _).trans (Fr.one _ _ _ _)))⟩
end Go.Proofs.Ytpejijiolcfglaa
