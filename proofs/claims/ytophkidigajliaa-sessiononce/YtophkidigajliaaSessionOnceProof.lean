/-
  SessionOnce (P13.2): what is done can not be done, or opened, again: for all calls, any ID and any numbers. No condition.
-/
import Derived.Test.YtophkidigajliaaRows
import Derived.Test.YtophkidigajliaaSeU
import Derived.WalkKit
import Derived.ProofKit
import Derived.OpenShut
import Derived.ShutString
import Derived.ChangeOld
import Derived.Below
namespace Go.Proofs.Ytophkidigajliaa.sessionOnce
open Go.ChangeShapes Go.WideShapes Go.ChangeAt Go.RowKit
open Go.ChangeMaps (open_string shut_string)
set_option linter.unusedSimpArgs false
set_option linter.unusedVariables false

theorem own : ownKnob Try.prog.godebug = none := by kernel_rfl
theorem laidOut : laidOutB Try.prog = true := by kernel_rfl

theorem once_math (L : Log) (x : Id) (a cd n : Int) (h : doneE L x a = 0) : howL (L ++ [doneS x a cd n]) x = 1 ∧ doneE (L ++ [doneS x a cd n]) x a = 7 ∧ openE (L ++ [doneS x a cd n]) x a = 7 ∧ hasL (L ++ [doneS x a cd n]) x.1 = true ∧ slotL (L ++ [doneS x a cd n]) x.1 = ⟨x.2, false, a, cd, n⟩ := by
  have h4 : hasL (L ++ [doneS x a cd n]) x.1 = true := by rw [hasL_snoc, if_pos rfl]
  have h5 : slotL (L ++ [doneS x a cd n]) x.1 = ⟨x.2, false, a, cd, n⟩ := by rw [slotL_snoc, if_pos rfl]
  have h1 : howL (L ++ [doneS x a cd n]) x = 1 := by
    unfold howL
    rw [h4, h5]
    simp
  have h0 : ¬ (rightId x = false ∨ a < 1) := by
    intro h0
    unfold doneE at h
    rw [if_pos h0] at h
    cases h
  refine ⟨h1, ?_, ?_, h4, h5⟩
  · unfold doneE
    rw [if_neg h0, h1, h5]
    simp
  · unfold openE
    rw [if_neg h0, h1]
    simp

/-! The law returns true, and writes nothing that was there. -/
set_option maxRecDepth 100000 in
set_option maxHeartbeats 16000000 in
theorem walk (a0 : Option Addr) (len0 cap0 : Nat) (O0 : Nat → Lop) (i1 : Id) (a2 : Int) (a3 : Int) (w : World) (w0 : Lops w a0 len0 O0) (w1 : (Lit.int .i64 i1.1).wf = true ∧ (Lit.int .u64 i1.2).wf = true) (w2 : (Lit.int .i64 a2).wf = true) (w3 : (Lit.int .i64 a3).wf = true) :
    Calls Try.prog 5 #[.slice a0 len0 cap0, idv i1, .int .i64 a2, .int .i64 a3] w fun e w' => e = .returned (.bool true) ∧ Below w.heap.size w w' := by
  have HLO : Hid (Lops w a0 len0 O0) := w0
  have hln : len0 ≤ maxLen := w0.1
  unfold maxLen at hln
  have HWF : Hid ((Lit.int .i64 i1.1).wf = true ∧ (Lit.int .u64 i1.2).wf = true) := w1
  clear w0 w1
  have hb1 : Below w.heap.size w (w.alloc (.cells #[.int .i64 i1.1, .int .u64 i1.2] 25)) := (Below.refl _ _).alloc (Nat.le_refl _) _
  have hn1 := heap_alloc_new w (.cells #[.int .i64 i1.1, .int .u64 i1.2] 25)
  go_enter Try.func5, Try.ntmps5
  go_wp2_with fail
  generalize hv1 : w.alloc (.cells #[.int .i64 i1.1, .int .u64 i1.2] 25) = v1 at *
  clear hv1
  generalize hpi : w.heap.size = pi at *
  refine (new_any v1).mono ?_
  rintro e v2 ⟨g, bm, rfl, hS, hb, hg, hbm⟩
  have b2 : Below v2.heap.size v2 (v2.alloc (.cells #[.slice none 0 0] 31)) := (Below.refl _ _).alloc (Nat.le_refl _) _
  have HBO : Hid (Bo (v2.alloc (.cells #[.slice none 0 0] 31)) v1.heap.size g bm v2.heap.size []) := ⟨hS.later b2, ⟨hb.size, _, heap_alloc_new v2 _, World.ownsRow_nil _ _ _ _⟩, hbm⟩
  have HB3 : Hid (Below v1.heap.size v1 (v2.alloc (.cells #[.slice none 0 0] 31))) := hb.trans (b2.mono hb.size)
  have HI1 : Hid (v1.heap[pi]? = some (.cells #[.int .i64 i1.1, .int .u64 i1.2] 25)) := hn1
  have HBW : Hid (Below pi w v1) := hb1
  have HPI : Hid (pi ≤ v1.heap.size) := by have := (Array.getElem?_eq_some_iff.1 hn1).1; show pi ≤ v1.heap.size; omega
  clear hS hb b2 hg hbm hn1 hb1
  go_wp2
  generalize hv3 : v2.alloc (.cells #[.slice none 0 0] 31) = v3 at *
  clear hv3
  generalize v2.heap.size = gr at *
  go_loopw [20] (fun t wr => ∃ k : Nat, t = .int .i64 (k : Nat) ∧ k ≤ len0 ∧ Hid (∃ L, L.length ≤ k ∧ L.length ≤ 15 ∧ Bo wr v1.heap.size g bm gr L) ∧ Hid (Below v1.heap.size v1 wr)) (fun t _ => len0 - (intOf t).toNat)
  case atStart => exact ⟨0, rfl, by omega, ⟨[], by simp, by simp, HBO.out⟩, HB3.out⟩
  case round =>
    obtain ⟨k, rfl, hk, HR, HW⟩ := hrel
    obtain ⟨L, hL1, hL2, hS⟩ := HR.out
    have HS : Hid (Bo wr v1.heap.size g bm gr L) := hS
    clear HR hS HBO HB3
    have HWW : Hid (Below pi w wr) := HBW.out.trans (HW.out.mono HPI.out)
    by_cases hlt : k < len0
    · obtain ⟨b, off, rfl, hc⟩ := HLO.out.at (by omega)
      obtain ⟨hok, d0, d1, d2, d3, d4, d5⟩ := hc k hlt
      clear hc
      have hpw : w.heap.size ≤ pi := by omega
      have d0 := ((HWW.out.mono (Nat.le_refl _)).cell (by rw [← hpi]; exact World.block_lt_of_cell? _ _ d0)).trans d0
      have d1 := ((HWW.out.mono (Nat.le_refl _)).cell (by rw [← hpi]; exact World.block_lt_of_cell? _ _ d1)).trans d1
      have d2 := ((HWW.out.mono (Nat.le_refl _)).cell (by rw [← hpi]; exact World.block_lt_of_cell? _ _ d2)).trans d2
      have d3 := ((HWW.out.mono (Nat.le_refl _)).cell (by rw [← hpi]; exact World.block_lt_of_cell? _ _ d3)).trans d3
      have d4 := ((HWW.out.mono (Nat.le_refl _)).cell (by rw [← hpi]; exact World.block_lt_of_cell? _ _ d4)).trans d4
      have d5 := ((HWW.out.mono (Nat.le_refl _)).cell (by rw [← hpi]; exact World.block_lt_of_cell? _ _ d5)).trans d5
      generalize O0 k = x at d0 d1 d2 d3 d4 d5 hok
      obtain ⟨xk, ⟨xc, xs⟩, xa, xcd, xn⟩ := x
      simp only at d0 d1 d2 d3 d4 d5
      have HOK : Hid (Lop.ok ⟨xk, (xc, xs), xa, xcd, xn⟩) := hok
      clear hok
      have bx : Below wr.heap.size wr (wr.alloc (.cells #[.int .i64 xk, .int .i64 xc, .int .u64 xs, .int .i64 xa, .int .i64 xcd, .int .u64 xn] 33)) := (Below.refl _ _).alloc (Nat.le_refl _) _
      have HWX : Hid (Below v1.heap.size v1 (wr.alloc (.cells #[.int .i64 xk, .int .i64 xc, .int .u64 xs, .int .i64 xa, .int .i64 xcd, .int .u64 xn] 33))) := HW.out.trans (bx.mono HW.out.size)
      have HXX : Hid ((wr.alloc (.cells #[.int .i64 xk, .int .i64 xc, .int .u64 xs, .int .i64 xa, .int .i64 xcd, .int .u64 xn] 33)).heap[wr.heap.size]? = some (.cells #[.int .i64 xk, .int .i64 xc, .int .u64 xs, .int .i64 xa, .int .i64 xcd, .int .u64 xn] 33)) := heap_alloc_new wr _
      have HSX : Hid (Bo (wr.alloc (.cells #[.int .i64 xk, .int .i64 xc, .int .u64 xs, .int .i64 xa, .int .i64 xcd, .int .u64 xn] 33)) v1.heap.size g bm gr L) := HS.out.later bx
      clear bx HS HW
      by_cases h15 : k < 15
      · go_upto_region 6 with fail
        clear d0 d1 d2 d3 d4 d5
        generalize hw1 : wr.alloc (.cells #[.int .i64 xk, .int .i64 xc, .int .u64 xs, .int .i64 xa, .int .i64 xcd, .int .u64 xn] 33) = y1 at *
        clear hw1
        generalize wr.heap.size = px at *
        have e0 : y1.cell? ⟨px, 0, none⟩ = some (.int .i64 xk) := cell_of_heap HXX.out rfl
        have e1 : y1.cell? ⟨px, 1, none⟩ = some (.int .i64 xc) := cell_of_heap HXX.out rfl
        have e2 : y1.cell? ⟨px, 2, none⟩ = some (.int .u64 xs) := cell_of_heap HXX.out rfl
        have e3 : y1.cell? ⟨px, 3, none⟩ = some (.int .i64 xa) := cell_of_heap HXX.out rfl
        have e4 : y1.cell? ⟨px, 4, none⟩ = some (.int .i64 xcd) := cell_of_heap HXX.out rfl
        have e5 : y1.cell? ⟨px, 5, none⟩ = some (.int .u64 xn) := cell_of_heap HXX.out rfl
        have q := step_any v1.heap.size g bm gr L ⟨xk, (xc, xs), xa, xcd, xn⟩ y1 HSX.out HOK.out (by omega) HWX.out.size
        have hst := stepL_len L ⟨xk, (xc, xs), xa, xcd, xn⟩
        go_wp2_with fail
        refine q.mono ?_
        clear q
        rintro e y2 ⟨rfl, hB, hb, hK⟩
        generalize stepL L ⟨xk, (xc, xs), xa, xcd, xn⟩ = L2 at *
        have HR2 : Hid (∃ L', L'.length ≤ k + 1 ∧ L'.length ≤ 15 ∧ Bo y2 v1.heap.size g bm gr L') := ⟨L2, by omega, by omega, hB⟩
        have HW2 : Hid (Below v1.heap.size v1 y2) := HWX.out.trans hb
        clear hB hb hK HSX HWX HXX e0 e1 e2 e3 e4 e5
        go_wp2
        go_roundw
        case rel => exact ⟨k + 1, by go_num, by omega, HR2, HW2⟩
        case measure => simp [intOf]; omega
      · have HR2 : Hid (∃ L', L'.length ≤ k + 1 ∧ L'.length ≤ 15 ∧ Bo (wr.alloc (.cells #[.int .i64 xk, .int .i64 xc, .int .u64 xs, .int .i64 xa, .int .i64 xcd, .int .u64 xn] 33)) v1.heap.size g bm gr L') := ⟨L, by omega, by omega, HSX.out⟩
        clear HSX HXX
        go_wp2
        go_roundw
        case rel => exact ⟨k + 1, by go_num, by omega, HR2, HWX⟩
        case measure => simp [intOf]; omega
    · have HI0 : Hid (wr.heap[pi]? = some (.cells #[.int .i64 i1.1, .int .u64 i1.2] 25)) := (HW.out.block pi (by have := HPI.out; have := (Array.getElem?_eq_some_iff.1 HI1.out).1; omega)).trans HI1.out
      have HSE : Hid (Se wr g bm L) := HS.out.s
      have HLB : Hid (v1.heap.size ≤ bm) := HS.out.lo
      clear HS
      have q := done_any g bm L i1 a2 a3 7 wr HSE.out HWF.out.1 (by omega)
      have e0 : wr.cell? ⟨pi, 0, none⟩ = some (.int .i64 i1.1) := cell_of_heap HI0.out rfl
      have e1 : wr.cell? ⟨pi, 1, none⟩ = some (.int .u64 i1.2) := cell_of_heap HI0.out rfl
      go_wp2_with fail
      refine q.mono ?_
      clear q e0 e1
      rintro e w2 ⟨rfl, hS2, hg2⟩
      have HI2 : Hid (w2.heap[pi]? = some (.cells #[.int .i64 i1.1, .int .u64 i1.2] 25)) := (hg2.block pi (Array.getElem?_eq_some_iff.1 HI0.out).1 (fun e => by simp only [Option.some.injEq] at e; obtain ⟨es, cl, hm⟩ := HSE.out.isMap; have h0 := HI0.out; rw [e, hm] at h0; cases h0)).trans HI0.out
      have HW2 : Hid (Below v1.heap.size v1 w2) := HW.out.trans (below_of_grown hg2 HW.out.size HLB.out)
      by_cases hz : doneE L i1 a2 = 0
      rotate_left
      · have HWW2 : Hid (Below pi w w2) := HBW.out.trans (HW2.out.mono HPI.out)
        have hzb : (doneE L i1 a2 == 0) = false := by simp [hz]
        have hzb2 : (doneE L i1 a2 != 0) = true := by simp [hz]
        clear hS2 hg2 HSE HW HWW HI2
        generalize doneE L i1 a2 = r at *
        go_wp2_with fail
        refine (awake_any w2).mono ?_
        rintro e w5 ⟨rfl, hb⟩
        have HBF : Hid (Below pi w w5) := HWW2.out.trans (hb.mono (by have := HWW2.out.size; omega))
        clear hb
        go_wp2
        go_ret
        exact ⟨rfl, by rw [hpi]; exact HBF.out⟩
      have HS2 : Hid (Se w2 g bm (L ++ [doneS i1 a2 a3 7])) := by rw [doneLg, if_pos hz] at hS2; exact hS2
      obtain ⟨m1, m2, m3, m4, m5⟩ := once_math L i1 a2 a3 7 hz
      have hml : (L ++ [doneS i1 a2 a3 7]).length ≤ 100000 := by simp; omega
      clear hS2 hg2 HSE HW HWW
      rw [hz]
      generalize L ++ [doneS i1 a2 a3 7] = M at *
      have M1 : Hid (howL M i1 = 1) := m1
      have M2 : Hid (doneE M i1 a2 = 7) := m2
      have M3 : Hid (openE M i1 a2 = 7) := m3
      have M4 : Hid (hasL M i1.1 = true) := m4
      have M5 : Hid (slotL M i1.1 = ⟨i1.2, false, a2, a3, 7⟩) := m5
      have ML : Hid (M.length ≤ 100000) := hml
      clear m1 m2 m3 m4 m5 hml hz
      have e0 : w2.cell? ⟨pi, 0, none⟩ = some (.int .i64 i1.1) := cell_of_heap HI2.out rfl
      have q := of_any g bm M i1.1 w2 HS2.out HWF.out.1
      rw [M4.out, M5.out] at q
      go_wp2_with fail
      refine q.mono ?_
      clear q e0
      rintro e w3 ⟨rfl, hb3⟩
      have b4 : Below w2.heap.size w2 (w3.alloc (.cells #[.int .u64 i1.2, .bool false, .int .i64 a2, .int .i64 a3, .int .u64 7] 42)) := hb3.alloc hb3.size _
      have HX4 : Hid ((w3.alloc (.cells #[.int .u64 i1.2, .bool false, .int .i64 a2, .int .i64 a3, .int .u64 7] 42)).heap[w3.heap.size]? = some (.cells #[.int .u64 i1.2, .bool false, .int .i64 a2, .int .i64 a3, .int .u64 7] 42)) := heap_alloc_new w3 _
      have HS4 : Hid (Se (w3.alloc (.cells #[.int .u64 i1.2, .bool false, .int .i64 a2, .int .i64 a3, .int .u64 7] 42)) g bm M) := HS2.out.later b4
      have HI4 : Hid ((w3.alloc (.cells #[.int .u64 i1.2, .bool false, .int .i64 a2, .int .i64 a3, .int .u64 7] 42)).heap[pi]? = some (.cells #[.int .i64 i1.1, .int .u64 i1.2] 25)) := keep_cells b4 HI2.out
      have HW4 : Hid (Below v1.heap.size v1 (w3.alloc (.cells #[.int .u64 i1.2, .bool false, .int .i64 a2, .int .i64 a3, .int .u64 7] 42))) := HW2.out.trans (b4.mono HW2.out.size)
      clear hb3 b4 HS2 HI2 HW2
      go_upto_region 11 with fail
      generalize hw4 : w3.alloc (.cells #[.int .u64 i1.2, .bool false, .int .i64 a2, .int .i64 a3, .int .u64 7] 42) = w4 at *
      clear hw4
      generalize w3.heap.size = px at *
      have e0 : w4.cell? ⟨pi, 0, none⟩ = some (.int .i64 i1.1) := cell_of_heap HI4.out rfl
      have e1 : w4.cell? ⟨pi, 1, none⟩ = some (.int .u64 i1.2) := cell_of_heap HI4.out rfl
      have q := how_any g bm M i1 w4 HS4.out HWF.out.1
      rw [M1.out] at q
      go_wp2_with fail
      refine q.mono ?_
      clear q e0 e1
      rintro e w5 ⟨rfl, hb5⟩
      have HS5 : Hid (Se w5 g bm M) := HS4.out.later hb5
      have HI5 : Hid (w5.heap[pi]? = some (.cells #[.int .i64 i1.1, .int .u64 i1.2] 25)) := keep_cells hb5 HI4.out
      have HX5 : Hid (w5.heap[px]? = some (.cells #[.int .u64 i1.2, .bool false, .int .i64 a2, .int .i64 a3, .int .u64 7] 42)) := keep_cells hb5 HX4.out
      have HW5 : Hid (Below v1.heap.size v1 w5) := HW4.out.trans (hb5.mono HW4.out.size)
      clear hb5 HS4 HI4 HX4 HW4
      have e0 : w5.cell? ⟨pi, 0, none⟩ = some (.int .i64 i1.1) := cell_of_heap HI5.out rfl
      have e1 : w5.cell? ⟨pi, 1, none⟩ = some (.int .u64 i1.2) := cell_of_heap HI5.out rfl
      have q := done_any g bm M i1 a2 0 1 w5 HS5.out HWF.out.1 ML.out
      rw [M2.out] at q
      go_wp2_with fail
      refine q.mono ?_
      clear q e0 e1
      rintro e w6 ⟨rfl, hS6, hg6⟩
      have hnm : ∀ (cs : Array Value) (q : Nat) (t : TypeId), w5.heap[q]? = some (.cells cs t (0, 0)) → w6.heap[q]? = some (.cells cs t (0, 0)) := fun cs q t h0 => (hg6.block q (Array.getElem?_eq_some_iff.1 h0).1 (fun e => by simp only [Option.some.injEq] at e; obtain ⟨es, cl, hm⟩ := HS5.out.isMap; rw [e, hm] at h0; cases h0)).trans h0
      have HI6 : Hid (w6.heap[pi]? = some (.cells #[.int .i64 i1.1, .int .u64 i1.2] 25)) := hnm _ _ _ HI5.out
      have HX6 : Hid (w6.heap[px]? = some (.cells #[.int .u64 i1.2, .bool false, .int .i64 a2, .int .i64 a3, .int .u64 7] 42)) := hnm _ _ _ HX5.out
      have HW6 : Hid (Below v1.heap.size v1 w6) := HW5.out.trans (below_of_grown hg6 HW5.out.size HLB.out)
      have HS6 : Hid (Se w6 g bm M) := by rw [doneLg, M2.out] at hS6; exact hS6
      clear hnm hS6 hg6 HS5 HI5 HX5 HW5
      have e0 : w6.cell? ⟨pi, 0, none⟩ = some (.int .i64 i1.1) := cell_of_heap HI6.out rfl
      have e1 : w6.cell? ⟨pi, 1, none⟩ = some (.int .u64 i1.2) := cell_of_heap HI6.out rfl
      have q := open_any g bm M i1 a2 w6 HS6.out HWF.out.1 ML.out
      rw [M3.out] at q
      go_wp2_with fail
      refine q.mono ?_
      clear q e0 e1
      rintro e w7 ⟨rfl, hS7, hg7⟩
      have hnm : ∀ (cs : Array Value) (q : Nat) (t : TypeId), w6.heap[q]? = some (.cells cs t (0, 0)) → w7.heap[q]? = some (.cells cs t (0, 0)) := fun cs q t h0 => (hg7.block q (Array.getElem?_eq_some_iff.1 h0).1 (fun e => by simp only [Option.some.injEq] at e; obtain ⟨es, cl, hm⟩ := HS6.out.isMap; rw [e, hm] at h0; cases h0)).trans h0
      have HI7 : Hid (w7.heap[pi]? = some (.cells #[.int .i64 i1.1, .int .u64 i1.2] 25)) := hnm _ _ _ HI6.out
      have HX7 : Hid (w7.heap[px]? = some (.cells #[.int .u64 i1.2, .bool false, .int .i64 a2, .int .i64 a3, .int .u64 7] 42)) := hnm _ _ _ HX6.out
      have HW7 : Hid (Below v1.heap.size v1 w7) := HW6.out.trans (below_of_grown hg7 HW6.out.size HLB.out)
      have HS7 : Hid (Se w7 g bm M) := by rw [openLg, M3.out] at hS7; exact hS7
      clear hnm hS7 hg7 HS6 HI6 HX6 HW6
      obtain ⟨c20, c21, c22, c23, c24⟩ := five_cells HX7.out
      have HWW7 : Hid (Below pi w w7) := HBW.out.trans (HW7.out.mono HPI.out)
      clear HS7 HI7 HX7 HW7
      go_wp2_with fail
      refine (awake_any w7).mono ?_
      rintro e w8 ⟨rfl, hb⟩
      have HBF : Hid (Below pi w w8) := HWW7.out.trans (hb.mono (by have := HWW7.out.size; omega))
      clear hb
      go_wp2
      go_ret
      exact ⟨by simp, by rw [hpi]; exact HBF.out⟩

/-! From the call to the statement. -/
set_option maxRecDepth 100000 in
theorem lifted (os : Os) (started : os.Started) (H : Type) (enc : TypeId × Value → H) :
    ReturnsInHanded {} Try.checked os 5 .any (Rows.sessionOnceSpec.pre6 enc Try.prog Try.f5 Rows.sessionOnceRow.domain false) (Rows.sessionOnceSpec.post enc Try.prog Try.f5 false true false false) := by
  refine returnsInHanded_of_change (C := Try.checked) own started (by kernel_rfl) Try.func5
    (ChangeSpec.witness6 (enc := enc) (C := Try.checked) false ⟨#[], #[.slice none 0 0, .agg #[.int .i64 0, .int .u64 0], .int .i64 0, .int .i64 0], []⟩ 8 (by kernel_rfl) (by kernel_rfl) (by kernel_rfl) (by kernel_rfl)) ?_
  intro W base args ds gs before hval0 hW hcnd _
  have hval : ∀ (j : Nat) t v, Try.f5.params[j]? = some t → args[j]? = some v → Value.okWide Try.prog W .any base t v := hval0
  have hW' := hW
  obtain ⟨p, q, hA0, hV, rfl, hfz, hnd⟩ := hW
  have hA : DataW.TrodAll enc Try.prog W 0 (fun _ => true) true Try.f5.params.toList args.toList ds p := hA0
  rw [Try.params5] at hA hval
  obtain ⟨v0, vs0, d0, ds0, p0, q0, hargs, rfl, rfl, h0, r0⟩ := trodAll_cons hA
  obtain ⟨v1, vs1, d1, ds1, p1, q1, rfl, rfl, rfl, h1, r1⟩ := trodAll_cons r0
  obtain ⟨v2, vs2, d2, ds2, p2, q2, rfl, rfl, rfl, h2, r2⟩ := trodAll_cons r1
  obtain ⟨v3, vs3, d3, ds3, p3, q3, rfl, rfl, rfl, h3, r3⟩ := trodAll_cons r2
  obtain ⟨rfl, rfl, rfl⟩ := trodAll_nil r3
  obtain rfl : args = #[v0, v1, v2, v3] := by cases args; simp_all
  obtain ⟨rfl, rfl⟩ := trodVars_none hV
  obtain ⟨a0, len0, cap0, rfl⟩ := okWide_slice Try.underlying22 (hval 0 22 v0 rfl rfl)
  have k0 := h0
  have lt0 : ∀ x ∈ p0, x.block < W.heap.size := by obtain ⟨m, hm⟩ := k0; exact DataW.trod_lt m _ _ _ hm
  obtain ⟨O0, w0⟩ := open_lops h0
  have k1 := h1
  have lt1 : ∀ x ∈ p1, x.block < W.heap.size := by obtain ⟨m, hm⟩ := k1; exact DataW.trod_lt m _ _ _ hm
  obtain ⟨i1, rfl, w1⟩ := open_id (hval 1 25 v1 rfl rfl) h1
  obtain ⟨a2, rfl, rfl, rfl, w2⟩ := open_int Try.underlying3 (hval 2 3 v2 rfl rfl) h2
  obtain ⟨a3, rfl, rfl, rfl, w3⟩ := open_int Try.underlying3 (hval 3 3 v3 rfl rfl) h3
  clear hA0 hval0
  refine (walk a0 len0 cap0 O0 i1 a2 a3 W w0 w1 w2 w3).mono fun e W' ⟨he, bel⟩ => ?_
  subst he
  exact ⟨_, rfl, _, _, _, [], _, [], hW', trodAll_mk1 (shut_bool Try.underlying4 _), (trodAll_cons_mk (Below.trod laidOut (by kernel_rfl) (of_decide_eq_true (by kernel_rfl)) k0 bel lt0) (trodAll_cons_mk (Below.trod laidOut (by kernel_rfl) (of_decide_eq_true (by kernel_rfl)) k1 bel lt1) (trodAll_cons_mk (shut_int Try.underlying3 w2) (trodAll_cons_mk (shut_int Try.underlying3 w3) trodAll_mk0)))), rfl, bel.frame _, fun h => by cases h⟩

theorem over : Rows.sessionOnceRow.holds Try.pinned (OpenSpec.ofChange Rows.sessionOnceSpec) :=
  OpenClaim.holds_of_wide 5 Try.f5 rfl rfl rfl rfl rfl rfl rfl ⟨rfl, rfl, rfl, rfl, rfl⟩ rfl rfl rfl rfl rfl (by kernel_rfl) Try.func5 (by kernel_rfl)
    (of_decide_eq_true (by kernel_rfl)) (by unfold Func.isWrapper; first | (rw [if_pos (by decide +kernel)]; kernel_rfl) | (rw [if_neg (by decide +kernel)]; exact ⟨rfl, rfl⟩))
    (fun os started H enc _ => lifted os started H enc)
end Go.Proofs.Ytophkidigajliaa.sessionOnce
namespace Go.Proofs.Ytophkidigajliaa
theorem sessionOnce_holds : Rows.SessionOnceSaid := sessionOnce.over
#print axioms sessionOnce_holds
end Go.Proofs.Ytophkidigajliaa
