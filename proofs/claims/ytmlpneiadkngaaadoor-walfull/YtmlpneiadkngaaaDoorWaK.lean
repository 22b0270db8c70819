/- What package wal's Open does at a disk that is not lost: a contract. -/
import Derived.Test.YtmlpneiadkngaaaDoorWaJ
namespace Go.Proofs.YtmlpneiadkngaaaDoor
open Go.RowKit
set_option linter.unusedVariables false

/-- what Open answers, and leaves -/
def OpenPost (S : Nat → Prop) (g : Nat) (d : DS) (w w' : World) (e : Ending) : Prop :=
  ∃ (en0 : Nat) (wh0 : Bool) (gn0 : Nat) (a0 : Option Addr) (n0 cap0 en1 : Nat) (wh1 : Bool) (gn1 : Nat) (a1 : Option Addr) (n1 cap1 : Nat),
    Sees w' w.heap.size d.b0 en0 wh0 gn0 a0 n0 ∧ Sees w' w.heap.size d.b1 en1 wh1 gn1 a1 n1 ∧ Frm S w w' ∧
    (if (d.opened d.b0.length en0 wh0 gn0 d.b1.length en1 wh1 gn1).1 = 0 then
      ∃ gl, e = .returned (.tuple #[.pointer (some ⟨gl, 0, none⟩), if Wa.newest wh0 wh1 gn0 gn1 = 0 then .slice a0 n0 cap0 else .slice a1 n1 cap1, .int .i64 0]) ∧ Lg w' gl g (Wa.newest wh0 wh1 gn0 gn1) (Wa.genOf wh0 gn0 wh1 gn1) false ∧ w.heap.size ≤ gl ∧ Dk w' (fun k => S k ∧ k ≠ gl) g (d.opened d.b0.length en0 wh0 gn0 d.b1.length en1 wh1 gn1).2
    else e = .returned (.tuple #[.pointer none, .slice none 0 0, .int .i64 ((d.opened d.b0.length en0 wh0 gn0 d.b1.length en1 wh1 gn1).1 : Nat)]) ∧ Dk w' S g (d.opened d.b0.length en0 wh0 gn0 d.b1.length en1 wh1 gn1).2)

set_option maxHeartbeats 4000000 in
set_option maxRecDepth 100000 in
theorem Open_ok (g : Nat) (S : Nat → Prop) (d : DS) (w : World) (hg : G w) (h : Dk w S g d) (hS : ∀ k, w.heap.size ≤ k → S k) (h0S : ¬ S 0) (hl : d.lost = false) (hs0 : d.b0.length ≤ 100000) (hs1 : d.b1.length ≤ 100000) :
    Calls Tryd.prog 8 #[.pointer (some ⟨g, 0, none⟩)] w fun e w' => OpenPost S g d w w' e := by
  have hgS := h.slot
  have hglt := h.lt
  have hpos := hg.pos
  have hb0 : Below w.heap.size w (w.alloc (.cells #[.int .i64 0, .int .i64 0, .bool false, .int .u64 0, .slice none 0 0, .int .i64 0, .int .i64 0, .bool false, .int .u64 0, .slice none 0 0] 55)) := below_new _ _
  have hA0 := heap_new w (.cells #[.int .i64 0, .int .i64 0, .bool false, .int .u64 0, .slice none 0 0, .int .i64 0, .int .i64 0, .bool false, .int .u64 0, .slice none 0 0] 55)
  go_enter Tryd.func8, Tryd.ntmps8
  go_wp2
  obtain ⟨W0, hW0⟩ : ∃ W0, W0 = w.alloc (.cells #[.int .i64 0, .int .i64 0, .bool false, .int .u64 0, .slice none 0 0, .int .i64 0, .int .i64 0, .bool false, .int .u64 0, .slice none 0 0] 55) := ⟨_, rfl⟩
  rw [← hW0] at hb0 hA0 ⊢
  clear hW0
  have HB0 : Hid (Below w.heap.size w W0) := hb0
  have hlt0 := heap_lt hA0
  have HG0 : Hid (G W0) := hg.later hb0
  have HD : Hid (Dk w S g d) := h
  have HDW : Hid (Dk W0 S g d) := h.later hb0
  have hg' := hg
  clear hb0 hg h
  have hW0l : w.heap.size < W0.heap.size := heap_lt hA0
  refine wp_loop_rounds 3 ?_
  rw [rounds_succ]
  have hlk := look_ok g S d 0 W0 HG0.out HDW.out (.inl rfl) hl hs0
  go_wp2_with fail
  refine hlk.mono ?_
  clear hlk
  rintro e w1 ⟨f, v, c, kk, rfl, hf, he, hc, hb1⟩
  obtain ⟨en0, wh0, gn0, a0, n0, cap0, rfl, hsee⟩ := hf.form
  rw [show d.get 0 = d.b0 from rfl] at *
  have hA1 : w1.heap[w.heap.size]? = some (.cells #[.int .i64 0, .int .i64 0, .bool false, .int .u64 0, .slice none 0 0, .int .i64 0, .int .i64 0, .bool false, .int .u64 0, .slice none 0 0] 55 (0, 0)) := (hb1.block _ hlt0).trans hA0
  have hB01 : Below w.heap.size w w1 := HB0.out.trans (hb1.mono HB0.out.size)
  have hbf : Below w1.heap.size w1 (w1.alloc (.cells #[.int .i64 (d.b0.length : Nat), .int .i64 en0, .bool wh0, .int .u64 gn0, .slice a0 n0 cap0] 54)) := below_new _ _
  have hF1 := heap_new w1 (.cells #[.int .i64 (d.b0.length : Nat), .int .i64 en0, .bool wh0, .int .u64 gn0, .slice a0 n0 cap0] 54)
  have hie := is_err c v _ ((HG0.out.later hb1).later hbf) (he.later hbf)
  rw [decide_eq_false hc] at hie
  have hws1 := hB01.size
  have hws0 := HB0.out.size
  have hwl : w.heap.size < w1.heap.size := heap_lt hA1
  go_wp2_with fail
  refine hie.mono ?_
  clear hie
  rintro e w2 ⟨rfl, hb2⟩
  have hF2 : w2.heap[w1.heap.size]? = some (.cells #[.int .i64 (d.b0.length : Nat), .int .i64 en0, .bool wh0, .int .u64 gn0, .slice a0 n0 cap0] 54 (0, 0)) := (hb2.block _ (heap_lt hF1)).trans hF1
  have hA2 : w2.heap[w.heap.size]? = some (.cells #[.int .i64 0, .int .i64 0, .bool false, .int .u64 0, .slice none 0 0, .int .i64 0, .int .i64 0, .bool false, .int .u64 0, .slice none 0 0] 55 (0, 0)) := (hb2.block _ (Nat.lt_of_lt_of_le hwl hbf.size)).trans ((hbf.block _ hwl).trans hA1)
  have hb12 : Below w1.heap.size w1 w2 := hbf.trans (hb2.mono hbf.size)
  obtain ⟨x0, x1, x2, x3, x4, -⟩ := cells5 hF2
  have y0 : w2.cell? ⟨w.heap.size, 0, none⟩ = some (.int .i64 0) := cell_of_heap hA2 rfl
  have z0 : w2.frozen? ⟨w.heap.size, 0, none⟩ = false := frozen_heap hA2
  have y1 : w2.cell? ⟨w.heap.size, 1, none⟩ = some (.int .i64 0) := cell_of_heap hA2 rfl
  have z1 : w2.frozen? ⟨w.heap.size, 1, none⟩ = false := frozen_heap hA2
  have y2 : w2.cell? ⟨w.heap.size, 2, none⟩ = some (.bool false) := cell_of_heap hA2 rfl
  have z2 : w2.frozen? ⟨w.heap.size, 2, none⟩ = false := frozen_heap hA2
  have y3 : w2.cell? ⟨w.heap.size, 3, none⟩ = some (.int .u64 0) := cell_of_heap hA2 rfl
  have z3 : w2.frozen? ⟨w.heap.size, 3, none⟩ = false := frozen_heap hA2
  have y4 : w2.cell? ⟨w.heap.size, 4, none⟩ = some (.slice none 0 0) := cell_of_heap hA2 rfl
  have z4 : w2.frozen? ⟨w.heap.size, 4, none⟩ = false := frozen_heap hA2
  have HTW : Hid (_ ∧ _) := ten0 (.int .i64 (d.b0.length : Nat)) (.int .i64 en0) (.bool wh0) (.int .u64 gn0) (.slice a0 n0 cap0) hA2
  have HSEE : Hid (Sees w1 W0.heap.size d.b0 en0 wh0 gn0 a0 n0) := hsee
  have HB12 : Hid (Below w1.heap.size w1 w2) := hb12
  have HBW1 : Hid (Below w.heap.size w w1) := hB01
  have HBa : Hid (Below W0.heap.size W0 w1) := hb1
  clear hf he hb1 hB01 hbf hF1 hF2 hA1 hA2 hb2 hb12 hsee hA0
  go_upto_region 11 with fail
  obtain ⟨w3, hw3⟩ : ∃ w3, w3 = (((((w2.setCell ⟨w.heap.size, 0, none⟩ (.int .i64 (d.b0.length : Nat))).setCell ⟨w.heap.size, 1, none⟩ (.int .i64 en0)).setCell ⟨w.heap.size, 2, none⟩ (.bool wh0)).setCell ⟨w.heap.size, 3, none⟩ (.int .u64 gn0)).setCell ⟨w.heap.size, 4, none⟩ (.slice a0 n0 cap0)) := ⟨_, rfl⟩
  rw [← hw3] at HTW ⊢
  clear hw3 x0 x1 x2 x3 x4 y0 y1 y2 y3 y4 z0 z1 z2 z3 z4
  have hA0 : w3.heap[w.heap.size]? = some (.cells #[.int .i64 (d.b0.length : Nat), .int .i64 en0, .bool wh0, .int .u64 gn0, .slice a0 n0 cap0, .int .i64 0, .int .i64 0, .bool false, .int .u64 0, .slice none 0 0] 55 (0, 0)) := HTW.out.1
  have hfr : Frm (· = w.heap.size) w2 w3 := HTW.out.2
  have HB1 : Hid (Below w.heap.size w w3) := (HBW1.out.trans (HB12.out.mono HBW1.out.size)).trans (hfr.below (Nat.le_trans HBW1.out.size HB12.out.size) (fun k hk => by omega))
  have HSE0 : Hid (Sees w3 (w.heap.size + 1) d.b0 en0 wh0 gn0 a0 n0) := by
    have h1 := (HSEE.out.later HB12.out).frm hfr (fun k h1 h2 h3 => by omega)
    exact h1.base (by omega)
  have HG1 : Hid (G w3) := hg'.later HB1.out
  have hlt0 : w.heap.size < w3.heap.size := heap_lt hA0
  clear HDW
  have HDW : Hid (Dk w3 S g d) := HD.out.later HB1.out
  clear HTW HSEE HB12 HBW1 HBa hfr hwl hws1 hws0
  go_wp2_with fail
  rw [rounds_succ]
  have hlk := look_ok g S d 1 w3 HG1.out HDW.out (.inr rfl) hl hs1
  go_wp2_with fail
  refine hlk.mono ?_
  clear hlk
  rintro e w4 ⟨f, v, c, kk, rfl, hf, he, hc, hb1⟩
  obtain ⟨en1, wh1, gn1, a1, n1, cap1, rfl, hsee⟩ := hf.form
  rw [show d.get 1 = d.b1 from rfl] at *
  have hA1 : w4.heap[w.heap.size]? = some (.cells #[.int .i64 (d.b0.length : Nat), .int .i64 en0, .bool wh0, .int .u64 gn0, .slice a0 n0 cap0, .int .i64 0, .int .i64 0, .bool false, .int .u64 0, .slice none 0 0] 55 (0, 0)) := (hb1.block _ hlt0).trans hA0
  have hB01 : Below w.heap.size w w4 := HB1.out.trans (hb1.mono HB1.out.size)
  have hbf : Below w4.heap.size w4 (w4.alloc (.cells #[.int .i64 (d.b1.length : Nat), .int .i64 en1, .bool wh1, .int .u64 gn1, .slice a1 n1 cap1] 54)) := below_new _ _
  have hF1 := heap_new w4 (.cells #[.int .i64 (d.b1.length : Nat), .int .i64 en1, .bool wh1, .int .u64 gn1, .slice a1 n1 cap1] 54)
  have hie := is_err c v _ ((HG1.out.later hb1).later hbf) (he.later hbf)
  rw [decide_eq_false hc] at hie
  have hws1 := hB01.size
  have hws0 := HB1.out.size
  have hwl : w.heap.size < w4.heap.size := heap_lt hA1
  go_wp2_with fail
  refine hie.mono ?_
  clear hie
  rintro e w5 ⟨rfl, hb2⟩
  have hF2 : w5.heap[w4.heap.size]? = some (.cells #[.int .i64 (d.b1.length : Nat), .int .i64 en1, .bool wh1, .int .u64 gn1, .slice a1 n1 cap1] 54 (0, 0)) := (hb2.block _ (heap_lt hF1)).trans hF1
  have hA2 : w5.heap[w.heap.size]? = some (.cells #[.int .i64 (d.b0.length : Nat), .int .i64 en0, .bool wh0, .int .u64 gn0, .slice a0 n0 cap0, .int .i64 0, .int .i64 0, .bool false, .int .u64 0, .slice none 0 0] 55 (0, 0)) := (hb2.block _ (Nat.lt_of_lt_of_le hwl hbf.size)).trans ((hbf.block _ hwl).trans hA1)
  have hb12 : Below w4.heap.size w4 w5 := hbf.trans (hb2.mono hbf.size)
  obtain ⟨x0, x1, x2, x3, x4, -⟩ := cells5 hF2
  have y0 : w5.cell? ⟨w.heap.size, 5, none⟩ = some (.int .i64 0) := cell_of_heap hA2 rfl
  have z0 : w5.frozen? ⟨w.heap.size, 5, none⟩ = false := frozen_heap hA2
  have y1 : w5.cell? ⟨w.heap.size, 6, none⟩ = some (.int .i64 0) := cell_of_heap hA2 rfl
  have z1 : w5.frozen? ⟨w.heap.size, 6, none⟩ = false := frozen_heap hA2
  have y2 : w5.cell? ⟨w.heap.size, 7, none⟩ = some (.bool false) := cell_of_heap hA2 rfl
  have z2 : w5.frozen? ⟨w.heap.size, 7, none⟩ = false := frozen_heap hA2
  have y3 : w5.cell? ⟨w.heap.size, 8, none⟩ = some (.int .u64 0) := cell_of_heap hA2 rfl
  have z3 : w5.frozen? ⟨w.heap.size, 8, none⟩ = false := frozen_heap hA2
  have y4 : w5.cell? ⟨w.heap.size, 9, none⟩ = some (.slice none 0 0) := cell_of_heap hA2 rfl
  have z4 : w5.frozen? ⟨w.heap.size, 9, none⟩ = false := frozen_heap hA2
  have HTW : Hid (_ ∧ _) := ten5 (.int .i64 (d.b1.length : Nat)) (.int .i64 en1) (.bool wh1) (.int .u64 gn1) (.slice a1 n1 cap1) hA2
  have HSEE : Hid (Sees w4 w3.heap.size d.b1 en1 wh1 gn1 a1 n1) := hsee
  have HB12 : Hid (Below w4.heap.size w4 w5) := hb12
  have HBW1 : Hid (Below w.heap.size w w4) := hB01
  have HBa : Hid (Below w3.heap.size w3 w4) := hb1
  clear hf he hb1 hB01 hbf hF1 hF2 hA1 hA2 hb2 hb12 hsee hA0
  go_upto_region 11 with fail
  obtain ⟨w6, hw6⟩ : ∃ w6, w6 = (((((w5.setCell ⟨w.heap.size, 5, none⟩ (.int .i64 (d.b1.length : Nat))).setCell ⟨w.heap.size, 6, none⟩ (.int .i64 en1)).setCell ⟨w.heap.size, 7, none⟩ (.bool wh1)).setCell ⟨w.heap.size, 8, none⟩ (.int .u64 gn1)).setCell ⟨w.heap.size, 9, none⟩ (.slice a1 n1 cap1)) := ⟨_, rfl⟩
  rw [← hw6] at HTW ⊢
  clear hw6 x0 x1 x2 x3 x4 y0 y1 y2 y3 y4 z0 z1 z2 z3 z4
  have hA0 : w6.heap[w.heap.size]? = some (.cells #[.int .i64 (d.b0.length : Nat), .int .i64 en0, .bool wh0, .int .u64 gn0, .slice a0 n0 cap0, .int .i64 (d.b1.length : Nat), .int .i64 en1, .bool wh1, .int .u64 gn1, .slice a1 n1 cap1] 55 (0, 0)) := HTW.out.1
  have hfr : Frm (· = w.heap.size) w5 w6 := HTW.out.2
  have HB2 : Hid (Below w.heap.size w w6) := (HBW1.out.trans (HB12.out.mono HBW1.out.size)).trans (hfr.below (Nat.le_trans HBW1.out.size HB12.out.size) (fun k hk => by omega))
  have HSE1 : Hid (Sees w6 (w.heap.size + 1) d.b1 en1 wh1 gn1 a1 n1) := by
    have h1 := (HSEE.out.later HB12.out).frm hfr (fun k h1 h2 h3 => by omega)
    exact h1.base (by omega)
  have HSE0' : Hid (Sees w6 (w.heap.size + 1) d.b0 en0 wh0 gn0 a0 n0) := (((HSE0.out.later HBa.out).later HB12.out).frm hfr (fun k h1 h2 h3 => by omega))
  have HG2 : Hid (G w6) := hg'.later HB2.out
  have hlt0 : w.heap.size < w6.heap.size := heap_lt hA0
  clear HDW
  have HDW : Hid (Dk w6 S g d) := HD.out.later HB2.out
  clear HTW HSEE HB12 HBW1 HBa hfr hwl hws1 hws0
  go_wp2_with fail
  rw [rounds_succ]
  have c_0 : w6.cell? ⟨w.heap.size, 0, none⟩ = some (.int .i64 (d.b0.length : Nat)) := cell_of_heap hA0 rfl
  have c_1 : w6.cell? ⟨w.heap.size, 1, none⟩ = some (.int .i64 en0) := cell_of_heap hA0 rfl
  have c_2 : w6.cell? ⟨w.heap.size, 2, none⟩ = some (.bool wh0) := cell_of_heap hA0 rfl
  have c_3 : w6.cell? ⟨w.heap.size, 3, none⟩ = some (.int .u64 gn0) := cell_of_heap hA0 rfl
  have c_4 : w6.cell? ⟨w.heap.size, 4, none⟩ = some (.slice a0 n0 cap0) := cell_of_heap hA0 rfl
  have c_5 : w6.cell? ⟨w.heap.size, 5, none⟩ = some (.int .i64 (d.b1.length : Nat)) := cell_of_heap hA0 rfl
  have c_6 : w6.cell? ⟨w.heap.size, 6, none⟩ = some (.int .i64 en1) := cell_of_heap hA0 rfl
  have c_7 : w6.cell? ⟨w.heap.size, 7, none⟩ = some (.bool wh1) := cell_of_heap hA0 rfl
  have c_8 : w6.cell? ⟨w.heap.size, 8, none⟩ = some (.int .u64 gn1) := cell_of_heap hA0 rfl
  have c_9 : w6.cell? ⟨w.heap.size, 9, none⟩ = some (.slice a1 n1 cap1) := cell_of_heap hA0 rfl
  obtain ⟨S', hS'⟩ : ∃ S' : Nat → Prop, S' = fun k => S k ∧ ¬ (w.heap.size ≤ k ∧ k < w6.heap.size) := ⟨_, rfl⟩
  have HK : Hid (∀ k, S' k ↔ (S k ∧ ¬ (w.heap.size ≤ k ∧ k < w6.heap.size))) := fun k => by rw [hS']
  clear hS'
  have hD6 : Dk w6 S' g d := ((HD.out.to (T := fun k => S k ∧ k < w.heap.size) (fun k hk hs => ⟨hs, hk⟩)).later HB2.out).to (fun k _ hs => (HK.out k).2 ⟨hs.1, fun hh => by have := hs.2; have := hh.1; omega⟩)
  have hws := HB2.out.size
  have hop := wopen_any g S' d d.b0.length en0 gn0 d.b1.length en1 gn1 wh0 wh1 (.slice a0 n0 cap0) (.slice a1 n1 cap1) w6 hD6 (fun k hk => (HK.out k).2 ⟨hS k (by omega), by omega⟩)
  generalize hq : d.opened d.b0.length en0 wh0 gn0 d.b1.length en1 wh1 gn1 = R at *
  have HQ : Hid (d.opened d.b0.length en0 wh0 gn0 d.b1.length en1 wh1 gn1 = R) := hq
  obtain ⟨rc, RD⟩ := R
  clear hq hD6
  have hn1 : ¬ S' w.heap.size := fun hh => ((HK.out _).1 hh).2 ⟨Nat.le_refl _, by omega⟩
  have hn0 : ¬ S' 0 := fun hh => h0S ((HK.out _).1 hh).1
  go_wp2_with fail
  refine hop.mono ?_
  clear hop c_0 c_1 c_2 c_3 c_4 c_5 c_6 c_7 c_8 c_9
  rintro e w7 ⟨hif, hfr⟩
  dsimp only at hif
  have hA7 : w7.heap[w.heap.size]? = some (.cells #[.int .i64 (d.b0.length : Nat), .int .i64 en0, .bool wh0, .int .u64 gn0, .slice a0 n0 cap0, .int .i64 (d.b1.length : Nat), .int .i64 en1, .bool wh1, .int .u64 gn1, .slice a1 n1 cap1] 55 (0, 0)) := (hfr.block _ hlt0 hn1).trans hA0
  have HG7 : Hid (G w7) := HG2.out.frm hfr hn0
  have HFR : Hid (Frm S w w7) := (Frm.of_later HB2.out S).trans (hfr.mono fun k _ hk => ((HK.out k).1 hk).1)
  have hnT : ∀ k, w.heap.size + 1 ≤ k → k < w6.heap.size → ¬ S' k := fun k h1 h2 hh => ((HK.out k).1 hh).2 ⟨by omega, h2⟩
  have HS0 : Hid (Sees w7 w.heap.size d.b0 en0 wh0 gn0 a0 n0) := ((HSE0'.out.frm hfr hnT).base (by omega))
  have HS1 : Hid (Sees w7 w.heap.size d.b1 en1 wh1 gn1 a1 n1) := ((HSE1.out.frm hfr hnT).base (by omega))
  clear hnT hfr hA0 HSE0' HSE1 HSE0 HG0 HG1 HG2 HDW HD
  by_cases hrc : rc = 0
  · subst hrc
    rw [if_pos rfl] at hif
    obtain ⟨gl, rfl, hL, hgl, hDk⟩ := hif
    have HL : Hid (Lg w7 gl g (Wa.newest wh0 wh1 gn0 gn1) (Wa.genOf wh0 gn0 wh1 gn1) false) := hL
    have HDK : Hid (Dk w7 (fun k => S k ∧ k ≠ gl) g RD) := hDk.to fun k _ hk => ⟨((HK.out k).1 hk.1).1, hk.2⟩
    have l1 : w7.cell? ⟨gl, 1, none⟩ = some (.int .i64 (Wa.newest wh0 wh1 gn0 gn1 : Nat)) := cell_of_heap hL rfl
    have r4 : w7.cell? ⟨w.heap.size, 4, none⟩ = some (.slice a0 n0 cap0) := cell_of_heap hA7 rfl
    have r9 : w7.cell? ⟨w.heap.size, 9, none⟩ = some (.slice a1 n1 cap1) := cell_of_heap hA7 rfl
    have HGL : Hid (w.heap.size ≤ gl) := Nat.le_trans hws hgl
    clear hL hDk hA7 hgl
    rcases Wa.newest_or wh0 wh1 gn0 gn1 with hnw | ⟨hnw, -⟩
    · rw [hnw] at l1
      have HNW : Hid (Wa.newest wh0 wh1 gn0 gn1 = 0) := hnw
      clear hnw
      go_wp2_with fail
      go_quiet (fail)
      go_wp2
      go_returns
      refine ⟨en0, wh0, gn0, a0, n0, cap0, en1, wh1, gn1, a1, n1, cap1, HS0.out.later (below_drewN (Below.refl _ _) _), HS1.out.later (below_drewN (Below.refl _ _) _), HFR.out.trans (Frm.drews _ _ _), ?_⟩
      rw [HQ.out, if_pos rfl, HNW.out, if_pos rfl]
      have hL : ∀ n, Lg (w7.drewN n) gl g 0 (Wa.genOf wh0 gn0 wh1 gn1) false := fun n => by
        have := HL.out.later (below_drewN (Below.refl _ _) n)
        rw [HNW.out] at this
        exact this
      exact ⟨gl, rfl, hL _, HGL.out, HDK.out.drews⟩
    · rw [hnw] at l1
      have HNW : Hid (Wa.newest wh0 wh1 gn0 gn1 = 1) := hnw
      clear hnw
      go_wp2_with fail
      go_quiet (fail)
      go_wp2
      go_returns
      refine ⟨en0, wh0, gn0, a0, n0, cap0, en1, wh1, gn1, a1, n1, cap1, HS0.out.later (below_drewN (Below.refl _ _) _), HS1.out.later (below_drewN (Below.refl _ _) _), HFR.out.trans (Frm.drews _ _ _), ?_⟩
      rw [HQ.out, if_pos rfl, HNW.out, if_neg (by omega)]
      have hL : ∀ n, Lg (w7.drewN n) gl g 1 (Wa.genOf wh0 gn0 wh1 gn1) false := fun n => by
        have := HL.out.later (below_drewN (Below.refl _ _) n)
        rw [HNW.out] at this
        exact this
      exact ⟨gl, rfl, hL _, HGL.out, HDK.out.drews⟩
  · rw [if_neg hrc] at hif
    obtain ⟨v7, rfl, hE, hDk⟩ := hif
    obtain ⟨tu, vu, rfl⟩ := hE.form hrc
    have HE : Hid (Err w7 rc (.iface tu vu)) := hE
    have HDK : Hid (Dk w7 S g RD) := hDk.to fun k _ hk => ((HK.out k).1 hk).1
    clear hE hDk hA7
    go_wp2_with fail
    refine (code_err rc _ w7 HG7.out HE.out).mono ?_
    rintro e w8 ⟨rfl, hb8⟩
    go_wp2
    go_returns
    refine ⟨en0, wh0, gn0, a0, n0, cap0, en1, wh1, gn1, a1, n1, cap1, HS0.out.later hb8, HS1.out.later hb8, HFR.out.trans (Frm.of_later hb8 _), ?_⟩
    rw [HQ.out, if_neg hrc]
    exact ⟨rfl, HDK.out.later hb8⟩
end Go.Proofs.YtmlpneiadkngaaaDoor
