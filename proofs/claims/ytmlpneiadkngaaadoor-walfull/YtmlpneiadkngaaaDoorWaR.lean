/- What opening makes of any two areas; an area behind any records; records that a law keeps beside a disk. -/
import Derived.Test.YtmlpneiadkngaaaDoorFrMath
import Derived.Test.YtmlpneiadkngaaaDoorWaJ
import Derived.Test.YtmlpneiadkngaaaDoorWaM
namespace Go.Proofs.YtmlpneiadkngaaaDoor
open Go.RowKit
set_option linter.unusedVariables false

/-- what is not of the disk, and was made on the way, stays -/
def Far (S : Nat → Prop) (w wc : World) (k : Nat) : Prop := S k ∧ ¬ (w.heap.size ≤ k ∧ k < wc.heap.size)
/-- what Open answers, and leaves -/
def OpenFar (S : Nat → Prop) (g : Nat) (d : DS) (w w' : World) (e : Ending) : Prop :=
  ∃ (wc : World) (en0 : Nat) (wh0 : Bool) (gn0 : Nat) (a0 : Option Addr) (n0 cap0 en1 : Nat) (wh1 : Bool) (gn1 : Nat) (a1 : Option Addr) (n1 cap1 : Nat),
    Below w.heap.size w wc ∧ Sees wc w.heap.size d.b0 en0 wh0 gn0 a0 n0 ∧ Sees wc w.heap.size d.b1 en1 wh1 gn1 a1 n1 ∧ Frm (Far S w wc) wc w' ∧
    (if (d.opened d.b0.length en0 wh0 gn0 d.b1.length en1 wh1 gn1).1 = 0 then
      ∃ gl, e = .returned (.tuple #[.pointer (some ⟨gl, 0, none⟩), if Wa.newest wh0 wh1 gn0 gn1 = 0 then .slice a0 n0 cap0 else .slice a1 n1 cap1, .int .i64 0]) ∧ Lg w' gl g (Wa.newest wh0 wh1 gn0 gn1) (Wa.genOf wh0 gn0 wh1 gn1) false ∧ wc.heap.size ≤ gl ∧ Dk w' (fun k => Far S w wc k ∧ k ≠ gl) g (d.opened d.b0.length en0 wh0 gn0 d.b1.length en1 wh1 gn1).2
    else e = .returned (.tuple #[.pointer none, .slice none 0 0, .int .i64 ((d.opened d.b0.length en0 wh0 gn0 d.b1.length en1 wh1 gn1).1 : Nat)]) ∧ Dk w' (Far S w wc) g (d.opened d.b0.length en0 wh0 gn0 d.b1.length en1 wh1 gn1).2)

set_option maxHeartbeats 4000000 in
set_option maxRecDepth 100000 in
theorem Open_far (g : Nat) (S : Nat → Prop) (d : DS) (w : World) (hg : G w) (h : Dk w S g d) (hS : ∀ k, w.heap.size ≤ k → S k) (h0S : ¬ S 0) (hl : d.lost = false) (hs0 : d.b0.length ≤ 100000) (hs1 : d.b1.length ≤ 100000) :
    Calls Tryd.prog 8 #[.pointer (some ⟨g, 0, none⟩)] w fun e w' => OpenFar S g d w w' e := by
  have hgS := h.slot
  have hglt := h.lt
  have hpos := hg.pos
  have hb0 : Below w.heap.size w (w.alloc (.cells #[.int .i64 0, .int .i64 0, .bool false, .int .u64 0, .slice none 0 0, .int .i64 0, .int .i64 0, .bool false, .int .u64 0, .slice none 0 0] 55)) := below_new _ _
  have hA0 := heap_new w (.cells #[.int .i64 0, .int .i64 0, .bool false, .int .u64 0, .slice none 0 0, .int .i64 0, .int .i64 0, .bool false, .int .u64 0, .slice none 0 0] 55)
  go_enter Tryd.func8, Tryd.ntmps8
  go_wp2
  obtain ⟨W0, hW0⟩ : ∃ W0, W0 = w.alloc (.cells #[.int .i64 0, .int .i64 0, .bool false, .int .u64 0, .slice none 0 0, .int .i64 0, .int .i64 0, .bool false, .int .u64 0, .slice none 0 0] 55) := ⟨_, rfl⟩
  rw [← hW0] at hb0 hA0 ⊢
  clear hW0
  have HB0 : Hid (Below w.heap.size w W0) := hb0
  have hlt0 := heap_lt hA0
  have HG0 : Hid (G W0) := hg.later hb0
  have HD : Hid (Dk w S g d) := h
  have HDW : Hid (Dk W0 S g d) := h.later hb0
  have hg' := hg
  clear hb0 hg h
  have hW0l : w.heap.size < W0.heap.size := heap_lt hA0
  refine wp_loop_rounds 3 ?_
  rw [rounds_succ]
  have hlk := look_ok g S d 0 W0 HG0.out HDW.out (.inl rfl) hl hs0
  go_wp2_with fail
  refine hlk.mono ?_
  clear hlk
  rintro e w1 ⟨f, v, c, kk, rfl, hf, he, hc, hb1⟩
  obtain ⟨en0, wh0, gn0, a0, n0, cap0, rfl, hsee⟩ := hf.form
  rw [show d.get 0 = d.b0 from rfl] at *
  have hA1 : w1.heap[w.heap.size]? = some (.cells #[.int .i64 0, .int .i64 0, .bool false, .int .u64 0, .slice none 0 0, .int .i64 0, .int .i64 0, .bool false, .int .u64 0, .slice none 0 0] 55 (0, 0)) := (hb1.block _ hlt0).trans hA0
  have hB01 : Below w.heap.size w w1 := HB0.out.trans (hb1.mono HB0.out.size)
  have hbf : Below w1.heap.size w1 (w1.alloc (.cells #[.int .i64 (d.b0.length : Nat), .int .i64 en0, .bool wh0, .int .u64 gn0, .slice a0 n0 cap0] 54)) := below_new _ _
  have hF1 := heap_new w1 (.cells #[.int .i64 (d.b0.length : Nat), .int .i64 en0, .bool wh0, .int .u64 gn0, .slice a0 n0 cap0] 54)
  have hie := is_err c v _ ((HG0.out.later hb1).later hbf) (he.later hbf)
  rw [decide_eq_false hc] at hie
  have hws1 := hB01.size
  have hws0 := HB0.out.size
  have hwl : w.heap.size < w1.heap.size := heap_lt hA1
  go_wp2_with fail
  refine hie.mono ?_
  clear hie
  rintro e w2 ⟨rfl, hb2⟩
  have hF2 : w2.heap[w1.heap.size]? = some (.cells #[.int .i64 (d.b0.length : Nat), .int .i64 en0, .bool wh0, .int .u64 gn0, .slice a0 n0 cap0] 54 (0, 0)) := (hb2.block _ (heap_lt hF1)).trans hF1
  have hA2 : w2.heap[w.heap.size]? = some (.cells #[.int .i64 0, .int .i64 0, .bool false, .int .u64 0, .slice none 0 0, .int .i64 0, .int .i64 0, .bool false, .int .u64 0, .slice none 0 0] 55 (0, 0)) := (hb2.block _ (Nat.lt_of_lt_of_le hwl hbf.size)).trans ((hbf.block _ hwl).trans hA1)
  have hb12 : Below w1.heap.size w1 w2 := hbf.trans (hb2.mono hbf.size)
  obtain ⟨x0, x1, x2, x3, x4, -⟩ := cells5 hF2
  have y0 : w2.cell? ⟨w.heap.size, 0, none⟩ = some (.int .i64 0) := cell_of_heap hA2 rfl
  have z0 : w2.frozen? ⟨w.heap.size, 0, none⟩ = false := frozen_heap hA2
  have y1 : w2.cell? ⟨w.heap.size, 1, none⟩ = some (.int .i64 0) := cell_of_heap hA2 rfl
  have z1 : w2.frozen? ⟨w.heap.size, 1, none⟩ = false := frozen_heap hA2
  have y2 : w2.cell? ⟨w.heap.size, 2, none⟩ = some (.bool false) := cell_of_heap hA2 rfl
  have z2 : w2.frozen? ⟨w.heap.size, 2, none⟩ = false := frozen_heap hA2
  have y3 : w2.cell? ⟨w.heap.size, 3, none⟩ = some (.int .u64 0) := cell_of_heap hA2 rfl
  have z3 : w2.frozen? ⟨w.heap.size, 3, none⟩ = false := frozen_heap hA2
  have y4 : w2.cell? ⟨w.heap.size, 4, none⟩ = some (.slice none 0 0) := cell_of_heap hA2 rfl
  have z4 : w2.frozen? ⟨w.heap.size, 4, none⟩ = false := frozen_heap hA2
  have HTW : Hid (_ ∧ _) := ten0 (.int .i64 (d.b0.length : Nat)) (.int .i64 en0) (.bool wh0) (.int .u64 gn0) (.slice a0 n0 cap0) hA2
  have HSEE : Hid (Sees w1 W0.heap.size d.b0 en0 wh0 gn0 a0 n0) := hsee
  have HB12 : Hid (Below w1.heap.size w1 w2) := hb12
  have HBW1 : Hid (Below w.heap.size w w1) := hB01
  have HBa : Hid (Below W0.heap.size W0 w1) := hb1
  clear hf he hb1 hB01 hbf hF1 hF2 hA1 hA2 hb2 hb12 hsee hA0
  go_upto_region 11 with fail
  obtain ⟨w3, hw3⟩ : ∃ w3, w3 = (((((w2.setCell ⟨w.heap.size, 0, none⟩ (.int .i64 (d.b0.length : Nat))).setCell ⟨w.heap.size, 1, none⟩ (.int .i64 en0)).setCell ⟨w.heap.size, 2, none⟩ (.bool wh0)).setCell ⟨w.heap.size, 3, none⟩ (.int .u64 gn0)).setCell ⟨w.heap.size, 4, none⟩ (.slice a0 n0 cap0)) := ⟨_, rfl⟩
  rw [← hw3] at HTW ⊢
  clear hw3 x0 x1 x2 x3 x4 y0 y1 y2 y3 y4 z0 z1 z2 z3 z4
  have hA0 : w3.heap[w.heap.size]? = some (.cells #[.int .i64 (d.b0.length : Nat), .int .i64 en0, .bool wh0, .int .u64 gn0, .slice a0 n0 cap0, .int .i64 0, .int .i64 0, .bool false, .int .u64 0, .slice none 0 0] 55 (0, 0)) := HTW.out.1
  have hfr : Frm (· = w.heap.size) w2 w3 := HTW.out.2
  have HB1 : Hid (Below w.heap.size w w3) := (HBW1.out.trans (HB12.out.mono HBW1.out.size)).trans (hfr.below (Nat.le_trans HBW1.out.size HB12.out.size) (fun k hk => by omega))
  have HSE0 : Hid (Sees w3 (w.heap.size + 1) d.b0 en0 wh0 gn0 a0 n0) := by
    have h1 := (HSEE.out.later HB12.out).frm hfr (fun k h1 h2 h3 => by omega)
    exact h1.base (by omega)
  have HG1 : Hid (G w3) := hg'.later HB1.out
  have hlt0 : w.heap.size < w3.heap.size := heap_lt hA0
  clear HDW
  have HDW : Hid (Dk w3 S g d) := HD.out.later HB1.out
  clear HTW HSEE HB12 HBW1 HBa hfr hwl hws1 hws0
  go_wp2_with fail
  rw [rounds_succ]
  have hlk := look_ok g S d 1 w3 HG1.out HDW.out (.inr rfl) hl hs1
  go_wp2_with fail
  refine hlk.mono ?_
  clear hlk
  rintro e w4 ⟨f, v, c, kk, rfl, hf, he, hc, hb1⟩
  obtain ⟨en1, wh1, gn1, a1, n1, cap1, rfl, hsee⟩ := hf.form
  rw [show d.get 1 = d.b1 from rfl] at *
  have hA1 : w4.heap[w.heap.size]? = some (.cells #[.int .i64 (d.b0.length : Nat), .int .i64 en0, .bool wh0, .int .u64 gn0, .slice a0 n0 cap0, .int .i64 0, .int .i64 0, .bool false, .int .u64 0, .slice none 0 0] 55 (0, 0)) := (hb1.block _ hlt0).trans hA0
  have hB01 : Below w.heap.size w w4 := HB1.out.trans (hb1.mono HB1.out.size)
  have hbf : Below w4.heap.size w4 (w4.alloc (.cells #[.int .i64 (d.b1.length : Nat), .int .i64 en1, .bool wh1, .int .u64 gn1, .slice a1 n1 cap1] 54)) := below_new _ _
  have hF1 := heap_new w4 (.cells #[.int .i64 (d.b1.length : Nat), .int .i64 en1, .bool wh1, .int .u64 gn1, .slice a1 n1 cap1] 54)
  have hie := is_err c v _ ((HG1.out.later hb1).later hbf) (he.later hbf)
  rw [decide_eq_false hc] at hie
  have hws1 := hB01.size
  have hws0 := HB1.out.size
  have hwl : w.heap.size < w4.heap.size := heap_lt hA1
  go_wp2_with fail
  refine hie.mono ?_
  clear hie
  rintro e w5 ⟨rfl, hb2⟩
  have hF2 : w5.heap[w4.heap.size]? = some (.cells #[.int .i64 (d.b1.length : Nat), .int .i64 en1, .bool wh1, .int .u64 gn1, .slice a1 n1 cap1] 54 (0, 0)) := (hb2.block _ (heap_lt hF1)).trans hF1
  have hA2 : w5.heap[w.heap.size]? = some (.cells #[.int .i64 (d.b0.length : Nat), .int .i64 en0, .bool wh0, .int .u64 gn0, .slice a0 n0 cap0, .int .i64 0, .int .i64 0, .bool false, .int .u64 0, .slice none 0 0] 55 (0, 0)) := (hb2.block _ (Nat.lt_of_lt_of_le hwl hbf.size)).trans ((hbf.block _ hwl).trans hA1)
  have hb12 : Below w4.heap.size w4 w5 := hbf.trans (hb2.mono hbf.size)
  obtain ⟨x0, x1, x2, x3, x4, -⟩ := cells5 hF2
  have y0 : w5.cell? ⟨w.heap.size, 5, none⟩ = some (.int .i64 0) := cell_of_heap hA2 rfl
  have z0 : w5.frozen? ⟨w.heap.size, 5, none⟩ = false := frozen_heap hA2
  have y1 : w5.cell? ⟨w.heap.size, 6, none⟩ = some (.int .i64 0) := cell_of_heap hA2 rfl
  have z1 : w5.frozen? ⟨w.heap.size, 6, none⟩ = false := frozen_heap hA2
  have y2 : w5.cell? ⟨w.heap.size, 7, none⟩ = some (.bool false) := cell_of_heap hA2 rfl
  have z2 : w5.frozen? ⟨w.heap.size, 7, none⟩ = false := frozen_heap hA2
  have y3 : w5.cell? ⟨w.heap.size, 8, none⟩ = some (.int .u64 0) := cell_of_heap hA2 rfl
  have z3 : w5.frozen? ⟨w.heap.size, 8, none⟩ = false := frozen_heap hA2
  have y4 : w5.cell? ⟨w.heap.size, 9, none⟩ = some (.slice none 0 0) := cell_of_heap hA2 rfl
  have z4 : w5.frozen? ⟨w.heap.size, 9, none⟩ = false := frozen_heap hA2
  have HTW : Hid (_ ∧ _) := ten5 (.int .i64 (d.b1.length : Nat)) (.int .i64 en1) (.bool wh1) (.int .u64 gn1) (.slice a1 n1 cap1) hA2
  have HSEE : Hid (Sees w4 w3.heap.size d.b1 en1 wh1 gn1 a1 n1) := hsee
  have HB12 : Hid (Below w4.heap.size w4 w5) := hb12
  have HBW1 : Hid (Below w.heap.size w w4) := hB01
  have HBa : Hid (Below w3.heap.size w3 w4) := hb1
  clear hf he hb1 hB01 hbf hF1 hF2 hA1 hA2 hb2 hb12 hsee hA0
  go_upto_region 11 with fail
  obtain ⟨w6, hw6⟩ : ∃ w6, w6 = (((((w5.setCell ⟨w.heap.size, 5, none⟩ (.int .i64 (d.b1.length : Nat))).setCell ⟨w.heap.size, 6, none⟩ (.int .i64 en1)).setCell ⟨w.heap.size, 7, none⟩ (.bool wh1)).setCell ⟨w.heap.size, 8, none⟩ (.int .u64 gn1)).setCell ⟨w.heap.size, 9, none⟩ (.slice a1 n1 cap1)) := ⟨_, rfl⟩
  rw [← hw6] at HTW ⊢
  clear hw6 x0 x1 x2 x3 x4 y0 y1 y2 y3 y4 z0 z1 z2 z3 z4
  have hA0 : w6.heap[w.heap.size]? = some (.cells #[.int .i64 (d.b0.length : Nat), .int .i64 en0, .bool wh0, .int .u64 gn0, .slice a0 n0 cap0, .int .i64 (d.b1.length : Nat), .int .i64 en1, .bool wh1, .int .u64 gn1, .slice a1 n1 cap1] 55 (0, 0)) := HTW.out.1
  have hfr : Frm (· = w.heap.size) w5 w6 := HTW.out.2
  have HB2 : Hid (Below w.heap.size w w6) := (HBW1.out.trans (HB12.out.mono HBW1.out.size)).trans (hfr.below (Nat.le_trans HBW1.out.size HB12.out.size) (fun k hk => by omega))
  have HSE1 : Hid (Sees w6 (w.heap.size + 1) d.b1 en1 wh1 gn1 a1 n1) := by
    have h1 := (HSEE.out.later HB12.out).frm hfr (fun k h1 h2 h3 => by omega)
    exact h1.base (by omega)
  have HSE0' : Hid (Sees w6 (w.heap.size + 1) d.b0 en0 wh0 gn0 a0 n0) := (((HSE0.out.later HBa.out).later HB12.out).frm hfr (fun k h1 h2 h3 => by omega))
  have HG2 : Hid (G w6) := hg'.later HB2.out
  have hlt0 : w.heap.size < w6.heap.size := heap_lt hA0
  clear HDW
  have HDW : Hid (Dk w6 S g d) := HD.out.later HB2.out
  clear HTW HSEE HB12 HBW1 HBa hfr hwl hws1 hws0
  go_wp2_with fail
  rw [rounds_succ]
  have c_0 : w6.cell? ⟨w.heap.size, 0, none⟩ = some (.int .i64 (d.b0.length : Nat)) := cell_of_heap hA0 rfl
  have c_1 : w6.cell? ⟨w.heap.size, 1, none⟩ = some (.int .i64 en0) := cell_of_heap hA0 rfl
  have c_2 : w6.cell? ⟨w.heap.size, 2, none⟩ = some (.bool wh0) := cell_of_heap hA0 rfl
  have c_3 : w6.cell? ⟨w.heap.size, 3, none⟩ = some (.int .u64 gn0) := cell_of_heap hA0 rfl
  have c_4 : w6.cell? ⟨w.heap.size, 4, none⟩ = some (.slice a0 n0 cap0) := cell_of_heap hA0 rfl
  have c_5 : w6.cell? ⟨w.heap.size, 5, none⟩ = some (.int .i64 (d.b1.length : Nat)) := cell_of_heap hA0 rfl
  have c_6 : w6.cell? ⟨w.heap.size, 6, none⟩ = some (.int .i64 en1) := cell_of_heap hA0 rfl
  have c_7 : w6.cell? ⟨w.heap.size, 7, none⟩ = some (.bool wh1) := cell_of_heap hA0 rfl
  have c_8 : w6.cell? ⟨w.heap.size, 8, none⟩ = some (.int .u64 gn1) := cell_of_heap hA0 rfl
  have c_9 : w6.cell? ⟨w.heap.size, 9, none⟩ = some (.slice a1 n1 cap1) := cell_of_heap hA0 rfl
  obtain ⟨S', hS'⟩ : ∃ S' : Nat → Prop, S' = fun k => S k ∧ ¬ (w.heap.size ≤ k ∧ k < w6.heap.size) := ⟨_, rfl⟩
  have HK : Hid (∀ k, S' k ↔ (S k ∧ ¬ (w.heap.size ≤ k ∧ k < w6.heap.size))) := fun k => by rw [hS']
  clear hS'
  have hD6 : Dk w6 S' g d := ((HD.out.to (T := fun k => S k ∧ k < w.heap.size) (fun k hk hs => ⟨hs, hk⟩)).later HB2.out).to (fun k _ hs => (HK.out k).2 ⟨hs.1, fun hh => by have := hs.2; have := hh.1; omega⟩)
  have hws := HB2.out.size
  have hop := wopen_any g S' d d.b0.length en0 gn0 d.b1.length en1 gn1 wh0 wh1 (.slice a0 n0 cap0) (.slice a1 n1 cap1) w6 hD6 (fun k hk => (HK.out k).2 ⟨hS k (by omega), by omega⟩)
  generalize hq : d.opened d.b0.length en0 wh0 gn0 d.b1.length en1 wh1 gn1 = R at *
  have HQ : Hid (d.opened d.b0.length en0 wh0 gn0 d.b1.length en1 wh1 gn1 = R) := hq
  obtain ⟨rc, RD⟩ := R
  clear hq hD6
  have hn1 : ¬ S' w.heap.size := fun hh => ((HK.out _).1 hh).2 ⟨Nat.le_refl _, by omega⟩
  have hn0 : ¬ S' 0 := fun hh => h0S ((HK.out _).1 hh).1
  go_wp2_with fail
  refine hop.mono ?_
  clear hop c_0 c_1 c_2 c_3 c_4 c_5 c_6 c_7 c_8 c_9
  rintro e w7 ⟨hif, hfr⟩
  dsimp only at hif
  have hA7 : w7.heap[w.heap.size]? = some (.cells #[.int .i64 (d.b0.length : Nat), .int .i64 en0, .bool wh0, .int .u64 gn0, .slice a0 n0 cap0, .int .i64 (d.b1.length : Nat), .int .i64 en1, .bool wh1, .int .u64 gn1, .slice a1 n1 cap1] 55 (0, 0)) := (hfr.block _ hlt0 hn1).trans hA0
  have HG7 : Hid (G w7) := HG2.out.frm hfr hn0
  have HFR : Hid (Frm (Far S w w6) w6 w7) := hfr.mono fun k _ hk => (HK.out k).1 hk
  have HS0 : Hid (Sees w6 w.heap.size d.b0 en0 wh0 gn0 a0 n0) := HSE0'.out.base (by omega)
  have HS1 : Hid (Sees w6 w.heap.size d.b1 en1 wh1 gn1 a1 n1) := HSE1.out.base (by omega)
  clear hfr hA0 HSE0' HSE1 HSE0 HG0 HG1 HG2 HDW HD
  by_cases hrc : rc = 0
  · subst hrc
    rw [if_pos rfl] at hif
    obtain ⟨gl, rfl, hL, hgl, hDk⟩ := hif
    have HL : Hid (Lg w7 gl g (Wa.newest wh0 wh1 gn0 gn1) (Wa.genOf wh0 gn0 wh1 gn1) false) := hL
    have HDK : Hid (Dk w7 (fun k => Far S w w6 k ∧ k ≠ gl) g RD) := hDk.to fun k _ hk => ⟨(HK.out k).1 hk.1, hk.2⟩
    have l1 : w7.cell? ⟨gl, 1, none⟩ = some (.int .i64 (Wa.newest wh0 wh1 gn0 gn1 : Nat)) := cell_of_heap hL rfl
    have r4 : w7.cell? ⟨w.heap.size, 4, none⟩ = some (.slice a0 n0 cap0) := cell_of_heap hA7 rfl
    have r9 : w7.cell? ⟨w.heap.size, 9, none⟩ = some (.slice a1 n1 cap1) := cell_of_heap hA7 rfl
    have HGL : Hid (w6.heap.size ≤ gl) := hgl
    clear hL hDk hA7 hgl
    rcases Wa.newest_or wh0 wh1 gn0 gn1 with hnw | ⟨hnw, -⟩
    · rw [hnw] at l1
      have HNW : Hid (Wa.newest wh0 wh1 gn0 gn1 = 0) := hnw
      clear hnw
      go_wp2_with fail
      go_quiet (fail)
      go_wp2
      go_returns
      refine ⟨w6, en0, wh0, gn0, a0, n0, cap0, en1, wh1, gn1, a1, n1, cap1, HB2.out, HS0.out, HS1.out, HFR.out.trans (Frm.drews _ _ _), ?_⟩
      rw [HQ.out, if_pos rfl, HNW.out, if_pos rfl]
      have hL : ∀ n, Lg (w7.drewN n) gl g 0 (Wa.genOf wh0 gn0 wh1 gn1) false := fun n => by
        have := HL.out.later (below_drewN (Below.refl _ _) n)
        rw [HNW.out] at this
        exact this
      exact ⟨gl, rfl, hL _, HGL.out, HDK.out.drews⟩
    · rw [hnw] at l1
      have HNW : Hid (Wa.newest wh0 wh1 gn0 gn1 = 1) := hnw
      clear hnw
      go_wp2_with fail
      go_quiet (fail)
      go_wp2
      go_returns
      refine ⟨w6, en0, wh0, gn0, a0, n0, cap0, en1, wh1, gn1, a1, n1, cap1, HB2.out, HS0.out, HS1.out, HFR.out.trans (Frm.drews _ _ _), ?_⟩
      rw [HQ.out, if_pos rfl, HNW.out, if_neg (by omega)]
      have hL : ∀ n, Lg (w7.drewN n) gl g 1 (Wa.genOf wh0 gn0 wh1 gn1) false := fun n => by
        have := HL.out.later (below_drewN (Below.refl _ _) n)
        rw [HNW.out] at this
        exact this
      exact ⟨gl, rfl, hL _, HGL.out, HDK.out.drews⟩
  · rw [if_neg hrc] at hif
    obtain ⟨v7, rfl, hE, hDk⟩ := hif
    obtain ⟨tu, vu, rfl⟩ := hE.form hrc
    have HE : Hid (Err w7 rc (.iface tu vu)) := hE
    have HDK : Hid (Dk w7 (Far S w w6) g RD) := hDk.to fun k _ hk => (HK.out k).1 hk
    clear hE hDk hA7
    go_wp2_with fail
    refine (code_err rc _ w7 HG7.out HE.out).mono ?_
    rintro e w8 ⟨rfl, hb8⟩
    go_wp2
    go_returns
    refine ⟨w6, en0, wh0, gn0, a0, n0, cap0, en1, wh1, gn1, a1, n1, cap1, HB2.out, HS0.out, HS1.out, HFR.out.trans (Frm.of_later hb8 _), ?_⟩
    rw [HQ.out, if_neg hrc]
    exact ⟨rfl, HDK.out.later hb8⟩

theorem Fr.num_take (l : List Nat) (m : Nat) (hm : 3 ≤ m) : Fr.num (l.take m) = Fr.num l := by
  unfold Fr.num
  rw [List.getElem?_take_of_lt (by omega), List.getElem?_take_of_lt (by omega)]
theorem Fr.code_take (l : List Nat) (m : Nat) (h : Fr.code l = 0) (hm : 7 + Fr.num l ≤ m) : Fr.code (l.take m) = 0 ∧ Fr.rec (l.take m) = Fr.rec l := by
  obtain ⟨h1, h2, h3⟩ := code_zero h
  obtain ⟨h4, h5, h6⟩ := lcode_zero h1
  have hn := Fr.num_take l m (by omega)
  have hl : (l.take m).length = min m l.length := List.length_take
  have h0 : (l.take m)[0]?.getD 0 = 197 := by rw [List.getElem?_take_of_lt (by omega)]; exact h5
  have hlc : Fr.lcode (l.take m) = 0 := by
    unfold Fr.lcode
    rw [if_neg (by omega), if_neg (by rw [h0]; simp), if_neg (by omega), if_neg (by rw [hn]; exact h6)]
  have hd : ((l.take m).drop 1).take (6 + Fr.num l) = (l.drop 1).take (6 + Fr.num l) := by
    rw [List.drop_take, List.take_take, Nat.min_eq_left (by omega)]
  constructor
  · unfold Fr.code
    rw [if_neg (by rw [hlc]; simp), if_neg (by rw [hn]; omega), hn, hd, if_pos h3]
  · unfold Fr.rec
    rw [hn, List.drop_take, List.take_take, Nat.min_eq_left (by omega)]

theorem Fr.ends_mono (bs : List Nat) : ∀ i j, i ≤ j → Fr.ends bs i ≤ Fr.ends bs j := by
  intro i j h
  induction h with
  | refl => exact Nat.le_refl _
  | step _ ih => simp only [Fr.ends]; omega
theorem Fr.stop_take (bs : List Nat) (k : Nat) (h : Fr.Stop bs k) :
    (∀ j, j ≤ k → Fr.ends (bs.take (Fr.ends bs k)) j = Fr.ends bs j ∧ Fr.recs (bs.take (Fr.ends bs k)) j = Fr.recs bs j) ∧ Fr.Stop (bs.take (Fr.ends bs k)) k ∧ Fr.ends bs k ≤ bs.length := by
  have step : ∀ j, j < k → Fr.code ((bs.take (Fr.ends bs k)).drop (Fr.ends bs j)) = 0 ∧ Fr.num ((bs.take (Fr.ends bs k)).drop (Fr.ends bs j)) = Fr.num (bs.drop (Fr.ends bs j)) ∧ Fr.rec ((bs.take (Fr.ends bs k)).drop (Fr.ends bs j)) = Fr.rec (bs.drop (Fr.ends bs j)) := by
    intro j hj
    have h1 := Fr.ends_mono bs (j + 1) k hj
    have e1 : Fr.ends bs (j + 1) = Fr.ends bs j + (7 + Fr.num (bs.drop (Fr.ends bs j))) := rfl
    rw [List.drop_take]
    obtain ⟨a, b⟩ := Fr.code_take (bs.drop (Fr.ends bs j)) (Fr.ends bs k - Fr.ends bs j) (h.1 j hj) (by omega)
    exact ⟨a, Fr.num_take _ _ (by omega), b⟩
  have both : ∀ j, j ≤ k → Fr.ends (bs.take (Fr.ends bs k)) j = Fr.ends bs j ∧ Fr.recs (bs.take (Fr.ends bs k)) j = Fr.recs bs j := by
    intro j
    induction j with
    | zero => intro _; exact ⟨rfl, rfl⟩
    | succ j ih =>
      intro hj
      obtain ⟨i1, i2⟩ := ih (by omega)
      obtain ⟨s1, s2, s3⟩ := step j (by omega)
      constructor
      · show Fr.ends (bs.take (Fr.ends bs k)) j + (7 + Fr.num ((bs.take (Fr.ends bs k)).drop (Fr.ends (bs.take (Fr.ends bs k)) j))) = Fr.ends bs j + (7 + Fr.num (bs.drop (Fr.ends bs j)))
        rw [i1, s2]
      · show Fr.recs (bs.take (Fr.ends bs k)) j ++ [Fr.rec ((bs.take (Fr.ends bs k)).drop (Fr.ends (bs.take (Fr.ends bs k)) j))] = Fr.recs bs j ++ [Fr.rec (bs.drop (Fr.ends bs j))]
        rw [i1, i2, s3]
  have hle : Fr.ends bs k ≤ bs.length := by
    cases k with
    | zero => exact Nat.zero_le _
    | succ j =>
      have h1 := Fr.code_size _ (h.1 j (by omega))
      have e1 : Fr.ends bs (j + 1) = Fr.ends bs j + (7 + Fr.num (bs.drop (Fr.ends bs j))) := rfl
      rw [List.length_drop] at h1
      omega
  refine ⟨both, ⟨fun j hj => ?_, ?_⟩, hle⟩
  · rw [(both j (by omega)).1]
    exact (step j hj).1
  · rw [(both k (Nat.le_refl _)).1, List.drop_take, Nat.sub_self, List.take_zero]
    decide

theorem Wa.whole_end {bs : List Nat} {k gn en : Nat} {rs : List (List Nat)} (h : Wa.whole bs k = some (gn, rs, en)) : en = Fr.ends bs k := by
  unfold Wa.whole at h
  split at h
  · cases h
  · split at h
    · cases h
    · split at h
      · simp only [Option.some.injEq, Prod.mk.injEq] at h
        exact h.2.2.symm
      · cases h
theorem Wa.whole_take {bs : List Nat} {k gn en : Nat} {rs : List (List Nat)} (hst : Fr.Stop bs k) (h : Wa.whole bs k = some (gn, rs, en)) : Wa.whole (bs.take en) k = some (gn, rs, en) ∧ Fr.Stop (bs.take en) k ∧ en ≤ bs.length := by
  have he := Wa.whole_end h
  subst he
  obtain ⟨h1, h2, h3⟩ := Fr.stop_take bs k hst
  refine ⟨?_, h2, h3⟩
  have h4 : Wa.whole (bs.take (Fr.ends bs k)) k = Wa.whole bs k := by
    unfold Wa.whole
    rw [(h1 k (Nat.le_refl _)).1, (h1 k (Nat.le_refl _)).2]
  rw [h4]
  exact h

theorem DS.mend0 (r s0 s1 en : Nat) (b0 b1 : List Nat) (hs : s0 ≤ b0.length) (he : en ≤ b0.length) : (⟨r, b0, s0, b1, s1, false, none⟩ : DS).mend (0 : Nat) b0.length en = (0, ⟨r, b0.take en, en, b1, s1, false, none⟩) := by
  unfold DS.mend
  by_cases h : en < b0.length
  · rw [if_pos h]
    simp [DS.cut, DS.keep, DS.write, DS.sets, DS.get]
    omega
  · rw [if_neg h]
    obtain rfl : en = b0.length := by omega
    by_cases h2 : s0 < b0.length
    · rw [if_pos (by simpa [DS.sureOf, DS.sure] using h2)]
      simp [DS.sync, DS.keep, DS.write, DS.sets, DS.get]
    · rw [if_neg (by simpa [DS.sureOf, DS.sure] using h2)]
      obtain rfl : s0 = b0.length := by omega
      simp
theorem DS.mend1 (r s0 s1 en : Nat) (b0 b1 : List Nat) (hs : s1 ≤ b1.length) (he : en ≤ b1.length) : (⟨r, b0, s0, b1, s1, false, none⟩ : DS).mend (1 : Nat) b1.length en = (0, ⟨r, b0, s0, b1.take en, en, false, none⟩) := by
  unfold DS.mend
  by_cases h : en < b1.length
  · rw [if_pos h]
    simp [DS.cut, DS.keep, DS.write, DS.sets, DS.get]
    omega
  · rw [if_neg h]
    obtain rfl : en = b1.length := by omega
    by_cases h2 : s1 < b1.length
    · rw [if_pos (by simpa [DS.sureOf, DS.sure] using h2)]
      simp [DS.sync, DS.keep, DS.write, DS.sets, DS.get]
    · rw [if_neg (by simpa [DS.sureOf, DS.sure] using h2)]
      obtain rfl : s1 = b1.length := by omega
      simp
theorem DS.wipe0 (r s0 s1 : Nat) (b0 b1 : List Nat) (hs : s0 ≤ b0.length) : (⟨r, b0, s0, b1, s1, false, none⟩ : DS).wipe 0 b0.length = (0, ⟨r, [], 0, b1, s1, false, none⟩) := by
  unfold DS.wipe
  by_cases h : b0.length = 0
  · rw [if_pos h]
    have hb := List.length_eq_zero_iff.1 h
    subst hb
    obtain rfl : s0 = 0 := by simpa using hs
    rfl
  · rw [if_neg h]
    simp [DS.cut, DS.keep, DS.write, DS.sets, DS.get]
theorem DS.wipe1 (r s0 s1 : Nat) (b0 b1 : List Nat) (hs : s1 ≤ b1.length) : (⟨r, b0, s0, b1, s1, false, none⟩ : DS).wipe 1 b1.length = (0, ⟨r, b0, s0, [], 0, false, none⟩) := by
  unfold DS.wipe
  by_cases h : b1.length = 0
  · rw [if_pos h]
    have hb := List.length_eq_zero_iff.1 h
    subst hb
    obtain rfl : s1 = 0 := by simpa using hs
    rfl
  · rw [if_neg h]
    simp [DS.cut, DS.keep, DS.write, DS.sets, DS.get]

theorem first_one : Wa.first 1 = Dx1.b0 := by kernel_rfl
theorem DS.anew0 (r s0 s1 : Nat) (b0 b1 : List Nat) (hs : s0 ≤ b0.length) (hr : b1.length + 10 ≤ r) : (⟨r, b0, s0, b1, s1, false, none⟩ : DS).anew (0 : Nat) b0.length = (0, ⟨r, Dx1.b0, 10, b1, s1, false, none⟩) := by
  unfold DS.anew
  have hw := DS.wipe0 r s0 s1 b0 b1 hs
  have hw2 : (⟨r, b0, s0, b1, s1, false, none⟩ : DS).wipe ((0 : Nat) : Int) b0.length = (0, ⟨r, [], 0, b1, s1, false, none⟩) := hw
  rw [hw2]
  simp only [ne_eq, not_true_eq_false, if_false]
  have hl : Dx1.b0.length = 10 := rfl
  unfold DS.begin
  rw [first_one]
  have hf : ¬ ((⟨r, [], 0, b1, s1, false, none⟩ : DS).free < Dx1.b0.length) := by rw [hl]; simp [DS.free]; omega
  have ha : (⟨r, [], 0, b1, s1, false, none⟩ : DS).append ((0 : Nat) : Int) Dx1.b0 = (0, ⟨r, Dx1.b0, 0, b1, s1, false, none⟩) := by
    unfold DS.append
    rw [if_neg (by simp), if_neg hf]
    simp [DS.write, DS.sets, DS.get, DS.sure]
  have hb : (⟨r, Dx1.b0, 0, b1, s1, false, none⟩ : DS).sync ((0 : Nat) : Int) = (0, ⟨r, Dx1.b0, 10, b1, s1, false, none⟩) := by
    simp only [DS.sync, DS.keep, DS.write, DS.sets, DS.get]
    rfl
  rw [if_neg hf, ha]
  simp only [ne_eq, not_true_eq_false, if_false]
  exact hb

/-- a disk that holds one log alone, all of it whole and sure -/
def One (D : DS) (A gen : Nat) (rs : List (List Nat)) : Prop :=
  ∃ (B : List Nat) (k : Nat), Fr.Stop B k ∧ Wa.whole B k = some (gen, rs, B.length) ∧ B ≠ [] ∧ B.length ≤ 1000 ∧ rs.length ≤ 1000 ∧
    ((A = 0 ∧ D = ⟨1000, B, B.length, [], 0, false, none⟩) ∨ (A = 1 ∧ D = ⟨1000, [], 0, B, B.length, false, none⟩))

theorem Fr.ends_ge (bs : List Nat) : ∀ k, 7 * k ≤ Fr.ends bs k
  | 0 => Nat.le_refl _
  | k + 1 => by have := Fr.ends_ge bs k; simp only [Fr.ends]; omega
theorem Wa.whole_len {bs : List Nat} {k gn en : Nat} {rs : List (List Nat)} (h : Wa.whole bs k = some (gn, rs, en)) : rs.length + 1 = k := by
  have hl := Fr.recs_length bs k
  unfold Wa.whole at h
  split at h
  · cases h
  · rename_i hd tl heq
    rw [heq] at hl
    split at h
    · cases h
    · split at h
      · simp only [Option.some.injEq, Prod.mk.injEq] at h
        rw [← h.2.1]
        simpa using hl
      · cases h
/-- an area that is whole, cut to its last whole frame -/
theorem One.of {bs : List Nat} {k gn en : Nat} {rs : List (List Nat)} (hst : Fr.Stop bs k) (h : Wa.whole bs k = some (gn, rs, en)) (hb : bs.length ≤ 1000) :
    Fr.Stop (bs.take en) k ∧ Wa.whole (bs.take en) k = some (gn, rs, (bs.take en).length) ∧ bs.take en ≠ [] ∧ (bs.take en).length ≤ 1000 ∧ rs.length ≤ 1000 ∧ (bs.take en).length = en ∧ en ≤ bs.length := by
  obtain ⟨h1, h2, h3⟩ := Wa.whole_take hst h
  have hl : (bs.take en).length = en := by rw [List.length_take]; omega
  have he := Wa.whole_end h
  have hg := Fr.ends_ge bs k
  have hr := Wa.whole_len h
  refine ⟨h2, by rw [hl]; exact h1, ?_, by omega, by omega, hl, h3⟩
  intro e
  rw [e] at hl
  simp at hl
  omega
theorem One.first : One ⟨1000, Dx1.b0, 10, [], 0, false, none⟩ 0 1 [] := by
  refine ⟨Dx1.b0, 1, ⟨fun j hj => ?_, by decide +kernel⟩, by decide +kernel, by decide, by decide, by simp, .inl ⟨rfl, rfl⟩⟩
  obtain rfl : j = 0 := by omega
  decide +kernel

/-- what opening makes of any two areas -/
theorem opened_one (w : World) (base : Nat) (b0 b1 : List Nat) (en0 gn0 n0 en1 gn1 n1 cap0 cap1 : Nat) (wh0 wh1 : Bool) (a0 a1 : Option Addr) (h0 : b0.length ≤ 200) (h1 : b1.length ≤ 200)
    (s0 : Sees w base b0 en0 wh0 gn0 a0 n0) (s1 : Sees w base b1 en1 wh1 gn1 a1 n1) :
    ∃ D rs a cap, (⟨1000, b0, 0, b1, 0, false, none⟩ : DS).opened b0.length en0 wh0 gn0 b1.length en1 wh1 gn1 = (0, D) ∧ One D (Wa.newest wh0 wh1 gn0 gn1) (Wa.genOf wh0 gn0 wh1 gn1) rs ∧
      (if Wa.newest wh0 wh1 gn0 gn1 = 0 then Value.slice a0 n0 cap0 else .slice a1 n1 cap1) = .slice a rs.length cap ∧ Recb w base a rs.length rs := by
  obtain ⟨k0, hk0, m0⟩ := s0
  obtain ⟨k1, hk1, m1⟩ := s1
  rcases Wa.newest_or wh0 wh1 gn0 gn1 with hn | ⟨hn, rfl⟩
  · unfold DS.opened Wa.genOf
    rw [if_pos hn, if_pos hn, if_pos hn, hn]
    cases hw : Wa.whole b0 k0 with
    | none =>
      rw [hw] at m0
      obtain ⟨rfl, rfl, rfl, rfl, rfl⟩ := m0
      refine ⟨_, [], none, cap0, ?_, One.first, rfl, rfl, .inl rfl⟩
      unfold DS.opens
      simp only [Bool.false_eq_true, if_false]
      rw [DS.anew0 1000 0 0 b0 b1 (by simp) (by omega)]
      simp only [ne_eq, not_true_eq_false, if_false]
      exact DS.wipe1 1000 10 0 Dx1.b0 b1 (by simp)
    | some q =>
      obtain ⟨gn, rs, en⟩ := q
      rw [hw] at m0
      obtain ⟨rfl, rfl, rfl, rfl, hrc⟩ := m0
      obtain ⟨o1, o2, o3, o4, o5, o6, o7⟩ := One.of hk0 hw (by omega)
      refine ⟨⟨1000, b0.take en0, en0, [], 0, false, none⟩, rs, a0, cap0, ?_, ⟨_, k0, o1, o2, o3, o4, o5, .inl ⟨rfl, by rw [o6]⟩⟩, rfl, hrc⟩
      unfold DS.opens
      simp only [if_true]
      rw [DS.mend0 1000 0 0 en0 b0 b1 (by simp) o7]
      simp only [ne_eq, not_true_eq_false, if_false]
      exact DS.wipe1 1000 en0 0 (b0.take en0) b1 (by simp)
  · unfold DS.opened Wa.genOf
    rw [if_neg (by omega), if_neg (by omega), if_neg (by omega), hn]
    cases hw : Wa.whole b1 k1 with
    | none =>
      rw [hw] at m1
      cases m1.1
    | some q =>
      obtain ⟨gn, rs, en⟩ := q
      rw [hw] at m1
      obtain ⟨-, rfl, rfl, rfl, hrc⟩ := m1
      obtain ⟨o1, o2, o3, o4, o5, o6, o7⟩ := One.of hk1 hw (by omega)
      refine ⟨⟨1000, [], 0, b1.take en1, en1, false, none⟩, rs, a1, cap1, ?_, ⟨_, k1, o1, o2, o3, o4, o5, .inr ⟨rfl, by rw [o6]⟩⟩, rfl, hrc⟩
      unfold DS.opens
      simp only [if_true]
      rw [DS.mend1 1000 0 0 en1 b0 b1 (by simp) o7]
      simp only [ne_eq, not_true_eq_false, if_false]
      exact DS.wipe0 1000 0 en1 b0 (b1.take en1) (by simp)

/-- .. and opened again it is the same -/
theorem opened_again (w : World) (base : Nat) (D : DS) (A gen : Nat) (rs : List (List Nat)) (hD : One D A gen rs) (en0 gn0 n0 en1 gn1 n1 cap0 cap1 : Nat) (wh0 wh1 : Bool) (a0 a1 : Option Addr)
    (s0 : Sees w base D.b0 en0 wh0 gn0 a0 n0) (s1 : Sees w base D.b1 en1 wh1 gn1 a1 n1) :
    D.opened D.b0.length en0 wh0 gn0 D.b1.length en1 wh1 gn1 = (0, D) ∧ Wa.newest wh0 wh1 gn0 gn1 = A ∧ Wa.genOf wh0 gn0 wh1 gn1 = gen ∧
      ∃ a cap, (if Wa.newest wh0 wh1 gn0 gn1 = 0 then Value.slice a0 n0 cap0 else .slice a1 n1 cap1) = .slice a rs.length cap ∧ Recb w base a rs.length rs := by
  obtain ⟨B, k, hk, hw, hne, hB, hrl, h | h⟩ := hD
  · obtain ⟨rfl, rfl⟩ := h
    obtain ⟨rfl, rfl, rfl, rfl, rfl⟩ := s1.none
    obtain ⟨j, hj, m⟩ := s0
    obtain rfl := hj.same hk
    dsimp only at m
    rw [hw] at m
    obtain ⟨rfl, rfl, rfl, rfl, hrc⟩ := m
    refine ⟨?_, rfl, rfl, a0, cap0, rfl, hrc⟩
    show DS.opens _ 0 true B.length B.length 0 = _
    unfold DS.opens
    simp only [if_true]
    rw [DS.mend0 1000 B.length 0 B.length B [] (Nat.le_refl _) (Nat.le_refl _)]
    simp only [ne_eq, not_true_eq_false, if_false, List.take_length]
    rfl
  · obtain ⟨rfl, rfl⟩ := h
    obtain ⟨rfl, rfl, rfl, rfl, rfl⟩ := s0.none
    obtain ⟨j, hj, m⟩ := s1
    obtain rfl := hj.same hk
    dsimp only at m
    rw [hw] at m
    obtain ⟨rfl, rfl, rfl, rfl, hrc⟩ := m
    refine ⟨?_, rfl, rfl, a1, cap1, rfl, hrc⟩
    show DS.opens _ 1 true B.length B.length 0 = _
    unfold DS.opens
    simp only [if_true]
    rw [DS.mend1 1000 0 B.length B.length [] B (Nat.le_refl _) (Nat.le_refl _)]
    simp only [ne_eq, not_true_eq_false, if_false, List.take_length]
    rfl
end Go.Proofs.YtmlpneiadkngaaaDoor
namespace Go.Proofs.YtmlpneiadkngaaaDoor.Fr

/-- the frames of some records, one behind the other -/
def cat (ps : List (List Nat)) : List Nat := (ps.map put).flatten
/-- where the first i of them end -/
def upTo (ps : List (List Nat)) (i : Nat) : Nat := (cat (ps.take i)).length
/-- records that may be -/
def Fine (ps : List (List Nat)) : Prop := ∀ p ∈ ps, 1 ≤ p.length ∧ p.length ≤ 65535 ∧ ∀ x ∈ p, x < 256

theorem cat_snoc (ps : List (List Nat)) (q : List Nat) : cat (ps ++ [q]) = cat ps ++ put q := by simp [cat]
theorem cat_cons (p : List Nat) (ps : List (List Nat)) : cat (p :: ps) = put p ++ cat ps := by simp [cat]
theorem cat_append (l m : List (List Nat)) : cat (l ++ m) = cat l ++ cat m := by simp [cat]
theorem cat_split (ps : List (List Nat)) (i : Nat) : cat ps = cat (ps.take i) ++ cat (ps.drop i) := by
  rw [← cat_append, List.take_append_drop]
theorem upTo_zero (ps : List (List Nat)) : upTo ps 0 = 0 := by simp [upTo, cat]
theorem upTo_succ (ps : List (List Nat)) (i : Nat) (h : i < ps.length) : upTo ps (i + 1) = upTo ps i + (ps[i].length + 7) := by
  unfold upTo
  rw [List.take_succ_eq_append_getElem h, cat_snoc, List.length_append, put_length]
theorem upTo_all (ps : List (List Nat)) : upTo ps ps.length = (cat ps).length := by unfold upTo; rw [List.take_length]
theorem upTo_snoc (ps : List (List Nat)) (q : List Nat) (i : Nat) (h : i ≤ ps.length) : upTo (ps ++ [q]) i = upTo ps i := by
  unfold upTo
  rw [List.take_append_of_le_length h]
theorem upTo_mono (ps : List (List Nat)) (i j : Nat) (h : i ≤ j) (hj : j ≤ ps.length) : upTo ps i ≤ upTo ps j := by
  induction j with
  | zero => have : i = 0 := by omega
            subst this; exact Nat.le_refl _
  | succ j ih =>
    rcases Nat.lt_or_ge i (j + 1) with h1 | h1
    · have := ih (by omega) (by omega)
      rw [upTo_succ ps j (by omega)]
      omega
    · have : i = j + 1 := by omega
      subst this; exact Nat.le_refl _
theorem drop_cat (ps : List (List Nat)) (i : Nat) : (cat ps).drop (upTo ps i) = cat (ps.drop i) := by
  conv => lhs; rw [cat_split ps i]
  unfold upTo
  rw [List.drop_left]

/-- how many of them are whole -/
theorem whole_count (ps : List (List Nat)) (cut : Nat) : ∃ N, N ≤ ps.length ∧ upTo ps N ≤ cut ∧ (N < ps.length → cut < upTo ps (N + 1)) := by
  have key : ∀ k, k ≤ ps.length → ∃ N, N ≤ k ∧ upTo ps N ≤ cut ∧ (N < k → cut < upTo ps (N + 1)) := by
    intro k
    induction k with
    | zero => intro _; exact ⟨0, Nat.le_refl _, by rw [upTo_zero]; omega, by omega⟩
    | succ k ih =>
      intro hk
      obtain ⟨N, h1, h2, h3⟩ := ih (by omega)
      by_cases hN : N < k
      · exact ⟨N, by omega, h2, fun _ => h3 hN⟩
      · have : N = k := by omega
        subst this
        by_cases h4 : upTo ps (N + 1) ≤ cut
        · exact ⟨N + 1, Nat.le_refl _, h4, by omega⟩
        · exact ⟨N, by omega, h2, fun _ => by omega⟩
  exact key ps.length (Nat.le_refl _)

theorem torn_at (ps : List (List Nat)) (hf : Fine ps) (cut N : Nat) (hN : N ≤ ps.length) (h1 : upTo ps N ≤ cut) :
    ∀ j, j ≤ N → ends ((cat ps).take cut) j = upTo ps j ∧ recs ((cat ps).take cut) j = ps.take j ∧ Good ((cat ps).take cut) j := by
  intro j
  induction j with
  | zero => intro _; exact ⟨by rw [upTo_zero]; rfl, by simp [recs], fun i hi => by omega⟩
  | succ j ih =>
    intro hj
    obtain ⟨he, hr, hg⟩ := ih (by omega)
    have hjl : j < ps.length := by omega
    have hp := hf ps[j] (List.getElem_mem hjl)
    have hup := upTo_succ ps j hjl
    have hmon := upTo_mono ps (j + 1) N hj hN
    have hd : ((cat ps).take cut).drop (upTo ps j) = put ps[j] ++ (cat (ps.drop (j + 1))).take (cut - upTo ps j - (ps[j].length + 7)) := by
      rw [List.drop_take, drop_cat, List.drop_eq_getElem_cons hjl, cat_cons, List.take_append, put_length, List.take_of_length_le (by rw [put_length]; omega)]
    have hc : code (((cat ps).take cut).drop (ends ((cat ps).take cut) j)) = 0 := by
      rw [he, hd]
      exact code_put _ _ hp.1 hp.2.1 hp.2.2
    refine ⟨?_, ?_, ?_⟩
    · simp only [ends]
      rw [he, hd, num_put, hup]
      omega
    · simp only [recs]
      rw [he, hd, rec_put, hr, List.take_succ_eq_append_getElem hjl]
    · intro i hi
      rcases Nat.lt_or_ge i j with h | h
      · exact hg i h
      · have : i = j := by omega
        subst this
        exact hc

theorem torn (ps : List (List Nat)) (hf : Fine ps) (cut N : Nat) (hc : cut ≤ (cat ps).length) (hN : N ≤ ps.length) (h1 : upTo ps N ≤ cut) (h2 : N < ps.length → cut < upTo ps (N + 1)) :
    ends ((cat ps).take cut) N = upTo ps N ∧ recs ((cat ps).take cut) N = ps.take N ∧ Stop ((cat ps).take cut) N ∧ code (((cat ps).take cut).drop (upTo ps N)) = if upTo ps N = cut then 6 else 4 := by
  obtain ⟨he, hr, hg⟩ := torn_at ps hf cut N hN h1 N (Nat.le_refl _)
  have hcode : code (((cat ps).take cut).drop (upTo ps N)) = if upTo ps N = cut then 6 else 4 := by
    rw [List.drop_take, drop_cat]
    by_cases hl : N < ps.length
    · have hp := hf ps[N] (List.getElem_mem hl)
      have hup := upTo_succ ps N hl
      have h3 := h2 hl
      rw [List.drop_eq_getElem_cons hl, cat_cons, code_torn _ _ _ hp.1 (by omega)]
      by_cases h4 : upTo ps N = cut
      · rw [if_pos h4, if_pos (by omega)]
      · rw [if_neg h4, if_neg (by omega)]
    · have hNl : N = ps.length := by omega
      subst hNl
      rw [upTo_all] at h1 ⊢
      have : cut = (cat ps).length := by omega
      rw [if_pos this.symm, List.drop_length]
      simp [cat, code, lcode]
  refine ⟨he, hr, ⟨hg, ?_⟩, hcode⟩
  rw [he, hcode]
  split <;> omega
theorem cat_lt (ps : List (List Nat)) (hf : Fine ps) : ∀ x ∈ cat ps, x < 256 := by
  intro x hx
  simp only [cat, List.mem_flatten, List.mem_map] at hx
  obtain ⟨l, ⟨p, hp, rfl⟩, hx⟩ := hx
  exact put_lt p (hf p hp).2.2 (hf p hp).2.1 x hx
end Go.Proofs.YtmlpneiadkngaaaDoor.Fr
namespace Go.Proofs.YtmlpneiadkngaaaDoor
open Go.RowKit
set_option linter.unusedVariables false

theorem Fr.cat_stop (ps : List (List Nat)) (hf : Fr.Fine ps) : Fr.Stop (Fr.cat ps) ps.length ∧ Fr.recs (Fr.cat ps) ps.length = ps ∧ Fr.ends (Fr.cat ps) ps.length = (Fr.cat ps).length := by
  have h := Fr.torn ps hf (Fr.cat ps).length ps.length (Nat.le_refl _) (Nat.le_refl _) (by rw [Fr.upTo_all]; exact Nat.le_refl _) (fun h => by omega)
  rw [List.take_length] at h
  rw [Fr.upTo_all, List.take_length] at h
  exact ⟨h.2.2.1, h.2.1, h.1⟩

/-- the first generation's head -/
def Wa.hd : List Nat := Wa.head 1 0
theorem Wa.hd_is : Wa.hd = [71, 1, 0] := by kernel_rfl
theorem Wa.cat_hd : Fr.cat [Wa.hd] = Dx1.b0 := by kernel_rfl
/-- records that may be -/
def Wa.May (ps : List (List Nat)) : Prop := ∀ p ∈ ps, 1 ≤ p.length ∧ p.length ≤ 65535 ∧ ∀ x ∈ p, x < 256
theorem Wa.fine {ps : List (List Nat)} (h : Wa.May ps) : Fr.Fine (Wa.hd :: ps) := by
  intro p hp
  rcases List.mem_cons.1 hp with rfl | hp
  · rw [Wa.hd_is]; decide
  · exact h p hp
theorem Wa.whole_cat {ps : List (List Nat)} (h : Wa.May ps) : Fr.Stop (Fr.cat (Wa.hd :: ps)) (ps.length + 1) ∧ Wa.whole (Fr.cat (Wa.hd :: ps)) (ps.length + 1) = some (1, ps, (Fr.cat (Wa.hd :: ps)).length) := by
  obtain ⟨h1, h2, h3⟩ := Fr.cat_stop (Wa.hd :: ps) (Wa.fine h)
  rw [List.length_cons] at h1 h2 h3
  refine ⟨h1, ?_⟩
  unfold Wa.whole
  rw [h2, h3]
  have ho : Wa.opens Wa.hd = some (1, 0) := Wa.opens_head 1 0 (by omega) (by omega)
  simp only [ho, Nat.zero_le, if_true]
/-- a disk with a log of those records -/
def Dl (R : Nat) (ps : List (List Nat)) (s : Nat) : DS := ⟨R, Fr.cat (Wa.hd :: ps), s, [], 0, false, none⟩
theorem Dl.fits (R s : Nat) (ps : List (List Nat)) (p : List Nat) (h : (Fr.cat (Wa.hd :: ps)).length + (p.length + 7) ≤ R) : (Dl R ps s).append (0 : Nat) (Fr.put p) = (0, Dl R (ps ++ [p]) s) := by
  have hl := Fr.put_length p
  unfold DS.append Dl
  rw [if_neg (by simp), if_neg (by simp [DS.free, hl]; omega)]
  have e : Fr.cat (Wa.hd :: (ps ++ [p])) = Fr.cat (Wa.hd :: ps) ++ Fr.put p := by rw [← List.cons_append, Fr.cat_snoc]
  simp [DS.write, DS.sets, DS.get, DS.sure, e]
theorem Dl.full (R s : Nat) (ps : List (List Nat)) (p : List Nat) (h : ¬ (Fr.cat (Wa.hd :: ps)).length + (p.length + 7) ≤ R) : (Dl R ps s).append (0 : Nat) (Fr.put p) = (9, Dl R ps s) := by
  have hl := Fr.put_length p
  unfold DS.append Dl
  rw [if_neg (by simp), if_pos (by simp [DS.free, hl]; omega)]
theorem Dl.syncs (R s : Nat) (ps : List (List Nat)) : (Dl R ps s).sync (0 : Nat) = (0, Dl R ps (Fr.cat (Wa.hd :: ps)).length) := by
  simp [Dl, DS.sync, DS.keep, DS.write, DS.sets, DS.get]
theorem Dl.begins (R : Nat) (hR : 10 ≤ R) : (DS.new R).opened 0 0 false 0 0 0 false 0 = (0, Dl R [] 10) := by
  show DS.opens _ 0 false 0 0 0 = _
  unfold DS.opens
  simp only [Bool.false_eq_true, if_false]
  have h := DS.anew0 R 0 0 [] [] (by simp) (by simpa using hR)
  have h' : (DS.new R).anew ((0 : Nat) : Int) 0 = (0, ⟨R, Dx1.b0, 10, [], 0, false, none⟩) := h
  rw [h']
  simp only [ne_eq, not_true_eq_false, if_false]
  unfold Dl
  rw [Wa.cat_hd]
  rfl
theorem Dl.again (R : Nat) (ps : List (List Nat)) : (Dl R ps (Fr.cat (Wa.hd :: ps)).length).opened (Fr.cat (Wa.hd :: ps)).length (Fr.cat (Wa.hd :: ps)).length true 1 0 0 false 0 = (0, Dl R ps (Fr.cat (Wa.hd :: ps)).length) := by
  unfold Dl
  generalize Fr.cat (Wa.hd :: ps) = B
  show DS.opens _ 0 true B.length B.length 0 = _
  unfold DS.opens
  simp only [if_true]
  rw [DS.mend0 R B.length 0 B.length B [] (Nat.le_refl _) (Nat.le_refl _)]
  simp only [ne_eq, not_true_eq_false, if_false, List.take_length]
  rfl
end Go.Proofs.YtmlpneiadkngaaaDoor
namespace Go.Proofs.YtmlpneiadkngaaaDoor
open Go.RowKit
set_option linter.unusedVariables false

theorem OwnV.fr {S : Nat → Prop} {w w' : World} {base : Nat} {e : TypeId} {v : Value} {xs : List Value} (h : OwnV w base e v xs) (hf : Frm S w w') (hn : ∀ k, v.ownBlock = some k → ¬ S k) : OwnV w' base e v xs := by
  obtain ⟨hl, h⟩ := h
  refine ⟨hl, ?_⟩
  rcases h with h | ⟨g, cap, cur, rfl, hg, hh, hr⟩
  · exact .inl h
  · exact .inr ⟨g, cap, cur, rfl, hg, by rw [hf.block g (heap_lt hh) (hn g rfl)]; exact hh, hr⟩

/-- rows of bytes in a slice of the law's own, none of it in blocks of T -/
def RecT (w : World) (b : Nat) (T : Nat → Prop) (v : Value) (rs : List (List Nat)) : Prop :=
  ∃ vs, OwnV w b 22 v vs ∧ (∀ k, v.ownBlock = some k → ¬ T k) ∧ vs.length = rs.length ∧ ∀ (i : Nat) x r, vs[i]? = some x → rs[i]? = some r → Own w 0 x r ∧ ∀ k, x.ownBlock = some k → ¬ T k
theorem RecT.none (w : World) (b : Nat) (T : Nat → Prop) : RecT w b T (.slice .none 0 0) [] := ⟨[], OwnV.nil _ _ _, by simp [Value.ownBlock], rfl, by simp⟩
theorem RecT.frm {w w' : World} {b : Nat} {T : Nat → Prop} {v : Value} {rs : List (List Nat)} (h : RecT w b T v rs) (hf : Frm T w w') : RecT w' b T v rs := by
  obtain ⟨vs, h1, h2, h3, h4⟩ := h
  exact ⟨vs, h1.fr hf h2, h2, h3, fun i x r hx hr => ⟨(h4 i x r hx hr).1.fr hf (h4 i x r hx hr).2, (h4 i x r hx hr).2⟩⟩
theorem RecT.later {w w' : World} {b : Nat} {T : Nat → Prop} {v : Value} {rs : List (List Nat)} (h : RecT w b T v rs) (hb : Below w.heap.size w w') : RecT w' b T v rs := by
  obtain ⟨vs, h1, h2, h3, h4⟩ := h
  exact ⟨vs, h1.later hb, h2, h3, fun i x r hx hr => ⟨(h4 i x r hx hr).1.later hb, (h4 i x r hx hr).2⟩⟩
theorem RecT.weak {w : World} {b : Nat} {T U : Nat → Prop} {v : Value} {rs : List (List Nat)} (h : RecT w b T v rs) (hU : ∀ k, U k → T k) : RecT w b U v rs := by
  obtain ⟨vs, h1, h2, h3, h4⟩ := h
  exact ⟨vs, h1, fun k hk hu => h2 k hk (hU k hu), h3, fun i x r hx hr => ⟨(h4 i x r hx hr).1, fun k hk hu => (h4 i x r hx hr).2 k hk (hU k hu)⟩⟩
theorem RecT.recv {w : World} {b : Nat} {T : Nat → Prop} {v : Value} {rs : List (List Nat)} (h : RecT w b T v rs) : ∃ a cap, v = .slice a rs.length cap ∧ Recv w a rs.length rs := by
  obtain ⟨vs, h1, h2, h3, h4⟩ := h
  have hr : Recs w v rs := ⟨b, vs, h1, h3, fun i x r hx hr => by obtain ⟨a, n, c, e, hrow, _⟩ := (h4 i x r hx hr).1.slice; exact ⟨a, n, c, e, hrow⟩⟩
  obtain ⟨a, cap, e, _, _, hv⟩ := hr.form
  exact ⟨a, cap, e, hv⟩

/-- a block of another kind is none of the disk's -/
theorem Dk.apart {w : World} {S : Nat → Prop} {g : Nat} {d : DS} (h : Dk w S g d) {k : Nat} {C : Array Value} {e : TypeId} {mk : Nat × Nat} (hk : w.heap[k]? = some (.cells C e mk)) (h5 : e ≠ 5) (h50 : e ≠ 50) : Dk w (fun j => S j ∧ j ≠ k) g d := by
  obtain ⟨a0, n0, c0, a1, n1, c1, hh, h1, h2, h3, h4, h5', h6, h7⟩ := h
  have key : ∀ {v : Value} {bs : List Nat}, Own w 0 v bs → ∀ j, v.ownBlock = some j → j ≠ k := by
    intro v bs ho j hj e1
    obtain ⟨⟨_, ho⟩, _⟩ := ho
    rcases ho with ⟨rfl, _⟩ | ⟨g', cap, cur, rfl, _, hg', _⟩
    · simp [Value.ownBlock] at hj
    · simp only [Value.ownBlock, Option.some.injEq] at hj
      subst hj
      rw [e1, hk] at hg'
      simp only [Option.some.injEq, Obj.cells.injEq] at hg'
      exact h5 hg'.2.1
  have hgk : g ≠ k := by
    intro e1
    rw [e1, hk] at hh
    simp only [Option.some.injEq, Obj.cells.injEq] at hh
    exact h50 hh.2.1
  exact ⟨a0, n0, c0, a1, n1, c1, hh, h1, h2, ⟨h3, hgk⟩, fun j hj => ⟨⟨(h4 j hj).1, key h1 j hj⟩, (h4 j hj).2⟩, fun j hj => ⟨⟨(h5' j hj).1, key h2 j hj⟩, (h5' j hj).2⟩, h6, h7⟩

/-- one record more: what is kept, and outside which blocks -/
theorem RecT.grow {w w' : World} {b : Nat} {T : Nat → Prop} {g gl ar gn : Nat} {d : DS} {v v' x : Value} {rs : List (List Nat)} {p : List Nat} {vs : List Value} {dead : Bool}
    (hv : OwnV w b 22 v vs) (hvT : ∀ k, v.ownBlock = some k → ¬ T k) (hlen : vs.length = rs.length) (hrows : ∀ (i : Nat) y r, vs[i]? = some y → rs[i]? = some r → Own w 0 y r ∧ ∀ k, y.ownBlock = some k → ¬ T k)
    (hx : Own w 0 x p) (hxT : ∀ k, x.ownBlock = some k → ¬ T k) (hD : Dk w T g d) (hL : Lg w gl g ar gn dead)
    (hv' : OwnV w' b 22 v' (vs ++ [x])) (hg : w.grownBy w' v.ownBlock) :
    ∃ T', RecT w' b T' v' (rs ++ [p]) ∧ Dk w' T' g d ∧ Lg w' gl g ar gn dead ∧ (∀ k, T' k → T k) ∧ (∀ k, w'.heap.size ≤ k → T k → T' k) := by
  have hf : Frm (fun k => v.ownBlock = some k) w w' := Frm.of_grown hg _ (fun k hk => hk)
  have hDw : Dk w' T g d := hD.fr hf (fun k _ hk hb => hvT k hb hk)
  have hLv : ¬ v.ownBlock = some gl := by
    intro e
    obtain ⟨_, h⟩ := hv
    rcases h with ⟨rfl, _⟩ | ⟨g', cap, cur, rfl, _, hg', _⟩
    · simp [Value.ownBlock] at e
    · simp only [Value.ownBlock, Option.some.injEq] at e
      unfold Lg at hL
      rw [← e, hg'] at hL
      simp at hL
  have hLw : Lg w' gl g ar gn dead := hL.frm hf hLv
  obtain ⟨kv, cap, e', _, hlt, _⟩ := hv'.form (by simp)
  have hblk : ∃ C, w'.heap[kv]? = some (.cells C 22 (0, 0)) := by
    obtain ⟨_, h⟩ := hv'
    rcases h with ⟨h, _⟩ | ⟨g', cap', cur, h, _, hg', _⟩
    · rw [e'] at h; simp at h
    · rw [e'] at h
      simp only [Value.slice.injEq, Option.some.injEq, Addr.mk.injEq] at h
      rw [h.1.1]
      exact ⟨cur, hg'⟩
  obtain ⟨C, hC⟩ := hblk
  refine ⟨fun k => T k ∧ k ≠ kv, ⟨vs ++ [x], hv', ?_, by simp [hlen], ?_⟩, hDw.apart hC (by decide) (by decide), hLw, fun k hk => hk.1, fun k hk ht => ⟨ht, by omega⟩⟩
  · intro k hk hT
    rw [e'] at hk
    simp only [Value.ownBlock, Option.some.injEq] at hk
    exact hT.2 hk.symm
  · intro i y r hy hr
    rcases snoc_at hy with ⟨hi, hy⟩ | ⟨hi, rfl⟩
    · rcases snoc_at hr with ⟨hi2, hr⟩ | ⟨hi2, rfl⟩
      · obtain ⟨q1, q2⟩ := hrows i y r hy hr
        exact ⟨q1.kept hv hg (by decide), fun k hk ht => q2 k hk ht.1⟩
      · omega
    · rcases snoc_at hr with ⟨hi2, hr⟩ | ⟨hi2, rfl⟩
      · omega
      · exact ⟨hx.kept hv hg (by decide), fun k hk ht => hxT k hk ht.1⟩
/-- a slice of rows of bytes that came in -/
def Rowss (w : World) (a : Option Addr) (len cap : Nat) (A : Nat → Option Addr) (L C : Nat → Nat) (Z : Nat → List Int) : Prop :=
  (a = none ∧ len = 0) ∨ ∃ x, a = some x ∧ len ≤ cap ∧ cap ≤ maxLen ∧ ∀ r, r < cap → w.cell? (x.add r) = some (.slice (A r) (L r) (C r)) ∧ IsRow .u8 w (A r) (L r) (C r) (Z r)
theorem Rowss.none {w : World} : Rowss w none 0 0 (fun _ => Option.none) (fun _ => 0) (fun _ => 0) (fun _ => []) := .inl ⟨rfl, rfl⟩
theorem Rowss.of {w : World} {x : Addr} {len cap : Nat} {A : Nat → Option Addr} {L C : Nat → Nat} {Z : Nat → List Int} {base : Nat} (hl : len ≤ cap) (hm : cap ≤ maxLen)
    (h : ∀ r, r < cap → w.cell? (x.add r) = some (.slice (A r) (L r) (C r)) ∧ L r ≤ C r ∧ C r ≤ maxLen ∧ (Z r).length = C r ∧ (∀ n ∈ Z r, (Lit.int .u8 n).wf = true) ∧ (A r = Option.none → C r = 0) ∧
        ∀ a', A r = some a' → base ≤ a'.block ∧ ∀ c, c < C r → w.cell? (a'.add c) = some (.int .u8 ((Z r).getD c 0))) : Rowss w (some x) len cap A L C Z := by
  refine .inr ⟨x, rfl, hl, hm, fun r hr => ?_⟩
  obtain ⟨h1, h2, h3, h4, h5, h6, h7⟩ := h r hr
  refine ⟨h1, ?_⟩
  cases ha : A r with
  | none =>
    have hc := h6 ha
    left
    exact ⟨rfl, by omega, hc, List.length_eq_zero_iff.1 (by omega)⟩
  | some a' => exact .inr ⟨a', rfl, h2, h3, h4, fun i hi => (h7 a' ha).2 i (by omega), h5⟩
theorem Rowss.at {w : World} {a : Option Addr} {len cap : Nat} {A : Nat → Option Addr} {L C : Nat → Nat} {Z : Nat → List Int} (h : Rowss w a len cap A L C Z) (h0 : 0 < len) :
    ∃ b off, a = some ⟨b, off, Option.none⟩ ∧ len ≤ maxLen ∧ ∀ r, r < len → w.cell? ⟨b, off + r, Option.none⟩ = some (.slice (A r) (L r) (C r)) ∧ IsRow .u8 w (A r) (L r) (C r) (Z r) := by
  rcases h with ⟨_, h⟩ | ⟨⟨b, off, spot⟩, rfl, hl, hm, hr⟩
  · omega
  · have hc := (hr 0 (by omega)).1
    have hspot : spot = Option.none := by simpa [Addr.add] using World.cell?_spot hc
    subst hspot
    refine ⟨b, off, rfl, by omega, fun r hrl => ?_⟩
    have := hr r (by omega)
    rw [Addr.add_lit] at this
    exact this

theorem own_tag {w : World} {b : Nat} {e : TypeId} {v : Value} {n : Nat} {xs : List Value} {gl g ar gn : Nat} {dead : Bool} (h : w.ownsRow b e 1 v n xs) (hL : Lg w gl g ar gn dead) (he : e ≠ 65) : ∀ k, v.ownBlock = some k → k ≠ gl := by
  intro k hk e1
  obtain ⟨_, h⟩ := h
  rcases h with ⟨rfl, _⟩ | ⟨g', cap, cur, rfl, _, hg', _⟩
  · simp [Value.ownBlock] at hk
  · simp only [Value.ownBlock, Option.some.injEq] at hk
    unfold Lg at hL
    rw [← e1, ← hk, hg'] at hL
    simp only [Option.some.injEq, Obj.cells.injEq] at hL
    exact he hL.2.1
theorem RecT.noLog {w : World} {b : Nat} {T : Nat → Prop} {v : Value} {rs : List (List Nat)} {gl g ar gn : Nat} {dead : Bool} (h : RecT w b T v rs) (hL : Lg w gl g ar gn dead) : RecT w b (fun k => T k ∨ k = gl) v rs := by
  obtain ⟨vs, h1, h2, h3, h4⟩ := h
  refine ⟨vs, h1, fun k hk ht => ?_, h3, fun i x r hx hr => ⟨(h4 i x r hx hr).1, fun k hk ht => ?_⟩⟩
  · rcases ht with ht | ht
    · exact h2 k hk ht
    · exact own_tag h1 hL (by decide) k hk ht
  · rcases ht with ht | ht
    · exact (h4 i x r hx hr).2 k hk ht
    · exact own_tag (h4 i x r hx hr).1.1 hL (by decide) k hk ht
end Go.Proofs.YtmlpneiadkngaaaDoor
