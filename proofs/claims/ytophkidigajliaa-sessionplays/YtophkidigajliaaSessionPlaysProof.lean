/-
  SessionPlays (P13.1, P13.2): whatever is opened and done, for all calls and any ID, a table answers, and has, what the document says. No condition.
-/
import Derived.Test.YtophkidigajliaaRows
import Derived.Test.YtophkidigajliaaSeU
import Derived.WalkKit
import Derived.ProofKit
import Derived.OpenShut
import Derived.ShutString
import Derived.ChangeOld
import Derived.Below
namespace Go.Proofs.Ytophkidigajliaa.sessionPlays
open Go.ChangeShapes Go.WideShapes Go.ChangeAt Go.RowKit
open Go.ChangeMaps (open_string shut_string)
set_option linter.unusedSimpArgs false
set_option linter.unusedVariables false

theorem own : ownKnob Try.prog.godebug = none := by kernel_rfl
theorem laidOut : laidOutB Try.prog = true := by kernel_rfl

/-! The law returns true, and writes nothing that was there. -/
set_option maxRecDepth 100000 in
set_option maxHeartbeats 16000000 in
theorem walk (a0 : Option Addr) (len0 cap0 : Nat) (O0 : Nat → Lop) (i1 : Id) (w : World) (w0 : Lops w a0 len0 O0) (w1 : (Lit.int .i64 i1.1).wf = true ∧ (Lit.int .u64 i1.2).wf = true) :
    Calls Try.prog 3 #[.slice a0 len0 cap0, idv i1] w fun e w' => e = .returned (.bool true) ∧ Below w.heap.size w w' := by
  have HLO : Hid (Lops w a0 len0 O0) := w0
  have hln : len0 ≤ maxLen := w0.1
  unfold maxLen at hln
  have HWF : Hid ((Lit.int .i64 i1.1).wf = true ∧ (Lit.int .u64 i1.2).wf = true) := w1
  clear w0 w1
  have hb1 : Below w.heap.size w (w.alloc (.cells #[.int .i64 i1.1, .int .u64 i1.2] 25)) := (Below.refl _ _).alloc (Nat.le_refl _) _
  have hn1 := heap_alloc_new w (.cells #[.int .i64 i1.1, .int .u64 i1.2] 25)
  go_enter Try.func3, Try.ntmps3
  go_wp2_with fail
  generalize hv1 : w.alloc (.cells #[.int .i64 i1.1, .int .u64 i1.2] 25) = v1 at *
  clear hv1
  generalize hpi : w.heap.size = pi at *
  refine (new_any v1).mono ?_
  rintro e v2 ⟨g, bm, rfl, hS, hb, hg, hbm⟩
  have b2 : Below v2.heap.size v2 (v2.alloc (.cells #[.slice none 0 0] 31)) := (Below.refl _ _).alloc (Nat.le_refl _) _
  have HBO : Hid (Bo (v2.alloc (.cells #[.slice none 0 0] 31)) v1.heap.size g bm v2.heap.size []) := ⟨hS.later b2, ⟨hb.size, _, heap_alloc_new v2 _, World.ownsRow_nil _ _ _ _⟩, hbm⟩
  have HB3 : Hid (Below v1.heap.size v1 (v2.alloc (.cells #[.slice none 0 0] 31))) := hb.trans (b2.mono hb.size)
  have HI1 : Hid (v1.heap[pi]? = some (.cells #[.int .i64 i1.1, .int .u64 i1.2] 25)) := hn1
  have HBW : Hid (Below pi w v1) := hb1
  have HPI : Hid (pi ≤ v1.heap.size) := by have := (Array.getElem?_eq_some_iff.1 hn1).1; show pi ≤ v1.heap.size; omega
  clear hS hb b2 hg hbm hn1 hb1
  go_wp2
  generalize hv3 : v2.alloc (.cells #[.slice none 0 0] 31) = v3 at *
  clear hv3
  generalize v2.heap.size = gr at *
  go_loopw [14] (fun t wr => ∃ k : Nat, t = .int .i64 (k : Nat) ∧ k ≤ len0 ∧ Hid (∃ L, L.length ≤ k ∧ L.length ≤ 30 ∧ Bo wr v1.heap.size g bm gr L) ∧ Hid (Below v1.heap.size v1 wr)) (fun t _ => len0 - (intOf t).toNat)
  case atStart => exact ⟨0, rfl, by omega, ⟨[], by simp, by simp, HBO.out⟩, HB3.out⟩
  case round =>
    obtain ⟨k, rfl, hk, HR, HW⟩ := hrel
    obtain ⟨L, hL1, hL2, hS⟩ := HR.out
    have HS : Hid (Bo wr v1.heap.size g bm gr L) := hS
    clear HR hS HBO HB3
    have HWW : Hid (Below pi w wr) := HBW.out.trans (HW.out.mono HPI.out)
    by_cases hlt : k < len0
    · obtain ⟨b, off, rfl, hc⟩ := HLO.out.at (by omega)
      obtain ⟨hok, d0, d1, d2, d3, d4, d5⟩ := hc k hlt
      clear hc
      have hpw : w.heap.size ≤ pi := by omega
      have d0 := ((HWW.out.mono (Nat.le_refl _)).cell (by rw [← hpi]; exact World.block_lt_of_cell? _ _ d0)).trans d0
      have d1 := ((HWW.out.mono (Nat.le_refl _)).cell (by rw [← hpi]; exact World.block_lt_of_cell? _ _ d1)).trans d1
      have d2 := ((HWW.out.mono (Nat.le_refl _)).cell (by rw [← hpi]; exact World.block_lt_of_cell? _ _ d2)).trans d2
      have d3 := ((HWW.out.mono (Nat.le_refl _)).cell (by rw [← hpi]; exact World.block_lt_of_cell? _ _ d3)).trans d3
      have d4 := ((HWW.out.mono (Nat.le_refl _)).cell (by rw [← hpi]; exact World.block_lt_of_cell? _ _ d4)).trans d4
      have d5 := ((HWW.out.mono (Nat.le_refl _)).cell (by rw [← hpi]; exact World.block_lt_of_cell? _ _ d5)).trans d5
      generalize O0 k = x at d0 d1 d2 d3 d4 d5 hok
      obtain ⟨xk, ⟨xc, xs⟩, xa, xcd, xn⟩ := x
      simp only at d0 d1 d2 d3 d4 d5
      have HOK : Hid (Lop.ok ⟨xk, (xc, xs), xa, xcd, xn⟩) := hok
      clear hok
      by_cases h30 : 30 ≤ k
      · have HBX : Hid (Below pi w (wr.alloc (.cells #[.int .i64 xk, .int .i64 xc, .int .u64 xs, .int .i64 xa, .int .i64 xcd, .int .u64 xn] 33))) := HWW.out.alloc (by have := HWW.out.size; omega) _
        clear HS
        go_wp2_with fail
        refine (awake_any _).mono ?_
        rintro e w5 ⟨rfl, hb⟩
        have HBF : Hid (Below pi w w5) := HBX.out.trans (hb.mono (by have := HBX.out.size; omega))
        clear hb d0 d1 d2 d3 d4 d5
        go_wp2
        go_ret
        exact ⟨rfl, by rw [hpi]; exact HBF.out⟩
      have bx : Below wr.heap.size wr (wr.alloc (.cells #[.int .i64 xk, .int .i64 xc, .int .u64 xs, .int .i64 xa, .int .i64 xcd, .int .u64 xn] 33)) := (Below.refl _ _).alloc (Nat.le_refl _) _
      have HWX : Hid (Below v1.heap.size v1 (wr.alloc (.cells #[.int .i64 xk, .int .i64 xc, .int .u64 xs, .int .i64 xa, .int .i64 xcd, .int .u64 xn] 33))) := HW.out.trans (bx.mono HW.out.size)
      have HXX : Hid ((wr.alloc (.cells #[.int .i64 xk, .int .i64 xc, .int .u64 xs, .int .i64 xa, .int .i64 xcd, .int .u64 xn] 33)).heap[wr.heap.size]? = some (.cells #[.int .i64 xk, .int .i64 xc, .int .u64 xs, .int .i64 xa, .int .i64 xcd, .int .u64 xn] 33)) := heap_alloc_new wr _
      have HSX : Hid (Bo (wr.alloc (.cells #[.int .i64 xk, .int .i64 xc, .int .u64 xs, .int .i64 xa, .int .i64 xcd, .int .u64 xn] 33)) v1.heap.size g bm gr L) := HS.out.later bx
      clear bx HS HW
      go_upto_region 6 with fail
      clear d0 d1 d2 d3 d4 d5
      generalize hw1 : wr.alloc (.cells #[.int .i64 xk, .int .i64 xc, .int .u64 xs, .int .i64 xa, .int .i64 xcd, .int .u64 xn] 33) = y1 at *
      clear hw1
      generalize wr.heap.size = px at *
      have hst := stepL_len L ⟨xk, (xc, xs), xa, xcd, xn⟩
      have HIX : Hid (y1.heap[pi]? = some (.cells #[.int .i64 i1.1, .int .u64 i1.2] 25)) := (HWX.out.block pi (by have := HPI.out; have := (Array.getElem?_eq_some_iff.1 HI1.out).1; omega)).trans HI1.out
      refine wp_region_noPanic ?_
      refine wp_region_held_drew (S := (fun w' => w'.cell? ⟨px, 0, none⟩ = some (.int .i64 xk) ∧ w'.cell? ⟨px, 1, none⟩ = some (.int .i64 xc) ∧ w'.cell? ⟨px, 2, none⟩ = some (.int .u64 xs) ∧ w'.cell? ⟨px, 3, none⟩ = some (.int .i64 xa) ∧ w'.cell? ⟨px, 4, none⟩ = some (.int .i64 xcd) ∧ w'.cell? ⟨px, 5, none⟩ = some (.int .u64 xn) ∧ w'.cell? ⟨pi, 0, none⟩ = some (.int .i64 i1.1) ∧ w'.cell? ⟨pi, 1, none⟩ = some (.int .u64 i1.2))) (by kernel_rfl) ?_ (fun hHeld => ?_)
      · exact ⟨cell_of_heap HXX.out rfl, cell_of_heap HXX.out rfl, cell_of_heap HXX.out rfl, cell_of_heap HXX.out rfl, cell_of_heap HXX.out rfl, cell_of_heap HXX.out rfl, cell_of_heap HIX.out rfl, cell_of_heap HIX.out rfl⟩
      refine held_take (i := 0) (d := 21) (v := ?_) rfl rfl (by kernel_rfl) (by kernel_rfl) (by kernel_rfl) (fun _ _ _ h => h) (Or.inl ⟨by rfl, ?_⟩) hHeld ?_
      rotate_left
      · (intro w hSw; (try dsimp only at hSw); go_simp; all_goals (with_reducible rfl))
      try simp only [Act.put, List.setIfInBounds_toArray, List.set_cons_zero, List.set_cons_succ]
      refine held_take (i := 1) (d := 22) (v := ?_) rfl rfl (by kernel_rfl) (by kernel_rfl) (by kernel_rfl) (fun _ _ _ h => h) (Or.inl ⟨by rfl, ?_⟩) hHeld ?_
      rotate_left
      · (intro w hSw; (try dsimp only at hSw); go_simp; all_goals (with_reducible rfl))
      try simp only [Act.put, List.setIfInBounds_toArray, List.set_cons_zero, List.set_cons_succ]
      refine held_take (i := 2) (d := 23) (v := ?_) rfl rfl (by kernel_rfl) (by kernel_rfl) (by kernel_rfl) (fun _ _ _ h => h) (Or.inl ⟨by rfl, ?_⟩) hHeld ?_
      rotate_left
      · (intro w hSw; (try dsimp only at hSw); go_simp; all_goals (with_reducible rfl))
      try simp only [Act.put, List.setIfInBounds_toArray, List.set_cons_zero, List.set_cons_succ]
      refine wpAnyH_ready (rs := [3]) (by kernel_rfl) (by simp) ?_
      refine AllReadyH.cons rfl (fun K hK => ?_) AllReadyH.nil
      go_simp
      have q := step_any v1.heap.size g bm gr L ⟨xk, (xc, xs), xa, xcd, xn⟩ _ (HSX.out.later (Below.refl _ _).drew) HOK.out (by omega) HWX.out.drew.size
      refine q.mono ?_
      clear q
      rintro e y2 ⟨rfl, hB, hb, hK⟩
      generalize stepL L ⟨xk, (xc, xs), xa, xcd, xn⟩ = L2 at *
      have HB2 : Hid (Bo y2 v1.heap.size g bm gr L2) := hB
      have HW2 : Hid (Below v1.heap.size v1 y2) := HWX.out.drew.trans hb
      have HX2 : Hid (y2.heap[px]? = some (.cells #[.int .i64 xk, .int .i64 xc, .int .u64 xs, .int .i64 xa, .int .i64 xcd, .int .u64 xn] 33)) := hK px _ _ (show y1.drew.heap[px]? = _ from HXX.out) (by decide) (by decide)
      have HI2 : Hid (y2.heap[pi]? = some (.cells #[.int .i64 i1.1, .int .u64 i1.2] 25)) := hK pi _ _ (show y1.drew.heap[pi]? = _ from HIX.out) (by decide) (by decide)
      clear hB hb hK HSX HWX HXX HIX
      go_wp2_with fail
      refine hK.out _ _ ?_ (fun hHeld => ?_)
      · exact ⟨cell_of_heap HX2.out rfl, cell_of_heap HX2.out rfl, cell_of_heap HX2.out rfl, cell_of_heap HX2.out rfl, cell_of_heap HX2.out rfl, cell_of_heap HX2.out rfl, cell_of_heap HI2.out rfl, cell_of_heap HI2.out rfl⟩
      clear hK K
      try simp only [Act.put, List.setIfInBounds_toArray, List.set_cons_zero, List.set_cons_succ]
      refine held_take (i := 4) (d := 25) (v := ?_) rfl rfl (by kernel_rfl) (by kernel_rfl) (by kernel_rfl) (fun _ _ _ h => h) (Or.inl ⟨by rfl, ?_⟩) hHeld ?_
      rotate_left
      · (intro w hSw; (try dsimp only at hSw); go_simp; all_goals (with_reducible rfl))
      try simp only [Act.put, List.setIfInBounds_toArray, List.set_cons_zero, List.set_cons_succ]
      refine held_take (i := 5) (d := 26) (v := ?_) rfl rfl (by kernel_rfl) (by kernel_rfl) (by kernel_rfl) (fun _ _ _ h => h) (Or.inl ⟨by rfl, ?_⟩) hHeld ?_
      rotate_left
      · (intro w hSw; (try dsimp only at hSw); go_simp; all_goals (with_reducible rfl))
      try simp only [Act.put, List.setIfInBounds_toArray, List.set_cons_zero, List.set_cons_succ]
      refine held_take (i := 6) (d := 27) (v := ?_) rfl rfl (by kernel_rfl) (by kernel_rfl) (by kernel_rfl) (fun _ _ _ h => h) (Or.inl ⟨by rfl, ?_⟩) hHeld ?_
      rotate_left
      · (intro w hSw; (try dsimp only at hSw); go_simp; all_goals (with_reducible rfl))
      try simp only [Act.put, List.setIfInBounds_toArray, List.set_cons_zero, List.set_cons_succ]
      refine held_take (i := 7) (d := 28) (v := ?_) rfl rfl (by kernel_rfl) (by kernel_rfl) (by kernel_rfl) (fun _ _ _ h => h) (Or.inl ⟨by rfl, ?_⟩) hHeld ?_
      rotate_left
      · (intro w hSw; (try dsimp only at hSw); go_simp; all_goals (with_reducible rfl))
      try simp only [Act.put, List.setIfInBounds_toArray, List.set_cons_zero, List.set_cons_succ]
      refine held_take (i := 8) (d := 29) (v := ?_) rfl rfl (by kernel_rfl) (by kernel_rfl) (by kernel_rfl) (fun _ _ _ h => h) (Or.inl ⟨by rfl, ?_⟩) hHeld ?_
      rotate_left
      · (intro w hSw; (try dsimp only at hSw); go_simp; all_goals (with_reducible rfl))
      try simp only [Act.put, List.setIfInBounds_toArray, List.set_cons_zero, List.set_cons_succ]
      refine held_take (i := 9) (d := 30) (v := ?_) rfl rfl (by kernel_rfl) (by kernel_rfl) (by kernel_rfl) (fun _ _ _ h => h) (Or.inl ⟨by rfl, ?_⟩) hHeld ?_
      rotate_left
      · (intro w hSw; (try dsimp only at hSw); go_simp; all_goals (with_reducible rfl))
      try simp only [Act.put, List.setIfInBounds_toArray, List.set_cons_zero, List.set_cons_succ]
      refine held_take (i := 10) (d := 31) (v := ?_) rfl rfl (by kernel_rfl) (by kernel_rfl) (by kernel_rfl) (fun _ _ _ h => h) (Or.inl ⟨by rfl, ?_⟩) hHeld ?_
      rotate_left
      · (intro w hSw; (try dsimp only at hSw); go_simp; all_goals (with_reducible rfl))
      try simp only [Act.put, List.setIfInBounds_toArray, List.set_cons_zero, List.set_cons_succ]
      refine wpAnyH_ready (rs := [11]) (by kernel_rfl) (by simp) ?_
      refine AllReadyH.cons rfl (fun K hK => ?_) AllReadyH.nil
      go_simp
      have q := like_any v1.heap.size g bm gr L2 xc y2 HB2.out.s HB2.out.r HOK.out.id1 (by omega)
      refine q.mono ?_
      clear q
      rintro e y3 ⟨rfl, hb⟩
      have HB3 : Hid (Bo y3 v1.heap.size g bm gr L2) := HB2.out.later hb
      have HW3 : Hid (Below v1.heap.size v1 y3) := HW2.out.trans (hb.mono HW2.out.size)
      have HX3 : Hid (y3.heap[px]? = some (.cells #[.int .i64 xk, .int .i64 xc, .int .u64 xs, .int .i64 xa, .int .i64 xcd, .int .u64 xn] 33)) := keep_cells hb HX2.out
      have HI3 : Hid (y3.heap[pi]? = some (.cells #[.int .i64 i1.1, .int .u64 i1.2] 25)) := keep_cells hb HI2.out
      clear hb HB2 HW2 HX2 HI2
      go_wp2_with fail
      refine hK.out _ _ ?_ (fun hHeld => ?_)
      · exact ⟨cell_of_heap HX3.out rfl, cell_of_heap HX3.out rfl, cell_of_heap HX3.out rfl, cell_of_heap HX3.out rfl, cell_of_heap HX3.out rfl, cell_of_heap HX3.out rfl, cell_of_heap HI3.out rfl, cell_of_heap HI3.out rfl⟩
      clear hK K
      try simp only [Act.put, List.setIfInBounds_toArray, List.set_cons_zero, List.set_cons_succ]
      refine held_take (i := 12) (d := 33) (v := ?_) rfl rfl (by kernel_rfl) (by kernel_rfl) (by kernel_rfl) (fun _ _ _ h => h) (Or.inl ⟨by rfl, ?_⟩) hHeld ?_
      rotate_left
      · (intro w hSw; (try dsimp only at hSw); go_simp; all_goals (with_reducible rfl))
      try simp only [Act.put, List.setIfInBounds_toArray, List.set_cons_zero, List.set_cons_succ]
      refine held_take (i := 13) (d := 34) (v := ?_) rfl rfl (by kernel_rfl) (by kernel_rfl) (by kernel_rfl) (fun _ _ _ h => h) (Or.inl ⟨by rfl, ?_⟩) hHeld ?_
      rotate_left
      · (intro w hSw; (try dsimp only at hSw); go_simp; all_goals (with_reducible rfl))
      try simp only [Act.put, List.setIfInBounds_toArray, List.set_cons_zero, List.set_cons_succ]
      refine held_take (i := 14) (d := 35) (v := ?_) rfl rfl (by kernel_rfl) (by kernel_rfl) (by kernel_rfl) (fun _ _ _ h => h) (Or.inl ⟨by rfl, ?_⟩) hHeld ?_
      rotate_left
      · (intro w hSw; (try dsimp only at hSw); go_simp; all_goals (with_reducible rfl))
      try simp only [Act.put, List.setIfInBounds_toArray, List.set_cons_zero, List.set_cons_succ]
      refine held_take (i := 15) (d := 36) (v := ?_) rfl rfl (by kernel_rfl) (by kernel_rfl) (by kernel_rfl) (fun _ _ _ h => h) (Or.inl ⟨by rfl, ?_⟩) hHeld ?_
      rotate_left
      · (intro w hSw; (try dsimp only at hSw); go_simp; all_goals (with_reducible rfl))
      try simp only [Act.put, List.setIfInBounds_toArray, List.set_cons_zero, List.set_cons_succ]
      refine held_take (i := 16) (d := 37) (v := ?_) rfl rfl (by kernel_rfl) (by kernel_rfl) (by kernel_rfl) (fun _ _ _ h => h) (Or.inl ⟨by rfl, ?_⟩) hHeld ?_
      rotate_left
      · (intro w hSw; (try dsimp only at hSw); go_simp; all_goals (with_reducible rfl))
      try simp only [Act.put, List.setIfInBounds_toArray, List.set_cons_zero, List.set_cons_succ]
      refine held_take (i := 17) (d := 38) (v := ?_) rfl rfl (by kernel_rfl) (by kernel_rfl) (by kernel_rfl) (fun _ _ _ h => h) (Or.inl ⟨by rfl, ?_⟩) hHeld ?_
      rotate_left
      · (intro w hSw; (try dsimp only at hSw); go_simp; all_goals (with_reducible rfl))
      try simp only [Act.put, List.setIfInBounds_toArray, List.set_cons_zero, List.set_cons_succ]
      refine held_take (i := 18) (d := 39) (v := ?_) rfl rfl (by kernel_rfl) (by kernel_rfl) (by kernel_rfl) (fun _ _ _ h => h) (Or.inl ⟨by rfl, ?_⟩) hHeld ?_
      rotate_left
      · (intro w hSw; (try dsimp only at hSw); go_simp; all_goals (with_reducible rfl))
      try simp only [Act.put, List.setIfInBounds_toArray, List.set_cons_zero, List.set_cons_succ]
      refine wpAnyH_ready (rs := [19]) (by kernel_rfl) (by simp) ?_
      refine AllReadyH.cons rfl (fun K hK => ?_) AllReadyH.nil
      go_simp
      have q := like_any v1.heap.size g bm gr L2 i1.1 y3 HB3.out.s HB3.out.r HWF.out.1 (by omega)
      refine q.mono ?_
      clear q
      rintro e y4 ⟨rfl, hb⟩
      have HB4 : Hid (Bo y4 v1.heap.size g bm gr L2) := HB3.out.later hb
      have HW4 : Hid (Below v1.heap.size v1 y4) := HW3.out.trans (hb.mono HW3.out.size)
      have HX4 : Hid (y4.heap[px]? = some (.cells #[.int .i64 xk, .int .i64 xc, .int .u64 xs, .int .i64 xa, .int .i64 xcd, .int .u64 xn] 33)) := keep_cells hb HX3.out
      have HI4 : Hid (y4.heap[pi]? = some (.cells #[.int .i64 i1.1, .int .u64 i1.2] 25)) := keep_cells hb HI3.out
      clear hb HB3 HW3 HX3 HI3
      go_wp2_with fail
      refine hK.out _ _ ?_ (fun hHeld => ?_)
      · exact ⟨cell_of_heap HX4.out rfl, cell_of_heap HX4.out rfl, cell_of_heap HX4.out rfl, cell_of_heap HX4.out rfl, cell_of_heap HX4.out rfl, cell_of_heap HX4.out rfl, cell_of_heap HI4.out rfl, cell_of_heap HI4.out rfl⟩
      clear hK K
      try simp only [Act.put, List.setIfInBounds_toArray, List.set_cons_zero, List.set_cons_succ]
      refine held_take (i := 20) (d := 41) (v := ?_) rfl rfl (by kernel_rfl) (by kernel_rfl) (by kernel_rfl) (fun _ _ _ h => h) (Or.inl ⟨by rfl, ?_⟩) hHeld ?_
      rotate_left
      · (intro w hSw; (try dsimp only at hSw); go_simp; all_goals (with_reducible rfl))
      try simp only [Act.put, List.setIfInBounds_toArray, List.set_cons_zero, List.set_cons_succ]
      refine held_take (i := 21) (d := 42) (v := ?_) rfl rfl (by kernel_rfl) (by kernel_rfl) (by kernel_rfl) (fun _ _ _ h => h) (Or.inl ⟨by rfl, ?_⟩) hHeld ?_
      rotate_left
      · (intro w hSw; (try dsimp only at hSw); go_simp; all_goals (with_reducible rfl))
      try simp only [Act.put, List.setIfInBounds_toArray, List.set_cons_zero, List.set_cons_succ]
      refine held_take (i := 22) (d := 43) (v := ?_) rfl rfl (by kernel_rfl) (by kernel_rfl) (by kernel_rfl) (fun _ _ _ h => h) (Or.inl ⟨by rfl, ?_⟩) hHeld ?_
      rotate_left
      · (intro w hSw; (try dsimp only at hSw); go_simp; all_goals (with_reducible rfl))
      try simp only [Act.put, List.setIfInBounds_toArray, List.set_cons_zero, List.set_cons_succ]
      refine held_take (i := 23) (d := 44) (v := ?_) rfl rfl (by kernel_rfl) (by kernel_rfl) (by kernel_rfl) (fun _ _ _ h => h) (Or.inl ⟨by rfl, ?_⟩) hHeld ?_
      rotate_left
      · (intro w hSw; (try dsimp only at hSw); go_simp; all_goals (with_reducible rfl))
      try simp only [Act.put, List.setIfInBounds_toArray, List.set_cons_zero, List.set_cons_succ]
      refine held_take (i := 24) (d := 45) (v := ?_) rfl rfl (by kernel_rfl) (by kernel_rfl) (by kernel_rfl) (fun _ _ _ h => h) (Or.inl ⟨by rfl, ?_⟩) hHeld ?_
      rotate_left
      · (intro w hSw; (try dsimp only at hSw); go_simp; all_goals (with_reducible rfl))
      try simp only [Act.put, List.setIfInBounds_toArray, List.set_cons_zero, List.set_cons_succ]
      refine held_take (i := 26) (d := 47) (v := ?_) rfl rfl (by kernel_rfl) (by kernel_rfl) (by kernel_rfl) (fun _ _ _ h => h) (Or.inl ⟨by rfl, ?_⟩) hHeld ?_
      rotate_left
      · (intro w hSw; (try dsimp only at hSw); go_simp; all_goals (with_reducible rfl))
      try simp only [Act.put, List.setIfInBounds_toArray, List.set_cons_zero, List.set_cons_succ]
      refine held_take (i := 27) (d := 48) (v := ?_) rfl rfl (by kernel_rfl) (by kernel_rfl) (by kernel_rfl) (fun _ _ _ h => h) (Or.inl ⟨by rfl, ?_⟩) hHeld ?_
      rotate_left
      · (intro w hSw; (try dsimp only at hSw); go_simp; all_goals (with_reducible rfl))
      try simp only [Act.put, List.setIfInBounds_toArray, List.set_cons_zero, List.set_cons_succ]
      refine wpAnyH_ready (rs := [25]) (by kernel_rfl) (by simp) ?_
      refine AllReadyH.cons rfl (fun K hK => ?_) AllReadyH.nil
      go_simp
      have q := how_any g bm L2 i1 y4 HB4.out.s HWF.out.1
      refine q.mono ?_
      clear q
      rintro e y5 ⟨rfl, hb⟩
      have HB5 : Hid (Bo y5 v1.heap.size g bm gr L2) := HB4.out.later hb
      have HW5 : Hid (Below v1.heap.size v1 y5) := HW4.out.trans (hb.mono HW4.out.size)
      have HX5 : Hid (y5.heap[px]? = some (.cells #[.int .i64 xk, .int .i64 xc, .int .u64 xs, .int .i64 xa, .int .i64 xcd, .int .u64 xn] 33)) := keep_cells hb HX4.out
      have HI5 : Hid (y5.heap[pi]? = some (.cells #[.int .i64 i1.1, .int .u64 i1.2] 25)) := keep_cells hb HI4.out
      clear hb HB4 HW4 HX4 HI4
      go_wp2_with fail
      refine hK.out _ _ ?_ (fun hHeld => ?_)
      · exact ⟨cell_of_heap HX5.out rfl, cell_of_heap HX5.out rfl, cell_of_heap HX5.out rfl, cell_of_heap HX5.out rfl, cell_of_heap HX5.out rfl, cell_of_heap HX5.out rfl, cell_of_heap HI5.out rfl, cell_of_heap HI5.out rfl⟩
      clear hK K
      try simp only [Act.put, List.setIfInBounds_toArray, List.set_cons_zero, List.set_cons_succ]
      refine wpAnyH_ready (rs := [28]) (by kernel_rfl) (by simp) ?_
      refine AllReadyH.cons rfl (fun K hK => ?_) AllReadyH.nil
      go_simp
      have q := rhow_any v1.heap.size gr L2 i1 y5 HB5.out.r (by omega)
      refine q.mono ?_
      clear q
      rintro e y6 ⟨rfl, hb⟩
      have HB6 : Hid (Bo y6 v1.heap.size g bm gr L2) := HB5.out.later hb
      have HW6 : Hid (Below v1.heap.size v1 y6) := HW5.out.trans (hb.mono HW5.out.size)
      have HX6 : Hid (y6.heap[px]? = some (.cells #[.int .i64 xk, .int .i64 xc, .int .u64 xs, .int .i64 xa, .int .i64 xcd, .int .u64 xn] 33)) := keep_cells hb HX5.out
      have HI6 : Hid (y6.heap[pi]? = some (.cells #[.int .i64 i1.1, .int .u64 i1.2] 25)) := keep_cells hb HI5.out
      clear hb HB5 HW5 HX5 HI5
      go_wp2_with fail
      refine hK.out _ _ ?_ (fun hHeld => ?_)
      · exact ⟨cell_of_heap HX6.out rfl, cell_of_heap HX6.out rfl, cell_of_heap HX6.out rfl, cell_of_heap HX6.out rfl, cell_of_heap HX6.out rfl, cell_of_heap HX6.out rfl, cell_of_heap HI6.out rfl, cell_of_heap HI6.out rfl⟩
      clear hK K
      try simp only [Act.put, List.setIfInBounds_toArray, List.set_cons_zero, List.set_cons_succ]
      refine held_take (i := 29) (d := 50) (v := ?_) rfl rfl (by kernel_rfl) (by kernel_rfl) (by kernel_rfl) (fun _ _ _ h => h) (Or.inl ⟨by rfl, ?_⟩) hHeld ?_
      rotate_left
      · (intro w hSw; (try dsimp only at hSw); go_simp; all_goals (with_reducible rfl))
      try simp only [Act.put, List.setIfInBounds_toArray, List.set_cons_zero, List.set_cons_succ]
      refine held_take (i := 30) (d := 51) (v := ?_) rfl rfl (by kernel_rfl) (by kernel_rfl) (by kernel_rfl) (fun _ _ _ h => h) (Or.inl ⟨by rfl, ?_⟩) hHeld ?_
      rotate_left
      · (intro w hSw; (try dsimp only at hSw); go_simp; all_goals (with_reducible rfl))
      try simp only [Act.put, List.setIfInBounds_toArray, List.set_cons_zero, List.set_cons_succ]
      refine held_take (i := 31) (d := 52) (v := ?_) rfl rfl (by kernel_rfl) (by kernel_rfl) (by kernel_rfl) (fun _ _ _ h => h) (Or.inl ⟨by rfl, ?_⟩) hHeld ?_
      rotate_left
      · (intro w hSw; (try dsimp only at hSw); go_simp; all_goals (with_reducible rfl))
      try simp only [Act.put, List.setIfInBounds_toArray, List.set_cons_zero, List.set_cons_succ]
      refine held_take (i := 32) (d := 53) (v := ?_) rfl rfl (by kernel_rfl) (by kernel_rfl) (by kernel_rfl) (fun _ _ _ h => h) (Or.inl ⟨by rfl, ?_⟩) hHeld ?_
      rotate_left
      · (intro w hSw; (try dsimp only at hSw); go_simp; all_goals (with_reducible rfl))
      try simp only [Act.put, List.setIfInBounds_toArray, List.set_cons_zero, List.set_cons_succ]
      refine held_take (i := 34) (d := 55) (v := ?_) rfl rfl (by kernel_rfl) (by kernel_rfl) (by kernel_rfl) (fun _ _ _ h => h) (Or.inl ⟨by rfl, ?_⟩) hHeld ?_
      rotate_left
      · (intro w hSw; (try dsimp only at hSw); go_simp; all_goals (with_reducible rfl))
      try simp only [Act.put, List.setIfInBounds_toArray, List.set_cons_zero, List.set_cons_succ]
      refine wpAnyH_ready (rs := [33]) (by kernel_rfl) (by simp) ?_
      refine AllReadyH.cons rfl (fun K hK => ?_) AllReadyH.nil
      go_simp
      have q := len_any g bm L2 y6 HB6.out.s
      refine q.mono ?_
      clear q
      rintro e yq ⟨rfl, hq⟩
      subst yq
      go_wp2_with fail
      refine hK.out _ _ ?_ (fun hHeld => ?_)
      · exact ⟨cell_of_heap HX6.out rfl, cell_of_heap HX6.out rfl, cell_of_heap HX6.out rfl, cell_of_heap HX6.out rfl, cell_of_heap HX6.out rfl, cell_of_heap HX6.out rfl, cell_of_heap HI6.out rfl, cell_of_heap HI6.out rfl⟩
      clear hK K
      try simp only [Act.put, List.setIfInBounds_toArray, List.set_cons_zero, List.set_cons_succ]
      refine wpAnyH_ready (rs := [35]) (by kernel_rfl) (by simp) ?_
      refine AllReadyH.cons rfl (fun K hK => ?_) AllReadyH.nil
      go_simp
      have q := rlen_any v1.heap.size gr L2 y6 HB6.out.r (by omega)
      refine q.mono ?_
      clear q
      rintro e y7 ⟨rfl, hb⟩
      have HB7 : Hid (Bo y7 v1.heap.size g bm gr L2) := HB6.out.later hb
      have HW7 : Hid (Below v1.heap.size v1 y7) := HW6.out.trans (hb.mono HW6.out.size)
      have HX7 : Hid (y7.heap[px]? = some (.cells #[.int .i64 xk, .int .i64 xc, .int .u64 xs, .int .i64 xa, .int .i64 xcd, .int .u64 xn] 33)) := keep_cells hb HX6.out
      have HI7 : Hid (y7.heap[pi]? = some (.cells #[.int .i64 i1.1, .int .u64 i1.2] 25)) := keep_cells hb HI6.out
      clear hb HB6 HW6 HX6 HI6
      go_wp2_with fail
      refine hK.out _ _ ?_ (fun hHeld => ?_)
      · exact ⟨cell_of_heap HX7.out rfl, cell_of_heap HX7.out rfl, cell_of_heap HX7.out rfl, cell_of_heap HX7.out rfl, cell_of_heap HX7.out rfl, cell_of_heap HX7.out rfl, cell_of_heap HI7.out rfl, cell_of_heap HI7.out rfl⟩
      clear hK K
      try simp only [Act.put, List.setIfInBounds_toArray, List.set_cons_zero, List.set_cons_succ]
      refine held_take (i := 36) (d := 57) (v := ?_) rfl rfl (by kernel_rfl) (by kernel_rfl) (by kernel_rfl) (fun _ _ _ h => h) (Or.inl ⟨by rfl, ?_⟩) hHeld ?_
      rotate_left
      · (intro w hSw; (try dsimp only at hSw); go_simp; all_goals (with_reducible rfl))
      try simp only [Act.put, List.setIfInBounds_toArray, List.set_cons_zero, List.set_cons_succ]
      refine held_take (i := 37) (d := 58) (v := ?_) rfl rfl (by kernel_rfl) (by kernel_rfl) (by kernel_rfl) (fun _ _ _ h => h) (Or.inl ⟨by rfl, ?_⟩) hHeld ?_
      rotate_left
      · (intro w hSw; (try dsimp only at hSw); go_simp; all_goals (with_reducible rfl))
      try simp only [Act.put, List.setIfInBounds_toArray, List.set_cons_zero, List.set_cons_succ]
      refine wpAnyH_done (by kernel_rfl) ?_ _
      refine NoPanic.normal ?_
      go_wp2
      go_roundw
      case rel => exact ⟨k + 1, by go_num, by omega, ⟨L2, by omega, by omega, HB7.out⟩, HW7.out⟩
      case measure => simp [intOf]; omega
    · go_wp2_with fail
      refine (awake_any wr).mono ?_
      rintro e w5 ⟨rfl, hb⟩
      have HBF : Hid (Below pi w w5) := HWW.out.trans (hb.mono (by have := HWW.out.size; omega))
      clear hb
      go_wp2
      go_ret
      exact ⟨rfl, by rw [hpi]; exact HBF.out⟩

/-! From the call to the statement. -/
set_option maxRecDepth 100000 in
theorem lifted (os : Os) (started : os.Started) (H : Type) (enc : TypeId × Value → H) :
    ReturnsInHanded {} Try.checked os 3 .any (Rows.sessionPlaysSpec.pre6 enc Try.prog Try.f3 Rows.sessionPlaysRow.domain false) (Rows.sessionPlaysSpec.post enc Try.prog Try.f3 false true false false) := by
  refine returnsInHanded_of_change (C := Try.checked) own started (by kernel_rfl) Try.func3
    (ChangeSpec.witness6 (enc := enc) (C := Try.checked) false ⟨#[], #[.slice none 0 0, .agg #[.int .i64 0, .int .u64 0]], []⟩ 8 (by kernel_rfl) (by kernel_rfl) (by kernel_rfl) (by kernel_rfl)) ?_
  intro W base args ds gs before hval0 hW hcnd _
  have hval : ∀ (j : Nat) t v, Try.f3.params[j]? = some t → args[j]? = some v → Value.okWide Try.prog W .any base t v := hval0
  have hW' := hW
  obtain ⟨p, q, hA0, hV, rfl, hfz, hnd⟩ := hW
  have hA : DataW.TrodAll enc Try.prog W 0 (fun _ => true) true Try.f3.params.toList args.toList ds p := hA0
  rw [Try.params3] at hA hval
  obtain ⟨v0, vs0, d0, ds0, p0, q0, hargs, rfl, rfl, h0, r0⟩ := trodAll_cons hA
  obtain ⟨v1, vs1, d1, ds1, p1, q1, rfl, rfl, rfl, h1, r1⟩ := trodAll_cons r0
  obtain ⟨rfl, rfl, rfl⟩ := trodAll_nil r1
  obtain rfl : args = #[v0, v1] := by cases args; simp_all
  obtain ⟨rfl, rfl⟩ := trodVars_none hV
  obtain ⟨a0, len0, cap0, rfl⟩ := okWide_slice Try.underlying22 (hval 0 22 v0 rfl rfl)
  have k0 := h0
  have lt0 : ∀ x ∈ p0, x.block < W.heap.size := by obtain ⟨m, hm⟩ := k0; exact DataW.trod_lt m _ _ _ hm
  obtain ⟨O0, w0⟩ := open_lops h0
  have k1 := h1
  have lt1 : ∀ x ∈ p1, x.block < W.heap.size := by obtain ⟨m, hm⟩ := k1; exact DataW.trod_lt m _ _ _ hm
  obtain ⟨i1, rfl, w1⟩ := open_id (hval 1 25 v1 rfl rfl) h1
  clear hA0 hval0
  refine (walk a0 len0 cap0 O0 i1 W w0 w1).mono fun e W' ⟨he, bel⟩ => ?_
  subst he
  exact ⟨_, rfl, _, _, _, [], _, [], hW', trodAll_mk1 (shut_bool Try.underlying4 _), (trodAll_cons_mk (Below.trod laidOut (by kernel_rfl) (of_decide_eq_true (by kernel_rfl)) k0 bel lt0) (trodAll_cons_mk (Below.trod laidOut (by kernel_rfl) (of_decide_eq_true (by kernel_rfl)) k1 bel lt1) trodAll_mk0)), rfl, bel.frame _, fun h => by cases h⟩

theorem over : Rows.sessionPlaysRow.holds Try.pinned (OpenSpec.ofChange Rows.sessionPlaysSpec) :=
  OpenClaim.holds_of_wide 3 Try.f3 rfl rfl rfl rfl rfl rfl rfl ⟨rfl, rfl, rfl, rfl, rfl⟩ rfl rfl rfl rfl rfl (by kernel_rfl) Try.func3 (by kernel_rfl)
    (of_decide_eq_true (by kernel_rfl)) (by unfold Func.isWrapper; first | (rw [if_pos (by decide +kernel)]; kernel_rfl) | (rw [if_neg (by decide +kernel)]; exact ⟨rfl, rfl⟩))
    (fun os started H enc _ => lifted os started H enc)
end Go.Proofs.Ytophkidigajliaa.sessionPlays
namespace Go.Proofs.Ytophkidigajliaa
theorem sessionPlays_holds : Rows.SessionPlaysSaid := sessionPlays.over
#print axioms sessionPlays_holds
end Go.Proofs.Ytophkidigajliaa
