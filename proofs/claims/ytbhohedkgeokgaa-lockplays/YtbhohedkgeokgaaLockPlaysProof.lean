/-
  Whatever is taken and freed, a table answers, and says who holds what, as the document does: for all calls, every key and number LockPlays returns true, and its arguments read as before. No conditions.
-/
import Derived.Test.YtbhohedkgeokgaaRows
import Derived.Test.YtbhohedkgeokgaaLkS
import Derived.Test.YtbhohedkgeokgaaLkU
import Derived.WalkKit
import Derived.ProofKit
import Derived.OpenShut
import Derived.ShutString
import Derived.ChangeOld
import Derived.Below
namespace Go.Proofs.Ytbhohedkgeokgaa.lockPlays
open Go.ChangeShapes Go.WideShapes Go.ChangeAt Go.RowKit
open Go.ChangeMaps (open_string shut_string)
set_option linter.unusedSimpArgs false
set_option linter.unusedVariables false

theorem own : ownKnob Try.prog.godebug = none := by kernel_rfl
theorem laidOut : laidOutB Try.prog = true := by kernel_rfl

/-! The law returns true, and writes nothing that was there. -/
set_option maxRecDepth 100000 in
set_option maxHeartbeats 16000000 in
theorem walk (a0 : Option Addr) (len0 cap0 : Nat) (O0 : Nat → Lop) (a1 : ByteArray) (a2 : Int) (w : World) (w0 : Lops w a0 len0 O0) (w1 : a1.size ≤ maxLen) (w2 : (Lit.int .i64 a2).wf = true) :
    Calls Try.prog 3 #[.slice a0 len0 cap0, .string a1, .int .i64 a2] w fun e w' => e = .returned (.bool true) ∧ Below w.heap.size w w' := by
  have HLO : Hid (Lops w a0 len0 O0) := w0
  have hln : len0 ≤ maxLen := w0.1
  unfold maxLen at hln
  clear w0 w1 w2
  go_enter Try.func3, Try.ntmps3
  go_wp2_with fail
  refine (new_any w).mono ?_
  rintro e v2 ⟨rfl, hv⟩
  subst hv
  have HB2 : Hid (Below w.heap.size w ((w.alloc (.cells #[.slice none 0 0, .slice none 0 0, .int .i64 0] 54)).alloc (.cells #[.slice none 0 0, .int .i64 0] 28))) := ((Below.refl _ _).alloc (Nat.le_refl _) _).alloc (by simp) _
  have HBO : Hid (Both ((w.alloc (.cells #[.slice none 0 0, .slice none 0 0, .int .i64 0] 54)).alloc (.cells #[.slice none 0 0, .int .i64 0] 28)) w.heap.size w.heap.size (w.heap.size + 1) 0 [] [] 0) := Both.new w _ (Nat.le_refl _)
  go_wp2
  generalize (w.alloc (.cells #[.slice none 0 0, .slice none 0 0, .int .i64 0] 54)).alloc (.cells #[.slice none 0 0, .int .i64 0] 28) = v3 at *
  go_loopw [20] (fun t wr => ∃ k : Nat, t = .int .i64 (k : Nat) ∧ k ≤ len0 ∧ Hid (Below w.heap.size w wr) ∧ Hid (∃ c G F last, c ≤ k ∧ c ≤ 30 ∧ Both wr w.heap.size w.heap.size (w.heap.size + 1) c G F last)) (fun t _ => len0 - (intOf t).toNat)
  case atStart => exact ⟨0, rfl, by omega, HB2, 0, [], [], 0, by omega, by omega, HBO.out⟩
  case round =>
    clear HB2 HBO
    obtain ⟨k, rfl, hk, HB, HST⟩ := hrel
    by_cases hlt : k < len0
    · obtain ⟨b, off, rfl, hc⟩ := HLO.out.at (by omega)
      obtain ⟨hok, d0, d1, d2, d3, d4, d5⟩ := hc k hlt
      clear hc
      have d0 := (HB.out.cell (World.block_lt_of_cell? _ _ d0)).trans d0
      have d1 := (HB.out.cell (World.block_lt_of_cell? _ _ d1)).trans d1
      have d2 := (HB.out.cell (World.block_lt_of_cell? _ _ d2)).trans d2
      have d3 := (HB.out.cell (World.block_lt_of_cell? _ _ d3)).trans d3
      have d4 := (HB.out.cell (World.block_lt_of_cell? _ _ d4)).trans d4
      have d5 := (HB.out.cell (World.block_lt_of_cell? _ _ d5)).trans d5
      generalize O0 k = x at d0 d1 d2 d3 d4 d5 hok
      obtain ⟨xk, xid, xa, xra, xrn, xrc, xwa, xwn, xwc, xR, xW⟩ := x
      simp only at d0 d1 d2 d3 d4 d5
      have HOK : Hid (Lop.ok w ⟨xk, xid, xa, xra, xrn, xrc, xwa, xwn, xwc, xR, xW⟩) := hok
      clear hok
      by_cases h30 : 30 ≤ k
      · have HBX : Hid (Below w.heap.size w (wr.alloc (.cells #[.int .i64 xk, .int .i64 xid.1, .int .u64 xid.2, .int .i64 xa, .slice xra xrn xrc, .slice xwa xwn xwc] 34))) := HB.out.alloc HB.out.size _
        go_wp2_with fail
        refine (awake_any _).mono ?_
        rintro e w5 ⟨rfl, hb⟩
        have HBF : Hid (Below w.heap.size w w5) := HBX.out.trans (hb.mono HBX.out.size)
        clear hb d0 d1 d2 d3 d4 d5
        go_wp2
        go_ret
        exact ⟨rfl, HBF.out⟩
      have bx : Below wr.heap.size wr (wr.alloc (.cells #[.int .i64 xk, .int .i64 xid.1, .int .u64 xid.2, .int .i64 xa, .slice xra xrn xrc, .slice xwa xwn xwc] 34)) := (Below.refl _ _).alloc (Nat.le_refl _) _
      have HBX : Hid (Below w.heap.size w (wr.alloc (.cells #[.int .i64 xk, .int .i64 xid.1, .int .u64 xid.2, .int .i64 xa, .slice xra xrn xrc, .slice xwa xwn xwc] 34))) := HB.out.trans (bx.mono HB.out.size)
      have HXX : Hid ((wr.alloc (.cells #[.int .i64 xk, .int .i64 xid.1, .int .u64 xid.2, .int .i64 xa, .slice xra xrn xrc, .slice xwa xwn xwc] 34)).heap[wr.heap.size]? = some (.cells #[.int .i64 xk, .int .i64 xid.1, .int .u64 xid.2, .int .i64 xa, .slice xra xrn xrc, .slice xwa xwn xwc] 34)) := heap_alloc_new wr _
      obtain ⟨c, G, F, last, hck, hc30, hst⟩ := HST.out
      have HSX : Hid (Both (wr.alloc (.cells #[.int .i64 xk, .int .i64 xid.1, .int .u64 xid.2, .int .i64 xa, .slice xra xrn xrc, .slice xwa xwn xwc] 34)) w.heap.size w.heap.size (w.heap.size + 1) c G F last) := hst.later bx
      clear HST hst bx
      go_upto_region 6 with fail
      clear d0 d1 d2 d3 d4 d5
      generalize wr.alloc (.cells #[.int .i64 xk, .int .i64 xid.1, .int .u64 xid.2, .int .i64 xa, .slice xra xrn xrc, .slice xwa xwn xwc] 34) = w1 at *
      have e0 : w1.cell? ⟨wr.heap.size, 0, none⟩ = some (.int .i64 xk) := cell_of_heap HXX.out rfl
      have e1 : w1.cell? ⟨wr.heap.size, 1, none⟩ = some (.int .i64 xid.1) := cell_of_heap HXX.out rfl
      have e2 : w1.cell? ⟨wr.heap.size, 2, none⟩ = some (.int .u64 xid.2) := cell_of_heap HXX.out rfl
      have e3 : w1.cell? ⟨wr.heap.size, 3, none⟩ = some (.int .i64 xa) := cell_of_heap HXX.out rfl
      have e4 : w1.cell? ⟨wr.heap.size, 4, none⟩ = some (.slice xra xrn xrc) := cell_of_heap HXX.out rfl
      have e5 : w1.cell? ⟨wr.heap.size, 5, none⟩ = some (.slice xwa xwn xwc) := cell_of_heap HXX.out rfl
      refine wp_region_noPanic ?_
      refine wp_region_held_drew (S := (fun w' => w'.cell? ⟨wr.heap.size, 0, none⟩ = some (.int .i64 xk) ∧ w'.cell? ⟨wr.heap.size, 1, none⟩ = some (.int .i64 xid.1) ∧ w'.cell? ⟨wr.heap.size, 2, none⟩ = some (.int .u64 xid.2) ∧ w'.cell? ⟨wr.heap.size, 3, none⟩ = some (.int .i64 xa) ∧ w'.cell? ⟨wr.heap.size, 4, none⟩ = some (.slice xra xrn xrc) ∧ w'.cell? ⟨wr.heap.size, 5, none⟩ = some (.slice xwa xwn xwc))) (by kernel_rfl) ?_ (fun hHeld => ?_)
      · exact ⟨e0, e1, e2, e3, e4, e5⟩
      refine held_take (i := 0) (d := 27) (v := ?_) rfl rfl (by kernel_rfl) (by kernel_rfl) (by kernel_rfl) (fun _ _ _ h => h) (Or.inl ⟨by rfl, ?_⟩) hHeld ?_
      rotate_left
      · (intro w hSw; (try dsimp only at hSw); go_simp; all_goals (with_reducible rfl))
      try simp only [Act.put, List.setIfInBounds_toArray, List.set_cons_zero, List.set_cons_succ]
      refine held_take (i := 1) (d := 28) (v := ?_) rfl rfl (by kernel_rfl) (by kernel_rfl) (by kernel_rfl) (fun _ _ _ h => h) (Or.inl ⟨by rfl, ?_⟩) hHeld ?_
      rotate_left
      · (intro w hSw; (try dsimp only at hSw); go_simp; all_goals (with_reducible rfl))
      try simp only [Act.put, List.setIfInBounds_toArray, List.set_cons_zero, List.set_cons_succ]
      refine held_take (i := 2) (d := 29) (v := ?_) rfl rfl (by kernel_rfl) (by kernel_rfl) (by kernel_rfl) (fun _ _ _ h => h) (Or.inl ⟨by rfl, ?_⟩) hHeld ?_
      rotate_left
      · (intro w hSw; (try dsimp only at hSw); go_simp; all_goals (with_reducible rfl))
      try simp only [Act.put, List.setIfInBounds_toArray, List.set_cons_zero, List.set_cons_succ]
      have q := step_any w w.heap.size (w.heap.size + 1) c G F last ⟨xk, xid, xa, xra, xrn, xrc, xwa, xwn, xwc, xR, xW⟩ w1.drew HBX.out.drew HOK.out (HSX.out.later (Below.refl _ w1).drew) (by omega)
      refine wpAnyH_ready (rs := [3]) (by kernel_rfl) (by simp) ?_
      refine AllReadyH.cons rfl (fun K hK => ?_) AllReadyH.nil
      go_simp
      refine q.mono ?_
      rintro e w2 ⟨rfl, ⟨G', F', last', hst⟩, hF⟩
      have HS2 : Hid (Both w2 w.heap.size w.heap.size (w.heap.size + 1) (c + 1) G' F' last') := hst
      have HB2 : Hid (Below w.heap.size w w2) := HBX.out.drew.trans (hF.below HBX.out.drew.size)
      have HX2 : Hid (w2.heap[wr.heap.size]? = some (.cells #[.int .i64 xk, .int .i64 xid.1, .int .u64 xid.2, .int .i64 xa, .slice xra xrn xrc, .slice xwa xwn xwc] 34)) := hF.cells (show w1.drew.heap[wr.heap.size]? = some _ from HXX.out) (by simp)
      have k2 : w2.cell? ⟨wr.heap.size, 0, none⟩ = some (.int .i64 xk) ∧ w2.cell? ⟨wr.heap.size, 1, none⟩ = some (.int .i64 xid.1) ∧ w2.cell? ⟨wr.heap.size, 2, none⟩ = some (.int .u64 xid.2) ∧ w2.cell? ⟨wr.heap.size, 3, none⟩ = some (.int .i64 xa) ∧ w2.cell? ⟨wr.heap.size, 4, none⟩ = some (.slice xra xrn xrc) ∧ w2.cell? ⟨wr.heap.size, 5, none⟩ = some (.slice xwa xwn xwc) := ⟨cell_of_heap HX2.out rfl, cell_of_heap HX2.out rfl, cell_of_heap HX2.out rfl, cell_of_heap HX2.out rfl, cell_of_heap HX2.out rfl, cell_of_heap HX2.out rfl⟩
      go_wp2_with fail
      refine hK.out _ _ ?_ (fun hHeld => ?_)
      · exact k2
      clear hK K
      try simp only [Act.put, List.setIfInBounds_toArray, List.set_cons_zero, List.set_cons_succ]
      clear q hst hF k2 HXX HSX
      have h1 : (heldG G').length ≤ 1000 := by have := heldG_length G'; have := HS2.out.lenG; omega
      have h3 : (rowsG G').length ≤ 100000 := by have := HS2.out.lenR; omega
      refine held_take (i := 4) (d := 31) (v := ?_) rfl rfl (by kernel_rfl) (by kernel_rfl) (by kernel_rfl) (fun _ _ _ h => h) (Or.inl ⟨by rfl, ?_⟩) hHeld ?_
      rotate_left
      · (intro w hSw; (try dsimp only at hSw); go_simp; all_goals (with_reducible rfl))
      try simp only [Act.put, List.setIfInBounds_toArray, List.set_cons_zero, List.set_cons_succ]
      refine held_take (i := 5) (d := 32) (v := ?_) rfl rfl (by kernel_rfl) (by kernel_rfl) (by kernel_rfl) (fun _ _ _ h => h) (Or.inl ⟨by rfl, ?_⟩) hHeld ?_
      rotate_left
      · (intro w hSw; (try dsimp only at hSw); go_simp; all_goals (with_reducible rfl))
      try simp only [Act.put, List.setIfInBounds_toArray, List.set_cons_zero, List.set_cons_succ]
      refine held_take (i := 6) (d := 33) (v := ?_) rfl rfl (by kernel_rfl) (by kernel_rfl) (by kernel_rfl) (fun _ _ _ h => h) (Or.inl ⟨by rfl, ?_⟩) hHeld ?_
      rotate_left
      · (intro w hSw; (try dsimp only at hSw); go_simp; all_goals (with_reducible rfl))
      try simp only [Act.put, List.setIfInBounds_toArray, List.set_cons_zero, List.set_cons_succ]
      refine held_take (i := 7) (d := 34) (v := ?_) rfl rfl (by kernel_rfl) (by kernel_rfl) (by kernel_rfl) (fun _ _ _ h => h) (Or.inl ⟨by rfl, ?_⟩) hHeld ?_
      rotate_left
      · (intro w hSw; (try dsimp only at hSw); go_simp; all_goals (with_reducible rfl))
      try simp only [Act.put, List.setIfInBounds_toArray, List.set_cons_zero, List.set_cons_succ]
      refine held_take (i := 8) (d := 35) (v := ?_) rfl rfl (by kernel_rfl) (by kernel_rfl) (by kernel_rfl) (fun _ _ _ h => h) (Or.inl ⟨by rfl, ?_⟩) hHeld ?_
      rotate_left
      · (intro w hSw; (try dsimp only at hSw); go_simp; all_goals (with_reducible rfl))
      try simp only [Act.put, List.setIfInBounds_toArray, List.set_cons_zero, List.set_cons_succ]
      refine held_take (i := 10) (d := 37) (v := ?_) rfl rfl (by kernel_rfl) (by kernel_rfl) (by kernel_rfl) (fun _ _ _ h => h) (Or.inl ⟨by rfl, ?_⟩) hHeld ?_
      rotate_left
      · (intro w hSw; (try dsimp only at hSw); go_simp; all_goals (with_reducible rfl))
      try simp only [Act.put, List.setIfInBounds_toArray, List.set_cons_zero, List.set_cons_succ]
      refine held_take (i := 11) (d := 38) (v := ?_) rfl rfl (by kernel_rfl) (by kernel_rfl) (by kernel_rfl) (fun _ _ _ h => h) (Or.inl ⟨by rfl, ?_⟩) hHeld ?_
      rotate_left
      · (intro w hSw; (try dsimp only at hSw); go_simp; all_goals (with_reducible rfl))
      try simp only [Act.put, List.setIfInBounds_toArray, List.set_cons_zero, List.set_cons_succ]
      refine held_take (i := 12) (d := 39) (v := ?_) rfl rfl (by kernel_rfl) (by kernel_rfl) (by kernel_rfl) (fun _ _ _ h => h) (Or.inl ⟨by rfl, ?_⟩) hHeld ?_
      rotate_left
      · (intro w hSw; (try dsimp only at hSw); go_simp; all_goals (with_reducible rfl))
      try simp only [Act.put, List.setIfInBounds_toArray, List.set_cons_zero, List.set_cons_succ]
      have q := holds_any w.heap.size w.heap.size (heldG G') F' last' xid w2 HS2.out.t h1
      refine wpAnyH_ready (rs := [9]) (by kernel_rfl) (by simp) ?_
      refine AllReadyH.cons rfl (fun K hK => ?_) AllReadyH.nil
      go_simp
      refine q.mono ?_
      rintro e w3 ⟨rfl, hb⟩
      have HS3 : Hid (Both w3 w.heap.size w.heap.size (w.heap.size + 1) (c + 1) G' F' last') := HS2.out.later hb
      have HB3 : Hid (Below w.heap.size w w3) := HB2.out.trans (hb.mono HB2.out.size)
      have HX3 : Hid (w3.heap[wr.heap.size]? = some (.cells #[.int .i64 xk, .int .i64 xid.1, .int .u64 xid.2, .int .i64 xa, .slice xra xrn xrc, .slice xwa xwn xwc] 34)) := (hb.block _ (Array.getElem?_eq_some_iff.1 HX2.out).1).trans HX2.out
      have k3 : w3.cell? ⟨wr.heap.size, 0, none⟩ = some (.int .i64 xk) ∧ w3.cell? ⟨wr.heap.size, 1, none⟩ = some (.int .i64 xid.1) ∧ w3.cell? ⟨wr.heap.size, 2, none⟩ = some (.int .u64 xid.2) ∧ w3.cell? ⟨wr.heap.size, 3, none⟩ = some (.int .i64 xa) ∧ w3.cell? ⟨wr.heap.size, 4, none⟩ = some (.slice xra xrn xrc) ∧ w3.cell? ⟨wr.heap.size, 5, none⟩ = some (.slice xwa xwn xwc) := ⟨cell_of_heap HX3.out rfl, cell_of_heap HX3.out rfl, cell_of_heap HX3.out rfl, cell_of_heap HX3.out rfl, cell_of_heap HX3.out rfl, cell_of_heap HX3.out rfl⟩
      go_wp2_with fail
      refine hK.out _ _ ?_ (fun hHeld => ?_)
      · exact k3
      clear hK K
      try simp only [Act.put, List.setIfInBounds_toArray, List.set_cons_zero, List.set_cons_succ]
      clear q hb k3
      have q := rholds_any w.heap.size (w.heap.size + 1) (rowsG G') last' xid w3 HS3.out.r h3
      rw [holds_rows] at q
      refine wpAnyH_ready (rs := [13]) (by kernel_rfl) (by simp) ?_
      refine AllReadyH.cons rfl (fun K hK => ?_) AllReadyH.nil
      go_simp
      refine q.mono ?_
      rintro e w4 ⟨rfl, hb⟩
      have HS4 : Hid (Both w4 w.heap.size w.heap.size (w.heap.size + 1) (c + 1) G' F' last') := HS3.out.later hb
      have HB4 : Hid (Below w.heap.size w w4) := HB3.out.trans (hb.mono HB3.out.size)
      have HX4 : Hid (w4.heap[wr.heap.size]? = some (.cells #[.int .i64 xk, .int .i64 xid.1, .int .u64 xid.2, .int .i64 xa, .slice xra xrn xrc, .slice xwa xwn xwc] 34)) := (hb.block _ (Array.getElem?_eq_some_iff.1 HX3.out).1).trans HX3.out
      have k4 : w4.cell? ⟨wr.heap.size, 0, none⟩ = some (.int .i64 xk) ∧ w4.cell? ⟨wr.heap.size, 1, none⟩ = some (.int .i64 xid.1) ∧ w4.cell? ⟨wr.heap.size, 2, none⟩ = some (.int .u64 xid.2) ∧ w4.cell? ⟨wr.heap.size, 3, none⟩ = some (.int .i64 xa) ∧ w4.cell? ⟨wr.heap.size, 4, none⟩ = some (.slice xra xrn xrc) ∧ w4.cell? ⟨wr.heap.size, 5, none⟩ = some (.slice xwa xwn xwc) := ⟨cell_of_heap HX4.out rfl, cell_of_heap HX4.out rfl, cell_of_heap HX4.out rfl, cell_of_heap HX4.out rfl, cell_of_heap HX4.out rfl, cell_of_heap HX4.out rfl⟩
      go_wp2_with fail
      refine hK.out _ _ ?_ (fun hHeld => ?_)
      · exact k4
      clear hK K
      try simp only [Act.put, List.setIfInBounds_toArray, List.set_cons_zero, List.set_cons_succ]
      clear q hb k4
      generalize holdsS (heldG G') xid = r1
      refine held_take (i := 14) (d := 41) (v := ?_) rfl rfl (by kernel_rfl) (by kernel_rfl) (by kernel_rfl) (fun _ _ _ h => h) (Or.inl ⟨by rfl, ?_⟩) hHeld ?_
      rotate_left
      · (intro w hSw; (try dsimp only at hSw); go_simp; all_goals (with_reducible rfl))
      try simp only [Act.put, List.setIfInBounds_toArray, List.set_cons_zero, List.set_cons_succ]
      refine held_take (i := 15) (d := 42) (v := ?_) rfl rfl (by kernel_rfl) (by kernel_rfl) (by kernel_rfl) (fun _ _ _ h => h) (Or.inl ⟨by rfl, ?_⟩) hHeld ?_
      rotate_left
      · (intro w hSw; (try dsimp only at hSw); go_simp; all_goals (with_reducible rfl))
      try simp only [Act.put, List.setIfInBounds_toArray, List.set_cons_zero, List.set_cons_succ]
      refine held_take (i := 16) (d := 43) (v := ?_) rfl rfl (by kernel_rfl) (by kernel_rfl) (by kernel_rfl) (fun _ _ _ h => h) (Or.inl ⟨by rfl, ?_⟩) hHeld ?_
      rotate_left
      · (intro w hSw; (try dsimp only at hSw); go_simp; all_goals (with_reducible rfl))
      try simp only [Act.put, List.setIfInBounds_toArray, List.set_cons_zero, List.set_cons_succ]
      refine held_take (i := 17) (d := 44) (v := ?_) rfl rfl (by kernel_rfl) (by kernel_rfl) (by kernel_rfl) (fun _ _ _ h => h) (Or.inl ⟨by rfl, ?_⟩) hHeld ?_
      rotate_left
      · (intro w hSw; (try dsimp only at hSw); go_simp; all_goals (with_reducible rfl))
      try simp only [Act.put, List.setIfInBounds_toArray, List.set_cons_zero, List.set_cons_succ]
      refine held_take (i := 18) (d := 45) (v := ?_) rfl rfl (by kernel_rfl) (by kernel_rfl) (by kernel_rfl) (fun _ _ _ h => h) (Or.inl ⟨by rfl, ?_⟩) hHeld ?_
      rotate_left
      · (intro w hSw; (try dsimp only at hSw); go_simp; all_goals (with_reducible rfl))
      try simp only [Act.put, List.setIfInBounds_toArray, List.set_cons_zero, List.set_cons_succ]
      refine held_take (i := 20) (d := 47) (v := ?_) rfl rfl (by kernel_rfl) (by kernel_rfl) (by kernel_rfl) (fun _ _ _ h => h) (Or.inl ⟨by rfl, ?_⟩) hHeld ?_
      rotate_left
      · (intro w hSw; (try dsimp only at hSw); go_simp; all_goals (with_reducible rfl))
      try simp only [Act.put, List.setIfInBounds_toArray, List.set_cons_zero, List.set_cons_succ]
      refine held_take (i := 21) (d := 48) (v := ?_) rfl rfl (by kernel_rfl) (by kernel_rfl) (by kernel_rfl) (fun _ _ _ h => h) (Or.inl ⟨by rfl, ?_⟩) hHeld ?_
      rotate_left
      · (intro w hSw; (try dsimp only at hSw); go_simp; all_goals (with_reducible rfl))
      try simp only [Act.put, List.setIfInBounds_toArray, List.set_cons_zero, List.set_cons_succ]
      have q := busy_any w.heap.size w.heap.size (heldG G') F' last' a1 true w4 HS4.out.t h1
      refine wpAnyH_ready (rs := [19]) (by kernel_rfl) (by simp) ?_
      refine AllReadyH.cons rfl (fun K hK => ?_) AllReadyH.nil
      go_simp
      refine q.mono ?_
      rintro e w5 ⟨rfl, hb⟩
      have HS5 : Hid (Both w5 w.heap.size w.heap.size (w.heap.size + 1) (c + 1) G' F' last') := HS4.out.later hb
      have HB5 : Hid (Below w.heap.size w w5) := HB4.out.trans (hb.mono HB4.out.size)
      have HX5 : Hid (w5.heap[wr.heap.size]? = some (.cells #[.int .i64 xk, .int .i64 xid.1, .int .u64 xid.2, .int .i64 xa, .slice xra xrn xrc, .slice xwa xwn xwc] 34)) := (hb.block _ (Array.getElem?_eq_some_iff.1 HX4.out).1).trans HX4.out
      have k5 : w5.cell? ⟨wr.heap.size, 0, none⟩ = some (.int .i64 xk) ∧ w5.cell? ⟨wr.heap.size, 1, none⟩ = some (.int .i64 xid.1) ∧ w5.cell? ⟨wr.heap.size, 2, none⟩ = some (.int .u64 xid.2) ∧ w5.cell? ⟨wr.heap.size, 3, none⟩ = some (.int .i64 xa) ∧ w5.cell? ⟨wr.heap.size, 4, none⟩ = some (.slice xra xrn xrc) ∧ w5.cell? ⟨wr.heap.size, 5, none⟩ = some (.slice xwa xwn xwc) := ⟨cell_of_heap HX5.out rfl, cell_of_heap HX5.out rfl, cell_of_heap HX5.out rfl, cell_of_heap HX5.out rfl, cell_of_heap HX5.out rfl, cell_of_heap HX5.out rfl⟩
      go_wp2_with fail
      refine hK.out _ _ ?_ (fun hHeld => ?_)
      · exact k5
      clear hK K
      try simp only [Act.put, List.setIfInBounds_toArray, List.set_cons_zero, List.set_cons_succ]
      clear q hb k5
      have q := rbusy_any w.heap.size (w.heap.size + 1) (rowsG G') last' a1 true w5 HS5.out.r h3
      rw [busy_rows G' a1 true last' HS2.out.inv.good] at q
      refine wpAnyH_ready (rs := [22]) (by kernel_rfl) (by simp) ?_
      refine AllReadyH.cons rfl (fun K hK => ?_) AllReadyH.nil
      go_simp
      refine q.mono ?_
      rintro e w6 ⟨rfl, hb⟩
      have HS6 : Hid (Both w6 w.heap.size w.heap.size (w.heap.size + 1) (c + 1) G' F' last') := HS5.out.later hb
      have HB6 : Hid (Below w.heap.size w w6) := HB5.out.trans (hb.mono HB5.out.size)
      have HX6 : Hid (w6.heap[wr.heap.size]? = some (.cells #[.int .i64 xk, .int .i64 xid.1, .int .u64 xid.2, .int .i64 xa, .slice xra xrn xrc, .slice xwa xwn xwc] 34)) := (hb.block _ (Array.getElem?_eq_some_iff.1 HX5.out).1).trans HX5.out
      have k6 : w6.cell? ⟨wr.heap.size, 0, none⟩ = some (.int .i64 xk) ∧ w6.cell? ⟨wr.heap.size, 1, none⟩ = some (.int .i64 xid.1) ∧ w6.cell? ⟨wr.heap.size, 2, none⟩ = some (.int .u64 xid.2) ∧ w6.cell? ⟨wr.heap.size, 3, none⟩ = some (.int .i64 xa) ∧ w6.cell? ⟨wr.heap.size, 4, none⟩ = some (.slice xra xrn xrc) ∧ w6.cell? ⟨wr.heap.size, 5, none⟩ = some (.slice xwa xwn xwc) := ⟨cell_of_heap HX6.out rfl, cell_of_heap HX6.out rfl, cell_of_heap HX6.out rfl, cell_of_heap HX6.out rfl, cell_of_heap HX6.out rfl, cell_of_heap HX6.out rfl⟩
      go_wp2_with fail
      refine hK.out _ _ ?_ (fun hHeld => ?_)
      · exact k6
      clear hK K
      try simp only [Act.put, List.setIfInBounds_toArray, List.set_cons_zero, List.set_cons_succ]
      clear q hb k6
      generalize busyS (heldG G') a1 true = r2
      refine held_take (i := 23) (d := 50) (v := ?_) rfl rfl (by kernel_rfl) (by kernel_rfl) (by kernel_rfl) (fun _ _ _ h => h) (Or.inl ⟨by rfl, ?_⟩) hHeld ?_
      rotate_left
      · (intro w hSw; (try dsimp only at hSw); go_simp; all_goals (with_reducible rfl))
      try simp only [Act.put, List.setIfInBounds_toArray, List.set_cons_zero, List.set_cons_succ]
      refine held_take (i := 24) (d := 51) (v := ?_) rfl rfl (by kernel_rfl) (by kernel_rfl) (by kernel_rfl) (fun _ _ _ h => h) (Or.inl ⟨by rfl, ?_⟩) hHeld ?_
      rotate_left
      · (intro w hSw; (try dsimp only at hSw); go_simp; all_goals (with_reducible rfl))
      try simp only [Act.put, List.setIfInBounds_toArray, List.set_cons_zero, List.set_cons_succ]
      refine held_take (i := 25) (d := 52) (v := ?_) rfl rfl (by kernel_rfl) (by kernel_rfl) (by kernel_rfl) (fun _ _ _ h => h) (Or.inl ⟨by rfl, ?_⟩) hHeld ?_
      rotate_left
      · (intro w hSw; (try dsimp only at hSw); go_simp; all_goals (with_reducible rfl))
      try simp only [Act.put, List.setIfInBounds_toArray, List.set_cons_zero, List.set_cons_succ]
      refine held_take (i := 26) (d := 53) (v := ?_) rfl rfl (by kernel_rfl) (by kernel_rfl) (by kernel_rfl) (fun _ _ _ h => h) (Or.inl ⟨by rfl, ?_⟩) hHeld ?_
      rotate_left
      · (intro w hSw; (try dsimp only at hSw); go_simp; all_goals (with_reducible rfl))
      try simp only [Act.put, List.setIfInBounds_toArray, List.set_cons_zero, List.set_cons_succ]
      refine held_take (i := 27) (d := 54) (v := ?_) rfl rfl (by kernel_rfl) (by kernel_rfl) (by kernel_rfl) (fun _ _ _ h => h) (Or.inl ⟨by rfl, ?_⟩) hHeld ?_
      rotate_left
      · (intro w hSw; (try dsimp only at hSw); go_simp; all_goals (with_reducible rfl))
      try simp only [Act.put, List.setIfInBounds_toArray, List.set_cons_zero, List.set_cons_succ]
      refine held_take (i := 29) (d := 56) (v := ?_) rfl rfl (by kernel_rfl) (by kernel_rfl) (by kernel_rfl) (fun _ _ _ h => h) (Or.inl ⟨by rfl, ?_⟩) hHeld ?_
      rotate_left
      · (intro w hSw; (try dsimp only at hSw); go_simp; all_goals (with_reducible rfl))
      try simp only [Act.put, List.setIfInBounds_toArray, List.set_cons_zero, List.set_cons_succ]
      refine held_take (i := 30) (d := 57) (v := ?_) rfl rfl (by kernel_rfl) (by kernel_rfl) (by kernel_rfl) (fun _ _ _ h => h) (Or.inl ⟨by rfl, ?_⟩) hHeld ?_
      rotate_left
      · (intro w hSw; (try dsimp only at hSw); go_simp; all_goals (with_reducible rfl))
      try simp only [Act.put, List.setIfInBounds_toArray, List.set_cons_zero, List.set_cons_succ]
      have q := busy_any w.heap.size w.heap.size (heldG G') F' last' a1 false w6 HS6.out.t h1
      refine wpAnyH_ready (rs := [28]) (by kernel_rfl) (by simp) ?_
      refine AllReadyH.cons rfl (fun K hK => ?_) AllReadyH.nil
      go_simp
      refine q.mono ?_
      rintro e w7 ⟨rfl, hb⟩
      have HS7 : Hid (Both w7 w.heap.size w.heap.size (w.heap.size + 1) (c + 1) G' F' last') := HS6.out.later hb
      have HB7 : Hid (Below w.heap.size w w7) := HB6.out.trans (hb.mono HB6.out.size)
      have HX7 : Hid (w7.heap[wr.heap.size]? = some (.cells #[.int .i64 xk, .int .i64 xid.1, .int .u64 xid.2, .int .i64 xa, .slice xra xrn xrc, .slice xwa xwn xwc] 34)) := (hb.block _ (Array.getElem?_eq_some_iff.1 HX6.out).1).trans HX6.out
      have k7 : w7.cell? ⟨wr.heap.size, 0, none⟩ = some (.int .i64 xk) ∧ w7.cell? ⟨wr.heap.size, 1, none⟩ = some (.int .i64 xid.1) ∧ w7.cell? ⟨wr.heap.size, 2, none⟩ = some (.int .u64 xid.2) ∧ w7.cell? ⟨wr.heap.size, 3, none⟩ = some (.int .i64 xa) ∧ w7.cell? ⟨wr.heap.size, 4, none⟩ = some (.slice xra xrn xrc) ∧ w7.cell? ⟨wr.heap.size, 5, none⟩ = some (.slice xwa xwn xwc) := ⟨cell_of_heap HX7.out rfl, cell_of_heap HX7.out rfl, cell_of_heap HX7.out rfl, cell_of_heap HX7.out rfl, cell_of_heap HX7.out rfl, cell_of_heap HX7.out rfl⟩
      go_wp2_with fail
      refine hK.out _ _ ?_ (fun hHeld => ?_)
      · exact k7
      clear hK K
      try simp only [Act.put, List.setIfInBounds_toArray, List.set_cons_zero, List.set_cons_succ]
      clear q hb k7
      have q := rbusy_any w.heap.size (w.heap.size + 1) (rowsG G') last' a1 false w7 HS7.out.r h3
      rw [busy_rows G' a1 false last' HS2.out.inv.good] at q
      refine wpAnyH_ready (rs := [31]) (by kernel_rfl) (by simp) ?_
      refine AllReadyH.cons rfl (fun K hK => ?_) AllReadyH.nil
      go_simp
      refine q.mono ?_
      rintro e w8 ⟨rfl, hb⟩
      have HS8 : Hid (Both w8 w.heap.size w.heap.size (w.heap.size + 1) (c + 1) G' F' last') := HS7.out.later hb
      have HB8 : Hid (Below w.heap.size w w8) := HB7.out.trans (hb.mono HB7.out.size)
      have HX8 : Hid (w8.heap[wr.heap.size]? = some (.cells #[.int .i64 xk, .int .i64 xid.1, .int .u64 xid.2, .int .i64 xa, .slice xra xrn xrc, .slice xwa xwn xwc] 34)) := (hb.block _ (Array.getElem?_eq_some_iff.1 HX7.out).1).trans HX7.out
      have k8 : w8.cell? ⟨wr.heap.size, 0, none⟩ = some (.int .i64 xk) ∧ w8.cell? ⟨wr.heap.size, 1, none⟩ = some (.int .i64 xid.1) ∧ w8.cell? ⟨wr.heap.size, 2, none⟩ = some (.int .u64 xid.2) ∧ w8.cell? ⟨wr.heap.size, 3, none⟩ = some (.int .i64 xa) ∧ w8.cell? ⟨wr.heap.size, 4, none⟩ = some (.slice xra xrn xrc) ∧ w8.cell? ⟨wr.heap.size, 5, none⟩ = some (.slice xwa xwn xwc) := ⟨cell_of_heap HX8.out rfl, cell_of_heap HX8.out rfl, cell_of_heap HX8.out rfl, cell_of_heap HX8.out rfl, cell_of_heap HX8.out rfl, cell_of_heap HX8.out rfl⟩
      go_wp2_with fail
      refine hK.out _ _ ?_ (fun hHeld => ?_)
      · exact k8
      clear hK K
      try simp only [Act.put, List.setIfInBounds_toArray, List.set_cons_zero, List.set_cons_succ]
      clear q hb k8
      generalize busyS (heldG G') a1 false = r3
      refine held_take (i := 32) (d := 59) (v := ?_) rfl rfl (by kernel_rfl) (by kernel_rfl) (by kernel_rfl) (fun _ _ _ h => h) (Or.inl ⟨by rfl, ?_⟩) hHeld ?_
      rotate_left
      · (intro w hSw; (try dsimp only at hSw); go_simp; all_goals (with_reducible rfl))
      try simp only [Act.put, List.setIfInBounds_toArray, List.set_cons_zero, List.set_cons_succ]
      refine held_take (i := 33) (d := 60) (v := ?_) rfl rfl (by kernel_rfl) (by kernel_rfl) (by kernel_rfl) (fun _ _ _ h => h) (Or.inl ⟨by rfl, ?_⟩) hHeld ?_
      rotate_left
      · (intro w hSw; (try dsimp only at hSw); go_simp; all_goals (with_reducible rfl))
      try simp only [Act.put, List.setIfInBounds_toArray, List.set_cons_zero, List.set_cons_succ]
      refine held_take (i := 34) (d := 61) (v := ?_) rfl rfl (by kernel_rfl) (by kernel_rfl) (by kernel_rfl) (fun _ _ _ h => h) (Or.inl ⟨by rfl, ?_⟩) hHeld ?_
      rotate_left
      · (intro w hSw; (try dsimp only at hSw); go_simp; all_goals (with_reducible rfl))
      try simp only [Act.put, List.setIfInBounds_toArray, List.set_cons_zero, List.set_cons_succ]
      refine held_take (i := 35) (d := 62) (v := ?_) rfl rfl (by kernel_rfl) (by kernel_rfl) (by kernel_rfl) (fun _ _ _ h => h) (Or.inl ⟨by rfl, ?_⟩) hHeld ?_
      rotate_left
      · (intro w hSw; (try dsimp only at hSw); go_simp; all_goals (with_reducible rfl))
      try simp only [Act.put, List.setIfInBounds_toArray, List.set_cons_zero, List.set_cons_succ]
      refine held_take (i := 37) (d := 64) (v := ?_) rfl rfl (by kernel_rfl) (by kernel_rfl) (by kernel_rfl) (fun _ _ _ h => h) (Or.inl ⟨by rfl, ?_⟩) hHeld ?_
      rotate_left
      · (intro w hSw; (try dsimp only at hSw); go_simp; all_goals (with_reducible rfl))
      try simp only [Act.put, List.setIfInBounds_toArray, List.set_cons_zero, List.set_cons_succ]
      have q := len_any w.heap.size w.heap.size (heldG G') F' last' w8 HS8.out.t
      refine wpAnyH_ready (rs := [36]) (by kernel_rfl) (by simp) ?_
      refine AllReadyH.cons rfl (fun K hK => ?_) AllReadyH.nil
      go_simp
      refine q.mono ?_
      rintro e w9 ⟨rfl, hw⟩
      obtain rfl := hw.symm
      go_wp2_with fail
      refine hK.out _ _ ?_ (fun hHeld => ?_)
      · exact hHeld
      clear hK K
      try simp only [Act.put, List.setIfInBounds_toArray, List.set_cons_zero, List.set_cons_succ]
      clear q
      have q := rlen_any w.heap.size (w.heap.size + 1) (rowsG G') last' w8 HS8.out.r h3
      rw [len_rows G' last' HS2.out.inv.good] at q
      refine wpAnyH_ready (rs := [38]) (by kernel_rfl) (by simp) ?_
      refine AllReadyH.cons rfl (fun K hK => ?_) AllReadyH.nil
      go_simp
      refine q.mono ?_
      rintro e w9 ⟨rfl, hb⟩
      have HS9 : Hid (Both w9 w.heap.size w.heap.size (w.heap.size + 1) (c + 1) G' F' last') := HS8.out.later hb
      have HB9 : Hid (Below w.heap.size w w9) := HB8.out.trans (hb.mono HB8.out.size)
      have HX9 : Hid (w9.heap[wr.heap.size]? = some (.cells #[.int .i64 xk, .int .i64 xid.1, .int .u64 xid.2, .int .i64 xa, .slice xra xrn xrc, .slice xwa xwn xwc] 34)) := (hb.block _ (Array.getElem?_eq_some_iff.1 HX8.out).1).trans HX8.out
      have k9 : w9.cell? ⟨wr.heap.size, 0, none⟩ = some (.int .i64 xk) ∧ w9.cell? ⟨wr.heap.size, 1, none⟩ = some (.int .i64 xid.1) ∧ w9.cell? ⟨wr.heap.size, 2, none⟩ = some (.int .u64 xid.2) ∧ w9.cell? ⟨wr.heap.size, 3, none⟩ = some (.int .i64 xa) ∧ w9.cell? ⟨wr.heap.size, 4, none⟩ = some (.slice xra xrn xrc) ∧ w9.cell? ⟨wr.heap.size, 5, none⟩ = some (.slice xwa xwn xwc) := ⟨cell_of_heap HX9.out rfl, cell_of_heap HX9.out rfl, cell_of_heap HX9.out rfl, cell_of_heap HX9.out rfl, cell_of_heap HX9.out rfl, cell_of_heap HX9.out rfl⟩
      go_wp2_with fail
      refine hK.out _ _ ?_ (fun hHeld => ?_)
      · exact k9
      clear hK K
      try simp only [Act.put, List.setIfInBounds_toArray, List.set_cons_zero, List.set_cons_succ]
      clear q hb k9
      generalize (heldG G').length = r4
      refine held_take (i := 39) (d := 66) (v := ?_) rfl rfl (by kernel_rfl) (by kernel_rfl) (by kernel_rfl) (fun _ _ _ h => h) (Or.inl ⟨by rfl, ?_⟩) hHeld ?_
      rotate_left
      · (intro w hSw; (try dsimp only at hSw); go_simp; all_goals (with_reducible rfl))
      try simp only [Act.put, List.setIfInBounds_toArray, List.set_cons_zero, List.set_cons_succ]
      refine held_take (i := 40) (d := 67) (v := ?_) rfl rfl (by kernel_rfl) (by kernel_rfl) (by kernel_rfl) (fun _ _ _ h => h) (Or.inl ⟨by rfl, ?_⟩) hHeld ?_
      rotate_left
      · (intro w hSw; (try dsimp only at hSw); go_simp; all_goals (with_reducible rfl))
      try simp only [Act.put, List.setIfInBounds_toArray, List.set_cons_zero, List.set_cons_succ]
      refine wpAnyH_done (by kernel_rfl) ?_ _
      refine NoPanic.normal ?_
      have HSq := HS9
      have HBq := HB9
      generalize w9 = wq at *
      have h1000 : (heldG G').length ≤ 1000 := by have := heldG_length G'; have := HS2.out.lenG; omega
      have hF1000 : F'.length ≤ 1000 := by have := HS2.out.lenF; omega
      have hR1000 : (rowsG G').length ≤ 100000 := by have := HS2.out.lenR; omega
      have q := writer_any w.heap.size w.heap.size (heldG G') F' last' a1 a2 wq HSq.out.t h1000 hF1000
      go_wp2_with fail
      refine q.mono ?_
      rintro e y1 ⟨rfl, hb⟩
      have HBy : Hid (Below wq.heap.size wq y1) := hb
      clear q hb
      have q := rwriter_any w.heap.size (w.heap.size + 1) (rowsG G') last' a1 a2 (y1.alloc (.cells #[.int .i64 ((writerS (heldG G' ++ F') a1 a2).getD (0, 0)).1, .int .u64 ((writerS (heldG G' ++ F') a1 a2).getD (0, 0)).2] 31)) (HSq.out.r.later (HBy.out.alloc HBy.out.size _)) hR1000
      rw [writer_rows G' F' last' HSq.out.inv] at q
      have HBz : Hid (Below wq.heap.size wq (y1.alloc (.cells #[.int .i64 ((writerS (heldG G' ++ F') a1 a2).getD (0, 0)).1, .int .u64 ((writerS (heldG G' ++ F') a1 a2).getD (0, 0)).2] 31))) := HBy.out.alloc HBy.out.size _
      have HY : Hid ((y1.alloc (.cells #[.int .i64 ((writerS (heldG G' ++ F') a1 a2).getD (0, 0)).1, .int .u64 ((writerS (heldG G' ++ F') a1 a2).getD (0, 0)).2] 31)).heap[y1.heap.size]? = some (.cells #[.int .i64 ((writerS (heldG G' ++ F') a1 a2).getD (0, 0)).1, .int .u64 ((writerS (heldG G' ++ F') a1 a2).getD (0, 0)).2] 31)) := heap_alloc_new y1 _
      unfold wval at q ⊢
      generalize writerS (heldG G' ++ F') a1 a2 = who at *
      generalize who.getD (0, 0) = wid at *
      generalize who.isSome = wis at *
      go_wp2_with fail
      refine q.mono ?_
      rintro e y2 ⟨rfl, hb⟩
      have HBu : Hid (Below wq.heap.size wq y2) := HBz.out.trans (hb.mono HBz.out.size)
      have HY2 : Hid (y2.heap[y1.heap.size]? = some (.cells #[.int .i64 wid.1, .int .u64 wid.2] 31)) := (hb.block _ (Array.getElem?_eq_some_iff.1 HY.out).1).trans HY.out
      have i0 : y2.cell? ⟨y1.heap.size, 0, none⟩ = some (.int .i64 wid.1) := cell_of_heap HY2.out rfl
      have i1 : y2.cell? ⟨y1.heap.size, 1, none⟩ = some (.int .u64 wid.2) := cell_of_heap HY2.out rfl
      have hne := neq_31 wid wid
      simp only [decide_true, Bool.not_true] at hne
      have hyl : y1.heap.size < y2.heap.size := (Array.getElem?_eq_some_iff.1 HY2.out).1
      have HBv : Hid (Below wq.heap.size wq (y2.alloc (.cells #[.int .i64 wid.1, .int .u64 wid.2] 31))) := HBu.out.alloc HBu.out.size _
      have HBF : Hid (Below w.heap.size w (y2.alloc (.cells #[.int .i64 wid.1, .int .u64 wid.2] 31))) := HBq.out.trans (HBv.out.mono HBq.out.size)
      have HSF : Hid (∃ c G F last, c ≤ k + 1 ∧ c ≤ 30 ∧ Both (y2.alloc (.cells #[.int .i64 wid.1, .int .u64 wid.2] 31)) w.heap.size w.heap.size (w.heap.size + 1) c G F last) := ⟨c + 1, G', F', last', by omega, by omega, HSq.out.later HBv.out⟩
      clear q hb HBy HBz HBu HBv HY HY2 HSq HS2
      cases wis
      · go_wp2
        go_roundw
        case rel => exact ⟨k + 1, by go_num, by omega, HBF, HSF⟩
        case measure => simp [intOf]; omega
      · go_wp2
        go_roundw
        case rel => exact ⟨k + 1, by go_num, by omega, HBF, HSF⟩
        case measure => simp [intOf]; omega
    · go_wp2_with fail
      refine (awake_any wr).mono ?_
      rintro e w5 ⟨rfl, hb⟩
      have HBF : Hid (Below w.heap.size w w5) := HB.out.trans (hb.mono HB.out.size)
      clear hb
      go_wp2
      go_ret
      exact ⟨rfl, HBF.out⟩

/-! From the call to the statement. -/
set_option maxRecDepth 100000 in
theorem lifted (os : Os) (started : os.Started) (H : Type) (enc : TypeId × Value → H) :
    ReturnsInHanded {} Try.checked os 3 .any (Rows.lockPlaysSpec.pre6 enc Try.prog Try.f3 Rows.lockPlaysRow.domain false) (Rows.lockPlaysSpec.post enc Try.prog Try.f3 false true false false) := by
  refine returnsInHanded_of_change (C := Try.checked) own started (by kernel_rfl) Try.func3
    (ChangeSpec.witness6 (enc := enc) (C := Try.checked) false ⟨#[], #[.slice none 0 0, .string ByteArray.empty, .int .i64 0], []⟩ 8 (by kernel_rfl) (by kernel_rfl) (by kernel_rfl) (by kernel_rfl)) ?_
  intro W base args ds gs before hval0 hW hcnd _
  have hval : ∀ (j : Nat) t v, Try.f3.params[j]? = some t → args[j]? = some v → Value.okWide Try.prog W .any base t v := hval0
  have hW' := hW
  obtain ⟨p, q, hA0, hV, rfl, hfz, hnd⟩ := hW
  have hA : DataW.TrodAll enc Try.prog W 0 (fun _ => true) true Try.f3.params.toList args.toList ds p := hA0
  rw [Try.params3] at hA hval
  obtain ⟨v0, vs0, d0, ds0, p0, q0, hargs, rfl, rfl, h0, r0⟩ := trodAll_cons hA
  obtain ⟨v1, vs1, d1, ds1, p1, q1, rfl, rfl, rfl, h1, r1⟩ := trodAll_cons r0
  obtain ⟨v2, vs2, d2, ds2, p2, q2, rfl, rfl, rfl, h2, r2⟩ := trodAll_cons r1
  obtain ⟨rfl, rfl, rfl⟩ := trodAll_nil r2
  obtain rfl : args = #[v0, v1, v2] := by cases args; simp_all
  obtain ⟨rfl, rfl⟩ := trodVars_none hV
  obtain ⟨a0, len0, cap0, rfl⟩ := okWide_slice Try.underlying22 (hval 0 22 v0 rfl rfl)
  have k0 := h0
  have lt0 : ∀ x ∈ p0, x.block < W.heap.size := by obtain ⟨m, hm⟩ := k0; exact DataW.trod_lt m _ _ _ hm
  obtain ⟨O0, w0⟩ := open_lops h0
  obtain ⟨a1, rfl, rfl, rfl, w1⟩ := open_string Try.underlying9 (hval 1 9 v1 rfl rfl) h1
  obtain ⟨a2, rfl, rfl, rfl, w2⟩ := open_int Try.underlying3 (hval 2 3 v2 rfl rfl) h2
  clear hA0 hval0
  refine (walk a0 len0 cap0 O0 a1 a2 W w0 w1 w2).mono fun e W' ⟨he, bel⟩ => ?_
  subst he
  exact ⟨_, rfl, _, _, _, [], _, [], hW', trodAll_mk1 (shut_bool Try.underlying4 _), (trodAll_cons_mk (Below.trod laidOut (by kernel_rfl) (of_decide_eq_true (by kernel_rfl)) k0 bel lt0) (trodAll_cons_mk (shut_string Try.underlying9 w1) (trodAll_cons_mk (shut_int Try.underlying3 w2) trodAll_mk0))), rfl, bel.frame _, fun h => by cases h⟩

theorem over : Rows.lockPlaysRow.holds Try.pinned (OpenSpec.ofChange Rows.lockPlaysSpec) :=
  OpenClaim.holds_of_wide 3 Try.f3 rfl rfl rfl rfl rfl rfl rfl ⟨rfl, rfl, rfl, rfl, rfl⟩ rfl rfl rfl rfl rfl (by kernel_rfl) Try.func3 (by kernel_rfl)
    (of_decide_eq_true (by kernel_rfl)) (by unfold Func.isWrapper; first | (rw [if_pos (by decide +kernel)]; kernel_rfl) | (rw [if_neg (by decide +kernel)]; exact ⟨rfl, rfl⟩))
    (fun os started H enc _ => lifted os started H enc)
end Go.Proofs.Ytbhohedkgeokgaa.lockPlays
namespace Go.Proofs.Ytbhohedkgeokgaa
theorem lockPlays_holds : Rows.LockPlaysSaid := lockPlays.over
#print axioms lockPlays_holds
end Go.Proofs.Ytbhohedkgeokgaa
