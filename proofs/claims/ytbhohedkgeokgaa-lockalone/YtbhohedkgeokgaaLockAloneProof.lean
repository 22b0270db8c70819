/-
  Nobody holds a key that somebody else holds to write: for all calls LockAlone returns true, and its argument reads as before. No conditions.
-/
import Derived.Test.YtbhohedkgeokgaaRows
import Derived.Test.YtbhohedkgeokgaaLkV
import Derived.WalkKit
import Derived.ProofKit
import Derived.OpenShut
import Derived.ShutString
import Derived.ChangeOld
import Derived.Below
namespace Go.Proofs.Ytbhohedkgeokgaa.lockAlone
open Go.ChangeShapes Go.WideShapes Go.ChangeAt Go.RowKit
open Go.ChangeMaps (open_string shut_string)
set_option linter.unusedSimpArgs false
set_option linter.unusedVariables false

theorem own : ownKnob Try.prog.godebug = none := by kernel_rfl
theorem laidOut : laidOutB Try.prog = true := by kernel_rfl

/-! The law returns true, and writes nothing that was there. -/
set_option maxRecDepth 100000 in
set_option maxHeartbeats 60000000 in
theorem walk (a0 : Option Addr) (len0 cap0 : Nat) (O0 : Nat → Lop) (w : World) (w0 : Lops w a0 len0 O0) :
    Calls Try.prog 4 #[.slice a0 len0 cap0] w fun e w' => e = .returned (.bool true) ∧ Below w.heap.size w w' := by
  have HLO : Hid (Lops w a0 len0 O0) := w0
  have hln : len0 ≤ maxLen := w0.1
  unfold maxLen at hln
  clear w0
  go_enter Try.func4, Try.ntmps4
  go_wp2_with fail
  refine (new_any w).mono ?_
  rintro e v2 ⟨rfl, hv⟩
  subst hv
  have HB2 : Hid (Below w.heap.size w ((w.alloc (.cells #[.slice none 0 0, .slice none 0 0, .int .i64 0] 54)).alloc (.cells #[.slice none 0 0, .int .i64 0] 28))) := ((Below.refl _ _).alloc (Nat.le_refl _) _).alloc (by simp) _
  have HBO : Hid (Alone ((w.alloc (.cells #[.slice none 0 0, .slice none 0 0, .int .i64 0] 54)).alloc (.cells #[.slice none 0 0, .int .i64 0] 28)) w.heap.size w.heap.size (w.heap.size + 1) 0 [] [] 0 0) := Alone.of (Both.new w _ (Nat.le_refl _))
  go_wp2
  generalize (w.alloc (.cells #[.slice none 0 0, .slice none 0 0, .int .i64 0] 54)).alloc (.cells #[.slice none 0 0, .int .i64 0] 28) = v3 at *
  go_loopw [20] (fun t wr => ∃ k : Nat, t = .int .i64 (k : Nat) ∧ k ≤ len0 ∧ Hid (Below w.heap.size w wr) ∧ Hid (∃ c G F last lastR, c ≤ k ∧ c ≤ 25 ∧ Alone wr w.heap.size w.heap.size (w.heap.size + 1) c G F last lastR)) (fun t _ => len0 - (intOf t).toNat)
  case atStart => exact ⟨0, rfl, by omega, HB2, 0, [], [], 0, 0, by omega, by omega, HBO.out⟩
  case round =>
    clear HB2 HBO
    obtain ⟨k, rfl, hk, HB, HST⟩ := hrel
    by_cases hlt : k < len0
    · obtain ⟨b, off, rfl, hc⟩ := HLO.out.at (by omega)
      obtain ⟨hok, d0, d1, d2, d3, d4, d5⟩ := hc k hlt
      clear hc
      have d0 := (HB.out.cell (World.block_lt_of_cell? _ _ d0)).trans d0
      have d1 := (HB.out.cell (World.block_lt_of_cell? _ _ d1)).trans d1
      have d2 := (HB.out.cell (World.block_lt_of_cell? _ _ d2)).trans d2
      have d3 := (HB.out.cell (World.block_lt_of_cell? _ _ d3)).trans d3
      have d4 := (HB.out.cell (World.block_lt_of_cell? _ _ d4)).trans d4
      have d5 := (HB.out.cell (World.block_lt_of_cell? _ _ d5)).trans d5
      generalize O0 k = x at d0 d1 d2 d3 d4 d5 hok
      obtain ⟨xk, xid, xa, xra, xrn, xrc, xwa, xwn, xwc, xR, xW⟩ := x
      simp only at d0 d1 d2 d3 d4 d5
      have HRD : Hid (Strs w xra xrn xR) := hok.rd
      have HWR : Hid (Strs w xwa xwn xW) := hok.wr
      clear hok
      by_cases h25 : 25 ≤ k
      · have HBX : Hid (Below w.heap.size w (wr.alloc (.cells #[.int .i64 xk, .int .i64 xid.1, .int .u64 xid.2, .int .i64 xa, .slice xra xrn xrc, .slice xwa xwn xwc] 34))) := HB.out.alloc HB.out.size _
        go_wp2_with fail
        refine (awake_any _).mono ?_
        rintro e w5 ⟨rfl, hb⟩
        have HBF : Hid (Below w.heap.size w w5) := HBX.out.trans (hb.mono HBX.out.size)
        clear hb d0 d1 d2 d3 d4 d5
        go_wp2
        go_ret
        exact ⟨rfl, HBF.out⟩
      have bx0 : Below wr.heap.size wr (wr.alloc (.cells #[.int .i64 xk, .int .i64 xid.1, .int .u64 xid.2, .int .i64 xa, .slice xra xrn xrc, .slice xwa xwn xwc] 34)) := (Below.refl _ _).alloc (Nat.le_refl _) _
      have HBX : Hid (Below w.heap.size w (wr.alloc (.cells #[.int .i64 xk, .int .i64 xid.1, .int .u64 xid.2, .int .i64 xa, .slice xra xrn xrc, .slice xwa xwn xwc] 34))) := HB.out.trans (bx0.mono HB.out.size)
      have HXX : Hid ((wr.alloc (.cells #[.int .i64 xk, .int .i64 xid.1, .int .u64 xid.2, .int .i64 xa, .slice xra xrn xrc, .slice xwa xwn xwc] 34)).heap[wr.heap.size]? = some (.cells #[.int .i64 xk, .int .i64 xid.1, .int .u64 xid.2, .int .i64 xa, .slice xra xrn xrc, .slice xwa xwn xwc] 34)) := heap_alloc_new wr _
      obtain ⟨c, G, F, last, lastR, hck, hc25, hst⟩ := HST.out
      have HSX : Hid (Alone (wr.alloc (.cells #[.int .i64 xk, .int .i64 xid.1, .int .u64 xid.2, .int .i64 xa, .slice xra xrn xrc, .slice xwa xwn xwc] 34)) w.heap.size w.heap.size (w.heap.size + 1) c G F last lastR) := hst.later bx0
      clear HST hst bx0
      go_upto_region 6 with fail
      clear d0 d1 d2 d3 d4 d5
      generalize wr.alloc (.cells #[.int .i64 xk, .int .i64 xid.1, .int .u64 xid.2, .int .i64 xa, .slice xra xrn xrc, .slice xwa xwn xwc] 34) = w1 at *
      generalize wr.heap.size = bx at *
      have e1 : w1.cell? ⟨bx, 1, none⟩ = some (.int .i64 xid.1) := cell_of_heap HXX.out rfl
      have e2 : w1.cell? ⟨bx, 2, none⟩ = some (.int .u64 xid.2) := cell_of_heap HXX.out rfl
      have e3 : w1.cell? ⟨bx, 3, none⟩ = some (.int .i64 xa) := cell_of_heap HXX.out rfl
      have e4 : w1.cell? ⟨bx, 4, none⟩ = some (.slice xra xrn xrc) := cell_of_heap HXX.out rfl
      have e5 : w1.cell? ⟨bx, 5, none⟩ = some (.slice xwa xwn xwc) := cell_of_heap HXX.out rfl
      refine wp_region_noPanic ?_
      refine wp_region_held_drew (S := (fun w' => w'.cell? ⟨bx, 1, none⟩ = some (.int .i64 xid.1) ∧ w'.cell? ⟨bx, 2, none⟩ = some (.int .u64 xid.2) ∧ w'.cell? ⟨bx, 3, none⟩ = some (.int .i64 xa) ∧ w'.cell? ⟨bx, 4, none⟩ = some (.slice xra xrn xrc) ∧ w'.cell? ⟨bx, 5, none⟩ = some (.slice xwa xwn xwc))) (by kernel_rfl) ?_ (fun hHeld => ?_)
      · exact ⟨e1, e2, e3, e4, e5⟩
      refine held_take (i := 0) (d := 27) (v := ?_) rfl rfl (by kernel_rfl) (by kernel_rfl) (by kernel_rfl) (fun _ _ _ h => h) (Or.inl ⟨by rfl, ?_⟩) hHeld ?_
      rotate_left
      · (intro w hSw; (try dsimp only at hSw); go_simp; all_goals (with_reducible rfl))
      try simp only [Act.put, List.setIfInBounds_toArray, List.set_cons_zero, List.set_cons_succ]
      refine held_take (i := 1) (d := 28) (v := ?_) rfl rfl (by kernel_rfl) (by kernel_rfl) (by kernel_rfl) (fun _ _ _ h => h) (Or.inl ⟨by rfl, ?_⟩) hHeld ?_
      rotate_left
      · (intro w hSw; (try dsimp only at hSw); go_simp; all_goals (with_reducible rfl))
      try simp only [Act.put, List.setIfInBounds_toArray, List.set_cons_zero, List.set_cons_succ]
      refine held_take (i := 2) (d := 29) (v := ?_) rfl rfl (by kernel_rfl) (by kernel_rfl) (by kernel_rfl) (fun _ _ _ h => h) (Or.inl ⟨by rfl, ?_⟩) hHeld ?_
      rotate_left
      · (intro w hSw; (try dsimp only at hSw); go_simp; all_goals (with_reducible rfl))
      try simp only [Act.put, List.setIfInBounds_toArray, List.set_cons_zero, List.set_cons_succ]
      refine held_take (i := 3) (d := 30) (v := ?_) rfl rfl (by kernel_rfl) (by kernel_rfl) (by kernel_rfl) (fun _ _ _ h => h) (Or.inl ⟨by rfl, ?_⟩) hHeld ?_
      rotate_left
      · (intro w hSw; (try dsimp only at hSw); go_simp; all_goals (with_reducible rfl))
      try simp only [Act.put, List.setIfInBounds_toArray, List.set_cons_zero, List.set_cons_succ]
      refine held_take (i := 4) (d := 31) (v := ?_) rfl rfl (by kernel_rfl) (by kernel_rfl) (by kernel_rfl) (fun _ _ _ h => h) (Or.inl ⟨by rfl, ?_⟩) hHeld ?_
      rotate_left
      · (intro w hSw; (try dsimp only at hSw); go_simp; all_goals (with_reducible rfl))
      try simp only [Act.put, List.setIfInBounds_toArray, List.set_cons_zero, List.set_cons_succ]
      refine held_take (i := 5) (d := 32) (v := ?_) rfl rfl (by kernel_rfl) (by kernel_rfl) (by kernel_rfl) (fun _ _ _ h => h) (Or.inl ⟨by rfl, ?_⟩) hHeld ?_
      rotate_left
      · (intro w hSw; (try dsimp only at hSw); go_simp; all_goals (with_reducible rfl))
      try simp only [Act.put, List.setIfInBounds_toArray, List.set_cons_zero, List.set_cons_succ]
      refine held_take (i := 6) (d := 33) (v := ?_) rfl rfl (by kernel_rfl) (by kernel_rfl) (by kernel_rfl) (fun _ _ _ h => h) (Or.inl ⟨by rfl, ?_⟩) hHeld ?_
      rotate_left
      · (intro w hSw; (try dsimp only at hSw); go_simp; all_goals (with_reducible rfl))
      try simp only [Act.put, List.setIfInBounds_toArray, List.set_cons_zero, List.set_cons_succ]
      refine held_take (i := 8) (d := 35) (v := ?_) rfl rfl (by kernel_rfl) (by kernel_rfl) (by kernel_rfl) (fun _ _ _ h => h) (Or.inl ⟨by rfl, ?_⟩) hHeld ?_
      rotate_left
      · (intro w hSw; (try dsimp only at hSw); go_simp; all_goals (with_reducible rfl))
      try simp only [Act.put, List.setIfInBounds_toArray, List.set_cons_zero, List.set_cons_succ]
      refine held_take (i := 9) (d := 36) (v := ?_) rfl rfl (by kernel_rfl) (by kernel_rfl) (by kernel_rfl) (fun _ _ _ h => h) (Or.inl ⟨by rfl, ?_⟩) hHeld ?_
      rotate_left
      · (intro w hSw; (try dsimp only at hSw); go_simp; all_goals (with_reducible rfl))
      try simp only [Act.put, List.setIfInBounds_toArray, List.set_cons_zero, List.set_cons_succ]
      have qf := few_any xra xrn xrc xR w1.drew (HRD.out.later HBX.out.drew)
      refine wpAnyH_ready (rs := [7]) (by kernel_rfl) (by simp) ?_
      refine AllReadyH.cons rfl (fun K hK => ?_) AllReadyH.nil
      go_simp
      refine qf.mono ?_
      rintro e w2 ⟨⟨v2, rfl, hv2⟩, hb2⟩
      have b2 : Below w1.heap.size w1 w2 := (Below.refl _ w1).drew.trans hb2
      obtain ⟨ra2, rc2, rfl, -⟩ := hv2.slice
      have HX2 : Hid (w2.heap[bx]? = some (.cells #[.int .i64 xk, .int .i64 xid.1, .int .u64 xid.2, .int .i64 xa, .slice xra xrn xrc, .slice xwa xwn xwc] 34)) := (b2.block _ (Array.getElem?_eq_some_iff.1 HXX.out).1).trans HXX.out
      have k2 : w2.cell? ⟨bx, 1, none⟩ = some (.int .i64 xid.1) ∧ w2.cell? ⟨bx, 2, none⟩ = some (.int .u64 xid.2) ∧ w2.cell? ⟨bx, 3, none⟩ = some (.int .i64 xa) ∧ w2.cell? ⟨bx, 4, none⟩ = some (.slice xra xrn xrc) ∧ w2.cell? ⟨bx, 5, none⟩ = some (.slice xwa xwn xwc) := ⟨cell_of_heap HX2.out rfl, cell_of_heap HX2.out rfl, cell_of_heap HX2.out rfl, cell_of_heap HX2.out rfl, cell_of_heap HX2.out rfl⟩
      go_wp2_with fail
      refine hK.out _ _ ?_ (fun hHeld => ?_)
      · exact k2
      clear hK K
      try simp only [Act.put, List.setIfInBounds_toArray, List.set_cons_zero, List.set_cons_succ]
      clear qf k2
      have qf := few_any xwa xwn xwc xW w2 (HWR.out.later (HBX.out.trans (b2.mono HBX.out.size)))
      refine wpAnyH_ready (rs := [10]) (by kernel_rfl) (by simp) ?_
      refine AllReadyH.cons rfl (fun K hK => ?_) AllReadyH.nil
      go_simp
      refine qf.mono ?_
      rintro e w3 ⟨⟨v3, rfl, hv3⟩, hb3⟩
      obtain ⟨wa3, wc3, rfl, -⟩ := hv3.slice
      have b13 : Below w1.heap.size w1 w3 := b2.trans (hb3.mono b2.size)
      have HX3 : Hid (w3.heap[bx]? = some (.cells #[.int .i64 xk, .int .i64 xid.1, .int .u64 xid.2, .int .i64 xa, .slice xra xrn xrc, .slice xwa xwn xwc] 34)) := (hb3.block _ (Array.getElem?_eq_some_iff.1 HX2.out).1).trans HX2.out
      have k3 : w3.cell? ⟨bx, 1, none⟩ = some (.int .i64 xid.1) ∧ w3.cell? ⟨bx, 2, none⟩ = some (.int .u64 xid.2) ∧ w3.cell? ⟨bx, 3, none⟩ = some (.int .i64 xa) ∧ w3.cell? ⟨bx, 4, none⟩ = some (.slice xra xrn xrc) ∧ w3.cell? ⟨bx, 5, none⟩ = some (.slice xwa xwn xwc) := ⟨cell_of_heap HX3.out rfl, cell_of_heap HX3.out rfl, cell_of_heap HX3.out rfl, cell_of_heap HX3.out rfl, cell_of_heap HX3.out rfl⟩
      go_wp2_with fail
      refine hK.out _ _ ?_ (fun hHeld => ?_)
      · exact k3
      clear hK K
      try simp only [Act.put, List.setIfInBounds_toArray, List.set_cons_zero, List.set_cons_succ]
      have HA3 : Hid (Alone w3 w.heap.size w.heap.size (w.heap.size + 1) c G F last lastR) := HSX.out.later b13
      have HB3 : Hid (Below w.heap.size w w3) := HBX.out.trans (b13.mono HBX.out.size)
      have hv23 := hv2.later hb3
      have hfr := hv2.few
      have hfw := hv3.few
      clear qf k3
      have qf := take_any w.heap.size w.heap.size (heldG G) F last xid xa _ _ _ _ w3 HA3.out.t hv23 hv3 (by have := heldG_length G; have := HA3.out.lenG; omega) HB3.out.size
      refine wpAnyH_ready (rs := [11]) (by kernel_rfl) (by simp) ?_
      refine AllReadyH.cons rfl (fun K hK => ?_) AllReadyH.nil
      go_simp
      refine qf.mono ?_
      rintro e w4 ⟨rfl, hT4, hF4⟩
      have HX4 : Hid (w4.heap[bx]? = some (.cells #[.int .i64 xk, .int .i64 xid.1, .int .u64 xid.2, .int .i64 xa, .slice xra xrn xrc, .slice xwa xwn xwc] 34)) := hF4.cells HX3.out (by simp)
      have k4 : w4.cell? ⟨bx, 1, none⟩ = some (.int .i64 xid.1) ∧ w4.cell? ⟨bx, 2, none⟩ = some (.int .u64 xid.2) ∧ w4.cell? ⟨bx, 3, none⟩ = some (.int .i64 xa) ∧ w4.cell? ⟨bx, 4, none⟩ = some (.slice xra xrn xrc) ∧ w4.cell? ⟨bx, 5, none⟩ = some (.slice xwa xwn xwc) := ⟨cell_of_heap HX4.out rfl, cell_of_heap HX4.out rfl, cell_of_heap HX4.out rfl, cell_of_heap HX4.out rfl, cell_of_heap HX4.out rfl⟩
      go_wp2_with fail
      refine hK.out _ _ ?_ (fun hHeld => ?_)
      · exact k4
      clear hK K
      try simp only [Act.put, List.setIfInBounds_toArray, List.set_cons_zero, List.set_cons_succ]
      have HTK : Hid (Taken w4 w.heap.size w.heap.size (heldG G) F last xid xa (fewL xrn xR) (fewL xwn xW)) := hT4
      have HF34 : Hid (Fr w.heap.size [54, 58] w3 w4) := hF4
      have HB4 : Hid (Below w.heap.size w w4) := HB3.out.trans (hF4.below HB3.out.size)
      clear qf k4 hT4 hF4 hv2 hv3 hv23 hb2 hb3 b2 b13 HX2 HX3 HXX HSX
      refine held_take (i := 12) (d := 39) (v := ?_) rfl rfl (by kernel_rfl) (by kernel_rfl) (by kernel_rfl) (fun _ _ _ h => h) (Or.inl ⟨by rfl, ?_⟩) hHeld ?_
      rotate_left
      · (intro w hSw; (try dsimp only at hSw); go_simp; all_goals (with_reducible rfl))
      try simp only [Act.put, List.setIfInBounds_toArray, List.set_cons_zero, List.set_cons_succ]
      refine wpAnyH_done (by kernel_rfl) ?_ _
      refine NoPanic.normal ?_
      clear e1 e2 e3 e4 e5
      by_cases ht : takeE (heldG G) last xid xa (fewL xrn xR) (fewL xwn xW) = 0
      · obtain ⟨rv, wv, hT4⟩ := HTK.out.yes ht
        have HT4 : Hid (Tb w4 w.heap.size w.heap.size (heldG G ++ [⟨xid, xa, 0, (fewL xrn xR), (fewL xwn xW), rv, wv⟩]) F xa) := hT4
        have HT0 : Hid (takeE (heldG G) last xid xa (fewL xrn xR) (fewL xwn xW) = 0) := ht
        rw [ht]
        clear ht hT4 HTK
        have hll : (rowsG G).length + 1 ≤ 1000000 := by have := HA3.out.lenR; omega
        have hlen13 : (rowsG G).length ≤ 13 * 25 := by have := HA3.out.lenR; omega
        have HR4 : Hid (Rt w4 w.heap.size (w.heap.size + 1) (rowsG G) lastR) := HA3.out.r.fr HF34.out (by simp) (by simp)
        go_upto_region 7 with fail
        obtain ⟨va, vc, t1, t2, c0, -⟩ := HR4.out.cells
        have HLO : Hid (w.heap.size ≤ w.heap.size + 1) := HR4.out.lo
        have c1 : w4.cell? ⟨bx, 1, none⟩ = some (.int .i64 xid.1) := cell_of_heap HX4.out rfl
        have c2 : w4.cell? ⟨bx, 2, none⟩ = some (.int .u64 xid.2) := cell_of_heap HX4.out rfl
        have c3 : w4.cell? ⟨bx, 3, none⟩ = some (.int .i64 xa) := cell_of_heap HX4.out rfl
        have HG : Hid (w4.heap[w.heap.size + 1]? = some (.cells #[.slice va (rowsG G).length vc, .int .i64 lastR] 28 (0, 0)) ∧ w4.ownsRow w.heap.size 47 6 (.slice va (rowsG G).length vc) (rowsG G).length ((rowsG G).flatMap Rw.cells)) := ⟨t1, t2⟩
        clear t1 t2
        refine wp_region_noPanic ?_
        refine wp_region_lets 14 (fun w' => w'.cell? ⟨w.heap.size + 1, 0, none⟩ = some (.slice va (rowsG G).length vc) ∧ w'.cell? ⟨bx, 1, none⟩ = some (.int .i64 xid.1) ∧ w'.cell? ⟨bx, 2, none⟩ = some (.int .u64 xid.2) ∧ w'.cell? ⟨bx, 3, none⟩ = some (.int .i64 xa)) (by kernel_rfl) ?_ (fun hHeld => ?_)
        · exact ⟨c0, c1, c2, c3⟩
        refine lets_take (i := 0) (d := 40) (v := ?_) rfl rfl (by kernel_rfl) (by kernel_rfl) (by kernel_rfl) (by kernel_rfl) (fun _ _ _ h => h) (Or.inl ⟨by rfl, ?_⟩) hHeld ?_
        rotate_left
        · (intro w hSw; (try dsimp only at hSw); go_simp; all_goals (with_reducible rfl))
        try simp only [Act.put, List.setIfInBounds_toArray, List.set_cons_zero, List.set_cons_succ]
        refine lets_take (i := 1) (d := 41) (v := ?_) rfl rfl (by kernel_rfl) (by kernel_rfl) (by kernel_rfl) (by kernel_rfl) (fun _ _ _ h => h) (Or.inl ⟨by rfl, ?_⟩) hHeld ?_
        rotate_left
        · (intro w hSw; (try dsimp only at hSw); go_simp; all_goals (with_reducible rfl))
        try simp only [Act.put, List.setIfInBounds_toArray, List.set_cons_zero, List.set_cons_succ]
        refine lets_take (i := 2) (d := 42) (v := ?_) rfl rfl (by kernel_rfl) (by kernel_rfl) (by kernel_rfl) (by kernel_rfl) (fun _ _ _ h => h) (Or.inl ⟨by rfl, ?_⟩) hHeld ?_
        rotate_left
        · (intro w hSw; (try dsimp only at hSw); go_simp; all_goals (with_reducible rfl))
        try simp only [Act.put, List.setIfInBounds_toArray, List.set_cons_zero, List.set_cons_succ]
        refine lets_take (i := 3) (d := 43) (v := ?_) rfl rfl (by kernel_rfl) (by kernel_rfl) (by kernel_rfl) (by kernel_rfl) (fun _ _ _ h => h) (Or.inl ⟨by rfl, ?_⟩) hHeld ?_
        rotate_left
        · (intro w hSw; (try dsimp only at hSw); go_simp; all_goals (with_reducible rfl))
        try simp only [Act.put, List.setIfInBounds_toArray, List.set_cons_zero, List.set_cons_succ]
        refine lets_take (i := 4) (d := 44) (v := ?_) rfl rfl (by kernel_rfl) (by kernel_rfl) (by kernel_rfl) (by kernel_rfl) (fun _ _ _ h => h) (Or.inl ⟨by rfl, ?_⟩) hHeld ?_
        rotate_left
        · (intro w hSw; (try dsimp only at hSw); go_simp; all_goals (with_reducible rfl))
        try simp only [Act.put, List.setIfInBounds_toArray, List.set_cons_zero, List.set_cons_succ]
        refine lets_take (i := 5) (d := 45) (v := ?_) rfl rfl (by kernel_rfl) (by kernel_rfl) (by kernel_rfl) (by kernel_rfl) (fun _ _ _ h => h) (Or.inl ⟨by rfl, ?_⟩) hHeld ?_
        rotate_left
        · (intro w hSw; (try dsimp only at hSw); go_simp; all_goals (with_reducible rfl))
        try simp only [Act.put, List.setIfInBounds_toArray, List.set_cons_zero, List.set_cons_succ]
        refine lets_take (i := 6) (d := 46) (v := ?_) rfl rfl (by kernel_rfl) (by kernel_rfl) (by kernel_rfl) (by kernel_rfl) (fun _ _ _ h => h) (Or.inl ⟨by rfl, ?_⟩) hHeld ?_
        rotate_left
        · (intro w hSw; (try dsimp only at hSw); go_simp; all_goals (with_reducible rfl))
        try simp only [Act.put, List.setIfInBounds_toArray, List.set_cons_zero, List.set_cons_succ]
        refine lets_take (i := 7) (d := 47) (v := ?_) rfl rfl (by kernel_rfl) (by kernel_rfl) (by kernel_rfl) (by kernel_rfl) (fun _ _ _ h => h) (Or.inl ⟨by rfl, ?_⟩) hHeld ?_
        rotate_left
        · (intro w hSw; (try dsimp only at hSw); go_simp; all_goals (with_reducible rfl))
        try simp only [Act.put, List.setIfInBounds_toArray, List.set_cons_zero, List.set_cons_succ]
        refine lets_take (i := 8) (d := 48) (v := ?_) rfl rfl (by kernel_rfl) (by kernel_rfl) (by kernel_rfl) (by kernel_rfl) (fun _ _ _ h => h) (Or.inl ⟨by rfl, ?_⟩) hHeld ?_
        rotate_left
        · (intro w hSw; (try dsimp only at hSw); go_simp; all_goals (with_reducible rfl))
        try simp only [Act.put, List.setIfInBounds_toArray, List.set_cons_zero, List.set_cons_succ]
        refine lets_take (i := 9) (d := 49) (v := ?_) rfl rfl (by kernel_rfl) (by kernel_rfl) (by kernel_rfl) (by kernel_rfl) (fun _ _ _ h => h) (Or.inl ⟨by rfl, ?_⟩) hHeld ?_
        rotate_left
        · (intro w hSw; (try dsimp only at hSw); go_simp; all_goals (with_reducible rfl))
        try simp only [Act.put, List.setIfInBounds_toArray, List.set_cons_zero, List.set_cons_succ]
        refine lets_one (i := 10) (by kernel_rfl) rfl (fun K hK => ?_)
        go_simp
        have b8 : Below w4.heap.size w4 ((w4.alloc (.cells #[.int .i64 xid.1, .int .u64 xid.2, .string ⟨#[]⟩, .bool false, .int .i64 xa, .int .i64 0] 47)).drew) := ((Below.refl _ _).alloc (Nat.le_refl _) _).drew
        refine hK.out _ _ ?_ (fun hHeld => ?_)
        · exact fun _ => ⟨cell_later b8 c0, cell_later b8 c1, cell_later b8 c2, cell_later b8 c3⟩
        replace hHeld := hHeld (by decide)
        clear hK K
        try simp only [Act.put, List.setIfInBounds_toArray, List.set_cons_zero, List.set_cons_succ]
        have hn8 := heap_alloc_new w4 (.cells #[.int .i64 xid.1, .int .u64 xid.2, .string ⟨#[]⟩, .bool false, .int .i64 xa, .int .i64 0] 47)
        have HG8 : Hid (((w4.alloc (.cells #[.int .i64 xid.1, .int .u64 xid.2, .string ⟨#[]⟩, .bool false, .int .i64 xa, .int .i64 0] 47)).drew).heap[w.heap.size + 1]? = some (.cells #[.slice va (rowsG G).length vc, .int .i64 lastR] 28 (0, 0))) := (b8.block _ (Array.getElem?_eq_some_iff.1 HG.out.1).1).trans HG.out.1
        have hown : ((w4.alloc (.cells #[.int .i64 xid.1, .int .u64 xid.2, .string ⟨#[]⟩, .bool false, .int .i64 xa, .int .i64 0] 47)).drew).ownsRow w.heap.size 47 6 (.slice va (rowsG G).length vc) (rowsG G).length ((rowsG G).flatMap Rw.cells) := owns_later HG.out.2 b8
        have hsz8 : w.heap.size ≤ ((w4.alloc (.cells #[.int .i64 xid.1, .int .u64 xid.2, .string ⟨#[]⟩, .bool false, .int .i64 xa, .int .i64 0] 47)).drew).heap.size := by have := b8.size; have := (Array.getElem?_eq_some_iff.1 HG.out.1).1; omega
        have HB8 : Hid (Fr w.heap.size [28, 47] w4 ((w4.alloc (.cells #[.int .i64 xid.1, .int .u64 xid.2, .string ⟨#[]⟩, .bool false, .int .i64 xa, .int .i64 0] 47)).drew)) := Fr.of b8
        have HX8 : Hid (((w4.alloc (.cells #[.int .i64 xid.1, .int .u64 xid.2, .string ⟨#[]⟩, .bool false, .int .i64 xa, .int .i64 0] 47)).drew).heap[bx]? = some (.cells #[.int .i64 xk, .int .i64 xid.1, .int .u64 xid.2, .int .i64 xa, .slice xra xrn xrc, .slice xwa xwn xwc] 34)) := (b8.block _ (Array.getElem?_eq_some_iff.1 HX4.out).1).trans HX4.out
        have hc2 := news_one Rw.cells (firstRow xid xa) (w := (w4.alloc (.cells #[.int .i64 xid.1, .int .u64 xid.2, .string ⟨#[]⟩, .bool false, .int .i64 xa, .int .i64 0] 47)).drew) hn8 rfl
        obtain ⟨m0, m1, m2, m3⟩ := hHeld
        clear b8 c0 c1 c2 c3 hn8
        refine lets_one (i := 11) (by kernel_rfl) rfl (fun K hK => ?_)
        refine step_append_els Rw.cells 6 56 26 47 _ Try.underlying26 Try.info_47 rfl (by decide) (fun _ => rfl) (by decide) rfl _ _ rfl w.heap.size _ (rowsG G) rfl hown ⟨w4.heap.size, 0, none⟩ 1 1 [firstRow xid xa] rfl rfl hc2 (Rw.one _) (by decide) hll hsz8 ?_
        intro v9 w9 ho9 hg9 hv9
        obtain ⟨qa, qn, qc, rfl⟩ := owns_slice ho9
        obtain ⟨hT9, hF9, g9, ht9⟩ := Rt.add HLO.out HG8.out hown ho9 hg9
        have r0 : w9.cell? ⟨w.heap.size + 1, 0, none⟩ = some (.slice va (rowsG G).length vc) := cell_of_heap g9 rfl
        have x9 : w9.heap[bx]? = some (.cells #[.int .i64 xk, .int .i64 xid.1, .int .u64 xid.2, .int .i64 xa, .slice xra xrn xrc, .slice xwa xwn xwc] 34) := (hg9.block bx (Array.getElem?_eq_some_iff.1 HX8.out).1 (fun e => by have := ht9 bx e.symm; rw [tagOf_heap HX8.out] at this; cases this)).trans HX8.out
        have f0 : w9.frozen? ⟨w.heap.size + 1, 0, none⟩ = false := frozen_of_row w9 _ _ _ _ g9
        have HRT9 : Hid (Rt (w9.setCell ⟨w.heap.size + 1, 0, none⟩ (.slice qa qn qc)) w.heap.size (w.heap.size + 1) (rowsG G ++ [firstRow xid xa]) lastR) := hT9
        have HFR9 : Hid (Fr w.heap.size [28, 47] w4 (w9.setCell ⟨w.heap.size + 1, 0, none⟩ (.slice qa qn qc))) := HB8.out.trans hF9
        refine hK.out _ _ ?_ (fun hHeld => ?_)
        · exact fun _ => ⟨r0, cell_of_heap x9 rfl, cell_of_heap x9 rfl, cell_of_heap x9 rfl⟩
        replace hHeld := hHeld (by decide)
        clear hK K
        try simp only [Act.put, List.setIfInBounds_toArray, List.set_cons_zero, List.set_cons_succ]
        clear hT9 hF9 ht9 ho9 hg9 hv9 hown hc2 g9 x9 HG8 HX8 HB8 HG HLO m0 m1 m2 m3
        refine lets_one (i := 12) (by kernel_rfl) rfl (fun K hK => ?_)
        go_simp
        refine hK.out _ _ ?_ (fun hHeld => ?_)
        · exact fun _ => hHeld
        replace hHeld := hHeld (by decide)
        clear hK K
        try simp only [Act.put, List.setIfInBounds_toArray, List.set_cons_zero, List.set_cons_succ]
        refine lets_one (i := 13) (by kernel_rfl) rfl (fun K hK => ?_)
        go_simp
        refine hK.out _ _ ?_ (fun hHeld => ?_)
        · exact fun _ => hHeld
        replace hHeld := hHeld (by decide)
        clear hK K
        try simp only [Act.put, List.setIfInBounds_toArray, List.set_cons_zero, List.set_cons_succ]
        refine lets_one (i := 14) (by kernel_rfl) rfl (fun K hK => ?_)
        go_simp
        refine hK.out _ _ ?_ (fun hHeld => ?_)
        · exact fun h => absurd rfl h
        clear hK K
        try simp only [Act.put, List.setIfInBounds_toArray, List.set_cons_zero, List.set_cons_succ]
        refine lets_done (by kernel_rfl) ?_ _
        refine NoPanic.normal ?_
        generalize w9.setCell ⟨w.heap.size + 1, 0, none⟩ (.slice qa qn qc) = w10 at *
        have HBw10 : Hid (Below w.heap.size w w10) := HB4.out.trans (HFR9.out.below HB4.out.size)
        have HX10 : Hid (w10.heap[bx]? = some (.cells #[.int .i64 xk, .int .i64 xid.1, .int .u64 xid.2, .int .i64 xa, .slice xra xrn xrc, .slice xwa xwn xwc] 34)) := HFR9.out.cells HX4.out (by simp)
        have c4 : w10.cell? ⟨bx, 4, none⟩ = some (.slice xra xrn xrc) := cell_of_heap HX10.out rfl
        have qf := few_any xra xrn xrc xR w10 (HRD.out.later HBw10.out)
        go_wp2_with fail
        refine qf.mono ?_
        rintro e w6 ⟨⟨v6, rfl, hv6⟩, hb6⟩
        obtain ⟨la, lc, rfl, -⟩ := hv6.slice
        have HSRw6 : Hid (SR w6 (.slice la (fewL xrn xR).length lc) (fewL xrn xR)) := hv6
        have HBw6 : Hid (Below w.heap.size w w6) := HBw10.out.trans (hb6.mono HBw10.out.size)
        have HXw6 : Hid (w6.heap[bx]? = some (.cells #[.int .i64 xk, .int .i64 xid.1, .int .u64 xid.2, .int .i64 xa, .slice xra xrn xrc, .slice xwa xwn xwc] 34)) := (hb6.block _ (Array.getElem?_eq_some_iff.1 HX10.out).1).trans HX10.out
        have HRTw6 : Hid (Rt w6 w.heap.size (w.heap.size + 1) (rowsG G ++ [firstRow xid xa]) lastR) := HRT9.out.later hb6
        have HF46 : Hid (Fr w.heap.size [28, 47] w4 w6) := HFR9.out.trans (Fr.of hb6)
        clear qf hv6 hb6 c4 HRT9 HFR9
        go_wp2
        go_loopw [58] (fun t wx => ∃ q : Nat, t = .int .i64 (q : Nat) ∧ q ≤ (fewL xrn xR).length ∧ Hid (Fr w.heap.size [28, 47] w6 wx) ∧ Hid (Rt wx w.heap.size (w.heap.size + 1) ((rowsG G ++ [firstRow xid xa]) ++ ((fewL xrn xR).take q).map (rowR xid xa false)) lastR)) (fun t _ => (fewL xrn xR).length - (intOf t).toNat)
        case atStart => exact ⟨0, rfl, by omega, Fr.refl _ _ _, by simpa using HRTw6⟩
        case round =>
          clear HRTw6
          obtain ⟨q, rfl, hq, HFq, HRq⟩ := hrel
          by_cases hql : q < (fewL xrn xR).length
          · obtain ⟨b, off, rfl, hc⟩ := (HSRw6.out.fr HFq.out (by simp)).at (by omega)
            have d0 := hc q hql
            clear hc
            have hx : (fewL xrn xR)[q]? = some ((fewL xrn xR)[q]?.getD ⟨#[]⟩) := by rw [List.getElem?_eq_getElem hql]; rfl
            generalize (fewL xrn xR)[q]?.getD ⟨#[]⟩ = x at d0 hx
            have HXq : Hid (wr.heap[bx]? = some (.cells #[.int .i64 xk, .int .i64 xid.1, .int .u64 xid.2, .int .i64 xa, .slice xra xrn xrc, .slice xwa xwn xwc] 34)) := HFq.out.cells HXw6.out (by simp)
            have HEQ : Hid ((rowsG G ++ [firstRow xid xa]) ++ ((fewL xrn xR).take (q + 1)).map (rowR xid xa false) = ((rowsG G ++ [firstRow xid xa]) ++ ((fewL xrn xR).take q).map (rowR xid xa false)) ++ [rowR xid xa false x]) := by
              rw [Hid, take_map _ hx]
              exact (List.append_assoc _ _ _).symm
            have hll : ((rowsG G ++ [firstRow xid xa]) ++ ((fewL xrn xR).take q).map (rowR xid xa false)).length + 1 ≤ 1000000 := by simp [newRows_length]; omega
            clear hx
            generalize (rowsG G ++ [firstRow xid xa]) ++ ((fewL xrn xR).take q).map (rowR xid xa false) = LL at HRq HEQ hll
            go_upto_region 11 with fail
            clear d0
            obtain ⟨va, vc, t1, t2, c0, -⟩ := HRq.out.cells
            have HLO : Hid (w.heap.size ≤ w.heap.size + 1) := HRq.out.lo
            have c1 : wr.cell? ⟨bx, 1, none⟩ = some (.int .i64 xid.1) := cell_of_heap HXq.out rfl
            have c2 : wr.cell? ⟨bx, 2, none⟩ = some (.int .u64 xid.2) := cell_of_heap HXq.out rfl
            have c3 : wr.cell? ⟨bx, 3, none⟩ = some (.int .i64 xa) := cell_of_heap HXq.out rfl
            have HG : Hid (wr.heap[w.heap.size + 1]? = some (.cells #[.slice va (LL).length vc, .int .i64 lastR] 28 (0, 0)) ∧ wr.ownsRow w.heap.size 47 6 (.slice va (LL).length vc) (LL).length ((LL).flatMap Rw.cells)) := ⟨t1, t2⟩
            clear t1 t2
            refine wp_region_noPanic ?_
            refine wp_region_lets 15 (fun w' => w'.cell? ⟨w.heap.size + 1, 0, none⟩ = some (.slice va (LL).length vc) ∧ w'.cell? ⟨bx, 1, none⟩ = some (.int .i64 xid.1) ∧ w'.cell? ⟨bx, 2, none⟩ = some (.int .u64 xid.2) ∧ w'.cell? ⟨bx, 3, none⟩ = some (.int .i64 xa)) (by kernel_rfl) ?_ (fun hHeld => ?_)
            · exact ⟨c0, c1, c2, c3⟩
            refine lets_take (i := 0) (d := 62) (v := ?_) rfl rfl (by kernel_rfl) (by kernel_rfl) (by kernel_rfl) (by kernel_rfl) (fun _ _ _ h => h) (Or.inl ⟨by rfl, ?_⟩) hHeld ?_
            rotate_left
            · (intro w hSw; (try dsimp only at hSw); go_simp; all_goals (with_reducible rfl))
            try simp only [Act.put, List.setIfInBounds_toArray, List.set_cons_zero, List.set_cons_succ]
            refine lets_take (i := 1) (d := 63) (v := ?_) rfl rfl (by kernel_rfl) (by kernel_rfl) (by kernel_rfl) (by kernel_rfl) (fun _ _ _ h => h) (Or.inl ⟨by rfl, ?_⟩) hHeld ?_
            rotate_left
            · (intro w hSw; (try dsimp only at hSw); go_simp; all_goals (with_reducible rfl))
            try simp only [Act.put, List.setIfInBounds_toArray, List.set_cons_zero, List.set_cons_succ]
            refine lets_take (i := 2) (d := 64) (v := ?_) rfl rfl (by kernel_rfl) (by kernel_rfl) (by kernel_rfl) (by kernel_rfl) (fun _ _ _ h => h) (Or.inl ⟨by rfl, ?_⟩) hHeld ?_
            rotate_left
            · (intro w hSw; (try dsimp only at hSw); go_simp; all_goals (with_reducible rfl))
            try simp only [Act.put, List.setIfInBounds_toArray, List.set_cons_zero, List.set_cons_succ]
            refine lets_take (i := 3) (d := 65) (v := ?_) rfl rfl (by kernel_rfl) (by kernel_rfl) (by kernel_rfl) (by kernel_rfl) (fun _ _ _ h => h) (Or.inl ⟨by rfl, ?_⟩) hHeld ?_
            rotate_left
            · (intro w hSw; (try dsimp only at hSw); go_simp; all_goals (with_reducible rfl))
            try simp only [Act.put, List.setIfInBounds_toArray, List.set_cons_zero, List.set_cons_succ]
            refine lets_take (i := 4) (d := 66) (v := ?_) rfl rfl (by kernel_rfl) (by kernel_rfl) (by kernel_rfl) (by kernel_rfl) (fun _ _ _ h => h) (Or.inl ⟨by rfl, ?_⟩) hHeld ?_
            rotate_left
            · (intro w hSw; (try dsimp only at hSw); go_simp; all_goals (with_reducible rfl))
            try simp only [Act.put, List.setIfInBounds_toArray, List.set_cons_zero, List.set_cons_succ]
            refine lets_take (i := 5) (d := 67) (v := ?_) rfl rfl (by kernel_rfl) (by kernel_rfl) (by kernel_rfl) (by kernel_rfl) (fun _ _ _ h => h) (Or.inl ⟨by rfl, ?_⟩) hHeld ?_
            rotate_left
            · (intro w hSw; (try dsimp only at hSw); go_simp; all_goals (with_reducible rfl))
            try simp only [Act.put, List.setIfInBounds_toArray, List.set_cons_zero, List.set_cons_succ]
            refine lets_take (i := 6) (d := 68) (v := ?_) rfl rfl (by kernel_rfl) (by kernel_rfl) (by kernel_rfl) (by kernel_rfl) (fun _ _ _ h => h) (Or.inl ⟨by rfl, ?_⟩) hHeld ?_
            rotate_left
            · (intro w hSw; (try dsimp only at hSw); go_simp; all_goals (with_reducible rfl))
            try simp only [Act.put, List.setIfInBounds_toArray, List.set_cons_zero, List.set_cons_succ]
            refine lets_take (i := 7) (d := 69) (v := ?_) rfl rfl (by kernel_rfl) (by kernel_rfl) (by kernel_rfl) (by kernel_rfl) (fun _ _ _ h => h) (Or.inl ⟨by rfl, ?_⟩) hHeld ?_
            rotate_left
            · (intro w hSw; (try dsimp only at hSw); go_simp; all_goals (with_reducible rfl))
            try simp only [Act.put, List.setIfInBounds_toArray, List.set_cons_zero, List.set_cons_succ]
            refine lets_take (i := 8) (d := 70) (v := ?_) rfl rfl (by kernel_rfl) (by kernel_rfl) (by kernel_rfl) (by kernel_rfl) (fun _ _ _ h => h) (Or.inl ⟨by rfl, ?_⟩) hHeld ?_
            rotate_left
            · (intro w hSw; (try dsimp only at hSw); go_simp; all_goals (with_reducible rfl))
            try simp only [Act.put, List.setIfInBounds_toArray, List.set_cons_zero, List.set_cons_succ]
            refine lets_take (i := 9) (d := 71) (v := ?_) rfl rfl (by kernel_rfl) (by kernel_rfl) (by kernel_rfl) (by kernel_rfl) (fun _ _ _ h => h) (Or.inl ⟨by rfl, ?_⟩) hHeld ?_
            rotate_left
            · (intro w hSw; (try dsimp only at hSw); go_simp; all_goals (with_reducible rfl))
            try simp only [Act.put, List.setIfInBounds_toArray, List.set_cons_zero, List.set_cons_succ]
            refine lets_take (i := 10) (d := 72) (v := ?_) rfl rfl (by kernel_rfl) (by kernel_rfl) (by kernel_rfl) (by kernel_rfl) (fun _ _ _ h => h) (Or.inl ⟨by rfl, ?_⟩) hHeld ?_
            rotate_left
            · (intro w hSw; (try dsimp only at hSw); go_simp; all_goals (with_reducible rfl))
            try simp only [Act.put, List.setIfInBounds_toArray, List.set_cons_zero, List.set_cons_succ]
            refine lets_one (i := 11) (by kernel_rfl) rfl (fun K hK => ?_)
            go_simp
            have b8 : Below wr.heap.size wr ((wr.alloc (.cells #[.int .i64 xid.1, .int .u64 xid.2, .string x, .bool false, .int .i64 xa, .int .i64 0] 47)).drew) := ((Below.refl _ _).alloc (Nat.le_refl _) _).drew
            refine hK.out _ _ ?_ (fun hHeld => ?_)
            · exact fun _ => ⟨cell_later b8 c0, cell_later b8 c1, cell_later b8 c2, cell_later b8 c3⟩
            replace hHeld := hHeld (by decide)
            clear hK K
            try simp only [Act.put, List.setIfInBounds_toArray, List.set_cons_zero, List.set_cons_succ]
            have hn8 := heap_alloc_new wr (.cells #[.int .i64 xid.1, .int .u64 xid.2, .string x, .bool false, .int .i64 xa, .int .i64 0] 47)
            have HG8 : Hid (((wr.alloc (.cells #[.int .i64 xid.1, .int .u64 xid.2, .string x, .bool false, .int .i64 xa, .int .i64 0] 47)).drew).heap[w.heap.size + 1]? = some (.cells #[.slice va (LL).length vc, .int .i64 lastR] 28 (0, 0))) := (b8.block _ (Array.getElem?_eq_some_iff.1 HG.out.1).1).trans HG.out.1
            have hown : ((wr.alloc (.cells #[.int .i64 xid.1, .int .u64 xid.2, .string x, .bool false, .int .i64 xa, .int .i64 0] 47)).drew).ownsRow w.heap.size 47 6 (.slice va (LL).length vc) (LL).length ((LL).flatMap Rw.cells) := owns_later HG.out.2 b8
            have hsz8 : w.heap.size ≤ ((wr.alloc (.cells #[.int .i64 xid.1, .int .u64 xid.2, .string x, .bool false, .int .i64 xa, .int .i64 0] 47)).drew).heap.size := by have := b8.size; have := (Array.getElem?_eq_some_iff.1 HG.out.1).1; omega
            have HB8 : Hid (Fr w.heap.size [28, 47] wr ((wr.alloc (.cells #[.int .i64 xid.1, .int .u64 xid.2, .string x, .bool false, .int .i64 xa, .int .i64 0] 47)).drew)) := Fr.of b8
            have HX8 : Hid (((wr.alloc (.cells #[.int .i64 xid.1, .int .u64 xid.2, .string x, .bool false, .int .i64 xa, .int .i64 0] 47)).drew).heap[bx]? = some (.cells #[.int .i64 xk, .int .i64 xid.1, .int .u64 xid.2, .int .i64 xa, .slice xra xrn xrc, .slice xwa xwn xwc] 34)) := (b8.block _ (Array.getElem?_eq_some_iff.1 HXq.out).1).trans HXq.out
            have hc2 := news_one Rw.cells (rowR xid xa false x) (w := (wr.alloc (.cells #[.int .i64 xid.1, .int .u64 xid.2, .string x, .bool false, .int .i64 xa, .int .i64 0] 47)).drew) hn8 rfl
            obtain ⟨m0, m1, m2, m3⟩ := hHeld
            clear b8 c0 c1 c2 c3 hn8
            refine lets_one (i := 12) (by kernel_rfl) rfl (fun K hK => ?_)
            refine step_append_els Rw.cells 6 56 26 47 _ Try.underlying26 Try.info_47 rfl (by decide) (fun _ => rfl) (by decide) rfl _ _ rfl w.heap.size _ (LL) rfl hown ⟨wr.heap.size, 0, none⟩ 1 1 [rowR xid xa false x] rfl rfl hc2 (Rw.one _) (by decide) hll hsz8 ?_
            intro v9 w9 ho9 hg9 hv9
            obtain ⟨qa, qn, qc, rfl⟩ := owns_slice ho9
            obtain ⟨hT9, hF9, g9, ht9⟩ := Rt.add HLO.out HG8.out hown ho9 hg9
            have r0 : w9.cell? ⟨w.heap.size + 1, 0, none⟩ = some (.slice va (LL).length vc) := cell_of_heap g9 rfl
            have x9 : w9.heap[bx]? = some (.cells #[.int .i64 xk, .int .i64 xid.1, .int .u64 xid.2, .int .i64 xa, .slice xra xrn xrc, .slice xwa xwn xwc] 34) := (hg9.block bx (Array.getElem?_eq_some_iff.1 HX8.out).1 (fun e => by have := ht9 bx e.symm; rw [tagOf_heap HX8.out] at this; cases this)).trans HX8.out
            have f0 : w9.frozen? ⟨w.heap.size + 1, 0, none⟩ = false := frozen_of_row w9 _ _ _ _ g9
            have HRT9 : Hid (Rt (w9.setCell ⟨w.heap.size + 1, 0, none⟩ (.slice qa qn qc)) w.heap.size (w.heap.size + 1) (LL ++ [rowR xid xa false x]) lastR) := hT9
            have HFR9 : Hid (Fr w.heap.size [28, 47] wr (w9.setCell ⟨w.heap.size + 1, 0, none⟩ (.slice qa qn qc))) := HB8.out.trans hF9
            refine hK.out _ _ ?_ (fun hHeld => ?_)
            · exact fun _ => ⟨r0, cell_of_heap x9 rfl, cell_of_heap x9 rfl, cell_of_heap x9 rfl⟩
            replace hHeld := hHeld (by decide)
            clear hK K
            try simp only [Act.put, List.setIfInBounds_toArray, List.set_cons_zero, List.set_cons_succ]
            clear hT9 hF9 ht9 ho9 hg9 hv9 hown hc2 g9 x9 HG8 HX8 HB8 HG HLO m0 m1 m2 m3
            refine lets_one (i := 13) (by kernel_rfl) rfl (fun K hK => ?_)
            go_simp
            refine hK.out _ _ ?_ (fun hHeld => ?_)
            · exact fun _ => hHeld
            replace hHeld := hHeld (by decide)
            clear hK K
            try simp only [Act.put, List.setIfInBounds_toArray, List.set_cons_zero, List.set_cons_succ]
            refine lets_one (i := 14) (by kernel_rfl) rfl (fun K hK => ?_)
            go_simp
            refine hK.out _ _ ?_ (fun hHeld => ?_)
            · exact fun _ => hHeld
            replace hHeld := hHeld (by decide)
            clear hK K
            try simp only [Act.put, List.setIfInBounds_toArray, List.set_cons_zero, List.set_cons_succ]
            refine lets_one (i := 15) (by kernel_rfl) rfl (fun K hK => ?_)
            go_simp
            refine hK.out _ _ ?_ (fun hHeld => ?_)
            · exact fun h => absurd rfl h
            clear hK K
            try simp only [Act.put, List.setIfInBounds_toArray, List.set_cons_zero, List.set_cons_succ]
            refine lets_done (by kernel_rfl) ?_ _
            refine NoPanic.normal ?_
            generalize w9.setCell ⟨w.heap.size + 1, 0, none⟩ (.slice qa qn qc) = w10 at *
            have HFn : Hid (Fr w.heap.size [28, 47] w6 w10) := HFq.out.trans HFR9.out
            go_wp2
            go_roundw
            case rel => exact ⟨q + 1, by go_num, by omega, HFn, by rw [HEQ.out]; exact HRT9⟩
            case measure => simp [intOf]; omega
          · have hqq : (fewL xrn xR).take q = (fewL xrn xR) := List.take_of_length_le (by omega)
            rw [hqq] at HRq
            have HBA : Hid (Below w.heap.size w wr) := HBw6.out.trans (HFq.out.below HBw6.out.size)
            have HFA : Hid (Fr w.heap.size [28, 47] w4 wr) := HF46.out.trans HFq.out
            have HXA : Hid (wr.heap[bx]? = some (.cells #[.int .i64 xk, .int .i64 xid.1, .int .u64 xid.2, .int .i64 xa, .slice xra xrn xrc, .slice xwa xwn xwc] 34)) := HFq.out.cells HXw6.out (by simp)
            clear hqq HFq
            generalize hwA : wr = wA at *
            have HBwA := HBA
            have c4 : wA.cell? ⟨bx, 5, none⟩ = some (.slice xwa xwn xwc) := cell_of_heap HXA.out rfl
            have qf := few_any xwa xwn xwc xW wA (HWR.out.later HBwA.out)
            go_wp2_with fail
            refine qf.mono ?_
            rintro e w8 ⟨⟨v6, rfl, hv6⟩, hb6⟩
            obtain ⟨la, lc, rfl, -⟩ := hv6.slice
            have HSRw8 : Hid (SR w8 (.slice la (fewL xwn xW).length lc) (fewL xwn xW)) := hv6
            have HBw8 : Hid (Below w.heap.size w w8) := HBwA.out.trans (hb6.mono HBwA.out.size)
            have HXw8 : Hid (w8.heap[bx]? = some (.cells #[.int .i64 xk, .int .i64 xid.1, .int .u64 xid.2, .int .i64 xa, .slice xra xrn xrc, .slice xwa xwn xwc] 34)) := (hb6.block _ (Array.getElem?_eq_some_iff.1 HXA.out).1).trans HXA.out
            have HRTw8 : Hid (Rt w8 w.heap.size (w.heap.size + 1) (rowsG G ++ [firstRow xid xa] ++ (fewL xrn xR).map (rowR xid xa false)) lastR) := HRq.out.later hb6
            have HF48 : Hid (Fr w.heap.size [28, 47] w4 w8) := HFA.out.trans (Fr.of hb6)
            clear qf hv6 hb6 c4 HRq
            go_wp2
            go_loopw [82] (fun t wx => ∃ q : Nat, t = .int .i64 (q : Nat) ∧ q ≤ (fewL xwn xW).length ∧ Hid (Fr w.heap.size [28, 47] w8 wx) ∧ Hid (Rt wx w.heap.size (w.heap.size + 1) ((rowsG G ++ [firstRow xid xa] ++ (fewL xrn xR).map (rowR xid xa false)) ++ ((fewL xwn xW).take q).map (rowR xid xa true)) lastR)) (fun t _ => (fewL xwn xW).length - (intOf t).toNat)
            case atStart => exact ⟨0, rfl, by omega, Fr.refl _ _ _, by simpa using HRTw8⟩
            case round =>
              clear HRTw8
              obtain ⟨q, rfl, hq, HFq, HRq⟩ := hrel
              by_cases hql : q < (fewL xwn xW).length
              · obtain ⟨b, off, rfl, hc⟩ := (HSRw8.out.fr HFq.out (by simp)).at (by omega)
                have d0 := hc q hql
                clear hc
                have hx : (fewL xwn xW)[q]? = some ((fewL xwn xW)[q]?.getD ⟨#[]⟩) := by rw [List.getElem?_eq_getElem hql]; rfl
                generalize (fewL xwn xW)[q]?.getD ⟨#[]⟩ = x at d0 hx
                have HXq : Hid (wr.heap[bx]? = some (.cells #[.int .i64 xk, .int .i64 xid.1, .int .u64 xid.2, .int .i64 xa, .slice xra xrn xrc, .slice xwa xwn xwc] 34)) := HFq.out.cells HXw8.out (by simp)
                have HEQ : Hid ((rowsG G ++ [firstRow xid xa] ++ (fewL xrn xR).map (rowR xid xa false)) ++ ((fewL xwn xW).take (q + 1)).map (rowR xid xa true) = ((rowsG G ++ [firstRow xid xa] ++ (fewL xrn xR).map (rowR xid xa false)) ++ ((fewL xwn xW).take q).map (rowR xid xa true)) ++ [rowR xid xa true x]) := by
                  rw [Hid, take_map _ hx]
                  exact (List.append_assoc _ _ _).symm
                have hll : ((rowsG G ++ [firstRow xid xa] ++ (fewL xrn xR).map (rowR xid xa false)) ++ ((fewL xwn xW).take q).map (rowR xid xa true)).length + 1 ≤ 1000000 := by simp [newRows_length]; omega
                clear hx
                generalize (rowsG G ++ [firstRow xid xa] ++ (fewL xrn xR).map (rowR xid xa false)) ++ ((fewL xwn xW).take q).map (rowR xid xa true) = LL at HRq HEQ hll
                go_upto_region 16 with fail
                clear d0
                obtain ⟨va, vc, t1, t2, c0, -⟩ := HRq.out.cells
                have HLO : Hid (w.heap.size ≤ w.heap.size + 1) := HRq.out.lo
                have c1 : wr.cell? ⟨bx, 1, none⟩ = some (.int .i64 xid.1) := cell_of_heap HXq.out rfl
                have c2 : wr.cell? ⟨bx, 2, none⟩ = some (.int .u64 xid.2) := cell_of_heap HXq.out rfl
                have c3 : wr.cell? ⟨bx, 3, none⟩ = some (.int .i64 xa) := cell_of_heap HXq.out rfl
                have HG : Hid (wr.heap[w.heap.size + 1]? = some (.cells #[.slice va (LL).length vc, .int .i64 lastR] 28 (0, 0)) ∧ wr.ownsRow w.heap.size 47 6 (.slice va (LL).length vc) (LL).length ((LL).flatMap Rw.cells)) := ⟨t1, t2⟩
                clear t1 t2
                refine wp_region_noPanic ?_
                refine wp_region_lets 15 (fun w' => w'.cell? ⟨w.heap.size + 1, 0, none⟩ = some (.slice va (LL).length vc) ∧ w'.cell? ⟨bx, 1, none⟩ = some (.int .i64 xid.1) ∧ w'.cell? ⟨bx, 2, none⟩ = some (.int .u64 xid.2) ∧ w'.cell? ⟨bx, 3, none⟩ = some (.int .i64 xa)) (by kernel_rfl) ?_ (fun hHeld => ?_)
                · exact ⟨c0, c1, c2, c3⟩
                refine lets_take (i := 0) (d := 86) (v := ?_) rfl rfl (by kernel_rfl) (by kernel_rfl) (by kernel_rfl) (by kernel_rfl) (fun _ _ _ h => h) (Or.inl ⟨by rfl, ?_⟩) hHeld ?_
                rotate_left
                · (intro w hSw; (try dsimp only at hSw); go_simp; all_goals (with_reducible rfl))
                try simp only [Act.put, List.setIfInBounds_toArray, List.set_cons_zero, List.set_cons_succ]
                refine lets_take (i := 1) (d := 87) (v := ?_) rfl rfl (by kernel_rfl) (by kernel_rfl) (by kernel_rfl) (by kernel_rfl) (fun _ _ _ h => h) (Or.inl ⟨by rfl, ?_⟩) hHeld ?_
                rotate_left
                · (intro w hSw; (try dsimp only at hSw); go_simp; all_goals (with_reducible rfl))
                try simp only [Act.put, List.setIfInBounds_toArray, List.set_cons_zero, List.set_cons_succ]
                refine lets_take (i := 2) (d := 88) (v := ?_) rfl rfl (by kernel_rfl) (by kernel_rfl) (by kernel_rfl) (by kernel_rfl) (fun _ _ _ h => h) (Or.inl ⟨by rfl, ?_⟩) hHeld ?_
                rotate_left
                · (intro w hSw; (try dsimp only at hSw); go_simp; all_goals (with_reducible rfl))
                try simp only [Act.put, List.setIfInBounds_toArray, List.set_cons_zero, List.set_cons_succ]
                refine lets_take (i := 3) (d := 89) (v := ?_) rfl rfl (by kernel_rfl) (by kernel_rfl) (by kernel_rfl) (by kernel_rfl) (fun _ _ _ h => h) (Or.inl ⟨by rfl, ?_⟩) hHeld ?_
                rotate_left
                · (intro w hSw; (try dsimp only at hSw); go_simp; all_goals (with_reducible rfl))
                try simp only [Act.put, List.setIfInBounds_toArray, List.set_cons_zero, List.set_cons_succ]
                refine lets_take (i := 4) (d := 90) (v := ?_) rfl rfl (by kernel_rfl) (by kernel_rfl) (by kernel_rfl) (by kernel_rfl) (fun _ _ _ h => h) (Or.inl ⟨by rfl, ?_⟩) hHeld ?_
                rotate_left
                · (intro w hSw; (try dsimp only at hSw); go_simp; all_goals (with_reducible rfl))
                try simp only [Act.put, List.setIfInBounds_toArray, List.set_cons_zero, List.set_cons_succ]
                refine lets_take (i := 5) (d := 91) (v := ?_) rfl rfl (by kernel_rfl) (by kernel_rfl) (by kernel_rfl) (by kernel_rfl) (fun _ _ _ h => h) (Or.inl ⟨by rfl, ?_⟩) hHeld ?_
                rotate_left
                · (intro w hSw; (try dsimp only at hSw); go_simp; all_goals (with_reducible rfl))
                try simp only [Act.put, List.setIfInBounds_toArray, List.set_cons_zero, List.set_cons_succ]
                refine lets_take (i := 6) (d := 92) (v := ?_) rfl rfl (by kernel_rfl) (by kernel_rfl) (by kernel_rfl) (by kernel_rfl) (fun _ _ _ h => h) (Or.inl ⟨by rfl, ?_⟩) hHeld ?_
                rotate_left
                · (intro w hSw; (try dsimp only at hSw); go_simp; all_goals (with_reducible rfl))
                try simp only [Act.put, List.setIfInBounds_toArray, List.set_cons_zero, List.set_cons_succ]
                refine lets_take (i := 7) (d := 93) (v := ?_) rfl rfl (by kernel_rfl) (by kernel_rfl) (by kernel_rfl) (by kernel_rfl) (fun _ _ _ h => h) (Or.inl ⟨by rfl, ?_⟩) hHeld ?_
                rotate_left
                · (intro w hSw; (try dsimp only at hSw); go_simp; all_goals (with_reducible rfl))
                try simp only [Act.put, List.setIfInBounds_toArray, List.set_cons_zero, List.set_cons_succ]
                refine lets_take (i := 8) (d := 94) (v := ?_) rfl rfl (by kernel_rfl) (by kernel_rfl) (by kernel_rfl) (by kernel_rfl) (fun _ _ _ h => h) (Or.inl ⟨by rfl, ?_⟩) hHeld ?_
                rotate_left
                · (intro w hSw; (try dsimp only at hSw); go_simp; all_goals (with_reducible rfl))
                try simp only [Act.put, List.setIfInBounds_toArray, List.set_cons_zero, List.set_cons_succ]
                refine lets_take (i := 9) (d := 95) (v := ?_) rfl rfl (by kernel_rfl) (by kernel_rfl) (by kernel_rfl) (by kernel_rfl) (fun _ _ _ h => h) (Or.inl ⟨by rfl, ?_⟩) hHeld ?_
                rotate_left
                · (intro w hSw; (try dsimp only at hSw); go_simp; all_goals (with_reducible rfl))
                try simp only [Act.put, List.setIfInBounds_toArray, List.set_cons_zero, List.set_cons_succ]
                refine lets_take (i := 10) (d := 96) (v := ?_) rfl rfl (by kernel_rfl) (by kernel_rfl) (by kernel_rfl) (by kernel_rfl) (fun _ _ _ h => h) (Or.inl ⟨by rfl, ?_⟩) hHeld ?_
                rotate_left
                · (intro w hSw; (try dsimp only at hSw); go_simp; all_goals (with_reducible rfl))
                try simp only [Act.put, List.setIfInBounds_toArray, List.set_cons_zero, List.set_cons_succ]
                refine lets_one (i := 11) (by kernel_rfl) rfl (fun K hK => ?_)
                go_simp
                have b8 : Below wr.heap.size wr ((wr.alloc (.cells #[.int .i64 xid.1, .int .u64 xid.2, .string x, .bool true, .int .i64 xa, .int .i64 0] 47)).drew) := ((Below.refl _ _).alloc (Nat.le_refl _) _).drew
                refine hK.out _ _ ?_ (fun hHeld => ?_)
                · exact fun _ => ⟨cell_later b8 c0, cell_later b8 c1, cell_later b8 c2, cell_later b8 c3⟩
                replace hHeld := hHeld (by decide)
                clear hK K
                try simp only [Act.put, List.setIfInBounds_toArray, List.set_cons_zero, List.set_cons_succ]
                have hn8 := heap_alloc_new wr (.cells #[.int .i64 xid.1, .int .u64 xid.2, .string x, .bool true, .int .i64 xa, .int .i64 0] 47)
                have HG8 : Hid (((wr.alloc (.cells #[.int .i64 xid.1, .int .u64 xid.2, .string x, .bool true, .int .i64 xa, .int .i64 0] 47)).drew).heap[w.heap.size + 1]? = some (.cells #[.slice va (LL).length vc, .int .i64 lastR] 28 (0, 0))) := (b8.block _ (Array.getElem?_eq_some_iff.1 HG.out.1).1).trans HG.out.1
                have hown : ((wr.alloc (.cells #[.int .i64 xid.1, .int .u64 xid.2, .string x, .bool true, .int .i64 xa, .int .i64 0] 47)).drew).ownsRow w.heap.size 47 6 (.slice va (LL).length vc) (LL).length ((LL).flatMap Rw.cells) := owns_later HG.out.2 b8
                have hsz8 : w.heap.size ≤ ((wr.alloc (.cells #[.int .i64 xid.1, .int .u64 xid.2, .string x, .bool true, .int .i64 xa, .int .i64 0] 47)).drew).heap.size := by have := b8.size; have := (Array.getElem?_eq_some_iff.1 HG.out.1).1; omega
                have HB8 : Hid (Fr w.heap.size [28, 47] wr ((wr.alloc (.cells #[.int .i64 xid.1, .int .u64 xid.2, .string x, .bool true, .int .i64 xa, .int .i64 0] 47)).drew)) := Fr.of b8
                have HX8 : Hid (((wr.alloc (.cells #[.int .i64 xid.1, .int .u64 xid.2, .string x, .bool true, .int .i64 xa, .int .i64 0] 47)).drew).heap[bx]? = some (.cells #[.int .i64 xk, .int .i64 xid.1, .int .u64 xid.2, .int .i64 xa, .slice xra xrn xrc, .slice xwa xwn xwc] 34)) := (b8.block _ (Array.getElem?_eq_some_iff.1 HXq.out).1).trans HXq.out
                have hc2 := news_one Rw.cells (rowR xid xa true x) (w := (wr.alloc (.cells #[.int .i64 xid.1, .int .u64 xid.2, .string x, .bool true, .int .i64 xa, .int .i64 0] 47)).drew) hn8 rfl
                obtain ⟨m0, m1, m2, m3⟩ := hHeld
                clear b8 c0 c1 c2 c3 hn8
                refine lets_one (i := 12) (by kernel_rfl) rfl (fun K hK => ?_)
                refine step_append_els Rw.cells 6 56 26 47 _ Try.underlying26 Try.info_47 rfl (by decide) (fun _ => rfl) (by decide) rfl _ _ rfl w.heap.size _ (LL) rfl hown ⟨wr.heap.size, 0, none⟩ 1 1 [rowR xid xa true x] rfl rfl hc2 (Rw.one _) (by decide) hll hsz8 ?_
                intro v9 w9 ho9 hg9 hv9
                obtain ⟨qa, qn, qc, rfl⟩ := owns_slice ho9
                obtain ⟨hT9, hF9, g9, ht9⟩ := Rt.add HLO.out HG8.out hown ho9 hg9
                have r0 : w9.cell? ⟨w.heap.size + 1, 0, none⟩ = some (.slice va (LL).length vc) := cell_of_heap g9 rfl
                have x9 : w9.heap[bx]? = some (.cells #[.int .i64 xk, .int .i64 xid.1, .int .u64 xid.2, .int .i64 xa, .slice xra xrn xrc, .slice xwa xwn xwc] 34) := (hg9.block bx (Array.getElem?_eq_some_iff.1 HX8.out).1 (fun e => by have := ht9 bx e.symm; rw [tagOf_heap HX8.out] at this; cases this)).trans HX8.out
                have f0 : w9.frozen? ⟨w.heap.size + 1, 0, none⟩ = false := frozen_of_row w9 _ _ _ _ g9
                have HRT9 : Hid (Rt (w9.setCell ⟨w.heap.size + 1, 0, none⟩ (.slice qa qn qc)) w.heap.size (w.heap.size + 1) (LL ++ [rowR xid xa true x]) lastR) := hT9
                have HFR9 : Hid (Fr w.heap.size [28, 47] wr (w9.setCell ⟨w.heap.size + 1, 0, none⟩ (.slice qa qn qc))) := HB8.out.trans hF9
                refine hK.out _ _ ?_ (fun hHeld => ?_)
                · exact fun _ => ⟨r0, cell_of_heap x9 rfl, cell_of_heap x9 rfl, cell_of_heap x9 rfl⟩
                replace hHeld := hHeld (by decide)
                clear hK K
                try simp only [Act.put, List.setIfInBounds_toArray, List.set_cons_zero, List.set_cons_succ]
                clear hT9 hF9 ht9 ho9 hg9 hv9 hown hc2 g9 x9 HG8 HX8 HB8 HG HLO m0 m1 m2 m3
                refine lets_one (i := 13) (by kernel_rfl) rfl (fun K hK => ?_)
                go_simp
                refine hK.out _ _ ?_ (fun hHeld => ?_)
                · exact fun _ => hHeld
                replace hHeld := hHeld (by decide)
                clear hK K
                try simp only [Act.put, List.setIfInBounds_toArray, List.set_cons_zero, List.set_cons_succ]
                refine lets_one (i := 14) (by kernel_rfl) rfl (fun K hK => ?_)
                go_simp
                refine hK.out _ _ ?_ (fun hHeld => ?_)
                · exact fun _ => hHeld
                replace hHeld := hHeld (by decide)
                clear hK K
                try simp only [Act.put, List.setIfInBounds_toArray, List.set_cons_zero, List.set_cons_succ]
                refine lets_one (i := 15) (by kernel_rfl) rfl (fun K hK => ?_)
                go_simp
                refine hK.out _ _ ?_ (fun hHeld => ?_)
                · exact fun h => absurd rfl h
                clear hK K
                try simp only [Act.put, List.setIfInBounds_toArray, List.set_cons_zero, List.set_cons_succ]
                refine lets_done (by kernel_rfl) ?_ _
                refine NoPanic.normal ?_
                generalize w9.setCell ⟨w.heap.size + 1, 0, none⟩ (.slice qa qn qc) = w10 at *
                have HFn : Hid (Fr w.heap.size [28, 47] w8 w10) := HFq.out.trans HFR9.out
                go_wp2
                go_roundw
                case rel => exact ⟨q + 1, by go_num, by omega, HFn, by rw [HEQ.out]; exact HRT9⟩
                case measure => simp [intOf]; omega
              · have hqq : (fewL xwn xW).take q = (fewL xwn xW) := List.take_of_length_le (by omega)
                rw [hqq] at HRq
                have HBW : Hid (Below w.heap.size w wr) := HBw8.out.trans (HFq.out.below HBw8.out.size)
                have HAL : Hid (∃ G F last lastR, Alone wr w.heap.size w.heap.size (w.heap.size + 1) (c + 1) G F last lastR) := HA3.out.take HT0.out HT4.out ((HF48.out).trans HFq.out) (by simpa [newRows_eq, firstRow] using HRq.out) hfr hfw
                clear hqq
                generalize wr = wz at *
                obtain ⟨G1, F1, last1, lastR1, hal⟩ := HAL.out
                obtain ⟨va, vc, t1, t2, tc0, -⟩ := hal.r.cells
                have HO : Hid (wz.ownsRow w.heap.size 47 6 (.slice va (rowsG G1).length vc) (rowsG G1).length ((rowsG G1).flatMap Rw.cells)) := t2
                have HC0 : Hid (wz.cell? ⟨w.heap.size + 1, 0, none⟩ = some (.slice va (rowsG G1).length vc)) := tc0
                have HAP : Hid (G1.Pairwise Apart) := hal.inv.apart
                have hlR : (rowsG G1).length ≤ 100000 := by have := hal.lenR; omega
                clear t1 t2 hal
                go_wp2
                go_loopw [120] (fun t wx => ∃ i : Nat, t = .int .i64 (i : Nat) ∧ i ≤ (rowsG G1).length ∧ Hid (Below wz.heap.size wz wx)) (fun t _ => (rowsG G1).length - (intOf t).toNat)
                case atStart => exact ⟨0, rfl, by omega, Below.refl _ _⟩
                case round =>
                  obtain ⟨i, rfl, hi, HWi⟩ := hrel
                  clear tc0
                  by_cases hil : i < (rowsG G1).length
                  · obtain ⟨a', c', e, -, -, -, h5⟩ := rows_at (owns_later HO.out HWi.out)
                    simp only [Value.slice.injEq, true_and] at e
                    obtain ⟨rfl, rfl⟩ := e
                    obtain ⟨b, off, rfl, hc⟩ := h5 (by omega)
                    have hr : (rowsG G1)[i]? = some (rowsG G1)[i] := List.getElem?_eq_getElem hil
                    generalize (rowsG G1)[i] = r at hr
                    obtain ⟨d0, d1, d2, d3, d4, d5⟩ := hc i r hr
                    have HXm : Hid (r ∈ rowsG G1) := List.mem_of_getElem? hr
                    clear hc h5 hr
                    obtain ⟨px, pk, pw, pa, pt⟩ := r
                    simp only at d0 d1 d2 d3 d4 d5
                    have HBX : Hid (Below wz.heap.size wz (wr.alloc (.cells #[.int .i64 px.1, .int .u64 px.2, .string pk, .bool pw, .int .i64 pa, .int .i64 pt] 47))) := HWi.out.alloc HWi.out.size _
                    have HXX : Hid ((wr.alloc (.cells #[.int .i64 px.1, .int .u64 px.2, .string pk, .bool pw, .int .i64 pa, .int .i64 pt] 47)).heap[wr.heap.size]? = some (.cells #[.int .i64 px.1, .int .u64 px.2, .string pk, .bool pw, .int .i64 pa, .int .i64 pt] 47)) := heap_alloc_new wr _
                    have s0 := cell_later HBX.out HC0.out
                    go_wp2
                    generalize wr.alloc (.cells #[.int .i64 px.1, .int .u64 px.2, .string pk, .bool pw, .int .i64 pa, .int .i64 pt] 47) = wi at *
                    generalize wr.heap.size = bp at *
                    clear d0 d1 d2 d3 d4 d5 s0 HWi
                    go_loopw [129] (fun t wx => ∃ j : Nat, t = .int .i64 (j : Nat) ∧ j ≤ (rowsG G1).length ∧ Hid (Below wz.heap.size wz wx) ∧ Hid (wx.heap[bp]? = some (.cells #[.int .i64 px.1, .int .u64 px.2, .string pk, .bool pw, .int .i64 pa, .int .i64 pt] 47))) (fun t _ => (rowsG G1).length - (intOf t).toNat)
                    case atStart => exact ⟨0, rfl, by omega, HBX, HXX⟩
                    case round =>
                      clear HBX HXX
                      obtain ⟨j, rfl, hj, HBj, HXj⟩ := hrel
                      by_cases hjl : j < (rowsG G1).length
                      · obtain ⟨a', c', e, -, -, -, h5⟩ := rows_at (owns_later HO.out HBj.out)
                        simp only [Value.slice.injEq, true_and] at e
                        obtain ⟨e, rfl⟩ := e
                        obtain ⟨b2, off2, e2, hc⟩ := h5 (by omega)
                        rw [← e] at e2
                        simp only [Option.some.injEq, Addr.mk.injEq] at e2
                        obtain ⟨rfl, rfl, -⟩ := e2
                        have hr : (rowsG G1)[j]? = some (rowsG G1)[j] := List.getElem?_eq_getElem hjl
                        generalize (rowsG G1)[j] = r at hr
                        obtain ⟨d0, d1, d2, d3, d4, d5⟩ := hc j r hr
                        have HYm : Hid (r ∈ rowsG G1) := List.mem_of_getElem? hr
                        clear hc h5 hr e
                        obtain ⟨yx, yk, yw, ya, yt⟩ := r
                        simp only at d0 d1 d2 d3 d4 d5
                        have HBY : Hid (Below wz.heap.size wz (wr.alloc (.cells #[.int .i64 yx.1, .int .u64 yx.2, .string yk, .bool yw, .int .i64 ya, .int .i64 yt] 47))) := HBj.out.alloc HBj.out.size _
                        have HXY : Hid ((wr.alloc (.cells #[.int .i64 yx.1, .int .u64 yx.2, .string yk, .bool yw, .int .i64 ya, .int .i64 yt] 47)).heap[bp]? = some (.cells #[.int .i64 px.1, .int .u64 px.2, .string pk, .bool pw, .int .i64 pa, .int .i64 pt] 47)) := (heap_alloc_old _ _ (Array.getElem?_eq_some_iff.1 HXj.out).1).trans HXj.out
                        have x0 : wr.cell? ⟨bp, 0, none⟩ = some (.int .i64 px.1) := cell_of_heap HXj.out rfl
                        have x1 : wr.cell? ⟨bp, 1, none⟩ = some (.int .u64 px.2) := cell_of_heap HXj.out rfl
                        have x2 : wr.cell? ⟨bp, 2, none⟩ = some (.string pk) := cell_of_heap HXj.out rfl
                        have x3 : wr.cell? ⟨bp, 3, none⟩ = some (.bool pw) := cell_of_heap HXj.out rfl
                        have x5 : wr.cell? ⟨bp, 5, none⟩ = some (.int .i64 pt) := cell_of_heap HXj.out rfl
                        have hbp : bp < wr.heap.size := (Array.getElem?_eq_some_iff.1 HXj.out).1
                        have HOKK : Hid (pt = 0 → yt = 0 → pk = yk → pk ≠ ⟨#[]⟩ → pw = true → px = yx) := fun h1 h2 h3 h4 h5 => alone_rows HAP.out HXm.out HYm.out h1 h2 h3 h4 h5
                        have hne := neq_31 px yx
                        by_cases hpt : pt = 0
                        · subst hpt
                          by_cases hyt : yt = 0
                          · subst hyt
                            by_cases hkk : pk = yk
                            · have hbe : (pk.toList == yk.toList) = true := by simp [hkk]
                              by_cases hz : pk = ⟨#[]⟩
                              · have hbz : (pk.toList == []) = true := by rw [none_eq]; simp [hz]
                                clear hkk hz
                                go_wp2
                                go_roundw
                                case rel => first | exact ⟨j + 1, by go_num, by omega, HBY, HXY⟩
                                case measure => simp [intOf]; omega
                              · have hbz : (pk.toList == []) = false := by rw [none_eq]; simp [hz]
                                cases pw
                                · clear hkk hz
                                  go_wp2
                                  go_roundw
                                  case rel => first | exact ⟨j + 1, by go_num, by omega, HBY, HXY⟩
                                  case measure => simp [intOf]; omega
                                · have hid := HOKK.out rfl rfl hkk hz rfl
                                  subst hid
                                  simp only [decide_true, Bool.not_true] at hne
                                  clear hkk hz HOKK
                                  go_wp2
                                  go_roundw
                                  case rel => first | exact ⟨j + 1, by go_num, by omega, HBY, HXY⟩
                                  case measure => simp [intOf]; omega
                            · have hbe : (pk.toList == yk.toList) = false := by rw [key_eq]; simp [hkk]
                              clear hkk
                              go_wp2
                              go_roundw
                              case rel => first | exact ⟨j + 1, by go_num, by omega, HBY, HXY⟩
                              case measure => simp [intOf]; omega
                          · have hby : (yt == 0) = false := by simp [hyt]
                            clear hyt
                            go_wp2
                            go_roundw
                            case rel => first | exact ⟨j + 1, by go_num, by omega, HBY, HXY⟩
                            case measure => simp [intOf]; omega
                        · have hbx : (pt == 0) = false := by simp [hpt]
                          clear hpt
                          go_wp2
                          go_roundw
                          case rel => first | exact ⟨j + 1, by go_num, by omega, HBY, HXY⟩
                          case measure => simp [intOf]; omega
                      · go_wp2
                        go_roundw
                        case rel => exact ⟨i + 1, by go_num, by omega, HBj⟩
                        case measure => simp [intOf]; omega
                  · have HBF : Hid (Below w.heap.size w wr) := HBW.out.trans (HWi.out.mono HBW.out.size)
                    have HSF : Hid (∃ c' G F last lastR, c' ≤ k + 1 ∧ c' ≤ 25 ∧ Alone wr w.heap.size w.heap.size (w.heap.size + 1) c' G F last lastR) := by
                      obtain ⟨G2, F2, l2, r2, h2⟩ := HAL.out
                      exact ⟨c + 1, G2, F2, l2, r2, by omega, by omega, h2.later HWi.out⟩
                    go_wp2
                    go_roundw
                    case rel => exact ⟨k + 1, by go_num, by omega, HBF, HSF⟩
                    case measure => simp [intOf]; omega
      · have HNT : Hid (Tb w4 w.heap.size w.heap.size (heldG G) F last) := HTK.out.no ht
        have hne : (takeE (heldG G) last xid xa (fewL xrn xR) (fewL xwn xW) == 0) = false := by simp [ht]
        generalize takeE (heldG G) last xid xa (fewL xrn xR) (fewL xwn xW) = res at *
        clear ht HTK
        have h1000 : (heldG G).length ≤ 1000 := by have := heldG_length G; have := HA3.out.lenG; omega
        have hF1000 : F.length ≤ 1000 := by have := HA3.out.lenF; omega
        have hR1000 : (rowsG G).length ≤ 100000 := by have := HA3.out.lenR; omega
        have c1 : w4.cell? ⟨bx, 1, none⟩ = some (.int .i64 xid.1) := cell_of_heap HX4.out rfl
        have c2 : w4.cell? ⟨bx, 2, none⟩ = some (.int .u64 xid.2) := cell_of_heap HX4.out rfl
        have c3 : w4.cell? ⟨bx, 3, none⟩ = some (.int .i64 xa) := cell_of_heap HX4.out rfl
        have q := free_any w.heap.size w.heap.size (heldG G) F last xid xa w4 HNT.out h1000 hF1000 HB4.out.size
        go_wp2_with fail
        refine q.mono ?_
        rintro e w5 ⟨rfl, hT5, hF5⟩
        have HFD : Hid (Freed w5 w.heap.size w.heap.size (heldG G) F last xid xa) := hT5
        have HB5 : Hid (Below w.heap.size w w5) := HB4.out.trans (hF5.below HB4.out.size)
        have HX5 : Hid (w5.heap[bx]? = some (.cells #[.int .i64 xk, .int .i64 xid.1, .int .u64 xid.2, .int .i64 xa, .slice xra xrn xrc, .slice xwa xwn xwc] 34)) := hF5.cells HX4.out (by simp)
        have HR5 : Hid (Rt w5 w.heap.size (w.heap.size + 1) (rowsG G) lastR) := (HA3.out.r.fr HF34.out (by simp) (by simp)).fr hF5 (by simp) (by simp)
        clear q hT5 hF5 c1 c2 c3 hne
        by_cases hf : freeE (heldG G) last xid xa = 0
        · have HF0 : Hid (freeE (heldG G) last xid xa = 0) := hf
          rw [hf]
          clear hf
          have c1 : w5.cell? ⟨bx, 1, none⟩ = some (.int .i64 xid.1) := cell_of_heap HX5.out rfl
          have c2 : w5.cell? ⟨bx, 2, none⟩ = some (.int .u64 xid.2) := cell_of_heap HX5.out rfl
          have c3 : w5.cell? ⟨bx, 3, none⟩ = some (.int .i64 xa) := cell_of_heap HX5.out rfl
          have q := rfree_any w.heap.size (w.heap.size + 1) (rowsG G) lastR xid xa w5 HR5.out hR1000 HB5.out.size
          go_wp2_with fail
          refine q.mono ?_
          rintro e wz ⟨rfl, hT7, hF7⟩
          have HAL : Hid (∃ G F last lastR, Alone wz w.heap.size w.heap.size (w.heap.size + 1) (c + 1) G F last lastR) := HA3.out.free HF0.out HFD.out hT7 hF7
          have HBW : Hid (Below w.heap.size w wz) := HB5.out.trans (hF7.below HB5.out.size)
          clear q hT7 hF7 c1 c2 c3
          obtain ⟨G1, F1, last1, lastR1, hal⟩ := HAL.out
          obtain ⟨va, vc, t1, t2, tc0, -⟩ := hal.r.cells
          have HO : Hid (wz.ownsRow w.heap.size 47 6 (.slice va (rowsG G1).length vc) (rowsG G1).length ((rowsG G1).flatMap Rw.cells)) := t2
          have HC0 : Hid (wz.cell? ⟨w.heap.size + 1, 0, none⟩ = some (.slice va (rowsG G1).length vc)) := tc0
          have HAP : Hid (G1.Pairwise Apart) := hal.inv.apart
          have hlR : (rowsG G1).length ≤ 100000 := by have := hal.lenR; omega
          clear t1 t2 hal
          go_wp2
          go_loopw [120] (fun t wx => ∃ i : Nat, t = .int .i64 (i : Nat) ∧ i ≤ (rowsG G1).length ∧ Hid (Below wz.heap.size wz wx)) (fun t _ => (rowsG G1).length - (intOf t).toNat)
          case atStart => exact ⟨0, rfl, by omega, Below.refl _ _⟩
          case round =>
            obtain ⟨i, rfl, hi, HWi⟩ := hrel
            clear tc0
            by_cases hil : i < (rowsG G1).length
            · obtain ⟨a', c', e, -, -, -, h5⟩ := rows_at (owns_later HO.out HWi.out)
              simp only [Value.slice.injEq, true_and] at e
              obtain ⟨rfl, rfl⟩ := e
              obtain ⟨b, off, rfl, hc⟩ := h5 (by omega)
              have hr : (rowsG G1)[i]? = some (rowsG G1)[i] := List.getElem?_eq_getElem hil
              generalize (rowsG G1)[i] = r at hr
              obtain ⟨d0, d1, d2, d3, d4, d5⟩ := hc i r hr
              have HXm : Hid (r ∈ rowsG G1) := List.mem_of_getElem? hr
              clear hc h5 hr
              obtain ⟨px, pk, pw, pa, pt⟩ := r
              simp only at d0 d1 d2 d3 d4 d5
              have HBX : Hid (Below wz.heap.size wz (wr.alloc (.cells #[.int .i64 px.1, .int .u64 px.2, .string pk, .bool pw, .int .i64 pa, .int .i64 pt] 47))) := HWi.out.alloc HWi.out.size _
              have HXX : Hid ((wr.alloc (.cells #[.int .i64 px.1, .int .u64 px.2, .string pk, .bool pw, .int .i64 pa, .int .i64 pt] 47)).heap[wr.heap.size]? = some (.cells #[.int .i64 px.1, .int .u64 px.2, .string pk, .bool pw, .int .i64 pa, .int .i64 pt] 47)) := heap_alloc_new wr _
              have s0 := cell_later HBX.out HC0.out
              go_wp2
              generalize wr.alloc (.cells #[.int .i64 px.1, .int .u64 px.2, .string pk, .bool pw, .int .i64 pa, .int .i64 pt] 47) = wi at *
              generalize wr.heap.size = bp at *
              clear d0 d1 d2 d3 d4 d5 s0 HWi
              go_loopw [129] (fun t wx => ∃ j : Nat, t = .int .i64 (j : Nat) ∧ j ≤ (rowsG G1).length ∧ Hid (Below wz.heap.size wz wx) ∧ Hid (wx.heap[bp]? = some (.cells #[.int .i64 px.1, .int .u64 px.2, .string pk, .bool pw, .int .i64 pa, .int .i64 pt] 47))) (fun t _ => (rowsG G1).length - (intOf t).toNat)
              case atStart => exact ⟨0, rfl, by omega, HBX, HXX⟩
              case round =>
                clear HBX HXX
                obtain ⟨j, rfl, hj, HBj, HXj⟩ := hrel
                by_cases hjl : j < (rowsG G1).length
                · obtain ⟨a', c', e, -, -, -, h5⟩ := rows_at (owns_later HO.out HBj.out)
                  simp only [Value.slice.injEq, true_and] at e
                  obtain ⟨e, rfl⟩ := e
                  obtain ⟨b2, off2, e2, hc⟩ := h5 (by omega)
                  rw [← e] at e2
                  simp only [Option.some.injEq, Addr.mk.injEq] at e2
                  obtain ⟨rfl, rfl, -⟩ := e2
                  have hr : (rowsG G1)[j]? = some (rowsG G1)[j] := List.getElem?_eq_getElem hjl
                  generalize (rowsG G1)[j] = r at hr
                  obtain ⟨d0, d1, d2, d3, d4, d5⟩ := hc j r hr
                  have HYm : Hid (r ∈ rowsG G1) := List.mem_of_getElem? hr
                  clear hc h5 hr e
                  obtain ⟨yx, yk, yw, ya, yt⟩ := r
                  simp only at d0 d1 d2 d3 d4 d5
                  have HBY : Hid (Below wz.heap.size wz (wr.alloc (.cells #[.int .i64 yx.1, .int .u64 yx.2, .string yk, .bool yw, .int .i64 ya, .int .i64 yt] 47))) := HBj.out.alloc HBj.out.size _
                  have HXY : Hid ((wr.alloc (.cells #[.int .i64 yx.1, .int .u64 yx.2, .string yk, .bool yw, .int .i64 ya, .int .i64 yt] 47)).heap[bp]? = some (.cells #[.int .i64 px.1, .int .u64 px.2, .string pk, .bool pw, .int .i64 pa, .int .i64 pt] 47)) := (heap_alloc_old _ _ (Array.getElem?_eq_some_iff.1 HXj.out).1).trans HXj.out
                  have x0 : wr.cell? ⟨bp, 0, none⟩ = some (.int .i64 px.1) := cell_of_heap HXj.out rfl
                  have x1 : wr.cell? ⟨bp, 1, none⟩ = some (.int .u64 px.2) := cell_of_heap HXj.out rfl
                  have x2 : wr.cell? ⟨bp, 2, none⟩ = some (.string pk) := cell_of_heap HXj.out rfl
                  have x3 : wr.cell? ⟨bp, 3, none⟩ = some (.bool pw) := cell_of_heap HXj.out rfl
                  have x5 : wr.cell? ⟨bp, 5, none⟩ = some (.int .i64 pt) := cell_of_heap HXj.out rfl
                  have hbp : bp < wr.heap.size := (Array.getElem?_eq_some_iff.1 HXj.out).1
                  have HOKK : Hid (pt = 0 → yt = 0 → pk = yk → pk ≠ ⟨#[]⟩ → pw = true → px = yx) := fun h1 h2 h3 h4 h5 => alone_rows HAP.out HXm.out HYm.out h1 h2 h3 h4 h5
                  have hne := neq_31 px yx
                  by_cases hpt : pt = 0
                  · subst hpt
                    by_cases hyt : yt = 0
                    · subst hyt
                      by_cases hkk : pk = yk
                      · have hbe : (pk.toList == yk.toList) = true := by simp [hkk]
                        by_cases hz : pk = ⟨#[]⟩
                        · have hbz : (pk.toList == []) = true := by rw [none_eq]; simp [hz]
                          clear hkk hz
                          go_wp2
                          go_roundw
                          case rel => first | exact ⟨j + 1, by go_num, by omega, HBY, HXY⟩
                          case measure => simp [intOf]; omega
                        · have hbz : (pk.toList == []) = false := by rw [none_eq]; simp [hz]
                          cases pw
                          · clear hkk hz
                            go_wp2
                            go_roundw
                            case rel => first | exact ⟨j + 1, by go_num, by omega, HBY, HXY⟩
                            case measure => simp [intOf]; omega
                          · have hid := HOKK.out rfl rfl hkk hz rfl
                            subst hid
                            simp only [decide_true, Bool.not_true] at hne
                            clear hkk hz HOKK
                            go_wp2
                            go_roundw
                            case rel => first | exact ⟨j + 1, by go_num, by omega, HBY, HXY⟩
                            case measure => simp [intOf]; omega
                      · have hbe : (pk.toList == yk.toList) = false := by rw [key_eq]; simp [hkk]
                        clear hkk
                        go_wp2
                        go_roundw
                        case rel => first | exact ⟨j + 1, by go_num, by omega, HBY, HXY⟩
                        case measure => simp [intOf]; omega
                    · have hby : (yt == 0) = false := by simp [hyt]
                      clear hyt
                      go_wp2
                      go_roundw
                      case rel => first | exact ⟨j + 1, by go_num, by omega, HBY, HXY⟩
                      case measure => simp [intOf]; omega
                  · have hbx : (pt == 0) = false := by simp [hpt]
                    clear hpt
                    go_wp2
                    go_roundw
                    case rel => first | exact ⟨j + 1, by go_num, by omega, HBY, HXY⟩
                    case measure => simp [intOf]; omega
                · go_wp2
                  go_roundw
                  case rel => exact ⟨i + 1, by go_num, by omega, HBj⟩
                  case measure => simp [intOf]; omega
            · have HBF : Hid (Below w.heap.size w wr) := HBW.out.trans (HWi.out.mono HBW.out.size)
              have HSF : Hid (∃ c' G F last lastR, c' ≤ k + 1 ∧ c' ≤ 25 ∧ Alone wr w.heap.size w.heap.size (w.heap.size + 1) c' G F last lastR) := by
                obtain ⟨G2, F2, l2, r2, h2⟩ := HAL.out
                exact ⟨c + 1, G2, F2, l2, r2, by omega, by omega, h2.later HWi.out⟩
              go_wp2
              go_roundw
              case rel => exact ⟨k + 1, by go_num, by omega, HBF, HSF⟩
              case measure => simp [intOf]; omega
        · have hfe : (freeE (heldG G) last xid xa == 0) = false := by simp [hf]
          have HAL : Hid (∃ G F last lastR, Alone w5 w.heap.size w.heap.size (w.heap.size + 1) (c + 1) G F last lastR) := ⟨G, F, last, lastR, HFD.out.no hf, HR5.out, HA3.out.inv, HA3.out.le, HA3.out.more.lenG, HA3.out.more.lenF, HA3.out.more.lenR⟩
          have HBW := HB5
          generalize freeE (heldG G) last xid xa = res2 at *
          clear hf
          obtain ⟨G1, F1, last1, lastR1, hal⟩ := HAL.out
          obtain ⟨va, vc, t1, t2, tc0, -⟩ := hal.r.cells
          have HO : Hid (w5.ownsRow w.heap.size 47 6 (.slice va (rowsG G1).length vc) (rowsG G1).length ((rowsG G1).flatMap Rw.cells)) := t2
          have HC0 : Hid (w5.cell? ⟨w.heap.size + 1, 0, none⟩ = some (.slice va (rowsG G1).length vc)) := tc0
          have HAP : Hid (G1.Pairwise Apart) := hal.inv.apart
          have hlR : (rowsG G1).length ≤ 100000 := by have := hal.lenR; omega
          clear t1 t2 hal
          go_wp2
          go_loopw [120] (fun t wx => ∃ i : Nat, t = .int .i64 (i : Nat) ∧ i ≤ (rowsG G1).length ∧ Hid (Below w5.heap.size w5 wx)) (fun t _ => (rowsG G1).length - (intOf t).toNat)
          case atStart => exact ⟨0, rfl, by omega, Below.refl _ _⟩
          case round =>
            obtain ⟨i, rfl, hi, HWi⟩ := hrel
            clear tc0
            by_cases hil : i < (rowsG G1).length
            · obtain ⟨a', c', e, -, -, -, h5⟩ := rows_at (owns_later HO.out HWi.out)
              simp only [Value.slice.injEq, true_and] at e
              obtain ⟨rfl, rfl⟩ := e
              obtain ⟨b, off, rfl, hc⟩ := h5 (by omega)
              have hr : (rowsG G1)[i]? = some (rowsG G1)[i] := List.getElem?_eq_getElem hil
              generalize (rowsG G1)[i] = r at hr
              obtain ⟨d0, d1, d2, d3, d4, d5⟩ := hc i r hr
              have HXm : Hid (r ∈ rowsG G1) := List.mem_of_getElem? hr
              clear hc h5 hr
              obtain ⟨px, pk, pw, pa, pt⟩ := r
              simp only at d0 d1 d2 d3 d4 d5
              have HBX : Hid (Below w5.heap.size w5 (wr.alloc (.cells #[.int .i64 px.1, .int .u64 px.2, .string pk, .bool pw, .int .i64 pa, .int .i64 pt] 47))) := HWi.out.alloc HWi.out.size _
              have HXX : Hid ((wr.alloc (.cells #[.int .i64 px.1, .int .u64 px.2, .string pk, .bool pw, .int .i64 pa, .int .i64 pt] 47)).heap[wr.heap.size]? = some (.cells #[.int .i64 px.1, .int .u64 px.2, .string pk, .bool pw, .int .i64 pa, .int .i64 pt] 47)) := heap_alloc_new wr _
              have s0 := cell_later HBX.out HC0.out
              go_wp2
              generalize wr.alloc (.cells #[.int .i64 px.1, .int .u64 px.2, .string pk, .bool pw, .int .i64 pa, .int .i64 pt] 47) = wi at *
              generalize wr.heap.size = bp at *
              clear d0 d1 d2 d3 d4 d5 s0 HWi
              go_loopw [129] (fun t wx => ∃ j : Nat, t = .int .i64 (j : Nat) ∧ j ≤ (rowsG G1).length ∧ Hid (Below w5.heap.size w5 wx) ∧ Hid (wx.heap[bp]? = some (.cells #[.int .i64 px.1, .int .u64 px.2, .string pk, .bool pw, .int .i64 pa, .int .i64 pt] 47))) (fun t _ => (rowsG G1).length - (intOf t).toNat)
              case atStart => exact ⟨0, rfl, by omega, HBX, HXX⟩
              case round =>
                clear HBX HXX
                obtain ⟨j, rfl, hj, HBj, HXj⟩ := hrel
                by_cases hjl : j < (rowsG G1).length
                · obtain ⟨a', c', e, -, -, -, h5⟩ := rows_at (owns_later HO.out HBj.out)
                  simp only [Value.slice.injEq, true_and] at e
                  obtain ⟨e, rfl⟩ := e
                  obtain ⟨b2, off2, e2, hc⟩ := h5 (by omega)
                  rw [← e] at e2
                  simp only [Option.some.injEq, Addr.mk.injEq] at e2
                  obtain ⟨rfl, rfl, -⟩ := e2
                  have hr : (rowsG G1)[j]? = some (rowsG G1)[j] := List.getElem?_eq_getElem hjl
                  generalize (rowsG G1)[j] = r at hr
                  obtain ⟨d0, d1, d2, d3, d4, d5⟩ := hc j r hr
                  have HYm : Hid (r ∈ rowsG G1) := List.mem_of_getElem? hr
                  clear hc h5 hr e
                  obtain ⟨yx, yk, yw, ya, yt⟩ := r
                  simp only at d0 d1 d2 d3 d4 d5
                  have HBY : Hid (Below w5.heap.size w5 (wr.alloc (.cells #[.int .i64 yx.1, .int .u64 yx.2, .string yk, .bool yw, .int .i64 ya, .int .i64 yt] 47))) := HBj.out.alloc HBj.out.size _
                  have HXY : Hid ((wr.alloc (.cells #[.int .i64 yx.1, .int .u64 yx.2, .string yk, .bool yw, .int .i64 ya, .int .i64 yt] 47)).heap[bp]? = some (.cells #[.int .i64 px.1, .int .u64 px.2, .string pk, .bool pw, .int .i64 pa, .int .i64 pt] 47)) := (heap_alloc_old _ _ (Array.getElem?_eq_some_iff.1 HXj.out).1).trans HXj.out
                  have x0 : wr.cell? ⟨bp, 0, none⟩ = some (.int .i64 px.1) := cell_of_heap HXj.out rfl
                  have x1 : wr.cell? ⟨bp, 1, none⟩ = some (.int .u64 px.2) := cell_of_heap HXj.out rfl
                  have x2 : wr.cell? ⟨bp, 2, none⟩ = some (.string pk) := cell_of_heap HXj.out rfl
                  have x3 : wr.cell? ⟨bp, 3, none⟩ = some (.bool pw) := cell_of_heap HXj.out rfl
                  have x5 : wr.cell? ⟨bp, 5, none⟩ = some (.int .i64 pt) := cell_of_heap HXj.out rfl
                  have hbp : bp < wr.heap.size := (Array.getElem?_eq_some_iff.1 HXj.out).1
                  have HOKK : Hid (pt = 0 → yt = 0 → pk = yk → pk ≠ ⟨#[]⟩ → pw = true → px = yx) := fun h1 h2 h3 h4 h5 => alone_rows HAP.out HXm.out HYm.out h1 h2 h3 h4 h5
                  have hne := neq_31 px yx
                  by_cases hpt : pt = 0
                  · subst hpt
                    by_cases hyt : yt = 0
                    · subst hyt
                      by_cases hkk : pk = yk
                      · have hbe : (pk.toList == yk.toList) = true := by simp [hkk]
                        by_cases hz : pk = ⟨#[]⟩
                        · have hbz : (pk.toList == []) = true := by rw [none_eq]; simp [hz]
                          clear hkk hz
                          go_wp2
                          go_roundw
                          case rel => first | exact ⟨j + 1, by go_num, by omega, HBY, HXY⟩
                          case measure => simp [intOf]; omega
                        · have hbz : (pk.toList == []) = false := by rw [none_eq]; simp [hz]
                          cases pw
                          · clear hkk hz
                            go_wp2
                            go_roundw
                            case rel => first | exact ⟨j + 1, by go_num, by omega, HBY, HXY⟩
                            case measure => simp [intOf]; omega
                          · have hid := HOKK.out rfl rfl hkk hz rfl
                            subst hid
                            simp only [decide_true, Bool.not_true] at hne
                            clear hkk hz HOKK
                            go_wp2
                            go_roundw
                            case rel => first | exact ⟨j + 1, by go_num, by omega, HBY, HXY⟩
                            case measure => simp [intOf]; omega
                      · have hbe : (pk.toList == yk.toList) = false := by rw [key_eq]; simp [hkk]
                        clear hkk
                        go_wp2
                        go_roundw
                        case rel => first | exact ⟨j + 1, by go_num, by omega, HBY, HXY⟩
                        case measure => simp [intOf]; omega
                    · have hby : (yt == 0) = false := by simp [hyt]
                      clear hyt
                      go_wp2
                      go_roundw
                      case rel => first | exact ⟨j + 1, by go_num, by omega, HBY, HXY⟩
                      case measure => simp [intOf]; omega
                  · have hbx : (pt == 0) = false := by simp [hpt]
                    clear hpt
                    go_wp2
                    go_roundw
                    case rel => first | exact ⟨j + 1, by go_num, by omega, HBY, HXY⟩
                    case measure => simp [intOf]; omega
                · go_wp2
                  go_roundw
                  case rel => exact ⟨i + 1, by go_num, by omega, HBj⟩
                  case measure => simp [intOf]; omega
            · have HBF : Hid (Below w.heap.size w wr) := HBW.out.trans (HWi.out.mono HBW.out.size)
              have HSF : Hid (∃ c' G F last lastR, c' ≤ k + 1 ∧ c' ≤ 25 ∧ Alone wr w.heap.size w.heap.size (w.heap.size + 1) c' G F last lastR) := by
                obtain ⟨G2, F2, l2, r2, h2⟩ := HAL.out
                exact ⟨c + 1, G2, F2, l2, r2, by omega, by omega, h2.later HWi.out⟩
              go_wp2
              go_roundw
              case rel => exact ⟨k + 1, by go_num, by omega, HBF, HSF⟩
              case measure => simp [intOf]; omega
    · go_wp2_with fail
      refine (awake_any wr).mono ?_
      rintro e w5 ⟨rfl, hb⟩
      have HBF : Hid (Below w.heap.size w w5) := HB.out.trans (hb.mono HB.out.size)
      clear hb
      go_wp2
      go_ret
      exact ⟨rfl, HBF.out⟩

/-! From the call to the statement. -/
set_option maxRecDepth 100000 in
theorem lifted (os : Os) (started : os.Started) (H : Type) (enc : TypeId × Value → H) :
    ReturnsInHanded {} Try.checked os 4 .any (Rows.lockAloneSpec.pre6 enc Try.prog Try.f4 Rows.lockAloneRow.domain false) (Rows.lockAloneSpec.post enc Try.prog Try.f4 false true false false) := by
  refine returnsInHanded_of_change (C := Try.checked) own started (by kernel_rfl) Try.func4
    (ChangeSpec.witness6 (enc := enc) (C := Try.checked) false ⟨#[], #[.slice none 0 0], []⟩ 8 (by kernel_rfl) (by kernel_rfl) (by kernel_rfl) (by kernel_rfl)) ?_
  intro W base args ds gs before hval0 hW hcnd _
  have hval : ∀ (j : Nat) t v, Try.f4.params[j]? = some t → args[j]? = some v → Value.okWide Try.prog W .any base t v := hval0
  have hW' := hW
  obtain ⟨p, q, hA0, hV, rfl, hfz, hnd⟩ := hW
  have hA : DataW.TrodAll enc Try.prog W 0 (fun _ => true) true Try.f4.params.toList args.toList ds p := hA0
  rw [Try.params4] at hA hval
  obtain ⟨v0, vs0, d0, ds0, p0, q0, hargs, rfl, rfl, h0, r0⟩ := trodAll_cons hA
  obtain ⟨rfl, rfl, rfl⟩ := trodAll_nil r0
  obtain rfl : args = #[v0] := by cases args; simp_all
  obtain ⟨rfl, rfl⟩ := trodVars_none hV
  obtain ⟨a0, len0, cap0, rfl⟩ := okWide_slice Try.underlying22 (hval 0 22 v0 rfl rfl)
  have k0 := h0
  have lt0 : ∀ x ∈ p0, x.block < W.heap.size := by obtain ⟨m, hm⟩ := k0; exact DataW.trod_lt m _ _ _ hm
  obtain ⟨O0, w0⟩ := open_lops h0
  clear hA0 hval0
  refine (walk a0 len0 cap0 O0 W w0).mono fun e W' ⟨he, bel⟩ => ?_
  subst he
  exact ⟨_, rfl, _, _, _, [], _, [], hW', trodAll_mk1 (shut_bool Try.underlying4 _), (trodAll_cons_mk (Below.trod laidOut (by kernel_rfl) (of_decide_eq_true (by kernel_rfl)) k0 bel lt0) trodAll_mk0), rfl, bel.frame _, fun h => by cases h⟩

theorem over : Rows.lockAloneRow.holds Try.pinned (OpenSpec.ofChange Rows.lockAloneSpec) :=
  OpenClaim.holds_of_wide 4 Try.f4 rfl rfl rfl rfl rfl rfl rfl ⟨rfl, rfl, rfl, rfl, rfl⟩ rfl rfl rfl rfl rfl (by kernel_rfl) Try.func4 (by kernel_rfl)
    (of_decide_eq_true (by kernel_rfl)) (by unfold Func.isWrapper; first | (rw [if_pos (by decide +kernel)]; kernel_rfl) | (rw [if_neg (by decide +kernel)]; exact ⟨rfl, rfl⟩))
    (fun os started H enc _ => lifted os started H enc)
end Go.Proofs.Ytbhohedkgeokgaa.lockAlone
namespace Go.Proofs.Ytbhohedkgeokgaa
theorem lockAlone_holds : Rows.LockAloneSaid := lockAlone.over
#print axioms lockAlone_holds
end Go.Proofs.Ytbhohedkgeokgaa
