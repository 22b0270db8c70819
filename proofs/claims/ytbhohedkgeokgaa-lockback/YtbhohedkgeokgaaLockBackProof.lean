/-
  What is taken, and freed, can be taken again as ahead, by anybody: for all calls, whatever is taken and whoever takes it then, LockBack returns true, and its arguments read as before. No conditions.
-/
import Derived.Test.YtbhohedkgeokgaaRows
import Derived.Test.YtbhohedkgeokgaaLkS
import Derived.WalkKit
import Derived.ProofKit
import Derived.OpenShut
import Derived.ShutString
import Derived.ChangeOld
import Derived.Below
namespace Go.Proofs.Ytbhohedkgeokgaa.lockBack
open Go.ChangeShapes Go.WideShapes Go.ChangeAt Go.RowKit
open Go.ChangeMaps (open_string shut_string)
set_option linter.unusedSimpArgs false
set_option linter.unusedVariables false

theorem own : ownKnob Try.prog.godebug = none := by kernel_rfl
theorem laidOut : laidOutB Try.prog = true := by kernel_rfl

/-! The law returns true, and writes nothing that was there. -/
set_option maxRecDepth 100000 in
set_option maxHeartbeats 8000000 in
theorem walk (a0 : Option Addr) (len0 cap0 : Nat) (O0 : Nat → Lop) (o1 : Lop) (i2 : Id) (w : World) (w0 : Lops w a0 len0 O0) (w1 : o1.ok w) (w2 : (Lit.int .i64 i2.1).wf = true ∧ (Lit.int .u64 i2.2).wf = true) :
    Calls Try.prog 5 #[.slice a0 len0 cap0, lopv o1, idv i2] w fun e w' => e = .returned (.bool true) ∧ Below w.heap.size w w' := by
  obtain ⟨kd, oid, oa, ra, rn, rc, wa, wn, wc, R, W⟩ := o1
  have HRD : Hid (Strs w ra rn R) := w1.rd
  have HWR : Hid (Strs w wa wn W) := w1.wr
  have HLO : Hid (Lops w a0 len0 O0) := w0
  have hln : len0 ≤ maxLen := w0.1
  unfold maxLen at hln
  have b1 : Below w.heap.size w ((w.alloc (.cells #[.int .i64 kd, .int .i64 oid.1, .int .u64 oid.2, .int .i64 oa, .slice ra rn rc, .slice wa wn wc] 34)).alloc (.cells #[.int .i64 i2.1, .int .u64 i2.2] 31)) := ((Below.refl _ _).alloc (Nat.le_refl _) _).alloc (by simp) _
  have n1 : ((w.alloc (.cells #[.int .i64 kd, .int .i64 oid.1, .int .u64 oid.2, .int .i64 oa, .slice ra rn rc, .slice wa wn wc] 34)).alloc (.cells #[.int .i64 i2.1, .int .u64 i2.2] 31)).heap[w.heap.size]? = some (.cells #[.int .i64 kd, .int .i64 oid.1, .int .u64 oid.2, .int .i64 oa, .slice ra rn rc, .slice wa wn wc] 34) := (heap_alloc_old _ _ (by simp)).trans (heap_alloc_new w _)
  have n2 : ((w.alloc (.cells #[.int .i64 kd, .int .i64 oid.1, .int .u64 oid.2, .int .i64 oa, .slice ra rn rc, .slice wa wn wc] 34)).alloc (.cells #[.int .i64 i2.1, .int .u64 i2.2] 31)).heap[w.heap.size + 1]? = some (.cells #[.int .i64 i2.1, .int .u64 i2.2] 31) := by
    have := heap_alloc_new (w.alloc (.cells #[.int .i64 kd, .int .i64 oid.1, .int .u64 oid.2, .int .i64 oa, .slice ra rn rc, .slice wa wn wc] 34)) (.cells #[.int .i64 i2.1, .int .u64 i2.2] 31)
    rwa [World.size_alloc] at this
  have hsz : w.heap.size ≤ ((w.alloc (.cells #[.int .i64 kd, .int .i64 oid.1, .int .u64 oid.2, .int .i64 oa, .slice ra rn rc, .slice wa wn wc] 34)).alloc (.cells #[.int .i64 i2.1, .int .u64 i2.2] 31)).heap.size := by simp; omega
  clear w0 w1 w2
  go_enter Try.func5, Try.ntmps5
  go_wp2_with fail
  generalize (w.alloc (.cells #[.int .i64 kd, .int .i64 oid.1, .int .u64 oid.2, .int .i64 oa, .slice ra rn rc, .slice wa wn wc] 34)).alloc (.cells #[.int .i64 i2.1, .int .u64 i2.2] 31) = v1 at *
  refine (new_any v1).mono ?_
  rintro e v2 ⟨rfl, hv⟩
  subst hv
  have b2 : Below v1.heap.size v1 ((v1.alloc (.cells #[.slice none 0 0, .slice none 0 0, .int .i64 0] 54)).alloc (.cells #[.slice none 0 0, .int .i64 0] 28)) := ((Below.refl _ _).alloc (Nat.le_refl _) _).alloc (by simp) _
  have HB2 : Hid (Below w.heap.size w ((v1.alloc (.cells #[.slice none 0 0, .slice none 0 0, .int .i64 0] 54)).alloc (.cells #[.slice none 0 0, .int .i64 0] 28))) := b1.trans (b2.mono hsz)
  have HN1 : Hid (((v1.alloc (.cells #[.slice none 0 0, .slice none 0 0, .int .i64 0] 54)).alloc (.cells #[.slice none 0 0, .int .i64 0] 28)).heap[w.heap.size]? = some (.cells #[.int .i64 kd, .int .i64 oid.1, .int .u64 oid.2, .int .i64 oa, .slice ra rn rc, .slice wa wn wc] 34)) := (b2.block _ (Array.getElem?_eq_some_iff.1 n1).1).trans n1
  have HN2 : Hid (((v1.alloc (.cells #[.slice none 0 0, .slice none 0 0, .int .i64 0] 54)).alloc (.cells #[.slice none 0 0, .int .i64 0] 28)).heap[w.heap.size + 1]? = some (.cells #[.int .i64 i2.1, .int .u64 i2.2] 31)) := (b2.block _ (Array.getElem?_eq_some_iff.1 n2).1).trans n2
  have HBO : Hid (Both ((v1.alloc (.cells #[.slice none 0 0, .slice none 0 0, .int .i64 0] 54)).alloc (.cells #[.slice none 0 0, .int .i64 0] 28)) w.heap.size v1.heap.size (v1.heap.size + 1) 0 [] [] 0) := Both.new v1 _ hsz
  clear b1 b2 n1 n2 hsz
  go_wp2
  generalize (v1.alloc (.cells #[.slice none 0 0, .slice none 0 0, .int .i64 0] 54)).alloc (.cells #[.slice none 0 0, .int .i64 0] 28) = v3 at *
  go_loopw [21] (fun t wr => ∃ k : Nat, t = .int .i64 (k : Nat) ∧ k ≤ len0 ∧ Hid (Below w.heap.size w wr) ∧ Hid (wr.heap[w.heap.size]? = some (.cells #[.int .i64 kd, .int .i64 oid.1, .int .u64 oid.2, .int .i64 oa, .slice ra rn rc, .slice wa wn wc] 34)) ∧ Hid (wr.heap[w.heap.size + 1]? = some (.cells #[.int .i64 i2.1, .int .u64 i2.2] 31)) ∧ Hid (∃ c G F last, c ≤ k ∧ c ≤ 15 ∧ Both wr w.heap.size v1.heap.size (v1.heap.size + 1) c G F last)) (fun t _ => len0 - (intOf t).toNat)
  case atStart => exact ⟨0, rfl, by omega, HB2, HN1, HN2, 0, [], [], 0, by omega, by omega, HBO.out⟩
  case round =>
    clear HB2 HN1 HN2 HBO
    obtain ⟨k, rfl, hk, HB, HN1, HN2, HST⟩ := hrel
    by_cases hlt : k < len0
    · obtain ⟨b, off, rfl, hc⟩ := HLO.out.at (by omega)
      obtain ⟨hok, d0, d1, d2, d3, d4, d5⟩ := hc k hlt
      clear hc
      have d0 := (HB.out.cell (World.block_lt_of_cell? _ _ d0)).trans d0
      have d1 := (HB.out.cell (World.block_lt_of_cell? _ _ d1)).trans d1
      have d2 := (HB.out.cell (World.block_lt_of_cell? _ _ d2)).trans d2
      have d3 := (HB.out.cell (World.block_lt_of_cell? _ _ d3)).trans d3
      have d4 := (HB.out.cell (World.block_lt_of_cell? _ _ d4)).trans d4
      have d5 := (HB.out.cell (World.block_lt_of_cell? _ _ d5)).trans d5
      generalize O0 k = x at d0 d1 d2 d3 d4 d5 hok
      obtain ⟨xk, xid, xa, xra, xrn, xrc, xwa, xwn, xwc, xR, xW⟩ := x
      simp only at d0 d1 d2 d3 d4 d5
      have HOK : Hid (Lop.ok w ⟨xk, xid, xa, xra, xrn, xrc, xwa, xwn, xwc, xR, xW⟩) := hok
      clear hok
      have bx : Below wr.heap.size wr (wr.alloc (.cells #[.int .i64 xk, .int .i64 xid.1, .int .u64 xid.2, .int .i64 xa, .slice xra xrn xrc, .slice xwa xwn xwc] 34)) := (Below.refl _ _).alloc (Nat.le_refl _) _
      have HBX : Hid (Below w.heap.size w (wr.alloc (.cells #[.int .i64 xk, .int .i64 xid.1, .int .u64 xid.2, .int .i64 xa, .slice xra xrn xrc, .slice xwa xwn xwc] 34))) := HB.out.trans (bx.mono HB.out.size)
      have HX1 : Hid ((wr.alloc (.cells #[.int .i64 xk, .int .i64 xid.1, .int .u64 xid.2, .int .i64 xa, .slice xra xrn xrc, .slice xwa xwn xwc] 34)).heap[w.heap.size]? = some (.cells #[.int .i64 kd, .int .i64 oid.1, .int .u64 oid.2, .int .i64 oa, .slice ra rn rc, .slice wa wn wc] 34)) := (bx.block _ (Array.getElem?_eq_some_iff.1 HN1.out).1).trans HN1.out
      have HX2 : Hid ((wr.alloc (.cells #[.int .i64 xk, .int .i64 xid.1, .int .u64 xid.2, .int .i64 xa, .slice xra xrn xrc, .slice xwa xwn xwc] 34)).heap[w.heap.size + 1]? = some (.cells #[.int .i64 i2.1, .int .u64 i2.2] 31)) := (bx.block _ (Array.getElem?_eq_some_iff.1 HN2.out).1).trans HN2.out
      obtain ⟨c, G, F, last, hck, hc15, hst⟩ := HST.out
      have HSX : Hid (Both (wr.alloc (.cells #[.int .i64 xk, .int .i64 xid.1, .int .u64 xid.2, .int .i64 xa, .slice xra xrn xrc, .slice xwa xwn xwc] 34)) w.heap.size v1.heap.size (v1.heap.size + 1) c G F last) := hst.later bx
      clear HST hst bx
      by_cases h15 : k < 15
      · have q := step_any w v1.heap.size (v1.heap.size + 1) c G F last ⟨xk, xid, xa, xra, xrn, xrc, xwa, xwn, xwc, xR, xW⟩ (wr.alloc (.cells #[.int .i64 xk, .int .i64 xid.1, .int .u64 xid.2, .int .i64 xa, .slice xra xrn xrc, .slice xwa xwn xwc] 34)) HBX.out HOK.out HSX.out (by omega)
        go_wp2_with fail
        refine q.mono ?_
        rintro e w5 ⟨rfl, ⟨G', F', last', hst⟩, hF⟩
        have HB5 : Hid (Below w.heap.size w w5) := HBX.out.trans (hF.below HBX.out.size)
        have H51 : Hid (w5.heap[w.heap.size]? = some (.cells #[.int .i64 kd, .int .i64 oid.1, .int .u64 oid.2, .int .i64 oa, .slice ra rn rc, .slice wa wn wc] 34)) := hF.cells HX1.out (by simp)
        have H52 : Hid (w5.heap[w.heap.size + 1]? = some (.cells #[.int .i64 i2.1, .int .u64 i2.2] 31)) := hF.cells HX2.out (by simp)
        have HS5 : Hid (∃ c G F last, c ≤ k + 1 ∧ c ≤ 15 ∧ Both w5 w.heap.size v1.heap.size (v1.heap.size + 1) c G F last) := ⟨c + 1, G', F', last', by omega, by omega, hst⟩
        clear q hst hF d0 d1 d2 d3 d4 d5 HSX HX1 HX2 HBX
        go_wp2
        go_roundw
        case rel => exact ⟨k + 1, by go_num, by omega, HB5, H51, H52, HS5⟩
        case measure => simp [intOf]; omega
      · have HS5 : Hid (∃ c G F last, c ≤ k + 1 ∧ c ≤ 15 ∧ Both (wr.alloc (.cells #[.int .i64 xk, .int .i64 xid.1, .int .u64 xid.2, .int .i64 xa, .slice xra xrn xrc, .slice xwa xwn xwc] 34)) w.heap.size v1.heap.size (v1.heap.size + 1) c G F last) := ⟨c, G, F, last, by omega, hc15, HSX.out⟩
        clear HSX
        go_wp2
        go_roundw
        case rel => exact ⟨k + 1, by go_num, by omega, HBX, HX1, HX2, HS5⟩
        case measure => simp [intOf]; omega
    · obtain ⟨c, G, F, last, hck, hc15, hst⟩ := HST.out
      have HSX : Hid (Both wr w.heap.size v1.heap.size (v1.heap.size + 1) c G F last) := hst
      have hl0 : 0 ≤ last := hst.inv.nonneg
      have h1000 : (heldG G).length ≤ 1000 := by have := heldG_length G; have := hst.lenG; omega
      have h20 : (heldG G).length ≤ 20 := by have := heldG_length G; have := hst.lenG; omega
      have hF1000 : F.length ≤ 1000 := by have := hst.lenF; omega
      have hR1000 : (rowsG G).length ≤ 100000 := by have := hst.lenR; omega
      obtain ⟨_, _, -, -, -, e1⟩ := hst.r.cells
      have i0 : wr.cell? ⟨w.heap.size + 1, 0, none⟩ = some (.int .i64 i2.1) := cell_of_heap HN2.out rfl
      have i1 : wr.cell? ⟨w.heap.size + 1, 1, none⟩ = some (.int .u64 i2.2) := cell_of_heap HN2.out rfl
      clear HST hst hck hc15 HLO
      by_cases hbig : 1000000 < last
      · go_wp2_with fail
        refine (awake_any wr).mono ?_
        rintro e w5 ⟨rfl, hb⟩
        have HBF : Hid (Below w.heap.size w w5) := HB.out.trans (hb.mono HB.out.size)
        clear hb
        go_wp2
        go_ret
        exact ⟨rfl, HBF.out⟩
      · have q := rholds_any w.heap.size (v1.heap.size + 1) (rowsG G) last i2 wr HSX.out.r hR1000
        rw [holds_rows] at q
        go_wp2_with fail
        refine q.mono ?_
        rintro e w5 ⟨rfl, hb5⟩
        have HB5 : Hid (Below w.heap.size w w5) := HB.out.trans (hb5.mono HB.out.size)
        have H51 : Hid (w5.heap[w.heap.size]? = some (.cells #[.int .i64 kd, .int .i64 oid.1, .int .u64 oid.2, .int .i64 oa, .slice ra rn rc, .slice wa wn wc] 34)) := (hb5.block _ (Array.getElem?_eq_some_iff.1 HN1.out).1).trans HN1.out
        have H52 : Hid (w5.heap[w.heap.size + 1]? = some (.cells #[.int .i64 i2.1, .int .u64 i2.2] 31)) := (hb5.block _ (Array.getElem?_eq_some_iff.1 HN2.out).1).trans HN2.out
        have HS5 : Hid (Both w5 w.heap.size v1.heap.size (v1.heap.size + 1) c G F last) := HSX.out.later hb5
        clear q hb5 HSX HN1 HN2 HB e1 i0 i1
        cases hh : holdsS (heldG G) i2
        rotate_left
        · clear hh
          go_wp2_with fail
          refine (awake_any w5).mono ?_
          rintro e w6 ⟨rfl, hb⟩
          have HBF : Hid (Below w.heap.size w w6) := HB5.out.trans (hb.mono HB5.out.size)
          clear hb
          go_wp2
          go_ret
          exact ⟨rfl, HBF.out⟩
        · have HH : Hid (holdsS (heldG G) i2 = false) := hh
          clear hh
          go_upto_region 11 with fail
          have c4 : w5.cell? ⟨w.heap.size, 4, none⟩ = some (.slice ra rn rc) := cell_of_heap H51.out rfl
          have c5 : w5.cell? ⟨w.heap.size, 5, none⟩ = some (.slice wa wn wc) := cell_of_heap H51.out rfl
          refine wp_region_noPanic ?_
          refine wp_region_lets 7 (fun w' => w'.cell? ⟨w.heap.size, 4, none⟩ = some (.slice ra rn rc) ∧ w'.cell? ⟨w.heap.size, 5, none⟩ = some (.slice wa wn wc)) (by kernel_rfl) ?_ (fun hHeld => ?_)
          · exact ⟨c4, c5⟩
          refine lets_take (i := 0) (d := 45) (v := ?_) rfl rfl (by kernel_rfl) (by kernel_rfl) (by kernel_rfl) (by kernel_rfl) (fun _ _ _ h => h) (Or.inl ⟨by rfl, ?_⟩) hHeld ?_
          rotate_left
          · (intro w hSw; (try dsimp only at hSw); go_simp; all_goals (with_reducible rfl))
          try simp only [Act.put, List.setIfInBounds_toArray, List.set_cons_zero, List.set_cons_succ]
          refine lets_take (i := 1) (d := 46) (v := ?_) rfl rfl (by kernel_rfl) (by kernel_rfl) (by kernel_rfl) (by kernel_rfl) (fun _ _ _ h => h) (Or.inl ⟨by rfl, ?_⟩) hHeld ?_
          rotate_left
          · (intro w hSw; (try dsimp only at hSw); go_simp; all_goals (with_reducible rfl))
          try simp only [Act.put, List.setIfInBounds_toArray, List.set_cons_zero, List.set_cons_succ]
          refine lets_take (i := 3) (d := 48) (v := ?_) rfl rfl (by kernel_rfl) (by kernel_rfl) (by kernel_rfl) (by kernel_rfl) (fun _ _ _ h => h) (Or.inl ⟨by rfl, ?_⟩) hHeld ?_
          rotate_left
          · (intro w hSw; (try dsimp only at hSw); go_simp; all_goals (with_reducible rfl))
          try simp only [Act.put, List.setIfInBounds_toArray, List.set_cons_zero, List.set_cons_succ]
          refine lets_take (i := 4) (d := 49) (v := ?_) rfl rfl (by kernel_rfl) (by kernel_rfl) (by kernel_rfl) (by kernel_rfl) (fun _ _ _ h => h) (Or.inl ⟨by rfl, ?_⟩) hHeld ?_
          rotate_left
          · (intro w hSw; (try dsimp only at hSw); go_simp; all_goals (with_reducible rfl))
          try simp only [Act.put, List.setIfInBounds_toArray, List.set_cons_zero, List.set_cons_succ]
          have q1 := few_any ra rn rc R w5.drew (HRD.out.later HB5.out.drew)
          refine lets_one (i := 2) (by kernel_rfl) rfl (fun K hK => ?_)
          go_simp
          refine q1.mono ?_
          rintro e x2 ⟨⟨v2, rfl, hv2⟩, hb2⟩
          have b2 : Below w5.heap.size w5 x2 := (Below.refl _ w5).drew.trans hb2
          obtain ⟨ra2, rc2, rfl, -⟩ := hv2.slice
          have X21 : Hid (x2.heap[w.heap.size]? = some (.cells #[.int .i64 kd, .int .i64 oid.1, .int .u64 oid.2, .int .i64 oa, .slice ra rn rc, .slice wa wn wc] 34)) := (b2.block _ (Array.getElem?_eq_some_iff.1 H51.out).1).trans H51.out
          have k2 : x2.cell? ⟨w.heap.size, 4, none⟩ = some (.slice ra rn rc) ∧ x2.cell? ⟨w.heap.size, 5, none⟩ = some (.slice wa wn wc) := ⟨cell_of_heap X21.out rfl, cell_of_heap X21.out rfl⟩
          go_wp2_with fail
          refine hK.out _ _ ?_ (fun hHeld => ?_)
          · exact fun _ => k2
          replace hHeld := hHeld (by decide)
          clear hK K
          try simp only [Act.put, List.setIfInBounds_toArray, List.set_cons_zero, List.set_cons_succ]
          clear q1 k2
          have q1 := few_any wa wn wc W x2 (HWR.out.later (HB5.out.trans (b2.mono HB5.out.size)))
          refine lets_one (i := 5) (by kernel_rfl) rfl (fun K hK => ?_)
          go_simp
          refine q1.mono ?_
          rintro e x3 ⟨⟨v3, rfl, hv3⟩, hb3⟩
          obtain ⟨wa3, wc3, rfl, -⟩ := hv3.slice
          have b53 : Below w5.heap.size w5 x3 := b2.trans (hb3.mono b2.size)
          have X31 : Hid (x3.heap[w.heap.size]? = some (.cells #[.int .i64 kd, .int .i64 oid.1, .int .u64 oid.2, .int .i64 oa, .slice ra rn rc, .slice wa wn wc] 34)) := (b53.block _ (Array.getElem?_eq_some_iff.1 H51.out).1).trans H51.out
          have X32 : Hid (x3.heap[w.heap.size + 1]? = some (.cells #[.int .i64 i2.1, .int .u64 i2.2] 31)) := (b53.block _ (Array.getElem?_eq_some_iff.1 H52.out).1).trans H52.out
          have k3 : x3.cell? ⟨w.heap.size, 4, none⟩ = some (.slice ra rn rc) ∧ x3.cell? ⟨w.heap.size, 5, none⟩ = some (.slice wa wn wc) := ⟨cell_of_heap X31.out rfl, cell_of_heap X31.out rfl⟩
          go_wp2_with fail
          refine hK.out _ _ ?_ (fun hHeld => ?_)
          · exact fun _ => k3
          replace hHeld := hHeld (by decide)
          clear hK K
          try simp only [Act.put, List.setIfInBounds_toArray, List.set_cons_zero, List.set_cons_succ]
          have HV23 : Hid (SR x3 (.slice ra2 (fewL rn R).length rc2) (fewL rn R)) := hv2.later hb3
          have HV33 : Hid (SR x3 (.slice wa3 (fewL wn W).length wc3) (fewL wn W)) := hv3
          have XB3 : Hid (Below w.heap.size w x3) := HB5.out.trans (b53.mono HB5.out.size)
          have HS7 : Hid (Both x3 w.heap.size v1.heap.size (v1.heap.size + 1) c G F last) := HS5.out.later b53
          clear q1 k3 hv2 hb2 hb3 hv3 b53 b2 HS5 H51 H52 HB5 c4 c5 X21
          refine lets_one (i := 6) (by kernel_rfl) rfl (fun K hK => ?_)
          go_simp
          refine hK.out _ _ ?_ (fun hHeld => ?_)
          · exact fun _ => hHeld
          replace hHeld := hHeld (by decide)
          clear hK K
          try simp only [Act.put, List.setIfInBounds_toArray, List.set_cons_zero, List.set_cons_succ]
          refine lets_one (i := 7) (by kernel_rfl) rfl (fun K hK => ?_)
          go_simp
          refine hK.out _ _ ?_ (fun hHeld => ?_)
          · exact fun h => absurd rfl h
          clear hK K
          try simp only [Act.put, List.setIfInBounds_toArray, List.set_cons_zero, List.set_cons_succ]
          refine lets_done (by kernel_rfl) ?_ _
          refine NoPanic.normal ?_
          have hv23 := HV23
          have hv3 := HV33
          clear HV23 HV33
          have z1 : x3.cell? ⟨w.heap.size, 1, none⟩ = some (.int .i64 oid.1) := cell_of_heap X31.out rfl
          have z2 : x3.cell? ⟨w.heap.size, 2, none⟩ = some (.int .u64 oid.2) := cell_of_heap X31.out rfl
          have q := take_any w.heap.size v1.heap.size (heldG G) F last oid (last + 1) _ _ _ _ x3 HS7.out.t hv23.out hv3.out h1000 XB3.out.size
          go_wp2_with fail
          refine q.mono ?_
          rintro e x4 ⟨rfl, hT4, hF4⟩
          have XB4 : Hid (Below w.heap.size w x4) := XB3.out.trans (hF4.below XB3.out.size)
          have X41 : Hid (x4.heap[w.heap.size]? = some (.cells #[.int .i64 kd, .int .i64 oid.1, .int .u64 oid.2, .int .i64 oa, .slice ra rn rc, .slice wa wn wc] 34)) := hF4.cells X31.out (by simp)
          have X42 : Hid (x4.heap[w.heap.size + 1]? = some (.cells #[.int .i64 i2.1, .int .u64 i2.2] 31)) := hF4.cells X32.out (by simp)
          have HV2 : Hid (SR x4 (.slice ra2 (fewL rn R).length rc2) (fewL rn R)) := hv23.out.fr hF4 (by simp)
          have HV3 : Hid (SR x4 (.slice wa3 (fewL wn W).length wc3) (fewL wn W)) := hv3.out.fr hF4 (by simp)
          have HT4 : Hid (Taken x4 w.heap.size v1.heap.size (heldG G) F last oid (last + 1) (fewL rn R) (fewL wn W)) := hT4
          have HR4 : Hid (Rt x4 w.heap.size (v1.heap.size + 1) (rowsG G) last) := HS7.out.r.fr hF4 (by simp) (by simp)
          have HTR : Hid (takeR (rowsG G) last oid (last + 1) (fewL rn R) (fewL wn W) = takeE (heldG G) last oid (last + 1) (fewL rn R) (fewL wn W)) := take_rows G F last HS7.out.inv _ _ _ _
          clear q hT4 hF4 z1 z2 X31 X32 XB3 hv23 hv3 HS7
          have z1 : x4.cell? ⟨w.heap.size, 1, none⟩ = some (.int .i64 oid.1) := cell_of_heap X41.out rfl
          have z2 : x4.cell? ⟨w.heap.size, 2, none⟩ = some (.int .u64 oid.2) := cell_of_heap X41.out rfl
          by_cases ht : takeE (heldG G) last oid (last + 1) (fewL rn R) (fewL wn W) = 0
          · obtain ⟨rv, wv, hT4⟩ := HT4.out.yes ht
            have HT5 : Hid (Tb x4 w.heap.size v1.heap.size (heldG G ++ [⟨oid, last + 1, 0, fewL rn R, fewL wn W, rv, wv⟩]) F (last + 1)) := hT4
            have HT0 : Hid (takeE (heldG G) last oid (last + 1) (fewL rn R) (fewL wn W) = 0) := ht
            rw [ht]
            clear ht hT4 HT4
            have q := free_any w.heap.size v1.heap.size (heldG G ++ [⟨oid, last + 1, 0, fewL rn R, fewL wn W, rv, wv⟩]) F (last + 1) oid (last + 2) x4 HT5.out (by rw [List.length_append, List.length_singleton]; omega) hF1000 XB4.out.size
            go_wp2_with fail
            refine q.mono ?_
            rintro e x5 ⟨rfl, hT5, hF5⟩
            have hfr : freeE (heldG G ++ [⟨oid, last + 1, 0, fewL rn R, fewL wn W, rv, wv⟩]) (last + 1) oid (last + 2) = 0 := back_free (s := ⟨oid, last + 1, 0, fewL rn R, fewL wn W, rv, wv⟩)
            obtain ⟨s5, -, -, hT5⟩ := hT5.yes hfr
            rw [back_erase (s := ⟨oid, last + 1, 0, fewL rn R, fewL wn W, rv, wv⟩) (takeE_zero.1 HT0.out).2.2.2.1] at hT5
            rw [hfr]
            have XB5 : Hid (Below w.heap.size w x5) := XB4.out.trans (hF5.below XB4.out.size)
            have X52 : Hid (x5.heap[w.heap.size + 1]? = some (.cells #[.int .i64 i2.1, .int .u64 i2.2] 31)) := hF5.cells X42.out (by simp)
            have z3 : x5.cell? ⟨w.heap.size + 1, 0, none⟩ = some (.int .i64 i2.1) := cell_of_heap X52.out rfl
            have z4 : x5.cell? ⟨w.heap.size + 1, 1, none⟩ = some (.int .u64 i2.2) := cell_of_heap X52.out rfl
            clear q
            have q := take_any w.heap.size v1.heap.size (heldG G) _ (last + 2) i2 (last + 3) _ _ _ _ x5 hT5 (HV2.out.fr hF5 (by simp)) (HV3.out.fr hF5 (by simp)) h1000 XB5.out.size
            rw [back_take HT0.out HH.out] at q
            clear hT5 hF5 z1 z2 hfr
            go_wp2_with fail
            refine q.mono ?_
            rintro e x6 ⟨rfl, -, hF6⟩
            have XB6 : Hid (Below w.heap.size w x6) := XB5.out.trans (hF6.below XB5.out.size)
            clear q hF6 z3 z4
            go_wp2_with fail
            refine (awake_any x6).mono ?_
            rintro e x7 ⟨rfl, hb⟩
            have HBF : Hid (Below w.heap.size w x7) := XB6.out.trans (hb.mono XB6.out.size)
            clear hb
            go_wp2
            go_ret
            exact ⟨rfl, HBF.out⟩
          · have q := rtake_any w.heap.size (v1.heap.size + 1) (rowsG G) last oid (last + 1) _ _ _ _ x4 HR4.out HV2.out HV3.out hR1000 XB4.out.size
            rw [HTR.out] at q
            have hne : (takeE (heldG G) last oid (last + 1) (fewL rn R) (fewL wn W) == 0) = false := by simp [ht]
            generalize takeE (heldG G) last oid (last + 1) (fewL rn R) (fewL wn W) = res at *
            go_wp2_with fail
            refine q.mono ?_
            rintro e x5 ⟨rfl, -, hF5⟩
            have XB5 : Hid (Below w.heap.size w x5) := XB4.out.trans (hF5.below XB4.out.size)
            clear q hF5 z1 z2
            go_wp2_with fail
            refine (awake_any x5).mono ?_
            rintro e x7 ⟨rfl, hb⟩
            have HBF : Hid (Below w.heap.size w x7) := XB5.out.trans (hb.mono XB5.out.size)
            clear hb
            go_wp2
            go_ret
            exact ⟨rfl, HBF.out⟩

/-! From the call to the statement. -/
set_option maxRecDepth 100000 in
theorem lifted (os : Os) (started : os.Started) (H : Type) (enc : TypeId × Value → H) :
    ReturnsInHanded {} Try.checked os 5 .any (Rows.lockBackSpec.pre6 enc Try.prog Try.f5 Rows.lockBackRow.domain false) (Rows.lockBackSpec.post enc Try.prog Try.f5 false true false false) := by
  refine returnsInHanded_of_change (C := Try.checked) own started (by kernel_rfl) Try.func5
    (ChangeSpec.witness6 (enc := enc) (C := Try.checked) false ⟨#[], #[.slice none 0 0, .agg #[.int .i64 0, .int .i64 0, .int .u64 0, .int .i64 0, .slice none 0 0, .slice none 0 0], .agg #[.int .i64 0, .int .u64 0]], []⟩ 8 (by kernel_rfl) (by kernel_rfl) (by kernel_rfl) (by kernel_rfl)) ?_
  intro W base args ds gs before hval0 hW hcnd _
  have hval : ∀ (j : Nat) t v, Try.f5.params[j]? = some t → args[j]? = some v → Value.okWide Try.prog W .any base t v := hval0
  have hW' := hW
  obtain ⟨p, q, hA0, hV, rfl, hfz, hnd⟩ := hW
  have hA : DataW.TrodAll enc Try.prog W 0 (fun _ => true) true Try.f5.params.toList args.toList ds p := hA0
  rw [Try.params5] at hA hval
  obtain ⟨v0, vs0, d0, ds0, p0, q0, hargs, rfl, rfl, h0, r0⟩ := trodAll_cons hA
  obtain ⟨v1, vs1, d1, ds1, p1, q1, rfl, rfl, rfl, h1, r1⟩ := trodAll_cons r0
  obtain ⟨v2, vs2, d2, ds2, p2, q2, rfl, rfl, rfl, h2, r2⟩ := trodAll_cons r1
  obtain ⟨rfl, rfl, rfl⟩ := trodAll_nil r2
  obtain rfl : args = #[v0, v1, v2] := by cases args; simp_all
  obtain ⟨rfl, rfl⟩ := trodVars_none hV
  obtain ⟨a0, len0, cap0, rfl⟩ := okWide_slice Try.underlying22 (hval 0 22 v0 rfl rfl)
  have k0 := h0
  have lt0 : ∀ x ∈ p0, x.block < W.heap.size := by obtain ⟨m, hm⟩ := k0; exact DataW.trod_lt m _ _ _ hm
  obtain ⟨O0, w0⟩ := open_lops h0
  have k1 := h1
  have lt1 : ∀ x ∈ p1, x.block < W.heap.size := by obtain ⟨m, hm⟩ := k1; exact DataW.trod_lt m _ _ _ hm
  obtain ⟨o1, rfl, w1⟩ := open_lop (hval 1 34 v1 rfl rfl) h1
  have k2 := h2
  have lt2 : ∀ x ∈ p2, x.block < W.heap.size := by obtain ⟨m, hm⟩ := k2; exact DataW.trod_lt m _ _ _ hm
  obtain ⟨i2, rfl, w2⟩ := open_id (hval 2 31 v2 rfl rfl) h2
  clear hA0 hval0
  refine (walk a0 len0 cap0 O0 o1 i2 W w0 w1 w2).mono fun e W' ⟨he, bel⟩ => ?_
  subst he
  exact ⟨_, rfl, _, _, _, [], _, [], hW', trodAll_mk1 (shut_bool Try.underlying4 _), (trodAll_cons_mk (Below.trod laidOut (by kernel_rfl) (of_decide_eq_true (by kernel_rfl)) k0 bel lt0) (trodAll_cons_mk (Below.trod laidOut (by kernel_rfl) (of_decide_eq_true (by kernel_rfl)) k1 bel lt1) (trodAll_cons_mk (Below.trod laidOut (by kernel_rfl) (of_decide_eq_true (by kernel_rfl)) k2 bel lt2) trodAll_mk0))), rfl, bel.frame _, fun h => by cases h⟩

theorem over : Rows.lockBackRow.holds Try.pinned (OpenSpec.ofChange Rows.lockBackSpec) :=
  OpenClaim.holds_of_wide 5 Try.f5 rfl rfl rfl rfl rfl rfl rfl ⟨rfl, rfl, rfl, rfl, rfl⟩ rfl rfl rfl rfl rfl (by kernel_rfl) Try.func5 (by kernel_rfl)
    (of_decide_eq_true (by kernel_rfl)) (by unfold Func.isWrapper; first | (rw [if_pos (by decide +kernel)]; kernel_rfl) | (rw [if_neg (by decide +kernel)]; exact ⟨rfl, rfl⟩))
    (fun os started H enc _ => lifted os started H enc)
end Go.Proofs.Ytbhohedkgeokgaa.lockBack
namespace Go.Proofs.Ytbhohedkgeokgaa
theorem lockBack_holds : Rows.LockBackSaid := lockBack.over
#print axioms lockBack_holds
end Go.Proofs.Ytbhohedkgeokgaa
