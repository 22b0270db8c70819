/- What package wal's open does: contracts. -/
import Derived.Test.YtmlpneiadkngaaaDoorWaH
namespace Go.Proofs.YtmlpneiadkngaaaDoor
open Go.RowKit
set_option linter.unusedVariables false

/-- what opening makes of a disk: the log's area is mended, or begun anew; the other one is wiped -/
def DS.opens (d : DS) (a : Nat) (wh : Bool) (sz en sz' : Nat) : Nat × DS :=
  if (if wh then d.mend a sz en else d.anew a sz).1 ≠ 0 then (if wh then d.mend a sz en else d.anew a sz) else (if wh then d.mend a sz en else d.anew a sz).2.wipe (1 - (a : Int)) sz'

/-- what opening answers: the log, or an error; what it made of the disk -/
def Opened (S : Nat → Prop) (g A gen : Nat) (R : Nat × DS) (w w' : World) (e : Ending) : Prop :=
  (if R.1 = 0 then ∃ gl, e = .returned (.tuple #[.pointer (some ⟨gl, 0, none⟩), .nilIface]) ∧ Lg w' gl g A gen false ∧ w.heap.size ≤ gl ∧ Dk w' (fun k => S k ∧ k ≠ gl) g R.2
    else ∃ v, e = .returned (.tuple #[.pointer none, v]) ∧ Err w' R.1 v ∧ Dk w' S g R.2) ∧ Frm S w w'

set_option maxHeartbeats 4000000 in
set_option maxRecDepth 100000 in
theorem open_mend0 (g : Nat) (S : Nat → Prop) (d : DS) (s0 e0 g0 s1 e1 g1 : Nat) (h1 : Bool) (r0 r1 : Value) (w : World) (h : Dk w S g d) (hS : ∀ k, w.heap.size ≤ k → S k) (hn : Wa.newest true h1 g0 g1 = 0) :
    Calls Tryd.prog 26 #[.pointer (some ⟨g, 0, none⟩), .agg #[.int .i64 s0, .int .i64 e0, .bool true, .int .u64 g0, r0, .int .i64 s1, .int .i64 e1, .bool h1, .int .u64 g1, r1]] w fun e w' => Opened S g 0 g0 (d.opens 0 true s0 e0 s1) w w' e := by
  have hgS := h.slot
  have hglt := h.lt
  have hB : Below w.heap.size w (w.alloc (.cells #[.int .i64 s0, .int .i64 e0, .bool true, .int .u64 g0, r0, .int .i64 s1, .int .i64 e1, .bool h1, .int .u64 g1, r1] 55)) := below_new _ _
  have hA0 := heap_new w (.cells #[.int .i64 s0, .int .i64 e0, .bool true, .int .u64 g0, r0, .int .i64 s1, .int .i64 e1, .bool h1, .int .u64 g1, r1] 55)
  have hlt0 := heap_lt hA0
  have hnw := fun w => newest_any (.int .i64 s0) (.int .i64 e0) r0 (.int .i64 s1) (.int .i64 e1) r1 true h1 g0 g1 w
  rw [hn] at hnw
  have HNW : Hid (∀ w : World, _) := hnw
  clear hnw hn
  have hR : d.opens 0 true s0 e0 s1 = if (d.mend 0 s0 e0).1 ≠ 0 then d.mend 0 s0 e0 else (d.mend 0 s0 e0).2.wipe 1 s1 := rfl
  obtain ⟨S', hS'⟩ : ∃ S' : World → Nat → Prop, S' = fun w1 k => S k ∧ ¬ (w.heap.size ≤ k ∧ k < w1.heap.size + 1) := ⟨_, rfl⟩
  have hst : ∀ (w1 W : World), Dk W (S' w1) g d → (∀ k, W.heap.size ≤ k → S' w1 k) → Calls Tryd.prog 44 #[.pointer (some ⟨g, 0, none⟩), .int .i64 0, .agg #[.int .i64 s0, .int .i64 e0, .bool true, .int .u64 g0, r0]] W fun e w' => ∃ v, e = .returned v ∧ Err w' (d.mend 0 s0 e0).1 v ∧ Dk w' (S' w1) g (d.mend 0 s0 e0).2 ∧ Frm (S' w1) W w' := by
    intro w1 W hD hSW
    refine (mend_any g (S' w1) d 0 s0 e0 _ _ _ W hD).mono ?_
    rintro e w' ⟨v, rfl, hv, hD', hf⟩
    exact ⟨v, rfl, hv, hD', hf.mono fun k _ hk => by rw [hk]; exact hD.slot⟩
  have HST : Hid (∀ (w1 W : World), _) := hst
  generalize hq : d.mend 0 s0 e0 = q at *
  obtain ⟨c1, D1⟩ := q
  have HR : Hid (d.opens 0 true s0 e0 s1 = if c1 ≠ 0 then (c1, D1) else D1.wipe 1 s1) := hR
  clear hst hR hq
  have HS' : Hid (S' = _) := hS'
  clear hS'
  go_enter Tryd.func26, Tryd.ntmps26
  go_wp2_with fail
  refine (HNW.out _).mono ?_
  rintro e w1 ⟨rfl, hb1⟩
  have hA1 : w1.heap[w.heap.size]? = some (.cells #[.int .i64 s0, .int .i64 e0, .bool true, .int .u64 g0, r0, .int .i64 s1, .int .i64 e1, .bool h1, .int .u64 g1, r1] 55 (0, 0)) := by rw [hb1.block _ hlt0]; exact hA0
  have HB1 : Hid (Below w.heap.size w w1) := hB.trans (hb1.mono hB.size)
  clear hA0 hb1 hB hlt0 HNW
  have c_0 : w1.cell? ⟨w.heap.size, 0, none⟩ = some (.int .i64 s0) := cell_of_heap hA1 rfl
  have c_1 : w1.cell? ⟨w.heap.size, 1, none⟩ = some (.int .i64 e0) := cell_of_heap hA1 rfl
  have c_2 : w1.cell? ⟨w.heap.size, 2, none⟩ = some (.bool true) := cell_of_heap hA1 rfl
  have c_3 : w1.cell? ⟨w.heap.size, 3, none⟩ = some (.int .u64 g0) := cell_of_heap hA1 rfl
  have c_4 : w1.cell? ⟨w.heap.size, 4, none⟩ = some (r0) := cell_of_heap hA1 rfl
  have c_5 : w1.cell? ⟨w.heap.size, 5, none⟩ = some (.int .i64 s1) := cell_of_heap hA1 rfl
  have c_6 : w1.cell? ⟨w.heap.size, 6, none⟩ = some (.int .i64 e1) := cell_of_heap hA1 rfl
  have c_7 : w1.cell? ⟨w.heap.size, 7, none⟩ = some (.bool h1) := cell_of_heap hA1 rfl
  have c_8 : w1.cell? ⟨w.heap.size, 8, none⟩ = some (.int .u64 g1) := cell_of_heap hA1 rfl
  have c_9 : w1.cell? ⟨w.heap.size, 9, none⟩ = some (r1) := cell_of_heap hA1 rfl
  have hw1 : w.heap.size < w1.heap.size := heap_lt hA1
  go_wp2_with fail
  have hbl : Below w1.heap.size w1 (w1.alloc (.cells #[.pointer (some ⟨g, 0, none⟩), .int .i64 0, .int .u64 g0, .bool false] 65)) := below_new _ _
  have hlg := heap_new w1 (.cells #[.pointer (some ⟨g, 0, none⟩), .int .i64 0, .int .u64 g0, .bool false] 65)
  have hWs : (w1.alloc (.cells #[.pointer (some ⟨g, 0, none⟩), .int .i64 0, .int .u64 g0, .bool false] 65)).heap.size = w1.heap.size + 1 := by simp
  have hD0 := (h.later HB1.out).later hbl
  generalize w1.alloc (.cells #[.pointer (some ⟨g, 0, none⟩), .int .i64 0, .int .u64 g0, .bool false] 65) = W at *
  have HK : Hid (∀ k, S' w1 k ↔ (S k ∧ ¬ (w.heap.size ≤ k ∧ k < w1.heap.size + 1))) := fun k => by rw [HS'.out]
  have hDW : Dk W (S' w1) g d := by
    have h1 := h.lt
    refine ((((h.to (T := fun k => S k ∧ k < w.heap.size) (fun k hk hs => ⟨hs, hk⟩)).later HB1.out).later hbl)).to (fun k _ hs => (HK.out k).2 ⟨hs.1, fun hh => ?_⟩)
    have := hs.2
    have := hh.1
    omega
  have hAW : W.heap[w.heap.size]? = some (.cells #[.int .i64 s0, .int .i64 e0, .bool true, .int .u64 g0, r0, .int .i64 s1, .int .i64 e1, .bool h1, .int .u64 g1, r1] 55 (0, 0)) := by rw [hbl.block _ hw1]; exact hA1
  have HFW : Hid (Frm S w W) := Frm.of_later (HB1.out.trans (hbl.mono HB1.out.size)) S
  have hws0 := HB1.out.size
  have hn1 : ¬ S' w1 w.heap.size := fun hh => ((HK.out _).1 hh).2 ⟨Nat.le_refl _, by omega⟩
  have hn2 : ¬ S' w1 w1.heap.size := fun hh => ((HK.out _).1 hh).2 ⟨by omega, by omega⟩
  have hc := HST.out w1 W hDW (fun k hk => (HK.out k).2 ⟨hS k (by omega), by omega⟩)
  clear c_0 c_1 c_2 c_3 c_4 c_5 c_6 c_7 c_8 c_9 hA1 hbl hD0 h HST
  refine hc.mono ?_
  clear hc
  rintro e w2 ⟨v, rfl, hv, hD2, hf2⟩
  have hA2 : w2.heap[w.heap.size]? = some (.cells #[.int .i64 s0, .int .i64 e0, .bool true, .int .u64 g0, r0, .int .i64 s1, .int .i64 e1, .bool h1, .int .u64 g1, r1] 55 (0, 0)) := by rw [hf2.block _ (heap_lt hAW) hn1]; exact hAW
  have hL2 : Lg w2 w1.heap.size g 0 g0 false := by unfold Lg; rw [hf2.block _ (heap_lt hlg) hn2]; exact hlg
  have HF2 : Hid (Frm S w w2) := HFW.out.trans (hf2.mono fun k _ hk => ((HK.out k).1 hk).1)
  have hD2S : Dk w2 S g D1 := hD2.to fun k _ hk => ((HK.out k).1 hk).1
  have HD2S : Hid (Dk w2 S g D1) := hD2S
  clear hAW hlg hDW hf2 HFW hD2S
  by_cases hc1 : c1 = 0
  · subst hc1
    have hvn := hv.isNil
    subst hvn
    have hwp := wipe_any g (S' w1) D1 1 s1 (.int .i64 e1) (.bool h1) (.int .u64 g1) (r1) w2 hD2
    rw [if_neg (by simp)] at HR
    generalize hq : D1.wipe 1 s1 = q at *
    obtain ⟨c2, D2⟩ := q
    have HRR : Hid (d.opens 0 true s0 e0 s1 = (c2, D2)) := HR.out
    dsimp only at hwp
    clear hq HR hv
    have c_0 : w2.cell? ⟨w.heap.size, 0, none⟩ = some (.int .i64 s0) := cell_of_heap hA2 rfl
    have c_1 : w2.cell? ⟨w.heap.size, 1, none⟩ = some (.int .i64 e0) := cell_of_heap hA2 rfl
    have c_2 : w2.cell? ⟨w.heap.size, 2, none⟩ = some (.bool true) := cell_of_heap hA2 rfl
    have c_3 : w2.cell? ⟨w.heap.size, 3, none⟩ = some (.int .u64 g0) := cell_of_heap hA2 rfl
    have c_4 : w2.cell? ⟨w.heap.size, 4, none⟩ = some (r0) := cell_of_heap hA2 rfl
    have c_5 : w2.cell? ⟨w.heap.size, 5, none⟩ = some (.int .i64 s1) := cell_of_heap hA2 rfl
    have c_6 : w2.cell? ⟨w.heap.size, 6, none⟩ = some (.int .i64 e1) := cell_of_heap hA2 rfl
    have c_7 : w2.cell? ⟨w.heap.size, 7, none⟩ = some (.bool h1) := cell_of_heap hA2 rfl
    have c_8 : w2.cell? ⟨w.heap.size, 8, none⟩ = some (.int .u64 g1) := cell_of_heap hA2 rfl
    have c_9 : w2.cell? ⟨w.heap.size, 9, none⟩ = some (r1) := cell_of_heap hA2 rfl
    have HL2 : Hid (Lg w2 w1.heap.size g 0 g0 false) := hL2
    have hgn2 : ¬ w1.heap.size = g := by omega
    clear hA2 hL2
    go_wp2_with fail
    refine hwp.mono ?_
    clear hwp
    rintro e w3 ⟨v3, rfl, hv3, hD3, hf3⟩
    have HF3 : Hid (Frm S w w3) := HF2.out.trans (hf3.mono fun k _ hk => by rw [hk]; exact hgS)
    have HL3 : Hid (Lg w3 w1.heap.size g 0 g0 false) := HL2.out.frm hf3 hgn2
    have HD3 : Hid (Dk w3 (S' w1) g D2) := hD3
    clear hf3 hD3 c_0 c_1 c_2 c_3 c_4 c_5 c_6 c_7 c_8 c_9
    by_cases hc2 : c2 = 0
    · subst hc2
      have hvn := hv3.isNil
      subst hvn
      clear hv3
      go_wp2
      go_returns
      rw [HRR.out]
      refine ⟨?_, HF3.out⟩
      rw [if_pos rfl]
      refine ⟨w1.heap.size, rfl, HL3.out, hws0, HD3.out.to fun k _ hk => ?_⟩
      have := (HK.out k).1 hk
      exact ⟨this.1, fun e => this.2 ⟨by omega, by omega⟩⟩
    · obtain ⟨tu, vu, rfl⟩ := hv3.form hc2
      have HV3 : Hid (Err w3 c2 (.iface tu vu)) := hv3
      clear hv3
      go_wp2_with fail
      refine (in_err _ c2 _ w3 HV3.out).mono ?_
      rintro e w4 ⟨v4, rfl, hv4, hb4⟩
      have HV4 : Hid (Err w4 c2 v4) := hv4
      clear hv4
      go_wp2
      go_returns
      rw [HRR.out]
      refine ⟨?_, HF3.out.trans (Frm.of_later hb4 _)⟩
      rw [if_neg hc2]
      exact ⟨v4, rfl, HV4.out, (HD3.out.later hb4).to fun k _ hk => ((HK.out k).1 hk).1⟩
  · obtain ⟨tu, vu, rfl⟩ := hv.form hc1
    have HV : Hid (Err w2 c1 (.iface tu vu)) := hv
    rw [if_pos hc1] at HR
    clear hv hL2 hA2 hD2
    go_wp2_with fail
    refine (in_err _ c1 _ w2 HV.out).mono ?_
    rintro e w4 ⟨v4, rfl, hv4, hb4⟩
    have HV4 : Hid (Err w4 c1 v4) := hv4
    clear hv4
    go_wp2
    go_returns
    rw [HR.out]
    refine ⟨?_, HF2.out.trans (Frm.of_later hb4 _)⟩
    rw [if_neg hc1]
    exact ⟨v4, rfl, HV4.out, HD2S.out.later hb4⟩

set_option maxHeartbeats 4000000 in
set_option maxRecDepth 100000 in
theorem open_anew0 (g : Nat) (S : Nat → Prop) (d : DS) (s0 e0 g0 s1 e1 g1 : Nat) (h1 : Bool) (r0 r1 : Value) (w : World) (h : Dk w S g d) (hS : ∀ k, w.heap.size ≤ k → S k) (hn : Wa.newest false h1 g0 g1 = 0) :
    Calls Tryd.prog 26 #[.pointer (some ⟨g, 0, none⟩), .agg #[.int .i64 s0, .int .i64 e0, .bool false, .int .u64 g0, r0, .int .i64 s1, .int .i64 e1, .bool h1, .int .u64 g1, r1]] w fun e w' => Opened S g 0 1 (d.opens 0 false s0 e0 s1) w w' e := by
  have hgS := h.slot
  have hglt := h.lt
  have hB : Below w.heap.size w (w.alloc (.cells #[.int .i64 s0, .int .i64 e0, .bool false, .int .u64 g0, r0, .int .i64 s1, .int .i64 e1, .bool h1, .int .u64 g1, r1] 55)) := below_new _ _
  have hA0 := heap_new w (.cells #[.int .i64 s0, .int .i64 e0, .bool false, .int .u64 g0, r0, .int .i64 s1, .int .i64 e1, .bool h1, .int .u64 g1, r1] 55)
  have hlt0 := heap_lt hA0
  have hnw := fun w => newest_any (.int .i64 s0) (.int .i64 e0) r0 (.int .i64 s1) (.int .i64 e1) r1 false h1 g0 g1 w
  rw [hn] at hnw
  have HNW : Hid (∀ w : World, _) := hnw
  clear hnw hn
  have hR : d.opens 0 false s0 e0 s1 = if (d.anew 0 s0).1 ≠ 0 then d.anew 0 s0 else (d.anew 0 s0).2.wipe 1 s1 := rfl
  obtain ⟨S', hS'⟩ : ∃ S' : World → Nat → Prop, S' = fun w1 k => S k ∧ ¬ (w.heap.size ≤ k ∧ k < w1.heap.size + 1) := ⟨_, rfl⟩
  have hst : ∀ (w1 W : World), Dk W (S' w1) g d → (∀ k, W.heap.size ≤ k → S' w1 k) → Calls Tryd.prog 45 #[.pointer (some ⟨g, 0, none⟩), .int .i64 0, .agg #[.int .i64 s0, .int .i64 e0, .bool false, .int .u64 g0, r0]] W fun e w' => ∃ v, e = .returned v ∧ Err w' (d.anew 0 s0).1 v ∧ Dk w' (S' w1) g (d.anew 0 s0).2 ∧ Frm (S' w1) W w' := by
    intro w1 W hD hSW
    exact anew_any g (S' w1) d 0 s0 _ _ _ _ W hD hSW
  have HST : Hid (∀ (w1 W : World), _) := hst
  generalize hq : d.anew 0 s0 = q at *
  obtain ⟨c1, D1⟩ := q
  have HR : Hid (d.opens 0 false s0 e0 s1 = if c1 ≠ 0 then (c1, D1) else D1.wipe 1 s1) := hR
  clear hst hR hq
  have HS' : Hid (S' = _) := hS'
  clear hS'
  go_enter Tryd.func26, Tryd.ntmps26
  go_wp2_with fail
  refine (HNW.out _).mono ?_
  rintro e w1 ⟨rfl, hb1⟩
  have hA1 : w1.heap[w.heap.size]? = some (.cells #[.int .i64 s0, .int .i64 e0, .bool false, .int .u64 g0, r0, .int .i64 s1, .int .i64 e1, .bool h1, .int .u64 g1, r1] 55 (0, 0)) := by rw [hb1.block _ hlt0]; exact hA0
  have HB1 : Hid (Below w.heap.size w w1) := hB.trans (hb1.mono hB.size)
  clear hA0 hb1 hB hlt0 HNW
  have c_0 : w1.cell? ⟨w.heap.size, 0, none⟩ = some (.int .i64 s0) := cell_of_heap hA1 rfl
  have c_1 : w1.cell? ⟨w.heap.size, 1, none⟩ = some (.int .i64 e0) := cell_of_heap hA1 rfl
  have c_2 : w1.cell? ⟨w.heap.size, 2, none⟩ = some (.bool false) := cell_of_heap hA1 rfl
  have c_3 : w1.cell? ⟨w.heap.size, 3, none⟩ = some (.int .u64 g0) := cell_of_heap hA1 rfl
  have c_4 : w1.cell? ⟨w.heap.size, 4, none⟩ = some (r0) := cell_of_heap hA1 rfl
  have c_5 : w1.cell? ⟨w.heap.size, 5, none⟩ = some (.int .i64 s1) := cell_of_heap hA1 rfl
  have c_6 : w1.cell? ⟨w.heap.size, 6, none⟩ = some (.int .i64 e1) := cell_of_heap hA1 rfl
  have c_7 : w1.cell? ⟨w.heap.size, 7, none⟩ = some (.bool h1) := cell_of_heap hA1 rfl
  have c_8 : w1.cell? ⟨w.heap.size, 8, none⟩ = some (.int .u64 g1) := cell_of_heap hA1 rfl
  have c_9 : w1.cell? ⟨w.heap.size, 9, none⟩ = some (r1) := cell_of_heap hA1 rfl
  have hw1 : w.heap.size < w1.heap.size := heap_lt hA1
  go_wp2_with fail
  have hbl : Below w1.heap.size w1 (w1.alloc (.cells #[.pointer (some ⟨g, 0, none⟩), .int .i64 0, .int .u64 1, .bool false] 65)) := below_new _ _
  have hlg := heap_new w1 (.cells #[.pointer (some ⟨g, 0, none⟩), .int .i64 0, .int .u64 1, .bool false] 65)
  have hWs : (w1.alloc (.cells #[.pointer (some ⟨g, 0, none⟩), .int .i64 0, .int .u64 1, .bool false] 65)).heap.size = w1.heap.size + 1 := by simp
  have hD0 := (h.later HB1.out).later hbl
  generalize w1.alloc (.cells #[.pointer (some ⟨g, 0, none⟩), .int .i64 0, .int .u64 1, .bool false] 65) = W at *
  have HK : Hid (∀ k, S' w1 k ↔ (S k ∧ ¬ (w.heap.size ≤ k ∧ k < w1.heap.size + 1))) := fun k => by rw [HS'.out]
  have hDW : Dk W (S' w1) g d := by
    have h1 := h.lt
    refine ((((h.to (T := fun k => S k ∧ k < w.heap.size) (fun k hk hs => ⟨hs, hk⟩)).later HB1.out).later hbl)).to (fun k _ hs => (HK.out k).2 ⟨hs.1, fun hh => ?_⟩)
    have := hs.2
    have := hh.1
    omega
  have hAW : W.heap[w.heap.size]? = some (.cells #[.int .i64 s0, .int .i64 e0, .bool false, .int .u64 g0, r0, .int .i64 s1, .int .i64 e1, .bool h1, .int .u64 g1, r1] 55 (0, 0)) := by rw [hbl.block _ hw1]; exact hA1
  have HFW : Hid (Frm S w W) := Frm.of_later (HB1.out.trans (hbl.mono HB1.out.size)) S
  have hws0 := HB1.out.size
  have hn1 : ¬ S' w1 w.heap.size := fun hh => ((HK.out _).1 hh).2 ⟨Nat.le_refl _, by omega⟩
  have hn2 : ¬ S' w1 w1.heap.size := fun hh => ((HK.out _).1 hh).2 ⟨by omega, by omega⟩
  have hc := HST.out w1 W hDW (fun k hk => (HK.out k).2 ⟨hS k (by omega), by omega⟩)
  clear c_0 c_1 c_2 c_3 c_4 c_5 c_6 c_7 c_8 c_9 hA1 hbl hD0 h HST
  refine hc.mono ?_
  clear hc
  rintro e w2 ⟨v, rfl, hv, hD2, hf2⟩
  have hA2 : w2.heap[w.heap.size]? = some (.cells #[.int .i64 s0, .int .i64 e0, .bool false, .int .u64 g0, r0, .int .i64 s1, .int .i64 e1, .bool h1, .int .u64 g1, r1] 55 (0, 0)) := by rw [hf2.block _ (heap_lt hAW) hn1]; exact hAW
  have hL2 : Lg w2 w1.heap.size g 0 1 false := by unfold Lg; rw [hf2.block _ (heap_lt hlg) hn2]; exact hlg
  have HF2 : Hid (Frm S w w2) := HFW.out.trans (hf2.mono fun k _ hk => ((HK.out k).1 hk).1)
  have hD2S : Dk w2 S g D1 := hD2.to fun k _ hk => ((HK.out k).1 hk).1
  have HD2S : Hid (Dk w2 S g D1) := hD2S
  clear hAW hlg hDW hf2 HFW hD2S
  by_cases hc1 : c1 = 0
  · subst hc1
    have hvn := hv.isNil
    subst hvn
    have hwp := wipe_any g (S' w1) D1 1 s1 (.int .i64 e1) (.bool h1) (.int .u64 g1) (r1) w2 hD2
    rw [if_neg (by simp)] at HR
    generalize hq : D1.wipe 1 s1 = q at *
    obtain ⟨c2, D2⟩ := q
    have HRR : Hid (d.opens 0 false s0 e0 s1 = (c2, D2)) := HR.out
    dsimp only at hwp
    clear hq HR hv
    have c_0 : w2.cell? ⟨w.heap.size, 0, none⟩ = some (.int .i64 s0) := cell_of_heap hA2 rfl
    have c_1 : w2.cell? ⟨w.heap.size, 1, none⟩ = some (.int .i64 e0) := cell_of_heap hA2 rfl
    have c_2 : w2.cell? ⟨w.heap.size, 2, none⟩ = some (.bool false) := cell_of_heap hA2 rfl
    have c_3 : w2.cell? ⟨w.heap.size, 3, none⟩ = some (.int .u64 g0) := cell_of_heap hA2 rfl
    have c_4 : w2.cell? ⟨w.heap.size, 4, none⟩ = some (r0) := cell_of_heap hA2 rfl
    have c_5 : w2.cell? ⟨w.heap.size, 5, none⟩ = some (.int .i64 s1) := cell_of_heap hA2 rfl
    have c_6 : w2.cell? ⟨w.heap.size, 6, none⟩ = some (.int .i64 e1) := cell_of_heap hA2 rfl
    have c_7 : w2.cell? ⟨w.heap.size, 7, none⟩ = some (.bool h1) := cell_of_heap hA2 rfl
    have c_8 : w2.cell? ⟨w.heap.size, 8, none⟩ = some (.int .u64 g1) := cell_of_heap hA2 rfl
    have c_9 : w2.cell? ⟨w.heap.size, 9, none⟩ = some (r1) := cell_of_heap hA2 rfl
    have HL2 : Hid (Lg w2 w1.heap.size g 0 1 false) := hL2
    have hgn2 : ¬ w1.heap.size = g := by omega
    clear hA2 hL2
    go_wp2_with fail
    refine hwp.mono ?_
    clear hwp
    rintro e w3 ⟨v3, rfl, hv3, hD3, hf3⟩
    have HF3 : Hid (Frm S w w3) := HF2.out.trans (hf3.mono fun k _ hk => by rw [hk]; exact hgS)
    have HL3 : Hid (Lg w3 w1.heap.size g 0 1 false) := HL2.out.frm hf3 hgn2
    have HD3 : Hid (Dk w3 (S' w1) g D2) := hD3
    clear hf3 hD3 c_0 c_1 c_2 c_3 c_4 c_5 c_6 c_7 c_8 c_9
    by_cases hc2 : c2 = 0
    · subst hc2
      have hvn := hv3.isNil
      subst hvn
      clear hv3
      go_wp2
      go_returns
      rw [HRR.out]
      refine ⟨?_, HF3.out⟩
      rw [if_pos rfl]
      refine ⟨w1.heap.size, rfl, HL3.out, hws0, HD3.out.to fun k _ hk => ?_⟩
      have := (HK.out k).1 hk
      exact ⟨this.1, fun e => this.2 ⟨by omega, by omega⟩⟩
    · obtain ⟨tu, vu, rfl⟩ := hv3.form hc2
      have HV3 : Hid (Err w3 c2 (.iface tu vu)) := hv3
      clear hv3
      go_wp2_with fail
      refine (in_err _ c2 _ w3 HV3.out).mono ?_
      rintro e w4 ⟨v4, rfl, hv4, hb4⟩
      have HV4 : Hid (Err w4 c2 v4) := hv4
      clear hv4
      go_wp2
      go_returns
      rw [HRR.out]
      refine ⟨?_, HF3.out.trans (Frm.of_later hb4 _)⟩
      rw [if_neg hc2]
      exact ⟨v4, rfl, HV4.out, (HD3.out.later hb4).to fun k _ hk => ((HK.out k).1 hk).1⟩
  · obtain ⟨tu, vu, rfl⟩ := hv.form hc1
    have HV : Hid (Err w2 c1 (.iface tu vu)) := hv
    rw [if_pos hc1] at HR
    clear hv hL2 hA2 hD2
    go_wp2_with fail
    refine (in_err _ c1 _ w2 HV.out).mono ?_
    rintro e w4 ⟨v4, rfl, hv4, hb4⟩
    have HV4 : Hid (Err w4 c1 v4) := hv4
    clear hv4
    go_wp2
    go_returns
    rw [HR.out]
    refine ⟨?_, HF2.out.trans (Frm.of_later hb4 _)⟩
    rw [if_neg hc1]
    exact ⟨v4, rfl, HV4.out, HD2S.out.later hb4⟩

set_option maxHeartbeats 4000000 in
set_option maxRecDepth 100000 in
theorem open_mend1 (g : Nat) (S : Nat → Prop) (d : DS) (s0 e0 g0 s1 e1 g1 : Nat) (h0 : Bool) (r0 r1 : Value) (w : World) (h : Dk w S g d) (hS : ∀ k, w.heap.size ≤ k → S k) (hn : Wa.newest h0 true g0 g1 = 1) :
    Calls Tryd.prog 26 #[.pointer (some ⟨g, 0, none⟩), .agg #[.int .i64 s0, .int .i64 e0, .bool h0, .int .u64 g0, r0, .int .i64 s1, .int .i64 e1, .bool true, .int .u64 g1, r1]] w fun e w' => Opened S g 1 g1 (d.opens 1 true s1 e1 s0) w w' e := by
  have hgS := h.slot
  have hglt := h.lt
  have hB : Below w.heap.size w (w.alloc (.cells #[.int .i64 s0, .int .i64 e0, .bool h0, .int .u64 g0, r0, .int .i64 s1, .int .i64 e1, .bool true, .int .u64 g1, r1] 55)) := below_new _ _
  have hA0 := heap_new w (.cells #[.int .i64 s0, .int .i64 e0, .bool h0, .int .u64 g0, r0, .int .i64 s1, .int .i64 e1, .bool true, .int .u64 g1, r1] 55)
  have hlt0 := heap_lt hA0
  have hnw := fun w => newest_any (.int .i64 s0) (.int .i64 e0) r0 (.int .i64 s1) (.int .i64 e1) r1 h0 true g0 g1 w
  rw [hn] at hnw
  have HNW : Hid (∀ w : World, _) := hnw
  clear hnw hn
  have hR : d.opens 1 true s1 e1 s0 = if (d.mend 1 s1 e1).1 ≠ 0 then d.mend 1 s1 e1 else (d.mend 1 s1 e1).2.wipe 0 s0 := rfl
  obtain ⟨S', hS'⟩ : ∃ S' : World → Nat → Prop, S' = fun w1 k => S k ∧ ¬ (w.heap.size ≤ k ∧ k < w1.heap.size + 1) := ⟨_, rfl⟩
  have hst : ∀ (w1 W : World), Dk W (S' w1) g d → (∀ k, W.heap.size ≤ k → S' w1 k) → Calls Tryd.prog 44 #[.pointer (some ⟨g, 0, none⟩), .int .i64 1, .agg #[.int .i64 s1, .int .i64 e1, .bool true, .int .u64 g1, r1]] W fun e w' => ∃ v, e = .returned v ∧ Err w' (d.mend 1 s1 e1).1 v ∧ Dk w' (S' w1) g (d.mend 1 s1 e1).2 ∧ Frm (S' w1) W w' := by
    intro w1 W hD hSW
    refine (mend_any g (S' w1) d 1 s1 e1 _ _ _ W hD).mono ?_
    rintro e w' ⟨v, rfl, hv, hD', hf⟩
    exact ⟨v, rfl, hv, hD', hf.mono fun k _ hk => by rw [hk]; exact hD.slot⟩
  have HST : Hid (∀ (w1 W : World), _) := hst
  generalize hq : d.mend 1 s1 e1 = q at *
  obtain ⟨c1, D1⟩ := q
  have HR : Hid (d.opens 1 true s1 e1 s0 = if c1 ≠ 0 then (c1, D1) else D1.wipe 0 s0) := hR
  clear hst hR hq
  have HS' : Hid (S' = _) := hS'
  clear hS'
  go_enter Tryd.func26, Tryd.ntmps26
  go_wp2_with fail
  refine (HNW.out _).mono ?_
  rintro e w1 ⟨rfl, hb1⟩
  have hA1 : w1.heap[w.heap.size]? = some (.cells #[.int .i64 s0, .int .i64 e0, .bool h0, .int .u64 g0, r0, .int .i64 s1, .int .i64 e1, .bool true, .int .u64 g1, r1] 55 (0, 0)) := by rw [hb1.block _ hlt0]; exact hA0
  have HB1 : Hid (Below w.heap.size w w1) := hB.trans (hb1.mono hB.size)
  clear hA0 hb1 hB hlt0 HNW
  have c_0 : w1.cell? ⟨w.heap.size, 0, none⟩ = some (.int .i64 s0) := cell_of_heap hA1 rfl
  have c_1 : w1.cell? ⟨w.heap.size, 1, none⟩ = some (.int .i64 e0) := cell_of_heap hA1 rfl
  have c_2 : w1.cell? ⟨w.heap.size, 2, none⟩ = some (.bool h0) := cell_of_heap hA1 rfl
  have c_3 : w1.cell? ⟨w.heap.size, 3, none⟩ = some (.int .u64 g0) := cell_of_heap hA1 rfl
  have c_4 : w1.cell? ⟨w.heap.size, 4, none⟩ = some (r0) := cell_of_heap hA1 rfl
  have c_5 : w1.cell? ⟨w.heap.size, 5, none⟩ = some (.int .i64 s1) := cell_of_heap hA1 rfl
  have c_6 : w1.cell? ⟨w.heap.size, 6, none⟩ = some (.int .i64 e1) := cell_of_heap hA1 rfl
  have c_7 : w1.cell? ⟨w.heap.size, 7, none⟩ = some (.bool true) := cell_of_heap hA1 rfl
  have c_8 : w1.cell? ⟨w.heap.size, 8, none⟩ = some (.int .u64 g1) := cell_of_heap hA1 rfl
  have c_9 : w1.cell? ⟨w.heap.size, 9, none⟩ = some (r1) := cell_of_heap hA1 rfl
  have hw1 : w.heap.size < w1.heap.size := heap_lt hA1
  go_wp2_with fail
  have hbl : Below w1.heap.size w1 (w1.alloc (.cells #[.pointer (some ⟨g, 0, none⟩), .int .i64 1, .int .u64 g1, .bool false] 65)) := below_new _ _
  have hlg := heap_new w1 (.cells #[.pointer (some ⟨g, 0, none⟩), .int .i64 1, .int .u64 g1, .bool false] 65)
  have hWs : (w1.alloc (.cells #[.pointer (some ⟨g, 0, none⟩), .int .i64 1, .int .u64 g1, .bool false] 65)).heap.size = w1.heap.size + 1 := by simp
  have hD0 := (h.later HB1.out).later hbl
  generalize w1.alloc (.cells #[.pointer (some ⟨g, 0, none⟩), .int .i64 1, .int .u64 g1, .bool false] 65) = W at *
  have HK : Hid (∀ k, S' w1 k ↔ (S k ∧ ¬ (w.heap.size ≤ k ∧ k < w1.heap.size + 1))) := fun k => by rw [HS'.out]
  have hDW : Dk W (S' w1) g d := by
    have h1 := h.lt
    refine ((((h.to (T := fun k => S k ∧ k < w.heap.size) (fun k hk hs => ⟨hs, hk⟩)).later HB1.out).later hbl)).to (fun k _ hs => (HK.out k).2 ⟨hs.1, fun hh => ?_⟩)
    have := hs.2
    have := hh.1
    omega
  have hAW : W.heap[w.heap.size]? = some (.cells #[.int .i64 s0, .int .i64 e0, .bool h0, .int .u64 g0, r0, .int .i64 s1, .int .i64 e1, .bool true, .int .u64 g1, r1] 55 (0, 0)) := by rw [hbl.block _ hw1]; exact hA1
  have HFW : Hid (Frm S w W) := Frm.of_later (HB1.out.trans (hbl.mono HB1.out.size)) S
  have hws0 := HB1.out.size
  have hn1 : ¬ S' w1 w.heap.size := fun hh => ((HK.out _).1 hh).2 ⟨Nat.le_refl _, by omega⟩
  have hn2 : ¬ S' w1 w1.heap.size := fun hh => ((HK.out _).1 hh).2 ⟨by omega, by omega⟩
  have hc := HST.out w1 W hDW (fun k hk => (HK.out k).2 ⟨hS k (by omega), by omega⟩)
  clear c_0 c_1 c_2 c_3 c_4 c_5 c_6 c_7 c_8 c_9 hA1 hbl hD0 h HST
  refine hc.mono ?_
  clear hc
  rintro e w2 ⟨v, rfl, hv, hD2, hf2⟩
  have hA2 : w2.heap[w.heap.size]? = some (.cells #[.int .i64 s0, .int .i64 e0, .bool h0, .int .u64 g0, r0, .int .i64 s1, .int .i64 e1, .bool true, .int .u64 g1, r1] 55 (0, 0)) := by rw [hf2.block _ (heap_lt hAW) hn1]; exact hAW
  have hL2 : Lg w2 w1.heap.size g 1 g1 false := by unfold Lg; rw [hf2.block _ (heap_lt hlg) hn2]; exact hlg
  have HF2 : Hid (Frm S w w2) := HFW.out.trans (hf2.mono fun k _ hk => ((HK.out k).1 hk).1)
  have hD2S : Dk w2 S g D1 := hD2.to fun k _ hk => ((HK.out k).1 hk).1
  have HD2S : Hid (Dk w2 S g D1) := hD2S
  clear hAW hlg hDW hf2 HFW hD2S
  by_cases hc1 : c1 = 0
  · subst hc1
    have hvn := hv.isNil
    subst hvn
    have hwp := wipe_any g (S' w1) D1 0 s0 (.int .i64 e0) (.bool h0) (.int .u64 g0) (r0) w2 hD2
    rw [if_neg (by simp)] at HR
    generalize hq : D1.wipe 0 s0 = q at *
    obtain ⟨c2, D2⟩ := q
    have HRR : Hid (d.opens 1 true s1 e1 s0 = (c2, D2)) := HR.out
    dsimp only at hwp
    clear hq HR hv
    have c_0 : w2.cell? ⟨w.heap.size, 0, none⟩ = some (.int .i64 s0) := cell_of_heap hA2 rfl
    have c_1 : w2.cell? ⟨w.heap.size, 1, none⟩ = some (.int .i64 e0) := cell_of_heap hA2 rfl
    have c_2 : w2.cell? ⟨w.heap.size, 2, none⟩ = some (.bool h0) := cell_of_heap hA2 rfl
    have c_3 : w2.cell? ⟨w.heap.size, 3, none⟩ = some (.int .u64 g0) := cell_of_heap hA2 rfl
    have c_4 : w2.cell? ⟨w.heap.size, 4, none⟩ = some (r0) := cell_of_heap hA2 rfl
    have c_5 : w2.cell? ⟨w.heap.size, 5, none⟩ = some (.int .i64 s1) := cell_of_heap hA2 rfl
    have c_6 : w2.cell? ⟨w.heap.size, 6, none⟩ = some (.int .i64 e1) := cell_of_heap hA2 rfl
    have c_7 : w2.cell? ⟨w.heap.size, 7, none⟩ = some (.bool true) := cell_of_heap hA2 rfl
    have c_8 : w2.cell? ⟨w.heap.size, 8, none⟩ = some (.int .u64 g1) := cell_of_heap hA2 rfl
    have c_9 : w2.cell? ⟨w.heap.size, 9, none⟩ = some (r1) := cell_of_heap hA2 rfl
    have HL2 : Hid (Lg w2 w1.heap.size g 1 g1 false) := hL2
    have hgn2 : ¬ w1.heap.size = g := by omega
    clear hA2 hL2
    go_wp2_with fail
    refine hwp.mono ?_
    clear hwp
    rintro e w3 ⟨v3, rfl, hv3, hD3, hf3⟩
    have HF3 : Hid (Frm S w w3) := HF2.out.trans (hf3.mono fun k _ hk => by rw [hk]; exact hgS)
    have HL3 : Hid (Lg w3 w1.heap.size g 1 g1 false) := HL2.out.frm hf3 hgn2
    have HD3 : Hid (Dk w3 (S' w1) g D2) := hD3
    clear hf3 hD3 c_0 c_1 c_2 c_3 c_4 c_5 c_6 c_7 c_8 c_9
    by_cases hc2 : c2 = 0
    · subst hc2
      have hvn := hv3.isNil
      subst hvn
      clear hv3
      go_wp2
      go_returns
      rw [HRR.out]
      refine ⟨?_, HF3.out⟩
      rw [if_pos rfl]
      refine ⟨w1.heap.size, rfl, HL3.out, hws0, HD3.out.to fun k _ hk => ?_⟩
      have := (HK.out k).1 hk
      exact ⟨this.1, fun e => this.2 ⟨by omega, by omega⟩⟩
    · obtain ⟨tu, vu, rfl⟩ := hv3.form hc2
      have HV3 : Hid (Err w3 c2 (.iface tu vu)) := hv3
      clear hv3
      go_wp2_with fail
      refine (in_err _ c2 _ w3 HV3.out).mono ?_
      rintro e w4 ⟨v4, rfl, hv4, hb4⟩
      have HV4 : Hid (Err w4 c2 v4) := hv4
      clear hv4
      go_wp2
      go_returns
      rw [HRR.out]
      refine ⟨?_, HF3.out.trans (Frm.of_later hb4 _)⟩
      rw [if_neg hc2]
      exact ⟨v4, rfl, HV4.out, (HD3.out.later hb4).to fun k _ hk => ((HK.out k).1 hk).1⟩
  · obtain ⟨tu, vu, rfl⟩ := hv.form hc1
    have HV : Hid (Err w2 c1 (.iface tu vu)) := hv
    rw [if_pos hc1] at HR
    clear hv hL2 hA2 hD2
    go_wp2_with fail
    refine (in_err _ c1 _ w2 HV.out).mono ?_
    rintro e w4 ⟨v4, rfl, hv4, hb4⟩
    have HV4 : Hid (Err w4 c1 v4) := hv4
    clear hv4
    go_wp2
    go_returns
    rw [HR.out]
    refine ⟨?_, HF2.out.trans (Frm.of_later hb4 _)⟩
    rw [if_neg hc1]
    exact ⟨v4, rfl, HV4.out, HD2S.out.later hb4⟩

end Go.Proofs.YtmlpneiadkngaaaDoor
