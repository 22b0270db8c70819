/- Both tables of slots, side by side: contracts of like and step. -/
import Derived.Test.YtophkidigajliaaSeT
import Derived.Test.YtophkidigajliaaSeV
namespace Go.Proofs.Ytophkidigajliaa
open Go Go.RowKit
set_option linter.unusedVariables false
set_option linter.unusedSimpArgs false

set_option maxRecDepth 100000 in
set_option maxHeartbeats 2000000 in
theorem like_any (base g bm gr : Nat) (L : Log) (c : Int) (w : World) (hS : Se w g bm L) (hR : Rt w base gr L) (hc : (Lit.int .i64 c).wf = true) (hlen : L.length ≤ 100000) :
    Calls Try.prog 9 #[.pointer (some ⟨g, 0, none⟩), .pointer (some ⟨gr, 0, none⟩), .int .i64 c] w fun e w' => e = .returned (.bool true) ∧ Below w.heap.size w w' := by
  have h1 := of_any g bm L c w hS hc
  have H2 : Hid (∀ w1, Below w.heap.size w w1 → Calls Try.prog 20 #[.pointer (some ⟨gr, 0, none⟩), .int .i64 c] w1 fun e w' => e = .returned (.tuple #[rval (rowL L c), .bool (hasL L c)]) ∧ Below w1.heap.size w1 w') := fun w1 hb => rof_any base gr L c w1 (hR.later hb) hlen
  have hrs := rowL_slot L c
  clear hS hR
  generalize hasL L c = b at *
  generalize rowL L c = r at *
  generalize slotL L c = s at *
  obtain ⟨rc, s'⟩ := r
  simp only at hrs
  subst hrs
  obtain ⟨q, op, t, cd, n⟩ := s'
  go_enter Try.func9, Try.ntmps9
  go_wp2_with fail
  refine h1.mono ?_
  clear h1
  rintro e w1 ⟨rfl, hb1⟩
  have b2 : Below w1.heap.size w1 (w1.alloc (.cells (sarr ⟨q, op, t, cd, n⟩) 42)) := (Below.refl _ _).alloc (Nat.le_refl _) _
  have HB2 : Hid (Below w.heap.size w (w1.alloc (.cells (sarr ⟨q, op, t, cd, n⟩) 42))) := hb1.trans (b2.mono hb1.size)
  have HS2 : Hid ((w1.alloc (.cells (sarr ⟨q, op, t, cd, n⟩) 42)).heap[w1.heap.size]? = some (.cells (sarr ⟨q, op, t, cd, n⟩) 42)) := heap_alloc_new w1 _
  have h2 := H2.out _ HB2.out
  clear hb1 b2 H2
  go_wp2_with fail
  refine h2.mono ?_
  clear h2
  rintro e w3 ⟨rfl, hb3⟩
  have b4 : Below w3.heap.size w3 (w3.alloc (.cells (rarr (rc, ⟨q, op, t, cd, n⟩)) 54)) := (Below.refl _ _).alloc (Nat.le_refl _) _
  have HS4 : Hid ((w3.alloc (.cells (rarr (rc, ⟨q, op, t, cd, n⟩)) 54)).heap[w1.heap.size]? = some (.cells (sarr ⟨q, op, t, cd, n⟩) 42)) := keep_cells b4 (keep_cells hb3 HS2.out)
  have HR4 : Hid ((w3.alloc (.cells (rarr (rc, ⟨q, op, t, cd, n⟩)) 54)).heap[w3.heap.size]? = some (.cells (rarr (rc, ⟨q, op, t, cd, n⟩)) 54)) := heap_alloc_new w3 _
  have HB4 : Hid (Below w.heap.size w (w3.alloc (.cells (rarr (rc, ⟨q, op, t, cd, n⟩)) 54))) := (HB2.out.trans (hb3.mono HB2.out.size)).trans (b4.mono (by have := HB2.out.size; have := hb3.size; omega))
  have hsb : w1.heap.size ≠ w3.heap.size := by have := (Array.getElem?_eq_some_iff.1 HS2.out).1; have := hb3.size; omega
  clear hb3 b4 HB2 HS2
  go_upto_region 3 with fail
  generalize hw4 : w3.alloc (.cells (rarr (rc, ⟨q, op, t, cd, n⟩)) 54) = w4 at *
  clear hw4
  generalize w3.heap.size = p3 at *
  generalize w1.heap.size = p1 at *
  obtain ⟨c10, c11, c12, c13, c14⟩ := five_cells HS4.out
  obtain ⟨c20, c21, c22, c23, c24, c25⟩ := six_cells HR4.out
  have heq := eql_42 ⟨q, op, t, cd, n⟩
  go_wp2
  go_ret
  refine ⟨by simp, HB4.out⟩

/-- both tables, side by side -/
structure Bo (w : World) (base g bm gr : Nat) (L : Log) : Prop where
  s : Se w g bm L
  r : Rt w base gr L
  lo : base ≤ bm
theorem Bo.later {w w' : World} {base g bm gr : Nat} {L : Log} (h : Bo w base g bm gr L) (hb : Below w.heap.size w w') : Bo w' base g bm gr L := ⟨h.s.later hb, h.r.later hb, h.lo⟩
theorem Rt.grown {w w' : World} {base gr bm : Nat} {L : Log} (h : Rt w base gr L) (hg : w.grownBy w' (some bm)) (hm : ∃ es clock, w.heap[bm]? = some (.map es clock)) : Rt w' base gr L := by
  obtain ⟨es, clock, hm⟩ := hm
  obtain ⟨v, h1, h2⟩ := h.box
  refine ⟨h.lo, v, (hg.block gr (Array.getElem?_eq_some_iff.1 h1).1 (fun e => ?_)).trans h1, ?_⟩
  · simp only [Option.some.injEq] at e
    rw [e, hm] at h1
    cases h1
  · obtain ⟨k1, k2⟩ := h2
    refine ⟨k1, ?_⟩
    rcases k2 with k2 | ⟨q, cap, cur, hv, hq, hh, hn⟩
    · exact .inl k2
    · refine .inr ⟨q, cap, cur, hv, hq, ?_, hn⟩
      rw [hg.block q (Array.getElem?_eq_some_iff.1 hh).1 (fun e => by simp only [Option.some.injEq] at e; rw [e, hm] at hh; cases hh)]
      exact hh
/-- cells of other types stay -/
def Kp (w w' : World) : Prop := ∀ (k : Nat) (cs : Array Value) (t : TypeId), w.heap[k]? = some (.cells cs t (0, 0)) → t ≠ 54 → t ≠ 31 → w'.heap[k]? = some (.cells cs t (0, 0))
theorem Kp.trans {a b c : World} (h : Kp a b) (k : Kp b c) : Kp a c := fun i cs t h1 h2 h3 => k i cs t (h i cs t h1 h2 h3) h2 h3
theorem Kp.below {w w' : World} (hb : Below w.heap.size w w') : Kp w w' := fun i cs t h1 _ _ => keep_cells hb h1
theorem Kp.grown {w w' : World} {bm : Nat} (hg : w.grownBy w' (some bm)) (hm : ∃ es clock, w.heap[bm]? = some (.map es clock)) : Kp w w' := by
  intro k cs t h1 _ _
  obtain ⟨es, clock, hm⟩ := hm
  exact (hg.block k (Array.getElem?_eq_some_iff.1 h1).1 (fun e => by simp only [Option.some.injEq] at e; rw [e, hm] at h1; cases h1)).trans h1
theorem Kp.fr {base : Nat} {w w' : World} (h : Fr base [54, 31] w w') : Kp w w' := fun k cs t h1 h2 h3 => h.cells h1 (by simp [h2, h3])
def stepL (L : Log) (o : Lop) : Log := if o.kind = 0 ∨ o.kind = 1 then openLg L o.id o.at_ else if o.kind = 2 ∨ o.kind = 3 then doneLg L o.id o.at_ o.code o.num else L
theorem stepL_len (L : Log) (o : Lop) : (stepL L o).length ≤ L.length + 1 := by
  unfold stepL
  split
  · exact openLg_len _ _ _
  · split
    · exact doneLg_len _ _ _ _ _
    · omega
theorem u64_pos {n : Int} (h : (Lit.int .u64 n).wf = true) : 0 ≤ n := by
  simp [Lit.wf] at h
  have : IntKind.u64.min = 0 := rfl
  omega
set_option maxRecDepth 100000 in
set_option maxHeartbeats 8000000 in
theorem step_any (base g bm gr : Nat) (L : Log) (o : Lop) (w : World) (h : Bo w base g bm gr L) (hok : o.ok) (hlen : L.length ≤ 100000) (hbase : base ≤ w.heap.size) :
    Calls Try.prog 8 #[.pointer (some ⟨g, 0, none⟩), .pointer (some ⟨gr, 0, none⟩), lopv o] w fun e w' => e = .returned (.bool true) ∧ Bo w' base g bm gr (stepL L o) ∧ Below base w w' ∧ Kp w w' := by
  obtain ⟨kd, ⟨x, y⟩, a, cd, n⟩ := o
  have hbx : Below w.heap.size w (w.alloc (.cells #[.int .i64 kd, .int .i64 x, .int .u64 y, .int .i64 a, .int .i64 cd, .int .u64 n] 33)) := (Below.refl _ _).alloc (Nat.le_refl _) _
  have hn := heap_alloc_new w (.cells #[.int .i64 kd, .int .i64 x, .int .u64 y, .int .i64 a, .int .i64 cd, .int .u64 n] 33)
  have HBO : Hid (Bo (w.alloc (.cells #[.int .i64 kd, .int .i64 x, .int .u64 y, .int .i64 a, .int .i64 cd, .int .u64 n] 33)) base g bm gr L) := h.later hbx
  have HB1 : Hid (Below base w (w.alloc (.cells #[.int .i64 kd, .int .i64 x, .int .u64 y, .int .i64 a, .int .i64 cd, .int .u64 n] 33))) := hbx.mono hbase
  have c0 : (w.alloc (.cells #[.int .i64 kd, .int .i64 x, .int .u64 y, .int .i64 a, .int .i64 cd, .int .u64 n] 33)).cell? ⟨w.heap.size, 0, none⟩ = some (.int .i64 kd) := cell_of_heap hn rfl
  have HK1 : Hid (Kp w (w.alloc (.cells #[.int .i64 kd, .int .i64 x, .int .u64 y, .int .i64 a, .int .i64 cd, .int .u64 n] 33))) := Kp.below hbx
  clear h hbx
  rcases (show kd = 0 ∨ kd = 1 ∨ kd = 2 ∨ kd = 3 ∨ (¬ kd = 0 ∧ ¬ kd = 1 ∧ ¬ kd = 2 ∧ ¬ kd = 3) by omega) with rfl | rfl | rfl | rfl | ⟨n0, n1, n2, n3⟩
  · go_enter Try.func8, Try.ntmps8
    go_upto_region 4 with fail
    clear c0
    generalize hw1 : w.alloc (.cells #[.int .i64 0, .int .i64 x, .int .u64 y, .int .i64 a, .int .i64 cd, .int .u64 n] 33) = w1 at *
    clear hw1
    generalize hp : w.heap.size = p at *
    have HX : Hid (w1.heap[p]? = some (.cells #[.int .i64 0, .int .i64 x, .int .u64 y, .int .i64 a, .int .i64 cd, .int .u64 n] 33)) := hn
    clear hn
    refine wp_region_noPanic ?_
    refine wp_region_held_drew (S := (fun w' => w'.cell? ⟨p, 1, none⟩ = some (.int .i64 x) ∧ w'.cell? ⟨p, 2, none⟩ = some (.int .u64 y) ∧ w'.cell? ⟨p, 3, none⟩ = some (.int .i64 a))) (by kernel_rfl) ?_ (fun hHeld => ?_)
    · exact ⟨cell_of_heap HX.out rfl, cell_of_heap HX.out rfl, cell_of_heap HX.out rfl⟩
    refine held_take (i := 0) (d := 12) (v := ?_) rfl rfl (by kernel_rfl) (by kernel_rfl) (by kernel_rfl) (fun _ _ _ h => h) (Or.inl ⟨by rfl, ?_⟩) hHeld ?_
    rotate_left
    · (intro w hSw; (try dsimp only at hSw); go_simp; all_goals (with_reducible rfl))
    try simp only [Act.put, List.setIfInBounds_toArray, List.set_cons_zero, List.set_cons_succ]
    refine held_take (i := 1) (d := 13) (v := ?_) rfl rfl (by kernel_rfl) (by kernel_rfl) (by kernel_rfl) (fun _ _ _ h => h) (Or.inl ⟨by rfl, ?_⟩) hHeld ?_
    rotate_left
    · (intro w hSw; (try dsimp only at hSw); go_simp; all_goals (with_reducible rfl))
    try simp only [Act.put, List.setIfInBounds_toArray, List.set_cons_zero, List.set_cons_succ]
    refine held_take (i := 2) (d := 14) (v := ?_) rfl rfl (by kernel_rfl) (by kernel_rfl) (by kernel_rfl) (fun _ _ _ h => h) (Or.inl ⟨by rfl, ?_⟩) hHeld ?_
    rotate_left
    · (intro w hSw; (try dsimp only at hSw); go_simp; all_goals (with_reducible rfl))
    try simp only [Act.put, List.setIfInBounds_toArray, List.set_cons_zero, List.set_cons_succ]
    refine held_take (i := 3) (d := 15) (v := ?_) rfl rfl (by kernel_rfl) (by kernel_rfl) (by kernel_rfl) (fun _ _ _ h => h) (Or.inl ⟨by rfl, ?_⟩) hHeld ?_
    rotate_left
    · (intro w hSw; (try dsimp only at hSw); go_simp; all_goals (with_reducible rfl))
    try simp only [Act.put, List.setIfInBounds_toArray, List.set_cons_zero, List.set_cons_succ]
    refine held_take (i := 4) (d := 16) (v := ?_) rfl rfl (by kernel_rfl) (by kernel_rfl) (by kernel_rfl) (fun _ _ _ h => h) (Or.inl ⟨by rfl, ?_⟩) hHeld ?_
    rotate_left
    · (intro w hSw; (try dsimp only at hSw); go_simp; all_goals (with_reducible rfl))
    try simp only [Act.put, List.setIfInBounds_toArray, List.set_cons_zero, List.set_cons_succ]
    refine held_take (i := 6) (d := 18) (v := ?_) rfl rfl (by kernel_rfl) (by kernel_rfl) (by kernel_rfl) (fun _ _ _ h => h) (Or.inl ⟨by rfl, ?_⟩) hHeld ?_
    rotate_left
    · (intro w hSw; (try dsimp only at hSw); go_simp; all_goals (with_reducible rfl))
    try simp only [Act.put, List.setIfInBounds_toArray, List.set_cons_zero, List.set_cons_succ]
    refine held_take (i := 7) (d := 19) (v := ?_) rfl rfl (by kernel_rfl) (by kernel_rfl) (by kernel_rfl) (fun _ _ _ h => h) (Or.inl ⟨by rfl, ?_⟩) hHeld ?_
    rotate_left
    · (intro w hSw; (try dsimp only at hSw); go_simp; all_goals (with_reducible rfl))
    try simp only [Act.put, List.setIfInBounds_toArray, List.set_cons_zero, List.set_cons_succ]
    refine held_take (i := 8) (d := 20) (v := ?_) rfl rfl (by kernel_rfl) (by kernel_rfl) (by kernel_rfl) (fun _ _ _ h => h) (Or.inl ⟨by rfl, ?_⟩) hHeld ?_
    rotate_left
    · (intro w hSw; (try dsimp only at hSw); go_simp; all_goals (with_reducible rfl))
    try simp only [Act.put, List.setIfInBounds_toArray, List.set_cons_zero, List.set_cons_succ]
    refine held_take (i := 9) (d := 21) (v := ?_) rfl rfl (by kernel_rfl) (by kernel_rfl) (by kernel_rfl) (fun _ _ _ h => h) (Or.inl ⟨by rfl, ?_⟩) hHeld ?_
    rotate_left
    · (intro w hSw; (try dsimp only at hSw); go_simp; all_goals (with_reducible rfl))
    try simp only [Act.put, List.setIfInBounds_toArray, List.set_cons_zero, List.set_cons_succ]
    refine held_take (i := 10) (d := 22) (v := ?_) rfl rfl (by kernel_rfl) (by kernel_rfl) (by kernel_rfl) (fun _ _ _ h => h) (Or.inl ⟨by rfl, ?_⟩) hHeld ?_
    rotate_left
    · (intro w hSw; (try dsimp only at hSw); go_simp; all_goals (with_reducible rfl))
    try simp only [Act.put, List.setIfInBounds_toArray, List.set_cons_zero, List.set_cons_succ]
    refine wpAnyH_ready (rs := [5]) (by kernel_rfl) (by simp) ?_
    refine AllReadyH.cons rfl (fun K hK => ?_) AllReadyH.nil
    go_simp
    have q := open_any g bm L (x, y) a _ (HBO.out.later (Below.refl _ _).drew).s hok.id1 hlen
    refine q.mono ?_
    clear q
    rintro e w2 ⟨rfl, hS2, hg2⟩
    have HS2 : Hid (Se w2 g bm (openLg L (x, y) a)) := hS2
    have HR2 : Hid (Rt w2 base gr L) := (HBO.out.later (Below.refl _ _).drew).r.grown hg2 (HBO.out.later (Below.refl _ w1).drew).s.isMap
    have HX2 : Hid (w2.heap[p]? = some (.cells #[.int .i64 0, .int .i64 x, .int .u64 y, .int .i64 a, .int .i64 cd, .int .u64 n] 33)) := (hg2.block p (show p < w1.drew.heap.size from (Array.getElem?_eq_some_iff.1 HX.out).1) (fun e => by simp only [Option.some.injEq] at e; obtain ⟨es, cl, hm⟩ := HBO.out.s.isMap; have h0 := HX.out; rw [e, hm] at h0; cases h0)).trans (show w1.drew.heap[p]? = _ from HX.out)
    have HB2 : Hid (Below base w w2) := HB1.out.drew.trans (below_of_grown hg2 (by have := HB1.out.size; simp only [World.size_drew]; omega) HBO.out.lo)
    have HK2 : Hid (Kp w w2) := (HK1.out.trans (Kp.below (Below.refl _ w1).drew)).trans (Kp.grown hg2 (HBO.out.later (Below.refl _ w1).drew).s.isMap)
    have hbs2 : base ≤ w2.heap.size := by have := HB2.out.size; omega
    clear hS2 hg2
    go_wp2_with fail
    refine hK.out _ _ ?_ (fun hHeld => ?_)
    · exact ⟨cell_of_heap HX2.out rfl, cell_of_heap HX2.out rfl, cell_of_heap HX2.out rfl⟩
    clear hK K
    try simp only [Act.put, List.setIfInBounds_toArray, List.set_cons_zero, List.set_cons_succ]
    refine wpAnyH_ready (rs := [11]) (by kernel_rfl) (by simp) ?_
    refine AllReadyH.cons rfl (fun K hK => ?_) AllReadyH.nil
    go_simp
    have q := ropen_any base gr L (x, y) a w2 HR2.out (u64_pos hok.id2) hlen hbs2
    refine q.mono ?_
    clear q
    rintro e w3 ⟨rfl, hR3, hf3⟩
    have HS3 : Hid (Bo w3 base g bm gr (openLg L (x, y) a)) := ⟨HS2.out.fr hf3 (by simp), hR3, HBO.out.lo⟩
    have HX3 : Hid (w3.heap[p]? = some (.cells #[.int .i64 0, .int .i64 x, .int .u64 y, .int .i64 a, .int .i64 cd, .int .u64 n] 33)) := hf3.cells HX2.out (by simp)
    have HK3 : Hid (Kp w w3) := HK2.out.trans (Kp.fr hf3)
    have HB3 : Hid (Below base w w3) := HB2.out.trans (hf3.below hbs2)
    clear hR3 hf3
    go_wp2_with fail
    refine hK.out _ _ ?_ (fun hHeld => ?_)
    · exact ⟨cell_of_heap HX3.out rfl, cell_of_heap HX3.out rfl, cell_of_heap HX3.out rfl⟩
    clear hK K
    try simp only [Act.put, List.setIfInBounds_toArray, List.set_cons_zero, List.set_cons_succ]
    refine held_take (i := 12) (d := 24) (v := ?_) rfl rfl (by kernel_rfl) (by kernel_rfl) (by kernel_rfl) (fun _ _ _ h => h) (Or.inl ⟨by rfl, ?_⟩) hHeld ?_
    rotate_left
    · (intro w hSw; (try dsimp only at hSw); go_simp; all_goals (with_reducible rfl))
    try simp only [Act.put, List.setIfInBounds_toArray, List.set_cons_zero, List.set_cons_succ]
    refine held_take (i := 13) (d := 6) (v := ?_) rfl rfl (by kernel_rfl) (by kernel_rfl) (by kernel_rfl) (fun _ _ _ h => h) (Or.inl ⟨by rfl, ?_⟩) hHeld ?_
    rotate_left
    · (intro w hSw; (try dsimp only at hSw); go_simp; all_goals (with_reducible rfl))
    try simp only [Act.put, List.setIfInBounds_toArray, List.set_cons_zero, List.set_cons_succ]
    refine wpAnyH_done (by kernel_rfl) ?_ _
    refine NoPanic.normal ?_
    go_wp2
    go_ret
    exact ⟨by simp, HS3.out, HB3.out, HK3.out⟩
  · go_enter Try.func8, Try.ntmps8
    go_upto_region 4 with fail
    clear c0
    generalize hw1 : w.alloc (.cells #[.int .i64 1, .int .i64 x, .int .u64 y, .int .i64 a, .int .i64 cd, .int .u64 n] 33) = w1 at *
    clear hw1
    generalize hp : w.heap.size = p at *
    have HX : Hid (w1.heap[p]? = some (.cells #[.int .i64 1, .int .i64 x, .int .u64 y, .int .i64 a, .int .i64 cd, .int .u64 n] 33)) := hn
    clear hn
    refine wp_region_noPanic ?_
    refine wp_region_held_drew (S := (fun w' => w'.cell? ⟨p, 1, none⟩ = some (.int .i64 x) ∧ w'.cell? ⟨p, 2, none⟩ = some (.int .u64 y) ∧ w'.cell? ⟨p, 3, none⟩ = some (.int .i64 a))) (by kernel_rfl) ?_ (fun hHeld => ?_)
    · exact ⟨cell_of_heap HX.out rfl, cell_of_heap HX.out rfl, cell_of_heap HX.out rfl⟩
    refine held_take (i := 0) (d := 12) (v := ?_) rfl rfl (by kernel_rfl) (by kernel_rfl) (by kernel_rfl) (fun _ _ _ h => h) (Or.inl ⟨by rfl, ?_⟩) hHeld ?_
    rotate_left
    · (intro w hSw; (try dsimp only at hSw); go_simp; all_goals (with_reducible rfl))
    try simp only [Act.put, List.setIfInBounds_toArray, List.set_cons_zero, List.set_cons_succ]
    refine held_take (i := 1) (d := 13) (v := ?_) rfl rfl (by kernel_rfl) (by kernel_rfl) (by kernel_rfl) (fun _ _ _ h => h) (Or.inl ⟨by rfl, ?_⟩) hHeld ?_
    rotate_left
    · (intro w hSw; (try dsimp only at hSw); go_simp; all_goals (with_reducible rfl))
    try simp only [Act.put, List.setIfInBounds_toArray, List.set_cons_zero, List.set_cons_succ]
    refine held_take (i := 2) (d := 14) (v := ?_) rfl rfl (by kernel_rfl) (by kernel_rfl) (by kernel_rfl) (fun _ _ _ h => h) (Or.inl ⟨by rfl, ?_⟩) hHeld ?_
    rotate_left
    · (intro w hSw; (try dsimp only at hSw); go_simp; all_goals (with_reducible rfl))
    try simp only [Act.put, List.setIfInBounds_toArray, List.set_cons_zero, List.set_cons_succ]
    refine held_take (i := 3) (d := 15) (v := ?_) rfl rfl (by kernel_rfl) (by kernel_rfl) (by kernel_rfl) (fun _ _ _ h => h) (Or.inl ⟨by rfl, ?_⟩) hHeld ?_
    rotate_left
    · (intro w hSw; (try dsimp only at hSw); go_simp; all_goals (with_reducible rfl))
    try simp only [Act.put, List.setIfInBounds_toArray, List.set_cons_zero, List.set_cons_succ]
    refine held_take (i := 4) (d := 16) (v := ?_) rfl rfl (by kernel_rfl) (by kernel_rfl) (by kernel_rfl) (fun _ _ _ h => h) (Or.inl ⟨by rfl, ?_⟩) hHeld ?_
    rotate_left
    · (intro w hSw; (try dsimp only at hSw); go_simp; all_goals (with_reducible rfl))
    try simp only [Act.put, List.setIfInBounds_toArray, List.set_cons_zero, List.set_cons_succ]
    refine held_take (i := 6) (d := 18) (v := ?_) rfl rfl (by kernel_rfl) (by kernel_rfl) (by kernel_rfl) (fun _ _ _ h => h) (Or.inl ⟨by rfl, ?_⟩) hHeld ?_
    rotate_left
    · (intro w hSw; (try dsimp only at hSw); go_simp; all_goals (with_reducible rfl))
    try simp only [Act.put, List.setIfInBounds_toArray, List.set_cons_zero, List.set_cons_succ]
    refine held_take (i := 7) (d := 19) (v := ?_) rfl rfl (by kernel_rfl) (by kernel_rfl) (by kernel_rfl) (fun _ _ _ h => h) (Or.inl ⟨by rfl, ?_⟩) hHeld ?_
    rotate_left
    · (intro w hSw; (try dsimp only at hSw); go_simp; all_goals (with_reducible rfl))
    try simp only [Act.put, List.setIfInBounds_toArray, List.set_cons_zero, List.set_cons_succ]
    refine held_take (i := 8) (d := 20) (v := ?_) rfl rfl (by kernel_rfl) (by kernel_rfl) (by kernel_rfl) (fun _ _ _ h => h) (Or.inl ⟨by rfl, ?_⟩) hHeld ?_
    rotate_left
    · (intro w hSw; (try dsimp only at hSw); go_simp; all_goals (with_reducible rfl))
    try simp only [Act.put, List.setIfInBounds_toArray, List.set_cons_zero, List.set_cons_succ]
    refine held_take (i := 9) (d := 21) (v := ?_) rfl rfl (by kernel_rfl) (by kernel_rfl) (by kernel_rfl) (fun _ _ _ h => h) (Or.inl ⟨by rfl, ?_⟩) hHeld ?_
    rotate_left
    · (intro w hSw; (try dsimp only at hSw); go_simp; all_goals (with_reducible rfl))
    try simp only [Act.put, List.setIfInBounds_toArray, List.set_cons_zero, List.set_cons_succ]
    refine held_take (i := 10) (d := 22) (v := ?_) rfl rfl (by kernel_rfl) (by kernel_rfl) (by kernel_rfl) (fun _ _ _ h => h) (Or.inl ⟨by rfl, ?_⟩) hHeld ?_
    rotate_left
    · (intro w hSw; (try dsimp only at hSw); go_simp; all_goals (with_reducible rfl))
    try simp only [Act.put, List.setIfInBounds_toArray, List.set_cons_zero, List.set_cons_succ]
    refine wpAnyH_ready (rs := [5]) (by kernel_rfl) (by simp) ?_
    refine AllReadyH.cons rfl (fun K hK => ?_) AllReadyH.nil
    go_simp
    have q := open_any g bm L (x, y) a _ (HBO.out.later (Below.refl _ _).drew).s hok.id1 hlen
    refine q.mono ?_
    clear q
    rintro e w2 ⟨rfl, hS2, hg2⟩
    have HS2 : Hid (Se w2 g bm (openLg L (x, y) a)) := hS2
    have HR2 : Hid (Rt w2 base gr L) := (HBO.out.later (Below.refl _ _).drew).r.grown hg2 (HBO.out.later (Below.refl _ w1).drew).s.isMap
    have HX2 : Hid (w2.heap[p]? = some (.cells #[.int .i64 1, .int .i64 x, .int .u64 y, .int .i64 a, .int .i64 cd, .int .u64 n] 33)) := (hg2.block p (show p < w1.drew.heap.size from (Array.getElem?_eq_some_iff.1 HX.out).1) (fun e => by simp only [Option.some.injEq] at e; obtain ⟨es, cl, hm⟩ := HBO.out.s.isMap; have h0 := HX.out; rw [e, hm] at h0; cases h0)).trans (show w1.drew.heap[p]? = _ from HX.out)
    have HB2 : Hid (Below base w w2) := HB1.out.drew.trans (below_of_grown hg2 (by have := HB1.out.size; simp only [World.size_drew]; omega) HBO.out.lo)
    have HK2 : Hid (Kp w w2) := (HK1.out.trans (Kp.below (Below.refl _ w1).drew)).trans (Kp.grown hg2 (HBO.out.later (Below.refl _ w1).drew).s.isMap)
    have hbs2 : base ≤ w2.heap.size := by have := HB2.out.size; omega
    clear hS2 hg2
    go_wp2_with fail
    refine hK.out _ _ ?_ (fun hHeld => ?_)
    · exact ⟨cell_of_heap HX2.out rfl, cell_of_heap HX2.out rfl, cell_of_heap HX2.out rfl⟩
    clear hK K
    try simp only [Act.put, List.setIfInBounds_toArray, List.set_cons_zero, List.set_cons_succ]
    refine wpAnyH_ready (rs := [11]) (by kernel_rfl) (by simp) ?_
    refine AllReadyH.cons rfl (fun K hK => ?_) AllReadyH.nil
    go_simp
    have q := ropen_any base gr L (x, y) a w2 HR2.out (u64_pos hok.id2) hlen hbs2
    refine q.mono ?_
    clear q
    rintro e w3 ⟨rfl, hR3, hf3⟩
    have HS3 : Hid (Bo w3 base g bm gr (openLg L (x, y) a)) := ⟨HS2.out.fr hf3 (by simp), hR3, HBO.out.lo⟩
    have HX3 : Hid (w3.heap[p]? = some (.cells #[.int .i64 1, .int .i64 x, .int .u64 y, .int .i64 a, .int .i64 cd, .int .u64 n] 33)) := hf3.cells HX2.out (by simp)
    have HK3 : Hid (Kp w w3) := HK2.out.trans (Kp.fr hf3)
    have HB3 : Hid (Below base w w3) := HB2.out.trans (hf3.below hbs2)
    clear hR3 hf3
    go_wp2_with fail
    refine hK.out _ _ ?_ (fun hHeld => ?_)
    · exact ⟨cell_of_heap HX3.out rfl, cell_of_heap HX3.out rfl, cell_of_heap HX3.out rfl⟩
    clear hK K
    try simp only [Act.put, List.setIfInBounds_toArray, List.set_cons_zero, List.set_cons_succ]
    refine held_take (i := 12) (d := 24) (v := ?_) rfl rfl (by kernel_rfl) (by kernel_rfl) (by kernel_rfl) (fun _ _ _ h => h) (Or.inl ⟨by rfl, ?_⟩) hHeld ?_
    rotate_left
    · (intro w hSw; (try dsimp only at hSw); go_simp; all_goals (with_reducible rfl))
    try simp only [Act.put, List.setIfInBounds_toArray, List.set_cons_zero, List.set_cons_succ]
    refine held_take (i := 13) (d := 6) (v := ?_) rfl rfl (by kernel_rfl) (by kernel_rfl) (by kernel_rfl) (fun _ _ _ h => h) (Or.inl ⟨by rfl, ?_⟩) hHeld ?_
    rotate_left
    · (intro w hSw; (try dsimp only at hSw); go_simp; all_goals (with_reducible rfl))
    try simp only [Act.put, List.setIfInBounds_toArray, List.set_cons_zero, List.set_cons_succ]
    refine wpAnyH_done (by kernel_rfl) ?_ _
    refine NoPanic.normal ?_
    go_wp2
    go_ret
    exact ⟨by simp, HS3.out, HB3.out, HK3.out⟩
  · go_enter Try.func8, Try.ntmps8
    go_upto_region 7 with fail
    clear c0
    generalize hw1 : w.alloc (.cells #[.int .i64 2, .int .i64 x, .int .u64 y, .int .i64 a, .int .i64 cd, .int .u64 n] 33) = w1 at *
    clear hw1
    generalize hp : w.heap.size = p at *
    have HX : Hid (w1.heap[p]? = some (.cells #[.int .i64 2, .int .i64 x, .int .u64 y, .int .i64 a, .int .i64 cd, .int .u64 n] 33)) := hn
    clear hn
    refine wp_region_noPanic ?_
    refine wp_region_held_drew (S := (fun w' => w'.cell? ⟨p, 1, none⟩ = some (.int .i64 x) ∧ w'.cell? ⟨p, 2, none⟩ = some (.int .u64 y) ∧ w'.cell? ⟨p, 3, none⟩ = some (.int .i64 a) ∧ w'.cell? ⟨p, 4, none⟩ = some (.int .i64 cd) ∧ w'.cell? ⟨p, 5, none⟩ = some (.int .u64 n))) (by kernel_rfl) ?_ (fun hHeld => ?_)
    · exact ⟨cell_of_heap HX.out rfl, cell_of_heap HX.out rfl, cell_of_heap HX.out rfl, cell_of_heap HX.out rfl, cell_of_heap HX.out rfl⟩
    refine held_take (i := 0) (d := 28) (v := ?_) rfl rfl (by kernel_rfl) (by kernel_rfl) (by kernel_rfl) (fun _ _ _ h => h) (Or.inl ⟨by rfl, ?_⟩) hHeld ?_
    rotate_left
    · (intro w hSw; (try dsimp only at hSw); go_simp; all_goals (with_reducible rfl))
    try simp only [Act.put, List.setIfInBounds_toArray, List.set_cons_zero, List.set_cons_succ]
    refine held_take (i := 1) (d := 29) (v := ?_) rfl rfl (by kernel_rfl) (by kernel_rfl) (by kernel_rfl) (fun _ _ _ h => h) (Or.inl ⟨by rfl, ?_⟩) hHeld ?_
    rotate_left
    · (intro w hSw; (try dsimp only at hSw); go_simp; all_goals (with_reducible rfl))
    try simp only [Act.put, List.setIfInBounds_toArray, List.set_cons_zero, List.set_cons_succ]
    refine held_take (i := 2) (d := 30) (v := ?_) rfl rfl (by kernel_rfl) (by kernel_rfl) (by kernel_rfl) (fun _ _ _ h => h) (Or.inl ⟨by rfl, ?_⟩) hHeld ?_
    rotate_left
    · (intro w hSw; (try dsimp only at hSw); go_simp; all_goals (with_reducible rfl))
    try simp only [Act.put, List.setIfInBounds_toArray, List.set_cons_zero, List.set_cons_succ]
    refine held_take (i := 3) (d := 31) (v := ?_) rfl rfl (by kernel_rfl) (by kernel_rfl) (by kernel_rfl) (fun _ _ _ h => h) (Or.inl ⟨by rfl, ?_⟩) hHeld ?_
    rotate_left
    · (intro w hSw; (try dsimp only at hSw); go_simp; all_goals (with_reducible rfl))
    try simp only [Act.put, List.setIfInBounds_toArray, List.set_cons_zero, List.set_cons_succ]
    refine held_take (i := 4) (d := 32) (v := ?_) rfl rfl (by kernel_rfl) (by kernel_rfl) (by kernel_rfl) (fun _ _ _ h => h) (Or.inl ⟨by rfl, ?_⟩) hHeld ?_
    rotate_left
    · (intro w hSw; (try dsimp only at hSw); go_simp; all_goals (with_reducible rfl))
    try simp only [Act.put, List.setIfInBounds_toArray, List.set_cons_zero, List.set_cons_succ]
    refine held_take (i := 5) (d := 33) (v := ?_) rfl rfl (by kernel_rfl) (by kernel_rfl) (by kernel_rfl) (fun _ _ _ h => h) (Or.inl ⟨by rfl, ?_⟩) hHeld ?_
    rotate_left
    · (intro w hSw; (try dsimp only at hSw); go_simp; all_goals (with_reducible rfl))
    try simp only [Act.put, List.setIfInBounds_toArray, List.set_cons_zero, List.set_cons_succ]
    refine held_take (i := 6) (d := 34) (v := ?_) rfl rfl (by kernel_rfl) (by kernel_rfl) (by kernel_rfl) (fun _ _ _ h => h) (Or.inl ⟨by rfl, ?_⟩) hHeld ?_
    rotate_left
    · (intro w hSw; (try dsimp only at hSw); go_simp; all_goals (with_reducible rfl))
    try simp only [Act.put, List.setIfInBounds_toArray, List.set_cons_zero, List.set_cons_succ]
    refine held_take (i := 7) (d := 35) (v := ?_) rfl rfl (by kernel_rfl) (by kernel_rfl) (by kernel_rfl) (fun _ _ _ h => h) (Or.inl ⟨by rfl, ?_⟩) hHeld ?_
    rotate_left
    · (intro w hSw; (try dsimp only at hSw); go_simp; all_goals (with_reducible rfl))
    try simp only [Act.put, List.setIfInBounds_toArray, List.set_cons_zero, List.set_cons_succ]
    refine held_take (i := 8) (d := 36) (v := ?_) rfl rfl (by kernel_rfl) (by kernel_rfl) (by kernel_rfl) (fun _ _ _ h => h) (Or.inl ⟨by rfl, ?_⟩) hHeld ?_
    rotate_left
    · (intro w hSw; (try dsimp only at hSw); go_simp; all_goals (with_reducible rfl))
    try simp only [Act.put, List.setIfInBounds_toArray, List.set_cons_zero, List.set_cons_succ]
    refine held_take (i := 10) (d := 38) (v := ?_) rfl rfl (by kernel_rfl) (by kernel_rfl) (by kernel_rfl) (fun _ _ _ h => h) (Or.inl ⟨by rfl, ?_⟩) hHeld ?_
    rotate_left
    · (intro w hSw; (try dsimp only at hSw); go_simp; all_goals (with_reducible rfl))
    try simp only [Act.put, List.setIfInBounds_toArray, List.set_cons_zero, List.set_cons_succ]
    refine held_take (i := 11) (d := 39) (v := ?_) rfl rfl (by kernel_rfl) (by kernel_rfl) (by kernel_rfl) (fun _ _ _ h => h) (Or.inl ⟨by rfl, ?_⟩) hHeld ?_
    rotate_left
    · (intro w hSw; (try dsimp only at hSw); go_simp; all_goals (with_reducible rfl))
    try simp only [Act.put, List.setIfInBounds_toArray, List.set_cons_zero, List.set_cons_succ]
    refine held_take (i := 12) (d := 40) (v := ?_) rfl rfl (by kernel_rfl) (by kernel_rfl) (by kernel_rfl) (fun _ _ _ h => h) (Or.inl ⟨by rfl, ?_⟩) hHeld ?_
    rotate_left
    · (intro w hSw; (try dsimp only at hSw); go_simp; all_goals (with_reducible rfl))
    try simp only [Act.put, List.setIfInBounds_toArray, List.set_cons_zero, List.set_cons_succ]
    refine held_take (i := 13) (d := 41) (v := ?_) rfl rfl (by kernel_rfl) (by kernel_rfl) (by kernel_rfl) (fun _ _ _ h => h) (Or.inl ⟨by rfl, ?_⟩) hHeld ?_
    rotate_left
    · (intro w hSw; (try dsimp only at hSw); go_simp; all_goals (with_reducible rfl))
    try simp only [Act.put, List.setIfInBounds_toArray, List.set_cons_zero, List.set_cons_succ]
    refine held_take (i := 14) (d := 42) (v := ?_) rfl rfl (by kernel_rfl) (by kernel_rfl) (by kernel_rfl) (fun _ _ _ h => h) (Or.inl ⟨by rfl, ?_⟩) hHeld ?_
    rotate_left
    · (intro w hSw; (try dsimp only at hSw); go_simp; all_goals (with_reducible rfl))
    try simp only [Act.put, List.setIfInBounds_toArray, List.set_cons_zero, List.set_cons_succ]
    refine held_take (i := 15) (d := 43) (v := ?_) rfl rfl (by kernel_rfl) (by kernel_rfl) (by kernel_rfl) (fun _ _ _ h => h) (Or.inl ⟨by rfl, ?_⟩) hHeld ?_
    rotate_left
    · (intro w hSw; (try dsimp only at hSw); go_simp; all_goals (with_reducible rfl))
    try simp only [Act.put, List.setIfInBounds_toArray, List.set_cons_zero, List.set_cons_succ]
    refine held_take (i := 16) (d := 44) (v := ?_) rfl rfl (by kernel_rfl) (by kernel_rfl) (by kernel_rfl) (fun _ _ _ h => h) (Or.inl ⟨by rfl, ?_⟩) hHeld ?_
    rotate_left
    · (intro w hSw; (try dsimp only at hSw); go_simp; all_goals (with_reducible rfl))
    try simp only [Act.put, List.setIfInBounds_toArray, List.set_cons_zero, List.set_cons_succ]
    refine held_take (i := 17) (d := 45) (v := ?_) rfl rfl (by kernel_rfl) (by kernel_rfl) (by kernel_rfl) (fun _ _ _ h => h) (Or.inl ⟨by rfl, ?_⟩) hHeld ?_
    rotate_left
    · (intro w hSw; (try dsimp only at hSw); go_simp; all_goals (with_reducible rfl))
    try simp only [Act.put, List.setIfInBounds_toArray, List.set_cons_zero, List.set_cons_succ]
    refine held_take (i := 18) (d := 46) (v := ?_) rfl rfl (by kernel_rfl) (by kernel_rfl) (by kernel_rfl) (fun _ _ _ h => h) (Or.inl ⟨by rfl, ?_⟩) hHeld ?_
    rotate_left
    · (intro w hSw; (try dsimp only at hSw); go_simp; all_goals (with_reducible rfl))
    try simp only [Act.put, List.setIfInBounds_toArray, List.set_cons_zero, List.set_cons_succ]
    refine wpAnyH_ready (rs := [9]) (by kernel_rfl) (by simp) ?_
    refine AllReadyH.cons rfl (fun K hK => ?_) AllReadyH.nil
    go_simp
    have q := done_any g bm L (x, y) a cd n _ (HBO.out.later (Below.refl _ _).drew).s hok.id1 hlen
    refine q.mono ?_
    clear q
    rintro e w2 ⟨rfl, hS2, hg2⟩
    have HS2 : Hid (Se w2 g bm (doneLg L (x, y) a cd n)) := hS2
    have HR2 : Hid (Rt w2 base gr L) := (HBO.out.later (Below.refl _ _).drew).r.grown hg2 (HBO.out.later (Below.refl _ w1).drew).s.isMap
    have HX2 : Hid (w2.heap[p]? = some (.cells #[.int .i64 2, .int .i64 x, .int .u64 y, .int .i64 a, .int .i64 cd, .int .u64 n] 33)) := (hg2.block p (show p < w1.drew.heap.size from (Array.getElem?_eq_some_iff.1 HX.out).1) (fun e => by simp only [Option.some.injEq] at e; obtain ⟨es, cl, hm⟩ := HBO.out.s.isMap; have h0 := HX.out; rw [e, hm] at h0; cases h0)).trans (show w1.drew.heap[p]? = _ from HX.out)
    have HB2 : Hid (Below base w w2) := HB1.out.drew.trans (below_of_grown hg2 (by have := HB1.out.size; simp only [World.size_drew]; omega) HBO.out.lo)
    have HK2 : Hid (Kp w w2) := (HK1.out.trans (Kp.below (Below.refl _ w1).drew)).trans (Kp.grown hg2 (HBO.out.later (Below.refl _ w1).drew).s.isMap)
    have hbs2 : base ≤ w2.heap.size := by have := HB2.out.size; omega
    clear hS2 hg2
    go_wp2_with fail
    refine hK.out _ _ ?_ (fun hHeld => ?_)
    · exact ⟨cell_of_heap HX2.out rfl, cell_of_heap HX2.out rfl, cell_of_heap HX2.out rfl, cell_of_heap HX2.out rfl, cell_of_heap HX2.out rfl⟩
    clear hK K
    try simp only [Act.put, List.setIfInBounds_toArray, List.set_cons_zero, List.set_cons_succ]
    refine wpAnyH_ready (rs := [19]) (by kernel_rfl) (by simp) ?_
    refine AllReadyH.cons rfl (fun K hK => ?_) AllReadyH.nil
    go_simp
    have q := rdone_any base gr L (x, y) a cd n w2 HR2.out (u64_pos hok.id2) hlen hbs2
    refine q.mono ?_
    clear q
    rintro e w3 ⟨rfl, hR3, hf3⟩
    have HS3 : Hid (Bo w3 base g bm gr (doneLg L (x, y) a cd n)) := ⟨HS2.out.fr hf3 (by simp), hR3, HBO.out.lo⟩
    have HX3 : Hid (w3.heap[p]? = some (.cells #[.int .i64 2, .int .i64 x, .int .u64 y, .int .i64 a, .int .i64 cd, .int .u64 n] 33)) := hf3.cells HX2.out (by simp)
    have HK3 : Hid (Kp w w3) := HK2.out.trans (Kp.fr hf3)
    have HB3 : Hid (Below base w w3) := HB2.out.trans (hf3.below hbs2)
    clear hR3 hf3
    go_wp2_with fail
    refine hK.out _ _ ?_ (fun hHeld => ?_)
    · exact ⟨cell_of_heap HX3.out rfl, cell_of_heap HX3.out rfl, cell_of_heap HX3.out rfl, cell_of_heap HX3.out rfl, cell_of_heap HX3.out rfl⟩
    clear hK K
    try simp only [Act.put, List.setIfInBounds_toArray, List.set_cons_zero, List.set_cons_succ]
    refine held_take (i := 20) (d := 48) (v := ?_) rfl rfl (by kernel_rfl) (by kernel_rfl) (by kernel_rfl) (fun _ _ _ h => h) (Or.inl ⟨by rfl, ?_⟩) hHeld ?_
    rotate_left
    · (intro w hSw; (try dsimp only at hSw); go_simp; all_goals (with_reducible rfl))
    try simp only [Act.put, List.setIfInBounds_toArray, List.set_cons_zero, List.set_cons_succ]
    refine held_take (i := 21) (d := 6) (v := ?_) rfl rfl (by kernel_rfl) (by kernel_rfl) (by kernel_rfl) (fun _ _ _ h => h) (Or.inl ⟨by rfl, ?_⟩) hHeld ?_
    rotate_left
    · (intro w hSw; (try dsimp only at hSw); go_simp; all_goals (with_reducible rfl))
    try simp only [Act.put, List.setIfInBounds_toArray, List.set_cons_zero, List.set_cons_succ]
    refine wpAnyH_done (by kernel_rfl) ?_ _
    refine NoPanic.normal ?_
    go_wp2
    go_ret
    exact ⟨by simp, HS3.out, HB3.out, HK3.out⟩
  · go_enter Try.func8, Try.ntmps8
    go_upto_region 7 with fail
    clear c0
    generalize hw1 : w.alloc (.cells #[.int .i64 3, .int .i64 x, .int .u64 y, .int .i64 a, .int .i64 cd, .int .u64 n] 33) = w1 at *
    clear hw1
    generalize hp : w.heap.size = p at *
    have HX : Hid (w1.heap[p]? = some (.cells #[.int .i64 3, .int .i64 x, .int .u64 y, .int .i64 a, .int .i64 cd, .int .u64 n] 33)) := hn
    clear hn
    refine wp_region_noPanic ?_
    refine wp_region_held_drew (S := (fun w' => w'.cell? ⟨p, 1, none⟩ = some (.int .i64 x) ∧ w'.cell? ⟨p, 2, none⟩ = some (.int .u64 y) ∧ w'.cell? ⟨p, 3, none⟩ = some (.int .i64 a) ∧ w'.cell? ⟨p, 4, none⟩ = some (.int .i64 cd) ∧ w'.cell? ⟨p, 5, none⟩ = some (.int .u64 n))) (by kernel_rfl) ?_ (fun hHeld => ?_)
    · exact ⟨cell_of_heap HX.out rfl, cell_of_heap HX.out rfl, cell_of_heap HX.out rfl, cell_of_heap HX.out rfl, cell_of_heap HX.out rfl⟩
    refine held_take (i := 0) (d := 28) (v := ?_) rfl rfl (by kernel_rfl) (by kernel_rfl) (by kernel_rfl) (fun _ _ _ h => h) (Or.inl ⟨by rfl, ?_⟩) hHeld ?_
    rotate_left
    · (intro w hSw; (try dsimp only at hSw); go_simp; all_goals (with_reducible rfl))
    try simp only [Act.put, List.setIfInBounds_toArray, List.set_cons_zero, List.set_cons_succ]
    refine held_take (i := 1) (d := 29) (v := ?_) rfl rfl (by kernel_rfl) (by kernel_rfl) (by kernel_rfl) (fun _ _ _ h => h) (Or.inl ⟨by rfl, ?_⟩) hHeld ?_
    rotate_left
    · (intro w hSw; (try dsimp only at hSw); go_simp; all_goals (with_reducible rfl))
    try simp only [Act.put, List.setIfInBounds_toArray, List.set_cons_zero, List.set_cons_succ]
    refine held_take (i := 2) (d := 30) (v := ?_) rfl rfl (by kernel_rfl) (by kernel_rfl) (by kernel_rfl) (fun _ _ _ h => h) (Or.inl ⟨by rfl, ?_⟩) hHeld ?_
    rotate_left
    · (intro w hSw; (try dsimp only at hSw); go_simp; all_goals (with_reducible rfl))
    try simp only [Act.put, List.setIfInBounds_toArray, List.set_cons_zero, List.set_cons_succ]
    refine held_take (i := 3) (d := 31) (v := ?_) rfl rfl (by kernel_rfl) (by kernel_rfl) (by kernel_rfl) (fun _ _ _ h => h) (Or.inl ⟨by rfl, ?_⟩) hHeld ?_
    rotate_left
    · (intro w hSw; (try dsimp only at hSw); go_simp; all_goals (with_reducible rfl))
    try simp only [Act.put, List.setIfInBounds_toArray, List.set_cons_zero, List.set_cons_succ]
    refine held_take (i := 4) (d := 32) (v := ?_) rfl rfl (by kernel_rfl) (by kernel_rfl) (by kernel_rfl) (fun _ _ _ h => h) (Or.inl ⟨by rfl, ?_⟩) hHeld ?_
    rotate_left
    · (intro w hSw; (try dsimp only at hSw); go_simp; all_goals (with_reducible rfl))
    try simp only [Act.put, List.setIfInBounds_toArray, List.set_cons_zero, List.set_cons_succ]
    refine held_take (i := 5) (d := 33) (v := ?_) rfl rfl (by kernel_rfl) (by kernel_rfl) (by kernel_rfl) (fun _ _ _ h => h) (Or.inl ⟨by rfl, ?_⟩) hHeld ?_
    rotate_left
    · (intro w hSw; (try dsimp only at hSw); go_simp; all_goals (with_reducible rfl))
    try simp only [Act.put, List.setIfInBounds_toArray, List.set_cons_zero, List.set_cons_succ]
    refine held_take (i := 6) (d := 34) (v := ?_) rfl rfl (by kernel_rfl) (by kernel_rfl) (by kernel_rfl) (fun _ _ _ h => h) (Or.inl ⟨by rfl, ?_⟩) hHeld ?_
    rotate_left
    · (intro w hSw; (try dsimp only at hSw); go_simp; all_goals (with_reducible rfl))
    try simp only [Act.put, List.setIfInBounds_toArray, List.set_cons_zero, List.set_cons_succ]
    refine held_take (i := 7) (d := 35) (v := ?_) rfl rfl (by kernel_rfl) (by kernel_rfl) (by kernel_rfl) (fun _ _ _ h => h) (Or.inl ⟨by rfl, ?_⟩) hHeld ?_
    rotate_left
    · (intro w hSw; (try dsimp only at hSw); go_simp; all_goals (with_reducible rfl))
    try simp only [Act.put, List.setIfInBounds_toArray, List.set_cons_zero, List.set_cons_succ]
    refine held_take (i := 8) (d := 36) (v := ?_) rfl rfl (by kernel_rfl) (by kernel_rfl) (by kernel_rfl) (fun _ _ _ h => h) (Or.inl ⟨by rfl, ?_⟩) hHeld ?_
    rotate_left
    · (intro w hSw; (try dsimp only at hSw); go_simp; all_goals (with_reducible rfl))
    try simp only [Act.put, List.setIfInBounds_toArray, List.set_cons_zero, List.set_cons_succ]
    refine held_take (i := 10) (d := 38) (v := ?_) rfl rfl (by kernel_rfl) (by kernel_rfl) (by kernel_rfl) (fun _ _ _ h => h) (Or.inl ⟨by rfl, ?_⟩) hHeld ?_
    rotate_left
    · (intro w hSw; (try dsimp only at hSw); go_simp; all_goals (with_reducible rfl))
    try simp only [Act.put, List.setIfInBounds_toArray, List.set_cons_zero, List.set_cons_succ]
    refine held_take (i := 11) (d := 39) (v := ?_) rfl rfl (by kernel_rfl) (by kernel_rfl) (by kernel_rfl) (fun _ _ _ h => h) (Or.inl ⟨by rfl, ?_⟩) hHeld ?_
    rotate_left
    · (intro w hSw; (try dsimp only at hSw); go_simp; all_goals (with_reducible rfl))
    try simp only [Act.put, List.setIfInBounds_toArray, List.set_cons_zero, List.set_cons_succ]
    refine held_take (i := 12) (d := 40) (v := ?_) rfl rfl (by kernel_rfl) (by kernel_rfl) (by kernel_rfl) (fun _ _ _ h => h) (Or.inl ⟨by rfl, ?_⟩) hHeld ?_
    rotate_left
    · (intro w hSw; (try dsimp only at hSw); go_simp; all_goals (with_reducible rfl))
    try simp only [Act.put, List.setIfInBounds_toArray, List.set_cons_zero, List.set_cons_succ]
    refine held_take (i := 13) (d := 41) (v := ?_) rfl rfl (by kernel_rfl) (by kernel_rfl) (by kernel_rfl) (fun _ _ _ h => h) (Or.inl ⟨by rfl, ?_⟩) hHeld ?_
    rotate_left
    · (intro w hSw; (try dsimp only at hSw); go_simp; all_goals (with_reducible rfl))
    try simp only [Act.put, List.setIfInBounds_toArray, List.set_cons_zero, List.set_cons_succ]
    refine held_take (i := 14) (d := 42) (v := ?_) rfl rfl (by kernel_rfl) (by kernel_rfl) (by kernel_rfl) (fun _ _ _ h => h) (Or.inl ⟨by rfl, ?_⟩) hHeld ?_
    rotate_left
    · (intro w hSw; (try dsimp only at hSw); go_simp; all_goals (with_reducible rfl))
    try simp only [Act.put, List.setIfInBounds_toArray, List.set_cons_zero, List.set_cons_succ]
    refine held_take (i := 15) (d := 43) (v := ?_) rfl rfl (by kernel_rfl) (by kernel_rfl) (by kernel_rfl) (fun _ _ _ h => h) (Or.inl ⟨by rfl, ?_⟩) hHeld ?_
    rotate_left
    · (intro w hSw; (try dsimp only at hSw); go_simp; all_goals (with_reducible rfl))
    try simp only [Act.put, List.setIfInBounds_toArray, List.set_cons_zero, List.set_cons_succ]
    refine held_take (i := 16) (d := 44) (v := ?_) rfl rfl (by kernel_rfl) (by kernel_rfl) (by kernel_rfl) (fun _ _ _ h => h) (Or.inl ⟨by rfl, ?_⟩) hHeld ?_
    rotate_left
    · (intro w hSw; (try dsimp only at hSw); go_simp; all_goals (with_reducible rfl))
    try simp only [Act.put, List.setIfInBounds_toArray, List.set_cons_zero, List.set_cons_succ]
    refine held_take (i := 17) (d := 45) (v := ?_) rfl rfl (by kernel_rfl) (by kernel_rfl) (by kernel_rfl) (fun _ _ _ h => h) (Or.inl ⟨by rfl, ?_⟩) hHeld ?_
    rotate_left
    · (intro w hSw; (try dsimp only at hSw); go_simp; all_goals (with_reducible rfl))
    try simp only [Act.put, List.setIfInBounds_toArray, List.set_cons_zero, List.set_cons_succ]
    refine held_take (i := 18) (d := 46) (v := ?_) rfl rfl (by kernel_rfl) (by kernel_rfl) (by kernel_rfl) (fun _ _ _ h => h) (Or.inl ⟨by rfl, ?_⟩) hHeld ?_
    rotate_left
    · (intro w hSw; (try dsimp only at hSw); go_simp; all_goals (with_reducible rfl))
    try simp only [Act.put, List.setIfInBounds_toArray, List.set_cons_zero, List.set_cons_succ]
    refine wpAnyH_ready (rs := [9]) (by kernel_rfl) (by simp) ?_
    refine AllReadyH.cons rfl (fun K hK => ?_) AllReadyH.nil
    go_simp
    have q := done_any g bm L (x, y) a cd n _ (HBO.out.later (Below.refl _ _).drew).s hok.id1 hlen
    refine q.mono ?_
    clear q
    rintro e w2 ⟨rfl, hS2, hg2⟩
    have HS2 : Hid (Se w2 g bm (doneLg L (x, y) a cd n)) := hS2
    have HR2 : Hid (Rt w2 base gr L) := (HBO.out.later (Below.refl _ _).drew).r.grown hg2 (HBO.out.later (Below.refl _ w1).drew).s.isMap
    have HX2 : Hid (w2.heap[p]? = some (.cells #[.int .i64 3, .int .i64 x, .int .u64 y, .int .i64 a, .int .i64 cd, .int .u64 n] 33)) := (hg2.block p (show p < w1.drew.heap.size from (Array.getElem?_eq_some_iff.1 HX.out).1) (fun e => by simp only [Option.some.injEq] at e; obtain ⟨es, cl, hm⟩ := HBO.out.s.isMap; have h0 := HX.out; rw [e, hm] at h0; cases h0)).trans (show w1.drew.heap[p]? = _ from HX.out)
    have HB2 : Hid (Below base w w2) := HB1.out.drew.trans (below_of_grown hg2 (by have := HB1.out.size; simp only [World.size_drew]; omega) HBO.out.lo)
    have HK2 : Hid (Kp w w2) := (HK1.out.trans (Kp.below (Below.refl _ w1).drew)).trans (Kp.grown hg2 (HBO.out.later (Below.refl _ w1).drew).s.isMap)
    have hbs2 : base ≤ w2.heap.size := by have := HB2.out.size; omega
    clear hS2 hg2
    go_wp2_with fail
    refine hK.out _ _ ?_ (fun hHeld => ?_)
    · exact ⟨cell_of_heap HX2.out rfl, cell_of_heap HX2.out rfl, cell_of_heap HX2.out rfl, cell_of_heap HX2.out rfl, cell_of_heap HX2.out rfl⟩
    clear hK K
    try simp only [Act.put, List.setIfInBounds_toArray, List.set_cons_zero, List.set_cons_succ]
    refine wpAnyH_ready (rs := [19]) (by kernel_rfl) (by simp) ?_
    refine AllReadyH.cons rfl (fun K hK => ?_) AllReadyH.nil
    go_simp
    have q := rdone_any base gr L (x, y) a cd n w2 HR2.out (u64_pos hok.id2) hlen hbs2
    refine q.mono ?_
    clear q
    rintro e w3 ⟨rfl, hR3, hf3⟩
    have HS3 : Hid (Bo w3 base g bm gr (doneLg L (x, y) a cd n)) := ⟨HS2.out.fr hf3 (by simp), hR3, HBO.out.lo⟩
    have HX3 : Hid (w3.heap[p]? = some (.cells #[.int .i64 3, .int .i64 x, .int .u64 y, .int .i64 a, .int .i64 cd, .int .u64 n] 33)) := hf3.cells HX2.out (by simp)
    have HK3 : Hid (Kp w w3) := HK2.out.trans (Kp.fr hf3)
    have HB3 : Hid (Below base w w3) := HB2.out.trans (hf3.below hbs2)
    clear hR3 hf3
    go_wp2_with fail
    refine hK.out _ _ ?_ (fun hHeld => ?_)
    · exact ⟨cell_of_heap HX3.out rfl, cell_of_heap HX3.out rfl, cell_of_heap HX3.out rfl, cell_of_heap HX3.out rfl, cell_of_heap HX3.out rfl⟩
    clear hK K
    try simp only [Act.put, List.setIfInBounds_toArray, List.set_cons_zero, List.set_cons_succ]
    refine held_take (i := 20) (d := 48) (v := ?_) rfl rfl (by kernel_rfl) (by kernel_rfl) (by kernel_rfl) (fun _ _ _ h => h) (Or.inl ⟨by rfl, ?_⟩) hHeld ?_
    rotate_left
    · (intro w hSw; (try dsimp only at hSw); go_simp; all_goals (with_reducible rfl))
    try simp only [Act.put, List.setIfInBounds_toArray, List.set_cons_zero, List.set_cons_succ]
    refine held_take (i := 21) (d := 6) (v := ?_) rfl rfl (by kernel_rfl) (by kernel_rfl) (by kernel_rfl) (fun _ _ _ h => h) (Or.inl ⟨by rfl, ?_⟩) hHeld ?_
    rotate_left
    · (intro w hSw; (try dsimp only at hSw); go_simp; all_goals (with_reducible rfl))
    try simp only [Act.put, List.setIfInBounds_toArray, List.set_cons_zero, List.set_cons_succ]
    refine wpAnyH_done (by kernel_rfl) ?_ _
    refine NoPanic.normal ?_
    go_wp2
    go_ret
    exact ⟨by simp, HS3.out, HB3.out, HK3.out⟩
  · have HF : Hid (stepL L ⟨kd, (x, y), a, cd, n⟩ = L) := by simp [Hid, stepL, n0, n1, n2, n3]
    have k0 : (kd == 0) = false := by simp [n0]
    have k1 : (kd == 1) = false := by simp [n1]
    have k2 : (kd == 2) = false := by simp [n2]
    have k3 : (kd == 3) = false := by simp [n3]
    clear hn
    go_enter Try.func8, Try.ntmps8
    go_wp2
    go_ret
    exact ⟨rfl, by rw [HF.out]; exact HBO.out, HB1.out, HK1.out⟩
end Go.Proofs.Ytophkidigajliaa
