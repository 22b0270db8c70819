/- Open and Done of a table: contracts. -/
import Derived.Test.YtophkidigajliaaSeA
namespace Go.Proofs.Ytophkidigajliaa
open Go Go.RowKit Go.Maps
set_option linter.unusedVariables false
set_option linter.unusedSimpArgs false

theorem eql50 (bm : Nat) (w : World) : (binOp .eql 50 (.map (some bm)) (.map none)).run Try.prog w = .ok (.bool false) w := by kernel_rfl
theorem grown_trans {a b c : World} {r : Option Nat} (h : a.grownBy b r) (k : b.grownBy c r) : a.grownBy c r :=
  ⟨k.os.trans h.os, k.tape.trans h.tape, k.output.trans h.output, Nat.le_trans h.size k.size, fun i hi hn => (k.block i (Nat.lt_of_lt_of_le hi h.size) hn).trans (h.block i hi hn)⟩
theorem grown_some {w w' : World} (b : Nat) (h : Below w.heap.size w w') : w.grownBy w' (some b) := ⟨h.os, h.tape, h.output, h.size, fun k hk _ => h.block k hk⟩

set_option maxRecDepth 100000 in
set_option maxHeartbeats 2000000 in
theorem set_any (g bm : Nat) (L : Log) (c : Int) (s : Slot) (w : World) (h : Se w g bm L) (hc : (Lit.int .i64 c).wf = true) (hlen : L.length ≤ 100000) :
    Calls Try.prog 23 #[.pointer (some ⟨g, 0, none⟩), .int .i64 c, slotv s] w fun e w' => e = .returned (.tuple #[]) ∧ Se w' g bm (L ++ [(c, s)]) ∧ w.grownBy w' (some bm) := by
  obtain ⟨q, o, t, cd, n⟩ := s
  have hq := eql50 bm
  have hb : Below w.heap.size w (w.alloc (.cells #[.int .u64 q, .bool o, .int .i64 t, .int .i64 cd, .int .u64 n] 42)) := (Below.refl _ _).alloc (Nat.le_refl _) _
  have hn := heap_alloc_new w (.cells #[.int .u64 q, .bool o, .int .i64 t, .int .i64 cd, .int .u64 n] 42)
  have HS : Hid (Se (w.alloc (.cells #[.int .u64 q, .bool o, .int .i64 t, .int .i64 cd, .int .u64 n] 42)) g bm L) := h.later hb
  have HL : Hid (Se w g bm L) := h
  have hlt := h.lts.2
  have c0 := HS.out.cell
  clear h
  go_enter Try.func23, Try.ntmps23
  go_upto_region 3 with fail
  generalize hw0 : w.alloc (.cells #[.int .u64 q, .bool o, .int .i64 t, .int .i64 cd, .int .u64 n] 42) = w3 at *
  have HN : Hid (w3.heap[w.heap.size]? = some (.cells #[.int .u64 q, .bool o, .int .i64 t, .int .i64 cd, .int .u64 n] 42)) := hn
  have HB : Hid (Below w.heap.size w w3) := hb
  have z0 : w3.cell? ⟨w.heap.size, 0, none⟩ = some (.int .u64 q) := cell_of_heap HN.out rfl
  have z1 : w3.cell? ⟨w.heap.size, 1, none⟩ = some (.bool o) := cell_of_heap HN.out rfl
  have z2 : w3.cell? ⟨w.heap.size, 2, none⟩ = some (.int .i64 t) := cell_of_heap HN.out rfl
  have z3 : w3.cell? ⟨w.heap.size, 3, none⟩ = some (.int .i64 cd) := cell_of_heap HN.out rfl
  have z4 : w3.cell? ⟨w.heap.size, 4, none⟩ = some (.int .u64 n) := cell_of_heap HN.out rfl
  generalize hp5e : w.heap.size = p5 at *
  obtain ⟨D, HD⟩ := HS.out
  obtain ⟨w4, hst, hown4, hturn4⟩ := (HD.map.drew).store law3 Try.underlying50 (by unfold maxLen; omega) (keyOf_int_mk Try.underlying3 hc) (val := slotv ⟨q, o, t, cd, n⟩) rfl
  have HOW : Hid (w4.ownsMap Try.prog 3 Rv bm (L.length + 1) (D.put (klit c) (.held (slotv ⟨q, o, t, cd, n⟩)))) := hown4
  have HTU : Hid (w3.drew.mapTurned w4 bm) := hturn4
  have HDD : Hid (SeD w3 g bm D L) := HD
  clear hown4 hturn4 hn hb HD
  refine wp_region_noPanic ?_
  refine wp_region_held_drew (S := (fun w' => w'.cell? ⟨g, 0, none⟩ = some (.map (some bm)) ∧ w'.cell? ⟨p5, 0, none⟩ = some (.int .u64 q) ∧ w'.cell? ⟨p5, 1, none⟩ = some (.bool o) ∧ w'.cell? ⟨p5, 2, none⟩ = some (.int .i64 t) ∧ w'.cell? ⟨p5, 3, none⟩ = some (.int .i64 cd) ∧ w'.cell? ⟨p5, 4, none⟩ = some (.int .u64 n))) (by kernel_rfl) ?_ (fun hHeld => ?_)
  · exact ⟨c0, z0, z1, z2, z3, z4⟩
  refine held_take (i := 0) (d := 15) (v := ?_) rfl rfl (by kernel_rfl) (by kernel_rfl) (by kernel_rfl) (fun _ _ _ h => h) (Or.inl ⟨by rfl, ?_⟩) hHeld ?_
  rotate_left
  · (intro w hSw; (try dsimp only at hSw); obtain ⟨y0, y1, y2, y3, y4, y5⟩ := hSw; go_simp; all_goals (with_reducible rfl))
  try simp only [Act.put, List.setIfInBounds_toArray, List.set_cons_zero, List.set_cons_succ]
  refine held_take (i := 1) (d := 16) (v := ?_) rfl rfl (by kernel_rfl) (by kernel_rfl) (by kernel_rfl) (fun _ _ _ h => h) (Or.inl ⟨by rfl, ?_⟩) hHeld ?_
  rotate_left
  · (intro w hSw; (try dsimp only at hSw); obtain ⟨y0, y1, y2, y3, y4, y5⟩ := hSw; go_simp; all_goals (with_reducible rfl))
  try simp only [Act.put, List.setIfInBounds_toArray, List.set_cons_zero, List.set_cons_succ]
  refine held_take (i := 2) (d := 17) (v := ?_) rfl rfl (by kernel_rfl) (by kernel_rfl) (by kernel_rfl) (fun _ _ _ h => h) (Or.inl ⟨by rfl, ?_⟩) hHeld ?_
  rotate_left
  · (intro w hSw; (try dsimp only at hSw); obtain ⟨y0, y1, y2, y3, y4, y5⟩ := hSw; go_simp; all_goals (with_reducible rfl))
  try simp only [Act.put, List.setIfInBounds_toArray, List.set_cons_zero, List.set_cons_succ]
  refine held_take (i := 3) (d := 18) (v := ?_) rfl rfl (by kernel_rfl) (by kernel_rfl) (by kernel_rfl) (fun _ _ _ h => h) (Or.inl ⟨by rfl, ?_⟩) hHeld ?_
  rotate_left
  · (intro w hSw; (try dsimp only at hSw); obtain ⟨y0, y1, y2, y3, y4, y5⟩ := hSw; go_simp; all_goals (with_reducible rfl))
  try simp only [Act.put, List.setIfInBounds_toArray, List.set_cons_zero, List.set_cons_succ]
  refine held_take (i := 4) (d := 19) (v := ?_) rfl rfl (by kernel_rfl) (by kernel_rfl) (by kernel_rfl) (fun _ _ _ h => h) (Or.inl ⟨by rfl, ?_⟩) hHeld ?_
  rotate_left
  · (intro w hSw; (try dsimp only at hSw); obtain ⟨y0, y1, y2, y3, y4, y5⟩ := hSw; go_simp; all_goals (with_reducible rfl))
  try simp only [Act.put, List.setIfInBounds_toArray, List.set_cons_zero, List.set_cons_succ]
  refine held_take (i := 5) (d := 20) (v := ?_) rfl rfl (by kernel_rfl) (by kernel_rfl) (by kernel_rfl) (fun _ _ _ h => h) (Or.inl ⟨by rfl, ?_⟩) hHeld ?_
  rotate_left
  · (intro w hSw; (try dsimp only at hSw); obtain ⟨y0, y1, y2, y3, y4, y5⟩ := hSw; go_simp; all_goals (with_reducible rfl))
  try simp only [Act.put, List.setIfInBounds_toArray, List.set_cons_zero, List.set_cons_succ]
  refine wpAnyH_ready (rs := [6]) (by kernel_rfl) (by simp) ?_
  refine AllReadyH.cons rfl (fun K hK => ?_) AllReadyH.nil
  go_simp
  have hkeep : ∀ k, k < w3.heap.size → k ≠ bm → w4.heap[k]? = w3.heap[k]? := fun k hk hne => HTU.out.grown.block k hk (fun e => hne (by simpa using e))
  have hpb : p5 ≠ bm := fun e => by obtain ⟨es, cl, hb⟩ := HS.out.isMap; have h0 := HN.out; rw [e, hb] at h0; cases h0
  have hp5 : ∀ o, w4.cell? ⟨p5, o, none⟩ = w3.cell? ⟨p5, o, none⟩ := fun o => World.cell?_of_block (hkeep p5 (Array.getElem?_eq_some_iff.1 HN.out).1 hpb)
  refine hK.out _ _ ?_ (fun hHeld => ?_)
  · exact ⟨(World.cell?_of_block (hkeep g HS.out.lts.1 HS.out.apart)).trans c0, (hp5 0).trans z0, (hp5 1).trans z1, (hp5 2).trans z2, (hp5 3).trans z3, (hp5 4).trans z4⟩
  clear hK K
  try simp only [Act.put, List.setIfInBounds_toArray, List.set_cons_zero, List.set_cons_succ]
  refine wpAnyH_done (by kernel_rfl) ?_ _
  refine NoPanic.normal ?_
  go_wp2
  go_returns
  refine ⟨rfl, Se.put (w := w3.drew) ⟨HDD.out.box, HDD.out.map.drew, HDD.out.sl, HDD.out.has, HDD.out.len⟩ c _ HOW.out HTU.out HS.out.apart, ?_⟩
  have hg := HTU.out.grown
  have hz := HB.out.size
  refine ⟨hg.os.trans HB.out.os, hg.tape.trans HB.out.tape, hg.output.trans HB.out.output, Nat.le_trans hz hg.size, fun k hk hne => ?_⟩
  exact (hkeep k (Nat.lt_of_lt_of_le hk hz) (fun e => hne (by rw [e]))).trans (HB.out.block k (by first | exact hk | omega))

theorem rid_any (x : Id) (w : World) : Calls Try.prog 25 #[idv x] w fun e w' => e = .returned (.bool (rightId x)) ∧ Below w.heap.size w w' := by
  obtain ⟨c, s⟩ := x
  have HE : Hid (rightId (c, s) = (decide (0 ≤ c) && decide (c < 6) && decide (0 < s))) := rfl
  generalize rightId (c, s) = r at *
  by_cases h1 : 0 ≤ c
  · by_cases h2 : c < 6
    · by_cases h3 : 0 < s
      · go_enter Try.func25, Try.ntmps25
        go_wp2
        go_ret
        refine ⟨by rw [HE.out]; simp [h1, h2, h3], ?_⟩
        go_grown
      · go_enter Try.func25, Try.ntmps25
        go_wp2
        go_ret
        refine ⟨by rw [HE.out]; simp [h1, h2, h3], ?_⟩
        go_grown
    · go_enter Try.func25, Try.ntmps25
      go_wp2
      go_ret
      refine ⟨by rw [HE.out]; simp; omega, ?_⟩
      go_grown
  · go_enter Try.func25, Try.ntmps25
    go_wp2
    go_ret
    refine ⟨by rw [HE.out]; simp; omega, ?_⟩
    go_grown

/-- a block that stays -/
theorem keep_cells {w w' : World} {k : Nat} {o : Obj} (hb : Below w.heap.size w w') (h : w.heap[k]? = some o) : w'.heap[k]? = some o := (hb.block _ (Array.getElem?_eq_some_iff.1 h).1).trans h

theorem refuse_nil (x : Id) (a : Int) (w : World) : Calls Try.prog 21 #[.pointer none, idv x, .int .i64 a] w fun e w' => e = .returned (.int .i64 2) ∧ Below w.heap.size w w' := by
  obtain ⟨c, s⟩ := x
  go_enter Try.func21, Try.ntmps21
  go_wp2
  go_ret
  refine ⟨rfl, ?_⟩
  go_grown
set_option maxRecDepth 100000 in
theorem refuse_any (g bm : Nat) (L : Log) (x : Id) (a : Int) (w : World) (h : Se w g bm L) (hc : (Lit.int .i64 x.1).wf = true) :
    Calls Try.prog 21 #[.pointer (some ⟨g, 0, none⟩), idv x, .int .i64 a] w fun e w' => e = .returned (.int .i64 (refuse L x a)) ∧ Below w.heap.size w w' := by
  have hb : Below w.heap.size w (w.alloc (.cells #[.int .i64 x.1, .int .u64 x.2] 25)) := (Below.refl _ _).alloc (Nat.le_refl _) _
  have hn := heap_alloc_new w (.cells #[.int .i64 x.1, .int .u64 x.2] 25)
  have h0 := rid_any x (w.alloc (.cells #[.int .i64 x.1, .int .u64 x.2] 25))
  have HS : Hid (Se (w.alloc (.cells #[.int .i64 x.1, .int .u64 x.2] 25)) g bm L) := h.later hb
  have HE : Hid (refuse L x a = if rightId x = false ∨ a < 1 then 1 else if howL L x = 2 then 13 else 0) := rfl
  have HC : Hid (howL L x = 0 ∨ howL L x = 1 ∨ howL L x = 2) := how_cases L x
  have H1 : Hid (∀ w0, Se w0 g bm L → Calls Try.prog 10 #[.pointer (some ⟨g, 0, none⟩), idv x] w0 fun e w' => e = .returned (.int .i64 (howL L x)) ∧ Below w0.heap.size w0 w') := fun w0 hs => how_any g bm L x w0 hs hc
  clear h
  generalize refuse L x a = r at *
  generalize rightId x = rb at *
  generalize howL L x = hw at *
  obtain ⟨cl, sq⟩ := x
  simp only at *
  generalize hw0 : w.alloc (.cells #[.int .i64 cl, .int .u64 sq] 25) = w0 at *
  have HN : Hid (w0.heap[w.heap.size]? = some (.cells #[.int .i64 cl, .int .u64 sq] 25)) := hn
  have HB : Hid (Below w.heap.size w w0) := hb
  clear hn hb
  have e0 : w0.cell? ⟨w.heap.size, 0, none⟩ = some (.int .i64 cl) := cell_of_heap HN.out rfl
  have e1 : w0.cell? ⟨w.heap.size, 1, none⟩ = some (.int .u64 sq) := cell_of_heap HN.out rfl
  go_enter Try.func21, Try.ntmps21
  go_wp2_with fail
  refine h0.mono ?_
  clear h0 e0 e1
  rintro e w1 ⟨rfl, hb1⟩
  have HN1 : Hid (w1.heap[w.heap.size]? = some (.cells #[.int .i64 cl, .int .u64 sq] 25)) := keep_cells hb1 HN.out
  have HB1 : Hid (Below w.heap.size w w1) := HB.out.trans (hb1.mono HB.out.size)
  have h1 := H1.out w1 (HS.out.later hb1)
  clear hb1 HB HN HS H1
  have e0 : w1.cell? ⟨w.heap.size, 0, none⟩ = some (.int .i64 cl) := cell_of_heap HN1.out rfl
  have e1 : w1.cell? ⟨w.heap.size, 1, none⟩ = some (.int .u64 sq) := cell_of_heap HN1.out rfl
  cases rb
  · clear h1
    go_wp2
    go_ret
    exact ⟨by rw [HE.out]; rfl, HB1.out⟩
  · by_cases ha : a < 1
    · clear h1
      go_wp2
      go_ret
      exact ⟨by rw [HE.out]; simp [ha], HB1.out⟩
    · go_wp2_with fail
      refine h1.mono ?_
      clear h1 e0 e1 HN1
      rintro e w2 ⟨rfl, hb2⟩
      have HB2 : Hid (Below w.heap.size w w2) := HB1.out.trans (hb2.mono HB1.out.size)
      clear hb2 HB1
      rcases HC.out with rfl | rfl | rfl
      · go_wp2
        go_ret
        exact ⟨by rw [HE.out]; simp [ha], HB2.out⟩
      · go_wp2
        go_ret
        exact ⟨by rw [HE.out]; simp [ha], HB2.out⟩
      · go_wp2
        go_ret
        exact ⟨by rw [HE.out]; simp [ha], HB2.out⟩
end Go.Proofs.Ytophkidigajliaa
