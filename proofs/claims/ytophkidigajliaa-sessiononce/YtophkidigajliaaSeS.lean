/- The document's table of slots: contracts of How, Open, Done. -/
import Derived.Test.YtophkidigajliaaSeR
import Derived.Test.YtophkidigajliaaDr
namespace Go.Proofs.Ytophkidigajliaa
open Go Go.RowKit
set_option linter.unusedVariables false
set_option linter.unusedSimpArgs false

set_option maxRecDepth 100000 in
theorem rhow_any (base g : Nat) (L : Log) (x : Id) (w : World) (h : Rt w base g L) (hlen : L.length ≤ 100000) :
    Calls Try.prog 11 #[.pointer (some ⟨g, 0, none⟩), idv x] w fun e w' => e = .returned (.int .i64 (howL L x)) ∧ Below w.heap.size w w' := by
  have hb : Below w.heap.size w (w.alloc (.cells #[.int .i64 x.1, .int .u64 x.2] 25)) := (Below.refl _ _).alloc (Nat.le_refl _) _
  have hn := heap_alloc_new w (.cells #[.int .i64 x.1, .int .u64 x.2] 25)
  have h1 := rof_any base g L x.1 _ (h.later hb) hlen
  have HE : Hid (howL L x = if hasL L x.1 = false ∨ (rowL L x.1).2.seq < x.2 then 0 else if (rowL L x.1).2.seq = x.2 then 1 else 2) := by rw [rowL_slot]; rfl
  clear h
  generalize howL L x = r at *
  generalize rowL L x.1 = s at *
  generalize hasL L x.1 = b at *
  obtain ⟨c, q, o, t, cd, n⟩ := s
  obtain ⟨cl, sq⟩ := x
  simp only at *
  generalize hw0 : w.alloc (.cells #[.int .i64 cl, .int .u64 sq] 25) = w0 at *
  have HN : Hid (w0.heap[w.heap.size]? = some (.cells #[.int .i64 cl, .int .u64 sq] 25)) := hn
  have HB : Hid (Below w.heap.size w w0) := hb
  clear hn hb
  have e0 : w0.cell? ⟨w.heap.size, 0, none⟩ = some (.int .i64 cl) := cell_of_heap HN.out rfl
  go_enter Try.func11, Try.ntmps11
  go_wp2_with fail
  refine h1.mono ?_
  clear h1 e0
  rintro e w1 ⟨rfl, hb1⟩
  have HN1 : Hid (w1.heap[w.heap.size]? = some (.cells #[.int .i64 cl, .int .u64 sq] 25)) := keep_cells hb1 HN.out
  have HB1 : Hid (Below w.heap.size w w1) := HB.out.trans (hb1.mono HB.out.size)
  clear hb1 HB HN
  have hlt : w.heap.size < w1.heap.size := (Array.getElem?_eq_some_iff.1 HN1.out).1
  have e1 : w1.cell? ⟨w.heap.size, 1, none⟩ = some (.int .u64 sq) := cell_of_heap HN1.out rfl
  have HX : Hid (Below w.heap.size w (w1.alloc (.cells #[.int .i64 c, .int .u64 q, .bool o, .int .i64 t, .int .i64 cd, .int .u64 n] 54))) := HB1.out.alloc HB1.out.size _
  cases b
  · go_wp2
    go_ret
    refine ⟨?_, HX.out⟩
    rw [HE.out]; simp
  · by_cases h2 : q < sq
    · go_wp2
      go_ret
      refine ⟨?_, HX.out⟩
      rw [HE.out]; simp [h2]
    · by_cases h3 : q = sq
      · subst h3
        go_wp2
        go_ret
        refine ⟨?_, HX.out⟩
        rw [HE.out]; simp
      · have h4 : (q == sq) = false := by simp [h3]
        go_wp2
        go_ret
        refine ⟨?_, HX.out⟩
        rw [HE.out]; simp [h2, h3]
theorem rrid_any (x : Id) (w : World) (h0 : 0 ≤ x.2) : Calls Try.prog 24 #[idv x] w fun e w' => e = .returned (.bool (rightId x)) ∧ Below w.heap.size w w' := by
  obtain ⟨c, s⟩ := x
  simp only at h0
  have HE : Hid (rightId (c, s) = (decide (0 ≤ c) && decide (c < 6) && decide (0 < s))) := rfl
  generalize rightId (c, s) = r at *
  by_cases h1 : 0 ≤ c
  · by_cases h2 : c ≤ 5
    · by_cases h3 : s = 0
      · subst h3
        go_enter Try.func24, Try.ntmps24
        go_wp2
        go_ret
        refine ⟨by rw [HE.out]; simp, ?_⟩
        go_grown
      · go_enter Try.func24, Try.ntmps24
        go_wp2
        go_ret
        have k2 : c < 6 := by omega
        have k3 : 0 < s := by omega
        refine ⟨by rw [HE.out]; simp [h1, k2, k3, h3], ?_⟩
        go_grown
    · go_enter Try.func24, Try.ntmps24
      go_wp2
      go_ret
      refine ⟨by rw [HE.out]; simp; omega, ?_⟩
      go_grown
  · go_enter Try.func24, Try.ntmps24
    go_wp2
    go_ret
    refine ⟨by rw [HE.out]; simp; omega, ?_⟩
    go_grown

theorem one_set {w : World} {g : Nat} {a x : Value} {t : TypeId} (h : w.heap[g]? = some (.cells #[a] t (0, 0))) : (w.setCell ⟨g, 0, none⟩ x).heap[g]? = some (.cells #[x] t (0, 0)) := heap_setCell_same _ _ _ _ _ _ h
/-- other rows: memory -/
theorem Rt.put {w : World} {base g : Nat} {L' : Log} {v0 v : Value} (hlo : base ≤ g) (h0 : w.heap[g]? = some (.cells #[v0] 31 (0, 0))) (hv : w.ownsRow base 54 6 v L'.length (L'.flatMap rcells)) :
    Rt (w.setCell ⟨g, 0, none⟩ v) base g L' ∧ Fr base [54, 31] w (w.setCell ⟨g, 0, none⟩ v) := by
  have f2 : Fr base [31] w (w.setCell ⟨g, 0, none⟩ v) := Fr.setCell v hlo (t := 31) (by simp) (tagOf_heap h0)
  exact ⟨⟨hlo, v, one_set h0, f2.owns hv (by simp)⟩, f2.sub (by simp)⟩
theorem open_cases2 (L : Log) (x : Id) (a : Int) : (rightId x = false ∧ openE L x a = 1) ∨ (rightId x = true ∧ a < 1 ∧ openE L x a = 1) ∨ (rightId x = true ∧ ¬ a < 1 ∧ ((howL L x = 2 ∧ openE L x a = 13) ∨ (howL L x = 1 ∧ openE L x a = 7) ∨ (howL L x = 0 ∧ (rowL L x.1).2.opn = true ∧ openE L x a = 10) ∨ (howL L x = 0 ∧ (rowL L x.1).2.opn = false ∧ openE L x a = 0))) := by
  rw [rowL_slot]
  unfold openE
  cases h1 : rightId x
  · simp
  · by_cases h2 : a < 1
    · simp [h2]
    · simp only [h2]
      rcases how_cases L x with h | h | h <;> simp only [h] <;> cases (slotL L x.1).opn <;> simp
theorem done_cases2 (L : Log) (x : Id) (a : Int) : (rightId x = false ∧ doneE L x a = 1) ∨ (rightId x = true ∧ a < 1 ∧ doneE L x a = 1) ∨ (rightId x = true ∧ ¬ a < 1 ∧ ((howL L x = 2 ∧ doneE L x a = 13) ∨ (howL L x = 1 ∧ (rowL L x.1).2.opn = false ∧ doneE L x a = 7) ∨ (howL L x = 0 ∧ (rowL L x.1).2.opn = true ∧ doneE L x a = 10) ∨ (howL L x = 1 ∧ (rowL L x.1).2.opn = true ∧ doneE L x a = 0) ∨ (howL L x = 0 ∧ (rowL L x.1).2.opn = false ∧ doneE L x a = 0))) := by
  rw [rowL_slot]
  unfold doneE
  cases h1 : rightId x
  · simp
  · by_cases h2 : a < 1
    · simp [h2]
    · simp only [h2]
      rcases how_cases L x with h | h | h <;> simp only [h] <;> cases (slotL L x.1).opn <;> simp
theorem ownBlock_54 {w : World} {base : Nat} {v : Value} {n : Nat} {xs : List Value} (h : w.ownsRow base 54 6 v n xs) : ∀ k, v.ownBlock = some k → base ≤ k ∧ k < w.heap.size ∧ tagOf w k = some 54 := by
  intro k hk
  rcases h.2 with ⟨rfl, _⟩ | ⟨g, cap, cur, rfl, hg, hh, _⟩
  · cases hk
  · simp only [Value.ownBlock, Option.some.injEq] at hk
    subst hk
    exact ⟨hg, (Array.getElem?_eq_some_iff.1 hh).1, tagOf_heap hh⟩
set_option maxRecDepth 100000 in
set_option maxHeartbeats 8000000 in
theorem ropen_any (base g : Nat) (L : Log) (x : Id) (a : Int) (w : World) (h : Rt w base g L) (hx : 0 ≤ x.2) (hlen : L.length ≤ 100000) (hbase : base ≤ w.heap.size) :
    Calls Try.prog 18 #[.pointer (some ⟨g, 0, none⟩), idv x, .int .i64 a] w fun e w' => e = .returned (.int .i64 (openE L x a)) ∧ Rt w' base g (openLg L x a) ∧ Fr base [54, 31] w w' := by
  have hb : Below w.heap.size w (w.alloc (.cells #[.int .i64 x.1, .int .u64 x.2] 25)) := (Below.refl _ _).alloc (Nat.le_refl _) _
  have hn := heap_alloc_new w (.cells #[.int .i64 x.1, .int .u64 x.2] 25)
  have h0 := rof_any base g L x.1 _ (h.later hb) hlen
  have HT0 : Hid (Rt (w.alloc (.cells #[.int .i64 x.1, .int .u64 x.2] 25)) base g L) := h.later hb
  have HR := open_cases2 L x a
  have HE : Hid (openLg L x a = if openE L x a = 0 then L ++ [openS x a] else L) := rfl
  have H1 : Hid (∀ w0, Rt w0 base g L → Calls Try.prog 11 #[.pointer (some ⟨g, 0, none⟩), idv x] w0 fun e w' => e = .returned (.int .i64 (howL L x)) ∧ Below w0.heap.size w0 w') := fun w0 hs => rhow_any base g L x w0 hs hlen
  have H2 : Hid (∀ w0, Calls Try.prog 24 #[idv x] w0 fun e w' => e = .returned (.bool (rightId x)) ∧ Below w0.heap.size w0 w') := fun w0 => rrid_any x w0 hx
  clear h hx
  generalize hasL L x.1 = hs at *
  generalize openLg L x a = L' at *
  generalize openE L x a = r at *
  generalize rightId x = rid at *
  generalize howL L x = hw at *
  generalize rowL L x.1 = row at *
  obtain ⟨rc, rq, ro, rt, rcd, rn⟩ := row
  obtain ⟨cl, sq⟩ := x
  simp only at *
  generalize hw0 : w.alloc (.cells #[.int .i64 cl, .int .u64 sq] 25) = w0 at *
  have HN0 : Hid (w0.heap[w.heap.size]? = some (.cells #[.int .i64 cl, .int .u64 sq] 25)) := hn
  have HB0 : Hid (Below w.heap.size w w0) := hb
  clear hn hb
  have e0 : w0.cell? ⟨w.heap.size, 0, none⟩ = some (.int .i64 cl) := cell_of_heap HN0.out rfl
  go_enter Try.func18, Try.ntmps18
  go_wp2_with fail
  refine h0.mono ?_
  clear h0 e0
  rintro e w1 ⟨rfl, hb1⟩
  have hb2 : Below w0.heap.size w0 (w1.alloc (.cells #[.int .i64 rc, .int .u64 rq, .bool ro, .int .i64 rt, .int .i64 rcd, .int .u64 rn] 54)) := hb1.alloc hb1.size _
  have HS2 : Hid ((w1.alloc (.cells #[.int .i64 rc, .int .u64 rq, .bool ro, .int .i64 rt, .int .i64 rcd, .int .u64 rn] 54)).heap[w1.heap.size]? = some (.cells #[.int .i64 rc, .int .u64 rq, .bool ro, .int .i64 rt, .int .i64 rcd, .int .u64 rn] 54)) := heap_alloc_new w1 _
  have HN2 : Hid ((w1.alloc (.cells #[.int .i64 rc, .int .u64 rq, .bool ro, .int .i64 rt, .int .i64 rcd, .int .u64 rn] 54)).heap[w.heap.size]? = some (.cells #[.int .i64 cl, .int .u64 sq] 25)) := keep_cells hb2 HN0.out
  have HB2 : Hid (Below w.heap.size w (w1.alloc (.cells #[.int .i64 rc, .int .u64 rq, .bool ro, .int .i64 rt, .int .i64 rcd, .int .u64 rn] 54))) := HB0.out.trans (hb2.mono HB0.out.size)
  have HT2 : Hid (Rt (w1.alloc (.cells #[.int .i64 rc, .int .u64 rq, .bool ro, .int .i64 rt, .int .i64 rcd, .int .u64 rn] 54)) base g L) := HT0.out.later hb2
  have hsw : w.heap.size ≠ w1.heap.size := by have := HB0.out.size; have := (Array.getElem?_eq_some_iff.1 HN0.out).1; have := hb1.size; omega
  clear hb1 hb2 HN0 HB0 HT0 hw0
  go_upto_region 2 with fail
  generalize hw2 : w1.alloc (.cells #[.int .i64 rc, .int .u64 rq, .bool ro, .int .i64 rt, .int .i64 rcd, .int .u64 rn] 54) = w2 at *
  clear hw2
  generalize w1.heap.size = sb at *
  have e0 : w2.cell? ⟨w.heap.size, 0, none⟩ = some (.int .i64 cl) := cell_of_heap HN2.out rfl
  have e1 : w2.cell? ⟨w.heap.size, 1, none⟩ = some (.int .u64 sq) := cell_of_heap HN2.out rfl
  have h2 := H2.out w2
  go_wp2_with fail
  refine h2.mono ?_
  clear h2 H2 e0 e1
  rintro e w3 ⟨rfl, hb3⟩
  have HN3 : Hid (w3.heap[w.heap.size]? = some (.cells #[.int .i64 cl, .int .u64 sq] 25)) := keep_cells hb3 HN2.out
  have HS3 : Hid (w3.heap[sb]? = some (.cells #[.int .i64 rc, .int .u64 rq, .bool ro, .int .i64 rt, .int .i64 rcd, .int .u64 rn] 54)) := keep_cells hb3 HS2.out
  have HB3 : Hid (Below w.heap.size w w3) := HB2.out.trans (hb3.mono HB2.out.size)
  have HT3 : Hid (Rt w3 base g L) := HT2.out.later hb3
  clear hb3 HN2 HS2 HB2 HT2
  have e0 : w3.cell? ⟨w.heap.size, 0, none⟩ = some (.int .i64 cl) := cell_of_heap HN3.out rfl
  have e1 : w3.cell? ⟨w.heap.size, 1, none⟩ = some (.int .u64 sq) := cell_of_heap HN3.out rfl
  have s2 : w3.cell? ⟨sb, 2, none⟩ = some (.bool ro) := cell_of_heap HS3.out rfl
  rcases HR with ⟨rfl, rfl⟩ | ⟨rfl, ha, rfl⟩ | ⟨rfl, ha, HR⟩
  · clear H1
    go_wp2
    go_ret
    exact ⟨rfl, by rw [HE.out]; simpa using HT3.out, Fr.of HB3.out⟩
  · clear H1
    go_wp2
    go_ret
    exact ⟨rfl, by rw [HE.out]; simpa using HT3.out, Fr.of HB3.out⟩
  have h1 := H1.out w3 HT3.out
  go_wp2_with fail
  refine h1.mono ?_
  clear h1 e0 e1 s2 ha
  rintro e w4 ⟨rfl, hb4⟩
  have HN4 : Hid (w4.heap[w.heap.size]? = some (.cells #[.int .i64 cl, .int .u64 sq] 25)) := keep_cells hb4 HN3.out
  have HS4 : Hid (w4.heap[sb]? = some (.cells #[.int .i64 rc, .int .u64 rq, .bool ro, .int .i64 rt, .int .i64 rcd, .int .u64 rn] 54)) := keep_cells hb4 HS3.out
  have HB4 : Hid (Below w.heap.size w w4) := HB3.out.trans (hb4.mono HB3.out.size)
  have HT4 : Hid (Rt w4 base g L) := HT3.out.later hb4
  clear hb4 HN3 HS3 HB3 HT3
  have e0 : w4.cell? ⟨w.heap.size, 0, none⟩ = some (.int .i64 cl) := cell_of_heap HN4.out rfl
  have e1 : w4.cell? ⟨w.heap.size, 1, none⟩ = some (.int .u64 sq) := cell_of_heap HN4.out rfl
  have s2 : w4.cell? ⟨sb, 2, none⟩ = some (.bool ro) := cell_of_heap HS4.out rfl
  rcases HR with ⟨rfl, rfl⟩ | HR
  · clear H1
    go_wp2
    go_ret
    exact ⟨rfl, by rw [HE.out]; simpa using HT4.out, Fr.of HB4.out⟩
  have h1 := H1.out w4 HT4.out
  go_wp2_with fail
  refine h1.mono ?_
  clear h1 e0 e1 s2
  rintro e w5 ⟨rfl, hb5⟩
  have HN5 : Hid (w5.heap[w.heap.size]? = some (.cells #[.int .i64 cl, .int .u64 sq] 25)) := keep_cells hb5 HN4.out
  have HS5 : Hid (w5.heap[sb]? = some (.cells #[.int .i64 rc, .int .u64 rq, .bool ro, .int .i64 rt, .int .i64 rcd, .int .u64 rn] 54)) := keep_cells hb5 HS4.out
  have HB5 : Hid (Below w.heap.size w w5) := HB4.out.trans (hb5.mono HB4.out.size)
  have HT5 : Hid (Rt w5 base g L) := HT4.out.later hb5
  clear hb5 HN4 HS4 HB4 HT4
  have e0 : w5.cell? ⟨w.heap.size, 0, none⟩ = some (.int .i64 cl) := cell_of_heap HN5.out rfl
  have e1 : w5.cell? ⟨w.heap.size, 1, none⟩ = some (.int .u64 sq) := cell_of_heap HN5.out rfl
  have s2 : w5.cell? ⟨sb, 2, none⟩ = some (.bool ro) := cell_of_heap HS5.out rfl
  rcases HR with ⟨rfl, rfl⟩ | ⟨rfl, rfl, rfl⟩ | ⟨rfl, rfl, rfl⟩
  · clear H1
    go_wp2
    go_ret
    exact ⟨rfl, by rw [HE.out]; simpa using HT5.out, Fr.of HB5.out⟩
  · clear H1
    go_wp2
    go_ret
    exact ⟨rfl, by rw [HE.out]; simpa using HT5.out, Fr.of HB5.out⟩
  · skip
    obtain ⟨va, vc, t1, t2, c0⟩ := HT5.out.cells
    have HG : Hid (w5.heap[g]? = some (.cells #[.slice va L.length vc] 31 (0, 0))) := t1
    have HO : Hid (w5.ownsRow base 54 6 (.slice va L.length vc) L.length (L.flatMap rcells)) := t2
    have HLO : Hid (base ≤ g) := HT5.out.lo
    clear t1 t2 H1
    go_upto_region 10 with fail
    clear s2
    refine wp_region_noPanic ?_
    refine wp_region_lets 15 ((fun w' => w'.cell? ⟨g, 0, none⟩ = some (.slice va L.length vc) ∧ w'.cell? ⟨w.heap.size, 0, none⟩ = some (.int .i64 cl) ∧ w'.cell? ⟨w.heap.size, 1, none⟩ = some (.int .u64 sq))) (by kernel_rfl) ?_ (fun hHeld => ?_)
    · exact ⟨c0, e0, e1⟩
    refine lets_take (i := 0) (d := 33) (v := ?_) rfl rfl (by kernel_rfl) (by kernel_rfl) (by kernel_rfl) (by kernel_rfl) (fun _ _ _ h => h) (Or.inl ⟨by rfl, ?_⟩) hHeld ?_
    rotate_left
    · (intro w hSw; (try dsimp only at hSw); go_simp; all_goals (with_reducible rfl))
    try simp only [Act.put, List.setIfInBounds_toArray, List.set_cons_zero, List.set_cons_succ]
    refine lets_take (i := 1) (d := 34) (v := ?_) rfl rfl (by kernel_rfl) (by kernel_rfl) (by kernel_rfl) (by kernel_rfl) (fun _ _ _ h => h) (Or.inl ⟨by rfl, ?_⟩) hHeld ?_
    rotate_left
    · (intro w hSw; (try dsimp only at hSw); go_simp; all_goals (with_reducible rfl))
    try simp only [Act.put, List.setIfInBounds_toArray, List.set_cons_zero, List.set_cons_succ]
    refine lets_take (i := 2) (d := 35) (v := ?_) rfl rfl (by kernel_rfl) (by kernel_rfl) (by kernel_rfl) (by kernel_rfl) (fun _ _ _ h => h) (Or.inl ⟨by rfl, ?_⟩) hHeld ?_
    rotate_left
    · (intro w hSw; (try dsimp only at hSw); go_simp; all_goals (with_reducible rfl))
    try simp only [Act.put, List.setIfInBounds_toArray, List.set_cons_zero, List.set_cons_succ]
    refine lets_take (i := 3) (d := 36) (v := ?_) rfl rfl (by kernel_rfl) (by kernel_rfl) (by kernel_rfl) (by kernel_rfl) (fun _ _ _ h => h) (Or.inl ⟨by rfl, ?_⟩) hHeld ?_
    rotate_left
    · (intro w hSw; (try dsimp only at hSw); go_simp; all_goals (with_reducible rfl))
    try simp only [Act.put, List.setIfInBounds_toArray, List.set_cons_zero, List.set_cons_succ]
    refine lets_take (i := 4) (d := 37) (v := ?_) rfl rfl (by kernel_rfl) (by kernel_rfl) (by kernel_rfl) (by kernel_rfl) (fun _ _ _ h => h) (Or.inl ⟨by rfl, ?_⟩) hHeld ?_
    rotate_left
    · (intro w hSw; (try dsimp only at hSw); go_simp; all_goals (with_reducible rfl))
    try simp only [Act.put, List.setIfInBounds_toArray, List.set_cons_zero, List.set_cons_succ]
    refine lets_take (i := 5) (d := 38) (v := ?_) rfl rfl (by kernel_rfl) (by kernel_rfl) (by kernel_rfl) (by kernel_rfl) (fun _ _ _ h => h) (Or.inl ⟨by rfl, ?_⟩) hHeld ?_
    rotate_left
    · (intro w hSw; (try dsimp only at hSw); go_simp; all_goals (with_reducible rfl))
    try simp only [Act.put, List.setIfInBounds_toArray, List.set_cons_zero, List.set_cons_succ]
    refine lets_take (i := 6) (d := 39) (v := ?_) rfl rfl (by kernel_rfl) (by kernel_rfl) (by kernel_rfl) (by kernel_rfl) (fun _ _ _ h => h) (Or.inl ⟨by rfl, ?_⟩) hHeld ?_
    rotate_left
    · (intro w hSw; (try dsimp only at hSw); go_simp; all_goals (with_reducible rfl))
    try simp only [Act.put, List.setIfInBounds_toArray, List.set_cons_zero, List.set_cons_succ]
    refine lets_take (i := 7) (d := 40) (v := ?_) rfl rfl (by kernel_rfl) (by kernel_rfl) (by kernel_rfl) (by kernel_rfl) (fun _ _ _ h => h) (Or.inl ⟨by rfl, ?_⟩) hHeld ?_
    rotate_left
    · (intro w hSw; (try dsimp only at hSw); go_simp; all_goals (with_reducible rfl))
    try simp only [Act.put, List.setIfInBounds_toArray, List.set_cons_zero, List.set_cons_succ]
    refine lets_take (i := 8) (d := 41) (v := ?_) rfl rfl (by kernel_rfl) (by kernel_rfl) (by kernel_rfl) (by kernel_rfl) (fun _ _ _ h => h) (Or.inl ⟨by rfl, ?_⟩) hHeld ?_
    rotate_left
    · (intro w hSw; (try dsimp only at hSw); go_simp; all_goals (with_reducible rfl))
    try simp only [Act.put, List.setIfInBounds_toArray, List.set_cons_zero, List.set_cons_succ]
    refine lets_take (i := 9) (d := 42) (v := ?_) rfl rfl (by kernel_rfl) (by kernel_rfl) (by kernel_rfl) (by kernel_rfl) (fun _ _ _ h => h) (Or.inl ⟨by rfl, ?_⟩) hHeld ?_
    rotate_left
    · (intro w hSw; (try dsimp only at hSw); go_simp; all_goals (with_reducible rfl))
    try simp only [Act.put, List.setIfInBounds_toArray, List.set_cons_zero, List.set_cons_succ]
    refine lets_take (i := 10) (d := 43) (v := ?_) rfl rfl (by kernel_rfl) (by kernel_rfl) (by kernel_rfl) (by kernel_rfl) (fun _ _ _ h => h) (Or.inl ⟨by rfl, ?_⟩) hHeld ?_
    rotate_left
    · (intro w hSw; (try dsimp only at hSw); go_simp; all_goals (with_reducible rfl))
    try simp only [Act.put, List.setIfInBounds_toArray, List.set_cons_zero, List.set_cons_succ]
    refine lets_one (i := 11) (by kernel_rfl) rfl (fun K hK => ?_)
    go_simp
    have b2 : Below w5.heap.size w5 ((w5.alloc (.cells #[.int .i64 cl, .int .u64 sq, .bool true, .int .i64 a, .int .i64 0, .int .u64 0] 54)).drew) := ((Below.refl _ _).alloc (Nat.le_refl _) _).drew
    refine hK.out _ _ ?_ (fun hHeld => ?_)
    · exact fun _ => ⟨cell_later b2 c0, cell_later b2 e0, cell_later b2 e1⟩
    replace hHeld := hHeld (by decide)
    clear hK K
    try simp only [Act.put, List.setIfInBounds_toArray, List.set_cons_zero, List.set_cons_succ]
    have hn2 := heap_alloc_new w5 (.cells #[.int .i64 cl, .int .u64 sq, .bool true, .int .i64 a, .int .i64 0, .int .u64 0] 54)
    obtain ⟨d0, q0, q1⟩ := hHeld
    have hown : ((w5.alloc (.cells #[.int .i64 cl, .int .u64 sq, .bool true, .int .i64 a, .int .i64 0, .int .u64 0] 54)).drew).ownsRow base 54 6 (.slice va L.length vc) L.length (L.flatMap rcells) := owns_later HO.out b2
    have HG2 : Hid (((w5.alloc (.cells #[.int .i64 cl, .int .u64 sq, .bool true, .int .i64 a, .int .i64 0, .int .u64 0] 54)).drew).heap[g]? = some (.cells #[.slice va L.length vc] 31 (0, 0))) := (b2.block g (Array.getElem?_eq_some_iff.1 HG.out).1).trans HG.out
    have HI2 : Hid (((w5.alloc (.cells #[.int .i64 cl, .int .u64 sq, .bool true, .int .i64 a, .int .i64 0, .int .u64 0] 54)).drew).heap[w.heap.size]? = some (.cells #[.int .i64 cl, .int .u64 sq] 25)) := (b2.block _ (Array.getElem?_eq_some_iff.1 HN5.out).1).trans HN5.out
    have hsz2 : base ≤ ((w5.alloc (.cells #[.int .i64 cl, .int .u64 sq, .bool true, .int .i64 a, .int .i64 0, .int .u64 0] 54)).drew).heap.size := by have := b2.size; have := HB5.out.size; omega
    have HB9 : Hid (Fr base [54, 31] w ((w5.alloc (.cells #[.int .i64 cl, .int .u64 sq, .bool true, .int .i64 a, .int .i64 0, .int .u64 0] 54)).drew)) := (Fr.of HB5.out).trans (Fr.of b2)
    clear b2
    have hu1 := rcells_one [(cl, ⟨sq, true, a, 0, 0⟩)]
    have hc2 := news_one rcells (cl, ⟨sq, true, a, 0, 0⟩) hn2 rfl
    refine lets_one (i := 12) (by kernel_rfl) rfl (fun K hK => ?_)
    refine step_append_els rcells 6 48 29 54 _ Try.underlying29 Try.info_54 rfl (by decide) (fun _ => rfl) (by decide) rfl _ _ rfl base _ L rfl hown ⟨w5.heap.size, 0, none⟩ 1 1 [(cl, ⟨sq, true, a, 0, 0⟩)] rfl rfl hc2 hu1 (by decide) (by omega) hsz2 ?_
    intro v2 y2 ho2 hg2 hv2
    obtain ⟨xa, xn, xc, rfl⟩ := owns_slice ho2
    have nb : ∀ (k i : Nat) (u : Value), tagOf ((w5.alloc (.cells #[.int .i64 cl, .int .u64 sq, .bool true, .int .i64 a, .int .i64 0, .int .u64 0] 54)).drew) k ≠ some 54 → ((w5.alloc (.cells #[.int .i64 cl, .int .u64 sq, .bool true, .int .i64 a, .int .i64 0, .int .u64 0] 54)).drew).cell? ⟨k, i, none⟩ = some u → y2.cell? ⟨k, i, none⟩ = some u := fun k i u ht hu => hg2.cell hu (fun e => ht (ownBlock_54 hown k e.symm).2.2)
    have r0 : y2.cell? ⟨g, 0, none⟩ = some (.slice va L.length vc) := nb g 0 _ (by rw [tagOf_heap HG2.out]; simp) d0
    have r1 : y2.cell? ⟨w.heap.size, 0, none⟩ = some (.int .i64 cl) := nb _ _ _ (by rw [tagOf_heap HI2.out]; simp) q0
    have r2 : y2.cell? ⟨w.heap.size, 1, none⟩ = some (.int .u64 sq) := nb _ _ _ (by rw [tagOf_heap HI2.out]; simp) q1
    have g2 : y2.heap[g]? = some (.cells #[.slice va L.length vc] 31 (0, 0)) := (hg2.block g (Array.getElem?_eq_some_iff.1 HG2.out).1 (fun e => by have := (ownBlock_54 hown g e.symm).2.2; rw [tagOf_heap HG2.out] at this; cases this)).trans HG2.out
    have f2 : y2.frozen? ⟨g, 0, none⟩ = false := by simp [World.frozen?, g2]
    have f9 : Fr base [54, 31] w y2 := HB9.out.trans (Fr.grown hg2 (fun k hk => ⟨(ownBlock_54 hown k hk).1, 54, by simp, (ownBlock_54 hown k hk).2.2⟩))
    obtain ⟨p1, p2⟩ := Rt.put HLO.out g2 ho2
    have HFIN : Hid (Rt (y2.setCell ⟨g, 0, none⟩ (.slice xa xn xc)) base g L' ∧ Fr base [54, 31] w (y2.setCell ⟨g, 0, none⟩ (.slice xa xn xc))) := ⟨by rw [HE.out]; simpa using p1, f9.trans p2⟩
    refine hK.out _ _ ?_ (fun hHeld => ?_)
    · exact fun _ => ⟨r0, r1, r2⟩
    replace hHeld := hHeld (by decide)
    clear hK K
    try simp only [Act.put, List.setIfInBounds_toArray, List.set_cons_zero, List.set_cons_succ]
    clear nb ho2 hg2 hv2 hown hc2 hu1 p1 p2 f9
    refine lets_one (i := 13) (by kernel_rfl) rfl (fun K hK => ?_)
    go_simp
    refine hK.out _ _ ?_ (fun hHeld => ?_)
    · exact fun _ => hHeld
    replace hHeld := hHeld (by decide)
    clear hK K
    try simp only [Act.put, List.setIfInBounds_toArray, List.set_cons_zero, List.set_cons_succ]
    refine lets_one (i := 14) (by kernel_rfl) rfl (fun K hK => ?_)
    go_simp
    refine hK.out _ _ ?_ (fun hHeld => ?_)
    · exact fun _ => hHeld
    replace hHeld := hHeld (by decide)
    clear hK K
    try simp only [Act.put, List.setIfInBounds_toArray, List.set_cons_zero, List.set_cons_succ]
    refine lets_one (i := 15) (by kernel_rfl) rfl (fun K hK => ?_)
    go_simp
    refine hK.out _ _ ?_ (fun hHeld => ?_)
    · exact fun h => absurd rfl h
    clear hK K
    try simp only [Act.put, List.setIfInBounds_toArray, List.set_cons_zero, List.set_cons_succ]
    refine lets_done (by kernel_rfl) ?_ _
    refine NoPanic.normal ?_
    go_wp2
    go_ret
    exact ⟨rfl, HFIN.out.1, HFIN.out.2⟩
set_option maxRecDepth 100000 in
set_option maxHeartbeats 8000000 in
theorem rdone_any (base g : Nat) (L : Log) (x : Id) (a cd n : Int) (w : World) (h : Rt w base g L) (hx : 0 ≤ x.2) (hlen : L.length ≤ 100000) (hbase : base ≤ w.heap.size) :
    Calls Try.prog 19 #[.pointer (some ⟨g, 0, none⟩), idv x, .int .i64 a, .int .i64 cd, .int .u64 n] w fun e w' => e = .returned (.int .i64 (doneE L x a)) ∧ Rt w' base g (doneLg L x a cd n) ∧ Fr base [54, 31] w w' := by
  have hb : Below w.heap.size w (w.alloc (.cells #[.int .i64 x.1, .int .u64 x.2] 25)) := (Below.refl _ _).alloc (Nat.le_refl _) _
  have hn := heap_alloc_new w (.cells #[.int .i64 x.1, .int .u64 x.2] 25)
  have h0 := rof_any base g L x.1 _ (h.later hb) hlen
  have HT0 : Hid (Rt (w.alloc (.cells #[.int .i64 x.1, .int .u64 x.2] 25)) base g L) := h.later hb
  have HR := done_cases2 L x a
  have HE : Hid (doneLg L x a cd n = if doneE L x a = 0 then L ++ [doneS x a cd n] else L) := rfl
  have H1 : Hid (∀ w0, Rt w0 base g L → Calls Try.prog 11 #[.pointer (some ⟨g, 0, none⟩), idv x] w0 fun e w' => e = .returned (.int .i64 (howL L x)) ∧ Below w0.heap.size w0 w') := fun w0 hs => rhow_any base g L x w0 hs hlen
  have H2 : Hid (∀ w0, Calls Try.prog 24 #[idv x] w0 fun e w' => e = .returned (.bool (rightId x)) ∧ Below w0.heap.size w0 w') := fun w0 => rrid_any x w0 hx
  clear h hx
  generalize hasL L x.1 = hs at *
  generalize doneLg L x a cd n = L' at *
  generalize doneE L x a = r at *
  generalize rightId x = rid at *
  generalize howL L x = hw at *
  generalize rowL L x.1 = row at *
  obtain ⟨rc, rq, ro, rt, rcd, rn⟩ := row
  obtain ⟨cl, sq⟩ := x
  simp only at *
  generalize hw0 : w.alloc (.cells #[.int .i64 cl, .int .u64 sq] 25) = w0 at *
  have HN0 : Hid (w0.heap[w.heap.size]? = some (.cells #[.int .i64 cl, .int .u64 sq] 25)) := hn
  have HB0 : Hid (Below w.heap.size w w0) := hb
  clear hn hb
  have e0 : w0.cell? ⟨w.heap.size, 0, none⟩ = some (.int .i64 cl) := cell_of_heap HN0.out rfl
  go_enter Try.func19, Try.ntmps19
  go_wp2_with fail
  refine h0.mono ?_
  clear h0 e0
  rintro e w1 ⟨rfl, hb1⟩
  have hb2 : Below w0.heap.size w0 (w1.alloc (.cells #[.int .i64 rc, .int .u64 rq, .bool ro, .int .i64 rt, .int .i64 rcd, .int .u64 rn] 54)) := hb1.alloc hb1.size _
  have HS2 : Hid ((w1.alloc (.cells #[.int .i64 rc, .int .u64 rq, .bool ro, .int .i64 rt, .int .i64 rcd, .int .u64 rn] 54)).heap[w1.heap.size]? = some (.cells #[.int .i64 rc, .int .u64 rq, .bool ro, .int .i64 rt, .int .i64 rcd, .int .u64 rn] 54)) := heap_alloc_new w1 _
  have HN2 : Hid ((w1.alloc (.cells #[.int .i64 rc, .int .u64 rq, .bool ro, .int .i64 rt, .int .i64 rcd, .int .u64 rn] 54)).heap[w.heap.size]? = some (.cells #[.int .i64 cl, .int .u64 sq] 25)) := keep_cells hb2 HN0.out
  have HB2 : Hid (Below w.heap.size w (w1.alloc (.cells #[.int .i64 rc, .int .u64 rq, .bool ro, .int .i64 rt, .int .i64 rcd, .int .u64 rn] 54))) := HB0.out.trans (hb2.mono HB0.out.size)
  have HT2 : Hid (Rt (w1.alloc (.cells #[.int .i64 rc, .int .u64 rq, .bool ro, .int .i64 rt, .int .i64 rcd, .int .u64 rn] 54)) base g L) := HT0.out.later hb2
  have hsw : w.heap.size ≠ w1.heap.size := by have := HB0.out.size; have := (Array.getElem?_eq_some_iff.1 HN0.out).1; have := hb1.size; omega
  clear hb1 hb2 HN0 HB0 HT0 hw0
  go_upto_region 2 with fail
  generalize hw2 : w1.alloc (.cells #[.int .i64 rc, .int .u64 rq, .bool ro, .int .i64 rt, .int .i64 rcd, .int .u64 rn] 54) = w2 at *
  clear hw2
  generalize w1.heap.size = sb at *
  have e0 : w2.cell? ⟨w.heap.size, 0, none⟩ = some (.int .i64 cl) := cell_of_heap HN2.out rfl
  have e1 : w2.cell? ⟨w.heap.size, 1, none⟩ = some (.int .u64 sq) := cell_of_heap HN2.out rfl
  have h2 := H2.out w2
  go_wp2_with fail
  refine h2.mono ?_
  clear h2 H2 e0 e1
  rintro e w3 ⟨rfl, hb3⟩
  have HN3 : Hid (w3.heap[w.heap.size]? = some (.cells #[.int .i64 cl, .int .u64 sq] 25)) := keep_cells hb3 HN2.out
  have HS3 : Hid (w3.heap[sb]? = some (.cells #[.int .i64 rc, .int .u64 rq, .bool ro, .int .i64 rt, .int .i64 rcd, .int .u64 rn] 54)) := keep_cells hb3 HS2.out
  have HB3 : Hid (Below w.heap.size w w3) := HB2.out.trans (hb3.mono HB2.out.size)
  have HT3 : Hid (Rt w3 base g L) := HT2.out.later hb3
  clear hb3 HN2 HS2 HB2 HT2
  have e0 : w3.cell? ⟨w.heap.size, 0, none⟩ = some (.int .i64 cl) := cell_of_heap HN3.out rfl
  have e1 : w3.cell? ⟨w.heap.size, 1, none⟩ = some (.int .u64 sq) := cell_of_heap HN3.out rfl
  have s2 : w3.cell? ⟨sb, 2, none⟩ = some (.bool ro) := cell_of_heap HS3.out rfl
  rcases HR with ⟨rfl, rfl⟩ | ⟨rfl, ha, rfl⟩ | ⟨rfl, ha, HR⟩
  · clear H1
    go_wp2
    go_ret
    exact ⟨rfl, by rw [HE.out]; simpa using HT3.out, Fr.of HB3.out⟩
  · clear H1
    go_wp2
    go_ret
    exact ⟨rfl, by rw [HE.out]; simpa using HT3.out, Fr.of HB3.out⟩
  have h1 := H1.out w3 HT3.out
  go_wp2_with fail
  refine h1.mono ?_
  clear h1 e0 e1 s2 ha
  rintro e w4 ⟨rfl, hb4⟩
  have HN4 : Hid (w4.heap[w.heap.size]? = some (.cells #[.int .i64 cl, .int .u64 sq] 25)) := keep_cells hb4 HN3.out
  have HS4 : Hid (w4.heap[sb]? = some (.cells #[.int .i64 rc, .int .u64 rq, .bool ro, .int .i64 rt, .int .i64 rcd, .int .u64 rn] 54)) := keep_cells hb4 HS3.out
  have HB4 : Hid (Below w.heap.size w w4) := HB3.out.trans (hb4.mono HB3.out.size)
  have HT4 : Hid (Rt w4 base g L) := HT3.out.later hb4
  clear hb4 HN3 HS3 HB3 HT3
  have e0 : w4.cell? ⟨w.heap.size, 0, none⟩ = some (.int .i64 cl) := cell_of_heap HN4.out rfl
  have e1 : w4.cell? ⟨w.heap.size, 1, none⟩ = some (.int .u64 sq) := cell_of_heap HN4.out rfl
  have s2 : w4.cell? ⟨sb, 2, none⟩ = some (.bool ro) := cell_of_heap HS4.out rfl
  rcases HR with ⟨rfl, rfl⟩ | HR
  · clear H1
    go_wp2
    go_ret
    exact ⟨rfl, by rw [HE.out]; simpa using HT4.out, Fr.of HB4.out⟩
  have h1 := H1.out w4 HT4.out
  go_wp2_with fail
  refine h1.mono ?_
  clear h1 e0 e1 s2
  rintro e w5 ⟨rfl, hb5⟩
  have HN5 : Hid (w5.heap[w.heap.size]? = some (.cells #[.int .i64 cl, .int .u64 sq] 25)) := keep_cells hb5 HN4.out
  have HS5 : Hid (w5.heap[sb]? = some (.cells #[.int .i64 rc, .int .u64 rq, .bool ro, .int .i64 rt, .int .i64 rcd, .int .u64 rn] 54)) := keep_cells hb5 HS4.out
  have HB5 : Hid (Below w.heap.size w w5) := HB4.out.trans (hb5.mono HB4.out.size)
  have HT5 : Hid (Rt w5 base g L) := HT4.out.later hb5
  clear hb5 HN4 HS4 HB4 HT4
  have e0 : w5.cell? ⟨w.heap.size, 0, none⟩ = some (.int .i64 cl) := cell_of_heap HN5.out rfl
  have e1 : w5.cell? ⟨w.heap.size, 1, none⟩ = some (.int .u64 sq) := cell_of_heap HN5.out rfl
  have s2 : w5.cell? ⟨sb, 2, none⟩ = some (.bool ro) := cell_of_heap HS5.out rfl
  rcases HR with ⟨rfl, rfl, rfl⟩ | HR
  · clear H1
    go_wp2
    go_ret
    exact ⟨rfl, by rw [HE.out]; simpa using HT5.out, Fr.of HB5.out⟩
  have HOP : Hid (hw = 0 ∧ ro = true ∧ r = 10 ∨ (hw = 1 ∧ ro = true ∨ hw = 0 ∧ ro = false) ∧ r = 0) := by
    rcases HR with h | ⟨h1, h2, h3⟩ | ⟨h1, h2, h3⟩
    · exact .inl h
    · exact .inr ⟨.inl ⟨h1, h2⟩, h3⟩
    · exact .inr ⟨.inr ⟨h1, h2⟩, h3⟩
  rcases HR with ⟨rfl, rfl, rfl⟩ | ⟨rfl, rfl, rfl⟩ | ⟨rfl, rfl, rfl⟩
  · clear HOP
    have h1 := H1.out w5 HT5.out
    go_wp2_with fail
    refine h1.mono ?_
    clear h1 e0 e1 s2
    rintro e w6 ⟨rfl, hb6⟩
    have HN6 : Hid (w6.heap[w.heap.size]? = some (.cells #[.int .i64 cl, .int .u64 sq] 25)) := keep_cells hb6 HN5.out
    have HS6 : Hid (w6.heap[sb]? = some (.cells #[.int .i64 rc, .int .u64 rq, .bool true, .int .i64 rt, .int .i64 rcd, .int .u64 rn] 54)) := keep_cells hb6 HS5.out
    have HB6 : Hid (Below w.heap.size w w6) := HB5.out.trans (hb6.mono HB5.out.size)
    have HT6 : Hid (Rt w6 base g L) := HT5.out.later hb6
    clear hb6 HN5 HS5 HB5 HT5
    have e0 : w6.cell? ⟨w.heap.size, 0, none⟩ = some (.int .i64 cl) := cell_of_heap HN6.out rfl
    have e1 : w6.cell? ⟨w.heap.size, 1, none⟩ = some (.int .u64 sq) := cell_of_heap HN6.out rfl
    have s2 : w6.cell? ⟨sb, 2, none⟩ = some (.bool true) := cell_of_heap HS6.out rfl
    clear H1
    go_wp2
    go_ret
    exact ⟨rfl, by rw [HE.out]; simpa using HT6.out, Fr.of HB6.out⟩
  · clear HOP
    have h1 := H1.out w5 HT5.out
    go_wp2_with fail
    refine h1.mono ?_
    clear h1 e0 e1 s2
    rintro e w6 ⟨rfl, hb6⟩
    have HN6 : Hid (w6.heap[w.heap.size]? = some (.cells #[.int .i64 cl, .int .u64 sq] 25)) := keep_cells hb6 HN5.out
    have HS6 : Hid (w6.heap[sb]? = some (.cells #[.int .i64 rc, .int .u64 rq, .bool true, .int .i64 rt, .int .i64 rcd, .int .u64 rn] 54)) := keep_cells hb6 HS5.out
    have HB6 : Hid (Below w.heap.size w w6) := HB5.out.trans (hb6.mono HB5.out.size)
    have HT6 : Hid (Rt w6 base g L) := HT5.out.later hb6
    clear hb6 HN5 HS5 HB5 HT5
    have e0 : w6.cell? ⟨w.heap.size, 0, none⟩ = some (.int .i64 cl) := cell_of_heap HN6.out rfl
    have e1 : w6.cell? ⟨w.heap.size, 1, none⟩ = some (.int .u64 sq) := cell_of_heap HN6.out rfl
    have s2 : w6.cell? ⟨sb, 2, none⟩ = some (.bool true) := cell_of_heap HS6.out rfl
    obtain ⟨va, vc, t1, t2, c0⟩ := HT6.out.cells
    have HG : Hid (w6.heap[g]? = some (.cells #[.slice va L.length vc] 31 (0, 0))) := t1
    have HO : Hid (w6.ownsRow base 54 6 (.slice va L.length vc) L.length (L.flatMap rcells)) := t2
    have HLO : Hid (base ≤ g) := HT6.out.lo
    clear t1 t2 H1
    go_upto_region 10 with fail
    clear s2
    refine wp_region_noPanic ?_
    refine wp_region_lets 17 ((fun w' => w'.cell? ⟨g, 0, none⟩ = some (.slice va L.length vc) ∧ w'.cell? ⟨w.heap.size, 0, none⟩ = some (.int .i64 cl) ∧ w'.cell? ⟨w.heap.size, 1, none⟩ = some (.int .u64 sq))) (by kernel_rfl) ?_ (fun hHeld => ?_)
    · exact ⟨c0, e0, e1⟩
    refine lets_take (i := 0) (d := 48) (v := ?_) rfl rfl (by kernel_rfl) (by kernel_rfl) (by kernel_rfl) (by kernel_rfl) (fun _ _ _ h => h) (Or.inl ⟨by rfl, ?_⟩) hHeld ?_
    rotate_left
    · (intro w hSw; (try dsimp only at hSw); go_simp; all_goals (with_reducible rfl))
    try simp only [Act.put, List.setIfInBounds_toArray, List.set_cons_zero, List.set_cons_succ]
    refine lets_take (i := 1) (d := 49) (v := ?_) rfl rfl (by kernel_rfl) (by kernel_rfl) (by kernel_rfl) (by kernel_rfl) (fun _ _ _ h => h) (Or.inl ⟨by rfl, ?_⟩) hHeld ?_
    rotate_left
    · (intro w hSw; (try dsimp only at hSw); go_simp; all_goals (with_reducible rfl))
    try simp only [Act.put, List.setIfInBounds_toArray, List.set_cons_zero, List.set_cons_succ]
    refine lets_take (i := 2) (d := 50) (v := ?_) rfl rfl (by kernel_rfl) (by kernel_rfl) (by kernel_rfl) (by kernel_rfl) (fun _ _ _ h => h) (Or.inl ⟨by rfl, ?_⟩) hHeld ?_
    rotate_left
    · (intro w hSw; (try dsimp only at hSw); go_simp; all_goals (with_reducible rfl))
    try simp only [Act.put, List.setIfInBounds_toArray, List.set_cons_zero, List.set_cons_succ]
    refine lets_take (i := 3) (d := 51) (v := ?_) rfl rfl (by kernel_rfl) (by kernel_rfl) (by kernel_rfl) (by kernel_rfl) (fun _ _ _ h => h) (Or.inl ⟨by rfl, ?_⟩) hHeld ?_
    rotate_left
    · (intro w hSw; (try dsimp only at hSw); go_simp; all_goals (with_reducible rfl))
    try simp only [Act.put, List.setIfInBounds_toArray, List.set_cons_zero, List.set_cons_succ]
    refine lets_take (i := 4) (d := 52) (v := ?_) rfl rfl (by kernel_rfl) (by kernel_rfl) (by kernel_rfl) (by kernel_rfl) (fun _ _ _ h => h) (Or.inl ⟨by rfl, ?_⟩) hHeld ?_
    rotate_left
    · (intro w hSw; (try dsimp only at hSw); go_simp; all_goals (with_reducible rfl))
    try simp only [Act.put, List.setIfInBounds_toArray, List.set_cons_zero, List.set_cons_succ]
    refine lets_take (i := 5) (d := 53) (v := ?_) rfl rfl (by kernel_rfl) (by kernel_rfl) (by kernel_rfl) (by kernel_rfl) (fun _ _ _ h => h) (Or.inl ⟨by rfl, ?_⟩) hHeld ?_
    rotate_left
    · (intro w hSw; (try dsimp only at hSw); go_simp; all_goals (with_reducible rfl))
    try simp only [Act.put, List.setIfInBounds_toArray, List.set_cons_zero, List.set_cons_succ]
    refine lets_take (i := 6) (d := 54) (v := ?_) rfl rfl (by kernel_rfl) (by kernel_rfl) (by kernel_rfl) (by kernel_rfl) (fun _ _ _ h => h) (Or.inl ⟨by rfl, ?_⟩) hHeld ?_
    rotate_left
    · (intro w hSw; (try dsimp only at hSw); go_simp; all_goals (with_reducible rfl))
    try simp only [Act.put, List.setIfInBounds_toArray, List.set_cons_zero, List.set_cons_succ]
    refine lets_take (i := 7) (d := 55) (v := ?_) rfl rfl (by kernel_rfl) (by kernel_rfl) (by kernel_rfl) (by kernel_rfl) (fun _ _ _ h => h) (Or.inl ⟨by rfl, ?_⟩) hHeld ?_
    rotate_left
    · (intro w hSw; (try dsimp only at hSw); go_simp; all_goals (with_reducible rfl))
    try simp only [Act.put, List.setIfInBounds_toArray, List.set_cons_zero, List.set_cons_succ]
    refine lets_take (i := 8) (d := 56) (v := ?_) rfl rfl (by kernel_rfl) (by kernel_rfl) (by kernel_rfl) (by kernel_rfl) (fun _ _ _ h => h) (Or.inl ⟨by rfl, ?_⟩) hHeld ?_
    rotate_left
    · (intro w hSw; (try dsimp only at hSw); go_simp; all_goals (with_reducible rfl))
    try simp only [Act.put, List.setIfInBounds_toArray, List.set_cons_zero, List.set_cons_succ]
    refine lets_take (i := 9) (d := 57) (v := ?_) rfl rfl (by kernel_rfl) (by kernel_rfl) (by kernel_rfl) (by kernel_rfl) (fun _ _ _ h => h) (Or.inl ⟨by rfl, ?_⟩) hHeld ?_
    rotate_left
    · (intro w hSw; (try dsimp only at hSw); go_simp; all_goals (with_reducible rfl))
    try simp only [Act.put, List.setIfInBounds_toArray, List.set_cons_zero, List.set_cons_succ]
    refine lets_take (i := 10) (d := 58) (v := ?_) rfl rfl (by kernel_rfl) (by kernel_rfl) (by kernel_rfl) (by kernel_rfl) (fun _ _ _ h => h) (Or.inl ⟨by rfl, ?_⟩) hHeld ?_
    rotate_left
    · (intro w hSw; (try dsimp only at hSw); go_simp; all_goals (with_reducible rfl))
    try simp only [Act.put, List.setIfInBounds_toArray, List.set_cons_zero, List.set_cons_succ]
    refine lets_take (i := 11) (d := 59) (v := ?_) rfl rfl (by kernel_rfl) (by kernel_rfl) (by kernel_rfl) (by kernel_rfl) (fun _ _ _ h => h) (Or.inl ⟨by rfl, ?_⟩) hHeld ?_
    rotate_left
    · (intro w hSw; (try dsimp only at hSw); go_simp; all_goals (with_reducible rfl))
    try simp only [Act.put, List.setIfInBounds_toArray, List.set_cons_zero, List.set_cons_succ]
    refine lets_take (i := 12) (d := 60) (v := ?_) rfl rfl (by kernel_rfl) (by kernel_rfl) (by kernel_rfl) (by kernel_rfl) (fun _ _ _ h => h) (Or.inl ⟨by rfl, ?_⟩) hHeld ?_
    rotate_left
    · (intro w hSw; (try dsimp only at hSw); go_simp; all_goals (with_reducible rfl))
    try simp only [Act.put, List.setIfInBounds_toArray, List.set_cons_zero, List.set_cons_succ]
    refine lets_one (i := 13) (by kernel_rfl) rfl (fun K hK => ?_)
    go_simp
    have b2 : Below w6.heap.size w6 ((w6.alloc (.cells #[.int .i64 cl, .int .u64 sq, .bool false, .int .i64 a, .int .i64 cd, .int .u64 n] 54)).drew) := ((Below.refl _ _).alloc (Nat.le_refl _) _).drew
    refine hK.out _ _ ?_ (fun hHeld => ?_)
    · exact fun _ => ⟨cell_later b2 c0, cell_later b2 e0, cell_later b2 e1⟩
    replace hHeld := hHeld (by decide)
    clear hK K
    try simp only [Act.put, List.setIfInBounds_toArray, List.set_cons_zero, List.set_cons_succ]
    have hn2 := heap_alloc_new w6 (.cells #[.int .i64 cl, .int .u64 sq, .bool false, .int .i64 a, .int .i64 cd, .int .u64 n] 54)
    obtain ⟨d0, q0, q1⟩ := hHeld
    have hown : ((w6.alloc (.cells #[.int .i64 cl, .int .u64 sq, .bool false, .int .i64 a, .int .i64 cd, .int .u64 n] 54)).drew).ownsRow base 54 6 (.slice va L.length vc) L.length (L.flatMap rcells) := owns_later HO.out b2
    have HG2 : Hid (((w6.alloc (.cells #[.int .i64 cl, .int .u64 sq, .bool false, .int .i64 a, .int .i64 cd, .int .u64 n] 54)).drew).heap[g]? = some (.cells #[.slice va L.length vc] 31 (0, 0))) := (b2.block g (Array.getElem?_eq_some_iff.1 HG.out).1).trans HG.out
    have HI2 : Hid (((w6.alloc (.cells #[.int .i64 cl, .int .u64 sq, .bool false, .int .i64 a, .int .i64 cd, .int .u64 n] 54)).drew).heap[w.heap.size]? = some (.cells #[.int .i64 cl, .int .u64 sq] 25)) := (b2.block _ (Array.getElem?_eq_some_iff.1 HN6.out).1).trans HN6.out
    have hsz2 : base ≤ ((w6.alloc (.cells #[.int .i64 cl, .int .u64 sq, .bool false, .int .i64 a, .int .i64 cd, .int .u64 n] 54)).drew).heap.size := by have := b2.size; have := HB6.out.size; omega
    have HB9 : Hid (Fr base [54, 31] w ((w6.alloc (.cells #[.int .i64 cl, .int .u64 sq, .bool false, .int .i64 a, .int .i64 cd, .int .u64 n] 54)).drew)) := (Fr.of HB6.out).trans (Fr.of b2)
    clear b2
    have hu1 := rcells_one [(cl, ⟨sq, false, a, cd, n⟩)]
    have hc2 := news_one rcells (cl, ⟨sq, false, a, cd, n⟩) hn2 rfl
    refine lets_one (i := 14) (by kernel_rfl) rfl (fun K hK => ?_)
    refine step_append_els rcells 6 48 29 54 _ Try.underlying29 Try.info_54 rfl (by decide) (fun _ => rfl) (by decide) rfl _ _ rfl base _ L rfl hown ⟨w6.heap.size, 0, none⟩ 1 1 [(cl, ⟨sq, false, a, cd, n⟩)] rfl rfl hc2 hu1 (by decide) (by omega) hsz2 ?_
    intro v2 y2 ho2 hg2 hv2
    obtain ⟨xa, xn, xc, rfl⟩ := owns_slice ho2
    have nb : ∀ (k i : Nat) (u : Value), tagOf ((w6.alloc (.cells #[.int .i64 cl, .int .u64 sq, .bool false, .int .i64 a, .int .i64 cd, .int .u64 n] 54)).drew) k ≠ some 54 → ((w6.alloc (.cells #[.int .i64 cl, .int .u64 sq, .bool false, .int .i64 a, .int .i64 cd, .int .u64 n] 54)).drew).cell? ⟨k, i, none⟩ = some u → y2.cell? ⟨k, i, none⟩ = some u := fun k i u ht hu => hg2.cell hu (fun e => ht (ownBlock_54 hown k e.symm).2.2)
    have r0 : y2.cell? ⟨g, 0, none⟩ = some (.slice va L.length vc) := nb g 0 _ (by rw [tagOf_heap HG2.out]; simp) d0
    have r1 : y2.cell? ⟨w.heap.size, 0, none⟩ = some (.int .i64 cl) := nb _ _ _ (by rw [tagOf_heap HI2.out]; simp) q0
    have r2 : y2.cell? ⟨w.heap.size, 1, none⟩ = some (.int .u64 sq) := nb _ _ _ (by rw [tagOf_heap HI2.out]; simp) q1
    have g2 : y2.heap[g]? = some (.cells #[.slice va L.length vc] 31 (0, 0)) := (hg2.block g (Array.getElem?_eq_some_iff.1 HG2.out).1 (fun e => by have := (ownBlock_54 hown g e.symm).2.2; rw [tagOf_heap HG2.out] at this; cases this)).trans HG2.out
    have f2 : y2.frozen? ⟨g, 0, none⟩ = false := by simp [World.frozen?, g2]
    have f9 : Fr base [54, 31] w y2 := HB9.out.trans (Fr.grown hg2 (fun k hk => ⟨(ownBlock_54 hown k hk).1, 54, by simp, (ownBlock_54 hown k hk).2.2⟩))
    obtain ⟨p1, p2⟩ := Rt.put HLO.out g2 ho2
    have HFIN : Hid (Rt (y2.setCell ⟨g, 0, none⟩ (.slice xa xn xc)) base g L' ∧ Fr base [54, 31] w (y2.setCell ⟨g, 0, none⟩ (.slice xa xn xc))) := ⟨by rw [HE.out]; simpa using p1, f9.trans p2⟩
    refine hK.out _ _ ?_ (fun hHeld => ?_)
    · exact fun _ => ⟨r0, r1, r2⟩
    replace hHeld := hHeld (by decide)
    clear hK K
    try simp only [Act.put, List.setIfInBounds_toArray, List.set_cons_zero, List.set_cons_succ]
    clear nb ho2 hg2 hv2 hown hc2 hu1 p1 p2 f9
    refine lets_one (i := 15) (by kernel_rfl) rfl (fun K hK => ?_)
    go_simp
    refine hK.out _ _ ?_ (fun hHeld => ?_)
    · exact fun _ => hHeld
    replace hHeld := hHeld (by decide)
    clear hK K
    try simp only [Act.put, List.setIfInBounds_toArray, List.set_cons_zero, List.set_cons_succ]
    refine lets_one (i := 16) (by kernel_rfl) rfl (fun K hK => ?_)
    go_simp
    refine hK.out _ _ ?_ (fun hHeld => ?_)
    · exact fun _ => hHeld
    replace hHeld := hHeld (by decide)
    clear hK K
    try simp only [Act.put, List.setIfInBounds_toArray, List.set_cons_zero, List.set_cons_succ]
    refine lets_one (i := 17) (by kernel_rfl) rfl (fun K hK => ?_)
    go_simp
    refine hK.out _ _ ?_ (fun hHeld => ?_)
    · exact fun h => absurd rfl h
    clear hK K
    try simp only [Act.put, List.setIfInBounds_toArray, List.set_cons_zero, List.set_cons_succ]
    refine lets_done (by kernel_rfl) ?_ _
    refine NoPanic.normal ?_
    go_wp2
    go_ret
    exact ⟨rfl, HFIN.out.1, HFIN.out.2⟩
  · clear HOP
    have h1 := H1.out w5 HT5.out
    go_wp2_with fail
    refine h1.mono ?_
    clear h1 e0 e1 s2
    rintro e w6 ⟨rfl, hb6⟩
    have HN6 : Hid (w6.heap[w.heap.size]? = some (.cells #[.int .i64 cl, .int .u64 sq] 25)) := keep_cells hb6 HN5.out
    have HS6 : Hid (w6.heap[sb]? = some (.cells #[.int .i64 rc, .int .u64 rq, .bool false, .int .i64 rt, .int .i64 rcd, .int .u64 rn] 54)) := keep_cells hb6 HS5.out
    have HB6 : Hid (Below w.heap.size w w6) := HB5.out.trans (hb6.mono HB5.out.size)
    have HT6 : Hid (Rt w6 base g L) := HT5.out.later hb6
    clear hb6 HN5 HS5 HB5 HT5
    have e0 : w6.cell? ⟨w.heap.size, 0, none⟩ = some (.int .i64 cl) := cell_of_heap HN6.out rfl
    have e1 : w6.cell? ⟨w.heap.size, 1, none⟩ = some (.int .u64 sq) := cell_of_heap HN6.out rfl
    have s2 : w6.cell? ⟨sb, 2, none⟩ = some (.bool false) := cell_of_heap HS6.out rfl
    obtain ⟨va, vc, t1, t2, c0⟩ := HT6.out.cells
    have HG : Hid (w6.heap[g]? = some (.cells #[.slice va L.length vc] 31 (0, 0))) := t1
    have HO : Hid (w6.ownsRow base 54 6 (.slice va L.length vc) L.length (L.flatMap rcells)) := t2
    have HLO : Hid (base ≤ g) := HT6.out.lo
    clear t1 t2 H1
    go_upto_region 10 with fail
    clear s2
    refine wp_region_noPanic ?_
    refine wp_region_lets 17 ((fun w' => w'.cell? ⟨g, 0, none⟩ = some (.slice va L.length vc) ∧ w'.cell? ⟨w.heap.size, 0, none⟩ = some (.int .i64 cl) ∧ w'.cell? ⟨w.heap.size, 1, none⟩ = some (.int .u64 sq))) (by kernel_rfl) ?_ (fun hHeld => ?_)
    · exact ⟨c0, e0, e1⟩
    refine lets_take (i := 0) (d := 48) (v := ?_) rfl rfl (by kernel_rfl) (by kernel_rfl) (by kernel_rfl) (by kernel_rfl) (fun _ _ _ h => h) (Or.inl ⟨by rfl, ?_⟩) hHeld ?_
    rotate_left
    · (intro w hSw; (try dsimp only at hSw); go_simp; all_goals (with_reducible rfl))
    try simp only [Act.put, List.setIfInBounds_toArray, List.set_cons_zero, List.set_cons_succ]
    refine lets_take (i := 1) (d := 49) (v := ?_) rfl rfl (by kernel_rfl) (by kernel_rfl) (by kernel_rfl) (by kernel_rfl) (fun _ _ _ h => h) (Or.inl ⟨by rfl, ?_⟩) hHeld ?_
    rotate_left
    · (intro w hSw; (try dsimp only at hSw); go_simp; all_goals (with_reducible rfl))
    try simp only [Act.put, List.setIfInBounds_toArray, List.set_cons_zero, List.set_cons_succ]
    refine lets_take (i := 2) (d := 50) (v := ?_) rfl rfl (by kernel_rfl) (by kernel_rfl) (by kernel_rfl) (by kernel_rfl) (fun _ _ _ h => h) (Or.inl ⟨by rfl, ?_⟩) hHeld ?_
    rotate_left
    · (intro w hSw; (try dsimp only at hSw); go_simp; all_goals (with_reducible rfl))
    try simp only [Act.put, List.setIfInBounds_toArray, List.set_cons_zero, List.set_cons_succ]
    refine lets_take (i := 3) (d := 51) (v := ?_) rfl rfl (by kernel_rfl) (by kernel_rfl) (by kernel_rfl) (by kernel_rfl) (fun _ _ _ h => h) (Or.inl ⟨by rfl, ?_⟩) hHeld ?_
    rotate_left
    · (intro w hSw; (try dsimp only at hSw); go_simp; all_goals (with_reducible rfl))
    try simp only [Act.put, List.setIfInBounds_toArray, List.set_cons_zero, List.set_cons_succ]
    refine lets_take (i := 4) (d := 52) (v := ?_) rfl rfl (by kernel_rfl) (by kernel_rfl) (by kernel_rfl) (by kernel_rfl) (fun _ _ _ h => h) (Or.inl ⟨by rfl, ?_⟩) hHeld ?_
    rotate_left
    · (intro w hSw; (try dsimp only at hSw); go_simp; all_goals (with_reducible rfl))
    try simp only [Act.put, List.setIfInBounds_toArray, List.set_cons_zero, List.set_cons_succ]
    refine lets_take (i := 5) (d := 53) (v := ?_) rfl rfl (by kernel_rfl) (by kernel_rfl) (by kernel_rfl) (by kernel_rfl) (fun _ _ _ h => h) (Or.inl ⟨by rfl, ?_⟩) hHeld ?_
    rotate_left
    · (intro w hSw; (try dsimp only at hSw); go_simp; all_goals (with_reducible rfl))
    try simp only [Act.put, List.setIfInBounds_toArray, List.set_cons_zero, List.set_cons_succ]
    refine lets_take (i := 6) (d := 54) (v := ?_) rfl rfl (by kernel_rfl) (by kernel_rfl) (by kernel_rfl) (by kernel_rfl) (fun _ _ _ h => h) (Or.inl ⟨by rfl, ?_⟩) hHeld ?_
    rotate_left
    · (intro w hSw; (try dsimp only at hSw); go_simp; all_goals (with_reducible rfl))
    try simp only [Act.put, List.setIfInBounds_toArray, List.set_cons_zero, List.set_cons_succ]
    refine lets_take (i := 7) (d := 55) (v := ?_) rfl rfl (by kernel_rfl) (by kernel_rfl) (by kernel_rfl) (by kernel_rfl) (fun _ _ _ h => h) (Or.inl ⟨by rfl, ?_⟩) hHeld ?_
    rotate_left
    · (intro w hSw; (try dsimp only at hSw); go_simp; all_goals (with_reducible rfl))
    try simp only [Act.put, List.setIfInBounds_toArray, List.set_cons_zero, List.set_cons_succ]
    refine lets_take (i := 8) (d := 56) (v := ?_) rfl rfl (by kernel_rfl) (by kernel_rfl) (by kernel_rfl) (by kernel_rfl) (fun _ _ _ h => h) (Or.inl ⟨by rfl, ?_⟩) hHeld ?_
    rotate_left
    · (intro w hSw; (try dsimp only at hSw); go_simp; all_goals (with_reducible rfl))
    try simp only [Act.put, List.setIfInBounds_toArray, List.set_cons_zero, List.set_cons_succ]
    refine lets_take (i := 9) (d := 57) (v := ?_) rfl rfl (by kernel_rfl) (by kernel_rfl) (by kernel_rfl) (by kernel_rfl) (fun _ _ _ h => h) (Or.inl ⟨by rfl, ?_⟩) hHeld ?_
    rotate_left
    · (intro w hSw; (try dsimp only at hSw); go_simp; all_goals (with_reducible rfl))
    try simp only [Act.put, List.setIfInBounds_toArray, List.set_cons_zero, List.set_cons_succ]
    refine lets_take (i := 10) (d := 58) (v := ?_) rfl rfl (by kernel_rfl) (by kernel_rfl) (by kernel_rfl) (by kernel_rfl) (fun _ _ _ h => h) (Or.inl ⟨by rfl, ?_⟩) hHeld ?_
    rotate_left
    · (intro w hSw; (try dsimp only at hSw); go_simp; all_goals (with_reducible rfl))
    try simp only [Act.put, List.setIfInBounds_toArray, List.set_cons_zero, List.set_cons_succ]
    refine lets_take (i := 11) (d := 59) (v := ?_) rfl rfl (by kernel_rfl) (by kernel_rfl) (by kernel_rfl) (by kernel_rfl) (fun _ _ _ h => h) (Or.inl ⟨by rfl, ?_⟩) hHeld ?_
    rotate_left
    · (intro w hSw; (try dsimp only at hSw); go_simp; all_goals (with_reducible rfl))
    try simp only [Act.put, List.setIfInBounds_toArray, List.set_cons_zero, List.set_cons_succ]
    refine lets_take (i := 12) (d := 60) (v := ?_) rfl rfl (by kernel_rfl) (by kernel_rfl) (by kernel_rfl) (by kernel_rfl) (fun _ _ _ h => h) (Or.inl ⟨by rfl, ?_⟩) hHeld ?_
    rotate_left
    · (intro w hSw; (try dsimp only at hSw); go_simp; all_goals (with_reducible rfl))
    try simp only [Act.put, List.setIfInBounds_toArray, List.set_cons_zero, List.set_cons_succ]
    refine lets_one (i := 13) (by kernel_rfl) rfl (fun K hK => ?_)
    go_simp
    have b2 : Below w6.heap.size w6 ((w6.alloc (.cells #[.int .i64 cl, .int .u64 sq, .bool false, .int .i64 a, .int .i64 cd, .int .u64 n] 54)).drew) := ((Below.refl _ _).alloc (Nat.le_refl _) _).drew
    refine hK.out _ _ ?_ (fun hHeld => ?_)
    · exact fun _ => ⟨cell_later b2 c0, cell_later b2 e0, cell_later b2 e1⟩
    replace hHeld := hHeld (by decide)
    clear hK K
    try simp only [Act.put, List.setIfInBounds_toArray, List.set_cons_zero, List.set_cons_succ]
    have hn2 := heap_alloc_new w6 (.cells #[.int .i64 cl, .int .u64 sq, .bool false, .int .i64 a, .int .i64 cd, .int .u64 n] 54)
    obtain ⟨d0, q0, q1⟩ := hHeld
    have hown : ((w6.alloc (.cells #[.int .i64 cl, .int .u64 sq, .bool false, .int .i64 a, .int .i64 cd, .int .u64 n] 54)).drew).ownsRow base 54 6 (.slice va L.length vc) L.length (L.flatMap rcells) := owns_later HO.out b2
    have HG2 : Hid (((w6.alloc (.cells #[.int .i64 cl, .int .u64 sq, .bool false, .int .i64 a, .int .i64 cd, .int .u64 n] 54)).drew).heap[g]? = some (.cells #[.slice va L.length vc] 31 (0, 0))) := (b2.block g (Array.getElem?_eq_some_iff.1 HG.out).1).trans HG.out
    have HI2 : Hid (((w6.alloc (.cells #[.int .i64 cl, .int .u64 sq, .bool false, .int .i64 a, .int .i64 cd, .int .u64 n] 54)).drew).heap[w.heap.size]? = some (.cells #[.int .i64 cl, .int .u64 sq] 25)) := (b2.block _ (Array.getElem?_eq_some_iff.1 HN6.out).1).trans HN6.out
    have hsz2 : base ≤ ((w6.alloc (.cells #[.int .i64 cl, .int .u64 sq, .bool false, .int .i64 a, .int .i64 cd, .int .u64 n] 54)).drew).heap.size := by have := b2.size; have := HB6.out.size; omega
    have HB9 : Hid (Fr base [54, 31] w ((w6.alloc (.cells #[.int .i64 cl, .int .u64 sq, .bool false, .int .i64 a, .int .i64 cd, .int .u64 n] 54)).drew)) := (Fr.of HB6.out).trans (Fr.of b2)
    clear b2
    have hu1 := rcells_one [(cl, ⟨sq, false, a, cd, n⟩)]
    have hc2 := news_one rcells (cl, ⟨sq, false, a, cd, n⟩) hn2 rfl
    refine lets_one (i := 14) (by kernel_rfl) rfl (fun K hK => ?_)
    refine step_append_els rcells 6 48 29 54 _ Try.underlying29 Try.info_54 rfl (by decide) (fun _ => rfl) (by decide) rfl _ _ rfl base _ L rfl hown ⟨w6.heap.size, 0, none⟩ 1 1 [(cl, ⟨sq, false, a, cd, n⟩)] rfl rfl hc2 hu1 (by decide) (by omega) hsz2 ?_
    intro v2 y2 ho2 hg2 hv2
    obtain ⟨xa, xn, xc, rfl⟩ := owns_slice ho2
    have nb : ∀ (k i : Nat) (u : Value), tagOf ((w6.alloc (.cells #[.int .i64 cl, .int .u64 sq, .bool false, .int .i64 a, .int .i64 cd, .int .u64 n] 54)).drew) k ≠ some 54 → ((w6.alloc (.cells #[.int .i64 cl, .int .u64 sq, .bool false, .int .i64 a, .int .i64 cd, .int .u64 n] 54)).drew).cell? ⟨k, i, none⟩ = some u → y2.cell? ⟨k, i, none⟩ = some u := fun k i u ht hu => hg2.cell hu (fun e => ht (ownBlock_54 hown k e.symm).2.2)
    have r0 : y2.cell? ⟨g, 0, none⟩ = some (.slice va L.length vc) := nb g 0 _ (by rw [tagOf_heap HG2.out]; simp) d0
    have r1 : y2.cell? ⟨w.heap.size, 0, none⟩ = some (.int .i64 cl) := nb _ _ _ (by rw [tagOf_heap HI2.out]; simp) q0
    have r2 : y2.cell? ⟨w.heap.size, 1, none⟩ = some (.int .u64 sq) := nb _ _ _ (by rw [tagOf_heap HI2.out]; simp) q1
    have g2 : y2.heap[g]? = some (.cells #[.slice va L.length vc] 31 (0, 0)) := (hg2.block g (Array.getElem?_eq_some_iff.1 HG2.out).1 (fun e => by have := (ownBlock_54 hown g e.symm).2.2; rw [tagOf_heap HG2.out] at this; cases this)).trans HG2.out
    have f2 : y2.frozen? ⟨g, 0, none⟩ = false := by simp [World.frozen?, g2]
    have f9 : Fr base [54, 31] w y2 := HB9.out.trans (Fr.grown hg2 (fun k hk => ⟨(ownBlock_54 hown k hk).1, 54, by simp, (ownBlock_54 hown k hk).2.2⟩))
    obtain ⟨p1, p2⟩ := Rt.put HLO.out g2 ho2
    have HFIN : Hid (Rt (y2.setCell ⟨g, 0, none⟩ (.slice xa xn xc)) base g L' ∧ Fr base [54, 31] w (y2.setCell ⟨g, 0, none⟩ (.slice xa xn xc))) := ⟨by rw [HE.out]; simpa using p1, f9.trans p2⟩
    refine hK.out _ _ ?_ (fun hHeld => ?_)
    · exact fun _ => ⟨r0, r1, r2⟩
    replace hHeld := hHeld (by decide)
    clear hK K
    try simp only [Act.put, List.setIfInBounds_toArray, List.set_cons_zero, List.set_cons_succ]
    clear nb ho2 hg2 hv2 hown hc2 hu1 p1 p2 f9
    refine lets_one (i := 15) (by kernel_rfl) rfl (fun K hK => ?_)
    go_simp
    refine hK.out _ _ ?_ (fun hHeld => ?_)
    · exact fun _ => hHeld
    replace hHeld := hHeld (by decide)
    clear hK K
    try simp only [Act.put, List.setIfInBounds_toArray, List.set_cons_zero, List.set_cons_succ]
    refine lets_one (i := 16) (by kernel_rfl) rfl (fun K hK => ?_)
    go_simp
    refine hK.out _ _ ?_ (fun hHeld => ?_)
    · exact fun _ => hHeld
    replace hHeld := hHeld (by decide)
    clear hK K
    try simp only [Act.put, List.setIfInBounds_toArray, List.set_cons_zero, List.set_cons_succ]
    refine lets_one (i := 17) (by kernel_rfl) rfl (fun K hK => ?_)
    go_simp
    refine hK.out _ _ ?_ (fun hHeld => ?_)
    · exact fun h => absurd rfl h
    clear hK K
    try simp only [Act.put, List.setIfInBounds_toArray, List.set_cons_zero, List.set_cons_succ]
    refine lets_done (by kernel_rfl) ?_ _
    refine NoPanic.normal ?_
    go_wp2
    go_ret
    exact ⟨rfl, HFIN.out.1, HFIN.out.2⟩
end Go.Proofs.Ytophkidigajliaa
