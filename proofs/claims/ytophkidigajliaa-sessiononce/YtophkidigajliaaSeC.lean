/- Open and Done of a table: contracts. -/
import Derived.Test.YtophkidigajliaaSeB
namespace Go.Proofs.Ytophkidigajliaa
open Go Go.RowKit Go.Maps
set_option linter.unusedVariables false
set_option linter.unusedSimpArgs false

theorem open_cases (L : Log) (x : Id) (a : Int) : (refuse L x a = 1 ∧ openE L x a = 1) ∨ (refuse L x a = 13 ∧ openE L x a = 13) ∨ (refuse L x a = 0 ∧ ((howL L x = 1 ∧ openE L x a = 7) ∨ (howL L x = 0 ∧ (slotL L x.1).opn = true ∧ openE L x a = 10) ∨ (howL L x = 0 ∧ (slotL L x.1).opn = false ∧ openE L x a = 0))) := by
  unfold refuse openE
  by_cases h1 : rightId x = false ∨ a < 1
  · simp [if_pos h1]
  · simp only [if_neg h1]
    rcases how_cases L x with h | h | h <;> simp only [h] <;> cases (slotL L x.1).opn <;> simp
theorem done_cases (L : Log) (x : Id) (a : Int) : (refuse L x a = 1 ∧ doneE L x a = 1) ∨ (refuse L x a = 13 ∧ doneE L x a = 13) ∨ (refuse L x a = 0 ∧ ((howL L x = 1 ∧ (slotL L x.1).opn = true ∧ doneE L x a = 0) ∨ (howL L x = 1 ∧ (slotL L x.1).opn = false ∧ doneE L x a = 7) ∨ (howL L x = 0 ∧ (slotL L x.1).opn = true ∧ doneE L x a = 10) ∨ (howL L x = 0 ∧ (slotL L x.1).opn = false ∧ doneE L x a = 0))) := by
  unfold refuse doneE
  by_cases h1 : rightId x = false ∨ a < 1
  · simp [if_pos h1]
  · simp only [if_neg h1]
    rcases how_cases L x with h | h | h <;> simp only [h] <;> cases (slotL L x.1).opn <;> simp

theorem open_nil (x : Id) (a : Int) (w : World) : Calls Try.prog 15 #[.pointer none, idv x, .int .i64 a] w fun e w' => e = .returned (.int .i64 2) ∧ Below w.heap.size w w' := by
  obtain ⟨c, s⟩ := x
  have h1 := refuse_nil (c, s) a (w.alloc (.cells #[.int .i64 c, .int .u64 s] 25))
  have hb : Below w.heap.size w (w.alloc (.cells #[.int .i64 c, .int .u64 s] 25)) := (Below.refl _ _).alloc (Nat.le_refl _) _
  go_enter Try.func15, Try.ntmps15
  go_wp2_with fail
  refine h1.mono ?_
  rintro e w1 ⟨rfl, hb1⟩
  go_wp2
  go_ret
  exact ⟨rfl, hb.trans (hb1.mono hb.size)⟩
theorem done_nil (x : Id) (a cd n : Int) (w : World) : Calls Try.prog 16 #[.pointer none, idv x, .int .i64 a, .int .i64 cd, .int .u64 n] w fun e w' => e = .returned (.int .i64 2) ∧ Below w.heap.size w w' := by
  obtain ⟨c, s⟩ := x
  have h1 := refuse_nil (c, s) a (w.alloc (.cells #[.int .i64 c, .int .u64 s] 25))
  have hb : Below w.heap.size w (w.alloc (.cells #[.int .i64 c, .int .u64 s] 25)) := (Below.refl _ _).alloc (Nat.le_refl _) _
  go_enter Try.func16, Try.ntmps16
  go_wp2_with fail
  refine h1.mono ?_
  rintro e w1 ⟨rfl, hb1⟩
  go_wp2
  go_ret
  exact ⟨rfl, hb.trans (hb1.mono hb.size)⟩

set_option maxRecDepth 100000 in
set_option maxHeartbeats 2000000 in
theorem open_any (g bm : Nat) (L : Log) (x : Id) (a : Int) (w : World) (h : Se w g bm L) (hc : (Lit.int .i64 x.1).wf = true) (hlen : L.length ≤ 100000) :
    Calls Try.prog 15 #[.pointer (some ⟨g, 0, none⟩), idv x, .int .i64 a] w fun e w' => e = .returned (.int .i64 (openE L x a)) ∧ Se w' g bm (openLg L x a) ∧ w.grownBy w' (some bm) := by
  have hb : Below w.heap.size w (w.alloc (.cells #[.int .i64 x.1, .int .u64 x.2] 25)) := (Below.refl _ _).alloc (Nat.le_refl _) _
  have hn := heap_alloc_new w (.cells #[.int .i64 x.1, .int .u64 x.2] 25)
  have HS : Hid (Se (w.alloc (.cells #[.int .i64 x.1, .int .u64 x.2] 25)) g bm L) := h.later hb
  have h0 := refuse_any g bm L x a _ HS.out hc
  have HR := open_cases L x a
  have HE : Hid (openLg L x a = if openE L x a = 0 then L ++ [openS x a] else L) := rfl
  have H1 : Hid (∀ w0, Se w0 g bm L → Calls Try.prog 10 #[.pointer (some ⟨g, 0, none⟩), idv x] w0 fun e w' => e = .returned (.int .i64 (howL L x)) ∧ Below w0.heap.size w0 w') := fun w0 hs => how_any g bm L x w0 hs hc
  have H2 : Hid (∀ w0, Se w0 g bm L → Calls Try.prog 22 #[.pointer (some ⟨g, 0, none⟩), .int .i64 x.1] w0 fun e w' => e = .returned (.bool (slotL L x.1).opn) ∧ w' = w0) := fun w0 hs => isopen_any g bm L x.1 w0 hs hc
  have H3 : Hid (∀ w0, Se w0 g bm L → Calls Try.prog 23 #[.pointer (some ⟨g, 0, none⟩), .int .i64 x.1, slotv (openS x a).2] w0 fun e w' => e = .returned (.tuple #[]) ∧ Se w' g bm (L ++ [openS x a]) ∧ w0.grownBy w' (some bm)) := fun w0 hs => set_any g bm L x.1 _ w0 hs hc hlen
  clear h
  generalize openLg L x a = L' at *
  generalize openE L x a = r at *
  generalize refuse L x a = rf at *
  generalize howL L x = hw at *
  generalize (slotL L x.1).opn = op at *
  obtain ⟨cl, sq⟩ := x
  simp only at *
  generalize hw0 : w.alloc (.cells #[.int .i64 cl, .int .u64 sq] 25) = w0 at *
  have HN : Hid (w0.heap[w.heap.size]? = some (.cells #[.int .i64 cl, .int .u64 sq] 25)) := hn
  have HB : Hid (Below w.heap.size w w0) := hb
  clear hn hb
  have e0 : w0.cell? ⟨w.heap.size, 0, none⟩ = some (.int .i64 cl) := cell_of_heap HN.out rfl
  have e1 : w0.cell? ⟨w.heap.size, 1, none⟩ = some (.int .u64 sq) := cell_of_heap HN.out rfl
  go_enter Try.func15, Try.ntmps15
  go_wp2_with fail
  refine h0.mono ?_
  clear h0 e0 e1
  rintro e w1 ⟨rfl, hb1⟩
  have HN1 : Hid (w1.heap[w.heap.size]? = some (.cells #[.int .i64 cl, .int .u64 sq] 25)) := keep_cells hb1 HN.out
  have HB1 : Hid (Below w.heap.size w w1) := HB.out.trans (hb1.mono HB.out.size)
  have HS1 : Hid (Se w1 g bm L) := HS.out.later hb1
  clear hb1 HB HN HS
  have e0 : w1.cell? ⟨w.heap.size, 0, none⟩ = some (.int .i64 cl) := cell_of_heap HN1.out rfl
  have e1 : w1.cell? ⟨w.heap.size, 1, none⟩ = some (.int .u64 sq) := cell_of_heap HN1.out rfl
  rcases HR with ⟨rfl, rfl⟩ | ⟨rfl, rfl⟩ | ⟨rfl, HR⟩
  · clear H1 H2 H3
    go_wp2
    go_ret
    exact ⟨rfl, by rw [HE.out]; simpa using HS1.out, grown_some bm HB1.out⟩
  · clear H1 H2 H3
    go_wp2
    go_ret
    exact ⟨rfl, by rw [HE.out]; simpa using HS1.out, grown_some bm HB1.out⟩
  · have h1 := H1.out _ HS1.out
    go_wp2_with fail
    refine h1.mono ?_
    clear h1 e0 e1
    rintro e w2 ⟨rfl, hb2⟩
    have HN2 : Hid (w2.heap[w.heap.size]? = some (.cells #[.int .i64 cl, .int .u64 sq] 25)) := keep_cells hb2 HN1.out
    have HB2 : Hid (Below w.heap.size w w2) := HB1.out.trans (hb2.mono HB1.out.size)
    have HS2 : Hid (Se w2 g bm L) := HS1.out.later hb2
    have h2 := H2.out _ HS2.out
    clear hb2 HB1 HN1 HS1 H1 H2
    have e0 : w2.cell? ⟨w.heap.size, 0, none⟩ = some (.int .i64 cl) := cell_of_heap HN2.out rfl
    have e1 : w2.cell? ⟨w.heap.size, 1, none⟩ = some (.int .u64 sq) := cell_of_heap HN2.out rfl
    rcases HR with ⟨rfl, rfl⟩ | ⟨rfl, rfl, rfl⟩ | ⟨rfl, rfl, rfl⟩
    · go_wp2
      go_ret
      exact ⟨rfl, by rw [HE.out]; simpa using HS2.out, grown_some bm HB2.out⟩
    · go_wp2_with fail
      refine h2.mono ?_
      clear h2
      rintro e w3 ⟨rfl, rfl⟩
      go_wp2
      go_ret
      exact ⟨rfl, by rw [HE.out]; simpa using HS2.out, grown_some bm HB2.out⟩
    · go_wp2_with fail
      refine h2.mono ?_
      clear h2
      rintro e w3 ⟨rfl, hw3⟩
      subst w3
      have h3 := H3.out _ HS2.out
      clear H3
      go_wp2_with fail
      refine h3.mono ?_
      clear h3
      rintro e w3 ⟨rfl, hS3, hg3⟩
      have HS3 : Hid (Se w3 g bm L') := by rw [Hid, HE.out]; simpa using hS3
      have HG3 : Hid (w.grownBy w3 (some bm)) := grown_trans (grown_some bm HB2.out) hg3
      clear hS3 hg3
      go_wp2
      go_ret
      exact ⟨rfl, HS3.out, HG3.out⟩

set_option maxRecDepth 100000 in
set_option maxHeartbeats 2000000 in
theorem done_any (g bm : Nat) (L : Log) (x : Id) (a cd n : Int) (w : World) (h : Se w g bm L) (hc : (Lit.int .i64 x.1).wf = true) (hlen : L.length ≤ 100000) :
    Calls Try.prog 16 #[.pointer (some ⟨g, 0, none⟩), idv x, .int .i64 a, .int .i64 cd, .int .u64 n] w fun e w' => e = .returned (.int .i64 (doneE L x a)) ∧ Se w' g bm (doneLg L x a cd n) ∧ w.grownBy w' (some bm) := by
  have hb : Below w.heap.size w (w.alloc (.cells #[.int .i64 x.1, .int .u64 x.2] 25)) := (Below.refl _ _).alloc (Nat.le_refl _) _
  have hn := heap_alloc_new w (.cells #[.int .i64 x.1, .int .u64 x.2] 25)
  have HS : Hid (Se (w.alloc (.cells #[.int .i64 x.1, .int .u64 x.2] 25)) g bm L) := h.later hb
  have h0 := refuse_any g bm L x a _ HS.out hc
  have HR := done_cases L x a
  have HE : Hid (doneLg L x a cd n = if doneE L x a = 0 then L ++ [doneS x a cd n] else L) := rfl
  have H1 : Hid (∀ w0, Se w0 g bm L → Calls Try.prog 10 #[.pointer (some ⟨g, 0, none⟩), idv x] w0 fun e w' => e = .returned (.int .i64 (howL L x)) ∧ Below w0.heap.size w0 w') := fun w0 hs => how_any g bm L x w0 hs hc
  have H2 : Hid (∀ w0, Se w0 g bm L → Calls Try.prog 22 #[.pointer (some ⟨g, 0, none⟩), .int .i64 x.1] w0 fun e w' => e = .returned (.bool (slotL L x.1).opn) ∧ w' = w0) := fun w0 hs => isopen_any g bm L x.1 w0 hs hc
  have H3 : Hid (∀ w0, Se w0 g bm L → Calls Try.prog 23 #[.pointer (some ⟨g, 0, none⟩), .int .i64 x.1, slotv (doneS x a cd n).2] w0 fun e w' => e = .returned (.tuple #[]) ∧ Se w' g bm (L ++ [doneS x a cd n]) ∧ w0.grownBy w' (some bm)) := fun w0 hs => set_any g bm L x.1 _ w0 hs hc hlen
  clear h
  generalize doneLg L x a cd n = L' at *
  generalize doneE L x a = r at *
  generalize refuse L x a = rf at *
  generalize howL L x = hw at *
  generalize (slotL L x.1).opn = op at *
  obtain ⟨cl, sq⟩ := x
  simp only at *
  generalize hw0 : w.alloc (.cells #[.int .i64 cl, .int .u64 sq] 25) = w0 at *
  have HN : Hid (w0.heap[w.heap.size]? = some (.cells #[.int .i64 cl, .int .u64 sq] 25)) := hn
  have HB : Hid (Below w.heap.size w w0) := hb
  clear hn hb
  have e0 : w0.cell? ⟨w.heap.size, 0, none⟩ = some (.int .i64 cl) := cell_of_heap HN.out rfl
  have e1 : w0.cell? ⟨w.heap.size, 1, none⟩ = some (.int .u64 sq) := cell_of_heap HN.out rfl
  go_enter Try.func16, Try.ntmps16
  go_wp2_with fail
  refine h0.mono ?_
  clear h0 e0 e1
  rintro e w1 ⟨rfl, hb1⟩
  have HN1 : Hid (w1.heap[w.heap.size]? = some (.cells #[.int .i64 cl, .int .u64 sq] 25)) := keep_cells hb1 HN.out
  have HB1 : Hid (Below w.heap.size w w1) := HB.out.trans (hb1.mono HB.out.size)
  have HS1 : Hid (Se w1 g bm L) := HS.out.later hb1
  clear hb1 HB HN HS
  have e0 : w1.cell? ⟨w.heap.size, 0, none⟩ = some (.int .i64 cl) := cell_of_heap HN1.out rfl
  have e1 : w1.cell? ⟨w.heap.size, 1, none⟩ = some (.int .u64 sq) := cell_of_heap HN1.out rfl
  rcases HR with ⟨rfl, rfl⟩ | ⟨rfl, rfl⟩ | ⟨rfl, HR⟩
  · clear H1 H2 H3
    go_wp2
    go_ret
    exact ⟨rfl, by rw [HE.out]; simpa using HS1.out, grown_some bm HB1.out⟩
  · clear H1 H2 H3
    go_wp2
    go_ret
    exact ⟨rfl, by rw [HE.out]; simpa using HS1.out, grown_some bm HB1.out⟩
  · go_upto_region 4 with fail
    generalize hp6 : w.heap.size = p6 at *
    refine wp_region_noPanic ?_
    refine wp_region_held_drew (S := (fun w' => w'.cell? ⟨p6, 0, none⟩ = some (.int .i64 cl) ∧ w'.cell? ⟨p6, 1, none⟩ = some (.int .u64 sq))) (by kernel_rfl) ?_ (fun hHeld => ?_)
    · exact ⟨e0, e1⟩
    refine held_take (i := 0) (d := 21) (v := ?_) rfl rfl (by kernel_rfl) (by kernel_rfl) (by kernel_rfl) (fun _ _ _ h => h) (Or.inl ⟨by rfl, ?_⟩) hHeld ?_
    rotate_left
    · (intro w hSw; (try dsimp only at hSw); go_simp; all_goals (with_reducible rfl))
    try simp only [Act.put, List.setIfInBounds_toArray, List.set_cons_zero, List.set_cons_succ]
    refine held_take (i := 1) (d := 22) (v := ?_) rfl rfl (by kernel_rfl) (by kernel_rfl) (by kernel_rfl) (fun _ _ _ h => h) (Or.inl ⟨by rfl, ?_⟩) hHeld ?_
    rotate_left
    · (intro w hSw; (try dsimp only at hSw); go_simp; all_goals (with_reducible rfl))
    try simp only [Act.put, List.setIfInBounds_toArray, List.set_cons_zero, List.set_cons_succ]
    refine held_take (i := 4) (d := 25) (v := ?_) rfl rfl (by kernel_rfl) (by kernel_rfl) (by kernel_rfl) (fun _ _ _ h => h) (Or.inl ⟨by rfl, ?_⟩) hHeld ?_
    rotate_left
    · (intro w hSw; (try dsimp only at hSw); go_simp; all_goals (with_reducible rfl))
    try simp only [Act.put, List.setIfInBounds_toArray, List.set_cons_zero, List.set_cons_succ]
    refine held_take (i := 5) (d := 26) (v := ?_) rfl rfl (by kernel_rfl) (by kernel_rfl) (by kernel_rfl) (fun _ _ _ h => h) (Or.inl ⟨by rfl, ?_⟩) hHeld ?_
    rotate_left
    · (intro w hSw; (try dsimp only at hSw); go_simp; all_goals (with_reducible rfl))
    try simp only [Act.put, List.setIfInBounds_toArray, List.set_cons_zero, List.set_cons_succ]
    refine held_take (i := 6) (d := 27) (v := ?_) rfl rfl (by kernel_rfl) (by kernel_rfl) (by kernel_rfl) (fun _ _ _ h => h) (Or.inl ⟨by rfl, ?_⟩) hHeld ?_
    rotate_left
    · (intro w hSw; (try dsimp only at hSw); go_simp; all_goals (with_reducible rfl))
    try simp only [Act.put, List.setIfInBounds_toArray, List.set_cons_zero, List.set_cons_succ]
    refine wpAnyH_ready (rs := [2]) (by kernel_rfl) (by simp) ?_
    refine AllReadyH.cons rfl (fun K hK => ?_) AllReadyH.nil
    go_simp
    have h1 := H1.out _ (HS1.out.later (Below.refl _ _).drew)
    refine h1.mono ?_
    clear h1
    rintro e w2 ⟨rfl, hb2⟩
    have HN2 : Hid (w2.heap[p6]? = some (.cells #[.int .i64 cl, .int .u64 sq] 25)) := keep_cells hb2 HN1.out
    have HB2 : Hid (Below p6 w w2) := HB1.out.drew.trans (hb2.mono (by have := HB1.out.size; simp only [World.size_drew]; omega))
    have HS2 : Hid (Se w2 g bm L) := (HS1.out.later (Below.refl _ _).drew).later hb2
    have h2 := H2.out _ HS2.out
    clear hb2 HB1 HN1 HS1 H1 H2 e0 e1
    have e0 : w2.cell? ⟨p6, 0, none⟩ = some (.int .i64 cl) := cell_of_heap HN2.out rfl
    have e1 : w2.cell? ⟨p6, 1, none⟩ = some (.int .u64 sq) := cell_of_heap HN2.out rfl
    go_wp2_with fail
    refine hK.out _ _ ?_ (fun hHeld => ?_)
    · exact ⟨e0, e1⟩
    clear hK K
    try simp only [Act.put, List.setIfInBounds_toArray, List.set_cons_zero, List.set_cons_succ]
    refine held_take (i := 3) (d := 24) (v := ?_) rfl rfl (by kernel_rfl) (by kernel_rfl) (by kernel_rfl) (fun _ _ _ h => h) (Or.inl ⟨by rfl, ?_⟩) hHeld ?_
    rotate_left
    · (intro w hSw; (try dsimp only at hSw); go_simp; all_goals (with_reducible rfl))
    try simp only [Act.put, List.setIfInBounds_toArray, List.set_cons_zero, List.set_cons_succ]
    refine wpAnyH_ready (rs := [7]) (by kernel_rfl) (by simp) ?_
    refine AllReadyH.cons rfl (fun K hK => ?_) AllReadyH.nil
    go_simp
    refine h2.mono ?_
    clear h2
    rintro e w3 ⟨rfl, hw3⟩
    subst w3
    go_wp2_with fail
    refine hK.out _ _ ?_ (fun hHeld => ?_)
    · exact ⟨e0, e1⟩
    clear hK K
    try simp only [Act.put, List.setIfInBounds_toArray, List.set_cons_zero, List.set_cons_succ]
    refine held_take (i := 8) (d := 12) (v := ?_) rfl rfl (by kernel_rfl) (by kernel_rfl) (by kernel_rfl) (fun _ _ _ h => h) (Or.inl ⟨by rfl, ?_⟩) hHeld ?_
    rotate_left
    · (intro w hSw; (try dsimp only at hSw); go_simp; all_goals (with_reducible rfl))
    try simp only [Act.put, List.setIfInBounds_toArray, List.set_cons_zero, List.set_cons_succ]
    refine held_take (i := 9) (d := 13) (v := ?_) rfl rfl (by kernel_rfl) (by kernel_rfl) (by kernel_rfl) (fun _ _ _ h => h) (Or.inl ⟨by rfl, ?_⟩) hHeld ?_
    rotate_left
    · (intro w hSw; (try dsimp only at hSw); go_simp; all_goals (with_reducible rfl))
    try simp only [Act.put, List.setIfInBounds_toArray, List.set_cons_zero, List.set_cons_succ]
    refine wpAnyH_done (by kernel_rfl) ?_ _
    refine NoPanic.normal ?_
    have HB3 : Hid (Below w.heap.size w w2) := by rw [hp6]; exact HB2.out
    rcases HR with ⟨rfl, rfl, rfl⟩ | ⟨rfl, rfl, rfl⟩ | ⟨rfl, rfl, rfl⟩ | ⟨rfl, rfl, rfl⟩
    · have h3 := H3.out _ HS2.out
      clear H3
      go_wp2_with fail
      refine h3.mono ?_
      clear h3
      rintro e w3 ⟨rfl, hS3, hg3⟩
      have HS3 : Hid (Se w3 g bm L') := by rw [Hid, HE.out]; simpa using hS3
      have HG3 : Hid (w.grownBy w3 (some bm)) := grown_trans (grown_some bm HB3.out) hg3
      clear hS3 hg3
      go_wp2
      go_ret
      exact ⟨rfl, HS3.out, HG3.out⟩
    · go_wp2
      go_ret
      exact ⟨rfl, by rw [HE.out]; simpa using HS2.out, grown_some bm HB3.out⟩
    · go_wp2
      go_ret
      exact ⟨rfl, by rw [HE.out]; simpa using HS2.out, grown_some bm HB3.out⟩
    · have h3 := H3.out _ HS2.out
      clear H3
      go_wp2_with fail
      refine h3.mono ?_
      clear h3
      rintro e w3 ⟨rfl, hS3, hg3⟩
      have HS3 : Hid (Se w3 g bm L') := by rw [Hid, HE.out]; simpa using hS3
      have HG3 : Hid (w.grownBy w3 (some bm)) := grown_trans (grown_some bm HB3.out) hg3
      clear hS3 hg3
      go_wp2
      go_ret
      exact ⟨rfl, HS3.out, HG3.out⟩
end Go.Proofs.Ytophkidigajliaa
