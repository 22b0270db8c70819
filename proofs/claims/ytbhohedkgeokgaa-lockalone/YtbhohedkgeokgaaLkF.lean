/- What is kept of a span that is freed: a contract. -/
import Derived.Test.YtbhohedkgeokgaaLkE
import Derived.Deep.Cut
namespace Go.Proofs.Ytbhohedkgeokgaa
open Go Go.RowKit
set_option linter.unusedVariables false
set_option linter.unusedSimpArgs false

theorem ownBlock_58 {w : World} {base : Nat} {v : Value} {n : Nat} {xs : List Value} (h : w.ownsRow base 58 6 v n xs) : ∀ k, v.ownBlock = some k → base ≤ k ∧ k < w.heap.size ∧ tagOf w k = some 58 := by
  intro k hk
  rcases h.2 with ⟨rfl, _⟩ | ⟨g, cap, cur, rfl, hg, hh, _⟩
  · cases hk
  · simp only [Value.ownBlock, Option.some.injEq] at hk
    subst hk
    exact ⟨hg, (Array.getElem?_eq_some_iff.1 hh).1, tagOf_heap hh⟩
theorem owns_slice {w : World} {base : Nat} {e : TypeId} {size : Nat} {v : Value} {n : Nat} {xs : List Value} (h : w.ownsRow base e size v n xs) : ∃ a n c, v = .slice a n c := by
  rcases h.2 with ⟨rfl, _⟩ | ⟨g, cap, cur, rfl, _⟩
  · exact ⟨_, _, _, rfl⟩
  · exact ⟨_, _, _, rfl⟩
/-- a store into a table's cell -/
theorem three_set1 {w : World} {g : Nat} {a b c x : Value} {t : TypeId} (h : w.heap[g]? = some (.cells #[a, b, c] t (0, 0))) : (w.setCell ⟨g, 1, none⟩ x).heap[g]? = some (.cells #[a, x, c] t (0, 0)) := heap_setCell_same _ _ _ _ _ _ h
theorem three_set0 {w : World} {g : Nat} {a b c x : Value} {t : TypeId} (h : w.heap[g]? = some (.cells #[a, b, c] t (0, 0))) : (w.setCell ⟨g, 0, none⟩ x).heap[g]? = some (.cells #[x, b, c] t (0, 0)) := heap_setCell_same _ _ _ _ _ _ h
theorem three_set2 {w : World} {g : Nat} {a b c x : Value} {t : TypeId} (h : w.heap[g]? = some (.cells #[a, b, c] t (0, 0))) : (w.setCell ⟨g, 2, none⟩ x).heap[g]? = some (.cells #[a, b, x] t (0, 0)) := heap_setCell_same _ _ _ _ _ _ h

/-- one span more in the list of those that were freed: memory -/
theorem Tb.put_freed {w w1 : World} {base g : Nat} {H F : List Spn} {last : Int} {hv fv v : Value} {s : Spn} (h0 : w.heap[g]? = some (.cells #[hv, fv, .int .i64 last] 54 (0, 0))) (hlo : base ≤ g) (h1 : SpO w base hv H) (h2 : SpO w base fv F) (h3 : ∀ k, hv.ownBlock = some k → fv.ownBlock ≠ some k)
    (k1 : SR w s.rv s.rd) (k2 : SR w s.wv s.wr) (hw : w1.ownsRow base 58 6 v (F ++ [s]).length ((F ++ [s]).flatMap Spn.cells)) (hg : w.grownBy w1 fv.ownBlock) (hb : v.ownBlock = fv.ownBlock ∨ v.ownBlock = some w.heap.size) :
    Tb (w1.setCell ⟨g, 1, none⟩ v) base g H (F ++ [s]) last ∧ Fr base [54, 58] w (w1.setCell ⟨g, 1, none⟩ v) := by
  have hgl := (Array.getElem?_eq_some_iff.1 h0).1
  have hgf : some g ≠ fv.ownBlock := by
    intro e
    have := (ownBlock_58 h2.own g e.symm).2.2
    rw [tagOf_heap h0] at this
    cases this
  have h0' : w1.heap[g]? = some (.cells #[hv, fv, .int .i64 last] 54 (0, 0)) := (hg.block g hgl hgf).trans h0
  have f1 : Fr base [54, 58] w w1 := Fr.grown hg (fun k hk => ⟨(ownBlock_58 h2.own k hk).1, 58, by simp, (ownBlock_58 h2.own k hk).2.2⟩)
  have f2 : Fr base [54] w1 (w1.setCell ⟨g, 1, none⟩ v) := Fr.setCell v hlo (t := 54) (by simp) (tagOf_heap h0')
  have hH : w1.ownsRow base 58 6 hv H.length (H.flatMap Spn.cells) := World.ownsRow.kept h1.own hg (by
    cases e : hv.ownBlock with
    | none => exact .inl rfl
    | some k => exact .inr (fun e2 => h3 k e e2.symm))
  refine ⟨⟨hlo, hv, v, three_set1 h0', ⟨f2.owns hH (by simp), fun t ht => ?_⟩, ⟨f2.owns hw (by simp), fun t ht => ?_⟩, fun k hk e => ?_⟩, f1.trans (f2.sub (by simp))⟩
  · exact ⟨((h1.keys t ht).1.fr f1 (by simp)).fr f2 (by simp), ((h1.keys t ht).2.fr f1 (by simp)).fr f2 (by simp)⟩
  · rcases List.mem_append.1 ht with ht | ht
    · exact ⟨((h2.keys t ht).1.fr f1 (by simp)).fr f2 (by simp), ((h2.keys t ht).2.fr f1 (by simp)).fr f2 (by simp)⟩
    · simp at ht
      subst ht
      exact ⟨(k1.fr f1 (by simp)).fr f2 (by simp), (k2.fr f1 (by simp)).fr f2 (by simp)⟩
  · rcases hb with hb | hb
    · exact h3 k hk (hb ▸ e)
    · rw [hb] at e
      simp only [Option.some.injEq] at e
      have := (ownBlock_58 h1.own k hk).2.1
      omega

set_option maxRecDepth 100000 in
set_option maxHeartbeats 4000000 in
theorem keep_any (base g : Nat) (H F : List Spn) (last : Int) (s : Spn) (till : Int) (w : World) (h : Tb w base g H F last) (k1 : SR w s.rv s.rd) (k2 : SR w s.wv s.wr) (hlen : F.length ≤ 1000) (hbase : base ≤ w.heap.size) :
    Calls Try.prog 31 #[.pointer (some ⟨g, 0, none⟩), s.value, .int .i64 till] w fun e w' => e = .returned (.tuple #[]) ∧ Tb w' base g H (keepF F s till) last ∧ Fr base [54, 58] w w' := by
  obtain ⟨id, at_, tl, rd, wr, rv, wv⟩ := s
  simp only at k1 k2
  obtain ⟨ra, rc, rfl, -⟩ := k1.slice
  obtain ⟨wa, wc, rfl, -⟩ := k2.slice
  obtain ⟨ha, hc, fa, fc, h1, h2, h3, -, -, -, h4⟩ := h.cells
  have hfb : ∀ k, (Value.slice fa F.length fc).ownBlock = some k → k < w.heap.size := fun k hk => (ownBlock_58 h3.own k hk).2.1
  have hw0 : Below w.heap.size w (w.alloc (.cells #[.int .i64 id.1, .int .u64 id.2, .int .i64 at_, .int .i64 tl, .slice ra rd.length rc, .slice wa wr.length wc] 58)) := (Below.refl _ _).alloc (Nat.le_refl _) _
  have hn := heap_alloc_new w (.cells #[.int .i64 id.1, .int .u64 id.2, .int .i64 at_, .int .i64 tl, .slice ra rd.length rc, .slice wa wr.length wc] 58)
  have HT1 : Hid (Tb (w.alloc (.cells #[.int .i64 id.1, .int .u64 id.2, .int .i64 at_, .int .i64 tl, .slice ra rd.length rc, .slice wa wr.length wc] 58)) base g H F last) := h.later hw0
  have HK2 : Hid (SR (w.alloc (.cells #[.int .i64 id.1, .int .u64 id.2, .int .i64 at_, .int .i64 tl, .slice ra rd.length rc, .slice wa wr.length wc] 58)) (.slice wa wr.length wc) wr) := k2.later hw0
  have hfew := k2.few
  by_cases hz : wr.length = 0
  · have HF : Hid (keepF F ⟨id, at_, tl, rd, wr, .slice ra rd.length rc, .slice wa wr.length wc⟩ till = F) := by
      unfold keepF
      rw [Hid, if_pos (List.length_eq_zero_iff.1 hz)]
    have HB : Hid (Below w.heap.size w (w.alloc (.cells #[.int .i64 id.1, .int .u64 id.2, .int .i64 at_, .int .i64 tl, .slice ra rd.length rc, .slice wa wr.length wc] 58))) := hw0
    have hzb : ((wr.length : Int) == 0) = true := by simp [hz]
    clear h h1 h2 h3 h4 hfb k1 k2 hw0 hz hn hfew
    go_enter Try.func31, Try.ntmps31
    go_wp2
    refine bodyPost_ret (results_none rfl _ _ _) rfl ?_
    exact ⟨rfl, by rw [HF.out]; exact HT1.out, Fr.of HB.out⟩
  · have HF : Hid (keepF F ⟨id, at_, tl, rd, wr, .slice ra rd.length rc, .slice wa wr.length wc⟩ till = F ++ [⟨id, at_, till, [], wr, .slice none 0 0, .slice wa wr.length wc⟩]) := by
      unfold keepF
      rw [Hid, if_neg (show ¬ wr = [] from fun e => hz (by rw [e]; rfl))]
      rfl
    have HB : Hid (Below w.heap.size w (w.alloc (.cells #[.int .i64 id.1, .int .u64 id.2, .int .i64 at_, .int .i64 tl, .slice ra rd.length rc, .slice wa wr.length wc] 58))) := hw0
    have hsz : w.heap.size < (w.alloc (.cells #[.int .i64 id.1, .int .u64 id.2, .int .i64 at_, .int .i64 tl, .slice ra rd.length rc, .slice wa wr.length wc] 58)).heap.size := by simp
    have HH : Hid ((w.alloc (.cells #[.int .i64 id.1, .int .u64 id.2, .int .i64 at_, .int .i64 tl, .slice ra rd.length rc, .slice wa wr.length wc] 58)).heap[g]? = some (.cells #[.slice ha H.length hc, .slice fa F.length fc, .int .i64 last] 54 (0, 0)) ∧ SpO (w.alloc (.cells #[.int .i64 id.1, .int .u64 id.2, .int .i64 at_, .int .i64 tl, .slice ra rd.length rc, .slice wa wr.length wc] 58)) base (.slice ha H.length hc) H ∧ SpO (w.alloc (.cells #[.int .i64 id.1, .int .u64 id.2, .int .i64 at_, .int .i64 tl, .slice ra rd.length rc, .slice wa wr.length wc] 58)) base (.slice fa F.length fc) F ∧ (∀ k, (Value.slice ha H.length hc).ownBlock = some k → (Value.slice fa F.length fc).ownBlock ≠ some k)) := ⟨(hw0.block g (Array.getElem?_eq_some_iff.1 h1).1).trans h1, h2.later hw0, h3.later hw0, h4⟩
    have HFB : Hid (∀ k, (Value.slice fa F.length fc).ownBlock = some k → k < w.heap.size) := hfb
    have hzb : ((wr.length : Int) == 0) = false := by simp; intro e; exact hz (by rw [e]; rfl)
    clear h h1 h2 h3 h4 hfb k1 k2 hw0 hz hfew
    go_enter Try.func31, Try.ntmps31
    go_wp2_with fail
    clear hzb
    generalize w.alloc (.cells #[.int .i64 id.1, .int .u64 id.2, .int .i64 at_, .int .i64 tl, .slice ra rd.length rc, .slice wa wr.length wc] 58) = w1 at *
    have p0 : w1.cell? ⟨w.heap.size, 0, none⟩ = some (.int .i64 id.1) := cell_of_heap hn rfl
    have p1 : w1.cell? ⟨w.heap.size, 1, none⟩ = some (.int .u64 id.2) := cell_of_heap hn rfl
    have p2 : w1.cell? ⟨w.heap.size, 2, none⟩ = some (.int .i64 at_) := cell_of_heap hn rfl
    have p5 : w1.cell? ⟨w.heap.size, 5, none⟩ = some (.slice wa wr.length wc) := cell_of_heap hn rfl
    have HLO : Hid (base ≤ g) := HT1.out.lo
    have c1 : w1.cell? ⟨g, 1, none⟩ = some (.slice fa F.length fc) := cell_of_heap HH.out.1 rfl
    clear hn HT1
    refine wp_region_noPanic ?_
    refine wp_region_lets 17 (fun w' => w'.cell? ⟨g, 1, none⟩ = some (.slice fa F.length fc) ∧ w'.cell? ⟨w.heap.size, 0, none⟩ = some (.int .i64 id.1) ∧ w'.cell? ⟨w.heap.size, 1, none⟩ = some (.int .u64 id.2) ∧ w'.cell? ⟨w.heap.size, 2, none⟩ = some (.int .i64 at_) ∧ w'.cell? ⟨w.heap.size, 5, none⟩ = some (.slice wa wr.length wc)) (by kernel_rfl) ?_ (fun hHeld => ?_)
    · exact ⟨c1, p0, p1, p2, p5⟩
    refine lets_take (i := 0) (d := 10) (v := ?_) rfl rfl (by kernel_rfl) (by kernel_rfl) (by kernel_rfl) (by kernel_rfl) (fun _ _ _ h => h) (Or.inl ⟨by rfl, ?_⟩) hHeld ?_
    rotate_left
    · (intro w hSw; (try dsimp only at hSw); go_simp; all_goals (with_reducible rfl))
    try simp only [Act.put, List.setIfInBounds_toArray, List.set_cons_zero, List.set_cons_succ]
    refine lets_take (i := 1) (d := 11) (v := ?_) rfl rfl (by kernel_rfl) (by kernel_rfl) (by kernel_rfl) (by kernel_rfl) (fun _ _ _ h => h) (Or.inl ⟨by rfl, ?_⟩) hHeld ?_
    rotate_left
    · (intro w hSw; (try dsimp only at hSw); go_simp; all_goals (with_reducible rfl))
    try simp only [Act.put, List.setIfInBounds_toArray, List.set_cons_zero, List.set_cons_succ]
    refine lets_take (i := 2) (d := 12) (v := ?_) rfl rfl (by kernel_rfl) (by kernel_rfl) (by kernel_rfl) (by kernel_rfl) (fun _ _ _ h => h) (Or.inl ⟨by rfl, ?_⟩) hHeld ?_
    rotate_left
    · (intro w hSw; (try dsimp only at hSw); go_simp; all_goals (with_reducible rfl))
    try simp only [Act.put, List.setIfInBounds_toArray, List.set_cons_zero, List.set_cons_succ]
    refine lets_take (i := 3) (d := 13) (v := ?_) rfl rfl (by kernel_rfl) (by kernel_rfl) (by kernel_rfl) (by kernel_rfl) (fun _ _ _ h => h) (Or.inl ⟨by rfl, ?_⟩) hHeld ?_
    rotate_left
    · (intro w hSw; (try dsimp only at hSw); go_simp; all_goals (with_reducible rfl))
    try simp only [Act.put, List.setIfInBounds_toArray, List.set_cons_zero, List.set_cons_succ]
    refine lets_take (i := 4) (d := 14) (v := ?_) rfl rfl (by kernel_rfl) (by kernel_rfl) (by kernel_rfl) (by kernel_rfl) (fun _ _ _ h => h) (Or.inl ⟨by rfl, ?_⟩) hHeld ?_
    rotate_left
    · (intro w hSw; (try dsimp only at hSw); go_simp; all_goals (with_reducible rfl))
    try simp only [Act.put, List.setIfInBounds_toArray, List.set_cons_zero, List.set_cons_succ]
    refine lets_take (i := 5) (d := 15) (v := ?_) rfl rfl (by kernel_rfl) (by kernel_rfl) (by kernel_rfl) (by kernel_rfl) (fun _ _ _ h => h) (Or.inl ⟨by rfl, ?_⟩) hHeld ?_
    rotate_left
    · (intro w hSw; (try dsimp only at hSw); go_simp; all_goals (with_reducible rfl))
    try simp only [Act.put, List.setIfInBounds_toArray, List.set_cons_zero, List.set_cons_succ]
    refine lets_take (i := 6) (d := 16) (v := ?_) rfl rfl (by kernel_rfl) (by kernel_rfl) (by kernel_rfl) (by kernel_rfl) (fun _ _ _ h => h) (Or.inl ⟨by rfl, ?_⟩) hHeld ?_
    rotate_left
    · (intro w hSw; (try dsimp only at hSw); go_simp; all_goals (with_reducible rfl))
    try simp only [Act.put, List.setIfInBounds_toArray, List.set_cons_zero, List.set_cons_succ]
    refine lets_take (i := 7) (d := 17) (v := ?_) rfl rfl (by kernel_rfl) (by kernel_rfl) (by kernel_rfl) (by kernel_rfl) (fun _ _ _ h => h) (Or.inl ⟨by rfl, ?_⟩) hHeld ?_
    rotate_left
    · (intro w hSw; (try dsimp only at hSw); go_simp; all_goals (with_reducible rfl))
    try simp only [Act.put, List.setIfInBounds_toArray, List.set_cons_zero, List.set_cons_succ]
    refine lets_take (i := 8) (d := 18) (v := ?_) rfl rfl (by kernel_rfl) (by kernel_rfl) (by kernel_rfl) (by kernel_rfl) (fun _ _ _ h => h) (Or.inl ⟨by rfl, ?_⟩) hHeld ?_
    rotate_left
    · (intro w hSw; (try dsimp only at hSw); go_simp; all_goals (with_reducible rfl))
    try simp only [Act.put, List.setIfInBounds_toArray, List.set_cons_zero, List.set_cons_succ]
    refine lets_take (i := 9) (d := 19) (v := ?_) rfl rfl (by kernel_rfl) (by kernel_rfl) (by kernel_rfl) (by kernel_rfl) (fun _ _ _ h => h) (Or.inl ⟨by rfl, ?_⟩) hHeld ?_
    rotate_left
    · (intro w hSw; (try dsimp only at hSw); go_simp; all_goals (with_reducible rfl))
    try simp only [Act.put, List.setIfInBounds_toArray, List.set_cons_zero, List.set_cons_succ]
    refine lets_take (i := 10) (d := 20) (v := ?_) rfl rfl (by kernel_rfl) (by kernel_rfl) (by kernel_rfl) (by kernel_rfl) (fun _ _ _ h => h) (Or.inl ⟨by rfl, ?_⟩) hHeld ?_
    rotate_left
    · (intro w hSw; (try dsimp only at hSw); go_simp; all_goals (with_reducible rfl))
    try simp only [Act.put, List.setIfInBounds_toArray, List.set_cons_zero, List.set_cons_succ]
    refine lets_take (i := 11) (d := 21) (v := ?_) rfl rfl (by kernel_rfl) (by kernel_rfl) (by kernel_rfl) (by kernel_rfl) (fun _ _ _ h => h) (Or.inl ⟨by rfl, ?_⟩) hHeld ?_
    rotate_left
    · (intro w hSw; (try dsimp only at hSw); go_simp; all_goals (with_reducible rfl))
    try simp only [Act.put, List.setIfInBounds_toArray, List.set_cons_zero, List.set_cons_succ]
    refine lets_take (i := 12) (d := 22) (v := ?_) rfl rfl (by kernel_rfl) (by kernel_rfl) (by kernel_rfl) (by kernel_rfl) (fun _ _ _ h => h) (Or.inl ⟨by rfl, ?_⟩) hHeld ?_
    rotate_left
    · (intro w hSw; (try dsimp only at hSw); go_simp; all_goals (with_reducible rfl))
    try simp only [Act.put, List.setIfInBounds_toArray, List.set_cons_zero, List.set_cons_succ]
    refine lets_one (i := 13) (by kernel_rfl) rfl (fun K hK => ?_)
    go_simp
    have b2 : Below w1.heap.size w1 ((w1.alloc (.cells #[.int .i64 id.1, .int .u64 id.2, .int .i64 at_, .int .i64 till, .slice none 0 0, .slice wa wr.length wc] 58)).drew) := ((Below.refl _ _).alloc (Nat.le_refl _) _).drew
    refine hK.out _ _ ?_ (fun hHeld => ?_)
    · exact fun _ => ⟨cell_later b2 c1, cell_later b2 p0, cell_later b2 p1, cell_later b2 p2, cell_later b2 p5⟩
    replace hHeld := hHeld (by decide)
    clear hK K
    try simp only [Act.put, List.setIfInBounds_toArray, List.set_cons_zero, List.set_cons_succ]
    have hn2 := heap_alloc_new w1 (.cells #[.int .i64 id.1, .int .u64 id.2, .int .i64 at_, .int .i64 till, .slice none 0 0, .slice wa wr.length wc] 58)
    obtain ⟨d1, q0, q1, q2, q5⟩ := hHeld
    have hown : ((w1.alloc (.cells #[.int .i64 id.1, .int .u64 id.2, .int .i64 at_, .int .i64 till, .slice none 0 0, .slice wa wr.length wc] 58)).drew).ownsRow base 58 6 (.slice fa F.length fc) F.length (F.flatMap Spn.cells) := (HH.out.2.2.1.later b2).own
    have HH2 : Hid (((w1.alloc (.cells #[.int .i64 id.1, .int .u64 id.2, .int .i64 at_, .int .i64 till, .slice none 0 0, .slice wa wr.length wc] 58)).drew).heap[g]? = some (.cells #[.slice ha H.length hc, .slice fa F.length fc, .int .i64 last] 54 (0, 0)) ∧ SpO ((w1.alloc (.cells #[.int .i64 id.1, .int .u64 id.2, .int .i64 at_, .int .i64 till, .slice none 0 0, .slice wa wr.length wc] 58)).drew) base (.slice ha H.length hc) H ∧ SpO ((w1.alloc (.cells #[.int .i64 id.1, .int .u64 id.2, .int .i64 at_, .int .i64 till, .slice none 0 0, .slice wa wr.length wc] 58)).drew) base (.slice fa F.length fc) F) := ⟨(b2.block g (Array.getElem?_eq_some_iff.1 HH.out.1).1).trans HH.out.1, HH.out.2.1.later b2, HH.out.2.2.1.later b2⟩
    have HK3 : Hid (SR ((w1.alloc (.cells #[.int .i64 id.1, .int .u64 id.2, .int .i64 at_, .int .i64 till, .slice none 0 0, .slice wa wr.length wc] 58)).drew) (.slice wa wr.length wc) wr) := HK2.out.later b2
    have hsz2 : base ≤ ((w1.alloc (.cells #[.int .i64 id.1, .int .u64 id.2, .int .i64 at_, .int .i64 till, .slice none 0 0, .slice wa wr.length wc] 58)).drew).heap.size := by have := b2.size; omega
    have HB2 : Hid (Fr base [54, 58] w ((w1.alloc (.cells #[.int .i64 id.1, .int .u64 id.2, .int .i64 at_, .int .i64 till, .slice none 0 0, .slice wa wr.length wc] 58)).drew)) := (Fr.of HB.out).trans (Fr.of b2)
    clear b2
    have hu1 := Spn.one (s := ⟨id, at_, till, [], wr, .slice none 0 0, .slice wa wr.length wc⟩) (SR.nil _) HK3.out
    have hc2 := news_one Spn.cells ⟨id, at_, till, [], wr, .slice none 0 0, .slice wa wr.length wc⟩ hn2 rfl
    skip
    refine lets_one (i := 14) (by kernel_rfl) rfl (fun K hK => ?_)
    refine step_append_els Spn.cells 6 80 52 58 _ Try.underlying52 Try.info_58 rfl (by decide) (fun _ => rfl) (by decide) rfl _ _ rfl base _ F rfl hown ⟨w1.heap.size, 0, none⟩ 1 1 [⟨id, at_, till, [], wr, .slice none 0 0, .slice wa wr.length wc⟩] rfl rfl hc2 hu1 (by decide) (by omega) hsz2 ?_
    intro v2 w2 ho2 hg2 hv2
    obtain ⟨va, vn, vc, rfl⟩ := owns_slice ho2
    obtain ⟨hT, hF⟩ := Tb.put_freed (s := ⟨id, at_, till, [], wr, .slice none 0 0, .slice wa wr.length wc⟩) HH2.out.1 HLO.out HH2.out.2.1 HH2.out.2.2 HH.out.2.2.2 (SR.nil _) HK3.out ho2 hg2 hv2
    have nb : ∀ (k i : Nat) (u : Value), tagOf ((w1.alloc (.cells #[.int .i64 id.1, .int .u64 id.2, .int .i64 at_, .int .i64 till, .slice none 0 0, .slice wa wr.length wc] 58)).drew) k ≠ some 58 → ((w1.alloc (.cells #[.int .i64 id.1, .int .u64 id.2, .int .i64 at_, .int .i64 till, .slice none 0 0, .slice wa wr.length wc] 58)).drew).cell? ⟨k, i, none⟩ = some u → w2.cell? ⟨k, i, none⟩ = some u := fun k i u ht hu => hg2.cell hu (fun e => ht (ownBlock_58 hown k e.symm).2.2)
    have r0 : w2.cell? ⟨g, 1, none⟩ = some (.slice fa F.length fc) := nb g 1 _ (by rw [tagOf_heap HH2.out.1]; simp) d1
    have nb2 : ∀ i u, ((w1.alloc (.cells #[.int .i64 id.1, .int .u64 id.2, .int .i64 at_, .int .i64 till, .slice none 0 0, .slice wa wr.length wc] 58)).drew).cell? ⟨w.heap.size, i, none⟩ = some u → w2.cell? ⟨w.heap.size, i, none⟩ = some u := fun i u hu => hg2.cell hu (fun e => Nat.lt_irrefl _ (HFB.out _ e.symm))
    have g2 : w2.heap[g]? = some (.cells #[.slice ha H.length hc, .slice fa F.length fc, .int .i64 last] 54 (0, 0)) := (hg2.block g (Array.getElem?_eq_some_iff.1 HH2.out.1).1 (fun e => by have := (ownBlock_58 hown g e.symm).2.2; rw [tagOf_heap HH2.out.1] at this; cases this)).trans HH2.out.1
    have f2 : w2.frozen? ⟨g, 1, none⟩ = false := frozen_of_row w2 _ _ _ _ g2
    have HT : Hid (Tb (w2.setCell ⟨g, 1, none⟩ (.slice va vn vc)) base g H (keepF F ⟨id, at_, tl, rd, wr, .slice ra rd.length rc, .slice wa wr.length wc⟩ till) last ∧ Fr base [54, 58] w (w2.setCell ⟨g, 1, none⟩ (.slice va vn vc))) := ⟨by rw [HF.out]; exact hT, HB2.out.trans hF⟩
    refine hK.out _ _ ?_ (fun hHeld => ?_)
    · exact fun _ => ⟨r0, nb2 _ _ q0, nb2 _ _ q1, nb2 _ _ q2, nb2 _ _ q5⟩
    replace hHeld := hHeld (by decide)
    clear hK K
    try simp only [Act.put, List.setIfInBounds_toArray, List.set_cons_zero, List.set_cons_succ]
    clear hT hF nb nb2 ho2 hg2 hv2 hown hc2 hu1
    refine lets_one (i := 15) (by kernel_rfl) rfl (fun K hK => ?_)
    go_simp
    refine hK.out _ _ ?_ (fun hHeld => ?_)
    · exact fun _ => hHeld
    replace hHeld := hHeld (by decide)
    clear hK K
    try simp only [Act.put, List.setIfInBounds_toArray, List.set_cons_zero, List.set_cons_succ]
    refine lets_one (i := 16) (by kernel_rfl) rfl (fun K hK => ?_)
    go_simp
    refine hK.out _ _ ?_ (fun hHeld => ?_)
    · exact fun _ => hHeld
    replace hHeld := hHeld (by decide)
    clear hK K
    try simp only [Act.put, List.setIfInBounds_toArray, List.set_cons_zero, List.set_cons_succ]
    refine lets_one (i := 17) (by kernel_rfl) rfl (fun K hK => ?_)
    go_simp
    refine hK.out _ _ ?_ (fun hHeld => ?_)
    · exact fun h => absurd rfl h
    clear hK K
    try simp only [Act.put, List.setIfInBounds_toArray, List.set_cons_zero, List.set_cons_succ]
    refine lets_done (by kernel_rfl) ?_ _
    refine NoPanic.normal ?_
    go_wp2
    go_end0
    exact ⟨rfl, HT.out.1, HT.out.2⟩
end Go.Proofs.Ytbhohedkgeokgaa
