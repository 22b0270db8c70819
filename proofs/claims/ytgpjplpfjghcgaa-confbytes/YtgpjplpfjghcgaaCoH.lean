/- The law's configurations as the program's. -/
import Derived.Test.YtgpjplpfjghcgaaCoF
namespace Go.Proofs.Ytgpjplpfjghcgaa
open Go Go.RowKit
set_option linter.unusedVariables false
set_option linter.unusedSimpArgs false

theorem own_tag {w : World} {base : Nat} {e : TypeId} {v : Value} {xs : List Value} (h : OwnV w base e v xs) : ∀ k, v.ownBlock = some k → base ≤ k ∧ tagOf w k = some e := by
  obtain ⟨hl, h⟩ := h
  intro k hk
  rcases h with ⟨rfl, _⟩ | ⟨g, cap, cur, rfl, hg, hh, _⟩
  · simp [Value.ownBlock] at hk
  · simp [Value.ownBlock] at hk
    subst hk
    exact ⟨hg, tagOf_heap hh⟩
/-- 'append(x, y)': nothing else of another type is written -/
theorem wp_append_fr (t e : TypeId) (z : Value) (bytes : Nat) (hu : Try.prog.underlying t = some (.slice e)) (hinfo : (Try.prog.info? e).map (fun i => (i.zero, i.size, i.bytes)) = some (some z, 1, bytes)) (hz : z.cells.size = 1)
    {w : World} {ops : Array Oper} {rest : List Oper} {o : Oper} {a : Act} {Q : Exit → Act → World → Prop} (hgd : o.guard = none) (s x : Operand)
    (ho : o.op = .call { callee := .builtin .append, args := #[s, x], argTypes := #[t, t] })
    (base : Nat) (v : Value) (xs : List Value) (hs : a.eval s = v) (hown : OwnV w base e v xs)
    (ad : Addr) (c : Nat) (u : Value) (hx : a.eval x = .slice (some ad) 1 c) (hc : w.cell? ad = some u) (h1 : u.oneCell' = true)
    (hbytes : (xs.length + 1) * bytes ≤ 140737488355328) (hmany : xs.length ≤ 140737488355328) (hbase : base ≤ w.heap.size)
    (h : ∀ v' w', OwnV w' base e v' (xs ++ [u]) → Fr base [e] w w' → wpList Try.prog ops Q rest (a.put o.dst v') w') : wpList Try.prog ops Q (o :: rest) a w := by
  obtain ⟨i0, hi, hz0, hz1, hz2⟩ := info_parts hinfo
  refine wpList_append_own w hgd s x t ho base e i0 z 1 bytes hu hi hz0 hz1 hz2 hz (by decide) v _ _ hs hown ad 1 c [u] hx (by simp) ?_ (by simpa using h1) (by unfold maxLen; omega) hbytes hbase ?_
  · intro j y hj
    cases j with
    | zero => simp at hj; subst hj; rw [show ad.add 0 = ad from by simp [Addr.add]]; exact hc
    | succ j => simp at hj
  · intro v' w' h1 h2 _
    refine h v' w' ?_ (Fr.grown h2 (fun k hk => ⟨(own_tag hown k hk).1, e, by simp, (own_tag hown k hk).2⟩))
    show w'.ownsRow base e 1 v' (xs ++ [u]).length (xs ++ [u])
    rw [List.length_append]
    exact h1
theorem Fr.ownV {base b2 : Nat} {T : List Nat} {w w' : World} {e : TypeId} {v : Value} {xs : List Value} (h : Fr base T w w') (ho : OwnV w b2 e v xs) (he : e ∉ T) : OwnV w' b2 e v xs := h.owns ho he

/-- members that came in -/
def Mems (w : World) (a : Option Addr) (n : Nat) (M : Nat → Mb) : Prop :=
  n ≤ maxLen ∧ (n = 0 ∨ ∃ b off, a = some ⟨b, off, none⟩ ∧ ∀ i, i < n → w.cell? ⟨b, off + i * 2, none⟩ = some (.int .i64 (M i).1) ∧ w.cell? ⟨b, off + i * 2 + 1, none⟩ = some (.bool (M i).2))
theorem Mems.later {w wx : World} {a : Option Addr} {n : Nat} {M : Nat → Mb} (h : Mems w a n M) (hb : Below w.heap.size w wx) : Mems wx a n M := by
  refine ⟨h.1, ?_⟩
  rcases h.2 with h | ⟨b, off, e, hc⟩
  · exact .inl h
  · exact .inr ⟨b, off, e, fun i hi => ⟨cell_later hb (hc i hi).1, cell_later hb (hc i hi).2⟩⟩
theorem Mems.at {w : World} {a : Option Addr} {n : Nat} {M : Nat → Mb} (h : Mems w a n M) (hn : 0 < n) : ∃ b off, a = some ⟨b, off, none⟩ ∧ ∀ i, i < n → w.cell? ⟨b, off + i * 2, none⟩ = some (.int .i64 (M i).1) ∧ w.cell? ⟨b, off + i * 2 + 1, none⟩ = some (.bool (M i).2) := by
  rcases h.2 with h | h
  · omega
  · exact h
def fewM (n : Nat) (M : Nat → Mb) : List Mb := (List.range (min n 10)).map M
theorem fewM_length (n : Nat) (M : Nat → Mb) : (fewM n M).length = min n 10 := by simp [fewM]
theorem fewM_succ (k : Nat) (M : Nat → Mb) (h : k < 10) : fewM (k + 1) M = fewM k M ++ [M k] := by
  unfold fewM
  rw [show min k 10 = k by omega, show min (k + 1) 10 = k + 1 by omega, List.range_succ]
  simp
theorem fewM_more (k n : Nat) (M : Nat → Mb) (h : 10 ≤ k) (h2 : 10 ≤ n) : fewM k M = fewM n M := by
  unfold fewM
  rw [show min k 10 = min n 10 by omega]
/-- the configuration that the law makes of what came in -/
def inC (ep : Nat) (sh : Int) (n : Nat) (M : Nat → Mb) (le : Int) : Cf := ⟨ep, sh, fewM n M, le⟩
/-- on the way: the first k -/
structure Ou (w wr : World) (ep : Nat) (sh le : Int) (k : Nat) (M : Nat → Mb) : Prop where
  bel : Below w.heap.size w wr
  res : wr.heap[w.heap.size + 1]? = some (.cells #[.int .u64 0, .int .i64 0, .slice none 0 0, .slice none 0 0, .int .i64 0] 29)
  o : ∃ a1 n1 c1 a2 n2 c2, wr.heap[w.heap.size + 1 + 1]? = some (.cells (carr ep sh (.slice a1 n1 c1) (.slice a2 n2 c2) le) 29) ∧ OwnV wr w.heap.size 3 (.slice a1 n1 c1) ((fewM k M).map mi) ∧ OwnV wr w.heap.size 4 (.slice a2 n2 c2) ((fewM k M).map mb)

theorem Ou.later {w wr wx : World} {ep : Nat} {sh le : Int} {k : Nat} {M : Nat → Mb} (h : Ou w wr ep sh le k M) (hb : Below wr.heap.size wr wx) : Ou w wx ep sh le k M := by
  obtain ⟨h1, h2, a1, n1, c1, a2, n2, c2, h3, h4, h5⟩ := h
  exact ⟨h1.trans (hb.mono h1.size), heap_kept h2 hb, a1, n1, c1, a2, n2, c2, heap_kept h3 hb, h4.later hb, h5.later hb⟩
/-- a list put in place of another one -/
theorem heap_ne {w : World} {g k i : Nat} {u : Value} (h : k ≠ g) : (w.setCell ⟨g, i, none⟩ u).heap[k]? = w.heap[k]? := Below.heap_setCell _ _ _ _ h

set_option maxRecDepth 100000 in
set_option maxHeartbeats 4000000 in
theorem ours_any (ep : Nat) (sh le : Int) (a : Option Addr) (n c : Nat) (M : Nat → Mb) (w : World) (h : Mems w a n M) :
    Calls Try.prog 7 #[.agg #[.int .u64 (ep : Nat), .int .i64 sh, .slice a n c, .int .i64 le]] w fun e w' => (∃ v, e = .returned v ∧ Cfo w' w.heap.size v (inC ep sh n M le)) ∧ Below w.heap.size w w' := by
  have hn : n ≤ maxLen := h.1
  have HM : Hid (Mems w a n M) := h
  clear h
  unfold maxLen at hn
  go_enter Try.func7, Try.ntmps7
  go_wp2
  go_loopw [16] (fun i wr => ∃ k : Nat, k ≤ n ∧ i = .int .i64 (k : Nat) ∧ Hid (Ou w wr ep sh le k M)) (fun i _ => n - (intOf i).toNat)
  case atStart =>
    refine ⟨0, Nat.zero_le _, rfl, ((((Below.refl _ _).alloc (Nat.le_refl _) _).alloc (by simp) _).alloc (by simp; omega) _), ?_, none, 0, 0, none, 0, 0, ?_, OwnV.nil _ _ _, OwnV.nil _ _ _⟩
    · have := heap_alloc_new (w.alloc (.cells #[.int .u64 (ep : Nat), .int .i64 sh, .slice a n c, .int .i64 le] 25)) (.cells #[.int .u64 0, .int .i64 0, .slice none 0 0, .slice none 0 0, .int .i64 0] 29)
      rw [World.size_alloc] at this
      exact heap_kept this ((Below.refl _ _).alloc (Nat.le_refl _) _)
    · have := heap_alloc_new ((w.alloc (.cells #[.int .u64 (ep : Nat), .int .i64 sh, .slice a n c, .int .i64 le] 25)).alloc (.cells #[.int .u64 0, .int .i64 0, .slice none 0 0, .slice none 0 0, .int .i64 0] 29)) (.cells (carr ep sh (.slice none 0 0) (.slice none 0 0) le) 29)
      rw [World.size_alloc, World.size_alloc] at this
      exact this
  case round =>
    obtain ⟨k, hk, rfl, HO⟩ := hrel
    by_cases hlt : k < n
    · obtain ⟨b, off, rfl, hc⟩ := (HM.out.later HO.out.bel).at (by omega)
      obtain ⟨q0, q1⟩ := hc k hlt
      have HS : Hid (k < 10 → fewM (k + 1) M = fewM k M ++ [M k]) := fewM_succ k M
      clear hc
      generalize M k = m at q0 q1 HS
      obtain ⟨mx, mf⟩ := m
      simp only at q0 q1
      have hb1 : Below wr.heap.size wr (wr.alloc (.cells #[.int .i64 mx, .bool mf] 40)) := (Below.refl _ _).alloc (Nat.le_refl _) _
      have hd1 := heap_alloc_new wr (.cells #[.int .i64 mx, .bool mf] 40)
      have HO1 : Hid (Ou w (wr.alloc (.cells #[.int .i64 mx, .bool mf] 40)) ep sh le k M) := HO.out.later hb1
      by_cases h10 : k < 10
      · go_upto_region 6 with fail
        generalize wr.alloc (.cells #[.int .i64 mx, .bool mf] 40) = w1 at *
        clear hb1 HO q0 q1
        obtain ⟨hb, hr, a1, n1, c1, a2, n2, c2, hp, ho1, ho2⟩ := HO1.out
        have hn1 : ((fewM k M).map mi).length ≤ 10 := by simp [fewM_length]; omega
        have hn2 : ((fewM k M).map mb).length ≤ 10 := by simp [fewM_length]; omega
        have HO2 : Hid (OwnV w1 w.heap.size 4 (.slice a2 n2 c2) ((fewM k M).map mb)) := ho2
        have HD1 : Hid (w1.heap[wr.heap.size]? = some (.cells #[.int .i64 mx, .bool mf] 40)) := hd1
        have HP1 : Hid (w1.heap[w.heap.size + 1 + 1]? = some (.cells (carr ep sh (.slice a1 n1 c1) (.slice a2 n2 c2) le) 29)) := hp
        have HR1 : Hid (w1.heap[w.heap.size + 1]? = some (.cells #[.int .u64 0, .int .i64 0, .slice none 0 0, .slice none 0 0, .int .i64 0] 29)) := hr
        have HB1 : Hid (Below w.heap.size w w1) := hb
        have HW1 : Hid (OwnV w1 w.heap.size 3 (.slice a1 n1 c1) ((fewM k M).map mi)) := ho1
        obtain ⟨x0, x1, x2, x3, x4⟩ := five_cells hp
        have d0 : w1.cell? ⟨wr.heap.size, 0, none⟩ = some (.int .i64 mx) := cell_of_heap hd1 rfl
        clear ho1 ho2 hp hr hb hd1 HO1
        generalize wr.heap.size = pm at *
        go_upto_region 7 with (
          at_builtin
          refine wp_append_fr 26 3 _ 8 Try.underlying26 Try.info_3 rfl rfl _ _ rfl w.heap.size _ _ rfl (HW1.out.alloc _) _ _ (.int .i64 mx) rfl (by simp) rfl (by omega) (by omega) (by have := HB1.out.size; simp; omega) ?_
          intro v2 w2 ho3 hf2
          have hb2 : Below w1.heap.size w1 (w1.alloc (.cells #[.int .i64 mx] 3)) := (Below.refl _ _).alloc (Nat.le_refl _) _
          obtain ⟨a3, n3, c3, rfl⟩ := owns_slice ho3
          have hp2 : w2.heap[w.heap.size + 1 + 1]? = some (.cells (carr ep sh (.slice a1 n1 c1) (.slice a2 n2 c2) le) 29) := hf2.cells (heap_kept HP1.out hb2) (by decide)
          have HR2 : Hid (w2.heap[w.heap.size + 1]? = some (.cells #[.int .u64 0, .int .i64 0, .slice none 0 0, .slice none 0 0, .int .i64 0] 29)) := hf2.cells (heap_kept HR1.out hb2) (by decide)
          have HD2 : Hid (w2.heap[pm]? = some (.cells #[.int .i64 mx, .bool mf] 40)) := hf2.cells (heap_kept HD1.out hb2) (by decide)
          have HO2' : Hid (OwnV w2 w.heap.size 4 (.slice a2 n2 c2) ((fewM k M).map mb)) := hf2.ownV (HO2.out.later hb2) (by decide)
          have HB2 : Hid (Below w.heap.size w w2) := HB1.out.trans ((hb2.mono HB1.out.size).trans (hf2.below (by have := HB1.out.size; simp; omega)))
          have HP2 : Hid (w2.heap[w.heap.size + 1 + 1]? = some (.cells (carr ep sh (.slice a1 n1 c1) (.slice a2 n2 c2) le) 29)) := hp2
          have HW2 : Hid (OwnV w2 w.heap.size 3 (.slice a3 n3 c3) ((fewM k M).map mi ++ [.int .i64 mx])) := ho3
          clear ho3 hf2 hb2 hp2 x0 x1 x2 x3 x4 HB1 HP1 HR1 HD1 HO2 HW1 d0
          have e2 : w2.cell? ⟨w.heap.size + 1 + 1, 2, none⟩ = some (.slice a1 n1 c1) := cell_of_heap HP2.out rfl
          have f2 : w2.frozen? ⟨w.heap.size + 1 + 1, 2, none⟩ = false := frozen_of_row _ _ _ _ _ HP2.out)
        have HP3 : Hid ((w2.setCell ⟨w.heap.size + 1 + 1, 2, none⟩ (.slice a3 n3 c3)).heap[w.heap.size + 1 + 1]? = some (.cells (carr ep sh (.slice a3 n3 c3) (.slice a2 n2 c2) le) 29)) := heap_setCell_same _ _ _ _ _ _ HP2.out
        have HR3 : Hid ((w2.setCell ⟨w.heap.size + 1 + 1, 2, none⟩ (.slice a3 n3 c3)).heap[w.heap.size + 1]? = some (.cells #[.int .u64 0, .int .i64 0, .slice none 0 0, .slice none 0 0, .int .i64 0] 29)) := (heap_ne (by omega)).trans HR2.out
        have HD3 : Hid ((w2.setCell ⟨w.heap.size + 1 + 1, 2, none⟩ (.slice a3 n3 c3)).heap[pm]? = some (.cells #[.int .i64 mx, .bool mf] 40)) := (heap_ne (block_ne (tagOf_heap HD2.out) (tagOf_heap HP2.out) (by decide))).trans HD2.out
        have HW3 : Hid (OwnV (w2.setCell ⟨w.heap.size + 1 + 1, 2, none⟩ (.slice a3 n3 c3)) w.heap.size 3 (.slice a3 n3 c3) ((fewM k M).map mi ++ [.int .i64 mx]) ∧ OwnV (w2.setCell ⟨w.heap.size + 1 + 1, 2, none⟩ (.slice a3 n3 c3)) w.heap.size 4 (.slice a2 n2 c2) ((fewM k M).map mb)) := ⟨own_same HW2.out (fun k hk ht => heap_ne (tag_ne HP2.out (by decide) ht)), own_same HO2'.out (fun k hk ht => heap_ne (tag_ne HP2.out (by decide) ht))⟩
        have HB3 : Hid (Below w.heap.size w (w2.setCell ⟨w.heap.size + 1 + 1, 2, none⟩ (.slice a3 n3 c3))) := HB2.out.setCell (p := ⟨w.heap.size + 1 + 1, 2, none⟩) (by simp; omega) _
        generalize w2.setCell ⟨w.heap.size + 1 + 1, 2, none⟩ (.slice a3 n3 c3) = w3 at *
        clear e2 f2 HP2 HR2 HD2 HW2 HO2' HB2
        obtain ⟨x0, x1, x2, x3, x4⟩ := five_cells HP3.out
        have d1 : w3.cell? ⟨pm, 1, none⟩ = some (.bool mf) := cell_of_heap HD3.out rfl
        go_wp2_with (
          at_builtin
          refine wp_append_fr 27 4 _ 1 Try.underlying27 Try.info_4 rfl rfl _ _ rfl w.heap.size _ _ rfl (HW3.out.2.alloc _) _ _ (.bool mf) rfl (by simp) rfl (by omega) (by omega) (by have := HB3.out.size; simp; omega) ?_
          intro v4 w4 ho5 hf4
          have hb4 : Below w3.heap.size w3 (w3.alloc (.cells #[.bool mf] 4)) := (Below.refl _ _).alloc (Nat.le_refl _) _
          obtain ⟨a5, n5, c5, rfl⟩ := owns_slice ho5
          have HP4 : Hid (w4.heap[w.heap.size + 1 + 1]? = some (.cells (carr ep sh (.slice a3 n3 c3) (.slice a2 n2 c2) le) 29)) := hf4.cells (heap_kept HP3.out hb4) (by decide)
          have HR4 : Hid (w4.heap[w.heap.size + 1]? = some (.cells #[.int .u64 0, .int .i64 0, .slice none 0 0, .slice none 0 0, .int .i64 0] 29)) := hf4.cells (heap_kept HR3.out hb4) (by decide)
          have HO4 : Hid (OwnV w4 w.heap.size 3 (.slice a3 n3 c3) ((fewM k M).map mi ++ [.int .i64 mx])) := hf4.ownV (HW3.out.1.later hb4) (by decide)
          have HB4 : Hid (Below w.heap.size w w4) := HB3.out.trans ((hb4.mono HB3.out.size).trans (hf4.below (by have := HB3.out.size; simp; omega)))
          have HW4 : Hid (OwnV w4 w.heap.size 4 (.slice a5 n5 c5) ((fewM k M).map mb ++ [.bool mf])) := ho5
          clear ho5 hf4 hb4 x0 x1 x2 x3 x4 d1 HB3 HP3 HR3 HD3 HW3
          have e3 : w4.cell? ⟨w.heap.size + 1 + 1, 3, none⟩ = some (.slice a2 n2 c2) := cell_of_heap HP4.out rfl
          have f3 : w4.frozen? ⟨w.heap.size + 1 + 1, 3, none⟩ = false := frozen_of_row _ _ _ _ _ HP4.out)
        go_roundw
        case rel =>
          refine ⟨k + 1, by omega, by go_num, HB4.out.setCell (p := ⟨w.heap.size + 1 + 1, 3, none⟩) (by simp; omega) _, (heap_ne (by omega)).trans HR4.out, a3, n3, c3, a5, n5, c5, heap_setCell_same _ _ _ _ _ _ HP4.out, ?_, ?_⟩
          · rw [HS.out h10, List.map_append]
            exact own_same HO4.out (fun k hk ht => heap_ne (tag_ne HP4.out (by decide) ht))
          · rw [HS.out h10, List.map_append]
            exact own_same HW4.out (fun k hk ht => heap_ne (tag_ne HP4.out (by decide) ht))
        case measure => simp [intOf]; omega
      · clear hd1 hb1
        have HO2 : Hid (Ou w (wr.alloc (.cells #[.int .i64 mx, .bool mf] 40)) ep sh le (k + 1) M) := by
          obtain ⟨h1, h2, a1, n1, c1, a2, n2, c2, h3, h4, h5⟩ := HO1.out
          exact ⟨h1, h2, a1, n1, c1, a2, n2, c2, h3, by rw [← fewM_more k (k + 1) M (by omega) (by omega)]; exact h4, by rw [← fewM_more k (k + 1) M (by omega) (by omega)]; exact h5⟩
        clear HO1 HO
        go_wp2
        go_roundw
        case rel => exact ⟨k + 1, by omega, by go_num, HO2⟩
        case measure => simp [intOf]; omega
    · obtain ⟨hb, hr, a1, n1, c1, a2, n2, c2, hp, ho1, ho2⟩ := HO.out
      have hkn : k = n := by omega
      rw [hkn] at ho1 ho2
      have HB1 : Hid (Below w.heap.size w wr) := hb
      have HP1 : Hid (wr.heap[w.heap.size + 1 + 1]? = some (.cells (carr ep sh (.slice a1 n1 c1) (.slice a2 n2 c2) le) 29)) := hp
      have HR1 : Hid (wr.heap[w.heap.size + 1]? = some (.cells #[.int .u64 0, .int .i64 0, .slice none 0 0, .slice none 0 0, .int .i64 0] 29)) := hr
      have HO1 : Hid (OwnV wr w.heap.size 3 (.slice a1 n1 c1) ((fewM n M).map mi) ∧ OwnV wr w.heap.size 4 (.slice a2 n2 c2) ((fewM n M).map mb)) := ⟨ho1, ho2⟩
      obtain ⟨x0, x1, x2, x3, x4⟩ := five_cells hp
      obtain ⟨q0, q1, q2, q3, q4⟩ := five_cells hr
      obtain ⟨g0, g1, g2, g3, g4⟩ := five_frozen hr
      clear hb hr hp ho1 ho2 HO
      have HF : Hid ((put5 wr (w.heap.size + 1) (.int .u64 (ep : Nat)) (.int .i64 sh) (.slice a1 n1 c1) (.slice a2 n2 c2) (.int .i64 le)).heap[w.heap.size + 1]? = some (.cells (carr ep sh (.slice a1 n1 c1) (.slice a2 n2 c2) le) 29)) := five_put HR1.out
      have HBF : Hid (Below w.heap.size w (put5 wr (w.heap.size + 1) (.int .u64 (ep : Nat)) (.int .i64 sh) (.slice a1 n1 c1) (.slice a2 n2 c2) (.int .i64 le))) := below_put5 HB1.out (by omega) _ _ _ _ _
      have HOF : Hid (OwnV (put5 wr (w.heap.size + 1) (.int .u64 (ep : Nat)) (.int .i64 sh) (.slice a1 n1 c1) (.slice a2 n2 c2) (.int .i64 le)) w.heap.size 3 (.slice a1 n1 c1) ((fewM n M).map mi) ∧ OwnV (put5 wr (w.heap.size + 1) (.int .u64 (ep : Nat)) (.int .i64 sh) (.slice a1 n1 c1) (.slice a2 n2 c2) (.int .i64 le)) w.heap.size 4 (.slice a2 n2 c2) ((fewM n M).map mb)) := ⟨own_same HO1.out.1 (fun k hk ht => put5_other _ _ _ _ _ (tag_ne HR1.out (by decide) ht)), own_same HO1.out.2 (fun k hk ht => put5_other _ _ _ _ _ (tag_ne HR1.out (by decide) ht))⟩
      unfold put5 at HF HBF HOF
      go_wp2
      generalize (((((wr.setCell ⟨w.heap.size + 1, 0, none⟩ (.int .u64 (ep : Nat))).setCell ⟨w.heap.size + 1, 1, none⟩ (.int .i64 sh)).setCell ⟨w.heap.size + 1, 2, none⟩ (.slice a1 n1 c1)).setCell ⟨w.heap.size + 1, 3, none⟩ (.slice a2 n2 c2)).setCell ⟨w.heap.size + 1, 4, none⟩ (.int .i64 le)) = wf at *
      clear x0 x1 x2 x3 x4 q0 q1 q2 q3 q4 g0 g1 g2 g3 g4
      obtain ⟨z0, z1, z2, z3, z4⟩ := five_cells HF.out
      refine bodyPost_ret (v := .agg (carr ep sh (.slice a1 n1 c1) (.slice a2 n2 c2) le)) (by simp [results, Try.results7, go_sem, z0, z1, z2, z3, z4]) rfl ?_
      exact ⟨⟨_, rfl, _, _, rfl, HOF.out.1, HOF.out.2, by simp [inC, fewM_length]; omega⟩, HBF.out⟩
end Go.Proofs.Ytgpjplpfjghcgaa
