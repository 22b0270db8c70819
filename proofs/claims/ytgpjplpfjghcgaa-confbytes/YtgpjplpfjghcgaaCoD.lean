/- A copy of a configuration's lists; a configuration of a later epoch. -/
import Derived.Test.YtgpjplpfjghcgaaCoC
import Derived.Test.YtgpjplpfjghcgaaDz
namespace Go.Proofs.Ytgpjplpfjghcgaa
open Go Go.RowKit
set_option linter.unusedVariables false
set_option linter.unusedSimpArgs false

theorem Try.info_4 : (Try.prog.info? 4).map (fun i => (i.zero, i.size, i.bytes)) = some (some (.bool false), 1, 1) := by kernel_rfl
theorem mi_one (l : List Mb) : ∀ u ∈ l.map mi, u.oneCell' = true := by
  intro u hu; obtain ⟨x, _, rfl⟩ := List.mem_map.1 hu; rfl
theorem mb_one (l : List Mb) : ∀ u ∈ l.map mb, u.oneCell' = true := by
  intro u hu; obtain ⟨x, _, rfl⟩ := List.mem_map.1 hu; rfl
theorem Vals.news {w : World} {ad : Addr} {n : Nat} {xs : List Value} (h : Vals w (some ad) n xs) : ∀ j u, xs[j]? = some u → w.cell? (ad.add j) = some u := by
  intro j u hj
  obtain ⟨b, off, e, hc⟩ := h.at (by have := (List.getElem?_eq_some_iff.1 hj).1; have := h.1; omega)
  simp only [Option.some.injEq] at e
  subst e
  rw [Addr.add_lit]
  exact hc j u hj

theorem clone_int (a : Option Addr) (n c : Nat) (xs : List Value) (w : World) (h : Vals w a n xs) (hm : n ≤ 100000) (h1 : ∀ u ∈ xs, u.oneCell' = true) :
    Calls Try.prog 63 #[.slice a n c] w fun e w' => (∃ v, e = .returned v ∧ OwnV w' w.heap.size 3 v xs) ∧ Below w.heap.size w w' := by
  have hnil : ∀ (w : World) (a : Option Addr) (l c : Nat), (binOp .eql 26 (.slice a l c) (.slice none 0 0)).run Try.prog w = .ok (.bool a.isNone) w := fun w a l c => Lib.run_eql_slice_nil w 26 3 a l c 0 0 Try.underlying26
  cases a with
  | none =>
    have hx : xs = [] := by
      rcases h.2 with e | ⟨b, off, e, _⟩
      · exact e
      · cases e
    subst hx
    go_enter Try.func63, Try.ntmps63
    go_wp2
    go_ret
    exact ⟨⟨_, rfl, OwnV.nil _ _ _⟩, Below.refl _ _⟩
  | some ad =>
    have hb : Below w.heap.size w (w.alloc (.cells #[] 3)) := (Below.refl _ _).alloc (Nat.le_refl _) _
    have HN : Hid (∀ j u, xs[j]? = some u → (w.alloc (.cells #[] 3)).cell? (ad.add j) = some u) := (h.later hb).news
    have HO : Hid ((w.alloc (.cells #[] 3)).ownsRow w.heap.size 3 1 (.slice (some ⟨w.heap.size, 0, none⟩) 0 0) 0 []) := World.ownsRow_made w #[] 0 (Nat.le_refl _) (Nat.zero_le _) rfl
    have HB : Hid (Below w.heap.size w (w.alloc (.cells #[] 3))) := hb
    have HL : Hid (xs.length = n) := h.1
    have H1 : Hid (∀ u ∈ xs, u.oneCell' = true) := h1
    obtain ⟨i0, hi, hz0, hz1, hz2⟩ := info_parts Try.info_3
    have HI : Hid (Try.prog.info? 3 = some i0 ∧ i0.zero = some (.int .i64 0) ∧ i0.size = 1 ∧ i0.bytes = 8) := ⟨hi, hz0, hz1, hz2⟩
    clear h h1 hb hi hz0 hz1 hz2
    go_enter Try.func63, Try.ntmps63
    go_wp2_with (at_builtin; refine wpList_append_own _ rfl _ _ 26 rfl w.heap.size 3 i0 _ 1 8 Try.underlying26 HI.out.1 HI.out.2.1 HI.out.2.2.1 HI.out.2.2.2 rfl (by decide) _ 0 [] rfl HO.out _ n c xs rfl (by have := HL.out; omega) HN.out H1.out (by unfold maxLen; omega) (by omega) (by simp) ?_; intro v2 w2 ho2 hg2 _)
    go_ret
    refine ⟨⟨_, rfl, ?_⟩, HB.out.grown hg2 (by simp) (fun k hk => (World.ownsRow.lt HO.out k hk).1)⟩
    rw [Nat.zero_add, List.nil_append] at ho2
    unfold OwnV
    rw [HL.out]
    exact ho2

theorem clone_bool (a : Option Addr) (n c : Nat) (xs : List Value) (w : World) (h : Vals w a n xs) (hm : n ≤ 100000) (h1 : ∀ u ∈ xs, u.oneCell' = true) :
    Calls Try.prog 64 #[.slice a n c] w fun e w' => (∃ v, e = .returned v ∧ OwnV w' w.heap.size 4 v xs) ∧ Below w.heap.size w w' := by
  have hnil : ∀ (w : World) (a : Option Addr) (l c : Nat), (binOp .eql 27 (.slice a l c) (.slice none 0 0)).run Try.prog w = .ok (.bool a.isNone) w := fun w a l c => Lib.run_eql_slice_nil w 27 4 a l c 0 0 Try.underlying27
  cases a with
  | none =>
    have hx : xs = [] := by
      rcases h.2 with e | ⟨b, off, e, _⟩
      · exact e
      · cases e
    subst hx
    go_enter Try.func64, Try.ntmps64
    go_wp2
    go_ret
    exact ⟨⟨_, rfl, OwnV.nil _ _ _⟩, Below.refl _ _⟩
  | some ad =>
    have hb : Below w.heap.size w (w.alloc (.cells #[] 4)) := (Below.refl _ _).alloc (Nat.le_refl _) _
    have HN : Hid (∀ j u, xs[j]? = some u → (w.alloc (.cells #[] 4)).cell? (ad.add j) = some u) := (h.later hb).news
    have HO : Hid ((w.alloc (.cells #[] 4)).ownsRow w.heap.size 4 1 (.slice (some ⟨w.heap.size, 0, none⟩) 0 0) 0 []) := World.ownsRow_made w #[] 0 (Nat.le_refl _) (Nat.zero_le _) rfl
    have HB : Hid (Below w.heap.size w (w.alloc (.cells #[] 4))) := hb
    have HL : Hid (xs.length = n) := h.1
    have H1 : Hid (∀ u ∈ xs, u.oneCell' = true) := h1
    obtain ⟨i0, hi, hz0, hz1, hz2⟩ := info_parts Try.info_4
    have HI : Hid (Try.prog.info? 4 = some i0 ∧ i0.zero = some (.bool false) ∧ i0.size = 1 ∧ i0.bytes = 1) := ⟨hi, hz0, hz1, hz2⟩
    clear h h1 hb hi hz0 hz1 hz2
    go_enter Try.func64, Try.ntmps64
    go_wp2_with (at_builtin; refine wpList_append_own _ rfl _ _ 27 rfl w.heap.size 4 i0 _ 1 1 Try.underlying27 HI.out.1 HI.out.2.1 HI.out.2.2.1 HI.out.2.2.2 rfl (by decide) _ 0 [] rfl HO.out _ n c xs rfl (by have := HL.out; omega) HN.out H1.out (by unfold maxLen; omega) (by omega) (by simp) ?_; intro v2 w2 ho2 hg2 _)
    go_ret
    refine ⟨⟨_, rfl, ?_⟩, HB.out.grown hg2 (by simp) (fun k hk => (World.ownsRow.lt HO.out k hk).1)⟩
    rw [Nat.zero_add, List.nil_append] at ho2
    unfold OwnV
    rw [HL.out]
    exact ho2

/-- a configuration whose lists the call itself has made -/
def Cfo (w : World) (base : Nat) (v : Value) (c : Cf) : Prop := ∃ va vb, v = .agg (carr c.ep c.sh va vb c.le) ∧ OwnV w base 3 va (c.l.map mi) ∧ OwnV w base 4 vb (c.l.map mb) ∧ c.l.length ≤ 1000
theorem Cfo.read {w : World} {base : Nat} {v : Value} {c : Cf} (h : Cfo w base v c) : Cfr w v c := by
  obtain ⟨va, vb, rfl, h1, h2, h3⟩ := h
  obtain ⟨a, c1, rfl, _, _, q1⟩ := Vals.own h1
  obtain ⟨b, c2, rfl, _, _, q2⟩ := Vals.own h2
  simp only [List.length_map] at *
  exact ⟨a, c1, b, c2, rfl, q1, q2, by omega⟩
theorem Cfo.later {w wx : World} {base : Nat} {v : Value} {c : Cf} (h : Cfo w base v c) (hb : Below w.heap.size w wx) : Cfo wx base v c := by
  obtain ⟨va, vb, rfl, h1, h2, h3⟩ := h
  exact ⟨va, vb, rfl, h1.later hb, h2.later hb, h3⟩

theorem five_frozen {w : World} {g : Nat} {a b c d e : Value} {t : TypeId} (h : w.heap[g]? = some (.cells #[a, b, c, d, e] t (0, 0))) :
    w.frozen? ⟨g, 0, none⟩ = false ∧ w.frozen? ⟨g, 1, none⟩ = false ∧ w.frozen? ⟨g, 2, none⟩ = false ∧ w.frozen? ⟨g, 3, none⟩ = false ∧ w.frozen? ⟨g, 4, none⟩ = false := by
  refine ⟨?_, ?_, ?_, ?_, ?_⟩ <;> simp [World.frozen?, h]
/-- another five cells, stored -/
abbrev put5 (w : World) (g : Nat) (a b c d e : Value) : World := ((((w.setCell ⟨g, 0, none⟩ a).setCell ⟨g, 1, none⟩ b).setCell ⟨g, 2, none⟩ c).setCell ⟨g, 3, none⟩ d).setCell ⟨g, 4, none⟩ e
theorem five_put {w : World} {g : Nat} {a b c d e a' b' c' d' e' : Value} {t : TypeId} (h : w.heap[g]? = some (.cells #[a, b, c, d, e] t (0, 0))) :
    (put5 w g a' b' c' d' e').heap[g]? = some (.cells #[a', b', c', d', e'] t (0, 0)) :=
  heap_setCell_same _ _ _ _ _ _ (heap_setCell_same _ _ _ _ _ _ (heap_setCell_same _ _ _ _ _ _ (heap_setCell_same _ _ _ _ _ _ (heap_setCell_same _ _ _ _ _ _ h))))
theorem below_put5 {B : Nat} {a w : World} (h : Below B a w) {g : Nat} (hp : B ≤ g) (x y z u v : Value) : Below B a (put5 w g x y z u v) :=
  ((((h.setCell (p := ⟨g, 0, none⟩) hp x).setCell (p := ⟨g, 1, none⟩) hp y).setCell (p := ⟨g, 2, none⟩) hp z).setCell (p := ⟨g, 3, none⟩) hp u).setCell (p := ⟨g, 4, none⟩) hp v
theorem put5_other {w : World} {g k : Nat} (a b c d e : Value) (h : k ≠ g) : (put5 w g a b c d e).heap[k]? = w.heap[k]? := by
  unfold put5
  repeat rw [Below.heap_setCell _ _ _ _ (by exact h)]
theorem tag_ne {w : World} {g : Nat} {cs : Array Value} {t e : TypeId} (h : w.heap[g]? = some (.cells cs t (0, 0))) (hne : e ≠ t) {k : Nat} (ht : tagOf w k = some e) : k ≠ g := by
  intro e1
  rw [e1, tagOf_heap h] at ht
  simp only [Option.some.injEq] at ht
  exact hne ht.symm
theorem heap2 {w : World} {g i j : Nat} {cs : Array Value} {t e : TypeId} {u v : Value} (h : w.heap[g]? = some (.cells cs t (0, 0))) (hne : e ≠ t) {k : Nat} (ht : tagOf w k = some e) : ((w.setCell ⟨g, i, none⟩ u).setCell ⟨g, j, none⟩ v).heap[k]? = w.heap[k]? := by
  have hk : k ≠ g := by
    intro e1
    rw [e1, tagOf_heap h] at ht
    simp only [Option.some.injEq] at ht
    exact hne ht.symm
  rw [Below.heap_setCell _ _ _ _ hk, Below.heap_setCell _ _ _ _ hk]
/-- a slice stays where cells of another type are written -/
theorem own_same {w w' : World} {base : Nat} {e : TypeId} {v : Value} {xs : List Value} (h : OwnV w base e v xs) (hk : ∀ k, k < w.heap.size → tagOf w k = some e → w'.heap[k]? = w.heap[k]?) : OwnV w' base e v xs := by
  obtain ⟨h1, h2⟩ := h
  refine ⟨h1, ?_⟩
  rcases h2 with h2 | ⟨g, cap, cur, hv, hg, hh, hn⟩
  · exact .inl h2
  · exact .inr ⟨g, cap, cur, hv, hg, by rw [hk g (Array.getElem?_eq_some_iff.1 hh).1 (tagOf_heap hh)]; exact hh, hn⟩

set_option maxRecDepth 100000 in
set_option maxHeartbeats 2000000 in
theorem later_any (v : Value) (c : Cf) (e0 : Nat) (w : World) (h : Cfr w v c) (hle : c.l.length ≤ 1000) :
    Calls Try.prog 53 #[v, .int .u64 (e0 : Nat)] w fun e w' => (∃ v', e = .returned v' ∧ Cfo w' w.heap.size v' ⟨e0, c.sh, c.l, c.le⟩) ∧ Below w.heap.size w w' := by
  obtain ⟨a, c1, b, c2, rfl, ha, hb, hl⟩ := h
  obtain ⟨ep, sh, l, le⟩ := c
  simp only at *
  have hW0 : Below w.heap.size w ((w.alloc (.cells (carr e0 sh (.slice a l.length c1) (.slice b l.length c2) le) 29)).alloc (.cells (carr 0 0 (.slice none 0 0) (.slice none 0 0) 0) 29)) := ((Below.refl _ _).alloc (Nat.le_refl _) _).alloc (by simp) _
  have hP0 : ((w.alloc (.cells (carr e0 sh (.slice a l.length c1) (.slice b l.length c2) le) 29)).alloc (.cells (carr 0 0 (.slice none 0 0) (.slice none 0 0) 0) 29)).heap[w.heap.size]? = some (.cells (carr e0 sh (.slice a l.length c1) (.slice b l.length c2) le) 29) := heap_kept (heap_alloc_new _ _) ((Below.refl _ _).alloc (Nat.le_refl _) _)
  have hZ0 : ((w.alloc (.cells (carr e0 sh (.slice a l.length c1) (.slice b l.length c2) le) 29)).alloc (.cells (carr 0 0 (.slice none 0 0) (.slice none 0 0) 0) 29)).heap[w.heap.size + 1]? = some (.cells (carr 0 0 (.slice none 0 0) (.slice none 0 0) 0) 29) := by have := heap_alloc_new (w.alloc (.cells (carr e0 sh (.slice a l.length c1) (.slice b l.length c2) le) 29)) (.cells (carr 0 0 (.slice none 0 0) (.slice none 0 0) 0) 29); rw [World.size_alloc] at this; exact this
  have hVa := ha.later hW0
  have hVb := hb.later hW0
  have HX : Hid (Cfr w (.agg (carr ep sh (.slice a l.length c1) (.slice b l.length c2) le)) ⟨ep, sh, l, le⟩) := ⟨a, c1, b, c2, rfl, ha, hb, hl⟩
  clear ha hb
  go_enter Try.func53, Try.ntmps53
  go_upto_region 2 with fail
  generalize ((w.alloc (.cells (carr e0 sh (.slice a l.length c1) (.slice b l.length c2) le) 29)).alloc (.cells (carr 0 0 (.slice none 0 0) (.slice none 0 0) 0) 29)) = W at *
  have HW0 : Hid (Below w.heap.size w W) := hW0
  have HP0 : Hid (W.heap[w.heap.size]? = some (.cells (carr e0 sh (.slice a l.length c1) (.slice b l.length c2) le) 29)) := hP0
  have HZ0 : Hid (W.heap[w.heap.size + 1]? = some (.cells (carr 0 0 (.slice none 0 0) (.slice none 0 0) 0) 29)) := hZ0
  clear hW0 hP0 hZ0
  have hx2 : W.cell? ⟨w.heap.size, 2, none⟩ = some (.slice a l.length c1) := cell_of_heap HP0.out rfl
  have hx3 : W.cell? ⟨w.heap.size, 3, none⟩ = some (.slice b l.length c2) := cell_of_heap HP0.out rfl
  have hlm : (l.map mi).length = l.length := by simp
  have HLN : Hid ((l.map mi).length = l.length) := hlm
  clear hlm
  have cl1 := clone_int a l.length c1 (l.map mi) W.drew (hVa.later (Below.refl _ W).drew) hl (mi_one l)
  have HVb : Hid (Vals W b l.length (l.map mb)) := hVb
  clear hVa hVb
  generalize hll : l.length = n at *
  have HLL : Hid (l.length = n) := hll
  clear hll
  refine wp_region_noPanic ?_
  refine wp_region_letz 7 (fun w' => w'.cell? ⟨w.heap.size, 2, none⟩ = some (.slice a n c1) ∧ w'.cell? ⟨w.heap.size, 3, none⟩ = some (.slice b n c2)) (by kernel_rfl) ?_ (fun hHeld => ?_)
  · exact ⟨hx2, hx3⟩
  refine letz_take (i := 0) (d := 7) (v := ?_) rfl rfl (by kernel_rfl) (by kernel_rfl) (by kernel_rfl) (by kernel_rfl) (fun _ _ _ h => h) (Or.inl ⟨by rfl, ?_⟩) hHeld ?_
  rotate_left
  · (intro w hSw; (try dsimp only at hSw); go_simp; all_goals (with_reducible rfl))
  try simp only [Act.put, List.setIfInBounds_toArray, List.set_cons_zero, List.set_cons_succ]
  refine letz_take (i := 1) (d := 8) (v := ?_) rfl rfl (by kernel_rfl) (by kernel_rfl) (by kernel_rfl) (by kernel_rfl) (fun _ _ _ h => h) (Or.inl ⟨by rfl, ?_⟩) hHeld ?_
  rotate_left
  · (intro w hSw; (try dsimp only at hSw); go_simp; all_goals (with_reducible rfl))
  try simp only [Act.put, List.setIfInBounds_toArray, List.set_cons_zero, List.set_cons_succ]
  refine letz_take (i := 3) (d := 10) (v := ?_) rfl rfl (by kernel_rfl) (by kernel_rfl) (by kernel_rfl) (by kernel_rfl) (fun _ _ _ h => h) (Or.inl ⟨by rfl, ?_⟩) hHeld ?_
  rotate_left
  · (intro w hSw; (try dsimp only at hSw); go_simp; all_goals (with_reducible rfl))
  try simp only [Act.put, List.setIfInBounds_toArray, List.set_cons_zero, List.set_cons_succ]
  refine letz_take (i := 4) (d := 11) (v := ?_) rfl rfl (by kernel_rfl) (by kernel_rfl) (by kernel_rfl) (by kernel_rfl) (fun _ _ _ h => h) (Or.inl ⟨by rfl, ?_⟩) hHeld ?_
  rotate_left
  · (intro w hSw; (try dsimp only at hSw); go_simp; all_goals (with_reducible rfl))
  try simp only [Act.put, List.setIfInBounds_toArray, List.set_cons_zero, List.set_cons_succ]
  refine letz_one (i := 2) (by kernel_rfl) rfl (fun K hK => ?_)
  go_simp
  refine cl1.mono ?_
  rintro e w6 ⟨⟨v6, rfl, hv6⟩, hb6⟩
  have b6 : Below W.heap.size W w6 := (Below.refl _ W).drew.trans hb6
  have hp6 := heap_kept HP0.out b6
  have y2 : w6.cell? ⟨w.heap.size, 2, none⟩ = some (.slice a n c1) := cell_of_heap hp6 rfl
  have y3 : w6.cell? ⟨w.heap.size, 3, none⟩ = some (.slice b n c2) := cell_of_heap hp6 rfl
  have HP6 : Hid (w6.heap[w.heap.size]? = some (.cells (carr e0 sh (.slice a n c1) (.slice b n c2) le) 29)) := hp6
  have HZ6 : Hid (w6.heap[w.heap.size + 1]? = some (.cells (carr 0 0 (.slice none 0 0) (.slice none 0 0) 0) 29)) := heap_kept HZ0.out b6
  have HV6 : Hid (OwnV w6 W.heap.size 3 v6 (l.map mi)) := hv6
  have HB6 : Hid (Below w.heap.size w w6) := HW0.out.trans (b6.mono HW0.out.size)
  have cl2 := clone_bool b n c2 (l.map mb) w6 (HVb.out.later b6) hl (mb_one l)
  clear hp6 b6 hb6 hv6 hx2 hx3 HP0 HZ0
  go_wp2_with fail
  refine hK.out _ _ ?_ (fun hHeld => ?_)
  · exact fun _ => ⟨y2, y3⟩
  replace hHeld := hHeld (by kernel_rfl)
  clear hK K
  try simp only [Act.put, List.setIfInBounds_toArray, List.set_cons_zero, List.set_cons_succ]
  clear cl1
  refine letz_take (i := 6) (d := 13) (v := ?_) rfl rfl (by kernel_rfl) (by kernel_rfl) (by kernel_rfl) (by kernel_rfl) (fun _ _ _ h => h) (Or.inl ⟨by rfl, ?_⟩) hHeld ?_
  rotate_left
  · (intro w hSw; (try dsimp only at hSw); go_simp; all_goals (with_reducible rfl))
  try simp only [Act.put, List.setIfInBounds_toArray, List.set_cons_zero, List.set_cons_succ]
  refine letz_one (i := 5) (by kernel_rfl) rfl (fun K hK => ?_)
  go_simp
  refine cl2.mono ?_
  rintro e w7 ⟨⟨v7, rfl, hv7⟩, hb7⟩
  have hp7 := heap_kept HP6.out hb7
  have z2 : w7.cell? ⟨w.heap.size, 2, none⟩ = some (.slice a n c1) := cell_of_heap hp7 rfl
  have z3 : w7.cell? ⟨w.heap.size, 3, none⟩ = some (.slice b n c2) := cell_of_heap hp7 rfl
  obtain ⟨va6, cc6, rfl, -⟩ := HV6.out.shape
  obtain ⟨va7, cc7, rfl, -⟩ := hv7.shape
  have HB7 : Hid (Below w.heap.size w w7) := HB6.out.trans (hb7.mono HB6.out.size)
  generalize hm6 : (l.map mi).length = n6 at *
  generalize hm7 : (l.map mb).length = n7 at *
  clear hm6 hm7
  have HV7 : Hid (OwnV w7 w.heap.size 3 (.slice va6 n6 cc6) (l.map mi) ∧ OwnV w7 w.heap.size 4 (.slice va7 n7 cc7) (l.map mb)) := ⟨owns_mono (HV6.out.later hb7) (by have := HW0.out.size; exact this), owns_mono hv7 (by have := HB6.out.size; exact this)⟩
  have HP7 : Hid (w7.heap[w.heap.size]? = some (.cells (carr e0 sh (.slice a n c1) (.slice b n c2) le) 29)) := hp7
  have HZ7 : Hid (w7.heap[w.heap.size + 1]? = some (.cells (carr 0 0 (.slice none 0 0) (.slice none 0 0) 0) 29)) := heap_kept HZ6.out hb7
  clear hp7 hb7 hv7 HP6 HZ6 y2 y3
  go_wp2_with fail
  refine hK.out _ _ ?_ (fun hHeld => ?_)
  · exact fun _ => ⟨z2, z3⟩
  replace hHeld := hHeld (by kernel_rfl)
  clear hK K
  try simp only [Act.put, List.setIfInBounds_toArray, List.set_cons_zero, List.set_cons_succ]
  clear cl2
  have f2 : w7.frozen? ⟨w.heap.size, 2, none⟩ = false := frozen_of_row _ _ _ _ _ HP7.out
  have hs8 : (w7.setCell ⟨w.heap.size, 2, none⟩ (.slice va6 n6 cc6)).heap[w.heap.size]? = some (.cells (carr e0 sh (.slice va6 n6 cc6) (.slice b n c2) le) 29) := heap_setCell_same _ _ _ _ _ _ HP7.out
  have f3 : (w7.setCell ⟨w.heap.size, 2, none⟩ (.slice va6 n6 cc6)).frozen? ⟨w.heap.size, 3, none⟩ = false := frozen_of_row _ _ _ _ _ hs8
  have z33 : (w7.setCell ⟨w.heap.size, 2, none⟩ (.slice va6 n6 cc6)).cell? ⟨w.heap.size, 3, none⟩ = some (.slice b n c2) := cell_of_heap hs8 rfl
  have HS9 : Hid (((w7.setCell ⟨w.heap.size, 2, none⟩ (.slice va6 n6 cc6)).setCell ⟨w.heap.size, 3, none⟩ (.slice va7 n7 cc7)).heap[w.heap.size]? = some (.cells (carr e0 sh (.slice va6 n6 cc6) (.slice va7 n7 cc7) le) 29)) := heap_setCell_same _ _ _ _ _ _ hs8
  clear hs8
  refine letz_one (i := 7) (by kernel_rfl) rfl (fun K hK => ?_)
  go_simp
  refine hK.out _ _ ?_ (fun hHeld => ?_)
  · exact fun h => absurd h (by decide)
  clear hHeld
  clear hK K
  try simp only [Act.put, List.setIfInBounds_toArray, List.set_cons_zero, List.set_cons_succ]
  refine letz_one (i := 8) (by kernel_rfl) rfl (fun K hK => ?_)
  go_simp
  refine hK.out _ _ ?_ (fun hHeld => ?_)
  · exact fun h => absurd h (by decide)
  clear hHeld
  clear hK K
  try simp only [Act.put, List.setIfInBounds_toArray, List.set_cons_zero, List.set_cons_succ]
  refine letz_one (i := 9) (by kernel_rfl) rfl (fun K hK => ?_)
  go_simp
  refine hK.out _ _ ?_ (fun hHeld => ?_)
  · exact fun h => absurd h (by decide)
  clear hHeld
  clear hK K
  try simp only [Act.put, List.setIfInBounds_toArray, List.set_cons_zero, List.set_cons_succ]
  refine letz_done (by kernel_rfl) ?_ _
  refine NoPanic.normal ?_
  have HZ9 : Hid (((w7.setCell ⟨w.heap.size, 2, none⟩ (.slice va6 n6 cc6)).setCell ⟨w.heap.size, 3, none⟩ (.slice va7 n7 cc7)).heap[w.heap.size + 1]? = some (.cells (carr 0 0 (.slice none 0 0) (.slice none 0 0) 0) 29)) := by rw [Hid, Below.heap_setCell _ _ _ _ (by simp), Below.heap_setCell _ _ _ _ (by simp)]; exact HZ7.out
  have HO9 : Hid (OwnV ((w7.setCell ⟨w.heap.size, 2, none⟩ (.slice va6 n6 cc6)).setCell ⟨w.heap.size, 3, none⟩ (.slice va7 n7 cc7)) w.heap.size 3 (.slice va6 n6 cc6) (l.map mi) ∧ OwnV ((w7.setCell ⟨w.heap.size, 2, none⟩ (.slice va6 n6 cc6)).setCell ⟨w.heap.size, 3, none⟩ (.slice va7 n7 cc7)) w.heap.size 4 (.slice va7 n7 cc7) (l.map mb)) := ⟨own_same HV7.out.1 (fun k hk ht => (heap2 HP7.out (by decide) ht)), own_same HV7.out.2 (fun k hk ht => (heap2 HP7.out (by decide) ht))⟩
  have HB9 : Hid (Below w.heap.size w ((w7.setCell ⟨w.heap.size, 2, none⟩ (.slice va6 n6 cc6)).setCell ⟨w.heap.size, 3, none⟩ (.slice va7 n7 cc7))) := (HB7.out.setCell (p := ⟨w.heap.size, 2, none⟩) (by simp) _).setCell (p := ⟨w.heap.size, 3, none⟩) (by simp) _
  clear z2 z3 z33 f2 f3
  generalize ((w7.setCell ⟨w.heap.size, 2, none⟩ (.slice va6 n6 cc6)).setCell ⟨w.heap.size, 3, none⟩ (.slice va7 n7 cc7)) = w9 at *
  clear HP7 HZ7 HV7 HB7
  obtain ⟨x0, x1, x2, x3, x4⟩ := five_cells HS9.out
  obtain ⟨q0, q1, q2, q3, q4⟩ := five_cells HZ9.out
  obtain ⟨g0, g1, g2, g3, g4⟩ := five_frozen HZ9.out
  go_wp2
  have HF : Hid ((put5 w9 (w.heap.size + 1) (.int .u64 (e0 : Nat)) (.int .i64 sh) (.slice va6 n6 cc6) (.slice va7 n7 cc7) (.int .i64 le)).heap[w.heap.size + 1]? = some (.cells (carr e0 sh (.slice va6 n6 cc6) (.slice va7 n7 cc7) le) 29)) := five_put HZ9.out
  have HOF : Hid (OwnV (put5 w9 (w.heap.size + 1) (.int .u64 (e0 : Nat)) (.int .i64 sh) (.slice va6 n6 cc6) (.slice va7 n7 cc7) (.int .i64 le)) w.heap.size 3 (.slice va6 n6 cc6) (l.map mi) ∧ OwnV (put5 w9 (w.heap.size + 1) (.int .u64 (e0 : Nat)) (.int .i64 sh) (.slice va6 n6 cc6) (.slice va7 n7 cc7) (.int .i64 le)) w.heap.size 4 (.slice va7 n7 cc7) (l.map mb)) := ⟨own_same HO9.out.1 (fun k hk ht => put5_other _ _ _ _ _ (tag_ne HZ9.out (by decide) ht)), own_same HO9.out.2 (fun k hk ht => put5_other _ _ _ _ _ (tag_ne HZ9.out (by decide) ht))⟩
  have HBF : Hid (Below w.heap.size w (put5 w9 (w.heap.size + 1) (.int .u64 (e0 : Nat)) (.int .i64 sh) (.slice va6 n6 cc6) (.slice va7 n7 cc7) (.int .i64 le))) := below_put5 HB9.out (by omega) _ _ _ _ _
  unfold put5 at HF HOF HBF
  generalize (((((w9.setCell ⟨w.heap.size + 1, 0, none⟩ (.int .u64 (e0 : Nat))).setCell ⟨w.heap.size + 1, 1, none⟩ (.int .i64 sh)).setCell ⟨w.heap.size + 1, 2, none⟩ (.slice va6 n6 cc6)).setCell ⟨w.heap.size + 1, 3, none⟩ (.slice va7 n7 cc7)).setCell ⟨w.heap.size + 1, 4, none⟩ (.int .i64 le)) = wf at *
  clear x0 x1 x2 x3 x4 q0 q1 q2 q3 q4 g0 g1 g2 g3 g4
  obtain ⟨x0, x1, x2, x3, x4⟩ := five_cells HF.out
  refine bodyPost_ret (v := .agg (carr e0 sh (.slice va6 n6 cc6) (.slice va7 n7 cc7) le)) (by simp [results, Try.results53, go_sem, x0, x1, x2, x3, x4]) rfl ?_
  exact ⟨⟨_, rfl, _, _, rfl, HOF.out.1, HOF.out.2, by show l.length ≤ 1000; rw [HLL.out]; exact hle⟩, HBF.out⟩
end Go.Proofs.Ytgpjplpfjghcgaa
