/- The program's configurations as the document's. -/
import Derived.Test.YtgpjplpfjghcgaaCoH
namespace Go.Proofs.Ytgpjplpfjghcgaa
open Go Go.RowKit
set_option linter.unusedVariables false
set_option linter.unusedSimpArgs false

def mcells (m : Mb) : List Value := [.int .i64 m.1, .bool m.2]
theorem Try.info_40 : (Try.prog.info? 40).map (fun i => (i.zero, i.size, i.bytes)) = some (some (.agg #[.int .i64 0, .bool false]), 2, 16) := by kernel_rfl
abbrev rarr (ep : Nat) (sh : Int) (vl : Value) (le : Int) : Array Value := #[.int .u64 (ep : Nat), .int .i64 sh, vl, .int .i64 le]
/-- members, where they lie -/
def Mrow (w : World) (a : Option Addr) (l : List Mb) : Prop := l = [] ∨ ∃ b off, a = some ⟨b, off, none⟩ ∧ ∀ i m, l[i]? = some m → w.cell? ⟨b, off + i * 2, none⟩ = some (.int .i64 m.1) ∧ w.cell? ⟨b, off + i * 2 + 1, none⟩ = some (.bool m.2)
theorem Mrow.later {w wx : World} {a : Option Addr} {l : List Mb} (h : Mrow w a l) (hb : Below w.heap.size w wx) : Mrow wx a l := by
  rcases h with h | ⟨b, off, e, hc⟩
  · exact .inl h
  · exact .inr ⟨b, off, e, fun i m hi => ⟨cell_later hb (hc i m hi).1, cell_later hb (hc i m hi).2⟩⟩
theorem Mrow.at {w : World} {a : Option Addr} {l : List Mb} (h : Mrow w a l) (hn : 0 < l.length) : ∃ b off, a = some ⟨b, off, none⟩ ∧ ∀ i m, l[i]? = some m → w.cell? ⟨b, off + i * 2, none⟩ = some (.int .i64 m.1) ∧ w.cell? ⟨b, off + i * 2 + 1, none⟩ = some (.bool m.2) := by
  rcases h with e | h
  · rw [e] at hn; simp at hn
  · exact h
/-- the document's configuration, its members read where they lie -/
def Rfr (w : World) (v : Value) (c : Cf) : Prop := ∃ a c1, v = .agg (rarr c.ep c.sh (.slice a c.l.length c1) c.le) ∧ Mrow w a c.l ∧ c.l.length ≤ 100000
theorem Rfr.later {w wx : World} {v : Value} {c : Cf} (h : Rfr w v c) (hb : Below w.heap.size w wx) : Rfr wx v c := by
  obtain ⟨a, c1, rfl, h1, h2⟩ := h
  exact ⟨a, c1, rfl, h1.later hb, h2⟩
/-- the document's configuration, its members in memory that the call itself has made -/
def Rfo (w : World) (base : Nat) (v : Value) (c : Cf) : Prop := ∃ vl, v = .agg (rarr c.ep c.sh vl c.le) ∧ w.ownsRow base 40 2 vl c.l.length (c.l.flatMap mcells) ∧ c.l.length ≤ 1000
theorem Rfo.read {w : World} {base : Nat} {v : Value} {c : Cf} (h : Rfo w base v c) : Rfr w v c := by
  obtain ⟨vl, rfl, h1, h2⟩ := h
  obtain ⟨a, c1, rfl, _, _, _, hc⟩ := owns_at mcells 2 (fun _ => rfl) h1
  refine ⟨a, c1, rfl, ?_, by omega⟩
  by_cases hl : 0 < c.l.length
  · obtain ⟨b, off, e, hcc⟩ := hc hl
    exact .inr ⟨b, off, e, fun i m hi => ⟨by have := hcc i m hi 0 (by omega); simpa [mcells] using this, by have := hcc i m hi 1 (by omega); simpa [mcells] using this⟩⟩
  · exact .inl (List.length_eq_zero_iff.1 (by omega))
theorem Rfo.later {w wx : World} {base : Nat} {v : Value} {c : Cf} (h : Rfo w base v c) (hb : Below w.heap.size w wx) : Rfo wx base v c := by
  obtain ⟨vl, rfl, h1, h2⟩ := h
  exact ⟨vl, rfl, owns_later h1 hb, h2⟩
theorem four_cells {w : World} {g : Nat} {a b c d : Value} {t : TypeId} (h : w.heap[g]? = some (.cells #[a, b, c, d] t (0, 0))) :
    w.cell? ⟨g, 0, none⟩ = some a ∧ w.cell? ⟨g, 1, none⟩ = some b ∧ w.cell? ⟨g, 2, none⟩ = some c ∧ w.cell? ⟨g, 3, none⟩ = some d :=
  ⟨cell_of_heap h rfl, cell_of_heap h rfl, cell_of_heap h rfl, cell_of_heap h rfl⟩
theorem four_frozen {w : World} {g : Nat} {a b c d : Value} {t : TypeId} (h : w.heap[g]? = some (.cells #[a, b, c, d] t (0, 0))) :
    w.frozen? ⟨g, 0, none⟩ = false ∧ w.frozen? ⟨g, 1, none⟩ = false ∧ w.frozen? ⟨g, 2, none⟩ = false ∧ w.frozen? ⟨g, 3, none⟩ = false := by
  refine ⟨?_, ?_, ?_, ?_⟩ <;> simp [World.frozen?, h]
abbrev put4 (w : World) (g : Nat) (a b c d : Value) : World := (((w.setCell ⟨g, 0, none⟩ a).setCell ⟨g, 1, none⟩ b).setCell ⟨g, 2, none⟩ c).setCell ⟨g, 3, none⟩ d
theorem four_put {w : World} {g : Nat} {a b c d a' b' c' d' : Value} {t : TypeId} (h : w.heap[g]? = some (.cells #[a, b, c, d] t (0, 0))) :
    (put4 w g a' b' c' d').heap[g]? = some (.cells #[a', b', c', d'] t (0, 0)) :=
  heap_setCell_same _ _ _ _ _ _ (heap_setCell_same _ _ _ _ _ _ (heap_setCell_same _ _ _ _ _ _ (heap_setCell_same _ _ _ _ _ _ h)))
theorem below_put4 {B : Nat} {a w : World} (h : Below B a w) {g : Nat} (hp : B ≤ g) (x y z u : Value) : Below B a (put4 w g x y z u) :=
  (((h.setCell (p := ⟨g, 0, none⟩) hp x).setCell (p := ⟨g, 1, none⟩) hp y).setCell (p := ⟨g, 2, none⟩) hp z).setCell (p := ⟨g, 3, none⟩) hp u
theorem put4_other {w : World} {g k : Nat} (a b c d : Value) (h : k ≠ g) : (put4 w g a b c d).heap[k]? = w.heap[k]? := by
  unfold put4
  repeat rw [Below.heap_setCell _ _ _ _ (by exact h)]
theorem owns_same {w w' : World} {base n m : Nat} {e : TypeId} {v : Value} {xs : List Value} (h : w.ownsRow base e n v m xs) (hk : ∀ k, k < w.heap.size → tagOf w k = some e → w'.heap[k]? = w.heap[k]?) : w'.ownsRow base e n v m xs := by
  obtain ⟨h1, h2⟩ := h
  refine ⟨h1, ?_⟩
  rcases h2 with h2 | ⟨g, cap, cur, hv, hg, hh, hn⟩
  · exact .inl h2
  · exact .inr ⟨g, cap, cur, hv, hg, by rw [hk g (Array.getElem?_eq_some_iff.1 hh).1 (tagOf_heap hh)]; exact hh, hn⟩
theorem owns_tag {w : World} {base n m : Nat} {e : TypeId} {v : Value} {xs : List Value} (h : w.ownsRow base e n v m xs) : ∀ k, v.ownBlock = some k → base ≤ k ∧ tagOf w k = some e := by
  obtain ⟨hl, h⟩ := h
  intro k hk
  rcases h with ⟨rfl, _⟩ | ⟨g, cap, cur, rfl, hg, hh, _⟩
  · simp [Value.ownBlock] at hk
  · simp [Value.ownBlock] at hk
    subst hk
    exact ⟨hg, tagOf_heap hh⟩
theorem cell_same {w wx : World} {b o : Nat} (h : wx.heap[b]? = w.heap[b]?) : wx.cell? ⟨b, o, none⟩ = w.cell? ⟨b, o, none⟩ := by simp [World.cell?, h]
theorem cell_lt {w : World} {b o : Nat} {v : Value} (h : w.cell? ⟨b, o, none⟩ = some v) : b < w.heap.size := by
  by_cases hb : b < w.heap.size
  · exact hb
  · rw [show w.cell? ⟨b, o, none⟩ = none by simp [World.cell?, Array.getElem?_eq_none (Nat.le_of_not_lt hb)]] at h
    cases h
/-- on the way: the first k members -/
structure Pu (w wr : World) (C : Array Value) (ep : Nat) (sh le : Int) (l : List Mb) (k : Nat) : Prop where
  bel : Below w.heap.size w wr
  box : wr.heap[w.heap.size]? = some (.cells C 29)
  res : wr.heap[w.heap.size + 1]? = some (.cells #[.int .u64 0, .int .i64 0, .slice none 0 0, .int .i64 0] 25)
  o : ∃ a1 n1 c1, wr.heap[w.heap.size + 1 + 1]? = some (.cells (rarr ep sh (.slice a1 n1 c1) le) 25) ∧ wr.ownsRow w.heap.size 40 2 (.slice a1 n1 c1) (l.take k).length ((l.take k).flatMap mcells)

set_option maxRecDepth 100000 in
set_option maxHeartbeats 8000000 in
theorem plain_any (v : Value) (c : Cf) (w : World) (h : Cfr w v c) (hle : c.l.length ≤ 900) :
    Calls Try.prog 8 #[v] w fun e w' => (∃ v', e = .returned v' ∧ Rfo w' w.heap.size v' c) ∧ Below w.heap.size w w' := by
  obtain ⟨a, c1, b, c2, rfl, ha, hb, hl⟩ := h
  obtain ⟨ep, sh, l, le⟩ := c
  simp only at *
  have HVA : Hid (Vals w a l.length (l.map mi)) := ha
  have HVB : Hid (Vals w b l.length (l.map mb)) := hb
  clear ha hb
  generalize hn : l.length = n at *
  have HLN : Hid (l.length = n) := hn
  clear hn
  go_enter Try.func8, Try.ntmps8
  go_wp2
  go_loopw [16] (fun i wr => ∃ k : Nat, k ≤ n ∧ i = .int .i64 (k : Nat) ∧ Hid (Pu w wr (carr ep sh (.slice a n c1) (.slice b n c2) le) ep sh le l k)) (fun i _ => n - (intOf i).toNat)
  case atStart =>
    refine ⟨0, Nat.zero_le _, rfl, ((((Below.refl _ _).alloc (Nat.le_refl _) _).alloc (by simp) _).alloc (by simp; omega) _), ?_, ?_, none, 0, 0, ?_, World.ownsRow_nil _ _ _ _⟩
    · exact heap_kept (heap_alloc_new _ _) (((Below.refl _ _).alloc (Nat.le_refl _) _).alloc (by simp) _)
    · have := heap_alloc_new (w.alloc (.cells (carr ep sh (.slice a n c1) (.slice b n c2) le) 29)) (.cells #[.int .u64 0, .int .i64 0, .slice none 0 0, .int .i64 0] 25)
      rw [World.size_alloc] at this
      exact heap_kept this ((Below.refl _ _).alloc (Nat.le_refl _) _)
    · have := heap_alloc_new ((w.alloc (.cells (carr ep sh (.slice a n c1) (.slice b n c2) le) 29)).alloc (.cells #[.int .u64 0, .int .i64 0, .slice none 0 0, .int .i64 0] 25)) (.cells (rarr ep sh (.slice none 0 0) le) 25)
      rw [World.size_alloc, World.size_alloc] at this
      exact this
  case round =>
    obtain ⟨k, hk, rfl, HP⟩ := hrel
    by_cases hlt : k < n
    · obtain ⟨b1, off1, rfl, hca⟩ := (HVA.out.later HP.out.bel).at (by omega)
      obtain ⟨b2, off2, rfl, hcb⟩ := (HVB.out.later HP.out.bel).at (by omega)
      have hkl : k < l.length := by rw [HLN.out]; exact hlt
      have q0 := hca k (.int .i64 l[k].1) (by simp [hkl, mi])
      have q1 := hcb k (.bool l[k].2) (by simp [hkl, mb])
      have HT : Hid (l.take (k + 1) = l.take k ++ [l[k]]) := List.take_succ_eq_append_getElem hkl
      have HTL : Hid ((l.take k).length = k) := by rw [Hid, List.length_take, Nat.min_eq_left (by omega)]
      clear hca hcb
      generalize l[k] = m at q0 q1 HT
      obtain ⟨mx, mf⟩ := m
      simp only at q0 q1
      obtain ⟨hB, hX, hR, a1, n1, cc1, hO, ho⟩ := HP.out
      have HB0 : Hid (Below w.heap.size w wr) := hB
      have HX0 : Hid (wr.heap[w.heap.size]? = some (.cells (carr ep sh (.slice (some ⟨b1, off1, none⟩) n c1) (.slice (some ⟨b2, off2, none⟩) n c2) le) 29)) := hX
      have HR0 : Hid (wr.heap[w.heap.size + 1]? = some (.cells #[.int .u64 0, .int .i64 0, .slice none 0 0, .int .i64 0] 25)) := hR
      have HO0 : Hid (wr.heap[w.heap.size + 1 + 1]? = some (.cells (rarr ep sh (.slice a1 n1 cc1) le) 25)) := hO
      have HW0 : Hid (wr.ownsRow w.heap.size 40 2 (.slice a1 n1 cc1) (l.take k).length ((l.take k).flatMap mcells)) := ho
      have x3 : wr.cell? ⟨w.heap.size, 3, none⟩ = some (.slice (some ⟨b2, off2, none⟩) n c2) := cell_of_heap hX rfl
      have x2 : wr.cell? ⟨w.heap.size + 1 + 1, 2, none⟩ = some (.slice a1 n1 cc1) := cell_of_heap hO rfl
      have hd1 : decide (k < n) = true := by simpa using hlt
      have hVBlt : b2 < w.heap.size := by obtain ⟨b', off', e, hc⟩ := HVB.out.at (by omega); simp only [Option.some.injEq, Addr.mk.injEq] at e; obtain ⟨rfl, rfl, _⟩ := e; exact cell_lt (hc k _ (List.getElem?_eq_getElem (by rw [List.length_map]; exact hkl)))
      clear hB hX hR hO ho HP hkl
      go_upto_region 5 with fail
      refine wp_region_noPanic ?_
      refine wp_region_letz 19 (fun w' => w'.cell? ⟨w.heap.size, 3, none⟩ = some (.slice (some ⟨b2, off2, none⟩) n c2) ∧ w'.cell? ⟨w.heap.size + 1 + 1, 2, none⟩ = some (.slice a1 n1 cc1) ∧ w'.cell? ⟨b2, off2 + k, none⟩ = some (.bool mf)) (by kernel_rfl) ?_ (fun hHeld => ?_)
      · exact ⟨x3, x2, q1⟩
      refine letz_take (i := 0) (d := 21) (v := ?_) rfl rfl (by kernel_rfl) (by kernel_rfl) (by kernel_rfl) (by kernel_rfl) (fun _ _ _ h => h) (Or.inl ⟨by rfl, ?_⟩) hHeld ?_
      rotate_left
      · (intro w hSw; (try dsimp only at hSw); go_simp; all_goals (with_reducible rfl))
      try simp only [Act.put, List.setIfInBounds_toArray, List.set_cons_zero, List.set_cons_succ]
      refine letz_take (i := 1) (d := 22) (v := ?_) rfl rfl (by kernel_rfl) (by kernel_rfl) (by kernel_rfl) (by kernel_rfl) (fun _ _ _ h => h) (Or.inl ⟨by rfl, ?_⟩) hHeld ?_
      rotate_left
      · (intro w hSw; (try dsimp only at hSw); go_simp; all_goals (with_reducible rfl))
      try simp only [Act.put, List.setIfInBounds_toArray, List.set_cons_zero, List.set_cons_succ]
      refine letz_take (i := 2) (d := 23) (v := ?_) rfl rfl (by kernel_rfl) (by kernel_rfl) (by kernel_rfl) (by kernel_rfl) (fun _ _ _ h => h) (Or.inl ⟨by rfl, ?_⟩) hHeld ?_
      rotate_left
      · (intro w hSw; (try dsimp only at hSw); go_simp; all_goals (with_reducible rfl))
      try simp only [Act.put, List.setIfInBounds_toArray, List.set_cons_zero, List.set_cons_succ]
      refine letz_take (i := 3) (d := 24) (v := ?_) rfl rfl (by kernel_rfl) (by kernel_rfl) (by kernel_rfl) (by kernel_rfl) (fun _ _ _ h => h) (Or.inl ⟨by rfl, ?_⟩) hHeld ?_
      rotate_left
      · (intro w hSw; (try dsimp only at hSw); go_simp; all_goals (with_reducible rfl))
      try simp only [Act.put, List.setIfInBounds_toArray, List.set_cons_zero, List.set_cons_succ]
      refine letz_take (i := 4) (d := 25) (v := ?_) rfl rfl (by kernel_rfl) (by kernel_rfl) (by kernel_rfl) (by kernel_rfl) (fun _ _ _ h => h) (Or.inl ⟨by rfl, ?_⟩) hHeld ?_
      rotate_left
      · (intro w hSw; (try dsimp only at hSw); go_simp; all_goals (with_reducible rfl))
      try simp only [Act.put, List.setIfInBounds_toArray, List.set_cons_zero, List.set_cons_succ]
      refine letz_take (i := 5) (d := 26) (v := ?_) rfl rfl (by kernel_rfl) (by kernel_rfl) (by kernel_rfl) (by kernel_rfl) (fun _ _ _ h => h) (Or.inl ⟨by rfl, ?_⟩) hHeld ?_
      rotate_left
      · (intro w hSw; (try dsimp only at hSw); go_simp; all_goals (with_reducible rfl))
      try simp only [Act.put, List.setIfInBounds_toArray, List.set_cons_zero, List.set_cons_succ]
      refine letz_take (i := 6) (d := 27) (v := ?_) rfl rfl (by kernel_rfl) (by kernel_rfl) (by kernel_rfl) (by kernel_rfl) (fun _ _ _ h => h) (Or.inl ⟨by rfl, ?_⟩) hHeld ?_
      rotate_left
      · (intro w hSw; (try dsimp only at hSw); go_simp; all_goals (with_reducible rfl))
      try simp only [Act.put, List.setIfInBounds_toArray, List.set_cons_zero, List.set_cons_succ]
      refine letz_take (i := 7) (d := 28) (v := ?_) rfl rfl (by kernel_rfl) (by kernel_rfl) (by kernel_rfl) (by kernel_rfl) (fun _ _ _ h => h) (Or.inl ⟨by rfl, ?_⟩) hHeld ?_
      rotate_left
      · (intro w hSw; (try dsimp only at hSw); go_simp; all_goals (with_reducible rfl))
      try simp only [Act.put, List.setIfInBounds_toArray, List.set_cons_zero, List.set_cons_succ]
      refine letz_take (i := 8) (d := 29) (v := ?_) rfl rfl (by kernel_rfl) (by kernel_rfl) (by kernel_rfl) (by kernel_rfl) (fun _ _ _ h => h) (Or.inl ⟨by rfl, ?_⟩) hHeld ?_
      rotate_left
      · (intro w hSw; (try dsimp only at hSw); go_simp; all_goals (with_reducible rfl))
      try simp only [Act.put, List.setIfInBounds_toArray, List.set_cons_zero, List.set_cons_succ]
      refine letz_take (i := 9) (d := 30) (v := ?_) rfl rfl (by kernel_rfl) (by kernel_rfl) (by kernel_rfl) (by kernel_rfl) (fun _ _ _ h => h) (Or.inl ⟨by rfl, ?_⟩) hHeld ?_
      rotate_left
      · (intro w hSw; (try dsimp only at hSw); go_simp; all_goals (with_reducible rfl))
      try simp only [Act.put, List.setIfInBounds_toArray, List.set_cons_zero, List.set_cons_succ]
      refine letz_take (i := 10) (d := 31) (v := ?_) rfl rfl (by kernel_rfl) (by kernel_rfl) (by kernel_rfl) (by kernel_rfl) (fun _ _ _ h => h) (Or.inl ⟨by rfl, ?_⟩) hHeld ?_
      rotate_left
      · (intro w hSw; (try dsimp only at hSw); go_simp; all_goals (with_reducible rfl))
      try simp only [Act.put, List.setIfInBounds_toArray, List.set_cons_zero, List.set_cons_succ]
      refine letz_take (i := 11) (d := 32) (v := ?_) rfl rfl (by kernel_rfl) (by kernel_rfl) (by kernel_rfl) (by kernel_rfl) (fun _ _ _ h => h) (Or.inl ⟨by rfl, ?_⟩) hHeld ?_
      rotate_left
      · (intro w hSw; (try dsimp only at hSw); go_simp; all_goals (with_reducible rfl))
      try simp only [Act.put, List.setIfInBounds_toArray, List.set_cons_zero, List.set_cons_succ]
      refine letz_take (i := 12) (d := 33) (v := ?_) rfl rfl (by kernel_rfl) (by kernel_rfl) (by kernel_rfl) (by kernel_rfl) (fun _ _ _ h => h) (Or.inl ⟨by rfl, ?_⟩) hHeld ?_
      rotate_left
      · (intro w hSw; (try dsimp only at hSw); go_simp; all_goals (with_reducible rfl))
      try simp only [Act.put, List.setIfInBounds_toArray, List.set_cons_zero, List.set_cons_succ]
      refine letz_take (i := 13) (d := 34) (v := ?_) rfl rfl (by kernel_rfl) (by kernel_rfl) (by kernel_rfl) (by kernel_rfl) (fun _ _ _ h => h) (Or.inl ⟨by rfl, ?_⟩) hHeld ?_
      rotate_left
      · (intro w hSw; (try dsimp only at hSw); go_simp; all_goals (with_reducible rfl))
      try simp only [Act.put, List.setIfInBounds_toArray, List.set_cons_zero, List.set_cons_succ]
      refine letz_take (i := 14) (d := 35) (v := ?_) rfl rfl (by kernel_rfl) (by kernel_rfl) (by kernel_rfl) (by kernel_rfl) (fun _ _ _ h => h) (Or.inl ⟨by rfl, ?_⟩) hHeld ?_
      rotate_left
      · (intro w hSw; (try dsimp only at hSw); go_simp; all_goals (with_reducible rfl))
      try simp only [Act.put, List.setIfInBounds_toArray, List.set_cons_zero, List.set_cons_succ]
      refine letz_take (i := 15) (d := 36) (v := ?_) rfl rfl (by kernel_rfl) (by kernel_rfl) (by kernel_rfl) (by kernel_rfl) (fun _ _ _ h => h) (Or.inl ⟨by rfl, ?_⟩) hHeld ?_
      rotate_left
      · (intro w hSw; (try dsimp only at hSw); go_simp; all_goals (with_reducible rfl))
      try simp only [Act.put, List.setIfInBounds_toArray, List.set_cons_zero, List.set_cons_succ]
      have hb5 : Below wr.heap.size wr (wr.alloc (.cells #[.int .i64 mx, .bool mf] 40)).drew := ((Below.refl _ wr).alloc (Nat.le_refl _) _).drew
      have hn5 : (wr.alloc (.cells #[.int .i64 mx, .bool mf] 40)).drew.heap[wr.heap.size]? = some (.cells #[.int .i64 mx, .bool mf] 40) := heap_alloc_new wr _
      refine letz_one (i := 16) (by kernel_rfl) rfl (fun K hK => ?_)
      go_simp
      refine hK.out _ _ ?_ (fun hHeld => ?_)
      · exact fun _ => ⟨cell_later hb5 x3, cell_later hb5 x2, cell_later hb5 q1⟩
      replace hHeld := hHeld (by kernel_rfl)
      clear hK K
      try simp only [Act.put, List.setIfInBounds_toArray, List.set_cons_zero, List.set_cons_succ]
      have HB5 : Hid (Below w.heap.size w (wr.alloc (.cells #[.int .i64 mx, .bool mf] 40)).drew) := HB0.out.trans (hb5.mono HB0.out.size)
      have HX5 : Hid ((wr.alloc (.cells #[.int .i64 mx, .bool mf] 40)).drew.heap[w.heap.size]? = some (.cells (carr ep sh (.slice (some ⟨b1, off1, none⟩) n c1) (.slice (some ⟨b2, off2, none⟩) n c2) le) 29)) := heap_kept HX0.out hb5
      have HR5 : Hid ((wr.alloc (.cells #[.int .i64 mx, .bool mf] 40)).drew.heap[w.heap.size + 1]? = some (.cells #[.int .u64 0, .int .i64 0, .slice none 0 0, .int .i64 0] 25)) := heap_kept HR0.out hb5
      have HO5 : Hid ((wr.alloc (.cells #[.int .i64 mx, .bool mf] 40)).drew.heap[w.heap.size + 1 + 1]? = some (.cells (rarr ep sh (.slice a1 n1 cc1) le) 25)) := heap_kept HO0.out hb5
      have hown : (wr.alloc (.cells #[.int .i64 mx, .bool mf] 40)).drew.ownsRow w.heap.size 40 2 (.slice a1 n1 cc1) (l.take k).length ((l.take k).flatMap mcells) := owns_later HW0.out hb5
      have hc2 := news_one mcells (mx, mf) hn5 rfl
      have hq5 : (wr.alloc (.cells #[.int .i64 mx, .bool mf] 40)).drew.cell? ⟨b2, off2 + k, none⟩ = some (.bool mf) := cell_later hb5 q1
      generalize (wr.alloc (.cells #[.int .i64 mx, .bool mf] 40)).drew = w5 at *
      clear hb5 hn5 x3 x2 q1 HB0 HX0 HR0 HO0 HW0
      refine letz_one (i := 17) (by kernel_rfl) rfl (fun K hK => ?_)
      refine step_append_els mcells 2 16 23 40 _ Try.underlying23 Try.info_40 rfl (by decide) (fun _ => rfl) (by decide) rfl _ _ rfl w.heap.size _ (l.take k) rfl hown ⟨wr.heap.size, 0, none⟩ 1 1 [(mx, mf)] rfl rfl hc2 (by intro u hu; simp [mcells] at hu; rcases hu with rfl | rfl <;> rfl) (by decide) (by rw [HTL.out]; omega) HB5.out.size ?_
      intro v9 w9 ho9 hg9 _
      obtain ⟨va, vn, vc, rfl⟩ := owns_slice ho9
      have hf9 : Fr w.heap.size [40] w5 w9 := Fr.grown hg9 (fun k hk => ⟨(owns_tag hown k hk).1, 40, by simp, (owns_tag hown k hk).2⟩)
      have HX9 : Hid (w9.heap[w.heap.size]? = some (.cells (carr ep sh (.slice (some ⟨b1, off1, none⟩) n c1) (.slice (some ⟨b2, off2, none⟩) n c2) le) 29)) := hf9.cells HX5.out (by decide)
      have HR9 : Hid (w9.heap[w.heap.size + 1]? = some (.cells #[.int .u64 0, .int .i64 0, .slice none 0 0, .int .i64 0] 25)) := hf9.cells HR5.out (by decide)
      have HO9 : Hid (w9.heap[w.heap.size + 1 + 1]? = some (.cells (rarr ep sh (.slice a1 n1 cc1) le) 25)) := hf9.cells HO5.out (by decide)
      have HB9 : Hid (Below w.heap.size w w9) := HB5.out.trans (hf9.below HB5.out.size)
      have HW9 : Hid (w9.ownsRow w.heap.size 40 2 (.slice va vn vc) (l.take (k + 1)).length ((l.take (k + 1)).flatMap mcells)) := by rw [HT.out]; exact ho9
      have hq9 : w9.cell? ⟨b2, off2 + k, none⟩ = some (.bool mf) := by rw [cell_same (hf9.block b2 (cell_lt hq5) (.inl hVBlt))]; exact hq5
      refine hK.out _ _ ?_ (fun hHeld => ?_)
      · exact fun _ => ⟨cell_of_heap HX9.out rfl, cell_of_heap HO9.out rfl, hq9⟩
      replace hHeld := hHeld (by kernel_rfl)
      clear hK K
      try simp only [Act.put, List.setIfInBounds_toArray, List.set_cons_zero, List.set_cons_succ]
      clear hf9 ho9 hg9 hown hc2 hq5 HB5 HX5 HR5 HO5
      have e2 : w9.cell? ⟨w.heap.size + 1 + 1, 2, none⟩ = some (.slice a1 n1 cc1) := cell_of_heap HO9.out rfl
      have f2 : w9.frozen? ⟨w.heap.size + 1 + 1, 2, none⟩ = false := frozen_of_row _ _ _ _ _ HO9.out
      refine letz_take (i := 18) (d := 39) (v := ?_) rfl rfl (by kernel_rfl) (by kernel_rfl) (by kernel_rfl) (by kernel_rfl) (fun _ _ _ h => h) (Or.inl ⟨by rfl, ?_⟩) hHeld ?_
      rotate_left
      · (intro w hSw; (try dsimp only at hSw); go_simp; all_goals (with_reducible rfl))
      try simp only [Act.put, List.setIfInBounds_toArray, List.set_cons_zero, List.set_cons_succ]
      refine letz_one (i := 19) (by kernel_rfl) rfl (fun K hK => ?_)
      go_simp
      refine hK.out _ _ ?_ (fun hHeld => ?_)
      · exact fun h => absurd h (by decide)
      clear hHeld
      clear hK K
      try simp only [Act.put, List.setIfInBounds_toArray, List.set_cons_zero, List.set_cons_succ]
      refine letz_done (by kernel_rfl) ?_ _
      refine NoPanic.normal ?_
      go_wp2
      go_roundw
      case rel =>
        refine ⟨k + 1, by omega, by go_num, HB9.out.setCell (p := ⟨w.heap.size + 1 + 1, 2, none⟩) (by simp; omega) _, (heap_ne (by omega)).trans HX9.out, (heap_ne (by omega)).trans HR9.out, va, vn, vc, heap_setCell_same _ _ _ _ _ _ HO9.out, owns_same HW9.out (fun k hk ht => heap_ne (tag_ne HO9.out (by decide) ht))⟩
      case measure => simp [intOf]; omega
    · obtain ⟨hB, hX, hR, a1, n1, cc1, hO, ho⟩ := HP.out
      have hkn : k = l.length := by rw [HLN.out]; omega
      rw [hkn, List.take_length] at ho
      have HB1 : Hid (Below w.heap.size w wr) := hB
      have HR1 : Hid (wr.heap[w.heap.size + 1]? = some (.cells #[.int .u64 0, .int .i64 0, .slice none 0 0, .int .i64 0] 25)) := hR
      have HW1 : Hid (wr.ownsRow w.heap.size 40 2 (.slice a1 n1 cc1) l.length (l.flatMap mcells)) := ho
      obtain ⟨x0, x1, x2, x3⟩ := four_cells hO
      obtain ⟨q0, q1, q2, q3⟩ := four_cells hR
      obtain ⟨g0, g1, g2, g3⟩ := four_frozen hR
      clear hB hX hR hO ho HP
      have HF : Hid ((put4 wr (w.heap.size + 1) (.int .u64 (ep : Nat)) (.int .i64 sh) (.slice a1 n1 cc1) (.int .i64 le)).heap[w.heap.size + 1]? = some (.cells (rarr ep sh (.slice a1 n1 cc1) le) 25)) := four_put HR1.out
      have HBF : Hid (Below w.heap.size w (put4 wr (w.heap.size + 1) (.int .u64 (ep : Nat)) (.int .i64 sh) (.slice a1 n1 cc1) (.int .i64 le))) := below_put4 HB1.out (by omega) _ _ _ _
      have HOF : Hid ((put4 wr (w.heap.size + 1) (.int .u64 (ep : Nat)) (.int .i64 sh) (.slice a1 n1 cc1) (.int .i64 le)).ownsRow w.heap.size 40 2 (.slice a1 n1 cc1) l.length (l.flatMap mcells)) := owns_same HW1.out (fun k hk ht => put4_other _ _ _ _ (tag_ne HR1.out (by decide) ht))
      unfold put4 at HF HBF HOF
      go_wp2
      generalize ((((wr.setCell ⟨w.heap.size + 1, 0, none⟩ (.int .u64 (ep : Nat))).setCell ⟨w.heap.size + 1, 1, none⟩ (.int .i64 sh)).setCell ⟨w.heap.size + 1, 2, none⟩ (.slice a1 n1 cc1)).setCell ⟨w.heap.size + 1, 3, none⟩ (.int .i64 le)) = wf at *
      clear x0 x1 x2 x3 q0 q1 q2 q3 g0 g1 g2 g3
      obtain ⟨z0, z1, z2, z3⟩ := four_cells HF.out
      refine bodyPost_ret (v := .agg (rarr ep sh (.slice a1 n1 cc1) le)) (by simp [results, Try.results8, go_sem, z0, z1, z2, z3]) rfl ?_
      exact ⟨⟨_, rfl, _, rfl, HOF.out, by show l.length ≤ 1000; rw [HLN.out]; omega⟩, HBF.out⟩
end Go.Proofs.Ytgpjplpfjghcgaa
