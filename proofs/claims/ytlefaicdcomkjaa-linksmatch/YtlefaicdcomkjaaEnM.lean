/- An entry as the program's, as the document's: contracts. -/
import Derived.Test.YtlefaicdcomkjaaEnL
import Derived.Deep.RegionHeld3
namespace Go.Proofs.Ytlefaicdcomkjaa
open Go Go.RowKit
set_option linter.unusedVariables false
set_option linter.unusedSimpArgs false

abbrev put10 (w : World) (g : Nat) (a b c d e f h i j k : Value) : World := (((((((((w.setCell ⟨g, 0, none⟩ a).setCell ⟨g, 1, none⟩ b).setCell ⟨g, 2, none⟩ c).setCell ⟨g, 3, none⟩ d).setCell ⟨g, 4, none⟩ e).setCell ⟨g, 5, none⟩ f).setCell ⟨g, 6, none⟩ h).setCell ⟨g, 7, none⟩ i).setCell ⟨g, 8, none⟩ j).setCell ⟨g, 9, none⟩ k
theorem ten_put {w : World} {g : Nat} {a b c d e f h i j k a' b' c' d' e' f' h' i' j' k' : Value} {t : TypeId} (hh : w.heap[g]? = some (.cells #[a, b, c, d, e, f, h, i, j, k] t (0, 0))) :
    (put10 w g a' b' c' d' e' f' h' i' j' k').heap[g]? = some (.cells #[a', b', c', d', e', f', h', i', j', k'] t (0, 0)) := by
  have h0 : (w.setCell ⟨g, 0, none⟩ a').heap[g]? = some (.cells #[a', b, c, d, e, f, h, i, j, k] t (0, 0)) := heap_setCell_same _ _ _ _ _ _ hh
  have h1 : ((w.setCell ⟨g, 0, none⟩ a').setCell ⟨g, 1, none⟩ b').heap[g]? = some (.cells #[a', b', c, d, e, f, h, i, j, k] t (0, 0)) := heap_setCell_same _ _ _ _ _ _ h0
  have h2 : (((w.setCell ⟨g, 0, none⟩ a').setCell ⟨g, 1, none⟩ b').setCell ⟨g, 2, none⟩ c').heap[g]? = some (.cells #[a', b', c', d, e, f, h, i, j, k] t (0, 0)) := heap_setCell_same _ _ _ _ _ _ h1
  have h3 : ((((w.setCell ⟨g, 0, none⟩ a').setCell ⟨g, 1, none⟩ b').setCell ⟨g, 2, none⟩ c').setCell ⟨g, 3, none⟩ d').heap[g]? = some (.cells #[a', b', c', d', e, f, h, i, j, k] t (0, 0)) := heap_setCell_same _ _ _ _ _ _ h2
  have h4 : (((((w.setCell ⟨g, 0, none⟩ a').setCell ⟨g, 1, none⟩ b').setCell ⟨g, 2, none⟩ c').setCell ⟨g, 3, none⟩ d').setCell ⟨g, 4, none⟩ e').heap[g]? = some (.cells #[a', b', c', d', e', f, h, i, j, k] t (0, 0)) := heap_setCell_same _ _ _ _ _ _ h3
  have h5 : ((((((w.setCell ⟨g, 0, none⟩ a').setCell ⟨g, 1, none⟩ b').setCell ⟨g, 2, none⟩ c').setCell ⟨g, 3, none⟩ d').setCell ⟨g, 4, none⟩ e').setCell ⟨g, 5, none⟩ f').heap[g]? = some (.cells #[a', b', c', d', e', f', h, i, j, k] t (0, 0)) := heap_setCell_same _ _ _ _ _ _ h4
  have h6 : (((((((w.setCell ⟨g, 0, none⟩ a').setCell ⟨g, 1, none⟩ b').setCell ⟨g, 2, none⟩ c').setCell ⟨g, 3, none⟩ d').setCell ⟨g, 4, none⟩ e').setCell ⟨g, 5, none⟩ f').setCell ⟨g, 6, none⟩ h').heap[g]? = some (.cells #[a', b', c', d', e', f', h', i, j, k] t (0, 0)) := heap_setCell_same _ _ _ _ _ _ h5
  have h7 : ((((((((w.setCell ⟨g, 0, none⟩ a').setCell ⟨g, 1, none⟩ b').setCell ⟨g, 2, none⟩ c').setCell ⟨g, 3, none⟩ d').setCell ⟨g, 4, none⟩ e').setCell ⟨g, 5, none⟩ f').setCell ⟨g, 6, none⟩ h').setCell ⟨g, 7, none⟩ i').heap[g]? = some (.cells #[a', b', c', d', e', f', h', i', j, k] t (0, 0)) := heap_setCell_same _ _ _ _ _ _ h6
  have h8 : (((((((((w.setCell ⟨g, 0, none⟩ a').setCell ⟨g, 1, none⟩ b').setCell ⟨g, 2, none⟩ c').setCell ⟨g, 3, none⟩ d').setCell ⟨g, 4, none⟩ e').setCell ⟨g, 5, none⟩ f').setCell ⟨g, 6, none⟩ h').setCell ⟨g, 7, none⟩ i').setCell ⟨g, 8, none⟩ j').heap[g]? = some (.cells #[a', b', c', d', e', f', h', i', j', k] t (0, 0)) := heap_setCell_same _ _ _ _ _ _ h7
  have h9 : ((((((((((w.setCell ⟨g, 0, none⟩ a').setCell ⟨g, 1, none⟩ b').setCell ⟨g, 2, none⟩ c').setCell ⟨g, 3, none⟩ d').setCell ⟨g, 4, none⟩ e').setCell ⟨g, 5, none⟩ f').setCell ⟨g, 6, none⟩ h').setCell ⟨g, 7, none⟩ i').setCell ⟨g, 8, none⟩ j').setCell ⟨g, 9, none⟩ k').heap[g]? = some (.cells #[a', b', c', d', e', f', h', i', j', k'] t (0, 0)) := heap_setCell_same _ _ _ _ _ _ h8
  exact h9
theorem ten_frozen {w : World} {g : Nat} {cs : Array Value} {t : TypeId} (h : w.heap[g]? = some (.cells cs t (0, 0))) (o : Nat) : w.frozen? ⟨g, o, none⟩ = false := by simp [World.frozen?, h]
theorem put10_other {w : World} {g q : Nat} (a b c d e f h i j k : Value) (hq : q ≠ g) : (put10 w g a b c d e f h i j k).heap[q]? = w.heap[q]? := by
  unfold put10
  repeat rw [Below.heap_setCell _ _ _ _ (by exact hq)]
theorem below_put10 {B : Nat} {x w : World} (hb : Below B x w) {g : Nat} (hp : B ≤ g) (a b c d e f h i j k : Value) : Below B x (put10 w g a b c d e f h i j k) :=
  (((((((((hb.setCell (p := ⟨g, 0, none⟩) hp a).setCell (p := ⟨g, 1, none⟩) hp b).setCell (p := ⟨g, 2, none⟩) hp c).setCell (p := ⟨g, 3, none⟩) hp d).setCell (p := ⟨g, 4, none⟩) hp e).setCell (p := ⟨g, 5, none⟩) hp f).setCell (p := ⟨g, 6, none⟩) hp h).setCell (p := ⟨g, 7, none⟩) hp i).setCell (p := ⟨g, 8, none⟩) hp j).setCell (p := ⟨g, 9, none⟩) hp k
theorem ten_cells {w : World} {g : Nat} {a b c d e f h i j k : Value} {t : TypeId} (hh : w.heap[g]? = some (.cells #[a, b, c, d, e, f, h, i, j, k] t (0, 0))) :
    w.cell? ⟨g, 0, none⟩ = some a ∧ w.cell? ⟨g, 1, none⟩ = some b ∧ w.cell? ⟨g, 2, none⟩ = some c ∧ w.cell? ⟨g, 3, none⟩ = some d ∧ w.cell? ⟨g, 4, none⟩ = some e ∧ w.cell? ⟨g, 5, none⟩ = some f ∧ w.cell? ⟨g, 6, none⟩ = some h ∧ w.cell? ⟨g, 7, none⟩ = some i ∧ w.cell? ⟨g, 8, none⟩ = some j ∧ w.cell? ⟨g, 9, none⟩ = some k :=
  ⟨cell_of_heap hh rfl, cell_of_heap hh rfl, cell_of_heap hh rfl, cell_of_heap hh rfl, cell_of_heap hh rfl, cell_of_heap hh rfl, cell_of_heap hh rfl, cell_of_heap hh rfl, cell_of_heap hh rfl, cell_of_heap hh rfl⟩
theorem keepc {w w' : World} {k : Nat} {o : Obj} (hb : Below w.heap.size w w') (h : w.heap[k]? = some o) : w'.heap[k]? = some o := (hb.block _ (Array.getElem?_eq_some_iff.1 h).1).trans h
theorem owns_base {w : World} {b1 b2 : Nat} {e : TypeId} {size : Nat} {v : Value} {n : Nat} {xs : List Value} (h : w.ownsRow b1 e size v n xs) (hb : b2 ≤ b1) : w.ownsRow b2 e size v n xs := owns_mono h hb
theorem owns_put10 {w : World} {b1 g : Nat} {e t : TypeId} {size n : Nat} {v : Value} {xs : List Value} {cs : Array Value} (h : w.ownsRow b1 e size v n xs) (hg : w.heap[g]? = some (.cells cs t (0, 0))) (hne : t ≠ e) (a b c d e' f h' i j k : Value) : (put10 w g a b c d e' f h' i j k).ownsRow b1 e size v n xs := by
  obtain ⟨h1, h2⟩ := h
  refine ⟨h1, ?_⟩
  rcases h2 with h2 | ⟨q, cap, cur, hv, hq, hh, hn⟩
  · exact .inl h2
  · refine .inr ⟨q, cap, cur, hv, hq, ?_, hn⟩
    rw [put10_other _ _ _ _ _ _ _ _ _ _ (fun e2 => by rw [e2, hg] at hh; simp only [Option.some.injEq, Obj.cells.injEq] at hh; exact hne hh.2.1)]
    exact hh
set_option maxRecDepth 100000 in
set_option maxHeartbeats 16000000 in
theorem ours_any (ep kd : Int) (tid : Id) (plain : Bool) (ra : Option Addr) (rn rc : Nat) (wa : Option Addr) (wn wc : Nat) (R : Nat → Rdv) (W : Nat → Wrv) (id : Id) (code : Int) (w : World) (hR : Rds w ra rn R) (hW : Wrs w wa wn W) :
    Calls Try.prog 31 #[.agg #[.int .u64 ep, .int .i64 kd, .int .i64 tid.1, .int .u64 tid.2, .bool plain, .slice ra rn rc, .slice wa wn wc, .int .i64 id.1, .int .u64 id.2, .int .i64 code]] w fun e w' => (∃ v1 v2, e = .returned (.agg #[.int .u64 ep, .int .i64 kd, .int .i64 tid.1, .int .u64 tid.2, .bool plain, v1, v2, .int .i64 id.1, .int .u64 id.2, .int .i64 code]) ∧ w'.ownsRow w.heap.size 95 2 v1 (tenR rn R).length ((tenR rn R).flatMap Rdv.cells) ∧ w'.ownsRow w.heap.size 98 3 v2 (tenW wn W).length ((tenW wn W).flatMap Wrv.cells)) ∧ Below w.heap.size w w' := by
  have b1' : Below w.heap.size w ((w.alloc (.cells #[.int .u64 ep, .int .i64 kd, .int .i64 tid.1, .int .u64 tid.2, .bool plain, .slice ra rn rc, .slice wa wn wc, .int .i64 id.1, .int .u64 id.2, .int .i64 code] 54)).alloc (.cells #[.int .u64 0, .int .i64 0, .int .i64 0, .int .u64 0, .bool false, .slice none 0 0, .slice none 0 0, .int .i64 0, .int .u64 0, .int .i64 0] 45)) := ((Below.refl _ _).alloc (Nat.le_refl _) _).alloc (by simp) _
  have hn : ((w.alloc (.cells #[.int .u64 ep, .int .i64 kd, .int .i64 tid.1, .int .u64 tid.2, .bool plain, .slice ra rn rc, .slice wa wn wc, .int .i64 id.1, .int .u64 id.2, .int .i64 code] 54)).alloc (.cells #[.int .u64 0, .int .i64 0, .int .i64 0, .int .u64 0, .bool false, .slice none 0 0, .slice none 0 0, .int .i64 0, .int .u64 0, .int .i64 0] 45)).heap[w.heap.size]? = some (.cells #[.int .u64 ep, .int .i64 kd, .int .i64 tid.1, .int .u64 tid.2, .bool plain, .slice ra rn rc, .slice wa wn wc, .int .i64 id.1, .int .u64 id.2, .int .i64 code] 54) := (heap_alloc_old _ _ (by simp)).trans (heap_alloc_new w _)
  have hz : ((w.alloc (.cells #[.int .u64 ep, .int .i64 kd, .int .i64 tid.1, .int .u64 tid.2, .bool plain, .slice ra rn rc, .slice wa wn wc, .int .i64 id.1, .int .u64 id.2, .int .i64 code] 54)).alloc (.cells #[.int .u64 0, .int .i64 0, .int .i64 0, .int .u64 0, .bool false, .slice none 0 0, .slice none 0 0, .int .i64 0, .int .u64 0, .int .i64 0] 45)).heap[w.heap.size + 1]? = some (.cells #[.int .u64 0, .int .i64 0, .int .i64 0, .int .u64 0, .bool false, .slice none 0 0, .slice none 0 0, .int .i64 0, .int .u64 0, .int .i64 0] 45) := by
    have := heap_alloc_new (w.alloc (.cells #[.int .u64 ep, .int .i64 kd, .int .i64 tid.1, .int .u64 tid.2, .bool plain, .slice ra rn rc, .slice wa wn wc, .int .i64 id.1, .int .u64 id.2, .int .i64 code] 54)) (.cells #[.int .u64 0, .int .i64 0, .int .i64 0, .int .u64 0, .bool false, .slice none 0 0, .slice none 0 0, .int .i64 0, .int .u64 0, .int .i64 0] 45)
    rwa [World.size_alloc] at this
  have HRD : Hid (Rds ((w.alloc (.cells #[.int .u64 ep, .int .i64 kd, .int .i64 tid.1, .int .u64 tid.2, .bool plain, .slice ra rn rc, .slice wa wn wc, .int .i64 id.1, .int .u64 id.2, .int .i64 code] 54)).alloc (.cells #[.int .u64 0, .int .i64 0, .int .i64 0, .int .u64 0, .bool false, .slice none 0 0, .slice none 0 0, .int .i64 0, .int .u64 0, .int .i64 0] 45)) ra rn R) := hR.later b1'
  have HWR : Hid (Wrs ((w.alloc (.cells #[.int .u64 ep, .int .i64 kd, .int .i64 tid.1, .int .u64 tid.2, .bool plain, .slice ra rn rc, .slice wa wn wc, .int .i64 id.1, .int .u64 id.2, .int .i64 code] 54)).alloc (.cells #[.int .u64 0, .int .i64 0, .int .i64 0, .int .u64 0, .bool false, .slice none 0 0, .slice none 0 0, .int .i64 0, .int .u64 0, .int .i64 0] 45)) wa wn W) := hW.later b1'
  clear hR hW
  go_enter Try.func31, Try.ntmps31
  go_upto_region 1 with fail
  generalize hv : ((w.alloc (.cells #[.int .u64 ep, .int .i64 kd, .int .i64 tid.1, .int .u64 tid.2, .bool plain, .slice ra rn rc, .slice wa wn wc, .int .i64 id.1, .int .u64 id.2, .int .i64 code] 54)).alloc (.cells #[.int .u64 0, .int .i64 0, .int .i64 0, .int .u64 0, .bool false, .slice none 0 0, .slice none 0 0, .int .i64 0, .int .u64 0, .int .i64 0] 45)) = v1 at *
  clear hv
  generalize hp : w.heap.size = p at *
  have HB : Hid (Below p w v1) := b1'
  have HN : Hid (v1.heap[p]? = some (.cells #[.int .u64 ep, .int .i64 kd, .int .i64 tid.1, .int .u64 tid.2, .bool plain, .slice ra rn rc, .slice wa wn wc, .int .i64 id.1, .int .u64 id.2, .int .i64 code] 54)) := hn
  have HZ : Hid (v1.heap[p + 1]? = some (.cells #[.int .u64 0, .int .i64 0, .int .i64 0, .int .u64 0, .bool false, .slice none 0 0, .slice none 0 0, .int .i64 0, .int .u64 0, .int .i64 0] 45)) := hz
  clear b1' hn hz
  refine wp_region_noPanic ?_
  refine wp_region_held_drew (S := (fun w' => w'.cell? ⟨p, 0, none⟩ = some (.int .u64 ep) ∧ w'.cell? ⟨p, 1, none⟩ = some (.int .i64 kd) ∧ w'.cell? ⟨p, 2, none⟩ = some (.int .i64 tid.1) ∧ w'.cell? ⟨p, 3, none⟩ = some (.int .u64 tid.2) ∧ w'.cell? ⟨p, 4, none⟩ = some (.bool plain) ∧ w'.cell? ⟨p, 5, none⟩ = some (.slice ra rn rc) ∧ w'.cell? ⟨p, 6, none⟩ = some (.slice wa wn wc) ∧ w'.cell? ⟨p, 7, none⟩ = some (.int .i64 id.1) ∧ w'.cell? ⟨p, 8, none⟩ = some (.int .u64 id.2) ∧ w'.cell? ⟨p, 9, none⟩ = some (.int .i64 code))) (by kernel_rfl) ?_ (fun hHeld => ?_)
  · exact ten_cells HN.out
  refine held_take (i := 0) (d := 3) (v := ?_) rfl rfl (by kernel_rfl) (by kernel_rfl) (by kernel_rfl) (fun _ _ _ h => h) (Or.inl ⟨by rfl, ?_⟩) hHeld ?_
  rotate_left
  · (intro w hSw; (try dsimp only at hSw); go_simp; all_goals (with_reducible rfl))
  try simp only [Act.put, List.setIfInBounds_toArray, List.set_cons_zero, List.set_cons_succ]
  refine held_take (i := 1) (d := 4) (v := ?_) rfl rfl (by kernel_rfl) (by kernel_rfl) (by kernel_rfl) (fun _ _ _ h => h) (Or.inl ⟨by rfl, ?_⟩) hHeld ?_
  rotate_left
  · (intro w hSw; (try dsimp only at hSw); go_simp; all_goals (with_reducible rfl))
  try simp only [Act.put, List.setIfInBounds_toArray, List.set_cons_zero, List.set_cons_succ]
  refine held_take (i := 2) (d := 5) (v := ?_) rfl rfl (by kernel_rfl) (by kernel_rfl) (by kernel_rfl) (fun _ _ _ h => h) (Or.inl ⟨by rfl, ?_⟩) hHeld ?_
  rotate_left
  · (intro w hSw; (try dsimp only at hSw); go_simp; all_goals (with_reducible rfl))
  try simp only [Act.put, List.setIfInBounds_toArray, List.set_cons_zero, List.set_cons_succ]
  refine held_take (i := 3) (d := 6) (v := ?_) rfl rfl (by kernel_rfl) (by kernel_rfl) (by kernel_rfl) (fun _ _ _ h => h) (Or.inl ⟨by rfl, ?_⟩) hHeld ?_
  rotate_left
  · (intro w hSw; (try dsimp only at hSw); go_simp; all_goals (with_reducible rfl))
  try simp only [Act.put, List.setIfInBounds_toArray, List.set_cons_zero, List.set_cons_succ]
  refine held_take (i := 4) (d := 7) (v := ?_) rfl rfl (by kernel_rfl) (by kernel_rfl) (by kernel_rfl) (fun _ _ _ h => h) (Or.inl ⟨by rfl, ?_⟩) hHeld ?_
  rotate_left
  · (intro w hSw; (try dsimp only at hSw); go_simp; all_goals (with_reducible rfl))
  try simp only [Act.put, List.setIfInBounds_toArray, List.set_cons_zero, List.set_cons_succ]
  refine held_take (i := 5) (d := 8) (v := ?_) rfl rfl (by kernel_rfl) (by kernel_rfl) (by kernel_rfl) (fun _ _ _ h => h) (Or.inl ⟨by rfl, ?_⟩) hHeld ?_
  rotate_left
  · (intro w hSw; (try dsimp only at hSw); go_simp; all_goals (with_reducible rfl))
  try simp only [Act.put, List.setIfInBounds_toArray, List.set_cons_zero, List.set_cons_succ]
  refine held_take (i := 7) (d := 10) (v := ?_) rfl rfl (by kernel_rfl) (by kernel_rfl) (by kernel_rfl) (fun _ _ _ h => h) (Or.inl ⟨by rfl, ?_⟩) hHeld ?_
  rotate_left
  · (intro w hSw; (try dsimp only at hSw); go_simp; all_goals (with_reducible rfl))
  try simp only [Act.put, List.setIfInBounds_toArray, List.set_cons_zero, List.set_cons_succ]
  refine held_take (i := 8) (d := 11) (v := ?_) rfl rfl (by kernel_rfl) (by kernel_rfl) (by kernel_rfl) (fun _ _ _ h => h) (Or.inl ⟨by rfl, ?_⟩) hHeld ?_
  rotate_left
  · (intro w hSw; (try dsimp only at hSw); go_simp; all_goals (with_reducible rfl))
  try simp only [Act.put, List.setIfInBounds_toArray, List.set_cons_zero, List.set_cons_succ]
  refine held_take (i := 9) (d := 12) (v := ?_) rfl rfl (by kernel_rfl) (by kernel_rfl) (by kernel_rfl) (fun _ _ _ h => h) (Or.inl ⟨by rfl, ?_⟩) hHeld ?_
  rotate_left
  · (intro w hSw; (try dsimp only at hSw); go_simp; all_goals (with_reducible rfl))
  try simp only [Act.put, List.setIfInBounds_toArray, List.set_cons_zero, List.set_cons_succ]
  refine held_take (i := 10) (d := 13) (v := ?_) rfl rfl (by kernel_rfl) (by kernel_rfl) (by kernel_rfl) (fun _ _ _ h => h) (Or.inl ⟨by rfl, ?_⟩) hHeld ?_
  rotate_left
  · (intro w hSw; (try dsimp only at hSw); go_simp; all_goals (with_reducible rfl))
  try simp only [Act.put, List.setIfInBounds_toArray, List.set_cons_zero, List.set_cons_succ]
  refine wpAnyH_ready (rs := [6]) (by kernel_rfl) (by simp) ?_
  refine AllReadyH.cons rfl (fun K hK => ?_) AllReadyH.nil
  go_simp
  refine (our_any tid plain ra rn rc wa wn wc R W v1.drew (HRD.out.later (Below.refl _ _).drew) (HWR.out.later (Below.refl _ _).drew)).mono ?_
  rintro e v2 ⟨⟨x1, x2, rfl, hx1, hx2⟩, hb2⟩
  obtain ⟨xa, xn, xc, rfl⟩ := owns_slice hx1
  obtain ⟨ya, yn, yc, rfl⟩ := owns_slice hx2
  have HN2 : Hid (v2.heap[p]? = some (.cells #[.int .u64 ep, .int .i64 kd, .int .i64 tid.1, .int .u64 tid.2, .bool plain, .slice ra rn rc, .slice wa wn wc, .int .i64 id.1, .int .u64 id.2, .int .i64 code] 54)) := keepc hb2 (show v1.drew.heap[p]? = _ from HN.out)
  have HZ2 : Hid (v2.heap[p + 1]? = some (.cells #[.int .u64 0, .int .i64 0, .int .i64 0, .int .u64 0, .bool false, .slice none 0 0, .slice none 0 0, .int .i64 0, .int .u64 0, .int .i64 0] 45)) := keepc hb2 (show v1.drew.heap[p + 1]? = _ from HZ.out)
  have HB2 : Hid (Below p w v2) := HB.out.drew.trans (hb2.mono (by have := HB.out.size; have := (Array.getElem?_eq_some_iff.1 HN.out).1; simp only [World.size_drew]; omega))
  have HX1 : Hid (v2.ownsRow p 95 2 (.slice xa xn xc) (tenR rn R).length ((tenR rn R).flatMap Rdv.cells)) := owns_base hx1 (by have := (Array.getElem?_eq_some_iff.1 HN.out).1; simp only [World.size_drew]; omega)
  have HX2 : Hid (v2.ownsRow p 98 3 (.slice ya yn yc) (tenW wn W).length ((tenW wn W).flatMap Wrv.cells)) := owns_base hx2 (by have := (Array.getElem?_eq_some_iff.1 HN.out).1; simp only [World.size_drew]; omega)
  have hvp : p + 1 < v1.drew.heap.size := (Array.getElem?_eq_some_iff.1 HZ.out).1
  clear hx1 hx2 hb2 HN HZ HB
  go_wp2_with fail
  refine hK.out _ _ ?_ (fun hHeld => ?_)
  · exact ten_cells HN2.out
  clear hK K
  try simp only [Act.put, List.setIfInBounds_toArray, List.set_cons_zero, List.set_cons_succ]
  refine held_take (i := 11) (d := 14) (v := ?_) rfl rfl (by kernel_rfl) (by kernel_rfl) (by kernel_rfl) (fun _ _ _ h => h) (Or.inl ⟨by rfl, ?_⟩) hHeld ?_
  rotate_left
  · (intro w hSw; (try dsimp only at hSw); go_simp; all_goals (with_reducible rfl))
  try simp only [Act.put, List.setIfInBounds_toArray, List.set_cons_zero, List.set_cons_succ]
  obtain ⟨z0, z1, z2, z3, z4, z5, z6, z7, z8, z9⟩ := ten_cells HZ2.out
  have f0 := ten_frozen HZ2.out 0
  have f1 := ten_frozen HZ2.out 1
  have f2 := ten_frozen HZ2.out 2
  have f3 := ten_frozen HZ2.out 3
  have f4 := ten_frozen HZ2.out 4
  have f5 := ten_frozen HZ2.out 5
  have f6 := ten_frozen HZ2.out 6
  have f7 := ten_frozen HZ2.out 7
  have f8 := ten_frozen HZ2.out 8
  have f9 := ten_frozen HZ2.out 9
  have HP : Hid (((((((((((v2.setCell ⟨p + 1, 0, none⟩ (.int .u64 ep)).setCell ⟨p + 1, 1, none⟩ (.int .i64 kd)).setCell ⟨p + 1, 2, none⟩ (.int .i64 tid.1)).setCell ⟨p + 1, 3, none⟩ (.int .u64 tid.2)).setCell ⟨p + 1, 4, none⟩ (.bool plain)).setCell ⟨p + 1, 5, none⟩ (.slice xa xn xc)).setCell ⟨p + 1, 6, none⟩ (.slice ya yn yc)).setCell ⟨p + 1, 7, none⟩ (.int .i64 id.1)).setCell ⟨p + 1, 8, none⟩ (.int .u64 id.2)).setCell ⟨p + 1, 9, none⟩ (.int .i64 code)).heap[p + 1]? = some (.cells #[.int .u64 ep, .int .i64 kd, .int .i64 tid.1, .int .u64 tid.2, .bool plain, .slice xa xn xc, .slice ya yn yc, .int .i64 id.1, .int .u64 id.2, .int .i64 code] 45)) := ten_put HZ2.out
  have HPN : Hid (((((((((((v2.setCell ⟨p + 1, 0, none⟩ (.int .u64 ep)).setCell ⟨p + 1, 1, none⟩ (.int .i64 kd)).setCell ⟨p + 1, 2, none⟩ (.int .i64 tid.1)).setCell ⟨p + 1, 3, none⟩ (.int .u64 tid.2)).setCell ⟨p + 1, 4, none⟩ (.bool plain)).setCell ⟨p + 1, 5, none⟩ (.slice xa xn xc)).setCell ⟨p + 1, 6, none⟩ (.slice ya yn yc)).setCell ⟨p + 1, 7, none⟩ (.int .i64 id.1)).setCell ⟨p + 1, 8, none⟩ (.int .u64 id.2)).setCell ⟨p + 1, 9, none⟩ (.int .i64 code)).heap[p]? = some (.cells #[.int .u64 ep, .int .i64 kd, .int .i64 tid.1, .int .u64 tid.2, .bool plain, .slice ra rn rc, .slice wa wn wc, .int .i64 id.1, .int .u64 id.2, .int .i64 code] 54)) := (put10_other _ _ _ _ _ _ _ _ _ _ (by omega)).trans HN2.out
  have HPB : Hid (Below p w ((((((((((v2.setCell ⟨p + 1, 0, none⟩ (.int .u64 ep)).setCell ⟨p + 1, 1, none⟩ (.int .i64 kd)).setCell ⟨p + 1, 2, none⟩ (.int .i64 tid.1)).setCell ⟨p + 1, 3, none⟩ (.int .u64 tid.2)).setCell ⟨p + 1, 4, none⟩ (.bool plain)).setCell ⟨p + 1, 5, none⟩ (.slice xa xn xc)).setCell ⟨p + 1, 6, none⟩ (.slice ya yn yc)).setCell ⟨p + 1, 7, none⟩ (.int .i64 id.1)).setCell ⟨p + 1, 8, none⟩ (.int .u64 id.2)).setCell ⟨p + 1, 9, none⟩ (.int .i64 code))) := below_put10 HB2.out (by omega) _ _ _ _ _ _ _ _ _ _
  have HPF : Hid (((((((((((v2.setCell ⟨p + 1, 0, none⟩ (.int .u64 ep)).setCell ⟨p + 1, 1, none⟩ (.int .i64 kd)).setCell ⟨p + 1, 2, none⟩ (.int .i64 tid.1)).setCell ⟨p + 1, 3, none⟩ (.int .u64 tid.2)).setCell ⟨p + 1, 4, none⟩ (.bool plain)).setCell ⟨p + 1, 5, none⟩ (.slice xa xn xc)).setCell ⟨p + 1, 6, none⟩ (.slice ya yn yc)).setCell ⟨p + 1, 7, none⟩ (.int .i64 id.1)).setCell ⟨p + 1, 8, none⟩ (.int .u64 id.2)).setCell ⟨p + 1, 9, none⟩ (.int .i64 code)).ownsRow p 95 2 (.slice xa xn xc) (tenR rn R).length ((tenR rn R).flatMap Rdv.cells) ∧ ((((((((((v2.setCell ⟨p + 1, 0, none⟩ (.int .u64 ep)).setCell ⟨p + 1, 1, none⟩ (.int .i64 kd)).setCell ⟨p + 1, 2, none⟩ (.int .i64 tid.1)).setCell ⟨p + 1, 3, none⟩ (.int .u64 tid.2)).setCell ⟨p + 1, 4, none⟩ (.bool plain)).setCell ⟨p + 1, 5, none⟩ (.slice xa xn xc)).setCell ⟨p + 1, 6, none⟩ (.slice ya yn yc)).setCell ⟨p + 1, 7, none⟩ (.int .i64 id.1)).setCell ⟨p + 1, 8, none⟩ (.int .u64 id.2)).setCell ⟨p + 1, 9, none⟩ (.int .i64 code)).ownsRow p 98 3 (.slice ya yn yc) (tenW wn W).length ((tenW wn W).flatMap Wrv.cells)) := ⟨owns_put10 HX1.out HZ2.out (by decide) _ _ _ _ _ _ _ _ _ _, owns_put10 HX2.out HZ2.out (by decide) _ _ _ _ _ _ _ _ _ _⟩
  refine wpAnyH_ready (rs := [12]) (by kernel_rfl) (by simp) ?_
  refine AllReadyH.cons rfl (fun K hK => ?_) AllReadyH.nil
  go_simp
  refine hK.out _ _ ?_ (fun hHeld => ?_)
  · exact ten_cells HPN.out
  clear hK K
  try simp only [Act.put, List.setIfInBounds_toArray, List.set_cons_zero, List.set_cons_succ]
  refine wpAnyH_done (by kernel_rfl) ?_ _
  refine NoPanic.normal ?_
  clear z0 z1 z2 z3 z4 z5 z6 z7 z8 z9 f0 f1 f2 f3 f4 f5 f6 f7 f8 f9 HZ2 HN2 HB2 HX1 HX2
  generalize ((((((((((v2.setCell ⟨p + 1, 0, none⟩ (.int .u64 ep)).setCell ⟨p + 1, 1, none⟩ (.int .i64 kd)).setCell ⟨p + 1, 2, none⟩ (.int .i64 tid.1)).setCell ⟨p + 1, 3, none⟩ (.int .u64 tid.2)).setCell ⟨p + 1, 4, none⟩ (.bool plain)).setCell ⟨p + 1, 5, none⟩ (.slice xa xn xc)).setCell ⟨p + 1, 6, none⟩ (.slice ya yn yc)).setCell ⟨p + 1, 7, none⟩ (.int .i64 id.1)).setCell ⟨p + 1, 8, none⟩ (.int .u64 id.2)).setCell ⟨p + 1, 9, none⟩ (.int .i64 code)) = wf at *
  obtain ⟨y0, y1, y2, y3, y4, y5, y6, y7, y8, y9⟩ := ten_cells HP.out
  go_wp2
  refine bodyPost_ret (v := .agg #[.int .u64 ep, .int .i64 kd, .int .i64 tid.1, .int .u64 tid.2, .bool plain, .slice xa xn xc, .slice ya yn yc, .int .i64 id.1, .int .u64 id.2, .int .i64 code]) (by simp [results, Try.results31, go_sem, y0, y1, y2, y3, y4, y5, y6, y7, y8, y9]) rfl ?_
  exact ⟨⟨_, _, rfl, by rw [hp]; exact HPF.out.1, by rw [hp]; exact HPF.out.2⟩, by rw [hp]; exact HPB.out⟩
set_option maxRecDepth 100000 in
set_option maxHeartbeats 16000000 in
theorem plainE_any (ep kd : Int) (tid : Id) (plain : Bool) (b1 : Nat) (ra : Option Addr) (rn rc : Nat) (wa : Option Addr) (wn wc : Nat) (l1 : List Rdv) (l2 : List Wrv) (id : Id) (code : Int) (w : World) (hR : w.ownsRow b1 95 2 (.slice ra rn rc) l1.length (l1.flatMap Rdv.cells)) (hW : w.ownsRow b1 98 3 (.slice wa wn wc) l2.length (l2.flatMap Wrv.cells)) (hl1 : l1.length ≤ 10) (hl2 : l2.length ≤ 10) :
    Calls Try.prog 18 #[.agg #[.int .u64 ep, .int .i64 kd, .int .i64 tid.1, .int .u64 tid.2, .bool plain, .slice ra rn rc, .slice wa wn wc, .int .i64 id.1, .int .u64 id.2, .int .i64 code]] w fun e w' => (∃ v1 v2, e = .returned (.agg #[.int .u64 ep, .int .i64 kd, .int .i64 tid.1, .int .u64 tid.2, .bool plain, v1, v2, .int .i64 id.1, .int .u64 id.2, .int .i64 code]) ∧ w'.ownsRow w.heap.size 99 2 v1 l1.length (l1.flatMap Rdv.cells) ∧ w'.ownsRow w.heap.size 100 3 v2 l2.length (l2.flatMap Wrv.cells)) ∧ Below w.heap.size w w' := by
  have b1' : Below w.heap.size w ((w.alloc (.cells #[.int .u64 ep, .int .i64 kd, .int .i64 tid.1, .int .u64 tid.2, .bool plain, .slice ra rn rc, .slice wa wn wc, .int .i64 id.1, .int .u64 id.2, .int .i64 code] 45)).alloc (.cells #[.int .u64 0, .int .i64 0, .int .i64 0, .int .u64 0, .bool false, .slice none 0 0, .slice none 0 0, .int .i64 0, .int .u64 0, .int .i64 0] 54)) := ((Below.refl _ _).alloc (Nat.le_refl _) _).alloc (by simp) _
  have hn : ((w.alloc (.cells #[.int .u64 ep, .int .i64 kd, .int .i64 tid.1, .int .u64 tid.2, .bool plain, .slice ra rn rc, .slice wa wn wc, .int .i64 id.1, .int .u64 id.2, .int .i64 code] 45)).alloc (.cells #[.int .u64 0, .int .i64 0, .int .i64 0, .int .u64 0, .bool false, .slice none 0 0, .slice none 0 0, .int .i64 0, .int .u64 0, .int .i64 0] 54)).heap[w.heap.size]? = some (.cells #[.int .u64 ep, .int .i64 kd, .int .i64 tid.1, .int .u64 tid.2, .bool plain, .slice ra rn rc, .slice wa wn wc, .int .i64 id.1, .int .u64 id.2, .int .i64 code] 45) := (heap_alloc_old _ _ (by simp)).trans (heap_alloc_new w _)
  have hz : ((w.alloc (.cells #[.int .u64 ep, .int .i64 kd, .int .i64 tid.1, .int .u64 tid.2, .bool plain, .slice ra rn rc, .slice wa wn wc, .int .i64 id.1, .int .u64 id.2, .int .i64 code] 45)).alloc (.cells #[.int .u64 0, .int .i64 0, .int .i64 0, .int .u64 0, .bool false, .slice none 0 0, .slice none 0 0, .int .i64 0, .int .u64 0, .int .i64 0] 54)).heap[w.heap.size + 1]? = some (.cells #[.int .u64 0, .int .i64 0, .int .i64 0, .int .u64 0, .bool false, .slice none 0 0, .slice none 0 0, .int .i64 0, .int .u64 0, .int .i64 0] 54) := by
    have := heap_alloc_new (w.alloc (.cells #[.int .u64 ep, .int .i64 kd, .int .i64 tid.1, .int .u64 tid.2, .bool plain, .slice ra rn rc, .slice wa wn wc, .int .i64 id.1, .int .u64 id.2, .int .i64 code] 45)) (.cells #[.int .u64 0, .int .i64 0, .int .i64 0, .int .u64 0, .bool false, .slice none 0 0, .slice none 0 0, .int .i64 0, .int .u64 0, .int .i64 0] 54)
    rwa [World.size_alloc] at this
  have HRD : Hid (((w.alloc (.cells #[.int .u64 ep, .int .i64 kd, .int .i64 tid.1, .int .u64 tid.2, .bool plain, .slice ra rn rc, .slice wa wn wc, .int .i64 id.1, .int .u64 id.2, .int .i64 code] 45)).alloc (.cells #[.int .u64 0, .int .i64 0, .int .i64 0, .int .u64 0, .bool false, .slice none 0 0, .slice none 0 0, .int .i64 0, .int .u64 0, .int .i64 0] 54)).ownsRow b1 95 2 (.slice ra rn rc) l1.length (l1.flatMap Rdv.cells)) := owns_later hR b1'
  have HWR : Hid (((w.alloc (.cells #[.int .u64 ep, .int .i64 kd, .int .i64 tid.1, .int .u64 tid.2, .bool plain, .slice ra rn rc, .slice wa wn wc, .int .i64 id.1, .int .u64 id.2, .int .i64 code] 45)).alloc (.cells #[.int .u64 0, .int .i64 0, .int .i64 0, .int .u64 0, .bool false, .slice none 0 0, .slice none 0 0, .int .i64 0, .int .u64 0, .int .i64 0] 54)).ownsRow b1 98 3 (.slice wa wn wc) l2.length (l2.flatMap Wrv.cells)) := owns_later hW b1'
  clear hR hW
  go_enter Try.func18, Try.ntmps18
  go_upto_region 1 with fail
  generalize hv : ((w.alloc (.cells #[.int .u64 ep, .int .i64 kd, .int .i64 tid.1, .int .u64 tid.2, .bool plain, .slice ra rn rc, .slice wa wn wc, .int .i64 id.1, .int .u64 id.2, .int .i64 code] 45)).alloc (.cells #[.int .u64 0, .int .i64 0, .int .i64 0, .int .u64 0, .bool false, .slice none 0 0, .slice none 0 0, .int .i64 0, .int .u64 0, .int .i64 0] 54)) = v1 at *
  clear hv
  generalize hp : w.heap.size = p at *
  have HB : Hid (Below p w v1) := b1'
  have HN : Hid (v1.heap[p]? = some (.cells #[.int .u64 ep, .int .i64 kd, .int .i64 tid.1, .int .u64 tid.2, .bool plain, .slice ra rn rc, .slice wa wn wc, .int .i64 id.1, .int .u64 id.2, .int .i64 code] 45)) := hn
  have HZ : Hid (v1.heap[p + 1]? = some (.cells #[.int .u64 0, .int .i64 0, .int .i64 0, .int .u64 0, .bool false, .slice none 0 0, .slice none 0 0, .int .i64 0, .int .u64 0, .int .i64 0] 54)) := hz
  clear b1' hn hz
  refine wp_region_noPanic ?_
  refine wp_region_held_drew (S := (fun w' => w'.cell? ⟨p, 0, none⟩ = some (.int .u64 ep) ∧ w'.cell? ⟨p, 1, none⟩ = some (.int .i64 kd) ∧ w'.cell? ⟨p, 2, none⟩ = some (.int .i64 tid.1) ∧ w'.cell? ⟨p, 3, none⟩ = some (.int .u64 tid.2) ∧ w'.cell? ⟨p, 4, none⟩ = some (.bool plain) ∧ w'.cell? ⟨p, 5, none⟩ = some (.slice ra rn rc) ∧ w'.cell? ⟨p, 6, none⟩ = some (.slice wa wn wc) ∧ w'.cell? ⟨p, 7, none⟩ = some (.int .i64 id.1) ∧ w'.cell? ⟨p, 8, none⟩ = some (.int .u64 id.2) ∧ w'.cell? ⟨p, 9, none⟩ = some (.int .i64 code))) (by kernel_rfl) ?_ (fun hHeld => ?_)
  · exact ten_cells HN.out
  refine held_take (i := 0) (d := 3) (v := ?_) rfl rfl (by kernel_rfl) (by kernel_rfl) (by kernel_rfl) (fun _ _ _ h => h) (Or.inl ⟨by rfl, ?_⟩) hHeld ?_
  rotate_left
  · (intro w hSw; (try dsimp only at hSw); go_simp; all_goals (with_reducible rfl))
  try simp only [Act.put, List.setIfInBounds_toArray, List.set_cons_zero, List.set_cons_succ]
  refine held_take (i := 1) (d := 4) (v := ?_) rfl rfl (by kernel_rfl) (by kernel_rfl) (by kernel_rfl) (fun _ _ _ h => h) (Or.inl ⟨by rfl, ?_⟩) hHeld ?_
  rotate_left
  · (intro w hSw; (try dsimp only at hSw); go_simp; all_goals (with_reducible rfl))
  try simp only [Act.put, List.setIfInBounds_toArray, List.set_cons_zero, List.set_cons_succ]
  refine held_take (i := 2) (d := 5) (v := ?_) rfl rfl (by kernel_rfl) (by kernel_rfl) (by kernel_rfl) (fun _ _ _ h => h) (Or.inl ⟨by rfl, ?_⟩) hHeld ?_
  rotate_left
  · (intro w hSw; (try dsimp only at hSw); go_simp; all_goals (with_reducible rfl))
  try simp only [Act.put, List.setIfInBounds_toArray, List.set_cons_zero, List.set_cons_succ]
  refine held_take (i := 3) (d := 6) (v := ?_) rfl rfl (by kernel_rfl) (by kernel_rfl) (by kernel_rfl) (fun _ _ _ h => h) (Or.inl ⟨by rfl, ?_⟩) hHeld ?_
  rotate_left
  · (intro w hSw; (try dsimp only at hSw); go_simp; all_goals (with_reducible rfl))
  try simp only [Act.put, List.setIfInBounds_toArray, List.set_cons_zero, List.set_cons_succ]
  refine held_take (i := 4) (d := 7) (v := ?_) rfl rfl (by kernel_rfl) (by kernel_rfl) (by kernel_rfl) (fun _ _ _ h => h) (Or.inl ⟨by rfl, ?_⟩) hHeld ?_
  rotate_left
  · (intro w hSw; (try dsimp only at hSw); go_simp; all_goals (with_reducible rfl))
  try simp only [Act.put, List.setIfInBounds_toArray, List.set_cons_zero, List.set_cons_succ]
  refine held_take (i := 5) (d := 8) (v := ?_) rfl rfl (by kernel_rfl) (by kernel_rfl) (by kernel_rfl) (fun _ _ _ h => h) (Or.inl ⟨by rfl, ?_⟩) hHeld ?_
  rotate_left
  · (intro w hSw; (try dsimp only at hSw); go_simp; all_goals (with_reducible rfl))
  try simp only [Act.put, List.setIfInBounds_toArray, List.set_cons_zero, List.set_cons_succ]
  refine held_take (i := 7) (d := 10) (v := ?_) rfl rfl (by kernel_rfl) (by kernel_rfl) (by kernel_rfl) (fun _ _ _ h => h) (Or.inl ⟨by rfl, ?_⟩) hHeld ?_
  rotate_left
  · (intro w hSw; (try dsimp only at hSw); go_simp; all_goals (with_reducible rfl))
  try simp only [Act.put, List.setIfInBounds_toArray, List.set_cons_zero, List.set_cons_succ]
  refine held_take (i := 8) (d := 11) (v := ?_) rfl rfl (by kernel_rfl) (by kernel_rfl) (by kernel_rfl) (fun _ _ _ h => h) (Or.inl ⟨by rfl, ?_⟩) hHeld ?_
  rotate_left
  · (intro w hSw; (try dsimp only at hSw); go_simp; all_goals (with_reducible rfl))
  try simp only [Act.put, List.setIfInBounds_toArray, List.set_cons_zero, List.set_cons_succ]
  refine held_take (i := 9) (d := 12) (v := ?_) rfl rfl (by kernel_rfl) (by kernel_rfl) (by kernel_rfl) (fun _ _ _ h => h) (Or.inl ⟨by rfl, ?_⟩) hHeld ?_
  rotate_left
  · (intro w hSw; (try dsimp only at hSw); go_simp; all_goals (with_reducible rfl))
  try simp only [Act.put, List.setIfInBounds_toArray, List.set_cons_zero, List.set_cons_succ]
  refine held_take (i := 10) (d := 13) (v := ?_) rfl rfl (by kernel_rfl) (by kernel_rfl) (by kernel_rfl) (fun _ _ _ h => h) (Or.inl ⟨by rfl, ?_⟩) hHeld ?_
  rotate_left
  · (intro w hSw; (try dsimp only at hSw); go_simp; all_goals (with_reducible rfl))
  try simp only [Act.put, List.setIfInBounds_toArray, List.set_cons_zero, List.set_cons_succ]
  refine wpAnyH_ready (rs := [6]) (by kernel_rfl) (by simp) ?_
  refine AllReadyH.cons rfl (fun K hK => ?_) AllReadyH.nil
  go_simp
  refine (plain_any tid plain b1 (.slice ra rn rc) (.slice wa wn wc) l1 l2 v1.drew (owns_later HRD.out (Below.refl _ _).drew) (owns_later HWR.out (Below.refl _ _).drew) hl1 hl2).mono ?_
  rintro e v2 ⟨⟨x1, x2, rfl, hx1, hx2⟩, hb2⟩
  obtain ⟨xa, xn, xc, rfl⟩ := owns_slice hx1
  obtain ⟨ya, yn, yc, rfl⟩ := owns_slice hx2
  have HN2 : Hid (v2.heap[p]? = some (.cells #[.int .u64 ep, .int .i64 kd, .int .i64 tid.1, .int .u64 tid.2, .bool plain, .slice ra rn rc, .slice wa wn wc, .int .i64 id.1, .int .u64 id.2, .int .i64 code] 45)) := keepc hb2 (show v1.drew.heap[p]? = _ from HN.out)
  have HZ2 : Hid (v2.heap[p + 1]? = some (.cells #[.int .u64 0, .int .i64 0, .int .i64 0, .int .u64 0, .bool false, .slice none 0 0, .slice none 0 0, .int .i64 0, .int .u64 0, .int .i64 0] 54)) := keepc hb2 (show v1.drew.heap[p + 1]? = _ from HZ.out)
  have HB2 : Hid (Below p w v2) := HB.out.drew.trans (hb2.mono (by have := HB.out.size; have := (Array.getElem?_eq_some_iff.1 HN.out).1; simp only [World.size_drew]; omega))
  have HX1 : Hid (v2.ownsRow p 99 2 (.slice xa xn xc) l1.length (l1.flatMap Rdv.cells)) := owns_base hx1 (by have := (Array.getElem?_eq_some_iff.1 HN.out).1; simp only [World.size_drew]; omega)
  have HX2 : Hid (v2.ownsRow p 100 3 (.slice ya yn yc) l2.length (l2.flatMap Wrv.cells)) := owns_base hx2 (by have := (Array.getElem?_eq_some_iff.1 HN.out).1; simp only [World.size_drew]; omega)
  have hvp : p + 1 < v1.drew.heap.size := (Array.getElem?_eq_some_iff.1 HZ.out).1
  clear hx1 hx2 hb2 HN HZ HB
  go_wp2_with fail
  refine hK.out _ _ ?_ (fun hHeld => ?_)
  · exact ten_cells HN2.out
  clear hK K
  try simp only [Act.put, List.setIfInBounds_toArray, List.set_cons_zero, List.set_cons_succ]
  refine held_take (i := 11) (d := 14) (v := ?_) rfl rfl (by kernel_rfl) (by kernel_rfl) (by kernel_rfl) (fun _ _ _ h => h) (Or.inl ⟨by rfl, ?_⟩) hHeld ?_
  rotate_left
  · (intro w hSw; (try dsimp only at hSw); go_simp; all_goals (with_reducible rfl))
  try simp only [Act.put, List.setIfInBounds_toArray, List.set_cons_zero, List.set_cons_succ]
  obtain ⟨z0, z1, z2, z3, z4, z5, z6, z7, z8, z9⟩ := ten_cells HZ2.out
  have f0 := ten_frozen HZ2.out 0
  have f1 := ten_frozen HZ2.out 1
  have f2 := ten_frozen HZ2.out 2
  have f3 := ten_frozen HZ2.out 3
  have f4 := ten_frozen HZ2.out 4
  have f5 := ten_frozen HZ2.out 5
  have f6 := ten_frozen HZ2.out 6
  have f7 := ten_frozen HZ2.out 7
  have f8 := ten_frozen HZ2.out 8
  have f9 := ten_frozen HZ2.out 9
  have HP : Hid (((((((((((v2.setCell ⟨p + 1, 0, none⟩ (.int .u64 ep)).setCell ⟨p + 1, 1, none⟩ (.int .i64 kd)).setCell ⟨p + 1, 2, none⟩ (.int .i64 tid.1)).setCell ⟨p + 1, 3, none⟩ (.int .u64 tid.2)).setCell ⟨p + 1, 4, none⟩ (.bool plain)).setCell ⟨p + 1, 5, none⟩ (.slice xa xn xc)).setCell ⟨p + 1, 6, none⟩ (.slice ya yn yc)).setCell ⟨p + 1, 7, none⟩ (.int .i64 id.1)).setCell ⟨p + 1, 8, none⟩ (.int .u64 id.2)).setCell ⟨p + 1, 9, none⟩ (.int .i64 code)).heap[p + 1]? = some (.cells #[.int .u64 ep, .int .i64 kd, .int .i64 tid.1, .int .u64 tid.2, .bool plain, .slice xa xn xc, .slice ya yn yc, .int .i64 id.1, .int .u64 id.2, .int .i64 code] 54)) := ten_put HZ2.out
  have HPN : Hid (((((((((((v2.setCell ⟨p + 1, 0, none⟩ (.int .u64 ep)).setCell ⟨p + 1, 1, none⟩ (.int .i64 kd)).setCell ⟨p + 1, 2, none⟩ (.int .i64 tid.1)).setCell ⟨p + 1, 3, none⟩ (.int .u64 tid.2)).setCell ⟨p + 1, 4, none⟩ (.bool plain)).setCell ⟨p + 1, 5, none⟩ (.slice xa xn xc)).setCell ⟨p + 1, 6, none⟩ (.slice ya yn yc)).setCell ⟨p + 1, 7, none⟩ (.int .i64 id.1)).setCell ⟨p + 1, 8, none⟩ (.int .u64 id.2)).setCell ⟨p + 1, 9, none⟩ (.int .i64 code)).heap[p]? = some (.cells #[.int .u64 ep, .int .i64 kd, .int .i64 tid.1, .int .u64 tid.2, .bool plain, .slice ra rn rc, .slice wa wn wc, .int .i64 id.1, .int .u64 id.2, .int .i64 code] 45)) := (put10_other _ _ _ _ _ _ _ _ _ _ (by omega)).trans HN2.out
  have HPB : Hid (Below p w ((((((((((v2.setCell ⟨p + 1, 0, none⟩ (.int .u64 ep)).setCell ⟨p + 1, 1, none⟩ (.int .i64 kd)).setCell ⟨p + 1, 2, none⟩ (.int .i64 tid.1)).setCell ⟨p + 1, 3, none⟩ (.int .u64 tid.2)).setCell ⟨p + 1, 4, none⟩ (.bool plain)).setCell ⟨p + 1, 5, none⟩ (.slice xa xn xc)).setCell ⟨p + 1, 6, none⟩ (.slice ya yn yc)).setCell ⟨p + 1, 7, none⟩ (.int .i64 id.1)).setCell ⟨p + 1, 8, none⟩ (.int .u64 id.2)).setCell ⟨p + 1, 9, none⟩ (.int .i64 code))) := below_put10 HB2.out (by omega) _ _ _ _ _ _ _ _ _ _
  have HPF : Hid (((((((((((v2.setCell ⟨p + 1, 0, none⟩ (.int .u64 ep)).setCell ⟨p + 1, 1, none⟩ (.int .i64 kd)).setCell ⟨p + 1, 2, none⟩ (.int .i64 tid.1)).setCell ⟨p + 1, 3, none⟩ (.int .u64 tid.2)).setCell ⟨p + 1, 4, none⟩ (.bool plain)).setCell ⟨p + 1, 5, none⟩ (.slice xa xn xc)).setCell ⟨p + 1, 6, none⟩ (.slice ya yn yc)).setCell ⟨p + 1, 7, none⟩ (.int .i64 id.1)).setCell ⟨p + 1, 8, none⟩ (.int .u64 id.2)).setCell ⟨p + 1, 9, none⟩ (.int .i64 code)).ownsRow p 99 2 (.slice xa xn xc) l1.length (l1.flatMap Rdv.cells) ∧ ((((((((((v2.setCell ⟨p + 1, 0, none⟩ (.int .u64 ep)).setCell ⟨p + 1, 1, none⟩ (.int .i64 kd)).setCell ⟨p + 1, 2, none⟩ (.int .i64 tid.1)).setCell ⟨p + 1, 3, none⟩ (.int .u64 tid.2)).setCell ⟨p + 1, 4, none⟩ (.bool plain)).setCell ⟨p + 1, 5, none⟩ (.slice xa xn xc)).setCell ⟨p + 1, 6, none⟩ (.slice ya yn yc)).setCell ⟨p + 1, 7, none⟩ (.int .i64 id.1)).setCell ⟨p + 1, 8, none⟩ (.int .u64 id.2)).setCell ⟨p + 1, 9, none⟩ (.int .i64 code)).ownsRow p 100 3 (.slice ya yn yc) l2.length (l2.flatMap Wrv.cells)) := ⟨owns_put10 HX1.out HZ2.out (by decide) _ _ _ _ _ _ _ _ _ _, owns_put10 HX2.out HZ2.out (by decide) _ _ _ _ _ _ _ _ _ _⟩
  refine wpAnyH_ready (rs := [12]) (by kernel_rfl) (by simp) ?_
  refine AllReadyH.cons rfl (fun K hK => ?_) AllReadyH.nil
  go_simp
  refine hK.out _ _ ?_ (fun hHeld => ?_)
  · exact ten_cells HPN.out
  clear hK K
  try simp only [Act.put, List.setIfInBounds_toArray, List.set_cons_zero, List.set_cons_succ]
  refine wpAnyH_done (by kernel_rfl) ?_ _
  refine NoPanic.normal ?_
  clear z0 z1 z2 z3 z4 z5 z6 z7 z8 z9 f0 f1 f2 f3 f4 f5 f6 f7 f8 f9 HZ2 HN2 HB2 HX1 HX2
  generalize ((((((((((v2.setCell ⟨p + 1, 0, none⟩ (.int .u64 ep)).setCell ⟨p + 1, 1, none⟩ (.int .i64 kd)).setCell ⟨p + 1, 2, none⟩ (.int .i64 tid.1)).setCell ⟨p + 1, 3, none⟩ (.int .u64 tid.2)).setCell ⟨p + 1, 4, none⟩ (.bool plain)).setCell ⟨p + 1, 5, none⟩ (.slice xa xn xc)).setCell ⟨p + 1, 6, none⟩ (.slice ya yn yc)).setCell ⟨p + 1, 7, none⟩ (.int .i64 id.1)).setCell ⟨p + 1, 8, none⟩ (.int .u64 id.2)).setCell ⟨p + 1, 9, none⟩ (.int .i64 code)) = wf at *
  obtain ⟨y0, y1, y2, y3, y4, y5, y6, y7, y8, y9⟩ := ten_cells HP.out
  go_wp2
  refine bodyPost_ret (v := .agg #[.int .u64 ep, .int .i64 kd, .int .i64 tid.1, .int .u64 tid.2, .bool plain, .slice xa xn xc, .slice ya yn yc, .int .i64 id.1, .int .u64 id.2, .int .i64 code]) (by simp [results, Try.results18, go_sem, y0, y1, y2, y3, y4, y5, y6, y7, y8, y9]) rfl ?_
  exact ⟨⟨_, _, rfl, by rw [hp]; exact HPF.out.1, by rw [hp]; exact HPF.out.2⟩, by rw [hp]; exact HPB.out⟩
end Go.Proofs.Ytlefaicdcomkjaa
