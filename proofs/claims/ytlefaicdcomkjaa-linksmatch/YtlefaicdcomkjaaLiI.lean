/- The program's Cut: a contract. -/
import Derived.Test.YtlefaicdcomkjaaLiH
namespace Go.Proofs.Ytlefaicdcomkjaa
open Go Go.RowKit
set_option linter.unusedVariables false
set_option linter.unusedSimpArgs false

theorem delete_same (a : Option Addr) (n cap : Nat) (w : World) (h1 : n ≤ cap) (hm : cap ≤ maxLen) (h0 : a = none → cap = 0) : Calls Try.prog 42 #[.slice a n cap, .int .i64 (n : Nat), .int .i64 (n : Nat)] w fun e w' => e = .returned (.slice a n cap) ∧ w' = w := by
  have hm' : cap ≤ 2 ^ 63 - 1 := hm
  cases a with
  | none =>
    obtain rfl : cap = 0 := h0 rfl
    obtain rfl : n = 0 := by omega
    go_enter Try.func42, Try.ntmps42
    go_wp2
    go_ret
    exact ⟨rfl, rfl⟩
  | some ad =>
    have hb : ((n : Int) == (n : Nat)) = true := by simp
    go_enter Try.func42, Try.ntmps42
    go_wp2
    go_ret
    exact ⟨rfl, rfl⟩
theorem flat_take (L : List Ev) (n : Nat) (hn : n ≤ L.length) : (L.flatMap Ev.cells).take (n * 10) = (L.take n).flatMap Ev.cells := by
  have e : L.flatMap Ev.cells = (L.take n).flatMap Ev.cells ++ (L.drop n).flatMap Ev.cells := by rw [← List.flatMap_append, List.take_append_drop]
  have hl : ((L.take n).flatMap Ev.cells).length = n * 10 := by rw [flat_length Ev.cells 10 (fun _ => rfl), List.length_take, Nat.min_eq_left hn]
  rw [e, ← hl, List.take_left]
/-- Delete of a log's end -/
theorem delete_any (g : Nat) (ob : Option Nat) (L : List Ev) (a : Option Addr) (c n : Nat) (w : World) (h : Lg w g ob L) (ho : w.ownsRow 0 45 10 (.slice a L.length c) L.length (L.flatMap Ev.cells)) (hob : (Value.slice a L.length c).ownBlock = ob) (hn : n ≤ L.length) :
    Calls Try.prog 42 #[.slice a L.length c, .int .i64 (n : Nat), .int .i64 (L.length : Nat)] w fun e w' => (∃ x y z, e = .returned (.slice x y z) ∧ (Value.slice x y z).ownBlock = ob ∧ w'.ownsRow 0 45 10 (.slice x y z) (L.take n).length ((L.take n).flatMap Ev.cells)) ∧ Kp w w' g ob ∧ w'.heap[g]? = w.heap[g]? := by
  obtain ⟨a', c', e, h1, h2, h3, -⟩ := ev_at ho
  simp only [Value.slice.injEq, true_and] at e
  obtain ⟨rfl, rfl⟩ := e
  by_cases he : n = L.length
  · subst he
    refine (delete_same a L.length c w h1 h2 (fun e => (h3 e).1)).mono ?_
    rintro e w' ⟨rfl, rfl⟩
    exact ⟨⟨_, _, _, rfl, hob, by rw [List.take_length]; exact ho⟩, Kp.of (Below.refl _ _), rfl⟩
  · rcases ho.2 with ⟨_, h0⟩ | ⟨b, cap, cur, hv, hg, hh, hnn, hm, hs, ht⟩
    · omega
    · simp only [Value.slice.injEq, true_and] at hv
      obtain ⟨rfl, rfl⟩ := hv
      refine (delete_tail b c L.length n cur w hh hs hnn hm (by omega)).mono ?_
      rintro e w' ⟨rfl, ⟨cur', hh', hs', ht'⟩, hgr⟩
      have hbo : some b = ob := hob
      have hgb : g ≠ b := fun e => by
        have t1 := h.tags.1
        rw [e, tagOf_heap hh] at t1
        cases t1
      refine ⟨⟨_, _, _, rfl, hob, by rw [flat_length Ev.cells 10 (fun _ => rfl)], .inr ⟨b, c, cur', by rw [List.length_take, Nat.min_eq_left hn], Nat.zero_le _, hh', by rw [List.length_take]; omega, hm, hs', ?_⟩⟩, ⟨hgr.os, hgr.tape, hgr.output, hgr.size, fun k hk _ h2 => hgr.block k hk (by rw [hbo]; exact h2)⟩, hgr.block g h.lt (by simp; exact hgb)⟩
      rw [List.length_take, Nat.min_eq_left hn, ht']
      have e2 : (cur.toList.take (L.length * 10)).take (n * 10) = (L.flatMap Ev.cells).take (n * 10) := by rw [ht]
      rw [List.take_take, Nat.min_eq_left (by omega)] at e2
      rw [e2, flat_take L n hn]
theorem cut_bad (g : Nat) (ob : Option Nat) (L : List Ev) (n : Int) (w : World) (h : Lg w g ob L) (hn : n < 0 ∨ L.length < n) : Calls Try.prog 30 #[.pointer (some ⟨g, 0, none⟩), .int .i64 n] w fun e w' => e = .returned (.int .i64 1) ∧ w' = w := by
  have h1 := len_any g ob L w h
  clear h
  by_cases h2 : n < 0
  · go_enter Try.func30, Try.ntmps30
    go_wp2
    go_ret
    exact ⟨rfl, rfl⟩
  · have hd : decide (n < 0) = false := by simpa using h2
    have hd2 : decide ((L.length : Int) < n) = true := by simp; omega
    go_enter Try.func30, Try.ntmps30
    go_wp2_with (first | (go_at_call 27; refine h1.mono ?_; rintro e wz ⟨rfl, hwz⟩; subst wz) | fail)
    go_ret
    exact ⟨rfl, rfl⟩
set_option maxRecDepth 100000 in
set_option maxHeartbeats 4000000 in
theorem cut_any (g : Nat) (ob : Option Nat) (L : List Ev) (n : Nat) (w : World) (h : Lg w g ob L) (hn : n ≤ L.length) (hl : L.length ≤ 1000000) :
    Calls Try.prog 30 #[.pointer (some ⟨g, 0, none⟩), .int .i64 (n : Nat)] w fun e w' => e = .returned (.int .i64 0) ∧ Lg w' g ob (L.take n) ∧ Kp w w' g ob := by
  have h1 := len_any g ob L w h
  have HL : Hid (Lg w g ob L) := h
  obtain ⟨la, lc, hg, ho, hc, hob⟩ := h.cell
  have HG : Hid (w.heap[g]? = some (.cells #[.slice la L.length lc] 77 (0, 0))) := hg
  have HO : Hid (w.ownsRow 0 45 10 (.slice la L.length lc) L.length (L.flatMap Ev.cells)) := ho
  have HOB : Hid ((Value.slice la L.length lc).ownBlock = ob) := hob
  have hc0 : w.drew.cell? ⟨g, 0, none⟩ = some (.slice la L.length lc) := hc
  have hd2 : decide ((L.length : Int) < (n : Nat)) = false := by simp; omega
  have hd : decide (((n : Nat) : Int) < 0) = false := by simp
  clear h hg ho hob hc
  go_enter Try.func30, Try.ntmps30
  go_wp2_with (first | (go_at_call 27; refine h1.mono ?_; rintro e wz ⟨rfl, hwz⟩; subst wz) | fail)
  refine wp_region_noPanic ?_
  refine wp_region_letz 11 (fun w' => w'.cell? ⟨g, 0, none⟩ = some (.slice la L.length lc)) (by kernel_rfl) ?_ (fun hHeld => ?_)
  · exact hc0
  refine letz_take (i := 0) (d := 17) (v := ?_) rfl rfl (by kernel_rfl) (by kernel_rfl) (by kernel_rfl) (by kernel_rfl) (fun _ _ _ h => h) (Or.inl ⟨by rfl, ?_⟩) hHeld ?_
  rotate_left
  · (intro w hSw; (try dsimp only at hSw); go_simp; all_goals (with_reducible rfl))
  try simp only [Act.put, List.setIfInBounds_toArray, List.set_cons_zero, List.set_cons_succ]
  refine letz_take (i := 1) (d := 18) (v := ?_) rfl rfl (by kernel_rfl) (by kernel_rfl) (by kernel_rfl) (by kernel_rfl) (fun _ _ _ h => h) (Or.inl ⟨by rfl, ?_⟩) hHeld ?_
  rotate_left
  · (intro w hSw; (try dsimp only at hSw); go_simp; all_goals (with_reducible rfl))
  try simp only [Act.put, List.setIfInBounds_toArray, List.set_cons_zero, List.set_cons_succ]
  refine letz_take (i := 2) (d := 19) (v := ?_) rfl rfl (by kernel_rfl) (by kernel_rfl) (by kernel_rfl) (by kernel_rfl) (fun _ _ _ h => h) (Or.inl ⟨by rfl, ?_⟩) hHeld ?_
  rotate_left
  · (intro w hSw; (try dsimp only at hSw); go_simp; all_goals (with_reducible rfl))
  try simp only [Act.put, List.setIfInBounds_toArray, List.set_cons_zero, List.set_cons_succ]
  refine letz_take (i := 3) (d := 20) (v := ?_) rfl rfl (by kernel_rfl) (by kernel_rfl) (by kernel_rfl) (by kernel_rfl) (fun _ _ _ h => h) (Or.inl ⟨by rfl, ?_⟩) hHeld ?_
  rotate_left
  · (intro w hSw; (try dsimp only at hSw); go_simp; all_goals (with_reducible rfl))
  try simp only [Act.put, List.setIfInBounds_toArray, List.set_cons_zero, List.set_cons_succ]
  refine letz_take (i := 4) (d := 21) (v := ?_) rfl rfl (by kernel_rfl) (by kernel_rfl) (by kernel_rfl) (by kernel_rfl) (fun _ _ _ h => h) (Or.inl ⟨by rfl, ?_⟩) hHeld ?_
  rotate_left
  · (intro w hSw; (try dsimp only at hSw); go_simp; all_goals (with_reducible rfl))
  try simp only [Act.put, List.setIfInBounds_toArray, List.set_cons_zero, List.set_cons_succ]
  refine letz_take (i := 5) (d := 22) (v := ?_) rfl rfl (by kernel_rfl) (by kernel_rfl) (by kernel_rfl) (by kernel_rfl) (fun _ _ _ h => h) (Or.inl ⟨by rfl, ?_⟩) hHeld ?_
  rotate_left
  · (intro w hSw; (try dsimp only at hSw); go_simp; all_goals (with_reducible rfl))
  try simp only [Act.put, List.setIfInBounds_toArray, List.set_cons_zero, List.set_cons_succ]
  refine letz_take (i := 6) (d := 23) (v := ?_) rfl rfl (by kernel_rfl) (by kernel_rfl) (by kernel_rfl) (by kernel_rfl) (fun _ _ _ h => h) (Or.inl ⟨by rfl, ?_⟩) hHeld ?_
  rotate_left
  · (intro w hSw; (try dsimp only at hSw); go_simp; all_goals (with_reducible rfl))
  try simp only [Act.put, List.setIfInBounds_toArray, List.set_cons_zero, List.set_cons_succ]
  refine letz_one (i := 7) (by kernel_rfl) rfl (fun K hK => ?_)
  go_simp
  refine (len_any g ob L w.drew (HL.out.drews 1)).mono ?_
  rintro e wz ⟨rfl, hwz⟩
  subst wz
  go_wp2_with fail
  refine hK.out _ _ ?_ (fun hHeld => ?_)
  · exact fun _ => hc0
  replace hHeld := hHeld (by kernel_rfl)
  clear hK K
  try simp only [Act.put, List.setIfInBounds_toArray, List.set_cons_zero, List.set_cons_succ]
  refine letz_one (i := 8) (by kernel_rfl) rfl (fun K hK => ?_)
  go_simp
  refine (delete_any g ob L la lc n w.drew (HL.out.drews 1) HO.out HOB.out (by omega)).mono ?_
  rintro e v2 ⟨⟨x, y, z, rfl, hob2, ho2⟩, hk2, hg2⟩
  have hg2 : v2.heap[g]? = some (.cells #[.slice la L.length lc] 77 (0, 0)) := hg2.trans HG.out
  have hc2 : v2.cell? ⟨g, 0, none⟩ = some (.slice la L.length lc) := cell_of_heap hg2 rfl
  have f2 : v2.frozen? ⟨g, 0, none⟩ = false := frozen_of_row v2 g 0 _ 77 hg2
  have HFIN : Hid (Lg (v2.setCell ⟨g, 0, none⟩ (.slice x y z)) g ob (L.take n) ∧ Kp w (v2.setCell ⟨g, 0, none⟩ (.slice x y z)) g ob) := by
    have k2 : Kp w (v2.setCell ⟨g, 0, none⟩ (.slice x y z)) g ob := ⟨hk2.os, hk2.tape, hk2.output, by have := hk2.size; simpa [World.setCell] using this, fun k hk h1 h2 => (Below.heap_setCell _ _ _ _ h1).trans (hk2.block k hk h1 h2)⟩
    exact ⟨⟨⟨_, heap_setCell_same v2 g 0 _ 77 _ hg2, (Fr.setCell (base := 0) (T := [77]) (a := ⟨g, 0, none⟩) _ (Nat.zero_le _) (by simp) (tagOf_heap hg2)).owns ho2 (by decide), hob2⟩, fun e he => (HL.out.mem e (List.mem_of_mem_take he)).keep HL.out k2⟩, k2⟩
  clear hob2 ho2 hk2
  go_wp2_with fail
  refine hK.out _ _ ?_ (fun hHeld => ?_)
  · exact fun _ => hc2
  replace hHeld := hHeld (by kernel_rfl)
  clear hK K
  try simp only [Act.put, List.setIfInBounds_toArray, List.set_cons_zero, List.set_cons_succ]
  refine letz_one (i := 9) (by kernel_rfl) rfl (fun K hK => ?_)
  go_simp
  refine hK.out _ _ ?_ (fun hHeld => ?_)
  · exact fun _ => hc2
  replace hHeld := hHeld (by kernel_rfl)
  clear hK K
  try simp only [Act.put, List.setIfInBounds_toArray, List.set_cons_zero, List.set_cons_succ]
  refine letz_one (i := 10) (by kernel_rfl) rfl (fun K hK => ?_)
  go_simp
  refine hK.out _ _ ?_ (fun hHeld => ?_)
  · exact fun _ => hc2
  replace hHeld := hHeld (by kernel_rfl)
  clear hK K
  try simp only [Act.put, List.setIfInBounds_toArray, List.set_cons_zero, List.set_cons_succ]
  refine letz_one (i := 11) (by kernel_rfl) rfl (fun K hK => ?_)
  go_simp
  refine hK.out _ _ ?_ (fun hHeld => ?_)
  · exact fun h => absurd h (by decide)
  clear hHeld
  clear hK K
  try simp only [Act.put, List.setIfInBounds_toArray, List.set_cons_zero, List.set_cons_succ]
  refine letz_done (by kernel_rfl) ?_ _
  refine NoPanic.normal ?_
  go_wp2
  go_ret
  exact ⟨rfl, HFIN.out.1, HFIN.out.2⟩
end Go.Proofs.Ytlefaicdcomkjaa
