/- What the law's own reader does: contracts. -/
import Derived.Test.YtbikepmnjgcgkaaOctH
namespace Go.Proofs.Ytbikepmnjgcgkaa
open Go.RowKit
set_option linter.unusedSimpArgs false

/-- the law's own reader in memory: all bytes, the place of the next one, is it bad -/
def Rf (w : World) (g : Nat) (a : Option Addr) (n cap : Nat) (bs : List Nat) (st : Option (List Nat)) : Prop :=
  ∃ p : Nat, p ≤ n ∧ w.heap[g]? = some (.cells #[.slice a n cap, .int .i64 p, .bool st.isNone] 45 (0, 0)) ∧ ∀ rest, st = some rest → rest = bs.drop p

theorem Rf.only {w wx : World} {g g' n cap : Nat} {a : Option Addr} {bs : List Nat} {st : Option (List Nat)} (h : Rf w g a n cap bs st) (ho : Only g' w wx) (hg : g ≠ g') : Rf wx g a n cap bs st := by
  obtain ⟨p, hp, hh, hst⟩ := h
  exact ⟨p, hp, by rw [ho.block g (Array.getElem?_eq_some_iff.1 hh).1 (by simp; omega)]; exact hh, hst⟩
theorem Rf.later {w wx : World} {g n cap : Nat} {a : Option Addr} {bs : List Nat} {st : Option (List Nat)} (h : Rf w g a n cap bs st) (hb : Below w.heap.size w wx) : Rf wx g a n cap bs st := by
  obtain ⟨p, hp, hh, hst⟩ := h
  exact ⟨p, hp, by rw [hb.block g (Array.getElem?_eq_some_iff.1 hh).1]; exact hh, hst⟩

theorem Below.only {g : Nat} {w w' : World} (h : Below w.heap.size w w') : Only g w w' := ⟨h.os, h.tape, h.output, h.size, fun k hk _ => h.block k hk⟩

set_option maxRecDepth 100000 in
set_option maxHeartbeats 4000000 in
theorem most_any (g : Nat) (a : Option Addr) (n cap most : Nat) (bs : List Nat) (st : Option (List Nat)) (w : World) (h : Rf w g a n cap bs st) (hr : Row w a n bs) (hc : n ≤ cap) (hm : cap ≤ maxLen) (hn : n ≤ 1000) :
    Calls Try.prog 60 #[.pointer (some ⟨g, 0, none⟩), .int .u64 most] w fun e w' => e = .returned (.int .u64 ((Oct.atMost most st).1 : Nat)) ∧ Rf w' g a n cap bs (Oct.atMost most st).2 ∧ Only g w w' := by
  obtain ⟨p, hp, hh, hst⟩ := h
  have c0 : w.cell? ⟨g, 0, none⟩ = some (.slice a n cap) := cell_of_heap hh rfl
  have c1 : w.cell? ⟨g, 1, none⟩ = some (.int .i64 p) := cell_of_heap hh rfl
  have c2 : w.cell? ⟨g, 2, none⟩ = some (.bool st.isNone) := cell_of_heap hh rfl
  have hlt : g < w.heap.size := (Array.getElem?_eq_some_iff.1 hh).1
  have hbytes : ∀ x ∈ bs.drop p, x < 256 := fun x hx => hr.2.1 x (List.mem_of_mem_drop hx)
  have hown := Oct.num_is (bs.drop p) hbytes
  have hbd := Oct.atMost_bad most (bs.drop p)
  have hgd := Oct.atMost_good most (bs.drop p)
  have hdl : (bs.drop p).length = n - p := by rw [List.length_drop, hr.1]
  obtain ⟨R, hR⟩ : ∃ R, R = Oct.num 0 0 (bs.drop p) := ⟨_, rfl⟩
  rw [← hR] at hown hbd hgd
  rw [hdl] at hown
  have HH : Hid (_ = _) := hh
  clear hh
  cases st with
  | none =>
    go_enter Try.func60, Try.ntmps60
    go_wp2_with fail
    have hd0 : Below w.heap.size w w.drew := (Below.refl _ _).drew
    refine wp_region_noPanic ?_
    refine wp_region_held_drew (S := (fun w' => w'.cell? ⟨g, 0, none⟩ = some (.slice a n cap) ∧ w'.cell? ⟨g, 1, none⟩ = some (.int .i64 p))) (by kernel_rfl) ?_ (fun hHeld => ?_)
    · exact ⟨c0, c1⟩
    refine held_take (i := 0) (d := 8) (v := ?_) rfl rfl (by kernel_rfl) (by kernel_rfl) (by kernel_rfl) (fun _ _ _ h => h) (Or.inl ⟨by rfl, ?_⟩) hHeld ?_
    rotate_left
    · (intro w hSw; (try dsimp only at hSw); go_simp; all_goals (with_reducible rfl))
    try simp only [Act.put, List.setIfInBounds_toArray, List.set_cons_zero, List.set_cons_succ]
    refine held_take (i := 1) (d := 9) (v := ?_) rfl rfl (by kernel_rfl) (by kernel_rfl) (by kernel_rfl) (fun _ _ _ h => h) (Or.inl ⟨by rfl, ?_⟩) hHeld ?_
    rotate_left
    · (intro w hSw; (try dsimp only at hSw); go_simp; all_goals (with_reducible rfl))
    try simp only [Act.put, List.setIfInBounds_toArray, List.set_cons_zero, List.set_cons_succ]
    refine held_take (i := 2) (d := 10) (v := ?_) rfl rfl (by kernel_rfl) (by kernel_rfl) (by kernel_rfl) (fun _ _ _ h => h) (Or.inl ⟨by rfl, ?_⟩) hHeld ?_
    rotate_left
    · (intro w hSw; (try dsimp only at hSw); go_simp; all_goals (with_reducible rfl))
    try simp only [Act.put, List.setIfInBounds_toArray, List.set_cons_zero, List.set_cons_succ]
    refine held_take (i := 3) (d := 11) (v := ?_) rfl rfl (by kernel_rfl) (by kernel_rfl) (by kernel_rfl) (fun _ _ _ h => h) (Or.inl ⟨by rfl, ?_⟩) hHeld ?_
    rotate_left
    · (intro w hSw; (try dsimp only at hSw); go_simp; all_goals (with_reducible rfl))
    try simp only [Act.put, List.setIfInBounds_toArray, List.set_cons_zero, List.set_cons_succ]
    refine held_take (i := 4) (d := 12) (v := ?_) rfl rfl (by kernel_rfl) (by kernel_rfl) (by kernel_rfl) (fun _ _ _ h => h) (Or.inl ⟨by rfl, ?_⟩) hHeld ?_
    rotate_left
    · (intro w hSw; (try dsimp only at hSw); go_simp; all_goals (with_reducible rfl))
    try simp only [Act.put, List.setIfInBounds_toArray, List.set_cons_zero, List.set_cons_succ]
    refine held_take (i := 5) (d := 13) (v := ?_) rfl rfl (by kernel_rfl) (by kernel_rfl) (by kernel_rfl) (fun _ _ _ h => h) (Or.inl ⟨by rfl, ?_⟩) hHeld ?_
    rotate_left
    · (intro w hSw; (try dsimp only at hSw); go_simp; all_goals (with_reducible rfl))
    try simp only [Act.put, List.setIfInBounds_toArray, List.set_cons_zero, List.set_cons_succ]
    refine held_take (i := 6) (d := 14) (v := ?_) rfl rfl (by kernel_rfl) (by kernel_rfl) (by kernel_rfl) (fun _ _ _ h => h) (Or.inl ⟨by rfl, ?_⟩) hHeld ?_
    rotate_left
    · (intro w hSw; (try dsimp only at hSw); go_simp; all_goals (with_reducible rfl))
    try simp only [Act.put, List.setIfInBounds_toArray, List.set_cons_zero, List.set_cons_succ]
    refine held_take (i := 7) (d := 15) (v := ?_) rfl rfl (by kernel_rfl) (by kernel_rfl) (by kernel_rfl) (fun _ _ _ h => h) (Or.inl ⟨by rfl, ?_⟩) hHeld ?_
    rotate_left
    · (intro w hSw; (try dsimp only at hSw); go_simp; all_goals (with_reducible rfl))
    try simp only [Act.put, List.setIfInBounds_toArray, List.set_cons_zero, List.set_cons_succ]
    refine wpAnyH_ready (rs := [8]) (by kernel_rfl) (by simp) ?_
    refine AllReadyH.cons rfl (fun K hK => ?_) AllReadyH.nil
    go_simp
    refine (ref_number_any _ _ _ _ _ _ (hr.later hd0) hc hm hp hn).mono ?_
    rw [← hR]
    rintro e w2 ⟨rfl, hb2⟩
    replace hb2 : Below w.heap.size w w2 := hd0.trans hb2
    go_wp2_with fail
    refine hK.out _ _ ?_ (fun hHeld => ?_)
    · exact ⟨cell_later hb2 c0, cell_later hb2 c1⟩
    clear hK K
    try simp only [Act.put, List.setIfInBounds_toArray, List.set_cons_zero, List.set_cons_succ]
    refine held_take (i := 9) (d := 7) (v := ?_) rfl rfl (by kernel_rfl) (by kernel_rfl) (by kernel_rfl) (fun _ _ _ h => h) (Or.inl ⟨by rfl, ?_⟩) hHeld ?_
    rotate_left
    · (intro w hSw; (try dsimp only at hSw); go_simp; all_goals (with_reducible rfl))
    try simp only [Act.put, List.setIfInBounds_toArray, List.set_cons_zero, List.set_cons_succ]
    refine held_take (i := 10) (d := 17) (v := ?_) rfl rfl (by kernel_rfl) (by kernel_rfl) (by kernel_rfl) (fun _ _ _ h => h) (Or.inl ⟨by rfl, ?_⟩) hHeld ?_
    rotate_left
    · (intro w hSw; (try dsimp only at hSw); go_simp; all_goals (with_reducible rfl))
    try simp only [Act.put, List.setIfInBounds_toArray, List.set_cons_zero, List.set_cons_succ]
    refine held_take (i := 11) (d := 18) (v := ?_) rfl rfl (by kernel_rfl) (by kernel_rfl) (by kernel_rfl) (fun _ _ _ h => h) (Or.inl ⟨by rfl, ?_⟩) hHeld ?_
    rotate_left
    · (intro w hSw; (try dsimp only at hSw); go_simp; all_goals (with_reducible rfl))
    try simp only [Act.put, List.setIfInBounds_toArray, List.set_cons_zero, List.set_cons_succ]
    refine held_take (i := 12) (d := 5) (v := ?_) rfl rfl (by kernel_rfl) (by kernel_rfl) (by kernel_rfl) (fun _ _ _ h => h) (Or.inl ⟨by rfl, ?_⟩) hHeld ?_
    rotate_left
    · (intro w hSw; (try dsimp only at hSw); go_simp; all_goals (with_reducible rfl))
    try simp only [Act.put, List.setIfInBounds_toArray, List.set_cons_zero, List.set_cons_succ]
    refine held_take (i := 13) (d := 6) (v := ?_) rfl rfl (by kernel_rfl) (by kernel_rfl) (by kernel_rfl) (fun _ _ _ h => h) (Or.inl ⟨by rfl, ?_⟩) hHeld ?_
    rotate_left
    · (intro w hSw; (try dsimp only at hSw); go_simp; all_goals (with_reducible rfl))
    try simp only [Act.put, List.setIfInBounds_toArray, List.set_cons_zero, List.set_cons_succ]
    refine wpAnyH_done (by kernel_rfl) ?_ _
    refine NoPanic.normal ?_
    clear hHeld
    have d2 := cell_later hb2 c2
    have hh2 : w2.heap[g]? = _ := (hb2.block g hlt).trans HH.out
    have f2 : w2.frozen? ⟨g, 2, none⟩ = false := frozen_of_heap hh2
    have HH2 : Hid (_ = _) := hh2
    clear hh2 hR
    go_wp2
    go_ret
    exact ⟨rfl, ⟨p, hp, heap_setCell_same _ g 2 _ 45 _ HH2.out, fun rest h1 => by cases h1⟩, (Below.only hb2).trans (Only.set _ _ _ _)⟩
  | some rest0 =>
    obtain rfl := hst rest0 rfl
    obtain ⟨q, k⟩ := R
    simp only at hown hbd hgd
    by_cases hbad : k = 0 ∨ most < q
    · rw [hbd hbad]
      go_enter Try.func60, Try.ntmps60
      go_wp2_with fail
      have hd0 : Below w.heap.size w w.drew := (Below.refl _ _).drew
      refine wp_region_noPanic ?_
      refine wp_region_held_drew (S := (fun w' => w'.cell? ⟨g, 0, none⟩ = some (.slice a n cap) ∧ w'.cell? ⟨g, 1, none⟩ = some (.int .i64 p))) (by kernel_rfl) ?_ (fun hHeld => ?_)
      · exact ⟨c0, c1⟩
      refine held_take (i := 0) (d := 8) (v := ?_) rfl rfl (by kernel_rfl) (by kernel_rfl) (by kernel_rfl) (fun _ _ _ h => h) (Or.inl ⟨by rfl, ?_⟩) hHeld ?_
      rotate_left
      · (intro w hSw; (try dsimp only at hSw); go_simp; all_goals (with_reducible rfl))
      try simp only [Act.put, List.setIfInBounds_toArray, List.set_cons_zero, List.set_cons_succ]
      refine held_take (i := 1) (d := 9) (v := ?_) rfl rfl (by kernel_rfl) (by kernel_rfl) (by kernel_rfl) (fun _ _ _ h => h) (Or.inl ⟨by rfl, ?_⟩) hHeld ?_
      rotate_left
      · (intro w hSw; (try dsimp only at hSw); go_simp; all_goals (with_reducible rfl))
      try simp only [Act.put, List.setIfInBounds_toArray, List.set_cons_zero, List.set_cons_succ]
      refine held_take (i := 2) (d := 10) (v := ?_) rfl rfl (by kernel_rfl) (by kernel_rfl) (by kernel_rfl) (fun _ _ _ h => h) (Or.inl ⟨by rfl, ?_⟩) hHeld ?_
      rotate_left
      · (intro w hSw; (try dsimp only at hSw); go_simp; all_goals (with_reducible rfl))
      try simp only [Act.put, List.setIfInBounds_toArray, List.set_cons_zero, List.set_cons_succ]
      refine held_take (i := 3) (d := 11) (v := ?_) rfl rfl (by kernel_rfl) (by kernel_rfl) (by kernel_rfl) (fun _ _ _ h => h) (Or.inl ⟨by rfl, ?_⟩) hHeld ?_
      rotate_left
      · (intro w hSw; (try dsimp only at hSw); go_simp; all_goals (with_reducible rfl))
      try simp only [Act.put, List.setIfInBounds_toArray, List.set_cons_zero, List.set_cons_succ]
      refine held_take (i := 4) (d := 12) (v := ?_) rfl rfl (by kernel_rfl) (by kernel_rfl) (by kernel_rfl) (fun _ _ _ h => h) (Or.inl ⟨by rfl, ?_⟩) hHeld ?_
      rotate_left
      · (intro w hSw; (try dsimp only at hSw); go_simp; all_goals (with_reducible rfl))
      try simp only [Act.put, List.setIfInBounds_toArray, List.set_cons_zero, List.set_cons_succ]
      refine held_take (i := 5) (d := 13) (v := ?_) rfl rfl (by kernel_rfl) (by kernel_rfl) (by kernel_rfl) (fun _ _ _ h => h) (Or.inl ⟨by rfl, ?_⟩) hHeld ?_
      rotate_left
      · (intro w hSw; (try dsimp only at hSw); go_simp; all_goals (with_reducible rfl))
      try simp only [Act.put, List.setIfInBounds_toArray, List.set_cons_zero, List.set_cons_succ]
      refine held_take (i := 6) (d := 14) (v := ?_) rfl rfl (by kernel_rfl) (by kernel_rfl) (by kernel_rfl) (fun _ _ _ h => h) (Or.inl ⟨by rfl, ?_⟩) hHeld ?_
      rotate_left
      · (intro w hSw; (try dsimp only at hSw); go_simp; all_goals (with_reducible rfl))
      try simp only [Act.put, List.setIfInBounds_toArray, List.set_cons_zero, List.set_cons_succ]
      refine held_take (i := 7) (d := 15) (v := ?_) rfl rfl (by kernel_rfl) (by kernel_rfl) (by kernel_rfl) (fun _ _ _ h => h) (Or.inl ⟨by rfl, ?_⟩) hHeld ?_
      rotate_left
      · (intro w hSw; (try dsimp only at hSw); go_simp; all_goals (with_reducible rfl))
      try simp only [Act.put, List.setIfInBounds_toArray, List.set_cons_zero, List.set_cons_succ]
      refine wpAnyH_ready (rs := [8]) (by kernel_rfl) (by simp) ?_
      refine AllReadyH.cons rfl (fun K hK => ?_) AllReadyH.nil
      go_simp
      refine (ref_number_any _ _ _ _ _ _ (hr.later hd0) hc hm hp hn).mono ?_
      rw [← hR]
      rintro e w2 ⟨rfl, hb2⟩
      replace hb2 : Below w.heap.size w w2 := hd0.trans hb2
      go_wp2_with fail
      refine hK.out _ _ ?_ (fun hHeld => ?_)
      · exact ⟨cell_later hb2 c0, cell_later hb2 c1⟩
      clear hK K
      try simp only [Act.put, List.setIfInBounds_toArray, List.set_cons_zero, List.set_cons_succ]
      refine held_take (i := 9) (d := 7) (v := ?_) rfl rfl (by kernel_rfl) (by kernel_rfl) (by kernel_rfl) (fun _ _ _ h => h) (Or.inl ⟨by rfl, ?_⟩) hHeld ?_
      rotate_left
      · (intro w hSw; (try dsimp only at hSw); go_simp; all_goals (with_reducible rfl))
      try simp only [Act.put, List.setIfInBounds_toArray, List.set_cons_zero, List.set_cons_succ]
      refine held_take (i := 10) (d := 17) (v := ?_) rfl rfl (by kernel_rfl) (by kernel_rfl) (by kernel_rfl) (fun _ _ _ h => h) (Or.inl ⟨by rfl, ?_⟩) hHeld ?_
      rotate_left
      · (intro w hSw; (try dsimp only at hSw); go_simp; all_goals (with_reducible rfl))
      try simp only [Act.put, List.setIfInBounds_toArray, List.set_cons_zero, List.set_cons_succ]
      refine held_take (i := 11) (d := 18) (v := ?_) rfl rfl (by kernel_rfl) (by kernel_rfl) (by kernel_rfl) (fun _ _ _ h => h) (Or.inl ⟨by rfl, ?_⟩) hHeld ?_
      rotate_left
      · (intro w hSw; (try dsimp only at hSw); go_simp; all_goals (with_reducible rfl))
      try simp only [Act.put, List.setIfInBounds_toArray, List.set_cons_zero, List.set_cons_succ]
      refine held_take (i := 12) (d := 5) (v := ?_) rfl rfl (by kernel_rfl) (by kernel_rfl) (by kernel_rfl) (fun _ _ _ h => h) (Or.inl ⟨by rfl, ?_⟩) hHeld ?_
      rotate_left
      · (intro w hSw; (try dsimp only at hSw); go_simp; all_goals (with_reducible rfl))
      try simp only [Act.put, List.setIfInBounds_toArray, List.set_cons_zero, List.set_cons_succ]
      refine held_take (i := 13) (d := 6) (v := ?_) rfl rfl (by kernel_rfl) (by kernel_rfl) (by kernel_rfl) (fun _ _ _ h => h) (Or.inl ⟨by rfl, ?_⟩) hHeld ?_
      rotate_left
      · (intro w hSw; (try dsimp only at hSw); go_simp; all_goals (with_reducible rfl))
      try simp only [Act.put, List.setIfInBounds_toArray, List.set_cons_zero, List.set_cons_succ]
      refine wpAnyH_done (by kernel_rfl) ?_ _
      refine NoPanic.normal ?_
      clear hHeld
      have d2 := cell_later hb2 c2
      have hh2 : w2.heap[g]? = _ := (hb2.block g hlt).trans HH.out
      have f2 : w2.frozen? ⟨g, 2, none⟩ = false := frozen_of_heap hh2
      have HH2 : Hid (_ = _) := hh2
      clear hh2 hR
      by_cases hk : k = 0
      · subst hk
        go_wp2
        go_ret
        exact ⟨rfl, ⟨p, hp, heap_setCell_same _ g 2 _ 45 _ HH2.out, fun rest h1 => by cases h1⟩, (Below.only hb2).trans (Only.set _ _ _ _)⟩
      · have hq : (most : Int) < (q : Int) := by omega
        have hk0 : ((k : Int) == 0) = false := by simp; omega
        go_wp2
        go_ret
        exact ⟨rfl, ⟨p, hp, heap_setCell_same _ g 2 _ 45 _ HH2.out, fun rest h1 => by cases h1⟩, (Below.only hb2).trans (Only.set _ _ _ _)⟩
    · rw [hgd hbad]
      have hkn := (hown (by omega)).2.1
      go_enter Try.func60, Try.ntmps60
      go_wp2_with fail
      have hd0 : Below w.heap.size w w.drew := (Below.refl _ _).drew
      refine wp_region_noPanic ?_
      refine wp_region_held_drew (S := (fun w' => w'.cell? ⟨g, 0, none⟩ = some (.slice a n cap) ∧ w'.cell? ⟨g, 1, none⟩ = some (.int .i64 p))) (by kernel_rfl) ?_ (fun hHeld => ?_)
      · exact ⟨c0, c1⟩
      refine held_take (i := 0) (d := 8) (v := ?_) rfl rfl (by kernel_rfl) (by kernel_rfl) (by kernel_rfl) (fun _ _ _ h => h) (Or.inl ⟨by rfl, ?_⟩) hHeld ?_
      rotate_left
      · (intro w hSw; (try dsimp only at hSw); go_simp; all_goals (with_reducible rfl))
      try simp only [Act.put, List.setIfInBounds_toArray, List.set_cons_zero, List.set_cons_succ]
      refine held_take (i := 1) (d := 9) (v := ?_) rfl rfl (by kernel_rfl) (by kernel_rfl) (by kernel_rfl) (fun _ _ _ h => h) (Or.inl ⟨by rfl, ?_⟩) hHeld ?_
      rotate_left
      · (intro w hSw; (try dsimp only at hSw); go_simp; all_goals (with_reducible rfl))
      try simp only [Act.put, List.setIfInBounds_toArray, List.set_cons_zero, List.set_cons_succ]
      refine held_take (i := 2) (d := 10) (v := ?_) rfl rfl (by kernel_rfl) (by kernel_rfl) (by kernel_rfl) (fun _ _ _ h => h) (Or.inl ⟨by rfl, ?_⟩) hHeld ?_
      rotate_left
      · (intro w hSw; (try dsimp only at hSw); go_simp; all_goals (with_reducible rfl))
      try simp only [Act.put, List.setIfInBounds_toArray, List.set_cons_zero, List.set_cons_succ]
      refine held_take (i := 3) (d := 11) (v := ?_) rfl rfl (by kernel_rfl) (by kernel_rfl) (by kernel_rfl) (fun _ _ _ h => h) (Or.inl ⟨by rfl, ?_⟩) hHeld ?_
      rotate_left
      · (intro w hSw; (try dsimp only at hSw); go_simp; all_goals (with_reducible rfl))
      try simp only [Act.put, List.setIfInBounds_toArray, List.set_cons_zero, List.set_cons_succ]
      refine held_take (i := 4) (d := 12) (v := ?_) rfl rfl (by kernel_rfl) (by kernel_rfl) (by kernel_rfl) (fun _ _ _ h => h) (Or.inl ⟨by rfl, ?_⟩) hHeld ?_
      rotate_left
      · (intro w hSw; (try dsimp only at hSw); go_simp; all_goals (with_reducible rfl))
      try simp only [Act.put, List.setIfInBounds_toArray, List.set_cons_zero, List.set_cons_succ]
      refine held_take (i := 5) (d := 13) (v := ?_) rfl rfl (by kernel_rfl) (by kernel_rfl) (by kernel_rfl) (fun _ _ _ h => h) (Or.inl ⟨by rfl, ?_⟩) hHeld ?_
      rotate_left
      · (intro w hSw; (try dsimp only at hSw); go_simp; all_goals (with_reducible rfl))
      try simp only [Act.put, List.setIfInBounds_toArray, List.set_cons_zero, List.set_cons_succ]
      refine held_take (i := 6) (d := 14) (v := ?_) rfl rfl (by kernel_rfl) (by kernel_rfl) (by kernel_rfl) (fun _ _ _ h => h) (Or.inl ⟨by rfl, ?_⟩) hHeld ?_
      rotate_left
      · (intro w hSw; (try dsimp only at hSw); go_simp; all_goals (with_reducible rfl))
      try simp only [Act.put, List.setIfInBounds_toArray, List.set_cons_zero, List.set_cons_succ]
      refine held_take (i := 7) (d := 15) (v := ?_) rfl rfl (by kernel_rfl) (by kernel_rfl) (by kernel_rfl) (fun _ _ _ h => h) (Or.inl ⟨by rfl, ?_⟩) hHeld ?_
      rotate_left
      · (intro w hSw; (try dsimp only at hSw); go_simp; all_goals (with_reducible rfl))
      try simp only [Act.put, List.setIfInBounds_toArray, List.set_cons_zero, List.set_cons_succ]
      refine wpAnyH_ready (rs := [8]) (by kernel_rfl) (by simp) ?_
      refine AllReadyH.cons rfl (fun K hK => ?_) AllReadyH.nil
      go_simp
      refine (ref_number_any _ _ _ _ _ _ (hr.later hd0) hc hm hp hn).mono ?_
      rw [← hR]
      rintro e w2 ⟨rfl, hb2⟩
      replace hb2 : Below w.heap.size w w2 := hd0.trans hb2
      go_wp2_with fail
      refine hK.out _ _ ?_ (fun hHeld => ?_)
      · exact ⟨cell_later hb2 c0, cell_later hb2 c1⟩
      clear hK K
      try simp only [Act.put, List.setIfInBounds_toArray, List.set_cons_zero, List.set_cons_succ]
      refine held_take (i := 9) (d := 7) (v := ?_) rfl rfl (by kernel_rfl) (by kernel_rfl) (by kernel_rfl) (fun _ _ _ h => h) (Or.inl ⟨by rfl, ?_⟩) hHeld ?_
      rotate_left
      · (intro w hSw; (try dsimp only at hSw); go_simp; all_goals (with_reducible rfl))
      try simp only [Act.put, List.setIfInBounds_toArray, List.set_cons_zero, List.set_cons_succ]
      refine held_take (i := 10) (d := 17) (v := ?_) rfl rfl (by kernel_rfl) (by kernel_rfl) (by kernel_rfl) (fun _ _ _ h => h) (Or.inl ⟨by rfl, ?_⟩) hHeld ?_
      rotate_left
      · (intro w hSw; (try dsimp only at hSw); go_simp; all_goals (with_reducible rfl))
      try simp only [Act.put, List.setIfInBounds_toArray, List.set_cons_zero, List.set_cons_succ]
      refine held_take (i := 11) (d := 18) (v := ?_) rfl rfl (by kernel_rfl) (by kernel_rfl) (by kernel_rfl) (fun _ _ _ h => h) (Or.inl ⟨by rfl, ?_⟩) hHeld ?_
      rotate_left
      · (intro w hSw; (try dsimp only at hSw); go_simp; all_goals (with_reducible rfl))
      try simp only [Act.put, List.setIfInBounds_toArray, List.set_cons_zero, List.set_cons_succ]
      refine held_take (i := 12) (d := 5) (v := ?_) rfl rfl (by kernel_rfl) (by kernel_rfl) (by kernel_rfl) (fun _ _ _ h => h) (Or.inl ⟨by rfl, ?_⟩) hHeld ?_
      rotate_left
      · (intro w hSw; (try dsimp only at hSw); go_simp; all_goals (with_reducible rfl))
      try simp only [Act.put, List.setIfInBounds_toArray, List.set_cons_zero, List.set_cons_succ]
      refine held_take (i := 13) (d := 6) (v := ?_) rfl rfl (by kernel_rfl) (by kernel_rfl) (by kernel_rfl) (fun _ _ _ h => h) (Or.inl ⟨by rfl, ?_⟩) hHeld ?_
      rotate_left
      · (intro w hSw; (try dsimp only at hSw); go_simp; all_goals (with_reducible rfl))
      try simp only [Act.put, List.setIfInBounds_toArray, List.set_cons_zero, List.set_cons_succ]
      refine wpAnyH_done (by kernel_rfl) ?_ _
      refine NoPanic.normal ?_
      clear hHeld
      have d1 := cell_later hb2 c1
      have d2 := cell_later hb2 c2
      have hh2 : w2.heap[g]? = _ := (hb2.block g hlt).trans HH.out
      have f1 : w2.frozen? ⟨g, 1, none⟩ = false := frozen_of_heap hh2
      have HH2 : Hid (_ = _) := hh2
      have hq : ¬ (most : Int) < (q : Int) := by omega
      have hk0 : ((k : Int) == 0) = false := by simp; omega
      clear hh2 hR
      go_wp2
      go_ret
      refine ⟨rfl, ⟨p + k, by omega, ?_, fun rest h1 => ?_⟩, (Below.only hb2).trans (Only.set _ _ _ _)⟩
      · have h3 := heap_setCell_same _ g 1 _ 45 (.int .i64 ((p + k : Nat) : Int)) HH2.out
        have e : ((p + k : Nat) : Int) = (p : Int) + (k : Int) := by omega
        rw [e] at h3
        rw [e]
        exact h3
      · simp only [Option.some.injEq] at h1
        rw [← h1]

theorem refn_any (g : Nat) (a : Option Addr) (n cap : Nat) (bs : List Nat) (st : Option (List Nat)) (w : World) (h : Rf w g a n cap bs st) (hr : Row w a n bs) (hc : n ≤ cap) (hm : cap ≤ maxLen) (hn : n ≤ 1000) :
    Calls Try.prog 51 #[.pointer (some ⟨g, 0, none⟩)] w fun e w' => e = .returned (.int .u64 ((Oct.atMost 18446744073709551615 st).1 : Nat)) ∧ Rf w' g a n cap bs (Oct.atMost 18446744073709551615 st).2 ∧ Only g w w' := by
  have hc := most_any g a n cap 18446744073709551615 bs st w h hr hc hm hn
  generalize Oct.atMost 18446744073709551615 st = R at hc ⊢
  go_enter Try.func51, Try.ntmps51
  go_wp2_with fail
  refine hc.mono ?_
  rintro e w2 ⟨rfl, h2, h3⟩
  go_wp2
  go_ret
  exact ⟨rfl, h2, h3⟩

theorem Rf.bytes {w : World} {g n cap : Nat} {a : Option Addr} {bs : List Nat} {st : Option (List Nat)} (h : Rf w g a n cap bs st) (hr : Row w a n bs) : ∀ cs, st = some cs → ∀ x ∈ cs, x < 256 := by
  intro cs hs x hx
  obtain ⟨p, _, _, h1⟩ := h
  rw [h1 cs hs] at hx
  exact hr.2.1 x (List.mem_of_mem_drop hx)

theorem refint_any (g : Nat) (a : Option Addr) (n cap : Nat) (most : Int) (bs : List Nat) (st : Option (List Nat)) (w : World) (h : Rf w g a n cap bs st) (hr : Row w a n bs) (hc : n ≤ cap) (hm : cap ≤ maxLen) (hn : n ≤ 1000) (hmo : most ≤ 9223372036854775807) :
    Calls Try.prog 52 #[.pointer (some ⟨g, 0, none⟩), .int .i64 most] w fun e w' => e = .returned (.int .i64 ((Oct.atMostI most st).1 : Nat)) ∧ Rf w' g a n cap bs (Oct.atMostI most st).2 ∧ Only g w w' := by
  obtain ⟨hf1, _⟩ := atMostI_facts most st (h.bytes hr) hmo
  by_cases h0 : most < 0
  · have e : Oct.atMostI most st = (0, none) := by simp [Oct.atMostI, h0]
    rw [e]
    clear e hf1
    obtain ⟨p, hp, hh, hst⟩ := h
    have c2 : w.cell? ⟨g, 2, none⟩ = some (.bool st.isNone) := cell_of_heap hh rfl
    have f2 : w.frozen? ⟨g, 2, none⟩ = false := frozen_of_heap hh
    have HH : Hid (_ = _) := hh
    clear hh
    go_enter Try.func52, Try.ntmps52
    go_wp2
    go_ret
    exact ⟨rfl, ⟨p, hp, heap_setCell_same _ g 2 _ 45 _ HH.out, fun rest h1 => by cases h1⟩, Only.set _ _ _ _⟩
  · obtain ⟨m, rfl⟩ : ∃ m : Nat, most = (m : Int) := ⟨most.toNat, by omega⟩
    have e : Oct.atMostI (m : Int) st = Oct.atMost m st := by simp [Oct.atMostI, h0]
    rw [e] at hf1 ⊢
    clear e
    have hc := most_any g a n cap m bs st w h hr hc hm hn
    generalize Oct.atMost m st = R at hc hf1 ⊢
    go_enter Try.func52, Try.ntmps52
    go_wp2_with fail
    refine hc.mono ?_
    rintro e w2 ⟨rfl, h2, h3⟩
    go_wp2
    go_ret
    exact ⟨rfl, h2, h3⟩

theorem refleft_any (g : Nat) (a : Option Addr) (n cap : Nat) (bs : List Nat) (st : Option (List Nat)) (w : World) (h : Rf w g a n cap bs st) (hlen : bs.length = n) (hn : n ≤ 1000) :
    Calls Try.prog 26 #[.pointer (some ⟨g, 0, none⟩)] w fun e w' => e = .returned (.int .i64 ((st.getD []).length : Nat)) ∧ ∃ k, w' = w.drewN k := by
  obtain ⟨p, hp, hh, hst⟩ := h
  have c0 : w.cell? ⟨g, 0, none⟩ = some (.slice a n cap) := cell_of_heap hh rfl
  have c1 : w.cell? ⟨g, 1, none⟩ = some (.int .i64 p) := cell_of_heap hh rfl
  have c2 : w.cell? ⟨g, 2, none⟩ = some (.bool st.isNone) := cell_of_heap hh rfl
  clear hh
  cases st with
  | none =>
    go_enter Try.func26, Try.ntmps26
    go_wp2
    go_ret
    exact ⟨rfl, 0, rfl⟩
  | some rest =>
    have hl : rest.length = n - p := by rw [hst rest rfl, List.length_drop, hlen]
    clear hst
    have e : ((((some rest : Option (List Nat)).getD []).length : Nat) : Int) = (n : Int) - (p : Int) := by simp only [Option.getD_some]; omega
    rw [e]
    clear e hl
    go_enter Try.func26, Try.ntmps26
    go_wp2
    go_quiet (fail)
    go_wp2
    go_ret
    exact ⟨rfl, _, rfl⟩
end Go.Proofs.Ytbikepmnjgcgkaa
