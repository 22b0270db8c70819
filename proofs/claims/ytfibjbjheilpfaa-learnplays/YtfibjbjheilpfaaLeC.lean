/- The program's Learn. -/
import Derived.Test.YtfibjbjheilpfaaLeB
namespace Go.Proofs.Ytfibjbjheilpfaa
open Go Go.RowKit
set_option linter.unusedVariables false
set_option linter.unusedSimpArgs false

theorem Le.frozen {w : World} {g : Nat} {F : Ch} (h : Le w g F) (i : Nat) : w.frozen? ⟨g, i, none⟩ = false := by
  obtain ⟨cur, h1, h2⟩ := h.box
  exact frozen_of_row w g i cur 49 h1
/-- a choice stored -/
abbrev put2 (w : World) (g i : Nat) (v : ByteArray) : World := (w.setCell ⟨g, i * 2, none⟩ (.string v)).setCell ⟨g, i * 2 + 1, none⟩ (.bool true)
theorem Le.stored {w : World} {g : Nat} {F : Ch} (h : Le w g F) (i : Nat) (hi : i < 400) (v : ByteArray) : Le (put2 w g i v) g (setC F i v) ∧ w.grownBy (put2 w g i v) (some g) := by
  obtain ⟨cur, h1, h2⟩ := h.box
  refine ⟨⟨⟨_, heap_setCell_same _ g (i * 2 + 1) _ 49 _ (heap_setCell_same w g (i * 2) cur 49 _ h1), fun k hk => ?_⟩⟩, ⟨rfl, rfl, rfl, by simp [World.setCell], fun k hk hne => ?_⟩⟩
  · obtain ⟨a, b⟩ := h2 k hk
    have sz : ∀ j, j < 400 → j * 2 < cur.size ∧ j * 2 + 1 < cur.size := fun j hj => ⟨(Array.getElem?_eq_some_iff.1 (h2 j hj).1).1, (Array.getElem?_eq_some_iff.1 (h2 j hj).2).1⟩
    have z := sz i hi
    rw [valC_set, hasC_set]
    by_cases e : k = i
    · subst e
      rw [if_pos rfl, if_pos rfl]
      constructor
      · rw [Array.getElem?_setIfInBounds_ne (by omega), Array.getElem?_setIfInBounds_self_of_lt z.1]
      · rw [Array.getElem?_setIfInBounds_self_of_lt (by simpa using z.2)]
    · rw [if_neg e, if_neg e]
      constructor
      · rw [Array.getElem?_setIfInBounds_ne (by omega), Array.getElem?_setIfInBounds_ne (by omega)]; exact a
      · rw [Array.getElem?_setIfInBounds_ne (by omega), Array.getElem?_setIfInBounds_ne (by omega)]; exact b
  · have : k ≠ g := fun e => hne (by rw [e])
    rw [Below.heap_setCell _ _ _ _ this, Below.heap_setCell _ _ _ _ this]

theorem grown_refl (w : World) (b : Option Nat) : w.grownBy w b := ⟨rfl, rfl, rfl, Nat.le_refl _, fun _ _ _ => rfl⟩
set_option maxRecDepth 100000 in
theorem learn_bad (g : Nat) (s : Int) (v : ByteArray) (w : World) (hv : v.size ≤ maxLen) (h : s < 0 ∨ 400 ≤ s ∨ 64 < v.size) :
    Calls Try.prog 8 #[.pointer (some ⟨g, 0, none⟩), .int .i64 s, .string v] w fun e w' => e = .returned (.int .i64 1) ∧ w' = w := by
  unfold maxLen at hv
  by_cases h1 : s < 0 ∨ 400 ≤ s
  · go_enter Try.func8, Try.ntmps8
    go_wp2_with (first | (go_at_call 20; refine (slot_out s w h1).mono ?_; rintro e w' ⟨rfl, rfl⟩) | fail)
    go_ret
    exact ⟨rfl, rfl⟩
  · have h2 : 64 < v.size := by omega
    go_enter Try.func8, Try.ntmps8
    go_wp2_with (first | (go_at_call 20; refine (slot_in s w (by omega) (by omega)).mono ?_; rintro e w' ⟨rfl, rfl⟩) | fail)
    go_ret
    exact ⟨rfl, rfl⟩
set_option maxRecDepth 100000 in
theorem learn_nil (s : Int) (v : ByteArray) (w : World) :
    Calls Try.prog 8 #[.pointer none, .int .i64 s, .string v] w fun e w' => e = .returned (.int .i64 2) ∧ w' = w := by
  go_enter Try.func8, Try.ntmps8
  go_wp2
  go_ret
  exact ⟨rfl, rfl⟩
set_option maxRecDepth 100000 in
theorem learn_same (g : Nat) (i : Nat) (u : ByteArray) (w : World) (c0 : w.cell? ⟨g, i * 2, none⟩ = some (.string u)) (c1 : w.cell? ⟨g, i * 2 + 1, none⟩ = some (.bool true)) (hi : i < 400) (hv : u.size ≤ 64) :
    Calls Try.prog 8 #[.pointer (some ⟨g, 0, none⟩), .int .i64 (i : Nat), .string u] w fun e w' => e = .returned (.int .i64 7) ∧ w' = w := by
  have hne : (u.toList != u.toList) = false := by simp
  go_enter Try.func8, Try.ntmps8
  go_wp2_with (first | (go_at_call 20; refine (slot_in _ w (by omega) (by omega)).mono ?_; rintro e w' ⟨rfl, rfl⟩) | fail)
  go_ret
  exact ⟨rfl, rfl⟩
set_option maxRecDepth 100000 in
theorem learn_other (g : Nat) (i : Nat) (u v : ByteArray) (w : World) (c0 : w.cell? ⟨g, i * 2, none⟩ = some (.string u)) (c1 : w.cell? ⟨g, i * 2 + 1, none⟩ = some (.bool true)) (hi : i < 400) (hv : v.size ≤ 64) (hne : (u.toList == v.toList) = false) :
    Calls Try.prog 8 #[.pointer (some ⟨g, 0, none⟩), .int .i64 (i : Nat), .string v] w fun e w' => e = .returned (.int .i64 10) ∧ w' = w := by
  go_enter Try.func8, Try.ntmps8
  go_wp2_with (first | (go_at_call 20; refine (slot_in _ w (by omega) (by omega)).mono ?_; rintro e w' ⟨rfl, rfl⟩) | fail)
  go_ret
  exact ⟨rfl, rfl⟩
theorem learn_had (g : Nat) (F : Ch) (i : Nat) (v : ByteArray) (w : World) (h : Le w g F) (hi : i < 400) (hv : v.size ≤ 64) (hh : hasC F i = true) :
    Calls Try.prog 8 #[.pointer (some ⟨g, 0, none⟩), .int .i64 (i : Nat), .string v] w fun e w' => e = .returned (.int .i64 (if valC F i = v then 7 else 10)) ∧ w' = w := by
  obtain ⟨c0, c1⟩ := h.cell i hi
  rw [hh] at c1
  by_cases hu : valC F i = v
  · rw [if_pos hu]
    rw [hu] at c0
    exact learn_same g i v w c0 c1 hi hv
  · rw [if_neg hu]
    exact learn_other g i _ v w c0 c1 hi hv (by rw [key_eq]; simp [hu])
set_option maxRecDepth 100000 in
theorem learn_new (g : Nat) (F : Ch) (i : Nat) (v : ByteArray) (w : World) (h : Le w g F) (hi : i < 400) (hv : v.size ≤ 64) (hh : hasC F i = false) :
    Calls Try.prog 8 #[.pointer (some ⟨g, 0, none⟩), .int .i64 (i : Nat), .string v] w fun e w' => e = .returned (.int .i64 0) ∧ w' = put2 w g i v := by
  obtain ⟨c0, c1⟩ := h.cell i hi
  have f0 := h.frozen (i * 2)
  have f1 := h.frozen (i * 2 + 1)
  rw [hh] at c1
  generalize valC F i = u at *
  clear h hh
  go_enter Try.func8, Try.ntmps8
  go_wp2_with (first | (go_at_call 20; refine (slot_in _ w (by omega) (by omega)).mono ?_; rintro e w' ⟨rfl, rfl⟩) | fail)
  go_ret
  exact ⟨rfl, rfl⟩
theorem learn_any (g : Nat) (F : Ch) (s : Int) (v : ByteArray) (w : World) (h : Le w g F) (hv : v.size ≤ maxLen) :
    Calls Try.prog 8 #[.pointer (some ⟨g, 0, none⟩), .int .i64 s, .string v] w fun e w' => e = .returned (.int .i64 (learnE F s v)) ∧ Le w' g (learnC F s v) ∧ w.grownBy w' (some g) := by
  by_cases h1 : s < 0 ∨ 400 ≤ s ∨ 64 < v.size
  · have e1 : learnE F s v = 1 := by unfold learnE; rw [if_pos h1]
    refine (learn_bad g s v w hv h1).mono ?_
    rintro e w' ⟨rfl, rfl⟩
    refine ⟨by rw [e1], ?_, grown_refl _ _⟩
    rw [learnC, if_neg (by rw [e1]; decide)]
    exact h
  · obtain ⟨i, rfl⟩ : ∃ i : Nat, s = (i : Nat) := ⟨s.toNat, by omega⟩
    have hi : i < 400 := by omega
    have hi2 : ((i : Nat) : Int).toNat = i := by omega
    cases hh : hasC F i with
    | true =>
      have e1 : learnE F (i : Nat) v = if valC F i = v then 7 else 10 := by unfold learnE; rw [if_neg h1, hi2, if_pos hh]
      refine (learn_had g F i v w h hi (by omega) hh).mono ?_
      rintro e w' ⟨rfl, rfl⟩
      refine ⟨by rw [e1], ?_, grown_refl _ _⟩
      rw [learnC, if_neg (by rw [e1]; split <;> decide)]
      exact h
    | false =>
      have e1 : learnE F (i : Nat) v = 0 := by unfold learnE; rw [if_neg h1, hi2, if_neg (by rw [hh]; decide)]
      refine (learn_new g F i v w h hi (by omega) hh).mono ?_
      rintro e w' ⟨rfl, rfl⟩
      refine ⟨by rw [e1], ?_, (h.stored i hi v).2⟩
      rw [learnC, if_pos e1, hi2]
      exact (h.stored i hi v).1
end Go.Proofs.Ytfibjbjheilpfaa
