/- The program's has, Prefix, Top. -/
import Derived.Test.YtfibjbjheilpfaaLeA
namespace Go.Proofs.Ytfibjbjheilpfaa
open Go Go.RowKit
set_option linter.unusedVariables false
set_option linter.unusedSimpArgs false

theorem Le.drews {w : World} {g : Nat} {F : Ch} (h : Le w g F) (n : Nat) : Le (w.drewN n) g F := h.box.elim fun cur hc => ⟨cur, hc⟩
theorem has_in (g : Nat) (F : Ch) (i : Nat) (w : World) (h : Le w g F) (hi : i < 400) :
    Calls Try.prog 21 #[.pointer (some ⟨g, 0, none⟩), .int .i64 (i : Nat)] w fun e w' => e = .returned (.bool (hasC F i)) ∧ ∃ n, w' = w.drewN n := by
  go_enter Try.func21, Try.ntmps21
  go_wp2_with (first | (go_at_call 14; refine (val_in g F i w h hi).mono ?_; rintro e w' ⟨rfl, n, rfl⟩) | fail)
  go_ret
  exact ⟨rfl, _, rfl⟩
theorem has_out (g : Nat) (s : Int) (w : World) (h : s < 0 ∨ 400 ≤ s) :
    Calls Try.prog 21 #[.pointer (some ⟨g, 0, none⟩), .int .i64 s] w fun e w' => e = .returned (.bool false) ∧ w' = w := by
  go_enter Try.func21, Try.ntmps21
  go_wp2_with (first | (go_at_call 14; refine (val_out g s w h).mono ?_; rintro e w' ⟨rfl, rfl⟩) | fail)
  go_ret
  exact ⟨rfl, rfl⟩
theorem has_nil (s : Int) (w : World) :
    Calls Try.prog 21 #[.pointer none, .int .i64 s] w fun e w' => e = .returned (.bool false) ∧ w' = w := by
  go_enter Try.func21, Try.ntmps21
  go_wp2_with (first | (go_at_call 14; refine (val_nil s w).mono ?_; rintro e w' ⟨rfl, rfl⟩) | fail)
  go_ret
  exact ⟨rfl, rfl⟩
theorem drewN_add (w : World) (a b : Nat) : (w.drewN a).drewN b = w.drewN (a + b) := by simp [World.drewN, Nat.add_assoc]
set_option maxRecDepth 100000 in
theorem prefix_any (g : Nat) (F : Ch) (w : World) (h : Le w g F) :
    Calls Try.prog 10 #[.pointer (some ⟨g, 0, none⟩)] w fun e w' => e = .returned (.int .i64 (prefC F : Nat)) ∧ ∃ n, w' = w.drewN n := by
  have HL : Hid (Le w g F) := h
  clear h
  go_enter Try.func10, Try.ntmps10
  go_wp2
  go_loopw [3] (fun t wr => ∃ k d : Nat, t = .int .i64 (k : Nat) ∧ k ≤ 400 ∧ Hid (∀ i, i < k → hasC F i = true) ∧ wr = w.drewN d) (fun t _ => 400 - (intOf t).toNat)
  case atStart => exact ⟨0, 0, rfl, by omega, fun i hi => absurd hi (Nat.not_lt_zero i), rfl⟩
  case round =>
    obtain ⟨k, d, rfl, hk, HH, rfl⟩ := hrel
    by_cases hlt : k < 400
    · by_cases hc : hasC F k = true
      · have h1 := has_in g F k (w.drewN d) (HL.out.drews d) hlt
        rw [hc] at h1
        have HC : Hid (hasC F k = true) := hc
        clear hc
        go_wp2_with (first | (go_at_call 21; refine h1.mono ?_; rintro e w' ⟨rfl, n, rfl⟩) | fail)
        go_roundw
        case rel => exact ⟨k + 1, _, by go_num, by omega, fun i hi => by by_cases e : i = k; (· rw [e]; exact HC.out); exact HH.out i (by omega), rfl⟩
        case measure => simp [intOf]; omega
      · have hc2 : hasC F k = false := by simpa using hc
        have h1 := has_in g F k (w.drewN d) (HL.out.drews d) hlt
        rw [hc2] at h1
        have HP : Hid (prefC F = k) := prefC_is F k hk HH.out (fun _ => hc2)
        clear hc hc2
        go_wp2_with (first | (go_at_call 21; refine h1.mono ?_; rintro e w' ⟨rfl, n, rfl⟩) | fail)
        go_ret
        exact ⟨by rw [HP.out]; rfl, _, rfl⟩
    · have HP : Hid (prefC F = k) := prefC_is F k hk HH.out (fun h => absurd h hlt)
      have h1 := has_out g (k : Nat) (w.drewN d) (.inr (by omega))
      go_wp2_with (first | (go_at_call 21; refine h1.mono ?_; rintro e w' ⟨rfl, rfl⟩) | fail)
      go_ret
      exact ⟨by rw [HP.out]; rfl, _, rfl⟩
set_option maxRecDepth 100000 in
theorem prefix_nil (w : World) : Calls Try.prog 10 #[.pointer none] w fun e w' => e = .returned (.int .i64 0) ∧ w' = w := by
  go_enter Try.func10, Try.ntmps10
  go_wp2
  refine wp_loop_rounds 1 ?_
  rw [rounds_succ]
  go_wp2_with (first | (go_at_call 21; refine (has_nil 0 w).mono ?_; rintro e w' ⟨rfl, rfl⟩) | fail)
  go_ret
  exact ⟨rfl, rfl⟩
set_option maxRecDepth 100000 in
theorem top_any (g : Nat) (F : Ch) (w : World) (h : Le w g F) :
    Calls Try.prog 12 #[.pointer (some ⟨g, 0, none⟩)] w fun e w' => e = .returned (.int .i64 (topC F : Nat)) ∧ ∃ n, w' = w.drewN n := by
  have HL : Hid (Le w g F) := h
  clear h
  go_enter Try.func12, Try.ntmps12
  go_wp2
  go_loopw [3] (fun t wr => ∃ k d : Nat, t = .int .i64 (k : Nat) ∧ k ≤ 400 ∧ Hid (∀ i, k ≤ i → i < 400 → hasC F i = false) ∧ wr = w.drewN d) (fun t _ => (intOf t).toNat)
  case atStart => exact ⟨400, 0, rfl, by omega, fun i hi h => absurd h (by omega), rfl⟩
  case round =>
    obtain ⟨k, d, rfl, hk, HH, rfl⟩ := hrel
    cases k with
    | zero =>
      have HP : Hid (topC F = 0) := topC_is F 0 hk HH.out (fun h => absurd h (Nat.lt_irrefl 0))
      go_wp2
      go_ret
      exact ⟨by rw [HP.out]; rfl, _, rfl⟩
    | succ j =>
      have hj : ((j : Nat) : Int) + 1 - 1 = (j : Nat) := by omega
      by_cases hc : hasC F j = true
      · have h1 := has_in g F j (w.drewN d) (HL.out.drews d) (by omega)
        rw [hc] at h1
        have HP : Hid (topC F = j + 1) := topC_is F (j + 1) hk HH.out (fun _ => hc)
        clear hc
        go_wp2_with (first | (go_at_call 21; refine h1.mono ?_; rintro e w' ⟨rfl, n, rfl⟩) | fail)
        go_ret
        exact ⟨by rw [HP.out]; rfl, _, rfl⟩
      · have hc2 : hasC F j = false := by simpa using hc
        have h1 := has_in g F j (w.drewN d) (HL.out.drews d) (by omega)
        rw [hc2] at h1
        have HC : Hid (hasC F j = false) := hc2
        clear hc hc2
        go_wp2_with (first | (go_at_call 21; refine h1.mono ?_; rintro e w' ⟨rfl, n, rfl⟩) | fail)
        go_roundw
        case rel => exact ⟨j, _, by go_num, by omega, fun i hi h => by by_cases e : i = j; (· rw [e]; exact HC.out); exact HH.out i (by omega) h, rfl⟩
        case measure => simp [intOf]
set_option maxRecDepth 100000 in
theorem top_nil (w : World) : Calls Try.prog 12 #[.pointer none] w fun e w' => e = .returned (.int .i64 0) ∧ w' = w := by
  go_enter Try.func12, Try.ntmps12
  go_wp2
  go_loop [3] (fun t => ∃ k : Nat, t = .int .i64 (k : Nat) ∧ k ≤ 400) (fun t => (intOf t).toNat)
  case atStart => exact ⟨400, rfl, by omega⟩
  case round =>
    obtain ⟨k, rfl, hk⟩ := hrel
    cases k with
    | zero =>
      go_wp2
      go_ret
      exact ⟨rfl, rfl⟩
    | succ j =>
      have hj : ((j : Nat) : Int) + 1 - 1 = (j : Nat) := by omega
      go_wp2_with (first | (go_at_call 21; refine (has_nil _ w).mono ?_; rintro e w' ⟨rfl, rfl⟩) | fail)
      go_round
      case rel => exact ⟨j, by go_num, by omega⟩
      case measure => simp [intOf]
end Go.Proofs.Ytfibjbjheilpfaa
