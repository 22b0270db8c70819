/- What the laws' own reading of a frame does: contracts. -/
import Derived.Test.YtiemgdclhjdmlaaDoorFrC
namespace Go.Proofs.YtiemgdclhjdmlaaDoor
open Go.RowKit
set_option linter.unusedVariables false

theorem refnext_none (a : Option Addr) (n cap : Nat) (w : World) (hm : n ≤ maxLen) :
    Calls Tryd.prog 45 #[.slice a n cap, .int .i64 (n : Nat)] w fun e w' => e = .returned (.tuple #[.slice none 0 0, .int .i64 0, .int .i64 6]) ∧ w' = w := by
  unfold maxLen at hm
  go_enter Tryd.func45, Tryd.ntmps45
  go_wp2
  go_ret3
  exact ⟨rfl, rfl⟩
theorem refnext_mark (b off n cap : Nat) (p x : Nat) (w : World) (hp : p < n) (hm : n ≤ maxLen) (h0 : w.cell? ⟨b, off + p, none⟩ = some (.int .u8 (x : Nat))) (h : x ≠ 197) :
    Calls Tryd.prog 45 #[.slice (some ⟨b, off, none⟩) n cap, .int .i64 (p : Nat)] w fun e w' => e = .returned (.tuple #[.slice none 0 0, .int .i64 0, .int .i64 3]) ∧ w' = w := by
  unfold maxLen at hm
  have hx1 : ((x : Int) == 197) = false := by simp; omega
  have hl : ((n : Int) - (p : Int) == 0) = false := by simp; omega
  go_enter Tryd.func45, Tryd.ntmps45
  go_wp2
  go_ret3
  exact ⟨rfl, rfl⟩
theorem refnext_few (b off n cap : Nat) (p : Nat) (w : World) (hp : p < n) (h3 : n - p < 3) (hm : n ≤ maxLen) (h0 : w.cell? ⟨b, off + p, none⟩ = some (.int .u8 197)) :
    Calls Tryd.prog 45 #[.slice (some ⟨b, off, none⟩) n cap, .int .i64 (p : Nat)] w fun e w' => e = .returned (.tuple #[.slice none 0 0, .int .i64 0, .int .i64 4]) ∧ w' = w := by
  unfold maxLen at hm
  have hl : ((n : Int) - (p : Int) == 0) = false := by simp; omega
  have hl3 : (n : Int) - (p : Int) < 3 := by omega
  go_enter Tryd.func45, Tryd.ntmps45
  go_wp2
  go_ret3
  exact ⟨rfl, rfl⟩
theorem refnext_zero (b off n cap : Nat) (p : Nat) (w : World) (h3 : p + 3 ≤ n) (hm : n ≤ maxLen) (h0 : w.cell? ⟨b, off + p, none⟩ = some (.int .u8 197))
    (h1 : w.cell? ⟨b, off + (p + 1), none⟩ = some (.int .u8 0)) (h2 : w.cell? ⟨b, off + (p + 2), none⟩ = some (.int .u8 0)) :
    Calls Tryd.prog 45 #[.slice (some ⟨b, off, none⟩) n cap, .int .i64 (p : Nat)] w fun e w' => e = .returned (.tuple #[.slice none 0 0, .int .i64 0, .int .i64 3]) ∧ Below w.heap.size w w' := by
  unfold maxLen at hm
  have hl : ((n : Int) - (p : Int) == 0) = false := by simp; omega
  have hl3 : ¬ (n : Int) - (p : Int) < 3 := by omega
  go_enter Tryd.func45, Tryd.ntmps45
  go_wp2
  go_quiet (fail)
  go_wp2
  go_ret3
  exact ⟨rfl, drewN_below (Below.refl _ _) _⟩
theorem refnext_more (b off n cap : Nat) (p x y : Nat) (w : World) (h3 : p + 3 ≤ n) (hx : x < 256) (hy : y < 256) (hm : n ≤ maxLen) (h0 : w.cell? ⟨b, off + p, none⟩ = some (.int .u8 197))
    (h1 : w.cell? ⟨b, off + (p + 1), none⟩ = some (.int .u8 (x : Nat))) (h2 : w.cell? ⟨b, off + (p + 2), none⟩ = some (.int .u8 (y : Nat))) (hz : 256 * x + y ≠ 0) (hl7 : n - p < 7 + (256 * x + y)) :
    Calls Tryd.prog 45 #[.slice (some ⟨b, off, none⟩) n cap, .int .i64 (p : Nat)] w fun e w' => e = .returned (.tuple #[.slice none 0 0, .int .i64 0, .int .i64 4]) ∧ Below w.heap.size w w' := by
  unfold maxLen at hm
  have hl : ((n : Int) - (p : Int) == 0) = false := by simp; omega
  have hl3 : ¬ (n : Int) - (p : Int) < 3 := by omega
  have hz0 : ((256 * (x : Int) + (y : Int)) == 0) = false := by simp; omega
  have hl9 : (n : Int) - (p : Int) < 7 + (256 * (x : Int) + (y : Int)) := by omega
  go_enter Tryd.func45, Tryd.ntmps45
  go_wp2
  go_quiet (fail)
  go_wp2
  go_ret3
  exact ⟨rfl, drewN_below (Below.refl _ _) _⟩
set_option maxRecDepth 100000 in
set_option maxHeartbeats 1000000 in
theorem refnext_sum (b off n cap : Nat) (p x y m : Nat) (ds : List Nat) (w : World) (h3 : p + 3 ≤ n) (hx : x < 256) (hy : y < 256) (hm : cap ≤ maxLen) (hnc : n ≤ cap) (h0 : w.cell? ⟨b, off + p, none⟩ = some (.int .u8 197))
    (h1 : w.cell? ⟨b, off + (p + 1), none⟩ = some (.int .u8 (x : Nat))) (h2 : w.cell? ⟨b, off + (p + 2), none⟩ = some (.int .u8 (y : Nat))) (hxy : 256 * x + y = m) (hz : m ≠ 0) (hl7 : p + (7 + m) ≤ n)
    (hr1 : Row w (some ⟨b, off + (p + 1), none⟩) (2 + m) ((ds.drop 1).take (2 + m))) (hr2 : Row w (some ⟨b, off + (p + 3 + m), none⟩) 4 ((ds.drop (3 + m)).take 4)) (hcmp : Crc.four (Crc.of ((ds.drop 1).take (2 + m))) ≠ (ds.drop (3 + m)).take 4) :
    Calls Tryd.prog 45 #[.slice (some ⟨b, off, none⟩) n cap, .int .i64 (p : Nat)] w fun e w' => e = .returned (.tuple #[.slice none 0 0, .int .i64 0, .int .i64 5]) ∧ Below w.heap.size w w' := by
  unfold maxLen at hm
  have hl : ((n : Int) - (p : Int) == 0) = false := by simp; omega
  have hl3 : ¬ (n : Int) - (p : Int) < 3 := by omega
  have hz0 : ((256 * (x : Int) + (y : Int)) == 0) = false := by simp; omega
  have hmi : 256 * (x : Int) + (y : Int) = (m : Int) := by omega
  have hm0 : ((m : Int) == 0) = false := by simp; omega
  have hl9 : ¬ (n : Int) - (p : Int) < 7 + (m : Int) := by omega
  have hm6 : m < 65536 := by omega
  obtain ⟨P1, hP1⟩ : ∃ P, p + 1 = P := ⟨_, rfl⟩
  obtain ⟨P3, hP3⟩ : ∃ P, p + 3 + m = P := ⟨_, rfl⟩
  obtain ⟨P7, hP7⟩ : ∃ P, p + 7 + m = P := ⟨_, rfl⟩
  have hx1 : IntKind.i64.wrap ((p : Int) + 1) = (P1 : Int) := by rw [IntWalk.i64_in _ ⟨by omega, by omega⟩]; omega
  have hx3 : IntKind.i64.wrap (IntKind.i64.wrap ((p : Int) + 3) + (m : Int)) = (P3 : Int) := by rw [IntWalk.i64_in ((p : Int) + 3) ⟨by omega, by omega⟩, IntWalk.i64_in _ ⟨by omega, by omega⟩]; omega
  have hx7 : IntKind.i64.wrap (IntKind.i64.wrap ((p : Int) + 7) + (m : Int)) = (P7 : Int) := by rw [IntWalk.i64_in ((p : Int) + 7) ⟨by omega, by omega⟩, IntWalk.i64_in _ ⟨by omega, by omega⟩]; omega
  have hc3 : (P3 : Int) ≤ (cap : Int) := by omega
  have hc7 : (P7 : Int) ≤ (cap : Int) := by omega
  have hm1 : (P1 : Int) ≤ max (P3 : Int) 0 := by omega
  have hm3 : (P3 : Int) ≤ max (P7 : Int) 0 := by omega
  have hn1 : ¬ cap = P1 := by omega
  have h13 : P1 ≤ P3 := by omega
  have h37 : P3 ≤ P7 := by omega
  have hn3 : ¬ cap = P3 := by omega
  have HR1 : Hid (Row w (some ⟨b, off + P1, none⟩) (P3 - P1) ((ds.drop 1).take (2 + m))) := by unfold Hid; rw [← hP1, ← hP3, show p + 3 + m - (p + 1) = 2 + m by omega]; exact hr1
  have HR2 : Hid (Row w (some ⟨b, off + P3, none⟩) (P7 - P3) ((ds.drop (3 + m)).take 4)) := by unfold Hid; rw [← hP3, ← hP7, show p + 7 + m - (p + 3 + m) = 4 by omega]; exact hr2
  have HX : Hid (IntKind.i64.wrap ((p : Int) + 1) = (P1 : Int) ∧ IntKind.i64.wrap (IntKind.i64.wrap ((p : Int) + 3) + (m : Int)) = (P3 : Int) ∧ IntKind.i64.wrap (IntKind.i64.wrap ((p : Int) + 7) + (m : Int)) = (P7 : Int)) := ⟨hx1, hx3, hx7⟩
  have HPP : Hid (P3 = p + 3 + m ∧ P1 = p + 1 ∧ P7 = p + 7 + m) := ⟨hP3.symm, hP1.symm, hP7.symm⟩
  clear hr1 hr2 hx1 hx3 hx7 hP1 hP3 hP7
  go_enter Tryd.func45, Tryd.ntmps45
  go_wp2
  go_quiet (fail)
  clear h0 h1 h2
  go_wp2_with fail
  have hx1 := HX.out.1
  have hx3 := HX.out.2.1
  have hx7 := HX.out.2.2
  have hd0 : Below w.heap.size w (w.drewN nq).drew := (drewN_below (Below.refl _ _) _).drew
  have HS : Hid (∀ w', Below w.heap.size w w' → Below w.heap.size w w' ∧ (convert 42 9 (.slice (some ⟨b, off + P3, none⟩) (P7 - P3) (cap - P3))).run Tryd.prog w' = .ok (.string (str ((ds.drop (3 + m)).take 4))) w') := fun w' hb => ⟨hb, conv_row (HR2.out.later hb) _⟩
  refine wp_region_noPanic ?_
  refine wp_region_held_drew (S := (fun w' => Below w.heap.size w w' ∧ (convert 42 9 (.slice (some ⟨b, off + P3, none⟩) (P7 - P3) (cap - P3))).run Tryd.prog w' = .ok (.string (str ((ds.drop (3 + m)).take 4))) w')) (by kernel_rfl) ?_ (fun hHeld => ?_)
  · exact HS.out _ hd0
  refine held_take (i := 0) (d := 42) (v := ?_) rfl rfl (by kernel_rfl) (by kernel_rfl) (by kernel_rfl) (fun _ _ _ h => h) (Or.inl ⟨by rfl, ?_⟩) hHeld ?_
  rotate_left
  · (intro w hSw; (try dsimp only at hSw); go_simp; all_goals (with_reducible rfl))
  try simp only [Act.put, List.setIfInBounds_toArray, List.set_cons_zero, List.set_cons_succ]
  refine held_take (i := 1) (d := 43) (v := ?_) rfl rfl (by kernel_rfl) (by kernel_rfl) (by kernel_rfl) (fun _ _ _ h => h) (Or.inl ⟨by rfl, ?_⟩) hHeld ?_
  rotate_left
  · (intro w hSw; (try dsimp only at hSw); go_simp; all_goals (with_reducible rfl))
  try simp only [Act.put, List.setIfInBounds_toArray, List.set_cons_zero, List.set_cons_succ]
  refine held_take (i := 2) (d := 44) (v := ?_) rfl rfl (by kernel_rfl) (by kernel_rfl) (by kernel_rfl) (fun _ _ _ h => h) (Or.inl ⟨by rfl, ?_⟩) hHeld ?_
  rotate_left
  · (intro w hSw; (try dsimp only at hSw); go_simp; all_goals (with_reducible rfl))
  try simp only [Act.put, List.setIfInBounds_toArray, List.set_cons_zero, List.set_cons_succ]
  refine held_take (i := 3) (d := 45) (v := ?_) rfl rfl (by kernel_rfl) (by kernel_rfl) (by kernel_rfl) (fun _ _ _ h => h) (Or.inl ⟨by rfl, ?_⟩) hHeld ?_
  rotate_left
  · (intro w hSw; (try dsimp only at hSw); go_simp; all_goals (with_reducible rfl))
  try simp only [Act.put, List.setIfInBounds_toArray, List.set_cons_zero, List.set_cons_succ]
  refine held_take (i := 4) (d := 46) (v := ?_) rfl rfl (by kernel_rfl) (by kernel_rfl) (by kernel_rfl) (fun _ _ _ h => h) (Or.inl ⟨by rfl, ?_⟩) hHeld ?_
  rotate_left
  · (intro w hSw; (try dsimp only at hSw); go_simp; all_goals (with_reducible rfl))
  try simp only [Act.put, List.setIfInBounds_toArray, List.set_cons_zero, List.set_cons_succ]
  refine held_take (i := 5) (d := 47) (v := ?_) rfl rfl (by kernel_rfl) (by kernel_rfl) (by kernel_rfl) (fun _ _ _ h => h) (Or.inl ⟨by rfl, ?_⟩) hHeld ?_
  rotate_left
  · (intro w hSw; (try dsimp only at hSw); go_simp; all_goals (with_reducible rfl))
  try simp only [Act.put, List.setIfInBounds_toArray, List.set_cons_zero, List.set_cons_succ]
  refine held_take (i := 6) (d := 48) (v := ?_) rfl rfl (by kernel_rfl) (by kernel_rfl) (by kernel_rfl) (fun _ _ _ h => h) (Or.inl ⟨by rfl, ?_⟩) hHeld ?_
  rotate_left
  · (intro w hSw; (try dsimp only at hSw); go_simp; all_goals (with_reducible rfl))
  try simp only [Act.put, List.setIfInBounds_toArray, List.set_cons_zero, List.set_cons_succ]
  refine held_take (i := 7) (d := 49) (v := ?_) rfl rfl (by kernel_rfl) (by kernel_rfl) (by kernel_rfl) (fun _ _ _ h => h) (Or.inl ⟨by rfl, ?_⟩) hHeld ?_
  rotate_left
  · (intro w hSw; (try dsimp only at hSw); go_simp; all_goals (with_reducible rfl))
  try simp only [Act.put, List.setIfInBounds_toArray, List.set_cons_zero, List.set_cons_succ]
  refine held_take (i := 11) (d := 53) (v := ?_) rfl rfl (by kernel_rfl) (by kernel_rfl) (by kernel_rfl) (fun _ _ _ h => h) (Or.inl ⟨by rfl, ?_⟩) hHeld ?_
  rotate_left
  · (intro w hSw; (try dsimp only at hSw); go_simp; all_goals (with_reducible rfl))
  try simp only [Act.put, List.setIfInBounds_toArray, List.set_cons_zero, List.set_cons_succ]
  refine held_take (i := 12) (d := 54) (v := ?_) rfl rfl (by kernel_rfl) (by kernel_rfl) (by kernel_rfl) (fun _ _ _ h => h) (Or.inl ⟨by rfl, ?_⟩) hHeld ?_
  rotate_left
  · (intro w hSw; (try dsimp only at hSw); go_simp; all_goals (with_reducible rfl))
  try simp only [Act.put, List.setIfInBounds_toArray, List.set_cons_zero, List.set_cons_succ]
  refine held_take (i := 13) (d := 55) (v := ?_) rfl rfl (by kernel_rfl) (by kernel_rfl) (by kernel_rfl) (fun _ _ _ h => h) (Or.inl ⟨by rfl, ?_⟩) hHeld ?_
  rotate_left
  · (intro w hSw; (try dsimp only at hSw); go_simp; all_goals (with_reducible rfl))
  try simp only [Act.put, List.setIfInBounds_toArray, List.set_cons_zero, List.set_cons_succ]
  refine held_take (i := 14) (d := 56) (v := ?_) rfl rfl (by kernel_rfl) (by kernel_rfl) (by kernel_rfl) (fun _ _ _ h => h) (Or.inl ⟨by rfl, ?_⟩) hHeld ?_
  rotate_left
  · (intro w hSw; (try dsimp only at hSw); go_simp; all_goals (with_reducible rfl))
  try simp only [Act.put, List.setIfInBounds_toArray, List.set_cons_zero, List.set_cons_succ]
  refine held_take (i := 15) (d := 57) (v := ?_) rfl rfl (by kernel_rfl) (by kernel_rfl) (by kernel_rfl) (fun _ _ _ h => h) (Or.inl ⟨by rfl, ?_⟩) hHeld ?_
  rotate_left
  · (intro w hSw; (try dsimp only at hSw); go_simp; all_goals (with_reducible rfl))
  try simp only [Act.put, List.setIfInBounds_toArray, List.set_cons_zero, List.set_cons_succ]
  refine held_take (i := 16) (d := 58) (v := ?_) rfl rfl (by kernel_rfl) (by kernel_rfl) (by kernel_rfl) (fun _ _ _ h => h) (Or.inl ⟨by rfl, ?_⟩) hHeld ?_
  rotate_left
  · (intro w hSw; (try dsimp only at hSw); go_simp; all_goals (with_reducible rfl))
  try simp only [Act.put, List.setIfInBounds_toArray, List.set_cons_zero, List.set_cons_succ]
  refine held_take (i := 17) (d := 59) (v := ?_) rfl rfl (by kernel_rfl) (by kernel_rfl) (by kernel_rfl) (fun _ _ _ h => h) (Or.inl ⟨by rfl, ?_⟩) hHeld ?_
  rotate_left
  · (intro w hSw; (try dsimp only at hSw); go_simp; all_goals (with_reducible rfl))
  try simp only [Act.put, List.setIfInBounds_toArray, List.set_cons_zero, List.set_cons_succ]
  refine held_take (i := 18) (d := 60) (v := ?_) rfl rfl (by kernel_rfl) (by kernel_rfl) (by kernel_rfl) (fun _ _ _ h => h) (Or.inl ⟨by rfl, ?_⟩) hHeld ?_
  rotate_left
  · (intro w hSw; (try dsimp only at hSw); go_simp; all_goals (with_reducible rfl))
  try simp only [Act.put, List.setIfInBounds_toArray, List.set_cons_zero, List.set_cons_succ]
  refine held_take (i := 19) (d := 61) (v := ?_) rfl rfl (by kernel_rfl) (by kernel_rfl) (by kernel_rfl) (fun _ _ _ h => h) (Or.inl ⟨by rfl, ?_⟩) hHeld ?_
  rotate_left
  · (intro w hSw; (try dsimp only at hSw); go_simp; all_goals (with_reducible rfl))
  try simp only [Act.put, List.setIfInBounds_toArray, List.set_cons_zero, List.set_cons_succ]
  refine held_take (i := 20) (d := 62) (v := ?_) rfl rfl (by kernel_rfl) (by kernel_rfl) (by kernel_rfl) (fun _ _ _ h => h) (Or.inl ⟨by rfl, ?_⟩) hHeld ?_
  rotate_left
  · (intro w hSw; (try dsimp only at hSw); go_simp; all_goals (with_reducible rfl))
  try simp only [Act.put, List.setIfInBounds_toArray, List.set_cons_zero, List.set_cons_succ]
  refine held_take (i := 21) (d := 63) (v := ?_) rfl rfl (by kernel_rfl) (by kernel_rfl) (by kernel_rfl) (fun _ _ _ h => h) (Or.inl ⟨by rfl, ?_⟩) hHeld ?_
  rotate_left
  · (intro w hSw; (try dsimp only at hSw); go_simp; all_goals (with_reducible rfl))
  try simp only [Act.put, List.setIfInBounds_toArray, List.set_cons_zero, List.set_cons_succ]
  refine wpAnyH_ready (rs := [8]) (by kernel_rfl) (by simp) ?_
  refine AllReadyH.cons rfl (fun K hK => ?_) AllReadyH.nil
  go_simp
  refine (ref_of_any _ _ _ _ _ (HR1.out.later hd0)).mono ?_
  rintro e w' ⟨rfl, hw⟩
  subst w'
  have hof := Crc.of_lt _ HR1.out.2.1
  obtain ⟨q, HQ⟩ : ∃ q, Hid (Crc.of ((ds.drop 1).take (2 + m)) = q) := ⟨Crc.of ((ds.drop 1).take (2 + m)), rfl⟩
  rw [HQ.out] at hof ⊢
  obtain ⟨w3, HW3⟩ : ∃ w3, Hid (w.drewN (nq + 1) = w3) := ⟨w.drewN (nq + 1), rfl⟩
  go_wp2_with fail
  refine hK.out _ _ ?_ (fun hHeld => ?_)
  · exact HS.out _ hd0
  clear hK K
  try simp only [Act.put, List.setIfInBounds_toArray, List.set_cons_zero, List.set_cons_succ]
  rw [HW3.out]
  have hd3 : Below w.heap.size w w3 := by rw [← HW3.out]; exact hd0
  have hfl : ∀ z ∈ Crc.four q, z < 256 := Fr.four_lt q
  have hs : ((str (Crc.four q)).toList == (str ((ds.drop (3 + m)).take 4)).toList) = false := by rw [str_eq _ _ hfl HR2.out.2.1]; have := hcmp; rw [HQ.out] at this; simp [this]
  refine wpAnyH_ready (rs := [9]) (by kernel_rfl) (by simp) ?_
  refine AllReadyH.cons rfl (fun K hK => ?_) AllReadyH.nil
  go_simp
  refine (four_any q w3 hof).mono ?_
  rintro e w4 ⟨rfl, hr4, hb4⟩
  have hd4 : Below w.heap.size w w4 := hd3.trans (hb4.mono hd3.size)
  go_wp2_with fail
  refine hK.out _ _ ?_ (fun hHeld => ?_)
  · exact HS.out _ hd4
  clear hK K
  try simp only [Act.put, List.setIfInBounds_toArray, List.set_cons_zero, List.set_cons_succ]
  have HS2 : Hid (∀ w', Below w4.heap.size w4 w' → (Below w.heap.size w w' ∧ (convert 42 9 (.slice (some ⟨b, off + P3, none⟩) (P7 - P3) (cap - P3))).run Tryd.prog w' = .ok (.string (str ((ds.drop (3 + m)).take 4))) w') ∧ (convert 42 9 (.slice (some ⟨w3.heap.size, 0, none⟩) 4 4)).run Tryd.prog w' = .ok (.string (str (Crc.four q))) w') := fun w' hb => ⟨HS.out _ (hd4.trans (hb.mono hd4.size)), conv_row (hr4.later hb) _⟩
  refine held_mono (S' := (fun w' => (Below w.heap.size w w' ∧ (convert 42 9 (.slice (some ⟨b, off + P3, none⟩) (P7 - P3) (cap - P3))).run Tryd.prog w' = .ok (.string (str ((ds.drop (3 + m)).take 4))) w') ∧ (convert 42 9 (.slice (some ⟨w3.heap.size, 0, none⟩) 4 4)).run Tryd.prog w' = .ok (.string (str (Crc.four q))) w')) (fun _ h => h.1) _ _ _ _ ?_
  replace hHeld := HS2.out _ (Below.refl _ _)
  refine held_take (i := 10) (d := 52) (v := ?_) rfl rfl (by kernel_rfl) (by kernel_rfl) (by kernel_rfl) (fun _ _ _ h => h) (Or.inl ⟨by rfl, ?_⟩) hHeld ?_
  rotate_left
  · (intro w hSw; (try dsimp only at hSw); go_simp; all_goals (with_reducible rfl))
  try simp only [Act.put, List.setIfInBounds_toArray, List.set_cons_zero, List.set_cons_succ]
  refine held_take (i := 22) (d := 64) (v := ?_) rfl rfl (by kernel_rfl) (by kernel_rfl) (by kernel_rfl) (fun _ _ _ h => h) (Or.inl ⟨by rfl, ?_⟩) hHeld ?_
  rotate_left
  · (intro w hSw; (try dsimp only at hSw); go_simp; all_goals (with_reducible rfl))
  try simp only [Act.put, List.setIfInBounds_toArray, List.set_cons_zero, List.set_cons_succ]
  refine wpAnyH_done (by kernel_rfl) ?_ _
  refine NoPanic.normal ?_
  clear hHeld HS HS2 hx1 hx3 hx7
  go_wp2
  go_ret3
  exact ⟨rfl, hd4⟩
set_option maxRecDepth 100000 in
set_option maxHeartbeats 1000000 in
theorem refnext_ok (b off n cap : Nat) (p x y m : Nat) (ds : List Nat) (w : World) (h3 : p + 3 ≤ n) (hx : x < 256) (hy : y < 256) (hm : cap ≤ maxLen) (hnc : n ≤ cap) (h0 : w.cell? ⟨b, off + p, none⟩ = some (.int .u8 197))
    (h1 : w.cell? ⟨b, off + (p + 1), none⟩ = some (.int .u8 (x : Nat))) (h2 : w.cell? ⟨b, off + (p + 2), none⟩ = some (.int .u8 (y : Nat))) (hxy : 256 * x + y = m) (hz : m ≠ 0) (hl7 : p + (7 + m) ≤ n)
    (hr1 : Row w (some ⟨b, off + (p + 1), none⟩) (2 + m) ((ds.drop 1).take (2 + m))) (hr2 : Row w (some ⟨b, off + (p + 3 + m), none⟩) 4 ((ds.drop (3 + m)).take 4)) (hcmp : Crc.four (Crc.of ((ds.drop 1).take (2 + m))) = (ds.drop (3 + m)).take 4) :
    Calls Tryd.prog 45 #[.slice (some ⟨b, off, none⟩) n cap, .int .i64 (p : Nat)] w fun e w' => ∃ c, e = .returned (.tuple #[.slice (some ⟨b, off + (p + 3), none⟩) m c, .int .i64 (7 + (m : Int)), .int .i64 0]) ∧ Below w.heap.size w w' := by
  unfold maxLen at hm
  have hl : ((n : Int) - (p : Int) == 0) = false := by simp; omega
  have hl3 : ¬ (n : Int) - (p : Int) < 3 := by omega
  have hz0 : ((256 * (x : Int) + (y : Int)) == 0) = false := by simp; omega
  have hmi : 256 * (x : Int) + (y : Int) = (m : Int) := by omega
  have hm0 : ((m : Int) == 0) = false := by simp; omega
  have hl9 : ¬ (n : Int) - (p : Int) < 7 + (m : Int) := by omega
  have hm6 : m < 65536 := by omega
  obtain ⟨P1, hP1⟩ : ∃ P, p + 1 = P := ⟨_, rfl⟩
  obtain ⟨P3, hP3⟩ : ∃ P, p + 3 + m = P := ⟨_, rfl⟩
  obtain ⟨P7, hP7⟩ : ∃ P, p + 7 + m = P := ⟨_, rfl⟩
  have hx1 : IntKind.i64.wrap ((p : Int) + 1) = (P1 : Int) := by rw [IntWalk.i64_in _ ⟨by omega, by omega⟩]; omega
  have hx3 : IntKind.i64.wrap (IntKind.i64.wrap ((p : Int) + 3) + (m : Int)) = (P3 : Int) := by rw [IntWalk.i64_in ((p : Int) + 3) ⟨by omega, by omega⟩, IntWalk.i64_in _ ⟨by omega, by omega⟩]; omega
  have hx7 : IntKind.i64.wrap (IntKind.i64.wrap ((p : Int) + 7) + (m : Int)) = (P7 : Int) := by rw [IntWalk.i64_in ((p : Int) + 7) ⟨by omega, by omega⟩, IntWalk.i64_in _ ⟨by omega, by omega⟩]; omega
  have hc3 : (P3 : Int) ≤ (cap : Int) := by omega
  have hc7 : (P7 : Int) ≤ (cap : Int) := by omega
  have hm1 : (P1 : Int) ≤ max (P3 : Int) 0 := by omega
  have hm3 : (P3 : Int) ≤ max (P7 : Int) 0 := by omega
  have hn1 : ¬ cap = P1 := by omega
  have h13 : P1 ≤ P3 := by omega
  have h37 : P3 ≤ P7 := by omega
  have hn3 : ¬ cap = P3 := by omega
  have HR1 : Hid (Row w (some ⟨b, off + P1, none⟩) (P3 - P1) ((ds.drop 1).take (2 + m))) := by unfold Hid; rw [← hP1, ← hP3, show p + 3 + m - (p + 1) = 2 + m by omega]; exact hr1
  have HR2 : Hid (Row w (some ⟨b, off + P3, none⟩) (P7 - P3) ((ds.drop (3 + m)).take 4)) := by unfold Hid; rw [← hP3, ← hP7, show p + 7 + m - (p + 3 + m) = 4 by omega]; exact hr2
  have HX : Hid (IntKind.i64.wrap ((p : Int) + 1) = (P1 : Int) ∧ IntKind.i64.wrap (IntKind.i64.wrap ((p : Int) + 3) + (m : Int)) = (P3 : Int) ∧ IntKind.i64.wrap (IntKind.i64.wrap ((p : Int) + 7) + (m : Int)) = (P7 : Int)) := ⟨hx1, hx3, hx7⟩
  have HPP : Hid (P3 = p + 3 + m ∧ P1 = p + 1 ∧ P7 = p + 7 + m) := ⟨hP3.symm, hP1.symm, hP7.symm⟩
  clear hr1 hr2 hx1 hx3 hx7 hP1 hP3 hP7
  go_enter Tryd.func45, Tryd.ntmps45
  go_wp2
  go_quiet (fail)
  clear h0 h1 h2
  go_wp2_with fail
  have hx1 := HX.out.1
  have hx3 := HX.out.2.1
  have hx7 := HX.out.2.2
  have hd0 : Below w.heap.size w (w.drewN nq).drew := (drewN_below (Below.refl _ _) _).drew
  have HS : Hid (∀ w', Below w.heap.size w w' → Below w.heap.size w w' ∧ (convert 42 9 (.slice (some ⟨b, off + P3, none⟩) (P7 - P3) (cap - P3))).run Tryd.prog w' = .ok (.string (str ((ds.drop (3 + m)).take 4))) w') := fun w' hb => ⟨hb, conv_row (HR2.out.later hb) _⟩
  refine wp_region_noPanic ?_
  refine wp_region_held_drew (S := (fun w' => Below w.heap.size w w' ∧ (convert 42 9 (.slice (some ⟨b, off + P3, none⟩) (P7 - P3) (cap - P3))).run Tryd.prog w' = .ok (.string (str ((ds.drop (3 + m)).take 4))) w')) (by kernel_rfl) ?_ (fun hHeld => ?_)
  · exact HS.out _ hd0
  refine held_take (i := 0) (d := 42) (v := ?_) rfl rfl (by kernel_rfl) (by kernel_rfl) (by kernel_rfl) (fun _ _ _ h => h) (Or.inl ⟨by rfl, ?_⟩) hHeld ?_
  rotate_left
  · (intro w hSw; (try dsimp only at hSw); go_simp; all_goals (with_reducible rfl))
  try simp only [Act.put, List.setIfInBounds_toArray, List.set_cons_zero, List.set_cons_succ]
  refine held_take (i := 1) (d := 43) (v := ?_) rfl rfl (by kernel_rfl) (by kernel_rfl) (by kernel_rfl) (fun _ _ _ h => h) (Or.inl ⟨by rfl, ?_⟩) hHeld ?_
  rotate_left
  · (intro w hSw; (try dsimp only at hSw); go_simp; all_goals (with_reducible rfl))
  try simp only [Act.put, List.setIfInBounds_toArray, List.set_cons_zero, List.set_cons_succ]
  refine held_take (i := 2) (d := 44) (v := ?_) rfl rfl (by kernel_rfl) (by kernel_rfl) (by kernel_rfl) (fun _ _ _ h => h) (Or.inl ⟨by rfl, ?_⟩) hHeld ?_
  rotate_left
  · (intro w hSw; (try dsimp only at hSw); go_simp; all_goals (with_reducible rfl))
  try simp only [Act.put, List.setIfInBounds_toArray, List.set_cons_zero, List.set_cons_succ]
  refine held_take (i := 3) (d := 45) (v := ?_) rfl rfl (by kernel_rfl) (by kernel_rfl) (by kernel_rfl) (fun _ _ _ h => h) (Or.inl ⟨by rfl, ?_⟩) hHeld ?_
  rotate_left
  · (intro w hSw; (try dsimp only at hSw); go_simp; all_goals (with_reducible rfl))
  try simp only [Act.put, List.setIfInBounds_toArray, List.set_cons_zero, List.set_cons_succ]
  refine held_take (i := 4) (d := 46) (v := ?_) rfl rfl (by kernel_rfl) (by kernel_rfl) (by kernel_rfl) (fun _ _ _ h => h) (Or.inl ⟨by rfl, ?_⟩) hHeld ?_
  rotate_left
  · (intro w hSw; (try dsimp only at hSw); go_simp; all_goals (with_reducible rfl))
  try simp only [Act.put, List.setIfInBounds_toArray, List.set_cons_zero, List.set_cons_succ]
  refine held_take (i := 5) (d := 47) (v := ?_) rfl rfl (by kernel_rfl) (by kernel_rfl) (by kernel_rfl) (fun _ _ _ h => h) (Or.inl ⟨by rfl, ?_⟩) hHeld ?_
  rotate_left
  · (intro w hSw; (try dsimp only at hSw); go_simp; all_goals (with_reducible rfl))
  try simp only [Act.put, List.setIfInBounds_toArray, List.set_cons_zero, List.set_cons_succ]
  refine held_take (i := 6) (d := 48) (v := ?_) rfl rfl (by kernel_rfl) (by kernel_rfl) (by kernel_rfl) (fun _ _ _ h => h) (Or.inl ⟨by rfl, ?_⟩) hHeld ?_
  rotate_left
  · (intro w hSw; (try dsimp only at hSw); go_simp; all_goals (with_reducible rfl))
  try simp only [Act.put, List.setIfInBounds_toArray, List.set_cons_zero, List.set_cons_succ]
  refine held_take (i := 7) (d := 49) (v := ?_) rfl rfl (by kernel_rfl) (by kernel_rfl) (by kernel_rfl) (fun _ _ _ h => h) (Or.inl ⟨by rfl, ?_⟩) hHeld ?_
  rotate_left
  · (intro w hSw; (try dsimp only at hSw); go_simp; all_goals (with_reducible rfl))
  try simp only [Act.put, List.setIfInBounds_toArray, List.set_cons_zero, List.set_cons_succ]
  refine held_take (i := 11) (d := 53) (v := ?_) rfl rfl (by kernel_rfl) (by kernel_rfl) (by kernel_rfl) (fun _ _ _ h => h) (Or.inl ⟨by rfl, ?_⟩) hHeld ?_
  rotate_left
  · (intro w hSw; (try dsimp only at hSw); go_simp; all_goals (with_reducible rfl))
  try simp only [Act.put, List.setIfInBounds_toArray, List.set_cons_zero, List.set_cons_succ]
  refine held_take (i := 12) (d := 54) (v := ?_) rfl rfl (by kernel_rfl) (by kernel_rfl) (by kernel_rfl) (fun _ _ _ h => h) (Or.inl ⟨by rfl, ?_⟩) hHeld ?_
  rotate_left
  · (intro w hSw; (try dsimp only at hSw); go_simp; all_goals (with_reducible rfl))
  try simp only [Act.put, List.setIfInBounds_toArray, List.set_cons_zero, List.set_cons_succ]
  refine held_take (i := 13) (d := 55) (v := ?_) rfl rfl (by kernel_rfl) (by kernel_rfl) (by kernel_rfl) (fun _ _ _ h => h) (Or.inl ⟨by rfl, ?_⟩) hHeld ?_
  rotate_left
  · (intro w hSw; (try dsimp only at hSw); go_simp; all_goals (with_reducible rfl))
  try simp only [Act.put, List.setIfInBounds_toArray, List.set_cons_zero, List.set_cons_succ]
  refine held_take (i := 14) (d := 56) (v := ?_) rfl rfl (by kernel_rfl) (by kernel_rfl) (by kernel_rfl) (fun _ _ _ h => h) (Or.inl ⟨by rfl, ?_⟩) hHeld ?_
  rotate_left
  · (intro w hSw; (try dsimp only at hSw); go_simp; all_goals (with_reducible rfl))
  try simp only [Act.put, List.setIfInBounds_toArray, List.set_cons_zero, List.set_cons_succ]
  refine held_take (i := 15) (d := 57) (v := ?_) rfl rfl (by kernel_rfl) (by kernel_rfl) (by kernel_rfl) (fun _ _ _ h => h) (Or.inl ⟨by rfl, ?_⟩) hHeld ?_
  rotate_left
  · (intro w hSw; (try dsimp only at hSw); go_simp; all_goals (with_reducible rfl))
  try simp only [Act.put, List.setIfInBounds_toArray, List.set_cons_zero, List.set_cons_succ]
  refine held_take (i := 16) (d := 58) (v := ?_) rfl rfl (by kernel_rfl) (by kernel_rfl) (by kernel_rfl) (fun _ _ _ h => h) (Or.inl ⟨by rfl, ?_⟩) hHeld ?_
  rotate_left
  · (intro w hSw; (try dsimp only at hSw); go_simp; all_goals (with_reducible rfl))
  try simp only [Act.put, List.setIfInBounds_toArray, List.set_cons_zero, List.set_cons_succ]
  refine held_take (i := 17) (d := 59) (v := ?_) rfl rfl (by kernel_rfl) (by kernel_rfl) (by kernel_rfl) (fun _ _ _ h => h) (Or.inl ⟨by rfl, ?_⟩) hHeld ?_
  rotate_left
  · (intro w hSw; (try dsimp only at hSw); go_simp; all_goals (with_reducible rfl))
  try simp only [Act.put, List.setIfInBounds_toArray, List.set_cons_zero, List.set_cons_succ]
  refine held_take (i := 18) (d := 60) (v := ?_) rfl rfl (by kernel_rfl) (by kernel_rfl) (by kernel_rfl) (fun _ _ _ h => h) (Or.inl ⟨by rfl, ?_⟩) hHeld ?_
  rotate_left
  · (intro w hSw; (try dsimp only at hSw); go_simp; all_goals (with_reducible rfl))
  try simp only [Act.put, List.setIfInBounds_toArray, List.set_cons_zero, List.set_cons_succ]
  refine held_take (i := 19) (d := 61) (v := ?_) rfl rfl (by kernel_rfl) (by kernel_rfl) (by kernel_rfl) (fun _ _ _ h => h) (Or.inl ⟨by rfl, ?_⟩) hHeld ?_
  rotate_left
  · (intro w hSw; (try dsimp only at hSw); go_simp; all_goals (with_reducible rfl))
  try simp only [Act.put, List.setIfInBounds_toArray, List.set_cons_zero, List.set_cons_succ]
  refine held_take (i := 20) (d := 62) (v := ?_) rfl rfl (by kernel_rfl) (by kernel_rfl) (by kernel_rfl) (fun _ _ _ h => h) (Or.inl ⟨by rfl, ?_⟩) hHeld ?_
  rotate_left
  · (intro w hSw; (try dsimp only at hSw); go_simp; all_goals (with_reducible rfl))
  try simp only [Act.put, List.setIfInBounds_toArray, List.set_cons_zero, List.set_cons_succ]
  refine held_take (i := 21) (d := 63) (v := ?_) rfl rfl (by kernel_rfl) (by kernel_rfl) (by kernel_rfl) (fun _ _ _ h => h) (Or.inl ⟨by rfl, ?_⟩) hHeld ?_
  rotate_left
  · (intro w hSw; (try dsimp only at hSw); go_simp; all_goals (with_reducible rfl))
  try simp only [Act.put, List.setIfInBounds_toArray, List.set_cons_zero, List.set_cons_succ]
  refine wpAnyH_ready (rs := [8]) (by kernel_rfl) (by simp) ?_
  refine AllReadyH.cons rfl (fun K hK => ?_) AllReadyH.nil
  go_simp
  refine (ref_of_any _ _ _ _ _ (HR1.out.later hd0)).mono ?_
  rintro e w' ⟨rfl, hw⟩
  subst w'
  have hof := Crc.of_lt _ HR1.out.2.1
  obtain ⟨q, HQ⟩ : ∃ q, Hid (Crc.of ((ds.drop 1).take (2 + m)) = q) := ⟨Crc.of ((ds.drop 1).take (2 + m)), rfl⟩
  rw [HQ.out] at hof ⊢
  obtain ⟨w3, HW3⟩ : ∃ w3, Hid (w.drewN (nq + 1) = w3) := ⟨w.drewN (nq + 1), rfl⟩
  go_wp2_with fail
  refine hK.out _ _ ?_ (fun hHeld => ?_)
  · exact HS.out _ hd0
  clear hK K
  try simp only [Act.put, List.setIfInBounds_toArray, List.set_cons_zero, List.set_cons_succ]
  rw [HW3.out]
  have hd3 : Below w.heap.size w w3 := by rw [← HW3.out]; exact hd0
  have hfl : ∀ z ∈ Crc.four q, z < 256 := Fr.four_lt q
  have hs : ((str (Crc.four q)).toList == (str ((ds.drop (3 + m)).take 4)).toList) = true := by rw [str_eq _ _ hfl HR2.out.2.1]; have := hcmp; rw [HQ.out] at this; simp [this]
  refine wpAnyH_ready (rs := [9]) (by kernel_rfl) (by simp) ?_
  refine AllReadyH.cons rfl (fun K hK => ?_) AllReadyH.nil
  go_simp
  refine (four_any q w3 hof).mono ?_
  rintro e w4 ⟨rfl, hr4, hb4⟩
  have hd4 : Below w.heap.size w w4 := hd3.trans (hb4.mono hd3.size)
  go_wp2_with fail
  refine hK.out _ _ ?_ (fun hHeld => ?_)
  · exact HS.out _ hd4
  clear hK K
  try simp only [Act.put, List.setIfInBounds_toArray, List.set_cons_zero, List.set_cons_succ]
  have HS2 : Hid (∀ w', Below w4.heap.size w4 w' → (Below w.heap.size w w' ∧ (convert 42 9 (.slice (some ⟨b, off + P3, none⟩) (P7 - P3) (cap - P3))).run Tryd.prog w' = .ok (.string (str ((ds.drop (3 + m)).take 4))) w') ∧ (convert 42 9 (.slice (some ⟨w3.heap.size, 0, none⟩) 4 4)).run Tryd.prog w' = .ok (.string (str (Crc.four q))) w') := fun w' hb => ⟨HS.out _ (hd4.trans (hb.mono hd4.size)), conv_row (hr4.later hb) _⟩
  refine held_mono (S' := (fun w' => (Below w.heap.size w w' ∧ (convert 42 9 (.slice (some ⟨b, off + P3, none⟩) (P7 - P3) (cap - P3))).run Tryd.prog w' = .ok (.string (str ((ds.drop (3 + m)).take 4))) w') ∧ (convert 42 9 (.slice (some ⟨w3.heap.size, 0, none⟩) 4 4)).run Tryd.prog w' = .ok (.string (str (Crc.four q))) w')) (fun _ h => h.1) _ _ _ _ ?_
  replace hHeld := HS2.out _ (Below.refl _ _)
  refine held_take (i := 10) (d := 52) (v := ?_) rfl rfl (by kernel_rfl) (by kernel_rfl) (by kernel_rfl) (fun _ _ _ h => h) (Or.inl ⟨by rfl, ?_⟩) hHeld ?_
  rotate_left
  · (intro w hSw; (try dsimp only at hSw); go_simp; all_goals (with_reducible rfl))
  try simp only [Act.put, List.setIfInBounds_toArray, List.set_cons_zero, List.set_cons_succ]
  refine held_take (i := 22) (d := 64) (v := ?_) rfl rfl (by kernel_rfl) (by kernel_rfl) (by kernel_rfl) (fun _ _ _ h => h) (Or.inl ⟨by rfl, ?_⟩) hHeld ?_
  rotate_left
  · (intro w hSw; (try dsimp only at hSw); go_simp; all_goals (with_reducible rfl))
  try simp only [Act.put, List.setIfInBounds_toArray, List.set_cons_zero, List.set_cons_succ]
  refine wpAnyH_done (by kernel_rfl) ?_ _
  refine NoPanic.normal ?_
  clear hHeld HS HS2 hx1 hx3 hx7
  go_wp2
  rw [show p + 3 + m - (p + 3) = m by omega]
  go_ret3
  exact ⟨_, rfl, hd4⟩

theorem whole_cmp (ds : List Nat) (m : Nat) (h : 7 + m ≤ ds.length) (hb : ∀ x ∈ ds, x < 256) :
    Crc.whole ((ds.drop 1).take (6 + m)) = decide (Crc.four (Crc.of ((ds.drop 1).take (2 + m))) = (ds.drop (3 + m)).take 4) := by
  have hl : ((ds.drop 1).take (6 + m)).length = (2 + m) + 4 := by rw [List.length_take, List.length_drop]; omega
  rw [Crc.whole_much _ (2 + m) hl (fun x hx => hb x (List.mem_of_mem_drop (List.mem_of_mem_take hx)))]
  rw [List.take_take, List.drop_take, List.drop_drop, show min (2 + m) (6 + m) = 2 + m by omega, show 6 + m - (2 + m) = 4 by omega, show 1 + (2 + m) = 3 + m by omega]

theorem refnext_bad (a : Option Addr) (n cap : Nat) (bs : List Nat) (p : Nat) (w : World) (hr : Row w a n bs) (hnc : n ≤ cap) (hmc : cap ≤ maxLen) (hp : p ≤ n) (h : Fr.code (bs.drop p) ≠ 0) :
    Calls Tryd.prog 45 #[.slice a n cap, .int .i64 (p : Nat)] w fun e w' => e = .returned (.tuple #[.slice none 0 0, .int .i64 0, .int .i64 (Fr.code (bs.drop p) : Nat)]) ∧ Below w.heap.size w w' := by
  have hl := hr.1
  have hdl : (bs.drop p).length = n - p := by rw [List.length_drop]; omega
  by_cases h0 : p = n
  · subst h0
    have e : Fr.code (bs.drop p) = 6 := by unfold Fr.code Fr.lcode; rw [hdl]; simp
    rw [e]
    refine (refnext_none a p cap w (by omega)).mono ?_
    rintro e w' ⟨rfl, hw⟩
    subst w'
    exact ⟨rfl, Below.refl _ _⟩
  · obtain ⟨b, off, rfl, hc⟩ := hr.at (by omega)
    have hb := getD_lt bs hr.2.1
    have hg : ∀ i, (bs.drop p)[i]?.getD 0 = bs[p + i]?.getD 0 := fun i => by rw [List.getElem?_drop]
    have c0 := hc p (by omega)
    have n0 : ¬ (bs.drop p).length = 0 := by omega
    by_cases h1 : bs[p + 0]?.getD 0 = 197
    · rw [Nat.add_zero] at h1
      rw [h1] at c0
      have g0 : ¬ (bs.drop p)[0]?.getD 0 ≠ 197 := by rw [hg]; simpa using h1
      by_cases h3 : n - p < 3
      · have e : Fr.code (bs.drop p) = 4 := by
          have : Fr.lcode (bs.drop p) = 4 := by unfold Fr.lcode; rw [if_neg n0, if_neg g0, if_pos (by omega)]
          unfold Fr.code; rw [if_pos (by omega), this]
        rw [e]
        refine (refnext_few b off n cap p w (by omega) h3 (by omega) c0).mono ?_
        rintro e w' ⟨rfl, hw⟩
        subst w'
        exact ⟨rfl, Below.refl _ _⟩
      · have c1 := hc (p + 1) (by omega)
        have c2 := hc (p + 2) (by omega)
        obtain ⟨m, hm⟩ : ∃ m, Fr.num (bs.drop p) = m := ⟨_, rfl⟩
        have hm' : 256 * bs[p + 1]?.getD 0 + bs[p + 2]?.getD 0 = m := by rw [← hm]; unfold Fr.num; rw [hg, hg]
        have b1 := hb (p + 1)
        have b2 := hb (p + 2)
        have l3 : ¬ (bs.drop p).length < 3 := by omega
        by_cases hz : m = 0
        · have e : Fr.code (bs.drop p) = 3 := by
            have : Fr.lcode (bs.drop p) = 3 := by unfold Fr.lcode; rw [if_neg n0, if_neg g0, if_neg l3, hm, if_pos hz]
            unfold Fr.code; rw [if_pos (by omega), this]
          rw [e]
          rw [show bs[p + 1]?.getD 0 = 0 by omega] at c1
          rw [show bs[p + 2]?.getD 0 = 0 by omega] at c2
          exact refnext_zero b off n cap p w (by omega) (by omega) c0 c1 c2
        · have hlc : Fr.lcode (bs.drop p) = 0 := by unfold Fr.lcode; rw [if_neg n0, if_neg g0, if_neg l3, hm, if_neg hz]
          by_cases h7 : n - p < 7 + m
          · have e : Fr.code (bs.drop p) = 4 := by unfold Fr.code; rw [hlc, hm, if_neg (by simp), if_pos (by omega)]
            rw [e]
            exact refnext_more b off n cap p _ _ w (by omega) b1 b2 (by omega) c0 c1 c2 (by omega) (by omega)
          · have hds : ∀ x ∈ bs.drop p, x < 256 := fun x hx => hr.2.1 x (List.mem_of_mem_drop hx)
            have hw := whole_cmp (bs.drop p) m (by omega) hds
            have r1 := hr.part (p + 1) (2 + m) (by omega)
            have r2 := hr.part (p + 3 + m) 4 (by omega)
            rw [← List.drop_drop] at r1
            rw [show p + 3 + m = p + (3 + m) by omega, ← List.drop_drop, show p + (3 + m) = p + 3 + m by omega] at r2
            by_cases hcmp : Crc.four (Crc.of (((bs.drop p).drop 1).take (2 + m))) = ((bs.drop p).drop (3 + m)).take 4
            · exfalso
              apply h
              unfold Fr.code
              rw [hlc, hm, if_neg (by simp), if_neg (by omega), hw, if_pos (by simpa using hcmp)]
            · have e : Fr.code (bs.drop p) = 5 := by
                unfold Fr.code
                rw [hlc, hm, if_neg (by simp), if_neg (by omega), hw, if_neg (by simpa using hcmp)]
              rw [e]
              exact refnext_sum b off n cap p _ _ m (bs.drop p) w (by omega) b1 b2 hmc hnc c0 c1 c2 hm' hz (by omega) r1 r2 hcmp
    · rw [Nat.add_zero] at h1
      have g0 : (bs.drop p)[0]?.getD 0 ≠ 197 := by rw [hg]; simpa using h1
      have e : Fr.code (bs.drop p) = 3 := by
        have : Fr.lcode (bs.drop p) = 3 := by unfold Fr.lcode; rw [if_neg n0, if_pos g0]
        unfold Fr.code; rw [if_pos (by omega), this]
      rw [e]
      refine (refnext_mark b off n cap p _ w (by omega) (by omega) c0 h1).mono ?_
      rintro e w' ⟨rfl, hw⟩
      subst w'
      exact ⟨rfl, Below.refl _ _⟩

theorem refnext_good (a : Option Addr) (n cap : Nat) (bs : List Nat) (p : Nat) (w0 w : World) (hr0 : Row w0 a n bs) (hb0 : Below w0.heap.size w0 w) (hnc : n ≤ cap) (hmc : cap ≤ maxLen) (hp : p ≤ n) (h : Fr.code (bs.drop p) = 0) :
    Calls Tryd.prog 45 #[.slice a n cap, .int .i64 (p : Nat)] w fun e w' => ∃ x c, e = .returned (.tuple #[.slice x (Fr.num (bs.drop p)) c, .int .i64 (7 + (Fr.num (bs.drop p) : Int)), .int .i64 0]) ∧ Row w0 x (Fr.num (bs.drop p)) (Fr.rec (bs.drop p)) ∧ Below w.heap.size w w' := by
  have hr := hr0.later hb0
  have hl := hr.1
  have hdl : (bs.drop p).length = n - p := by rw [List.length_drop]; omega
  obtain ⟨hlc, h7, hwh⟩ := code_zero h
  obtain ⟨h3, h1, hz⟩ := lcode_zero hlc
  obtain ⟨b, off, hax, hc⟩ := hr.at (by omega)
  subst hax
  have hb := getD_lt bs hr.2.1
  have hg : ∀ i, (bs.drop p)[i]?.getD 0 = bs[p + i]?.getD 0 := fun i => by rw [List.getElem?_drop]
  have c0 := hc p (by omega)
  rw [hg, Nat.add_zero] at h1
  rw [h1] at c0
  have c1 := hc (p + 1) (by omega)
  have c2 := hc (p + 2) (by omega)
  obtain ⟨m, hm⟩ : ∃ m, Fr.num (bs.drop p) = m := ⟨_, rfl⟩
  have hm' : 256 * bs[p + 1]?.getD 0 + bs[p + 2]?.getD 0 = m := by rw [← hm]; unfold Fr.num; rw [hg, hg]
  have hds : ∀ x ∈ bs.drop p, x < 256 := fun x hx => hr.2.1 x (List.mem_of_mem_drop hx)
  rw [hm] at h7 hwh hz
  have hw := whole_cmp (bs.drop p) m (by omega) hds
  have r1 := hr.part (p + 1) (2 + m) (by omega)
  have r2 := hr.part (p + 3 + m) 4 (by omega)
  have r3 := hr0.part (p + 3) m (by omega)
  rw [← List.drop_drop] at r1
  rw [show p + 3 + m = p + (3 + m) by omega, ← List.drop_drop, show p + (3 + m) = p + 3 + m by omega] at r2
  rw [← List.drop_drop] at r3
  rw [hw] at hwh
  have hrec : Fr.rec (bs.drop p) = ((bs.drop p).drop 3).take m := by unfold Fr.rec; rw [hm]
  rw [hrec, hm]
  refine (refnext_ok b off n cap p _ _ m (bs.drop p) w (by omega) (hb (p + 1)) (hb (p + 2)) hmc hnc c0 c1 c2 hm' hz (by omega) r1 r2 (by simpa using hwh)).mono ?_
  rintro e w' ⟨c, rfl, hb'⟩
  exact ⟨_, c, rfl, r3, hb'⟩
end Go.Proofs.YtiemgdclhjdmlaaDoor
