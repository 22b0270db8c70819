/- What the document's own count of votes does: a contract; two votes that win meet. -/
import Derived.Test.YtbikepmnjgcgkaaBlA
namespace Go.Proofs.Ytbikepmnjgcgkaa
open Go.RowKit

theorem cnt_min (v n k : Nat) : cnt v (min (k + 1) n) = cnt v (min k n) + (if k < n then (v.testBit k).toNat else 0) := by
  by_cases h : k < n
  · rw [Nat.min_eq_left (by omega), Nat.min_eq_left (by omega), if_pos h]; rfl
  · rw [Nat.min_eq_right (by omega), Nat.min_eq_right (by omega), if_neg h]; rfl

set_option maxRecDepth 100000 in
theorem ref_among_any (v n : Nat) (w : World) (hv : v < 256) (hn : n ≤ 5) :
    Calls Try.prog 31 #[.int .u8 v, .int .i64 n] w fun e w' => e = .returned (.int .i64 (cnt v n : Nat)) ∧ Below w.heap.size w w' := by
  go_enter Try.func31, Try.ntmps31
  go_wp2_with fail
  refine (set_any v _ hv).mono ?_
  rintro e w1 ⟨rfl, hb⟩
  obtain ⟨b0, hb0⟩ : ∃ b, v.testBit 0 = b := ⟨_, rfl⟩
  rw [hb0]
  replace hb0 : Hid (v.testBit 0 = b0) := hb0
  obtain ⟨b1, hb1⟩ : ∃ b, v.testBit 1 = b := ⟨_, rfl⟩
  rw [hb1]
  replace hb1 : Hid (v.testBit 1 = b1) := hb1
  obtain ⟨b2, hb2⟩ : ∃ b, v.testBit 2 = b := ⟨_, rfl⟩
  rw [hb2]
  replace hb2 : Hid (v.testBit 2 = b2) := hb2
  obtain ⟨b3, hb3⟩ : ∃ b, v.testBit 3 = b := ⟨_, rfl⟩
  rw [hb3]
  replace hb3 : Hid (v.testBit 3 = b3) := hb3
  obtain ⟨b4, hb4⟩ : ∃ b, v.testBit 4 = b := ⟨_, rfl⟩
  rw [hb4]
  replace hb4 : Hid (v.testBit 4 = b4) := hb4
  go_wp2
  go_loopw [5, 10] (fun c t wr => ∃ k s : Nat, k ≤ 5 ∧ t = .int .i64 (k : Nat) ∧ c = .int .i64 (s : Nat) ∧ s ≤ 5 ∧ Hid (s = cnt v (min k n)) ∧ wr = w1) (fun _ t _ => 5 - (intOf t).toNat)
  case atStart => exact ⟨0, 0, by omega, rfl, rfl, by omega, by simp [Hid, cnt], rfl⟩
  case round =>
    obtain ⟨k, s, hk, rfl, rfl, hs5, HS, rfl⟩ := hrel
    by_cases h : k < 5
    · have hcn := cnt_min v n k
      rw [← HS.out] at hcn
      have HC : Hid (cnt v (min (k + 1) n) = _) := hcn
      clear hcn
      have hnx : cnt v (min (k + 1) n) ≤ 5 := by have := cnt_le v (min (k + 1) n); omega
      have HN : Hid (cnt v (min (k + 1) n) ≤ 5) := hnx
      clear hnx
      have hc5 : k = 0 ∨ k = 1 ∨ k = 2 ∨ k = 3 ∨ k = 4 := by omega
      rcases hc5 with rfl | rfl | rfl | rfl | rfl
      · have ix : ∀ w, (Instr.index 50 (.agg #[.bool b0, .bool b1, .bool b2, .bool b3, .bool b4]) (.int .i64 0)).run Try.prog w = .ok (.bool b0) w := fun _ => by kernel_rfl
        rw [hb0.out] at HC
        clear hb0
        by_cases h0 : 0 < n
        · rw [if_pos h0] at HC
          cases b0
          all_goals
            obtain ⟨s', hs'⟩ : ∃ s', s' = cnt v (min (0 + 1) n) := ⟨_, rfl⟩
            rw [← hs'] at HC HN
            have HS' : Hid (s' = cnt v (min (0 + 1) n)) := hs'
            clear hs'
            have hs6 := HN.out
            have hss := HC.out
            simp only [Bool.toNat_true, Bool.toNat_false, Nat.add_zero] at hss
            go_wp2
            go_roundw
            case rel => exact ⟨0 + 1, s', by omega, by go_num, by rw [hss]; try go_num, hs6, HS', trivial⟩
            case measure => simp [intOf]
        · rw [if_neg h0] at HC
          cases b0
          all_goals
            go_wp2
            go_roundw
            case rel => exact ⟨0 + 1, s, by omega, by go_num, rfl, hs5, by unfold Hid; rw [HC.out]; omega, trivial⟩
            case measure => simp [intOf]
      · have ix : ∀ w, (Instr.index 50 (.agg #[.bool b0, .bool b1, .bool b2, .bool b3, .bool b4]) (.int .i64 1)).run Try.prog w = .ok (.bool b1) w := fun _ => by kernel_rfl
        rw [hb1.out] at HC
        clear hb1
        by_cases h1 : 1 < n
        · rw [if_pos h1] at HC
          cases b1
          all_goals
            obtain ⟨s', hs'⟩ : ∃ s', s' = cnt v (min (1 + 1) n) := ⟨_, rfl⟩
            rw [← hs'] at HC HN
            have HS' : Hid (s' = cnt v (min (1 + 1) n)) := hs'
            clear hs'
            have hs6 := HN.out
            have hss := HC.out
            simp only [Bool.toNat_true, Bool.toNat_false, Nat.add_zero] at hss
            go_wp2
            go_roundw
            case rel => exact ⟨1 + 1, s', by omega, by go_num, by rw [hss]; try go_num, hs6, HS', trivial⟩
            case measure => simp [intOf]
        · rw [if_neg h1] at HC
          cases b1
          all_goals
            go_wp2
            go_roundw
            case rel => exact ⟨1 + 1, s, by omega, by go_num, rfl, hs5, by unfold Hid; rw [HC.out]; omega, trivial⟩
            case measure => simp [intOf]
      · have ix : ∀ w, (Instr.index 50 (.agg #[.bool b0, .bool b1, .bool b2, .bool b3, .bool b4]) (.int .i64 2)).run Try.prog w = .ok (.bool b2) w := fun _ => by kernel_rfl
        rw [hb2.out] at HC
        clear hb2
        by_cases h2 : 2 < n
        · rw [if_pos h2] at HC
          cases b2
          all_goals
            obtain ⟨s', hs'⟩ : ∃ s', s' = cnt v (min (2 + 1) n) := ⟨_, rfl⟩
            rw [← hs'] at HC HN
            have HS' : Hid (s' = cnt v (min (2 + 1) n)) := hs'
            clear hs'
            have hs6 := HN.out
            have hss := HC.out
            simp only [Bool.toNat_true, Bool.toNat_false, Nat.add_zero] at hss
            go_wp2
            go_roundw
            case rel => exact ⟨2 + 1, s', by omega, by go_num, by rw [hss]; try go_num, hs6, HS', trivial⟩
            case measure => simp [intOf]
        · rw [if_neg h2] at HC
          cases b2
          all_goals
            go_wp2
            go_roundw
            case rel => exact ⟨2 + 1, s, by omega, by go_num, rfl, hs5, by unfold Hid; rw [HC.out]; omega, trivial⟩
            case measure => simp [intOf]
      · have ix : ∀ w, (Instr.index 50 (.agg #[.bool b0, .bool b1, .bool b2, .bool b3, .bool b4]) (.int .i64 3)).run Try.prog w = .ok (.bool b3) w := fun _ => by kernel_rfl
        rw [hb3.out] at HC
        clear hb3
        by_cases h3 : 3 < n
        · rw [if_pos h3] at HC
          cases b3
          all_goals
            obtain ⟨s', hs'⟩ : ∃ s', s' = cnt v (min (3 + 1) n) := ⟨_, rfl⟩
            rw [← hs'] at HC HN
            have HS' : Hid (s' = cnt v (min (3 + 1) n)) := hs'
            clear hs'
            have hs6 := HN.out
            have hss := HC.out
            simp only [Bool.toNat_true, Bool.toNat_false, Nat.add_zero] at hss
            go_wp2
            go_roundw
            case rel => exact ⟨3 + 1, s', by omega, by go_num, by rw [hss]; try go_num, hs6, HS', trivial⟩
            case measure => simp [intOf]
        · rw [if_neg h3] at HC
          cases b3
          all_goals
            go_wp2
            go_roundw
            case rel => exact ⟨3 + 1, s, by omega, by go_num, rfl, hs5, by unfold Hid; rw [HC.out]; omega, trivial⟩
            case measure => simp [intOf]
      · have ix : ∀ w, (Instr.index 50 (.agg #[.bool b0, .bool b1, .bool b2, .bool b3, .bool b4]) (.int .i64 4)).run Try.prog w = .ok (.bool b4) w := fun _ => by kernel_rfl
        rw [hb4.out] at HC
        clear hb4
        by_cases h4 : 4 < n
        · rw [if_pos h4] at HC
          cases b4
          all_goals
            obtain ⟨s', hs'⟩ : ∃ s', s' = cnt v (min (4 + 1) n) := ⟨_, rfl⟩
            rw [← hs'] at HC HN
            have HS' : Hid (s' = cnt v (min (4 + 1) n)) := hs'
            clear hs'
            have hs6 := HN.out
            have hss := HC.out
            simp only [Bool.toNat_true, Bool.toNat_false, Nat.add_zero] at hss
            go_wp2
            go_roundw
            case rel => exact ⟨4 + 1, s', by omega, by go_num, by rw [hss]; try go_num, hs6, HS', trivial⟩
            case measure => simp [intOf]
        · rw [if_neg h4] at HC
          cases b4
          all_goals
            go_wp2
            go_roundw
            case rel => exact ⟨4 + 1, s, by omega, by go_num, rfl, hs5, by unfold Hid; rw [HC.out]; omega, trivial⟩
            case measure => simp [intOf]
    · obtain rfl : k = 5 := by omega
      have e1 : s = cnt v n := by rw [HS.out, Nat.min_eq_right hn]
      subst e1
      go_wp2
      go_ret
      exact ⟨rfl, hb⟩

theorem bit_meet : ∀ (a0 a1 a2 a3 a4 b0 b1 b2 b3 b4 : Bool),
    (1 < 2 * a0.toNat → 1 < 2 * b0.toNat → a0 && b0) ∧
    (2 < 2 * (a0.toNat + a1.toNat) → 2 < 2 * (b0.toNat + b1.toNat) → a0 && b0 || a1 && b1) ∧
    (3 < 2 * (a0.toNat + a1.toNat + a2.toNat) → 3 < 2 * (b0.toNat + b1.toNat + b2.toNat) → a0 && b0 || a1 && b1 || a2 && b2) ∧
    (4 < 2 * (a0.toNat + a1.toNat + a2.toNat + a3.toNat) → 4 < 2 * (b0.toNat + b1.toNat + b2.toNat + b3.toNat) → a0 && b0 || a1 && b1 || a2 && b2 || a3 && b3) ∧
    (5 < 2 * (a0.toNat + a1.toNat + a2.toNat + a3.toNat + a4.toNat) → 5 < 2 * (b0.toNat + b1.toNat + b2.toNat + b3.toNat + b4.toNat) → a0 && b0 || a1 && b1 || a2 && b2 || a3 && b3 || a4 && b4) := by decide +kernel

/-- two votes that win have a master in common -/
theorem meet (a b m : Nat) (h1 : 1 ≤ m) (h5 : m ≤ 5) (ha : wins a m = true) (hb : wins b m = true) : ∃ k, k < m ∧ a.testBit k = true ∧ b.testBit k = true := by
  have hm := bit_meet (a.testBit 0) (a.testBit 1) (a.testBit 2) (a.testBit 3) (a.testBit 4) (b.testBit 0) (b.testBit 1) (b.testBit 2) (b.testBit 3) (b.testBit 4)
  simp only [Bool.or_eq_true, Bool.and_eq_true] at hm
  have hc : m = 1 ∨ m = 2 ∨ m = 3 ∨ m = 4 ∨ m = 5 := by omega
  simp only [wins, decide_eq_true_eq] at ha hb
  rcases hc with rfl | rfl | rfl | rfl | rfl <;> simp only [cnt, Nat.zero_add] at ha hb
  · exact ⟨0, by omega, hm.1 ha hb⟩
  · rcases hm.2.1 ha hb with h | h
    · exact ⟨0, by omega, h⟩
    · exact ⟨1, by omega, h⟩
  · rcases hm.2.2.1 ha hb with (h | h) | h
    · exact ⟨0, by omega, h⟩
    · exact ⟨1, by omega, h⟩
    · exact ⟨2, by omega, h⟩
  · rcases hm.2.2.2.1 ha hb with ((h | h) | h) | h
    · exact ⟨0, by omega, h⟩
    · exact ⟨1, by omega, h⟩
    · exact ⟨2, by omega, h⟩
    · exact ⟨3, by omega, h⟩
  · rcases hm.2.2.2.2 ha hb with (((h | h) | h) | h) | h
    · exact ⟨0, by omega, h⟩
    · exact ⟨1, by omega, h⟩
    · exact ⟨2, by omega, h⟩
    · exact ⟨3, by omega, h⟩
    · exact ⟨4, by omega, h⟩
end Go.Proofs.Ytbikepmnjgcgkaa
