/-
  Which masters are in votes, and whether they win, is as the chapter says: the law BallotVotes returns true at any votes and any two numbers, and changes none of its arguments. No condition.
-/
import Derived.Test.YtbikepmnjgcgkaaRows
import Derived.Test.YtbikepmnjgcgkaaBlE
import Derived.WalkKit
import Derived.ProofKit
import Derived.OpenShut
import Derived.ShutString
import Derived.ChangeOld
import Derived.Below
namespace Go.Proofs.Ytbikepmnjgcgkaa.ballotVotes
open Go.ChangeShapes Go.WideShapes Go.ChangeAt Go.RowKit
open Go.ChangeMaps (open_string shut_string)
set_option linter.unusedSimpArgs false
set_option linter.unusedVariables false

theorem own : ownKnob Try.prog.godebug = none := by kernel_rfl
theorem laidOut : laidOutB Try.prog = true := by kernel_rfl

/-! The law returns true, and writes nothing that was there. -/
set_option maxRecDepth 100000 in
set_option maxHeartbeats 4000000 in
theorem walk (a0 : Int) (a1 : Int) (a2 : Int) (w : World) (w0 : (Lit.int .u8 a0).wf = true) (w1 : (Lit.int .i64 a1).wf = true) (w2 : (Lit.int .i64 a2).wf = true) :
    Calls Try.prog 6 #[.int .u8 a0, .int .i64 a1, .int .i64 a2] w fun e w' => e = .returned (.bool true) ∧ Below w.heap.size w w' := by
  obtain ⟨v, rfl⟩ : ∃ v : Nat, a0 = v := ⟨a0.toNat, by have := bounds_u8 w0; omega⟩
  have hv : v < 256 := by have := bounds_u8 w0; omega
  have hx := wit_lt v a1 hv
  clear w0 w1 w2
  obtain ⟨x, hxe⟩ : ∃ x, x = wit v a1 := ⟨_, rfl⟩
  have HX : Hid (x = wit v a1) := hxe
  rw [← hxe] at hx
  clear hxe
  by_cases hi : 0 ≤ a1 ∧ a1 < 5
  · rcases (show a2 < 1 ∨ (1 ≤ a2 ∧ a2 ≤ 5) ∨ 5 < a2 by omega) with hm | hm | hm
    · have hc1 : clip a2 = 1 := by unfold clip; omega
      obtain ⟨h1, h2⟩ := hi
      go_enter Try.func6, Try.ntmps6
      go_wp2_with fail
      refine (set_any v _ hv).mono ?_
      rintro e w1 ⟨rfl, hb1⟩
      have HB1 : Hid (Below w.heap.size w w1) := hb1
      clear hb1
      obtain ⟨B, hB⟩ : ∃ B : Nat → Bool, B = fun k => v.testBit k := ⟨_, rfl⟩
      have hBk : ∀ k, v.testBit k = B k := fun k => by rw [hB]
      have HBk : Hid (∀ k, v.testBit k = B k) := hBk
      rw [hBk 0, hBk 1, hBk 2, hBk 3, hBk 4]
      clear hBk hB
      go_wp2
      obtain ⟨W, hW⟩ : ∃ W, W = w1.alloc (.cells #[.bool (B 0), .bool (B 1), .bool (B 2), .bool (B 3), .bool (B 4)] 50) := ⟨_, rfl⟩
      have hcell : ∀ k, k < 5 → W.cell? ⟨w1.heap.size, k, none⟩ = some (.bool (B k)) := by
        intro k hk
        have hh : W.heap[w1.heap.size]? = some (.cells #[.bool (B 0), .bool (B 1), .bool (B 2), .bool (B 3), .bool (B 4)] 50) := by
          rw [hW]
          show (w1.heap.push _)[w1.heap.size]? = _
          simp
        have hc5 : k = 0 ∨ k = 1 ∨ k = 2 ∨ k = 3 ∨ k = 4 := by omega
        rcases hc5 with rfl | rfl | rfl | rfl | rfl <;> exact cell_of_heap hh rfl
      have HV0 : Hid ((∀ k, k < 5 → W.cell? ⟨w1.heap.size, k, none⟩ = some (.bool (B k))) ∧ Below w.heap.size w W) := ⟨hcell, by rw [hW]; exact HB1.out.alloc HB1.out.size _⟩
      rw [← hW]
      generalize w1.heap.size = g at *
      clear hW hcell HB1
      go_loopw [11] (fun t wr => ∃ k : Nat, t = .int .i64 (k : Nat) ∧ k ≤ 5 ∧ Hid ((∀ k, k < 5 → wr.cell? ⟨g, k, none⟩ = some (.bool (B k))) ∧ Below w.heap.size w wr)) (fun t _ => 5 - (intOf t).toNat)
      case atStart => exact ⟨0, rfl, by omega, HV0⟩
      case round =>
        clear HV0
        obtain ⟨k, rfl, hk, HV⟩ := hrel
        by_cases h5 : k < 5
        · have hc : wr.cell? ⟨g, k, none⟩ = some (.bool (B k)) := HV.out.1 k h5
          have HA : Hid (∀ i, Calls Try.prog 28 #[.int .u8 v, .int .i64 k] (wr.drewN i) fun e w' => e = .returned (.bool (B k)) ∧ w' = wr.drewN i) := fun i => by have := has_in v k (wr.drewN i) hv h5; rw [HBk.out k] at this; exact this
          have HW : Hid (∀ i, Calls Try.prog 29 #[.int .u8 v, .int .i64 a1] (wr.drewN i) fun e w' => e = .returned (.int .u8 (x : Nat)) ∧ w' = wr.drewN i) := fun i => by have := with_any v a1 (wr.drewN i) hv; rw [← HX.out] at this; exact this
          have HD : Hid (∀ i, Calls Try.prog 28 #[.int .u8 x, .int .i64 k] (wr.drewN i) fun e w' => e = .returned (.bool (B k || decide ((k : Int) = a1))) ∧ w' = wr.drewN i) := fun i => by have := has_in x k (wr.drewN i) hx h5; rw [HX.out, wit_bit v a1 k h5, HBk.out k, ← HX.out] at this; exact this
          obtain ⟨bk, hbk⟩ : ∃ bk, bk = B k := ⟨_, rfl⟩
          rw [← hbk] at hc HA HD
          clear hbk
          cases bk
          · by_cases hka : (k : Int) = a1
            · have hd : decide ((k : Int) = a1) = true := decide_eq_true hka
              rw [hd] at HD
              subst hka
              clear hd
              go_wp2
              go_quiet (first | with_reducible exact Calls.quiet_of_same (HA.out _) | with_reducible exact Calls.quiet_of_same (HW.out _) | with_reducible exact Calls.quiet_of_same (HD.out _))
              go_wp2
              go_roundw
              case rel => exact ⟨k + 1, by go_num, by omega, ⟨fun k hk => HV.out.1 k hk, below_drewN HV.out.2 _⟩⟩
              case measure => simp [intOf]; omega
            · have hd : decide ((k : Int) = a1) = false := decide_eq_false hka
              rw [hd] at HD
              have hbe : ((k : Int) == a1) = false := by simpa using hka
              clear hd
              go_wp2
              go_quiet (first | with_reducible exact Calls.quiet_of_same (HA.out _) | with_reducible exact Calls.quiet_of_same (HW.out _) | with_reducible exact Calls.quiet_of_same (HD.out _))
              go_wp2
              go_roundw
              case rel => exact ⟨k + 1, by go_num, by omega, ⟨fun k hk => HV.out.1 k hk, below_drewN HV.out.2 _⟩⟩
              case measure => simp [intOf]; omega
          · rw [Bool.true_or] at HD
            go_wp2
            go_quiet (first | with_reducible exact Calls.quiet_of_same (HA.out _) | with_reducible exact Calls.quiet_of_same (HW.out _) | with_reducible exact Calls.quiet_of_same (HD.out _))
            go_wp2
            go_roundw
            case rel => exact ⟨k + 1, by go_num, by omega, ⟨fun k hk => HV.out.1 k hk, below_drewN HV.out.2 _⟩⟩
            case measure => simp [intOf]; omega
        · obtain rfl : k = 5 := by omega
          have HB : Hid (Below w.heap.size w wr) := HV.out.2
          clear HV
          go_wp2_with fail
          refine (len_any v _ hv).mono ?_
          rintro e w2 ⟨rfl, hw⟩
          subst w2
          go_wp2_with fail
          refine (ref_among_any v 5 _ hv (by omega)).mono ?_
          rintro e w3 ⟨rfl, hb3⟩
          have HB3 : Hid (Below w.heap.size w w3) := HB.out.trans (hb3.mono HB.out.size)
          clear hb3
          go_wp2_with fail
          refine (wins_any v a2 _ hv).mono ?_
          rintro e w4 ⟨rfl, hw⟩
          subst w4
          rw [hc1]
          go_wp2_with fail
          refine (ref_among_any v 1 _ hv (by omega)).mono ?_
          rintro e w5 ⟨rfl, hb5⟩
          have HB5 : Hid (Below w.heap.size w w5) := HB3.out.trans (hb5.mono HB3.out.size)
          clear hb5
          have hcl := cnt_le v 1
          have hwn : decide ((1 : Int) < 2 * (cnt v 1 : Nat)) = wins v 1 := by unfold wins; apply decide_eq_decide.2; omega
          go_wp2_with fail
          refine (awake7_any _).mono ?_
          rintro e w6 ⟨rfl, hw⟩
          subst w6
          go_wp2
          go_ret
          exact ⟨rfl, HB5.out⟩
    · obtain ⟨m, rfl⟩ : ∃ m : Nat, a2 = m := ⟨a2.toNat, by omega⟩
      have hc1 : clip m = m := by unfold clip; omega
      obtain ⟨h1, h2⟩ := hi
      go_enter Try.func6, Try.ntmps6
      go_wp2_with fail
      refine (set_any v _ hv).mono ?_
      rintro e w1 ⟨rfl, hb1⟩
      have HB1 : Hid (Below w.heap.size w w1) := hb1
      clear hb1
      obtain ⟨B, hB⟩ : ∃ B : Nat → Bool, B = fun k => v.testBit k := ⟨_, rfl⟩
      have hBk : ∀ k, v.testBit k = B k := fun k => by rw [hB]
      have HBk : Hid (∀ k, v.testBit k = B k) := hBk
      rw [hBk 0, hBk 1, hBk 2, hBk 3, hBk 4]
      clear hBk hB
      go_wp2
      obtain ⟨W, hW⟩ : ∃ W, W = w1.alloc (.cells #[.bool (B 0), .bool (B 1), .bool (B 2), .bool (B 3), .bool (B 4)] 50) := ⟨_, rfl⟩
      have hcell : ∀ k, k < 5 → W.cell? ⟨w1.heap.size, k, none⟩ = some (.bool (B k)) := by
        intro k hk
        have hh : W.heap[w1.heap.size]? = some (.cells #[.bool (B 0), .bool (B 1), .bool (B 2), .bool (B 3), .bool (B 4)] 50) := by
          rw [hW]
          show (w1.heap.push _)[w1.heap.size]? = _
          simp
        have hc5 : k = 0 ∨ k = 1 ∨ k = 2 ∨ k = 3 ∨ k = 4 := by omega
        rcases hc5 with rfl | rfl | rfl | rfl | rfl <;> exact cell_of_heap hh rfl
      have HV0 : Hid ((∀ k, k < 5 → W.cell? ⟨w1.heap.size, k, none⟩ = some (.bool (B k))) ∧ Below w.heap.size w W) := ⟨hcell, by rw [hW]; exact HB1.out.alloc HB1.out.size _⟩
      rw [← hW]
      generalize w1.heap.size = g at *
      clear hW hcell HB1
      go_loopw [11] (fun t wr => ∃ k : Nat, t = .int .i64 (k : Nat) ∧ k ≤ 5 ∧ Hid ((∀ k, k < 5 → wr.cell? ⟨g, k, none⟩ = some (.bool (B k))) ∧ Below w.heap.size w wr)) (fun t _ => 5 - (intOf t).toNat)
      case atStart => exact ⟨0, rfl, by omega, HV0⟩
      case round =>
        clear HV0
        obtain ⟨k, rfl, hk, HV⟩ := hrel
        by_cases h5 : k < 5
        · have hc : wr.cell? ⟨g, k, none⟩ = some (.bool (B k)) := HV.out.1 k h5
          have HA : Hid (∀ i, Calls Try.prog 28 #[.int .u8 v, .int .i64 k] (wr.drewN i) fun e w' => e = .returned (.bool (B k)) ∧ w' = wr.drewN i) := fun i => by have := has_in v k (wr.drewN i) hv h5; rw [HBk.out k] at this; exact this
          have HW : Hid (∀ i, Calls Try.prog 29 #[.int .u8 v, .int .i64 a1] (wr.drewN i) fun e w' => e = .returned (.int .u8 (x : Nat)) ∧ w' = wr.drewN i) := fun i => by have := with_any v a1 (wr.drewN i) hv; rw [← HX.out] at this; exact this
          have HD : Hid (∀ i, Calls Try.prog 28 #[.int .u8 x, .int .i64 k] (wr.drewN i) fun e w' => e = .returned (.bool (B k || decide ((k : Int) = a1))) ∧ w' = wr.drewN i) := fun i => by have := has_in x k (wr.drewN i) hx h5; rw [HX.out, wit_bit v a1 k h5, HBk.out k, ← HX.out] at this; exact this
          obtain ⟨bk, hbk⟩ : ∃ bk, bk = B k := ⟨_, rfl⟩
          rw [← hbk] at hc HA HD
          clear hbk
          cases bk
          · by_cases hka : (k : Int) = a1
            · have hd : decide ((k : Int) = a1) = true := decide_eq_true hka
              rw [hd] at HD
              subst hka
              clear hd
              go_wp2
              go_quiet (first | with_reducible exact Calls.quiet_of_same (HA.out _) | with_reducible exact Calls.quiet_of_same (HW.out _) | with_reducible exact Calls.quiet_of_same (HD.out _))
              go_wp2
              go_roundw
              case rel => exact ⟨k + 1, by go_num, by omega, ⟨fun k hk => HV.out.1 k hk, below_drewN HV.out.2 _⟩⟩
              case measure => simp [intOf]; omega
            · have hd : decide ((k : Int) = a1) = false := decide_eq_false hka
              rw [hd] at HD
              have hbe : ((k : Int) == a1) = false := by simpa using hka
              clear hd
              go_wp2
              go_quiet (first | with_reducible exact Calls.quiet_of_same (HA.out _) | with_reducible exact Calls.quiet_of_same (HW.out _) | with_reducible exact Calls.quiet_of_same (HD.out _))
              go_wp2
              go_roundw
              case rel => exact ⟨k + 1, by go_num, by omega, ⟨fun k hk => HV.out.1 k hk, below_drewN HV.out.2 _⟩⟩
              case measure => simp [intOf]; omega
          · rw [Bool.true_or] at HD
            go_wp2
            go_quiet (first | with_reducible exact Calls.quiet_of_same (HA.out _) | with_reducible exact Calls.quiet_of_same (HW.out _) | with_reducible exact Calls.quiet_of_same (HD.out _))
            go_wp2
            go_roundw
            case rel => exact ⟨k + 1, by go_num, by omega, ⟨fun k hk => HV.out.1 k hk, below_drewN HV.out.2 _⟩⟩
            case measure => simp [intOf]; omega
        · obtain rfl : k = 5 := by omega
          have HB : Hid (Below w.heap.size w wr) := HV.out.2
          clear HV
          go_wp2_with fail
          refine (len_any v _ hv).mono ?_
          rintro e w2 ⟨rfl, hw⟩
          subst w2
          go_wp2_with fail
          refine (ref_among_any v 5 _ hv (by omega)).mono ?_
          rintro e w3 ⟨rfl, hb3⟩
          have HB3 : Hid (Below w.heap.size w w3) := HB.out.trans (hb3.mono HB.out.size)
          clear hb3
          go_wp2_with fail
          refine (wins_any v m _ hv).mono ?_
          rintro e w4 ⟨rfl, hw⟩
          subst w4
          rw [hc1]
          go_wp2_with fail
          refine (ref_among_any v m _ hv (by omega)).mono ?_
          rintro e w5 ⟨rfl, hb5⟩
          have HB5 : Hid (Below w.heap.size w w5) := HB3.out.trans (hb5.mono HB3.out.size)
          clear hb5
          have hcl := cnt_le v m
          have hwn : decide ((m : Int) < 2 * (cnt v m : Nat)) = wins v m := by unfold wins; apply decide_eq_decide.2; omega
          go_wp2_with fail
          refine (awake7_any _).mono ?_
          rintro e w6 ⟨rfl, hw⟩
          subst w6
          go_wp2
          go_ret
          exact ⟨rfl, HB5.out⟩
    · have hc1 : clip a2 = 5 := by unfold clip; omega
      obtain ⟨h1, h2⟩ := hi
      go_enter Try.func6, Try.ntmps6
      go_wp2_with fail
      refine (set_any v _ hv).mono ?_
      rintro e w1 ⟨rfl, hb1⟩
      have HB1 : Hid (Below w.heap.size w w1) := hb1
      clear hb1
      obtain ⟨B, hB⟩ : ∃ B : Nat → Bool, B = fun k => v.testBit k := ⟨_, rfl⟩
      have hBk : ∀ k, v.testBit k = B k := fun k => by rw [hB]
      have HBk : Hid (∀ k, v.testBit k = B k) := hBk
      rw [hBk 0, hBk 1, hBk 2, hBk 3, hBk 4]
      clear hBk hB
      go_wp2
      obtain ⟨W, hW⟩ : ∃ W, W = w1.alloc (.cells #[.bool (B 0), .bool (B 1), .bool (B 2), .bool (B 3), .bool (B 4)] 50) := ⟨_, rfl⟩
      have hcell : ∀ k, k < 5 → W.cell? ⟨w1.heap.size, k, none⟩ = some (.bool (B k)) := by
        intro k hk
        have hh : W.heap[w1.heap.size]? = some (.cells #[.bool (B 0), .bool (B 1), .bool (B 2), .bool (B 3), .bool (B 4)] 50) := by
          rw [hW]
          show (w1.heap.push _)[w1.heap.size]? = _
          simp
        have hc5 : k = 0 ∨ k = 1 ∨ k = 2 ∨ k = 3 ∨ k = 4 := by omega
        rcases hc5 with rfl | rfl | rfl | rfl | rfl <;> exact cell_of_heap hh rfl
      have HV0 : Hid ((∀ k, k < 5 → W.cell? ⟨w1.heap.size, k, none⟩ = some (.bool (B k))) ∧ Below w.heap.size w W) := ⟨hcell, by rw [hW]; exact HB1.out.alloc HB1.out.size _⟩
      rw [← hW]
      generalize w1.heap.size = g at *
      clear hW hcell HB1
      go_loopw [11] (fun t wr => ∃ k : Nat, t = .int .i64 (k : Nat) ∧ k ≤ 5 ∧ Hid ((∀ k, k < 5 → wr.cell? ⟨g, k, none⟩ = some (.bool (B k))) ∧ Below w.heap.size w wr)) (fun t _ => 5 - (intOf t).toNat)
      case atStart => exact ⟨0, rfl, by omega, HV0⟩
      case round =>
        clear HV0
        obtain ⟨k, rfl, hk, HV⟩ := hrel
        by_cases h5 : k < 5
        · have hc : wr.cell? ⟨g, k, none⟩ = some (.bool (B k)) := HV.out.1 k h5
          have HA : Hid (∀ i, Calls Try.prog 28 #[.int .u8 v, .int .i64 k] (wr.drewN i) fun e w' => e = .returned (.bool (B k)) ∧ w' = wr.drewN i) := fun i => by have := has_in v k (wr.drewN i) hv h5; rw [HBk.out k] at this; exact this
          have HW : Hid (∀ i, Calls Try.prog 29 #[.int .u8 v, .int .i64 a1] (wr.drewN i) fun e w' => e = .returned (.int .u8 (x : Nat)) ∧ w' = wr.drewN i) := fun i => by have := with_any v a1 (wr.drewN i) hv; rw [← HX.out] at this; exact this
          have HD : Hid (∀ i, Calls Try.prog 28 #[.int .u8 x, .int .i64 k] (wr.drewN i) fun e w' => e = .returned (.bool (B k || decide ((k : Int) = a1))) ∧ w' = wr.drewN i) := fun i => by have := has_in x k (wr.drewN i) hx h5; rw [HX.out, wit_bit v a1 k h5, HBk.out k, ← HX.out] at this; exact this
          obtain ⟨bk, hbk⟩ : ∃ bk, bk = B k := ⟨_, rfl⟩
          rw [← hbk] at hc HA HD
          clear hbk
          cases bk
          · by_cases hka : (k : Int) = a1
            · have hd : decide ((k : Int) = a1) = true := decide_eq_true hka
              rw [hd] at HD
              subst hka
              clear hd
              go_wp2
              go_quiet (first | with_reducible exact Calls.quiet_of_same (HA.out _) | with_reducible exact Calls.quiet_of_same (HW.out _) | with_reducible exact Calls.quiet_of_same (HD.out _))
              go_wp2
              go_roundw
              case rel => exact ⟨k + 1, by go_num, by omega, ⟨fun k hk => HV.out.1 k hk, below_drewN HV.out.2 _⟩⟩
              case measure => simp [intOf]; omega
            · have hd : decide ((k : Int) = a1) = false := decide_eq_false hka
              rw [hd] at HD
              have hbe : ((k : Int) == a1) = false := by simpa using hka
              clear hd
              go_wp2
              go_quiet (first | with_reducible exact Calls.quiet_of_same (HA.out _) | with_reducible exact Calls.quiet_of_same (HW.out _) | with_reducible exact Calls.quiet_of_same (HD.out _))
              go_wp2
              go_roundw
              case rel => exact ⟨k + 1, by go_num, by omega, ⟨fun k hk => HV.out.1 k hk, below_drewN HV.out.2 _⟩⟩
              case measure => simp [intOf]; omega
          · rw [Bool.true_or] at HD
            go_wp2
            go_quiet (first | with_reducible exact Calls.quiet_of_same (HA.out _) | with_reducible exact Calls.quiet_of_same (HW.out _) | with_reducible exact Calls.quiet_of_same (HD.out _))
            go_wp2
            go_roundw
            case rel => exact ⟨k + 1, by go_num, by omega, ⟨fun k hk => HV.out.1 k hk, below_drewN HV.out.2 _⟩⟩
            case measure => simp [intOf]; omega
        · obtain rfl : k = 5 := by omega
          have HB : Hid (Below w.heap.size w wr) := HV.out.2
          clear HV
          go_wp2_with fail
          refine (len_any v _ hv).mono ?_
          rintro e w2 ⟨rfl, hw⟩
          subst w2
          go_wp2_with fail
          refine (ref_among_any v 5 _ hv (by omega)).mono ?_
          rintro e w3 ⟨rfl, hb3⟩
          have HB3 : Hid (Below w.heap.size w w3) := HB.out.trans (hb3.mono HB.out.size)
          clear hb3
          go_wp2_with fail
          refine (wins_any v a2 _ hv).mono ?_
          rintro e w4 ⟨rfl, hw⟩
          subst w4
          rw [hc1]
          go_wp2_with fail
          refine (ref_among_any v 5 _ hv (by omega)).mono ?_
          rintro e w5 ⟨rfl, hb5⟩
          have HB5 : Hid (Below w.heap.size w w5) := HB3.out.trans (hb5.mono HB3.out.size)
          clear hb5
          have hcl := cnt_le v 5
          have hwn : decide ((5 : Int) < 2 * (cnt v 5 : Nat)) = wins v 5 := by unfold wins; apply decide_eq_decide.2; omega
          go_wp2_with fail
          refine (awake7_any _).mono ?_
          rintro e w6 ⟨rfl, hw⟩
          subst w6
          go_wp2
          go_ret
          exact ⟨rfl, HB5.out⟩
  · rcases (show a2 < 1 ∨ (1 ≤ a2 ∧ a2 ≤ 5) ∨ 5 < a2 by omega) with hm | hm | hm
    · have hc1 : clip a2 = 1 := by unfold clip; omega
      have hi1 : a1 < 0 ∨ (0 ≤ a1 ∧ 5 ≤ a1) := by omega
      rcases hi1 with hi1 | ⟨hi1, hi2⟩
      · go_enter Try.func6, Try.ntmps6
        go_wp2_with fail
        refine (set_any v _ hv).mono ?_
        rintro e w1 ⟨rfl, hb1⟩
        have HB1 : Hid (Below w.heap.size w w1) := hb1
        clear hb1
        obtain ⟨B, hB⟩ : ∃ B : Nat → Bool, B = fun k => v.testBit k := ⟨_, rfl⟩
        have hBk : ∀ k, v.testBit k = B k := fun k => by rw [hB]
        have HBk : Hid (∀ k, v.testBit k = B k) := hBk
        rw [hBk 0, hBk 1, hBk 2, hBk 3, hBk 4]
        clear hBk hB
        go_wp2
        obtain ⟨W, hW⟩ : ∃ W, W = w1.alloc (.cells #[.bool (B 0), .bool (B 1), .bool (B 2), .bool (B 3), .bool (B 4)] 50) := ⟨_, rfl⟩
        have hcell : ∀ k, k < 5 → W.cell? ⟨w1.heap.size, k, none⟩ = some (.bool (B k)) := by
          intro k hk
          have hh : W.heap[w1.heap.size]? = some (.cells #[.bool (B 0), .bool (B 1), .bool (B 2), .bool (B 3), .bool (B 4)] 50) := by
            rw [hW]
            show (w1.heap.push _)[w1.heap.size]? = _
            simp
          have hc5 : k = 0 ∨ k = 1 ∨ k = 2 ∨ k = 3 ∨ k = 4 := by omega
          rcases hc5 with rfl | rfl | rfl | rfl | rfl <;> exact cell_of_heap hh rfl
        have HV0 : Hid ((∀ k, k < 5 → W.cell? ⟨w1.heap.size, k, none⟩ = some (.bool (B k))) ∧ Below w.heap.size w W) := ⟨hcell, by rw [hW]; exact HB1.out.alloc HB1.out.size _⟩
        rw [← hW]
        generalize w1.heap.size = g at *
        clear hW hcell HB1
        go_loopw [11] (fun t wr => ∃ k : Nat, t = .int .i64 (k : Nat) ∧ k ≤ 5 ∧ Hid ((∀ k, k < 5 → wr.cell? ⟨g, k, none⟩ = some (.bool (B k))) ∧ Below w.heap.size w wr)) (fun t _ => 5 - (intOf t).toNat)
        case atStart => exact ⟨0, rfl, by omega, HV0⟩
        case round =>
          clear HV0
          obtain ⟨k, rfl, hk, HV⟩ := hrel
          by_cases h5 : k < 5
          · have hc : wr.cell? ⟨g, k, none⟩ = some (.bool (B k)) := HV.out.1 k h5
            have HA : Hid (∀ i, Calls Try.prog 28 #[.int .u8 v, .int .i64 k] (wr.drewN i) fun e w' => e = .returned (.bool (B k)) ∧ w' = wr.drewN i) := fun i => by have := has_in v k (wr.drewN i) hv h5; rw [HBk.out k] at this; exact this
            have HW : Hid (∀ i, Calls Try.prog 29 #[.int .u8 v, .int .i64 a1] (wr.drewN i) fun e w' => e = .returned (.int .u8 (x : Nat)) ∧ w' = wr.drewN i) := fun i => by have := with_any v a1 (wr.drewN i) hv; rw [← HX.out] at this; exact this
            have HD : Hid (∀ i, Calls Try.prog 28 #[.int .u8 x, .int .i64 k] (wr.drewN i) fun e w' => e = .returned (.bool (B k || decide ((k : Int) = a1))) ∧ w' = wr.drewN i) := fun i => by have := has_in x k (wr.drewN i) hx h5; rw [HX.out, wit_bit v a1 k h5, HBk.out k, ← HX.out] at this; exact this
            obtain ⟨bk, hbk⟩ : ∃ bk, bk = B k := ⟨_, rfl⟩
            rw [← hbk] at hc HA HD
            clear hbk
            cases bk
            · by_cases hka : (k : Int) = a1
              · have hd : decide ((k : Int) = a1) = true := decide_eq_true hka
                exfalso
                omega
              · have hd : decide ((k : Int) = a1) = false := decide_eq_false hka
                rw [hd] at HD
                have hbe : ((k : Int) == a1) = false := by simpa using hka
                clear hd
                go_wp2
                go_quiet (first | with_reducible exact Calls.quiet_of_same (HA.out _) | with_reducible exact Calls.quiet_of_same (HW.out _) | with_reducible exact Calls.quiet_of_same (HD.out _))
                go_wp2
                go_roundw
                case rel => exact ⟨k + 1, by go_num, by omega, ⟨fun k hk => HV.out.1 k hk, below_drewN HV.out.2 _⟩⟩
                case measure => simp [intOf]; omega
            · rw [Bool.true_or] at HD
              go_wp2
              go_quiet (first | with_reducible exact Calls.quiet_of_same (HA.out _) | with_reducible exact Calls.quiet_of_same (HW.out _) | with_reducible exact Calls.quiet_of_same (HD.out _))
              go_wp2
              go_roundw
              case rel => exact ⟨k + 1, by go_num, by omega, ⟨fun k hk => HV.out.1 k hk, below_drewN HV.out.2 _⟩⟩
              case measure => simp [intOf]; omega
          · obtain rfl : k = 5 := by omega
            have HB : Hid (Below w.heap.size w wr) := HV.out.2
            clear HV
            go_wp2_with fail
            refine (has_out v a1 _ hi).mono ?_
            rintro e w2 ⟨rfl, hw⟩
            subst w2
            go_wp2_with fail
            refine (with_any v a1 _ hv).mono ?_
            rintro e w2 ⟨rfl, hw⟩
            subst w2
            rw [show wit v a1 = v by simp [wit, hi]]
            go_wp2_with fail
            refine (len_any v _ hv).mono ?_
            rintro e w2 ⟨rfl, hw⟩
            subst w2
            go_wp2_with fail
            refine (ref_among_any v 5 _ hv (by omega)).mono ?_
            rintro e w3 ⟨rfl, hb3⟩
            have HB3 : Hid (Below w.heap.size w w3) := HB.out.trans (hb3.mono HB.out.size)
            clear hb3
            go_wp2_with fail
            refine (wins_any v a2 _ hv).mono ?_
            rintro e w4 ⟨rfl, hw⟩
            subst w4
            rw [hc1]
            go_wp2_with fail
            refine (ref_among_any v 1 _ hv (by omega)).mono ?_
            rintro e w5 ⟨rfl, hb5⟩
            have HB5 : Hid (Below w.heap.size w w5) := HB3.out.trans (hb5.mono HB3.out.size)
            clear hb5
            have hcl := cnt_le v 1
            have hwn : decide ((1 : Int) < 2 * (cnt v 1 : Nat)) = wins v 1 := by unfold wins; apply decide_eq_decide.2; omega
            go_wp2_with fail
            refine (awake7_any _).mono ?_
            rintro e w6 ⟨rfl, hw⟩
            subst w6
            go_wp2
            go_ret
            exact ⟨rfl, HB5.out⟩
      · go_enter Try.func6, Try.ntmps6
        go_wp2_with fail
        refine (set_any v _ hv).mono ?_
        rintro e w1 ⟨rfl, hb1⟩
        have HB1 : Hid (Below w.heap.size w w1) := hb1
        clear hb1
        obtain ⟨B, hB⟩ : ∃ B : Nat → Bool, B = fun k => v.testBit k := ⟨_, rfl⟩
        have hBk : ∀ k, v.testBit k = B k := fun k => by rw [hB]
        have HBk : Hid (∀ k, v.testBit k = B k) := hBk
        rw [hBk 0, hBk 1, hBk 2, hBk 3, hBk 4]
        clear hBk hB
        go_wp2
        obtain ⟨W, hW⟩ : ∃ W, W = w1.alloc (.cells #[.bool (B 0), .bool (B 1), .bool (B 2), .bool (B 3), .bool (B 4)] 50) := ⟨_, rfl⟩
        have hcell : ∀ k, k < 5 → W.cell? ⟨w1.heap.size, k, none⟩ = some (.bool (B k)) := by
          intro k hk
          have hh : W.heap[w1.heap.size]? = some (.cells #[.bool (B 0), .bool (B 1), .bool (B 2), .bool (B 3), .bool (B 4)] 50) := by
            rw [hW]
            show (w1.heap.push _)[w1.heap.size]? = _
            simp
          have hc5 : k = 0 ∨ k = 1 ∨ k = 2 ∨ k = 3 ∨ k = 4 := by omega
          rcases hc5 with rfl | rfl | rfl | rfl | rfl <;> exact cell_of_heap hh rfl
        have HV0 : Hid ((∀ k, k < 5 → W.cell? ⟨w1.heap.size, k, none⟩ = some (.bool (B k))) ∧ Below w.heap.size w W) := ⟨hcell, by rw [hW]; exact HB1.out.alloc HB1.out.size _⟩
        rw [← hW]
        generalize w1.heap.size = g at *
        clear hW hcell HB1
        go_loopw [11] (fun t wr => ∃ k : Nat, t = .int .i64 (k : Nat) ∧ k ≤ 5 ∧ Hid ((∀ k, k < 5 → wr.cell? ⟨g, k, none⟩ = some (.bool (B k))) ∧ Below w.heap.size w wr)) (fun t _ => 5 - (intOf t).toNat)
        case atStart => exact ⟨0, rfl, by omega, HV0⟩
        case round =>
          clear HV0
          obtain ⟨k, rfl, hk, HV⟩ := hrel
          by_cases h5 : k < 5
          · have hc : wr.cell? ⟨g, k, none⟩ = some (.bool (B k)) := HV.out.1 k h5
            have HA : Hid (∀ i, Calls Try.prog 28 #[.int .u8 v, .int .i64 k] (wr.drewN i) fun e w' => e = .returned (.bool (B k)) ∧ w' = wr.drewN i) := fun i => by have := has_in v k (wr.drewN i) hv h5; rw [HBk.out k] at this; exact this
            have HW : Hid (∀ i, Calls Try.prog 29 #[.int .u8 v, .int .i64 a1] (wr.drewN i) fun e w' => e = .returned (.int .u8 (x : Nat)) ∧ w' = wr.drewN i) := fun i => by have := with_any v a1 (wr.drewN i) hv; rw [← HX.out] at this; exact this
            have HD : Hid (∀ i, Calls Try.prog 28 #[.int .u8 x, .int .i64 k] (wr.drewN i) fun e w' => e = .returned (.bool (B k || decide ((k : Int) = a1))) ∧ w' = wr.drewN i) := fun i => by have := has_in x k (wr.drewN i) hx h5; rw [HX.out, wit_bit v a1 k h5, HBk.out k, ← HX.out] at this; exact this
            obtain ⟨bk, hbk⟩ : ∃ bk, bk = B k := ⟨_, rfl⟩
            rw [← hbk] at hc HA HD
            clear hbk
            cases bk
            · by_cases hka : (k : Int) = a1
              · have hd : decide ((k : Int) = a1) = true := decide_eq_true hka
                exfalso
                omega
              · have hd : decide ((k : Int) = a1) = false := decide_eq_false hka
                rw [hd] at HD
                have hbe : ((k : Int) == a1) = false := by simpa using hka
                clear hd
                go_wp2
                go_quiet (first | with_reducible exact Calls.quiet_of_same (HA.out _) | with_reducible exact Calls.quiet_of_same (HW.out _) | with_reducible exact Calls.quiet_of_same (HD.out _))
                go_wp2
                go_roundw
                case rel => exact ⟨k + 1, by go_num, by omega, ⟨fun k hk => HV.out.1 k hk, below_drewN HV.out.2 _⟩⟩
                case measure => simp [intOf]; omega
            · rw [Bool.true_or] at HD
              go_wp2
              go_quiet (first | with_reducible exact Calls.quiet_of_same (HA.out _) | with_reducible exact Calls.quiet_of_same (HW.out _) | with_reducible exact Calls.quiet_of_same (HD.out _))
              go_wp2
              go_roundw
              case rel => exact ⟨k + 1, by go_num, by omega, ⟨fun k hk => HV.out.1 k hk, below_drewN HV.out.2 _⟩⟩
              case measure => simp [intOf]; omega
          · obtain rfl : k = 5 := by omega
            have HB : Hid (Below w.heap.size w wr) := HV.out.2
            clear HV
            go_wp2_with fail
            refine (has_out v a1 _ hi).mono ?_
            rintro e w2 ⟨rfl, hw⟩
            subst w2
            go_wp2_with fail
            refine (with_any v a1 _ hv).mono ?_
            rintro e w2 ⟨rfl, hw⟩
            subst w2
            rw [show wit v a1 = v by simp [wit, hi]]
            go_wp2_with fail
            refine (len_any v _ hv).mono ?_
            rintro e w2 ⟨rfl, hw⟩
            subst w2
            go_wp2_with fail
            refine (ref_among_any v 5 _ hv (by omega)).mono ?_
            rintro e w3 ⟨rfl, hb3⟩
            have HB3 : Hid (Below w.heap.size w w3) := HB.out.trans (hb3.mono HB.out.size)
            clear hb3
            go_wp2_with fail
            refine (wins_any v a2 _ hv).mono ?_
            rintro e w4 ⟨rfl, hw⟩
            subst w4
            rw [hc1]
            go_wp2_with fail
            refine (ref_among_any v 1 _ hv (by omega)).mono ?_
            rintro e w5 ⟨rfl, hb5⟩
            have HB5 : Hid (Below w.heap.size w w5) := HB3.out.trans (hb5.mono HB3.out.size)
            clear hb5
            have hcl := cnt_le v 1
            have hwn : decide ((1 : Int) < 2 * (cnt v 1 : Nat)) = wins v 1 := by unfold wins; apply decide_eq_decide.2; omega
            go_wp2_with fail
            refine (awake7_any _).mono ?_
            rintro e w6 ⟨rfl, hw⟩
            subst w6
            go_wp2
            go_ret
            exact ⟨rfl, HB5.out⟩
    · obtain ⟨m, rfl⟩ : ∃ m : Nat, a2 = m := ⟨a2.toNat, by omega⟩
      have hc1 : clip m = m := by unfold clip; omega
      have hi1 : a1 < 0 ∨ (0 ≤ a1 ∧ 5 ≤ a1) := by omega
      rcases hi1 with hi1 | ⟨hi1, hi2⟩
      · go_enter Try.func6, Try.ntmps6
        go_wp2_with fail
        refine (set_any v _ hv).mono ?_
        rintro e w1 ⟨rfl, hb1⟩
        have HB1 : Hid (Below w.heap.size w w1) := hb1
        clear hb1
        obtain ⟨B, hB⟩ : ∃ B : Nat → Bool, B = fun k => v.testBit k := ⟨_, rfl⟩
        have hBk : ∀ k, v.testBit k = B k := fun k => by rw [hB]
        have HBk : Hid (∀ k, v.testBit k = B k) := hBk
        rw [hBk 0, hBk 1, hBk 2, hBk 3, hBk 4]
        clear hBk hB
        go_wp2
        obtain ⟨W, hW⟩ : ∃ W, W = w1.alloc (.cells #[.bool (B 0), .bool (B 1), .bool (B 2), .bool (B 3), .bool (B 4)] 50) := ⟨_, rfl⟩
        have hcell : ∀ k, k < 5 → W.cell? ⟨w1.heap.size, k, none⟩ = some (.bool (B k)) := by
          intro k hk
          have hh : W.heap[w1.heap.size]? = some (.cells #[.bool (B 0), .bool (B 1), .bool (B 2), .bool (B 3), .bool (B 4)] 50) := by
            rw [hW]
            show (w1.heap.push _)[w1.heap.size]? = _
            simp
          have hc5 : k = 0 ∨ k = 1 ∨ k = 2 ∨ k = 3 ∨ k = 4 := by omega
          rcases hc5 with rfl | rfl | rfl | rfl | rfl <;> exact cell_of_heap hh rfl
        have HV0 : Hid ((∀ k, k < 5 → W.cell? ⟨w1.heap.size, k, none⟩ = some (.bool (B k))) ∧ Below w.heap.size w W) := ⟨hcell, by rw [hW]; exact HB1.out.alloc HB1.out.size _⟩
        rw [← hW]
        generalize w1.heap.size = g at *
        clear hW hcell HB1
        go_loopw [11] (fun t wr => ∃ k : Nat, t = .int .i64 (k : Nat) ∧ k ≤ 5 ∧ Hid ((∀ k, k < 5 → wr.cell? ⟨g, k, none⟩ = some (.bool (B k))) ∧ Below w.heap.size w wr)) (fun t _ => 5 - (intOf t).toNat)
        case atStart => exact ⟨0, rfl, by omega, HV0⟩
        case round =>
          clear HV0
          obtain ⟨k, rfl, hk, HV⟩ := hrel
          by_cases h5 : k < 5
          · have hc : wr.cell? ⟨g, k, none⟩ = some (.bool (B k)) := HV.out.1 k h5
            have HA : Hid (∀ i, Calls Try.prog 28 #[.int .u8 v, .int .i64 k] (wr.drewN i) fun e w' => e = .returned (.bool (B k)) ∧ w' = wr.drewN i) := fun i => by have := has_in v k (wr.drewN i) hv h5; rw [HBk.out k] at this; exact this
            have HW : Hid (∀ i, Calls Try.prog 29 #[.int .u8 v, .int .i64 a1] (wr.drewN i) fun e w' => e = .returned (.int .u8 (x : Nat)) ∧ w' = wr.drewN i) := fun i => by have := with_any v a1 (wr.drewN i) hv; rw [← HX.out] at this; exact this
            have HD : Hid (∀ i, Calls Try.prog 28 #[.int .u8 x, .int .i64 k] (wr.drewN i) fun e w' => e = .returned (.bool (B k || decide ((k : Int) = a1))) ∧ w' = wr.drewN i) := fun i => by have := has_in x k (wr.drewN i) hx h5; rw [HX.out, wit_bit v a1 k h5, HBk.out k, ← HX.out] at this; exact this
            obtain ⟨bk, hbk⟩ : ∃ bk, bk = B k := ⟨_, rfl⟩
            rw [← hbk] at hc HA HD
            clear hbk
            cases bk
            · by_cases hka : (k : Int) = a1
              · have hd : decide ((k : Int) = a1) = true := decide_eq_true hka
                exfalso
                omega
              · have hd : decide ((k : Int) = a1) = false := decide_eq_false hka
                rw [hd] at HD
                have hbe : ((k : Int) == a1) = false := by simpa using hka
                clear hd
                go_wp2
                go_quiet (first | with_reducible exact Calls.quiet_of_same (HA.out _) | with_reducible exact Calls.quiet_of_same (HW.out _) | with_reducible exact Calls.quiet_of_same (HD.out _))
                go_wp2
                go_roundw
                case rel => exact ⟨k + 1, by go_num, by omega, ⟨fun k hk => HV.out.1 k hk, below_drewN HV.out.2 _⟩⟩
                case measure => simp [intOf]; omega
            · rw [Bool.true_or] at HD
              go_wp2
              go_quiet (first | with_reducible exact Calls.quiet_of_same (HA.out _) | with_reducible exact Calls.quiet_of_same (HW.out _) | with_reducible exact Calls.quiet_of_same (HD.out _))
              go_wp2
              go_roundw
              case rel => exact ⟨k + 1, by go_num, by omega, ⟨fun k hk => HV.out.1 k hk, below_drewN HV.out.2 _⟩⟩
              case measure => simp [intOf]; omega
          · obtain rfl : k = 5 := by omega
            have HB : Hid (Below w.heap.size w wr) := HV.out.2
            clear HV
            go_wp2_with fail
            refine (has_out v a1 _ hi).mono ?_
            rintro e w2 ⟨rfl, hw⟩
            subst w2
            go_wp2_with fail
            refine (with_any v a1 _ hv).mono ?_
            rintro e w2 ⟨rfl, hw⟩
            subst w2
            rw [show wit v a1 = v by simp [wit, hi]]
            go_wp2_with fail
            refine (len_any v _ hv).mono ?_
            rintro e w2 ⟨rfl, hw⟩
            subst w2
            go_wp2_with fail
            refine (ref_among_any v 5 _ hv (by omega)).mono ?_
            rintro e w3 ⟨rfl, hb3⟩
            have HB3 : Hid (Below w.heap.size w w3) := HB.out.trans (hb3.mono HB.out.size)
            clear hb3
            go_wp2_with fail
            refine (wins_any v m _ hv).mono ?_
            rintro e w4 ⟨rfl, hw⟩
            subst w4
            rw [hc1]
            go_wp2_with fail
            refine (ref_among_any v m _ hv (by omega)).mono ?_
            rintro e w5 ⟨rfl, hb5⟩
            have HB5 : Hid (Below w.heap.size w w5) := HB3.out.trans (hb5.mono HB3.out.size)
            clear hb5
            have hcl := cnt_le v m
            have hwn : decide ((m : Int) < 2 * (cnt v m : Nat)) = wins v m := by unfold wins; apply decide_eq_decide.2; omega
            go_wp2_with fail
            refine (awake7_any _).mono ?_
            rintro e w6 ⟨rfl, hw⟩
            subst w6
            go_wp2
            go_ret
            exact ⟨rfl, HB5.out⟩
      · go_enter Try.func6, Try.ntmps6
        go_wp2_with fail
        refine (set_any v _ hv).mono ?_
        rintro e w1 ⟨rfl, hb1⟩
        have HB1 : Hid (Below w.heap.size w w1) := hb1
        clear hb1
        obtain ⟨B, hB⟩ : ∃ B : Nat → Bool, B = fun k => v.testBit k := ⟨_, rfl⟩
        have hBk : ∀ k, v.testBit k = B k := fun k => by rw [hB]
        have HBk : Hid (∀ k, v.testBit k = B k) := hBk
        rw [hBk 0, hBk 1, hBk 2, hBk 3, hBk 4]
        clear hBk hB
        go_wp2
        obtain ⟨W, hW⟩ : ∃ W, W = w1.alloc (.cells #[.bool (B 0), .bool (B 1), .bool (B 2), .bool (B 3), .bool (B 4)] 50) := ⟨_, rfl⟩
        have hcell : ∀ k, k < 5 → W.cell? ⟨w1.heap.size, k, none⟩ = some (.bool (B k)) := by
          intro k hk
          have hh : W.heap[w1.heap.size]? = some (.cells #[.bool (B 0), .bool (B 1), .bool (B 2), .bool (B 3), .bool (B 4)] 50) := by
            rw [hW]
            show (w1.heap.push _)[w1.heap.size]? = _
            simp
          have hc5 : k = 0 ∨ k = 1 ∨ k = 2 ∨ k = 3 ∨ k = 4 := by omega
          rcases hc5 with rfl | rfl | rfl | rfl | rfl <;> exact cell_of_heap hh rfl
        have HV0 : Hid ((∀ k, k < 5 → W.cell? ⟨w1.heap.size, k, none⟩ = some (.bool (B k))) ∧ Below w.heap.size w W) := ⟨hcell, by rw [hW]; exact HB1.out.alloc HB1.out.size _⟩
        rw [← hW]
        generalize w1.heap.size = g at *
        clear hW hcell HB1
        go_loopw [11] (fun t wr => ∃ k : Nat, t = .int .i64 (k : Nat) ∧ k ≤ 5 ∧ Hid ((∀ k, k < 5 → wr.cell? ⟨g, k, none⟩ = some (.bool (B k))) ∧ Below w.heap.size w wr)) (fun t _ => 5 - (intOf t).toNat)
        case atStart => exact ⟨0, rfl, by omega, HV0⟩
        case round =>
          clear HV0
          obtain ⟨k, rfl, hk, HV⟩ := hrel
          by_cases h5 : k < 5
          · have hc : wr.cell? ⟨g, k, none⟩ = some (.bool (B k)) := HV.out.1 k h5
            have HA : Hid (∀ i, Calls Try.prog 28 #[.int .u8 v, .int .i64 k] (wr.drewN i) fun e w' => e = .returned (.bool (B k)) ∧ w' = wr.drewN i) := fun i => by have := has_in v k (wr.drewN i) hv h5; rw [HBk.out k] at this; exact this
            have HW : Hid (∀ i, Calls Try.prog 29 #[.int .u8 v, .int .i64 a1] (wr.drewN i) fun e w' => e = .returned (.int .u8 (x : Nat)) ∧ w' = wr.drewN i) := fun i => by have := with_any v a1 (wr.drewN i) hv; rw [← HX.out] at this; exact this
            have HD : Hid (∀ i, Calls Try.prog 28 #[.int .u8 x, .int .i64 k] (wr.drewN i) fun e w' => e = .returned (.bool (B k || decide ((k : Int) = a1))) ∧ w' = wr.drewN i) := fun i => by have := has_in x k (wr.drewN i) hx h5; rw [HX.out, wit_bit v a1 k h5, HBk.out k, ← HX.out] at this; exact this
            obtain ⟨bk, hbk⟩ : ∃ bk, bk = B k := ⟨_, rfl⟩
            rw [← hbk] at hc HA HD
            clear hbk
            cases bk
            · by_cases hka : (k : Int) = a1
              · have hd : decide ((k : Int) = a1) = true := decide_eq_true hka
                exfalso
                omega
              · have hd : decide ((k : Int) = a1) = false := decide_eq_false hka
                rw [hd] at HD
                have hbe : ((k : Int) == a1) = false := by simpa using hka
                clear hd
                go_wp2
                go_quiet (first | with_reducible exact Calls.quiet_of_same (HA.out _) | with_reducible exact Calls.quiet_of_same (HW.out _) | with_reducible exact Calls.quiet_of_same (HD.out _))
                go_wp2
                go_roundw
                case rel => exact ⟨k + 1, by go_num, by omega, ⟨fun k hk => HV.out.1 k hk, below_drewN HV.out.2 _⟩⟩
                case measure => simp [intOf]; omega
            · rw [Bool.true_or] at HD
              go_wp2
              go_quiet (first | with_reducible exact Calls.quiet_of_same (HA.out _) | with_reducible exact Calls.quiet_of_same (HW.out _) | with_reducible exact Calls.quiet_of_same (HD.out _))
              go_wp2
              go_roundw
              case rel => exact ⟨k + 1, by go_num, by omega, ⟨fun k hk => HV.out.1 k hk, below_drewN HV.out.2 _⟩⟩
              case measure => simp [intOf]; omega
          · obtain rfl : k = 5 := by omega
            have HB : Hid (Below w.heap.size w wr) := HV.out.2
            clear HV
            go_wp2_with fail
            refine (has_out v a1 _ hi).mono ?_
            rintro e w2 ⟨rfl, hw⟩
            subst w2
            go_wp2_with fail
            refine (with_any v a1 _ hv).mono ?_
            rintro e w2 ⟨rfl, hw⟩
            subst w2
            rw [show wit v a1 = v by simp [wit, hi]]
            go_wp2_with fail
            refine (len_any v _ hv).mono ?_
            rintro e w2 ⟨rfl, hw⟩
            subst w2
            go_wp2_with fail
            refine (ref_among_any v 5 _ hv (by omega)).mono ?_
            rintro e w3 ⟨rfl, hb3⟩
            have HB3 : Hid (Below w.heap.size w w3) := HB.out.trans (hb3.mono HB.out.size)
            clear hb3
            go_wp2_with fail
            refine (wins_any v m _ hv).mono ?_
            rintro e w4 ⟨rfl, hw⟩
            subst w4
            rw [hc1]
            go_wp2_with fail
            refine (ref_among_any v m _ hv (by omega)).mono ?_
            rintro e w5 ⟨rfl, hb5⟩
            have HB5 : Hid (Below w.heap.size w w5) := HB3.out.trans (hb5.mono HB3.out.size)
            clear hb5
            have hcl := cnt_le v m
            have hwn : decide ((m : Int) < 2 * (cnt v m : Nat)) = wins v m := by unfold wins; apply decide_eq_decide.2; omega
            go_wp2_with fail
            refine (awake7_any _).mono ?_
            rintro e w6 ⟨rfl, hw⟩
            subst w6
            go_wp2
            go_ret
            exact ⟨rfl, HB5.out⟩
    · have hc1 : clip a2 = 5 := by unfold clip; omega
      have hi1 : a1 < 0 ∨ (0 ≤ a1 ∧ 5 ≤ a1) := by omega
      rcases hi1 with hi1 | ⟨hi1, hi2⟩
      · go_enter Try.func6, Try.ntmps6
        go_wp2_with fail
        refine (set_any v _ hv).mono ?_
        rintro e w1 ⟨rfl, hb1⟩
        have HB1 : Hid (Below w.heap.size w w1) := hb1
        clear hb1
        obtain ⟨B, hB⟩ : ∃ B : Nat → Bool, B = fun k => v.testBit k := ⟨_, rfl⟩
        have hBk : ∀ k, v.testBit k = B k := fun k => by rw [hB]
        have HBk : Hid (∀ k, v.testBit k = B k) := hBk
        rw [hBk 0, hBk 1, hBk 2, hBk 3, hBk 4]
        clear hBk hB
        go_wp2
        obtain ⟨W, hW⟩ : ∃ W, W = w1.alloc (.cells #[.bool (B 0), .bool (B 1), .bool (B 2), .bool (B 3), .bool (B 4)] 50) := ⟨_, rfl⟩
        have hcell : ∀ k, k < 5 → W.cell? ⟨w1.heap.size, k, none⟩ = some (.bool (B k)) := by
          intro k hk
          have hh : W.heap[w1.heap.size]? = some (.cells #[.bool (B 0), .bool (B 1), .bool (B 2), .bool (B 3), .bool (B 4)] 50) := by
            rw [hW]
            show (w1.heap.push _)[w1.heap.size]? = _
            simp
          have hc5 : k = 0 ∨ k = 1 ∨ k = 2 ∨ k = 3 ∨ k = 4 := by omega
          rcases hc5 with rfl | rfl | rfl | rfl | rfl <;> exact cell_of_heap hh rfl
        have HV0 : Hid ((∀ k, k < 5 → W.cell? ⟨w1.heap.size, k, none⟩ = some (.bool (B k))) ∧ Below w.heap.size w W) := ⟨hcell, by rw [hW]; exact HB1.out.alloc HB1.out.size _⟩
        rw [← hW]
        generalize w1.heap.size = g at *
        clear hW hcell HB1
        go_loopw [11] (fun t wr => ∃ k : Nat, t = .int .i64 (k : Nat) ∧ k ≤ 5 ∧ Hid ((∀ k, k < 5 → wr.cell? ⟨g, k, none⟩ = some (.bool (B k))) ∧ Below w.heap.size w wr)) (fun t _ => 5 - (intOf t).toNat)
        case atStart => exact ⟨0, rfl, by omega, HV0⟩
        case round =>
          clear HV0
          obtain ⟨k, rfl, hk, HV⟩ := hrel
          by_cases h5 : k < 5
          · have hc : wr.cell? ⟨g, k, none⟩ = some (.bool (B k)) := HV.out.1 k h5
            have HA : Hid (∀ i, Calls Try.prog 28 #[.int .u8 v, .int .i64 k] (wr.drewN i) fun e w' => e = .returned (.bool (B k)) ∧ w' = wr.drewN i) := fun i => by have := has_in v k (wr.drewN i) hv h5; rw [HBk.out k] at this; exact this
            have HW : Hid (∀ i, Calls Try.prog 29 #[.int .u8 v, .int .i64 a1] (wr.drewN i) fun e w' => e = .returned (.int .u8 (x : Nat)) ∧ w' = wr.drewN i) := fun i => by have := with_any v a1 (wr.drewN i) hv; rw [← HX.out] at this; exact this
            have HD : Hid (∀ i, Calls Try.prog 28 #[.int .u8 x, .int .i64 k] (wr.drewN i) fun e w' => e = .returned (.bool (B k || decide ((k : Int) = a1))) ∧ w' = wr.drewN i) := fun i => by have := has_in x k (wr.drewN i) hx h5; rw [HX.out, wit_bit v a1 k h5, HBk.out k, ← HX.out] at this; exact this
            obtain ⟨bk, hbk⟩ : ∃ bk, bk = B k := ⟨_, rfl⟩
            rw [← hbk] at hc HA HD
            clear hbk
            cases bk
            · by_cases hka : (k : Int) = a1
              · have hd : decide ((k : Int) = a1) = true := decide_eq_true hka
                exfalso
                omega
              · have hd : decide ((k : Int) = a1) = false := decide_eq_false hka
                rw [hd] at HD
                have hbe : ((k : Int) == a1) = false := by simpa using hka
                clear hd
                go_wp2
                go_quiet (first | with_reducible exact Calls.quiet_of_same (HA.out _) | with_reducible exact Calls.quiet_of_same (HW.out _) | with_reducible exact Calls.quiet_of_same (HD.out _))
                go_wp2
                go_roundw
                case rel => exact ⟨k + 1, by go_num, by omega, ⟨fun k hk => HV.out.1 k hk, below_drewN HV.out.2 _⟩⟩
                case measure => simp [intOf]; omega
            · rw [Bool.true_or] at HD
              go_wp2
              go_quiet (first | with_reducible exact Calls.quiet_of_same (HA.out _) | with_reducible exact Calls.quiet_of_same (HW.out _) | with_reducible exact Calls.quiet_of_same (HD.out _))
              go_wp2
              go_roundw
              case rel => exact ⟨k + 1, by go_num, by omega, ⟨fun k hk => HV.out.1 k hk, below_drewN HV.out.2 _⟩⟩
              case measure => simp [intOf]; omega
          · obtain rfl : k = 5 := by omega
            have HB : Hid (Below w.heap.size w wr) := HV.out.2
            clear HV
            go_wp2_with fail
            refine (has_out v a1 _ hi).mono ?_
            rintro e w2 ⟨rfl, hw⟩
            subst w2
            go_wp2_with fail
            refine (with_any v a1 _ hv).mono ?_
            rintro e w2 ⟨rfl, hw⟩
            subst w2
            rw [show wit v a1 = v by simp [wit, hi]]
            go_wp2_with fail
            refine (len_any v _ hv).mono ?_
            rintro e w2 ⟨rfl, hw⟩
            subst w2
            go_wp2_with fail
            refine (ref_among_any v 5 _ hv (by omega)).mono ?_
            rintro e w3 ⟨rfl, hb3⟩
            have HB3 : Hid (Below w.heap.size w w3) := HB.out.trans (hb3.mono HB.out.size)
            clear hb3
            go_wp2_with fail
            refine (wins_any v a2 _ hv).mono ?_
            rintro e w4 ⟨rfl, hw⟩
            subst w4
            rw [hc1]
            go_wp2_with fail
            refine (ref_among_any v 5 _ hv (by omega)).mono ?_
            rintro e w5 ⟨rfl, hb5⟩
            have HB5 : Hid (Below w.heap.size w w5) := HB3.out.trans (hb5.mono HB3.out.size)
            clear hb5
            have hcl := cnt_le v 5
            have hwn : decide ((5 : Int) < 2 * (cnt v 5 : Nat)) = wins v 5 := by unfold wins; apply decide_eq_decide.2; omega
            go_wp2_with fail
            refine (awake7_any _).mono ?_
            rintro e w6 ⟨rfl, hw⟩
            subst w6
            go_wp2
            go_ret
            exact ⟨rfl, HB5.out⟩
      · go_enter Try.func6, Try.ntmps6
        go_wp2_with fail
        refine (set_any v _ hv).mono ?_
        rintro e w1 ⟨rfl, hb1⟩
        have HB1 : Hid (Below w.heap.size w w1) := hb1
        clear hb1
        obtain ⟨B, hB⟩ : ∃ B : Nat → Bool, B = fun k => v.testBit k := ⟨_, rfl⟩
        have hBk : ∀ k, v.testBit k = B k := fun k => by rw [hB]
        have HBk : Hid (∀ k, v.testBit k = B k) := hBk
        rw [hBk 0, hBk 1, hBk 2, hBk 3, hBk 4]
        clear hBk hB
        go_wp2
        obtain ⟨W, hW⟩ : ∃ W, W = w1.alloc (.cells #[.bool (B 0), .bool (B 1), .bool (B 2), .bool (B 3), .bool (B 4)] 50) := ⟨_, rfl⟩
        have hcell : ∀ k, k < 5 → W.cell? ⟨w1.heap.size, k, none⟩ = some (.bool (B k)) := by
          intro k hk
          have hh : W.heap[w1.heap.size]? = some (.cells #[.bool (B 0), .bool (B 1), .bool (B 2), .bool (B 3), .bool (B 4)] 50) := by
            rw [hW]
            show (w1.heap.push _)[w1.heap.size]? = _
            simp
          have hc5 : k = 0 ∨ k = 1 ∨ k = 2 ∨ k = 3 ∨ k = 4 := by omega
          rcases hc5 with rfl | rfl | rfl | rfl | rfl <;> exact cell_of_heap hh rfl
        have HV0 : Hid ((∀ k, k < 5 → W.cell? ⟨w1.heap.size, k, none⟩ = some (.bool (B k))) ∧ Below w.heap.size w W) := ⟨hcell, by rw [hW]; exact HB1.out.alloc HB1.out.size _⟩
        rw [← hW]
        generalize w1.heap.size = g at *
        clear hW hcell HB1
        go_loopw [11] (fun t wr => ∃ k : Nat, t = .int .i64 (k : Nat) ∧ k ≤ 5 ∧ Hid ((∀ k, k < 5 → wr.cell? ⟨g, k, none⟩ = some (.bool (B k))) ∧ Below w.heap.size w wr)) (fun t _ => 5 - (intOf t).toNat)
        case atStart => exact ⟨0, rfl, by omega, HV0⟩
        case round =>
          clear HV0
          obtain ⟨k, rfl, hk, HV⟩ := hrel
          by_cases h5 : k < 5
          · have hc : wr.cell? ⟨g, k, none⟩ = some (.bool (B k)) := HV.out.1 k h5
            have HA : Hid (∀ i, Calls Try.prog 28 #[.int .u8 v, .int .i64 k] (wr.drewN i) fun e w' => e = .returned (.bool (B k)) ∧ w' = wr.drewN i) := fun i => by have := has_in v k (wr.drewN i) hv h5; rw [HBk.out k] at this; exact this
            have HW : Hid (∀ i, Calls Try.prog 29 #[.int .u8 v, .int .i64 a1] (wr.drewN i) fun e w' => e = .returned (.int .u8 (x : Nat)) ∧ w' = wr.drewN i) := fun i => by have := with_any v a1 (wr.drewN i) hv; rw [← HX.out] at this; exact this
            have HD : Hid (∀ i, Calls Try.prog 28 #[.int .u8 x, .int .i64 k] (wr.drewN i) fun e w' => e = .returned (.bool (B k || decide ((k : Int) = a1))) ∧ w' = wr.drewN i) := fun i => by have := has_in x k (wr.drewN i) hx h5; rw [HX.out, wit_bit v a1 k h5, HBk.out k, ← HX.out] at this; exact this
            obtain ⟨bk, hbk⟩ : ∃ bk, bk = B k := ⟨_, rfl⟩
            rw [← hbk] at hc HA HD
            clear hbk
            cases bk
            · by_cases hka : (k : Int) = a1
              · have hd : decide ((k : Int) = a1) = true := decide_eq_true hka
                exfalso
                omega
              · have hd : decide ((k : Int) = a1) = false := decide_eq_false hka
                rw [hd] at HD
                have hbe : ((k : Int) == a1) = false := by simpa using hka
                clear hd
                go_wp2
                go_quiet (first | with_reducible exact Calls.quiet_of_same (HA.out _) | with_reducible exact Calls.quiet_of_same (HW.out _) | with_reducible exact Calls.quiet_of_same (HD.out _))
                go_wp2
                go_roundw
                case rel => exact ⟨k + 1, by go_num, by omega, ⟨fun k hk => HV.out.1 k hk, below_drewN HV.out.2 _⟩⟩
                case measure => simp [intOf]; omega
            · rw [Bool.true_or] at HD
              go_wp2
              go_quiet (first | with_reducible exact Calls.quiet_of_same (HA.out _) | with_reducible exact Calls.quiet_of_same (HW.out _) | with_reducible exact Calls.quiet_of_same (HD.out _))
              go_wp2
              go_roundw
              case rel => exact ⟨k + 1, by go_num, by omega, ⟨fun k hk => HV.out.1 k hk, below_drewN HV.out.2 _⟩⟩
              case measure => simp [intOf]; omega
          · obtain rfl : k = 5 := by omega
            have HB : Hid (Below w.heap.size w wr) := HV.out.2
            clear HV
            go_wp2_with fail
            refine (has_out v a1 _ hi).mono ?_
            rintro e w2 ⟨rfl, hw⟩
            subst w2
            go_wp2_with fail
            refine (with_any v a1 _ hv).mono ?_
            rintro e w2 ⟨rfl, hw⟩
            subst w2
            rw [show wit v a1 = v by simp [wit, hi]]
            go_wp2_with fail
            refine (len_any v _ hv).mono ?_
            rintro e w2 ⟨rfl, hw⟩
            subst w2
            go_wp2_with fail
            refine (ref_among_any v 5 _ hv (by omega)).mono ?_
            rintro e w3 ⟨rfl, hb3⟩
            have HB3 : Hid (Below w.heap.size w w3) := HB.out.trans (hb3.mono HB.out.size)
            clear hb3
            go_wp2_with fail
            refine (wins_any v a2 _ hv).mono ?_
            rintro e w4 ⟨rfl, hw⟩
            subst w4
            rw [hc1]
            go_wp2_with fail
            refine (ref_among_any v 5 _ hv (by omega)).mono ?_
            rintro e w5 ⟨rfl, hb5⟩
            have HB5 : Hid (Below w.heap.size w w5) := HB3.out.trans (hb5.mono HB3.out.size)
            clear hb5
            have hcl := cnt_le v 5
            have hwn : decide ((5 : Int) < 2 * (cnt v 5 : Nat)) = wins v 5 := by unfold wins; apply decide_eq_decide.2; omega
            go_wp2_with fail
            refine (awake7_any _).mono ?_
            rintro e w6 ⟨rfl, hw⟩
            subst w6
            go_wp2
            go_ret
            exact ⟨rfl, HB5.out⟩

/-! From the call to the statement. -/
set_option maxRecDepth 100000 in
theorem lifted (os : Os) (started : os.Started) (H : Type) (enc : TypeId × Value → H) :
    ReturnsInHanded {} Try.checked os 6 .any (Rows.ballotVotesSpec.pre6 enc Try.prog Try.f6 Rows.ballotVotesRow.domain false) (Rows.ballotVotesSpec.post enc Try.prog Try.f6 false true false false) := by
  refine returnsInHanded_of_change (C := Try.checked) own started (by kernel_rfl) Try.func6
    (ChangeSpec.witness6 (enc := enc) (C := Try.checked) false ⟨#[], #[.int .u8 0, .int .i64 0, .int .i64 0], []⟩ 8 (by kernel_rfl) (by kernel_rfl) (by kernel_rfl) (by kernel_rfl)) ?_
  intro W base args ds gs before hval0 hW hcnd _
  have hval : ∀ (j : Nat) t v, Try.f6.params[j]? = some t → args[j]? = some v → Value.okWide Try.prog W .any base t v := hval0
  have hW' := hW
  obtain ⟨p, q, hA0, hV, rfl, hfz, hnd⟩ := hW
  have hA : DataW.TrodAll enc Try.prog W 0 (fun _ => true) true Try.f6.params.toList args.toList ds p := hA0
  rw [Try.params6] at hA hval
  obtain ⟨v0, vs0, d0, ds0, p0, q0, hargs, rfl, rfl, h0, r0⟩ := trodAll_cons hA
  obtain ⟨v1, vs1, d1, ds1, p1, q1, rfl, rfl, rfl, h1, r1⟩ := trodAll_cons r0
  obtain ⟨v2, vs2, d2, ds2, p2, q2, rfl, rfl, rfl, h2, r2⟩ := trodAll_cons r1
  obtain ⟨rfl, rfl, rfl⟩ := trodAll_nil r2
  obtain rfl : args = #[v0, v1, v2] := by cases args; simp_all
  obtain ⟨rfl, rfl⟩ := trodVars_none hV
  obtain ⟨a0, rfl, rfl, rfl, w0⟩ := open_int Try.underlying5 (hval 0 5 v0 rfl rfl) h0
  obtain ⟨a1, rfl, rfl, rfl, w1⟩ := open_int Try.underlying3 (hval 1 3 v1 rfl rfl) h1
  obtain ⟨a2, rfl, rfl, rfl, w2⟩ := open_int Try.underlying3 (hval 2 3 v2 rfl rfl) h2
  clear hA0 hval0
  simp only [List.append_nil] at hW'
  refine (walk a0 a1 a2 W w0 w1 w2).mono fun e W' ⟨he, bel⟩ => ?_
  subst he
  exact ⟨_, rfl, _, _, _, [], _, [], hW', trodAll_mk1 (shut_bool Try.underlying4 _), (trodAll_cons_mk (shut_int Try.underlying5 w0) (trodAll_cons_mk (shut_int Try.underlying3 w1) (trodAll_cons_mk (shut_int Try.underlying3 w2) trodAll_mk0))), rfl, bel.frame _, fun h => by cases h⟩

theorem over : Rows.ballotVotesRow.holds Try.pinned (OpenSpec.ofChange Rows.ballotVotesSpec) :=
  OpenClaim.holds_of_wide 6 Try.f6 rfl rfl rfl rfl rfl rfl rfl ⟨rfl, rfl, rfl, rfl, rfl⟩ rfl rfl rfl rfl rfl (by kernel_rfl) Try.func6 (by kernel_rfl)
    (of_decide_eq_true (by kernel_rfl)) (by unfold Func.isWrapper; first | (rw [if_pos (by decide +kernel)]; kernel_rfl) | (rw [if_neg (by decide +kernel)]; exact ⟨rfl, rfl⟩))
    (fun os started H enc _ => lifted os started H enc)
end Go.Proofs.Ytbikepmnjgcgkaa.ballotVotes
namespace Go.Proofs.Ytbikepmnjgcgkaa
theorem ballotVotes_holds : Rows.BallotVotesSaid := ballotVotes.over
#print axioms ballotVotes_holds
end Go.Proofs.Ytbikepmnjgcgkaa
