/- What package ballot's votes do: contracts. -/
import Derived.Test.YtbikepmnjgcgkaaBase
import Derived.LoopN
import Derived.Handy
namespace Go.Proofs.Ytbikepmnjgcgkaa
open Go.RowKit

theorem isMaster_any (n : Int) (w : World) :
    Calls Try.prog 45 #[.int .i64 n] w fun e w' => e = .returned (.bool (decide (0 ≤ n ∧ n < 5))) ∧ w' = w := by
  by_cases h : 0 ≤ n
  · go_enter Try.func45, Try.ntmps45
    go_wp2
    go_ret
    simp [h]
  · go_enter Try.func45, Try.ntmps45
    go_wp2
    go_ret
    simp; omega

theorem bit_has : ∀ (v : Fin 256) (k : Fin 5), (bits .and .u8 ((v.1 : Int) / 2 ^ k.1) 1 == 1) = v.1.testBit k.1 := by decide +kernel

theorem has_in (v : Nat) (k : Nat) (w : World) (hv : v < 256) (hk : k < 5) :
    Calls Try.prog 28 #[.int .u8 v, .int .i64 k] w fun e w' => e = .returned (.bool (v.testBit k)) ∧ w' = w := by
  have hb := bit_has ⟨v, hv⟩ ⟨k, hk⟩
  go_enter Try.func28, Try.ntmps28
  go_wp2_with fail
  refine (isMaster_any _ _).mono ?_
  rintro e w1 ⟨rfl, hw⟩
  subst w1
  have e1 : decide (0 ≤ (k : Int) ∧ (k : Int) < 5) = true := by simp; omega
  rw [e1]
  go_wp2
  go_ret
  exact ⟨rfl, rfl⟩

theorem has_out (v : Nat) (n : Int) (w : World) (hn : ¬ (0 ≤ n ∧ n < 5)) :
    Calls Try.prog 28 #[.int .u8 v, .int .i64 n] w fun e w' => e = .returned (.bool false) ∧ w' = w := by
  go_enter Try.func28, Try.ntmps28
  go_wp2_with fail
  refine (isMaster_any _ _).mono ?_
  rintro e w1 ⟨rfl, hw⟩
  subst w1
  have e1 : decide (0 ≤ n ∧ n < 5) = false := decide_eq_false hn
  rw [e1]
  go_wp2
  go_ret
  exact ⟨rfl, rfl⟩

/-- is that master in the votes? -/
def has (v : Nat) (n : Int) : Bool := decide (0 ≤ n ∧ n < 5) && v.testBit n.toNat
theorem has_any (v : Nat) (n : Int) (w : World) (hv : v < 256) :
    Calls Try.prog 28 #[.int .u8 v, .int .i64 n] w fun e w' => e = .returned (.bool (has v n)) ∧ w' = w := by
  by_cases hn : 0 ≤ n ∧ n < 5
  · obtain ⟨k, rfl⟩ : ∃ k : Nat, n = k := ⟨n.toNat, by omega⟩
    have := has_in v k w hv (by omega)
    simpa [has, hn] using this
  · have := has_out v n w hn
    simpa [has, hn] using this

/-- the votes with that master -/
def wit (v : Nat) (n : Int) : Nat := if 0 ≤ n ∧ n < 5 then v ||| 2 ^ n.toNat else v
theorem bit_with : ∀ (v : Fin 256) (k : Fin 5), bits .or .u8 (v.1 : Int) ((2 : Int) ^ k.1) = ((v.1 ||| 2 ^ k.1 : Nat) : Int) := by decide +kernel
theorem with_any (v : Nat) (n : Int) (w : World) (hv : v < 256) :
    Calls Try.prog 29 #[.int .u8 v, .int .i64 n] w fun e w' => e = .returned (.int .u8 (wit v n : Nat)) ∧ w' = w := by
  by_cases hn : 0 ≤ n ∧ n < 5
  · obtain ⟨k, rfl⟩ : ∃ k : Nat, n = k := ⟨n.toNat, by omega⟩
    have hb := bit_with ⟨v, hv⟩ ⟨k, by omega⟩
    have e0 : wit v k = v ||| 2 ^ k := by simp [wit, hn]
    rw [e0]
    go_enter Try.func29, Try.ntmps29
    go_wp2_with fail
    refine (isMaster_any _ _).mono ?_
    rintro e w1 ⟨rfl, hw⟩
    subst w1
    rw [decide_eq_true hn]
    go_wp2
    go_ret
    have e2 : ((2 : Int) ^ k) % 256 = 2 ^ k := by
      have : k = 0 ∨ k = 1 ∨ k = 2 ∨ k = 3 ∨ k = 4 := by omega
      rcases this with rfl | rfl | rfl | rfl | rfl <;> rfl
    rw [e2, hb]
    exact ⟨rfl, rfl⟩
  · have e0 : wit v n = v := by simp [wit, hn]
    rw [e0]
    go_enter Try.func29, Try.ntmps29
    go_wp2_with fail
    refine (isMaster_any _ _).mono ?_
    rintro e w1 ⟨rfl, hw⟩
    subst w1
    rw [decide_eq_false hn]
    go_wp2
    go_ret
    exact ⟨rfl, rfl⟩

/-- how many of the first -/
def cnt (v : Nat) : Nat → Nat
  | 0 => 0
  | m + 1 => cnt v m + (v.testBit m).toNat
theorem cnt_le (v : Nat) : ∀ m, cnt v m ≤ m
  | 0 => Nat.le_refl _
  | m + 1 => by have := cnt_le v m; have := Bool.toNat_le (v.testBit m); simp [cnt]; omega

set_option maxRecDepth 100000 in
theorem among_any (v : Nat) (m : Nat) (w : World) (hv : v < 256) (hm : m ≤ 5) :
    Calls Try.prog 53 #[.int .u8 v, .int .i64 m] w fun e w' => e = .returned (.int .i64 (cnt v m : Nat)) ∧ w' = w := by
  go_enter Try.func53, Try.ntmps53
  go_wp2
  go_loopw [5, 8] (fun c t wr => ∃ k : Nat, k ≤ m ∧ t = .int .i64 (k : Nat) ∧ c = .int .i64 (cnt v k : Nat) ∧ wr = w) (fun _ t _ => m - (intOf t).toNat)
  case atStart => exact ⟨0, by omega, rfl, rfl, rfl⟩
  case round =>
    obtain ⟨k, hk, rfl, rfl, rfl⟩ := hrel
    by_cases h : k < m
    · go_wp2_with fail
      refine (has_in v k _ hv (by omega)).mono ?_
      rintro e w1 ⟨rfl, hw⟩
      subst w1
      have hc := cnt_le v k
      cases hb : v.testBit k
      all_goals
        go_wp2
        go_roundw
        case rel => exact ⟨k + 1, by omega, by go_num, by simp [cnt, hb], trivial⟩
        case measure => simp [intOf]; omega
    · obtain rfl : k = m := by omega
      go_wp2
      go_ret
      exact ⟨rfl, rfl⟩

theorem len_any (v : Nat) (w : World) (hv : v < 256) :
    Calls Try.prog 30 #[.int .u8 v] w fun e w' => e = .returned (.int .i64 (cnt v 5 : Nat)) ∧ w' = w := by
  go_enter Try.func30, Try.ntmps30
  go_wp2_with fail
  refine (among_any v 5 _ hv (by omega)).mono ?_
  rintro e w1 ⟨rfl, hw⟩
  subst w1
  go_wp2
  go_ret
  exact ⟨rfl, rfl⟩

/-- how many masters there are -/
def clip (n : Int) : Nat := (min (max n 1) 5).toNat
theorem clip_le (n : Int) : 1 ≤ clip n ∧ clip n ≤ 5 := by unfold clip; omega
/-- do the votes win? -/
def wins (v m : Nat) : Bool := decide (m < 2 * cnt v m)

theorem wins_any (v : Nat) (n : Int) (w : World) (hv : v < 256) :
    Calls Try.prog 32 #[.int .u8 v, .int .i64 n] w fun e w' => e = .returned (.bool (wins v (clip n))) ∧ w' = w := by
  have fin : ∀ (m : Nat) (x : Int), x = 2 * (cnt v m : Nat) → decide ((m : Int) < x) = wins v m := by
    intro m x hx
    subst hx
    unfold wins
    apply decide_eq_decide.2
    omega
  have hcs : n < 1 ∨ (1 ≤ n ∧ n ≤ 5) ∨ 5 < n := by omega
  rcases hcs with h | h | h
  · have e1 : clip n = 1 := by unfold clip; omega
    have f1 := fin 1 _ rfl
    have hc := cnt_le v 1
    rw [e1]
    clear fin e1
    go_enter Try.func32, Try.ntmps32
    go_wp2_with fail
    refine (among_any v 1 _ hv (by omega)).mono ?_
    rintro e w1 ⟨rfl, hw⟩
    subst w1
    go_wp2
    go_ret
    exact ⟨congrArg (fun b => Ending.returned (.bool b)) f1, rfl⟩
  · obtain ⟨m, rfl⟩ : ∃ m : Nat, n = m := ⟨n.toNat, by omega⟩
    have e1 : clip m = m := by unfold clip; omega
    have f1 := fin m _ rfl
    have hc := cnt_le v m
    rw [e1]
    clear fin e1
    go_enter Try.func32, Try.ntmps32
    go_wp2_with fail
    refine (among_any v m _ hv (by omega)).mono ?_
    rintro e w1 ⟨rfl, hw⟩
    subst w1
    go_wp2
    go_ret
    exact ⟨rfl, rfl⟩
  · have e1 : clip n = 5 := by unfold clip; omega
    have f1 := fin 5 _ rfl
    have hc := cnt_le v 5
    rw [e1]
    clear fin e1
    go_enter Try.func32, Try.ntmps32
    go_wp2_with fail
    refine (among_any v 5 _ hv (by omega)).mono ?_
    rintro e w1 ⟨rfl, hw⟩
    subst w1
    go_wp2
    go_ret
    exact ⟨congrArg (fun b => Ending.returned (.bool b)) f1, rfl⟩

theorem awake7_any (w : World) :
    Calls Try.prog 16 #[] w fun e w' => e = .returned (.bool true) ∧ w' = w := by
  go_enter Try.func16, Try.ntmps16
  go_wp2_with fail
  refine (with_any 0 0 _ (by omega)).mono ?_
  rintro e w1 ⟨rfl, hw⟩
  subst w1
  go_wp2_with fail
  refine (with_any 1 2 _ (by omega)).mono ?_
  rintro e w1 ⟨rfl, hw⟩
  subst w1
  go_wp2_with fail
  refine (wins_any 5 3 _ (by omega)).mono ?_
  rintro e w1 ⟨rfl, hw⟩
  subst w1
  rw [show wins 5 (clip 3) = true by decide +kernel]
  go_wp2_with fail
  refine (wins_any 5 4 _ (by omega)).mono ?_
  rintro e w1 ⟨rfl, hw⟩
  subst w1
  rw [show wins 5 (clip 4) = false by decide +kernel]
  go_wp2_with fail
  refine (len_any 5 _ (by omega)).mono ?_
  rintro e w1 ⟨rfl, hw⟩
  subst w1
  rw [show cnt 5 5 = 2 by decide +kernel]
  go_wp2
  go_ret
  exact ⟨rfl, rfl⟩

theorem bit_set : ∀ (v : Fin 256), ((((v.1 : Int) % 2 == 1) = v.1.testBit 0) ∧ (((v.1 : Int) / 2 % 2 == 1) = v.1.testBit 1)) ∧ (((v.1 : Int) / 2 / 2 % 2 == 1) = v.1.testBit 2) ∧ (((v.1 : Int) / 2 / 2 / 2 % 2 == 1) = v.1.testBit 3) ∧ (((v.1 : Int) / 2 / 2 / 2 / 2 % 2 == 1) = v.1.testBit 4) := by decide +kernel

theorem set_any (v : Nat) (w : World) (hv : v < 256) :
    Calls Try.prog 27 #[.int .u8 v] w fun e w' => e = .returned (.agg #[.bool (v.testBit 0), .bool (v.testBit 1), .bool (v.testBit 2), .bool (v.testBit 3), .bool (v.testBit 4)]) ∧ Below w.heap.size w w' := by
  have hb := bit_set ⟨v, hv⟩
  go_enter Try.func27, Try.ntmps27
  go_wp2
  refine wp_loop_rounds 6 ?_
  iterate 6 (rw [rounds_succ]; go_wp2)
  go_returns
  refine ⟨by simp, ?_⟩
  go_grown
end Go.Proofs.Ytbikepmnjgcgkaa
