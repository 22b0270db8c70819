/- What the functions of package frame do, first part: contracts. -/
import Derived.Test.YtmlpneiadkngaaaDoorFrMath
import Derived.Test.YtmlpneiadkngaaaDoorCrcD
import Derived.Test.YtmlpneiadkngaaaDoorFaG
namespace Go.Proofs.YtmlpneiadkngaaaDoor
open Go.RowKit

theorem drewN_below {B : Nat} {a w : World} (h : Below B a w) (n : Nat) : Below B a (w.drewN n) := h.trans ⟨rfl, rfl, rfl, Nat.le_refl _, fun _ _ => rfl⟩

theorem or_i64 (x y : Nat) (hx : x < 256) (hy : y < 256) : bits .or .i64 ((x : Int) * 256) (y : Int) = ((256 * x + y : Nat) : Int) := by
  have e : ((x : Int) * 256) = ((x * 256 : Nat) : Int) := by omega
  have h1 : x * 256 ||| y = x * 256 + y := nat_join 8 (x * 256) y (by omega) (by omega)
  rw [e]
  show IntKind.i64.wrap ((BitVec.ofInt 64 ((x * 256 : Nat) : Int) ||| BitVec.ofInt 64 (y : Int)).toNat : Int) = _
  rw [BitVec.toNat_or, ofInt_u64 _ (by omega), ofInt_u64 _ (by omega), h1, IntWalk.i64_in _ ⟨by omega, by omega⟩]
  omega

/-- what is amiss with the first three bytes: nothing, or a fault -/
theorem length_none (a : Option Addr) (cap : Nat) (w : World) :
    Calls Tryd.prog 77 #[.slice a 0 cap] w fun e w' => ∃ v qs, e = .returned (.tuple #[.int .i64 0, v]) ∧ Errv w' 6 qs v ∧ Below w.heap.size w w' := by
  go_enter Tryd.func77, Tryd.ntmps77
  go_wp2_with fail
  refine (new_bad _ 6 w (by decide)).mono ?_
  rintro e w1 ⟨v1, rfl, hv1, hb1⟩
  have HV : Hid (Errv w1 6 _ v1) := hv1
  have HB : Hid (Below w.heap.size w w1) := hb1
  clear hv1 hb1
  go_wp2
  go_ret2
  exact ⟨_, _, rfl, HV.out, HB.out⟩
theorem length_mark (b off n cap : Nat) (x : Nat) (w : World) (hn : 0 < n) (h0 : w.cell? ⟨b, off, none⟩ = some (.int .u8 (x : Nat))) (h : x ≠ 197) :
    Calls Tryd.prog 77 #[.slice (some ⟨b, off, none⟩) n cap] w fun e w' => ∃ v qs, e = .returned (.tuple #[.int .i64 0, v]) ∧ Errv w' 3 qs v ∧ Below w.heap.size w w' := by
  have hx1 : ((x : Int) == 197) = false := by simp; omega
  go_enter Tryd.func77, Tryd.ntmps77
  go_wp2_with fail
  refine (new_bad _ 3 w (by decide)).mono ?_
  rintro e w1 ⟨v1, rfl, hv1, hb1⟩
  have HV : Hid (Errv w1 3 _ v1) := hv1
  have HB : Hid (Below w.heap.size w w1) := hb1
  clear hv1 hb1
  go_wp2
  go_ret2
  exact ⟨_, _, rfl, HV.out, HB.out⟩
theorem length_few (b off n cap : Nat) (w : World) (hn : 0 < n) (h3 : n < 3) (h0 : w.cell? ⟨b, off, none⟩ = some (.int .u8 197)) :
    Calls Tryd.prog 77 #[.slice (some ⟨b, off, none⟩) n cap] w fun e w' => ∃ v qs, e = .returned (.tuple #[.int .i64 0, v]) ∧ Errv w' 4 qs v ∧ Below w.heap.size w w' := by
  go_enter Tryd.func77, Tryd.ntmps77
  go_wp2_with fail
  refine (new_bad _ 4 w (by decide)).mono ?_
  rintro e w1 ⟨v1, rfl, hv1, hb1⟩
  have HV : Hid (Errv w1 4 _ v1) := hv1
  have HB : Hid (Below w.heap.size w w1) := hb1
  clear hv1 hb1
  go_wp2
  go_ret2
  exact ⟨_, _, rfl, HV.out, HB.out⟩
theorem length_much (b off n cap : Nat) (x y : Nat) (w : World) (hn : 3 ≤ n) (hm : n ≤ maxLen) (hx : x < 256) (hy : y < 256) (h0 : w.cell? ⟨b, off, none⟩ = some (.int .u8 197))
    (h1 : w.cell? ⟨b, off + 1, none⟩ = some (.int .u8 (x : Nat))) (h2 : w.cell? ⟨b, off + 2, none⟩ = some (.int .u8 (y : Nat))) (hz : 256 * x + y ≠ 0) :
    Calls Tryd.prog 77 #[.slice (some ⟨b, off, none⟩) n cap] w fun e w' => e = .returned (.tuple #[.int .i64 (256 * x + y : Nat), .nilIface]) ∧ Below w.heap.size w w' := by
  have ho := or_i64 x y hx hy
  generalize 256 * x + y = z at ho hz
  have hz1 : ((z : Int) == 0) = false := by simp; omega
  unfold maxLen at hm
  go_enter Tryd.func77, Tryd.ntmps77
  go_wp2
  go_quiet (fail)
  go_wp2
  go_ret2
  exact ⟨rfl, drewN_below (Below.refl _ _) _⟩
theorem length_zero (b off n cap : Nat) (w : World) (hn : 3 ≤ n) (hm : n ≤ maxLen) (h0 : w.cell? ⟨b, off, none⟩ = some (.int .u8 197))
    (h1 : w.cell? ⟨b, off + 1, none⟩ = some (.int .u8 0)) (h2 : w.cell? ⟨b, off + 2, none⟩ = some (.int .u8 0)) :
    Calls Tryd.prog 77 #[.slice (some ⟨b, off, none⟩) n cap] w fun e w' => ∃ v qs, e = .returned (.tuple #[.int .i64 0, v]) ∧ Errv w' 3 qs v ∧ Below w.heap.size w w' := by
  have ho : bits .or .i64 0 0 = 0 := or_i64 0 0 (by omega) (by omega)
  unfold maxLen at hm
  go_enter Tryd.func77, Tryd.ntmps77
  go_wp2
  go_quiet (fail)
  go_wp2_with fail
  refine (new_bad _ 3 _ (by decide)).mono ?_
  rintro e w1 ⟨v1, rfl, hv1, hb1⟩
  have HV : Hid (Errv w1 3 _ v1) := hv1
  have HB : Hid (Below w.heap.size w w1) := (drewN_below (Below.refl _ _) _).trans hb1
  clear hv1 hb1
  go_wp2
  go_ret2
  exact ⟨_, _, rfl, HV.out, HB.out⟩

theorem length_bad (a : Option Addr) (n cap : Nat) (bs : List Nat) (w : World) (hr : Row w a n bs) (h : Fr.lcode bs ≠ 0) :
    Calls Tryd.prog 77 #[.slice a n cap] w fun e w' => ∃ v qs, e = .returned (.tuple #[.int .i64 0, v]) ∧ Errv w' (Fr.lcode bs : Nat) qs v ∧ Below w.heap.size w w' := by
  have hl := hr.1
  have hm : n ≤ maxLen := by have := hr.2.2.1; omega
  by_cases h0 : n = 0
  · subst h0
    have e : Fr.lcode bs = 6 := by simp [Fr.lcode, hl]
    rw [e]
    exact length_none a cap w
  · obtain ⟨b, off, rfl, hc⟩ := hr.at (by omega)
    have hb := getD_lt bs hr.2.1
    have c0 := hc 0 (by omega)
    rw [Nat.add_zero] at c0
    by_cases h1 : bs[0]?.getD 0 = 197
    · rw [h1] at c0
      by_cases h3 : n < 3
      · have e : Fr.lcode bs = 4 := by simp [Fr.lcode, hl, h0, h1, h3]
        rw [e]
        exact length_few b off n cap w (by omega) h3 c0
      · by_cases hz : Fr.num bs = 0
        · have e : Fr.lcode bs = 3 := by simp [Fr.lcode, hl, h0, h1, h3, hz]
          rw [e]
          have c1 := hc 1 (by omega)
          have c2 := hc 2 (by omega)
          unfold Fr.num at hz
          rw [show bs[1]?.getD 0 = 0 by omega] at c1
          rw [show bs[2]?.getD 0 = 0 by omega] at c2
          exact length_zero b off n cap w (by omega) hm c0 c1 c2
        · exact absurd (by simp [Fr.lcode, hl, h0, h1, h3, hz]) h
    · have e : Fr.lcode bs = 3 := by simp [Fr.lcode, hl, h0, h1]
      rw [e]
      exact length_mark b off n cap _ w (by omega) c0 h1
theorem lcode_zero {bs : List Nat} (h : Fr.lcode bs = 0) : 3 ≤ bs.length ∧ bs[0]?.getD 0 = 197 ∧ Fr.num bs ≠ 0 := by
  unfold Fr.lcode at h
  by_cases h0 : bs.length = 0
  · rw [if_pos h0] at h; cases h
  · rw [if_neg h0] at h
    by_cases h1 : bs[0]?.getD 0 ≠ 197
    · rw [if_pos h1] at h; cases h
    · rw [if_neg h1] at h
      by_cases h3 : bs.length < 3
      · rw [if_pos h3] at h; cases h
      · rw [if_neg h3] at h
        by_cases hz : Fr.num bs = 0
        · rw [if_pos hz] at h; cases h
        · exact ⟨by omega, by omega, hz⟩
theorem length_ok (a : Option Addr) (n cap : Nat) (bs : List Nat) (w : World) (hr : Row w a n bs) (h : Fr.lcode bs = 0) :
    Calls Tryd.prog 77 #[.slice a n cap] w fun e w' => e = .returned (.tuple #[.int .i64 (Fr.num bs : Nat), .nilIface]) ∧ Below w.heap.size w w' := by
  have hl := hr.1
  have hm : n ≤ maxLen := by have := hr.2.2.1; omega
  obtain ⟨h3, h1, hz⟩ := lcode_zero h
  obtain ⟨b, off, rfl, hc⟩ := hr.at (by omega)
  have hb := getD_lt bs hr.2.1
  have c0 := hc 0 (by omega)
  rw [Nat.add_zero, h1] at c0
  exact length_much b off n cap _ _ w (by omega) hm (hb 1) (hb 2) c0 (hc 1 (by omega)) (hc 2 (by omega)) hz
end Go.Proofs.YtmlpneiadkngaaaDoor
