/- Keys: what may be one, contracts of package keys and of the law's own answers. -/
import Derived.Test.YtmahigfamgbhfaaKeA
namespace Go.Proofs.Ytmahigfamgbhfaa
open Go.RowKit

/-- may it be a key, a value? -/
def right (s : ByteArray) : Bool := decide (1 ≤ s.size ∧ s.size ≤ 32) && signs s
def rightVal (s : ByteArray) : Bool := decide (s.size ≤ 64) && signs s

theorem kright_any (s : ByteArray) (w : World) (hs : s.size ≤ maxLen) :
    Calls Try.prog 56 #[.string s] w fun e w' => e = .returned (.bool (right s)) ∧ w' = w := by
  by_cases h1 : 1 ≤ s.size
  · by_cases h2 : s.size ≤ 32
    · rw [show right s = signs s by simp [right, h1, h2]]
      go_enter Try.func56, Try.ntmps56
      go_wp2_with fail
      refine (kplain_any s _ hs).mono ?_
      rintro e w1 ⟨rfl, hw⟩
      subst w1
      go_wp2
      go_ret
      exact ⟨rfl, rfl⟩
    · rw [show right s = false by simp [right, h2]]
      go_enter Try.func56, Try.ntmps56
      go_wp2
      go_ret
      exact ⟨rfl, rfl⟩
  · rw [show right s = false by simp [right, h1]]
    go_enter Try.func56, Try.ntmps56
    go_wp2
    go_ret
    exact ⟨rfl, rfl⟩

theorem ref_right_any (s : ByteArray) (w : World) (hs : s.size ≤ maxLen) :
    Calls Try.prog 65 #[.string s] w fun e w' => e = .returned (.bool (right s)) ∧ w' = w := by
  by_cases h1 : 1 ≤ s.size
  · by_cases h2 : s.size ≤ 32
    · rw [show right s = signs s by simp [right, h1, h2]]
      go_enter Try.func65, Try.ntmps65
      go_wp2_with fail
      refine (ref_signs_any s _ hs).mono ?_
      rintro e w1 ⟨rfl, hw⟩
      subst w1
      go_wp2
      go_ret
      exact ⟨rfl, rfl⟩
    · rw [show right s = false by simp [right, h2]]
      go_enter Try.func65, Try.ntmps65
      go_wp2
      go_ret
      exact ⟨rfl, rfl⟩
  · rw [show right s = false by simp [right, h1]]
    go_enter Try.func65, Try.ntmps65
    go_wp2
    go_ret
    exact ⟨rfl, rfl⟩

theorem krightVal_any (s : ByteArray) (w : World) (hs : s.size ≤ maxLen) :
    Calls Try.prog 61 #[.string s] w fun e w' => e = .returned (.bool (rightVal s)) ∧ w' = w := by
  by_cases h2 : s.size ≤ 64
  · rw [show rightVal s = signs s by simp [rightVal, h2]]
    go_enter Try.func61, Try.ntmps61
    go_wp2_with fail
    refine (kplain_any s _ hs).mono ?_
    rintro e w1 ⟨rfl, hw⟩
    subst w1
    go_wp2
    go_ret
    exact ⟨rfl, rfl⟩
  · rw [show rightVal s = false by simp [rightVal, h2]]
    go_enter Try.func61, Try.ntmps61
    go_wp2
    go_ret
    exact ⟨rfl, rfl⟩

theorem ref_rightVal_any (s : ByteArray) (w : World) (hs : s.size ≤ maxLen) :
    Calls Try.prog 46 #[.string s] w fun e w' => e = .returned (.bool (rightVal s)) ∧ w' = w := by
  by_cases h2 : s.size ≤ 64
  · rw [show rightVal s = signs s by simp [rightVal, h2]]
    go_enter Try.func46, Try.ntmps46
    go_wp2_with fail
    refine (ref_signs_any s _ hs).mono ?_
    rintro e w1 ⟨rfl, hw⟩
    subst w1
    go_wp2
    go_ret
    exact ⟨rfl, rfl⟩
  · rw [show rightVal s = false by simp [rightVal, h2]]
    go_enter Try.func46, Try.ntmps46
    go_wp2
    go_ret
    exact ⟨rfl, rfl⟩

end Go.Proofs.Ytmahigfamgbhfaa
