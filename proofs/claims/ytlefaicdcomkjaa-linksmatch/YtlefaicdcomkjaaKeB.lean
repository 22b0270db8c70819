/- Keys: what may be one, contracts of package keys and of the law's own answers. -/
import Derived.Test.YtlefaicdcomkjaaKeA
namespace Go.Proofs.Ytlefaicdcomkjaa
open Go.RowKit

/-- may it be a key, a value? -/
def right (s : ByteArray) : Bool := decide (1 ≤ s.size ∧ s.size ≤ 32) && signs s
def rightVal (s : ByteArray) : Bool := decide (s.size ≤ 64) && signs s

theorem kright_any (s : ByteArray) (w : World) (hs : s.size ≤ maxLen) :
    Calls Try.prog 67 #[.string s] w fun e w' => e = .returned (.bool (right s)) ∧ w' = w := by
  by_cases h1 : 1 ≤ s.size
  · by_cases h2 : s.size ≤ 32
    · rw [show right s = signs s by simp [right, h1, h2]]
      go_enter Try.func67, Try.ntmps67
      go_wp2_with fail
      refine (kplain_any s _ hs).mono ?_
      rintro e w1 ⟨rfl, hw⟩
      subst w1
      go_wp2
      go_ret
      exact ⟨rfl, rfl⟩
    · rw [show right s = false by simp [right, h2]]
      go_enter Try.func67, Try.ntmps67
      go_wp2
      go_ret
      exact ⟨rfl, rfl⟩
  · rw [show right s = false by simp [right, h1]]
    go_enter Try.func67, Try.ntmps67
    go_wp2
    go_ret
    exact ⟨rfl, rfl⟩

theorem ref_right_any (s : ByteArray) (w : World) (hs : s.size ≤ maxLen) :
    Calls Try.prog 57 #[.string s] w fun e w' => e = .returned (.bool (right s)) ∧ w' = w := by
  by_cases h1 : 1 ≤ s.size
  · by_cases h2 : s.size ≤ 32
    · rw [show right s = signs s by simp [right, h1, h2]]
      go_enter Try.func57, Try.ntmps57
      go_wp2_with fail
      refine (ref_signs_any s _ hs).mono ?_
      rintro e w1 ⟨rfl, hw⟩
      subst w1
      go_wp2
      go_ret
      exact ⟨rfl, rfl⟩
    · rw [show right s = false by simp [right, h2]]
      go_enter Try.func57, Try.ntmps57
      go_wp2
      go_ret
      exact ⟨rfl, rfl⟩
  · rw [show right s = false by simp [right, h1]]
    go_enter Try.func57, Try.ntmps57
    go_wp2
    go_ret
    exact ⟨rfl, rfl⟩

theorem krightVal_any (s : ByteArray) (w : World) (hs : s.size ≤ maxLen) :
    Calls Try.prog 68 #[.string s] w fun e w' => e = .returned (.bool (rightVal s)) ∧ w' = w := by
  by_cases h2 : s.size ≤ 64
  · rw [show rightVal s = signs s by simp [rightVal, h2]]
    go_enter Try.func68, Try.ntmps68
    go_wp2_with fail
    refine (kplain_any s _ hs).mono ?_
    rintro e w1 ⟨rfl, hw⟩
    subst w1
    go_wp2
    go_ret
    exact ⟨rfl, rfl⟩
  · rw [show rightVal s = false by simp [rightVal, h2]]
    go_enter Try.func68, Try.ntmps68
    go_wp2
    go_ret
    exact ⟨rfl, rfl⟩

theorem ref_rightVal_any (s : ByteArray) (w : World) (hs : s.size ≤ maxLen) :
    Calls Try.prog 58 #[.string s] w fun e w' => e = .returned (.bool (rightVal s)) ∧ w' = w := by
  by_cases h2 : s.size ≤ 64
  · rw [show rightVal s = signs s by simp [rightVal, h2]]
    go_enter Try.func58, Try.ntmps58
    go_wp2_with fail
    refine (ref_signs_any s _ hs).mono ?_
    rintro e w1 ⟨rfl, hw⟩
    subst w1
    go_wp2
    go_ret
    exact ⟨rfl, rfl⟩
  · rw [show rightVal s = false by simp [rightVal, h2]]
    go_enter Try.func58, Try.ntmps58
    go_wp2
    go_ret
    exact ⟨rfl, rfl⟩

end Go.Proofs.Ytlefaicdcomkjaa
