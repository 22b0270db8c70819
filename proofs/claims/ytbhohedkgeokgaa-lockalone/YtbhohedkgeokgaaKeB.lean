/- Keys: what may be one, contracts of package keys and of the law's own answers. -/
import Derived.Test.YtbhohedkgeokgaaKeA
namespace Go.Proofs.Ytbhohedkgeokgaa
open Go.RowKit

/-- may it be a key, a value? -/
def right (s : ByteArray) : Bool := decide (1 ≤ s.size ∧ s.size ≤ 32) && signs s
def rightVal (s : ByteArray) : Bool := decide (s.size ≤ 64) && signs s

theorem kright_any (s : ByteArray) (w : World) (hs : s.size ≤ maxLen) :
    Calls Try.prog 39 #[.string s] w fun e w' => e = .returned (.bool (right s)) ∧ w' = w := by
  by_cases h1 : 1 ≤ s.size
  · by_cases h2 : s.size ≤ 32
    · rw [show right s = signs s by simp [right, h1, h2]]
      go_enter Try.func39, Try.ntmps39
      go_wp2_with fail
      refine (kplain_any s _ hs).mono ?_
      rintro e w1 ⟨rfl, hw⟩
      subst w1
      go_wp2
      go_ret
      exact ⟨rfl, rfl⟩
    · rw [show right s = false by simp [right, h2]]
      go_enter Try.func39, Try.ntmps39
      go_wp2
      go_ret
      exact ⟨rfl, rfl⟩
  · rw [show right s = false by simp [right, h1]]
    go_enter Try.func39, Try.ntmps39
    go_wp2
    go_ret
    exact ⟨rfl, rfl⟩

theorem ref_right_any (s : ByteArray) (w : World) (hs : s.size ≤ maxLen) :
    Calls Try.prog 33 #[.string s] w fun e w' => e = .returned (.bool (right s)) ∧ w' = w := by
  by_cases h1 : 1 ≤ s.size
  · by_cases h2 : s.size ≤ 32
    · rw [show right s = signs s by simp [right, h1, h2]]
      go_enter Try.func33, Try.ntmps33
      go_wp2_with fail
      refine (ref_signs_any s _ hs).mono ?_
      rintro e w1 ⟨rfl, hw⟩
      subst w1
      go_wp2
      go_ret
      exact ⟨rfl, rfl⟩
    · rw [show right s = false by simp [right, h2]]
      go_enter Try.func33, Try.ntmps33
      go_wp2
      go_ret
      exact ⟨rfl, rfl⟩
  · rw [show right s = false by simp [right, h1]]
    go_enter Try.func33, Try.ntmps33
    go_wp2
    go_ret
    exact ⟨rfl, rfl⟩

end Go.Proofs.Ytbhohedkgeokgaa
