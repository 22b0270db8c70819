/- What the functions of package crc, and of the law's own answers for it, do: contracts, third part. -/
import Derived.Test.YtmlpneiadkngaaaDoorCrcB
namespace Go.Proofs.YtmlpneiadkngaaaDoor
open Go.RowKit

theorem whole_short (a : Option Addr) (n cap : Nat) (w : World) (h : n < 4) :
    Calls Tryd.prog 78 #[.slice a n cap] w fun e w' => e = .returned (.bool false) ∧ w' = w := by
  go_enter Tryd.func78, Tryd.ntmps78
  go_wp2
  go_ret
  exact ⟨rfl, rfl⟩

theorem whole_long (b off n cap : Nat) (bs : List Nat) (w : World) (hr : Row w (some ⟨b, off, none⟩) (n + 4) bs) (hc : n + 4 ≤ cap) (hm : cap ≤ maxLen) :
    Calls Tryd.prog 78 #[.slice (some ⟨b, off, none⟩) (n + 4 : Nat) cap] w fun e w' => e = .returned (.bool (Crc.wholeB n bs)) ∧ ∃ k, w' = w.drewN k := by
  unfold maxLen at hm
  have h1 := hr.take n (by omega)
  have h2 := hr.drop n (by omega)
  rw [Nat.add_sub_cancel_left] at h2
  clear hr
  go_enter Tryd.func78, Tryd.ntmps78
  go_wp2
  go_quiet (fail)
  go_wp2_with (first | (go_at_call 65; refine (of_any _ _ _ _ _ (Row.drews h1)).mono ?_; rintro e w' ⟨rfl, rfl⟩) | (go_at_call 84; refine (low_any _ _ _ _ (Row.drews h2)).mono ?_; rintro e w' ⟨rfl, rfl⟩))
  go_ret
  exact ⟨rfl, _, rfl⟩

theorem whole_any (a : Option Addr) (n cap : Nat) (bs : List Nat) (w : World) (hr : Row w a n bs) (hc : n ≤ cap) (hm : cap ≤ maxLen) :
    Calls Tryd.prog 78 #[.slice a n cap] w fun e w' => e = .returned (.bool (Crc.whole bs)) ∧ ∃ k, w' = w.drewN k := by
  have hlen := hr.1
  by_cases h : n < 4
  · refine (whole_short a n cap w h).mono ?_
    rintro e w' ⟨rfl, hw⟩
    refine ⟨ret_bool ?_, 0, hw⟩
    have : ¬ 4 ≤ bs.length := by omega
    simp [Crc.whole, this]
  · rcases hr.2.2.2 with h0 | ⟨b, off, rfl, _⟩
    · subst h0; simp at hlen; omega
    · obtain ⟨m, rfl⟩ : ∃ m, n = m + 4 := ⟨n - 4, by omega⟩
      refine (whole_long b off m cap bs w hr hc hm).mono ?_
      rintro e w' ⟨rfl, k, hw⟩
      refine ⟨ret_bool ?_, k, hw⟩
      have e : bs.length - 4 = m := by omega
      have : 4 ≤ bs.length := by omega
      simp [Crc.whole, e, this]
end Go.Proofs.YtmlpneiadkngaaaDoor
