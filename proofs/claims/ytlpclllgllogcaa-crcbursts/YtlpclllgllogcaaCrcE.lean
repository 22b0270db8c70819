/- What the functions of package crc, and of the law's own answers for it, do: contracts, fifth part. -/
import Derived.Test.YtlpclllgllogcaaCrcD
namespace Go.Proofs.Ytlpclllgllogcaa
open Go.RowKit

theorem of_digits : Crc.of [49, 50, 51, 52, 53, 54, 55, 56, 57] = 3421780262 := by decide +kernel
theorem whole_zeros : Crc.whole ([] ++ [0, 0, 0, 0]) = true := by decide +kernel
theorem of_none : Crc.four (Crc.of []) = [0, 0, 0, 0] := by decide +kernel

theorem awake_any (w : World) :
    Calls Try.prog 37 #[] w fun e w' => e = .returned (.bool true) ∧ Below w.heap.size w w' := by
  have kc := fun (w : World) (C : Array Value) (n c : Nat) => Lib.run_convert_bytes_const (P := Try.prog) w 22 5 C n c Try.underlying22 Try.underlying5
  go_enter Try.func37, Try.ntmps37
  go_wp2_with fail
  have hr := Row.new w #[.int .u8 49, .int .u8 50, .int .u8 51, .int .u8 52, .int .u8 53, .int .u8 54, .int .u8 55, .int .u8 56, .int .u8 57] 5 (9, 10) [49, 50, 51, 52, 53, 54, 55, 56, 57] rfl (by decide) (by decide)
  refine (of_any _ _ _ _ _ hr).mono ?_
  rintro e w' ⟨rfl, hw⟩
  subst w'
  rw [of_digits]
  clear hr
  go_wp2_with fail
  refine (seal_any none 0 0 [] _ Row.empty (by simp) (by simp)).mono ?_
  rintro e w2 ⟨v, rfl, ho, hb⟩
  obtain ⟨a, n, cap, rfl, hr, hc, hm, _, _⟩ := ho.slice
  rw [of_none] at hr
  go_wp2_with fail
  refine (whole_any a n cap _ _ hr hc hm).mono ?_
  rw [whole_zeros]
  rintro e w3 ⟨rfl, k, hw⟩
  subst w3
  go_wp2
  go_ret
  exact ⟨rfl, below_drewN (((Below.refl _ _).alloc (Nat.le_refl _) _).trans (hb.mono (by simp))) _⟩
end Go.Proofs.Ytlpclllgllogcaa
