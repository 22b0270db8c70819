/- A rest that is not below 0; the document's Same of flat entries. -/
import Derived.Test.YtlefaicdcomkjaaLiL
namespace Go.Proofs.Ytlefaicdcomkjaa
open Go Go.RowKit
set_option linter.unusedVariables false
set_option linter.unusedSimpArgs false

def modI (k n : Int) : Int := if k.tmod n < 0 then k.tmod n + n else k.tmod n
theorem modI_in (k n : Int) (h : 1 ≤ n) : 0 ≤ modI k n ∧ modI k n < n := by
  have h1 := Int.tmod_lt_of_pos k (show 0 < n by omega)
  have h2 := Int.lt_tmod_of_pos k (show 0 < n by omega)
  unfold modI
  split <;> omega
theorem mod_any (k n : Int) (w : World) (h : 1 ≤ n) (hn : n ≤ 1000000) : Calls Try.prog 25 #[.int .i64 k, .int .i64 n] w fun e w' => e = .returned (.int .i64 (modI k n)) ∧ w' = w := by
  have h1 := Int.tmod_lt_of_pos k (show 0 < n by omega)
  have h2 := Int.lt_tmod_of_pos k (show 0 < n by omega)
  have hw : Int.bmod (k.tmod n) 18446744073709551616 = k.tmod n := Int.bmod_eq_of_le (by omega) (by omega)
  have hz : (n == 0) = false := by simp; omega
  have hz2 : n ≠ 0 := by omega
  go_enter Try.func25, Try.ntmps25
  by_cases hc : k.tmod n < 0
  · go_wp2
    go_ret
    exact ⟨by rw [show modI k n = k.tmod n + n from if_pos hc]; rfl, rfl⟩
  · go_wp2
    go_ret
    exact ⟨by rw [show modI k n = k.tmod n from if_neg (by omega)]; rfl, rfl⟩
end Go.Proofs.Ytlefaicdcomkjaa
