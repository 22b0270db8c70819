/- From of a learner that is not there. -/
import Derived.Test.YtfibjbjheilpfaaLeH
namespace Go.Proofs.Ytfibjbjheilpfaa
open Go Go.RowKit
set_option linter.unusedVariables false
set_option linter.unusedSimpArgs false

set_option maxRecDepth 100000 in
theorem from_nil (s : Int) (w : World) (hs : (Lit.int .i64 s).wf = true) :
    Calls Try.prog 17 #[.pointer none, .int .i64 s, .int .i64 3] w fun e w' => e = .returned (.slice none 0 0) ∧ w' = w := by
  by_cases hb : s < 0
  · exact from_bad none s 3 w (.inl hb)
  · have h1 := bounds_i64 hs
    have h3 : decide (s < 0) = false := by simpa using hb
    have h0 : (0 : Int) - s = -s := by omega
    have hm : min 3 (-s) = -s := by omega
    have hd : decide (0 < -s) = false := by simp; omega
    go_enter Try.func17, Try.ntmps17
    go_wp2_with (first | (go_at_call 10; refine (prefix_nil w).mono ?_; rintro e w' ⟨rfl, rfl⟩) | fail)
    refine wp_loop_rounds 1 ?_
    rw [rounds_succ]
    go_wp2
    go_ret
    exact ⟨rfl, rfl⟩
end Go.Proofs.Ytfibjbjheilpfaa
