/- A change of both: all four. -/
import Derived.Test.YtgpjplpfjghcgaaCoT0
import Derived.Test.YtgpjplpfjghcgaaCoT1
import Derived.Test.YtgpjplpfjghcgaaCoT2
import Derived.Test.YtgpjplpfjghcgaaCoT3
namespace Go.Proofs.Ytgpjplpfjghcgaa
open Go Go.RowKit
set_option linter.unusedVariables false
set_option linter.unusedSimpArgs false

theorem turn_any (v u : Value) (c : Cf) (kd x : Int) (e0 : Nat) (w : World) (hv : Cfr w v c) (hu : Rfr w u c) (hle : c.l.length ≤ 900) :
    Calls Try.prog 19 #[v, u, .int .i64 kd, .int .i64 x, .int .u64 (e0 : Nat)] w fun e w' => (∃ v' u', e = .returned (.tuple #[v', .int .i64 (turnC c kd x e0).2, u', .int .i64 (turnC c kd x e0).2]) ∧ Cfo w' 0 v' (turnC c kd x e0).1 ∧ Rfr w' u' (turnC c kd x e0).1) ∧ Below w.heap.size w w' := by
  unfold turnC
  by_cases h0 : kd = 0
  · rw [if_pos h0]; exact turn0 v u c kd x e0 w hv hu hle h0
  rw [if_neg h0]
  by_cases h1 : kd = 1
  · rw [if_pos h1]; exact turn1 v u c kd x e0 w hv hu hle h1
  rw [if_neg h1]
  by_cases h2 : kd = 2
  · rw [if_pos h2]; exact turn2 v u c kd x e0 w hv hu hle h2
  rw [if_neg h2]
  exact turn3 v u c kd x e0 w hv hu hle h0 h1 h2
end Go.Proofs.Ytgpjplpfjghcgaa
