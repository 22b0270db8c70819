/- What the law's own answers for numbers and texts do, and a reader's text: contracts. -/
import Derived.Test.YtmlpneiadkngaaaDoorOctE
namespace Go.Proofs.YtmlpneiadkngaaaDoor
open Go.RowKit

theorem take_bad (g : Nat) (n : Int) (w : World) (h : Rd w g none) :
    Calls Tryd.prog 81 #[.pointer (some ⟨g, 0, none⟩), .int .i64 n] w fun e w' => e = .returned (.slice none 0 0) ∧ w' = w := by
  have hbad := bad_any g _ w h
  go_enter Tryd.func81, Tryd.ntmps81
  go_wp2_with fail
  refine hbad.mono ?_
  rintro e w' ⟨rfl, hw⟩
  subst w'
  go_wp2
  go_ret
  exact ⟨rfl, rfl⟩

end Go.Proofs.YtmlpneiadkngaaaDoor
