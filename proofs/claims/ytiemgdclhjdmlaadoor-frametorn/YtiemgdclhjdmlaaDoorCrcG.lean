/- What the law's own answer for four bytes does: a contract. -/
import Derived.Test.YtiemgdclhjdmlaaDoorCrcF
namespace Go.Proofs.YtiemgdclhjdmlaaDoor
open Go.RowKit

theorem four_any (n : Nat) (w : World) (hn : n < 4294967296) :
    Calls Tryd.prog 40 #[.int .u32 n] w fun e w' => e = .returned (.slice (some ⟨w.heap.size, 0, none⟩) 4 4) ∧ Row w' (some ⟨w.heap.size, 0, none⟩) 4 (Crc.four n) ∧ Below w.heap.size w w' := by
  go_enter Tryd.func40, Tryd.ntmps40
  go_wp2
  go_ret
  refine ⟨rfl, Row.new w _ 5 _ (Crc.four n) ?_ ?_ (by simp [Crc.four, maxLen]), (Below.refl _ _).alloc (Nat.le_refl _) _⟩
  · simp [cellsOf, Crc.four]
    omega
  · intro x hx
    simp [Crc.four] at hx
    omega
end Go.Proofs.YtiemgdclhjdmlaaDoor
