/- What the laid variable gives a walk, and a world in which it lies. -/
import Derived.Test.YteokhedljfakkaaDoorRows
import Derived.Test.YteokhedljfakkaaDoorFaB
import Derived.ChangeSame
import Derived.ChangeVars
import Derived.JoinedOf
import Derived.RowKit
import Derived.RowKitTokens
import Derived.LaidLaws
import Derived.LaidHandle
import Derived.LaidMore
import Derived.Stop.Joined
import Derived.ProofKit
namespace Go.Proofs.YteokhedljfakkaaDoor
open Go.ChangeShapes Go.WideShapes Go.RowKit

/-- the variables that are listed -/
def listed : List (String × DataW Unit) := [("errors.errorType", Rows.laid_errors_errorType)]

theorem Fa.own : ownKnob Tryd.prog.godebug = none := by kernel_rfl
theorem Fa.et : Tryd.prog.globalNamed "errors.errorType" = some 0 := by kernel_rfl
theorem Fa.rt : (Tryd.prog.cutTypes.find? (·.1 == "internal/reflectlite.rtype")).map (·.2) = some 143 := by kernel_rfl
theorem Fa.oneRow : ((List.range 185).filter fun t => Tryd.prog.rowNamed t [101, 114, 114, 111, 114]) = [73] := by kernel_rfl
theorem Fa.size : Tryd.prog.types.size = 185 := by kernel_rfl

theorem G.of_laid {W : World} (h : laidMetH Tryd.prog listed W) : G W := by
  have h' : laidMet Tryd.prog [] W ∧ handlesMet Tryd.prog listed W := h
  obtain ⟨name, u, ty, e1, e2, e3, e4, e5⟩ := h'.2 _ (List.mem_singleton.2 rfl)
  have en : name = [101, 114, 114, 111, 114] := (Option.some.inj e1).symm
  subst en
  obtain rfl := Option.some.inj (Fa.rt.symm.trans e2)
  have hm : ty ∈ (List.range 185).filter fun t => Tryd.prog.rowNamed t [101, 114, 114, 111, 114] := List.mem_filter.2 ⟨List.mem_range.2 (by rw [← Fa.size]; exact e3), e4⟩
  rw [Fa.oneRow] at hm
  obtain rfl := List.mem_singleton.1 hm
  have hh : typeHandle Tryd.prog 73 = .pointer (some ⟨1, 73, none⟩) := by kernel_rfl
  rw [hh] at e5
  simpa [G] using World.var?_cell Fa.et e5 0

theorem door_met (os : Os) (args : Array Value) : laidMetH Tryd.prog listed ((World.doorLaid Tryd.prog 400 os).forCall (fun _ _ => 0) ⟨#[], args, []⟩).memory :=
  laidMetH_of_parts (laidMet_nil _ _) (by kernel_rfl)
end Go.Proofs.YteokhedljfakkaaDoor
