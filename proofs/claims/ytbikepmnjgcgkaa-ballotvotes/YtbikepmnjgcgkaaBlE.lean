/- Votes with a master more. -/
import Derived.Test.YtbikepmnjgcgkaaBlB
namespace Go.Proofs.Ytbikepmnjgcgkaa
open Go.RowKit

theorem wit_lt (v : Nat) (n : Int) (hv : v < 256) : wit v n < 256 := by
  unfold wit
  split
  · rename_i h
    exact Nat.or_lt_two_pow (n := 8) hv (by have := Nat.pow_lt_pow_right (a := 2) (by omega) (show n.toNat < 8 by omega); omega)
  · exact hv

theorem wit_bit (v : Nat) (n : Int) (k : Nat) (hk : k < 5) : (wit v n).testBit k = (v.testBit k || decide ((k : Int) = n)) := by
  unfold wit
  split
  · rename_i h
    rw [Nat.testBit_or, Nat.testBit_two_pow]
    congr 1
    apply decide_eq_decide.2
    omega
  · rename_i h
    rw [decide_eq_false (by omega), Bool.or_false]
end Go.Proofs.Ytbikepmnjgcgkaa
